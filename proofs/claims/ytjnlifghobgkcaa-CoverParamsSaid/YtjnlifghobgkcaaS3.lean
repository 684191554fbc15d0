/-
  names of the reference at this translation.
-/
import Derived.Test.YtjnlifghobgkcaaS2
namespace Go.Proofs.Ytjnlifghobgkcaa
open Go.RowKit

theorem not_any (l : List Tr) (P : Tr → Bool) : (!l.any P) = l.all (fun x => !P x) := by
  induction l with
  | nil => rfl
  | cons x r ih => simp only [List.any_cons, List.all_cons, Bool.not_or, ih]
theorem has_open (f : Nat) (t : Tr) : hasG (f + 1) t = (memB t || (t.op != 5 && (tgtL t).any (hasG f))) := rfl
theorem rnames1_any : ∀ (N : Nat), N ≤ 100000 → ∀ (t : Tr) (ao : Option Addr) (cap : Nat) (w : World), t.cnt ≤ N → TIn w All t (.slice ao t.ks.length cap) → Calls Try.prog 29 #[.agg #[.int .i64 t.op, .int .i64 t.a, .int .i64 t.n, .int .i64 t.m, .string t.s, .slice ao t.ks.length cap]] w (BPost w (!hasG N t)) := by
  intro N
  induction N with
  | zero => intro _ t ao cap w h; have := cnt_pos t; omega
  | succ N ih =>
    intro hN t ao cap w hc ht
    have hks := ks_le hc hN
    have HI : Hid (∀ (i : Nat) (x : Tr), t.ks[i]? = some x → ∀ (ao : Option Addr) (cap : Nat) (W : World), TIn W All x (.slice ao x.ks.length cap) → Calls Try.prog 29 #[.agg #[.int .i64 x.op, .int .i64 x.a, .int .i64 x.n, .int .i64 x.m, .string x.s, .slice ao x.ks.length cap]] W (BPost W ((fun y => !hasG N y) x))) := Lib.hid (fun i x hx ao cap W h => ih (by omega) x ao cap W (by have := cnt_kid hx; omega) h)
    rw [has_open]
    by_cases h51 : t.op = 51
    · have hm : memB t = true := by unfold memB; simp [h51]
      rw [hm]
      exact nm_a t ao cap w hks ht (by simpa using h51)
    · have g51 : (t.op == 51) = false := by simpa using h51
      by_cases h52 : t.op = 52
      · have hm : memB t = true := by unfold memB; simp [h52]
        rw [hm]
        exact nm_b t ao cap w hks ht g51 (by simpa using h52)
      · have g52 : (t.op == 52) = false := by simpa using h52
        have hm : memB t = false := by unfold memB; rw [g51, g52]; rfl
        rw [hm, Bool.false_or]
        unfold tgtL
        by_cases h62 : t.op = 62
        · have g62 : (t.op == 62) = true := by simpa using h62
          rw [if_neg (by omega), if_neg (by omega)]
          have h5 : (t.op != 5) = true := by simp [h62]
          rw [h5, Bool.true_and]
          by_cases hl : 1 < t.ks.length
          · rw [if_pos ⟨h62, hl⟩]
            have hx := List.getElem?_eq_getElem hl
            have e : (t.ks.drop 1).take 1 = [t.ks[1]'hl] := by rw [drop_cons hx]; rfl
            rw [e]
            simp only [List.any_cons, List.any_nil, Bool.or_false]
            exact nm_g (fun y => !hasG N y) t ao cap w hks ht g51 g52 g62 _ hx HI
          · rw [if_neg (fun h => hl h.2)]
            exact nm_c t ao cap w hks ht g51 g52 g62 (by omega)
        · have g62 : (t.op == 62) = false := by simpa using h62
          by_cases h6 : t.op = 63 ∨ t.op = 64
          · rw [if_neg (by omega), if_pos h6]
            have h5 : (t.op != 5) = true := by simp only [bne_iff_ne]; omega
            rw [h5, Bool.true_and]
            cases hk : t.ks with
            | nil =>
              have hl0 : t.ks.length = 0 := by rw [hk]; rfl
              rw [← hk, show t.ks.take 1 = [] by rw [hk]; rfl]
              by_cases a : t.op = 63
              · exact nm_d t ao cap w hks ht g51 g52 g62 (by simpa using a) hl0
              · exact nm_e t ao cap w hks ht g51 g52 g62 (by simpa using a) (by simp only [beq_iff_eq]; omega) hl0
            | cons x r =>
              have hx : t.ks[0]? = some x := by rw [hk]; rfl
              rw [← hk, show t.ks.take 1 = [x] by rw [hk]; rfl]
              simp only [List.any_cons, List.any_nil, Bool.or_false]
              by_cases a : t.op = 63
              · exact nm_h (fun y => !hasG N y) t ao cap w hks ht g51 g52 g62 (by simpa using a) x hx HI
              · exact nm_i (fun y => !hasG N y) t ao cap w hks ht g51 g52 g62 (by simpa using a) (by simp only [beq_iff_eq]; omega) x hx HI
          · have g63 : (t.op == 63) = false := by simp only [beq_eq_false_iff_ne]; omega
            have g64 : (t.op == 64) = false := by simp only [beq_eq_false_iff_ne]; omega
            by_cases h60 : t.op = 60
            · rw [if_pos (by omega), show (t.op != 5) = true by simp [h60], Bool.true_and, not_any]
              exact nm_j (fun y => !hasG N y) t ao cap w hks ht g51 g52 g62 g63 g64 (by simpa using h60) HI
            · have g60 : (t.op == 60) = false := by simpa using h60
              by_cases h61 : t.op = 61
              · rw [if_pos (by omega), show (t.op != 5) = true by simp [h61], Bool.true_and, not_any]
                exact nm_k (fun y => !hasG N y) t ao cap w hks ht g51 g52 g62 g63 g64 g60 (by simpa using h61) HI
              · have g61 : (t.op == 61) = false := by simpa using h61
                have hz := nm_f t ao cap w hks ht g51 g52 g62 g63 g64 g60 g61
                by_cases h5 : t.op = 5
                · rw [show (t.op != 5) = false by simp [h5], Bool.false_and]
                  exact hz
                · rw [if_neg (by omega), if_neg h6, if_neg (by omega)]
                  simp only [List.any_nil, Bool.and_false]
                  exact hz
theorem rhas_any (t : Tr) (ao : Option Addr) (cap : Nat) (w : World) (hc : t.cnt ≤ 100000) (ht : TIn w All t (.slice ao t.ks.length cap)) : Calls Try.prog 29 #[.agg #[.int .i64 t.op, .int .i64 t.a, .int .i64 t.n, .int .i64 t.m, .string t.s, .slice ao t.ks.length cap]] w (BPost w (!hasOf t)) := rnames1_any t.cnt hc t ao cap w (Nat.le_refl _) ht
end Go.Proofs.Ytjnlifghobgkcaa
