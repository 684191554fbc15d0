/-
  ContainsFunc over nodes at this translation.
-/
import Derived.Test.YtjnlifghobgkcaaD3
namespace Go.Proofs.Ytjnlifghobgkcaa
open Go.RowKit

/-- a member of an object stands in the place of a target -/
def hasG : Nat → Tr → Bool
  | 0, _ => false
  | f + 1, t => memB t || (t.op != 5 && (tgtL t).any (hasG f))
def IPost (w : World) (c : Bool) : Ending → World → Prop := fun e w' => ∃ z : Int, e = .returned (.int .i64 z) ∧ decide (0 ≤ z) = c ∧ Below w.heap.size w w'
theorem ent42 : EntersF 42 := enters_of Try.func42 (by kernel_rfl) rfl
structure RelI (w : World) (tl : List Tr) (P : Tr → Bool) (i : Value) (wr : World) : Prop where
  ex : ∃ k : Nat, i = .int .i64 k ∧ k ≤ tl.length ∧ (tl.take k).any P = false
  bel : Below w.heap.size w wr
set_option linter.unusedVariables false in
set_option maxRecDepth 100000 in
set_option maxHeartbeats 1000000 in
theorem index_any (tl : List Tr) (so : Option Addr) (sc : Nat) (w : World) (P : Tr → Bool) (hlen : tl.length ≤ 100000) (ht : TIn w All (.mk 0 0 0 0 noS tl) (.slice so tl.length sc))
    (HI : Hid (∀ (x : Tr) (i : Nat), tl[i]? = some x → ∀ (ao : Option Addr) (cap : Nat) (W : World), TIn W All x (.slice ao x.ks.length cap) → Calls Try.prog 42 #[.agg #[.int .i64 x.op, .int .i64 x.a, .int .i64 x.n, .int .i64 x.m, .string x.s, .slice ao x.ks.length cap]] W (BPost W (P x)))) :
    Calls Try.prog 45 #[.slice so tl.length sc, .func (.func 42) #[] #[]] w (IPost w (tl.any P)) := by
  have hent := ent42
  unfold EntersF at hent
  have HT := Lib.hid ht
  obtain ⟨n, hn⟩ : ∃ n, n = tl.length := ⟨_, rfl⟩
  have HN := Lib.hid hn
  rw [← hn] at hlen HT ⊢
  have HV : Hid (RelI w tl P (.int .i64 0) w) := Lib.hid ⟨⟨0, rfl, Nat.zero_le _, by simp⟩, Below.refl _ _⟩
  clear ht hn
  go_enter Try.func45, Try.ntmps45
  go_wp2
  go_loopw [8] (fun i wr => RelI w tl P i wr) (fun i _ => n - (intOf i).toNat)
  case atStart => exact HV.out
  case round =>
    clear HV
    obtain ⟨⟨k, rfl, hk, hany⟩, hB⟩ := hrel
    rw [← HN.out] at hk
    by_cases hkn : k < n
    · have g1 : decide ((k : Int) < (n : Int)) = true := decide_eq_true (by omega)
      have k1 : (k : Int) < (n : Int) := by omega
      obtain ⟨y, hy⟩ : ∃ y, tl[k]? = some y := ⟨_, List.getElem?_eq_getElem (by rw [← HN.out]; exact hkn)⟩
      obtain ⟨bb, oo, xo, xl, xc, rfl, hbb, -, hcc, hyt⟩ := kidS HT.out (show (Tr.mk 0 0 0 0 noS tl).ks[k]? = some y from hy)
      obtain rfl := tin_len hyt
      have hbr : bb < wr.heap.size := Nat.lt_of_lt_of_le hbb hB.size
      obtain ⟨c0, c1, c2, c3, c4, c5⟩ := ncells_kept (hB.block bb hbb) hcc
      have HX := Lib.hid (HI.out y k hy xo xc wr (tin_kept hyt hB))
      have HR := Lib.hid (And.intro hany (And.intro hy hB))
      obtain ⟨c, hc⟩ : ∃ c, c = P y := ⟨_, rfl⟩
      rw [← hc] at HX
      have HC := Lib.hid hc
      clear hany hy hB hcc hyt hc
      go_wp2_with fail
      refine HX.out.mono ?_
      rintro e w4 ⟨rfl, hB4⟩
      have HB4 := Lib.hid (c_thr HR.out.2.2 hB4 HR.out.2.2.size)
      clear hB4 c0 c1 c2 c3 c4 c5
      cases c with
      | true =>
        go_wp2
        go_ret
        refine ⟨_, rfl, ?_, HB4.out⟩
        have h1 : tl.any P = true := List.any_eq_true.2 ⟨y, List.mem_of_getElem? HR.out.2.1, HC.out.symm⟩
        rw [h1]
        exact decide_eq_true (by omega)
      | false =>
        have HST : Hid (RelI w tl P (.int .i64 ((k : Int) + 1)) w4) := Lib.hid ⟨⟨k + 1, by simp, by rw [← HN.out]; exact hkn, by rw [List.take_add_one, HR.out.2.1, List.any_append, HR.out.1]; simp [← HC.out]⟩, HB4.out⟩
        go_wp2
        first
          | (go_roundw
             case rel => exact HST.out
             case measure => simp [intOf]; omega)
          | exact ⟨HST.out, by simp [intOf]; omega⟩
    · have g1 : decide ((k : Int) < (n : Int)) = false := decide_eq_false (by omega)
      have HR := Lib.hid (And.intro hany hB)
      have HK := Lib.hid hk
      clear hany hB hk
      go_wp2
      go_ret
      refine ⟨_, rfl, ?_, HR.out.2⟩
      have h1 := HR.out.1
      have hk := HK.out
      rw [List.take_of_length_le (by rw [← HN.out]; omega)] at h1
      rw [h1]
      decide
set_option linter.unusedVariables false in
set_option maxRecDepth 100000 in
set_option maxHeartbeats 1000000 in
theorem contains_any (tl : List Tr) (so : Option Addr) (sc : Nat) (w : World) (P : Tr → Bool) (hlen : tl.length ≤ 100000) (ht : TIn w All (.mk 0 0 0 0 noS tl) (.slice so tl.length sc))
    (HI : Hid (∀ (x : Tr) (i : Nat), tl[i]? = some x → ∀ (ao : Option Addr) (cap : Nat) (W : World), TIn W All x (.slice ao x.ks.length cap) → Calls Try.prog 42 #[.agg #[.int .i64 x.op, .int .i64 x.a, .int .i64 x.n, .int .i64 x.m, .string x.s, .slice ao x.ks.length cap]] W (BPost W (P x)))) :
    Calls Try.prog 31 #[.slice so tl.length sc, .func (.func 42) #[] #[]] w (BPost w (tl.any P)) := by
  have HX := Lib.hid (index_any tl so sc w P hlen ht HI)
  obtain ⟨c, hc⟩ : ∃ c, c = tl.any P := ⟨_, rfl⟩
  rw [← hc] at HX ⊢
  clear ht HI hc
  go_enter Try.func31, Try.ntmps31
  go_wp2_with fail
  refine HX.out.mono ?_
  rintro e w4 ⟨z, rfl, hz, hB4⟩
  have HB4 := Lib.hid hB4
  clear hB4
  go_wp2
  go_ret
  exact ⟨rfl, HB4.out⟩
end Go.Proofs.Ytjnlifghobgkcaa
