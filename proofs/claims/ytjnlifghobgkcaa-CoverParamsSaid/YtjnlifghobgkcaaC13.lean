/-
  targets of package cover at this translation.
-/
import Derived.Test.YtjnlifghobgkcaaC12
import Derived.Deep.QuietTactic
import Derived.BigQuiet
namespace Go.Proofs.Ytjnlifghobgkcaa
open Go.RowKit

/-- what stands in the place of a target -/
def tgtL (t : Tr) : List Tr := if t.op = 5 ∨ t.op = 60 ∨ t.op = 61 then t.ks else if t.op = 63 ∨ t.op = 64 then t.ks.take 1 else if t.op = 62 ∧ 1 < t.ks.length then (t.ks.drop 1).take 1 else []
def TgtPost (w : World) (S : Nat → Prop) (l : List Tr) : Ending → World → Prop := fun e w' => ∃ ao n cap, e = .returned (.slice ao n cap) ∧ n = l.length ∧ TIn w' S (.mk 0 0 0 0 noS l) (.slice ao n cap) ∧ Below w.heap.size w w'
theorem tin_ks {w : World} {S : Nat → Prop} {t u : Tr} {k : Value} (h : TIn w S t k) (e : t.ks = u.ks) : TIn w S u k := by
  obtain ⟨op, a, n, m, s, ks⟩ := t
  obtain ⟨op', a', n', m', s', ks'⟩ := u
  have e2 : ks = ks' := e
  subst e2
  unfold TIn at h ⊢
  exact h
theorem tin_none {w : World} {S : Nat → Prop} {ao : Option Addr} {cap : Nat} (h : cap ≤ maxLen) : TIn w S (.mk 0 0 0 0 noS []) (.slice ao 0 cap) := tin_close (t := .mk 0 0 0 0 noS []) (by simp [Tr.ks]) h (.inl rfl)
theorem tin_first {w : World} {S : Nat → Prop} {t x : Tr} {ao : Option Addr} {len cap : Nat} (h : TIn w S t (.slice ao len cap)) (hx : t.ks[0]? = some x) : 1 ≤ cap ∧ TIn w S (.mk 0 0 0 0 noS [x]) (.slice ao 1 cap) := by
  obtain ⟨ao', cap', e, h1, h2, h3⟩ := tin_open h
  obtain ⟨rfl, rfl, rfl⟩ : ao = ao' ∧ len = t.ks.length ∧ cap = cap' := by simpa using e
  obtain ⟨b, o, kx, rfl, hb, hs, hc, ht⟩ := h3 0 x hx
  have hl := (List.getElem?_eq_some_iff.1 hx).1
  refine ⟨by omega, tin_close (t := .mk 0 0 0 0 noS [x]) (by simp [Tr.ks]; omega) h2 (.inr ⟨b, o, rfl, hb, hs, fun i z hi => ?_⟩)⟩
  match i, hi with
  | 0, hi =>
    obtain rfl : x = z := by simpa [Tr.ks] using hi
    exact ⟨kx, hc, ht⟩
  | i + 1, hi => simp [Tr.ks] at hi
theorem tin_second {w : World} {S : Nat → Prop} {t x : Tr} {ao : Option Addr} {len cap : Nat} (h : TIn w S t (.slice ao len cap)) (hx : t.ks[1]? = some x) : ∃ b o, ao = some ⟨b, o, none⟩ ∧ 2 ≤ cap ∧ cap ≤ maxLen ∧ b < w.heap.size ∧ TIn w S (.mk 0 0 0 0 noS [x]) (.slice (some ⟨b, o + 6, none⟩) 1 (cap - 1)) := by
  obtain ⟨ao', cap', e, h1, h2, h3⟩ := tin_open h
  obtain ⟨rfl, rfl, rfl⟩ : ao = ao' ∧ len = t.ks.length ∧ cap = cap' := by simpa using e
  obtain ⟨b, o, kx, rfl, hb, hs, hc, ht⟩ := h3 1 x hx
  have hl := (List.getElem?_eq_some_iff.1 hx).1
  refine ⟨b, o, rfl, by omega, h2, hb, tin_close (t := .mk 0 0 0 0 noS [x]) (by simp [Tr.ks]; omega) (by omega) (.inr ⟨b, o + 6, rfl, hb, hs, fun i z hi => ?_⟩)⟩
  match i, hi with
  | 0, hi =>
    obtain rfl : x = z := by simpa [Tr.ks] using hi
    exact ⟨kx, by simpa using hc, ht⟩
  | i + 1, hi => simp [Tr.ks] at hi
set_option linter.unusedVariables false in
set_option maxRecDepth 100000 in
set_option maxHeartbeats 1000000 in
theorem tgt_a (S : Nat → Prop) (t : Tr) (ao : Option Addr) (cap : Nat) (w : World) (hks : t.ks.length ≤ 100000) (ht : TIn w S t (.slice ao t.ks.length cap)) (g5 : (t.op == 5) = true) : Calls Try.prog 33 #[.agg #[.int .i64 t.op, .int .i64 t.a, .int .i64 t.n, .int .i64 t.m, .string t.s, .slice ao t.ks.length cap]] w (TgtPost w S t.ks) := by
  have HT := Lib.hid ht
  clear ht
  go_enter Try.func33, Try.ntmps33
  go_wp2
  go_ret
  exact ⟨_, _, _, rfl, rfl, tin_ks (tin_kept HT.out (c_box w _)) rfl, c_box w _⟩
set_option linter.unusedVariables false in
set_option maxRecDepth 100000 in
set_option maxHeartbeats 1000000 in
theorem tgt_b (S : Nat → Prop) (t : Tr) (ao : Option Addr) (cap : Nat) (w : World) (hks : t.ks.length ≤ 100000) (ht : TIn w S t (.slice ao t.ks.length cap)) (g5 : (t.op == 5) = false) (g60 : (t.op == 60) = true) : Calls Try.prog 33 #[.agg #[.int .i64 t.op, .int .i64 t.a, .int .i64 t.n, .int .i64 t.m, .string t.s, .slice ao t.ks.length cap]] w (TgtPost w S t.ks) := by
  have HT := Lib.hid ht
  clear ht
  go_enter Try.func33, Try.ntmps33
  go_wp2
  go_ret
  exact ⟨_, _, _, rfl, rfl, tin_ks (tin_kept HT.out (c_box w _)) rfl, c_box w _⟩
set_option linter.unusedVariables false in
set_option maxRecDepth 100000 in
set_option maxHeartbeats 1000000 in
theorem tgt_c (S : Nat → Prop) (t : Tr) (ao : Option Addr) (cap : Nat) (w : World) (hks : t.ks.length ≤ 100000) (ht : TIn w S t (.slice ao t.ks.length cap)) (g5 : (t.op == 5) = false) (g60 : (t.op == 60) = false) (g61 : (t.op == 61) = true) : Calls Try.prog 33 #[.agg #[.int .i64 t.op, .int .i64 t.a, .int .i64 t.n, .int .i64 t.m, .string t.s, .slice ao t.ks.length cap]] w (TgtPost w S t.ks) := by
  have HT := Lib.hid ht
  clear ht
  go_enter Try.func33, Try.ntmps33
  go_wp2
  go_ret
  exact ⟨_, _, _, rfl, rfl, tin_ks (tin_kept HT.out (c_box w _)) rfl, c_box w _⟩
set_option linter.unusedVariables false in
set_option maxRecDepth 100000 in
set_option maxHeartbeats 1000000 in
theorem tgt_d (S : Nat → Prop) (t : Tr) (ao : Option Addr) (cap : Nat) (w : World) (hks : t.ks.length ≤ 100000) (ht : TIn w S t (.slice ao t.ks.length cap)) (g5 : (t.op == 5) = false) (g60 : (t.op == 60) = false) (g61 : (t.op == 61) = false) (g63 : (t.op == 63) = true) : Calls Try.prog 33 #[.agg #[.int .i64 t.op, .int .i64 t.a, .int .i64 t.n, .int .i64 t.m, .string t.s, .slice ao t.ks.length cap]] w (TgtPost w S (t.ks.take 1)) := by
  have hcm : cap ≤ maxLen := by
    obtain ⟨ao', cap', e, _, h2, _⟩ := tin_open ht
    obtain ⟨-, -, rfl⟩ : ao = ao' ∧ True ∧ cap = cap' := by simpa using e
    exact h2
  unfold maxLen at hcm
  cases hk : t.ks with
  | nil =>
    have HM := Lib.hid (show cap ≤ maxLen by unfold maxLen; omega)
    have hl0 : t.ks.length = 0 := by rw [hk]; rfl
    rw [← hk]
    rw [show t.ks.take 1 = [] by rw [hk]; rfl]
    rw [hl0]
    clear ht hk hl0 hks
    go_enter Try.func33, Try.ntmps33
    go_wp2
    go_ret
    exact ⟨_, _, _, rfl, rfl, tin_none HM.out, c_box w _⟩
  | cons x r =>
    obtain ⟨h1, htx⟩ := tin_first (x := x) ht (by rw [hk]; rfl)
    have HT := Lib.hid htx
    have hmin : min (1 : Int) (t.ks.length : Int) = 1 := by rw [hk]; simp only [List.length_cons]; omega
    have hl1 : 1 ≤ t.ks.length := by rw [hk]; simp
    rw [← hk]
    rw [show t.ks.take 1 = [x] by rw [hk]; rfl]
    clear ht htx hk
    go_enter Try.func33, Try.ntmps33
    go_wp2
    go_ret
    exact ⟨_, _, _, rfl, rfl, tin_kept HT.out (c_box w _), c_box w _⟩
set_option linter.unusedVariables false in
set_option maxRecDepth 100000 in
set_option maxHeartbeats 1000000 in
theorem tgt_e (S : Nat → Prop) (t : Tr) (ao : Option Addr) (cap : Nat) (w : World) (hks : t.ks.length ≤ 100000) (ht : TIn w S t (.slice ao t.ks.length cap)) (g5 : (t.op == 5) = false) (g60 : (t.op == 60) = false) (g61 : (t.op == 61) = false) (g63 : (t.op == 63) = false) (g64 : (t.op == 64) = true) : Calls Try.prog 33 #[.agg #[.int .i64 t.op, .int .i64 t.a, .int .i64 t.n, .int .i64 t.m, .string t.s, .slice ao t.ks.length cap]] w (TgtPost w S (t.ks.take 1)) := by
  have hcm : cap ≤ maxLen := by
    obtain ⟨ao', cap', e, _, h2, _⟩ := tin_open ht
    obtain ⟨-, -, rfl⟩ : ao = ao' ∧ True ∧ cap = cap' := by simpa using e
    exact h2
  unfold maxLen at hcm
  cases hk : t.ks with
  | nil =>
    have HM := Lib.hid (show cap ≤ maxLen by unfold maxLen; omega)
    have hl0 : t.ks.length = 0 := by rw [hk]; rfl
    rw [← hk]
    rw [show t.ks.take 1 = [] by rw [hk]; rfl]
    rw [hl0]
    clear ht hk hl0 hks
    go_enter Try.func33, Try.ntmps33
    go_wp2
    go_ret
    exact ⟨_, _, _, rfl, rfl, tin_none HM.out, c_box w _⟩
  | cons x r =>
    obtain ⟨h1, htx⟩ := tin_first (x := x) ht (by rw [hk]; rfl)
    have HT := Lib.hid htx
    have hmin : min (1 : Int) (t.ks.length : Int) = 1 := by rw [hk]; simp only [List.length_cons]; omega
    have hl1 : 1 ≤ t.ks.length := by rw [hk]; simp
    rw [← hk]
    rw [show t.ks.take 1 = [x] by rw [hk]; rfl]
    clear ht htx hk
    go_enter Try.func33, Try.ntmps33
    go_wp2
    go_ret
    exact ⟨_, _, _, rfl, rfl, tin_kept HT.out (c_box w _), c_box w _⟩
set_option linter.unusedVariables false in
set_option maxRecDepth 100000 in
set_option maxHeartbeats 1000000 in
theorem tgt_f (S : Nat → Prop) (t : Tr) (ao : Option Addr) (cap : Nat) (w : World) (hks : t.ks.length ≤ 100000) (ht : TIn w S t (.slice ao t.ks.length cap)) (g5 : (t.op == 5) = false) (g60 : (t.op == 60) = false) (g61 : (t.op == 61) = false) (g63 : (t.op == 63) = false) (g64 : (t.op == 64) = false) (g62 : (t.op == 62) = true) (x : Tr) (hx : t.ks[1]? = some x) : Calls Try.prog 33 #[.agg #[.int .i64 t.op, .int .i64 t.a, .int .i64 t.n, .int .i64 t.m, .string t.s, .slice ao t.ks.length cap]] w (TgtPost w S [x]) := by
  obtain ⟨b, o, rfl, h2, hcm, hb, htx⟩ := tin_second ht hx
  have HT := Lib.hid htx
  have hl1 := (List.getElem?_eq_some_iff.1 hx).1
  have g1 : decide ((1 : Int) < (t.ks.length : Int)) = true := decide_eq_true (by omega)
  unfold maxLen at hcm
  clear ht htx hx
  go_enter Try.func33, Try.ntmps33
  go_wp2
  go_ret
  exact ⟨_, _, _, rfl, rfl, tin_kept HT.out (c_box w _), c_box w _⟩
set_option linter.unusedVariables false in
set_option maxRecDepth 100000 in
set_option maxHeartbeats 1000000 in
theorem tgt_g (S : Nat → Prop) (t : Tr) (ao : Option Addr) (cap : Nat) (w : World) (hks : t.ks.length ≤ 100000) (ht : TIn w S t (.slice ao t.ks.length cap)) (g5 : (t.op == 5) = false) (g60 : (t.op == 60) = false) (g61 : (t.op == 61) = false) (g63 : (t.op == 63) = false) (g64 : (t.op == 64) = false) (g62 : (t.op == 62) = true) (hl : ¬ 1 < t.ks.length) : Calls Try.prog 33 #[.agg #[.int .i64 t.op, .int .i64 t.a, .int .i64 t.n, .int .i64 t.m, .string t.s, .slice ao t.ks.length cap]] w (TgtPost w S []) := by
  have g1 : decide ((1 : Int) < (t.ks.length : Int)) = false := decide_eq_false (by omega)
  clear ht hl
  go_enter Try.func33, Try.ntmps33
  go_wp2
  go_ret
  exact ⟨_, _, _, rfl, rfl, tin_none (by unfold maxLen; omega), c_box w _⟩
set_option linter.unusedVariables false in
set_option maxRecDepth 100000 in
set_option maxHeartbeats 1000000 in
theorem tgt_h (S : Nat → Prop) (t : Tr) (ao : Option Addr) (cap : Nat) (w : World) (hks : t.ks.length ≤ 100000) (ht : TIn w S t (.slice ao t.ks.length cap)) (g5 : (t.op == 5) = false) (g60 : (t.op == 60) = false) (g61 : (t.op == 61) = false) (g63 : (t.op == 63) = false) (g64 : (t.op == 64) = false) (g62 : (t.op == 62) = false) : Calls Try.prog 33 #[.agg #[.int .i64 t.op, .int .i64 t.a, .int .i64 t.n, .int .i64 t.m, .string t.s, .slice ao t.ks.length cap]] w (TgtPost w S []) := by
  clear ht
  go_enter Try.func33, Try.ntmps33
  go_wp2
  go_ret
  exact ⟨_, _, _, rfl, rfl, tin_none (by unfold maxLen; omega), c_box w _⟩
theorem targets_any (S : Nat → Prop) (t : Tr) (ao : Option Addr) (cap : Nat) (w : World) (hks : t.ks.length ≤ 100000) (ht : TIn w S t (.slice ao t.ks.length cap)) : Calls Try.prog 33 #[.agg #[.int .i64 t.op, .int .i64 t.a, .int .i64 t.n, .int .i64 t.m, .string t.s, .slice ao t.ks.length cap]] w (TgtPost w S (tgtL t)) := by
  unfold tgtL
  by_cases h1 : t.op = 5 ∨ t.op = 60 ∨ t.op = 61
  · rw [if_pos h1]
    by_cases a : t.op = 5
    · exact tgt_a S t ao cap w hks ht (by simpa using a)
    · by_cases b : t.op = 60
      · exact tgt_b S t ao cap w hks ht (by simpa using a) (by simpa using b)
      · exact tgt_c S t ao cap w hks ht (by simpa using a) (by simpa using b) (by simp only [beq_iff_eq]; omega)
  · rw [if_neg h1]
    have g5 : (t.op == 5) = false := by simp only [beq_eq_false_iff_ne]; omega
    have g60 : (t.op == 60) = false := by simp only [beq_eq_false_iff_ne]; omega
    have g61 : (t.op == 61) = false := by simp only [beq_eq_false_iff_ne]; omega
    by_cases h2 : t.op = 63 ∨ t.op = 64
    · rw [if_pos h2]
      by_cases a : t.op = 63
      · exact tgt_d S t ao cap w hks ht g5 g60 g61 (by simpa using a)
      · exact tgt_e S t ao cap w hks ht g5 g60 g61 (by simpa using a) (by simp only [beq_iff_eq]; omega)
    · rw [if_neg h2]
      have g63 : (t.op == 63) = false := by simp only [beq_eq_false_iff_ne]; omega
      have g64 : (t.op == 64) = false := by simp only [beq_eq_false_iff_ne]; omega
      by_cases h3 : t.op = 62 ∧ 1 < t.ks.length
      · rw [if_pos h3]
        have hx := List.getElem?_eq_getElem h3.2
        have e : (t.ks.drop 1).take 1 = [t.ks[1]'h3.2] := by rw [drop_cons hx]; rfl
        rw [e]
        exact tgt_f S t ao cap w hks ht g5 g60 g61 g63 g64 (by simpa using h3.1) _ hx
      · rw [if_neg h3]
        by_cases a : t.op = 62
        · exact tgt_g S t ao cap w hks ht g5 g60 g61 g63 g64 (by simpa using a) (fun h => h3 ⟨a, h⟩)
        · exact tgt_h S t ao cap w hks ht g5 g60 g61 g63 g64 (by simpa using a)
/-- two slices of texts that read alike -/
def StrIn (w : World) (v : Value) (l : List ByteArray) : Prop := ∃ ao cap, v = .slice ao l.length cap ∧ ∀ i s, l[i]? = some s → ∃ b o, ao = some ⟨b, o, none⟩ ∧ b < w.heap.size ∧ w.cell? ⟨b, o + i, none⟩ = some (.string s)
set_option linter.unusedVariables false in
set_option maxRecDepth 100000 in
set_option maxHeartbeats 1000000 in
theorem texts_any (l : List ByteArray) (v0 v1 : Value) (w : World) (hl : l.length ≤ 100000) (h0 : StrIn w v0 l) (h1 : StrIn w v1 l) :
    Calls Try.prog 20 #[v0, v1] w (BPost w true) := by
  obtain ⟨a0, p0, rfl, hin0⟩ := h0
  obtain ⟨a1, p1, rfl, hin1⟩ := h1
  have HI := Lib.hid (And.intro hin0 hin1)
  obtain ⟨len, hlen⟩ : ∃ len, len = l.length := ⟨_, rfl⟩
  rw [← hlen] at hl ⊢
  have HL := Lib.hid hlen
  clear hin0 hin1 hlen
  go_enter Try.func20, Try.ntmps20
  go_wp2
  go_loopw [5] (fun i wr => RelSame w len i wr) (fun i _ => len - (intOf i).toNat)
  case atStart => exact ⟨0, rfl, Nat.zero_le _, Below.refl _ _⟩
  case round =>
    obtain ⟨k, rfl, hk, hB⟩ := hrel
    by_cases hkl : k < len
    · have g1 : decide ((k : Int) < (len : Int)) = true := decide_eq_true (by omega)
      obtain ⟨x, hx⟩ : ∃ x, l[k]? = some x := ⟨_, List.getElem?_eq_getElem (by rw [← HL.out]; exact hkl)⟩
      obtain ⟨b1, o1, rfl, hb1, hc1⟩ := HI.out.1 k x hx
      obtain ⟨b2, o2, rfl, hb2, hc2⟩ := HI.out.2 k x hx
      have c1 := (hB.cell (p := ⟨b1, o1 + k, none⟩) hb1).trans hc1
      have c2 := (hB.cell (p := ⟨b2, o2 + k, none⟩) hb2).trans hc2
      have k1 : (k : Int) < (len : Int) := by omega
      have HB := Lib.hid hB
      clear hc1 hc2 hB hx
      go_wp2
      go_quiet (fail)
      go_wp2
      go_roundw
      case rel => exact ⟨k + 1, by go_num, by omega, c_thr HB.out (c_draws _ _) HB.out.size⟩
      case measure => simp [intOf]; omega
    · have g1 : decide ((k : Int) < (len : Int)) = false := decide_eq_false (by omega)
      have HB := Lib.hid hB
      clear hB
      go_wp2
      go_ret
      exact ⟨rfl, HB.out⟩
end Go.Proofs.Ytjnlifghobgkcaa
