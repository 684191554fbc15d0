/-
  Same of the reference at this translation, at two slices that read alike; a row of the call's own read as a slice.
-/
import Derived.Test.YtjbnobcnlmkbmaaL1
import Derived.Laws.StructEq
import Derived.Deep.QuietTactic
import Derived.BigQuiet
namespace Go.Proofs.Ytjbnobcnlmkbmaa
open Go.RowKit

theorem flat_at {l : List Tk} : ∀ {i j : Nat} {t : Tk} {u : Value}, l[i]? = some t → (tkC t)[j]? = some u → (l.flatMap tkC)[i * 7 + j]? = some u := by
  have h7 : ∀ t, (tkC t).length = 7 := fun t => rfl
  induction l with
  | nil => intro i j t u h; simp at h
  | cons x r ih =>
    intro i j t u h hu
    have hj : j < 7 := by
      have := (List.getElem?_eq_some_iff.1 hu).1
      rw [h7] at this
      exact this
    rw [List.flatMap_cons]
    cases i with
    | zero =>
      simp at h
      subst h
      rw [List.getElem?_append_left (by rw [h7]; omega)]
      simpa using hu
    | succ i =>
      rw [List.getElem?_append_right (by rw [h7]; omega), h7]
      have e : (i + 1) * 7 + j - 7 = i * 7 + j := by omega
      rw [e]
      exact ih (by simpa using h) hu
theorem tks_of {w : World} {B T : Nat} {v : Value} {l : List Tk} (h : TkAt w B T v l) : TksIn w v l := by
  rcases h.2 with ⟨rfl, h0⟩ | ⟨g, cap, cur, rfl, hb, hg, hn, hm, hs, ht⟩
  · have : l = [] := List.eq_nil_of_length_eq_zero h0
    subst this
    exact ⟨none, 0, rfl, Nat.le_refl _, by unfold maxLen; omega, by simp⟩
  · refine ⟨some ⟨g, 0, none⟩, cap, rfl, hn, hm, fun i t hi => ⟨g, 0, rfl, lt_of_heap hg, ?_⟩⟩
    have key : ∀ j u, (tkC t)[j]? = some u → w.cell? ⟨g, 0 + i * 7 + j, none⟩ = some u := by
      intro j u hu
      have h1 := flat_at hi hu
      rw [← ht, List.getElem?_take] at h1
      split at h1
      · rw [Nat.zero_add]
        exact (Lib.cell_of_heap hg _).trans (by simpa using h1)
      · cases h1
    exact ⟨key 0 _ rfl, key 1 _ rfl, key 2 _ rfl, key 3 _ rfl, key 4 _ rfl, key 5 _ rfl, key 6 _ rfl⟩
theorem tks_kept {W w1 : World} {v : Value} {l : List Tk} (hB : Below W.heap.size W w1) (h : TksIn W v l) : TksIn w1 v l := by
  obtain ⟨ao, cap, hv, h1, h2, h3⟩ := h
  refine ⟨ao, cap, hv, h1, h2, fun i t ht => ?_⟩
  obtain ⟨b, off, ha, hb, hc⟩ := h3 i t ht
  exact ⟨b, off, ha, Nat.lt_of_lt_of_le hb hB.size, cells_kept hB hb hc⟩
theorem a_draws (w : World) (n : Nat) : Below w.heap.size w (w.drewN n) := ⟨rfl, rfl, rfl, Nat.le_refl _, fun _ _ => rfl⟩
def TruePost (w : World) : Ending → World → Prop := fun e w' => e = .returned (.bool true) ∧ Below w.heap.size w w'
def RelSame (w : World) (len : Nat) (i : Value) (wr : World) : Prop := ∃ k : Nat, k ≤ len ∧ i = .int .i64 k ∧ Below w.heap.size w wr

set_option linter.unusedVariables false in
set_option maxRecDepth 100000 in
set_option maxHeartbeats 1000000 in
theorem same_any (l : List Tk) (v0 v1 : Value) (w : World) (hl : l.length ≤ 100000) (h0 : TksIn w v0 l) (h1 : TksIn w v1 l) :
    Calls Try.prog 18 #[v0, v1] w (TruePost w) := by
  obtain ⟨a0, cap0, rfl, _, _, hin0⟩ := h0
  obtain ⟨a1, cap1, rfl, _, _, hin1⟩ := h1
  have HI0 := Lib.hid hin0
  have HI1 := Lib.hid hin1
  obtain ⟨len, hlen⟩ : ∃ len, len = l.length := ⟨_, rfl⟩
  rw [← hlen]
  have HL := Lib.hid hlen
  have hl2 : len ≤ 100000 := by omega
  have HV : Hid (RelSame w len (.int .i64 0) w) := Lib.hid ⟨0, by omega, rfl, Below.refl _ _⟩
  clear hin0 hin1 hlen hl
  go_enter Try.func18, Try.ntmps18
  go_wp2
  go_loopw [5] (fun i wr => RelSame w len i wr) (fun i _ => len - (intOf i).toNat)
  case atStart => exact HV.out
  case round =>
    obtain ⟨k, hk, rfl, hB⟩ := hrel
    clear HV
    by_cases hlt : k < len
    · obtain ⟨t, ht⟩ : ∃ t, l[k]? = some t := ⟨l[k]'(by rw [← HL.out]; exact hlt), List.getElem?_eq_getElem _⟩
      obtain ⟨b, off, rfl, hb, hc⟩ := HI0.out k t ht
      obtain ⟨b', off', rfl, hb', hc'⟩ := HI1.out k t ht
      obtain ⟨c0, c1, c2, c3, c4, c5, c6⟩ := cells_kept hB hb hc
      obtain ⟨d0, d1, d2, d3, d4, d5, d6⟩ := cells_kept hB hb' hc'
      clear HI0 HI1 hc hc' ht
      have HBW := Lib.hid hB
      clear hB
      have g1 : decide (k < len) = true := by simpa using hlt
      obtain ⟨kd, a, to, n, s, li, o⟩ := t
      simp only at c0 c1 c2 c3 c4 c5 c6 d0 d1 d2 d3 d4 d5 d6
      go_wp2
      go_quiet (fail)
      go_wp2
      go_roundw
      case rel => exact ⟨k + 1, by omega, by go_num, a_thr HBW.out (a_draws _ _) HBW.out.size⟩
      case measure => simp [intOf]; omega
    · have g1 : decide (k < len) = false := by simpa using hlt
      have HBW := Lib.hid hB
      clear HI0 HI1 hB
      go_wp2
      go_ret
      exact ⟨rfl, HBW.out⟩
def IntsIn (w : World) (v : Value) (l : List Int) : Prop := ∃ (ao : Option Addr) (cap : Nat), v = .slice ao l.length cap ∧ l.length ≤ cap ∧ cap ≤ maxLen ∧ ∀ i z, l[i]? = some z → ∃ b off, ao = some ⟨b, off, none⟩ ∧ b < w.heap.size ∧ w.cell? ⟨b, off + i, none⟩ = some (.int .i64 z)
def IntsAt (w : World) (B : Nat) (v : Value) (l : List Int) : Prop := w.ownsRow B 3 1 v l.length (l.map (Value.int .i64))
theorem ints_of {w : World} {B : Nat} {v : Value} {l : List Int} (h : IntsAt w B v l) : IntsIn w v l := by
  rcases h.2 with ⟨rfl, h0⟩ | ⟨g, cap, cur, rfl, hb, hg, hn, hm, hs, ht⟩
  · have : l = [] := List.eq_nil_of_length_eq_zero h0
    subst this
    exact ⟨none, 0, rfl, Nat.le_refl _, by unfold maxLen; omega, by simp⟩
  · refine ⟨some ⟨g, 0, none⟩, cap, rfl, hn, hm, fun i z hi => ⟨g, 0, rfl, lt_of_heap hg, ?_⟩⟩
    have h1 : (l.map (Value.int .i64))[i]? = some (.int .i64 z) := by rw [List.getElem?_map, hi]; rfl
    rw [← ht, List.getElem?_take] at h1
    split at h1
    · rw [Nat.zero_add]
      exact (Lib.cell_of_heap hg _).trans (by simpa using h1)
    · cases h1
theorem ints_kept {W w1 : World} {v : Value} {l : List Int} (hB : Below W.heap.size W w1) (h : IntsIn W v l) : IntsIn w1 v l := by
  obtain ⟨ao, cap, hv, h1, h2, h3⟩ := h
  refine ⟨ao, cap, hv, h1, h2, fun i t ht => ?_⟩
  obtain ⟨b, off, ha, hb, hc⟩ := h3 i t ht
  exact ⟨b, off, ha, Nat.lt_of_lt_of_le hb hB.size, (hB.cell (p := ⟨b, off + i, none⟩) hb).trans hc⟩

set_option linter.unusedVariables false in
set_option maxRecDepth 100000 in
set_option maxHeartbeats 1000000 in
theorem ints_any (l : List Int) (v0 v1 : Value) (w : World) (hl : l.length ≤ 100000) (h0 : IntsIn w v0 l) (h1 : IntsIn w v1 l) :
    Calls Try.prog 16 #[v0, v1] w (TruePost w) := by
  obtain ⟨a0, cap0, rfl, _, _, hin0⟩ := h0
  obtain ⟨a1, cap1, rfl, _, _, hin1⟩ := h1
  have HI0 := Lib.hid hin0
  have HI1 := Lib.hid hin1
  obtain ⟨len, hlen⟩ : ∃ len, len = l.length := ⟨_, rfl⟩
  rw [← hlen]
  have HL := Lib.hid hlen
  have hl2 : len ≤ 100000 := by omega
  have HV : Hid (RelSame w len (.int .i64 0) w) := Lib.hid ⟨0, by omega, rfl, Below.refl _ _⟩
  clear hin0 hin1 hlen hl
  go_enter Try.func16, Try.ntmps16
  go_wp2
  go_loopw [5] (fun i wr => RelSame w len i wr) (fun i _ => len - (intOf i).toNat)
  case atStart => exact HV.out
  case round =>
    obtain ⟨k, hk, rfl, hB⟩ := hrel
    clear HV
    by_cases hlt : k < len
    · obtain ⟨t, ht⟩ : ∃ t, l[k]? = some t := ⟨l[k]'(by rw [← HL.out]; exact hlt), List.getElem?_eq_getElem _⟩
      obtain ⟨b, off, rfl, hb, hc⟩ := HI0.out k t ht
      obtain ⟨b', off', rfl, hb', hc'⟩ := HI1.out k t ht
      have c0 := (hB.cell (p := ⟨b, off + k, none⟩) hb).trans hc
      have d0 := (hB.cell (p := ⟨b', off' + k, none⟩) hb').trans hc'
      clear HI0 HI1 hc hc' ht
      have HBW := Lib.hid hB
      clear hB
      have g1 : decide (k < len) = true := by simpa using hlt
      go_wp2
      go_quiet (fail)
      go_wp2
      go_roundw
      case rel => exact ⟨k + 1, by omega, by go_num, a_thr HBW.out (a_draws _ _) HBW.out.size⟩
      case measure => simp [intOf]; omega
    · have g1 : decide (k < len) = false := by simpa using hlt
      have HBW := Lib.hid hB
      clear HI0 HI1 hB
      go_wp2
      go_ret
      exact ⟨rfl, HBW.out⟩
end Go.Proofs.Ytjbnobcnlmkbmaa
