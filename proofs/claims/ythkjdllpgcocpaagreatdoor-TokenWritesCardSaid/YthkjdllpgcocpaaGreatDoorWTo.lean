/-
  To of the laws of package token at this translation: a slice of tokens copied, struct to struct.
-/
import Derived.Test.YthkjdllpgcocpaaGreatDoorWPJoin
import Derived.Test.YthkjdllpgcocpaaGreatDoorTGoes
namespace Go.Proofs.YthkjdllpgcocpaaGreatDoor
open Go.RowKit

def QAt (w : World) (B T : Nat) (v : Value) (l : List NT) : Prop := w.ownsRow B T 7 v l.length (l.flatMap tkC)
def CopyPost (T : Nat) (w : World) (l : List NT) : Ending → World → Prop := fun e w' => ∃ v, e = .returned v ∧ QAt w' w.heap.size T v l ∧ Below w.heap.size w w'
def RelCopy (T : Nat) (w : World) (l : List NT) (v i : Value) (wr : World) : Prop := ∃ k : Nat, k ≤ l.length ∧ i = .int .i64 k ∧ QAt wr w.heap.size T v (l.take k) ∧ Below w.heap.size w wr
theorem len_take {α : Type} {l : List α} {len k : Nat} (h : len = l.length) (hk : k ≤ len) : (l.take k).length = k := by simp; omega
theorem take_more (T : Nat) {l : List NT} {k B : Nat} {t : NT} (ht : l[k]? = some t) : ∀ (v' : Value) (w' : World), w'.ownsRow B T 7 v' ((l.take k).length + 1) ((l.take k).flatMap tkC ++ tkC t) → QAt w' B T v' (l.take (k + 1)) := by
  intro v' w' hown
  have hk := (List.getElem?_eq_some_iff.1 ht).1
  have e : l.take (k + 1) = l.take k ++ [t] := by
    rw [List.take_add_one, ht]
    rfl
  unfold QAt
  rw [e]
  simpa using hown

set_option linter.unusedVariables false in
set_option maxRecDepth 100000 in
set_option maxHeartbeats 1000000 in
theorem to_any (l : List NT) (v0 : Value) (w : World) (hl : l.length ≤ 100000) (h : TokIn w v0 l) :
    Calls Tryz.prog 10 #[v0] w (CopyPost 27 w l) := by
  obtain ⟨ao, cap, rfl, _, _, hin⟩ := h
  have HIN := Lib.hid hin
  obtain ⟨i0, hi, hz0, hz1, hz2⟩ := info_parts tok_info
  have hT : Tryz.prog.underlying 30 = some (.slice 27) := by kernel_rfl
  have HV : Hid (RelCopy 27 w l (.slice (some ⟨w.heap.size, 0, none⟩) 0 0) (.int .i64 0) (w.alloc (.cells #[] 27))) := Lib.hid ⟨0, by omega, rfl, World.ownsRow_made w #[] 0 (Nat.le_refl _) (by unfold maxLen; omega) rfl, (Below.refl _ w).alloc (Nat.le_refl _) _⟩
  obtain ⟨len, hlen⟩ : ∃ len, len = l.length := ⟨_, rfl⟩
  rw [← hlen]
  have HL := Lib.hid hlen
  have hl2 : len ≤ 100000 := by omega
  clear hin hlen hl
  go_enter Tryz.func10, Tryz.ntmps10
  go_wp2
  go_loopw [3, 8] (fun v i wr => RelCopy 27 w l v i wr) (fun _ i _ => len - (intOf i).toNat)
  case atStart => exact HV.out
  case round =>
    obtain ⟨k, hk, rfl, hown, hB⟩ := hrel
    rw [← HL.out] at hk
    clear HV
    by_cases hlt : k < len
    · obtain ⟨t, ht⟩ : ∃ t, l[k]? = some t := ⟨l[k]'(by rw [← HL.out]; exact hlt), List.getElem?_eq_getElem _⟩
      obtain ⟨b, off, rfl, hb, hc⟩ := HIN.out k t ht
      have HX := Lib.hid (take_more (B := w.heap.size) 27 ht)
      have hown0 := hown
      obtain ⟨c0, c1, c2, c3, c4, c5, c6⟩ := cellsT_kept hB hb hc
      clear HIN hc ht
      have HBW := Lib.hid hB
      have hsz := hB.size
      clear hB
      have hbw : b < wr.heap.size := by omega
      have g1 : decide ((k : Int) < (len : Int)) = true := by simpa using hlt
      obtain ⟨kd, a, tw, n, s, li, o, fa, er⟩ := t
      simp only at c0 c1 c2 c3 c4 c5 c6
      unfold QAt at hown
      rw [len_take HL.out hk] at hown
      go_wp2_with (at_builtin; refine wpList_append_own _ rfl _ _ 30 rfl w.heap.size 27 i0 (.agg #[.int .i64 0, .int .i64 0, .int .i64 0, .int .i64 0, .string ⟨#[]⟩, .bool false, .bool false]) 7 56 hT hi hz0 hz1 hz2 rfl (by decide) _ _ _ rfl (hown.alloc _) ⟨wr.heap.size, 0, none⟩ 1 1 (tkC ⟨kd, a, tw, n, s, li, o, fa, er⟩) rfl rfl ?_ ?_ ?_ ?_ ?_ ?_; exact tok_cells _ _ _ rfl; exact tok_one _; (unfold maxLen; omega); omega; (simp; omega); intro v' w4 hown' hgrow _)
      have HB4 := Lib.hid ((HBW.out.alloc HBW.out.size _).grown hgrow (by simp; omega) (fun k hk => (hown0.lt k hk).1))
      have HN := Lib.hid (HX.out v' w4 (by unfold tkC at hown' ⊢; rw [len_take HL.out hk]; exact hown'))
      clear hown hown0 hown' hgrow c0 c1 c2 c3 c4 c5 c6 g1 HX HBW
      go_wp2
      go_roundw
      case rel => exact ⟨k + 1, by rw [← HL.out]; omega, by go_num, HN.out, HB4.out⟩
      case measure => simp [intOf]; omega
    · have hke : k = len := by omega
      have g1 : decide ((k : Int) < (len : Int)) = false := by simpa using hlt
      have HN := Lib.hid hown
      have HBW := Lib.hid hB
      have HK := Lib.hid hke
      clear HIN hown hB hke
      go_wp2
      go_ret
      refine ⟨_, rfl, ?_, HBW.out⟩
      have := HN.out
      rw [HK.out, HL.out, List.take_length] at this
      exact this
theorem flat_at {l : List NT} : ∀ {i j : Nat} {t : NT} {u : Value}, l[i]? = some t → (tkC t)[j]? = some u → (l.flatMap tkC)[i * 7 + j]? = some u := by
  have h7 : ∀ t, (tkC t).length = 7 := fun t => rfl
  induction l with
  | nil => intro i j t u h; simp at h
  | cons x r ih =>
    intro i j t u h hu
    have hj : j < 7 := by
      have := (List.getElem?_eq_some_iff.1 hu).1
      rw [h7] at this
      exact this
    rw [List.flatMap_cons]
    cases i with
    | zero =>
      simp at h
      subst h
      rw [List.getElem?_append_left (by rw [h7]; omega)]
      simpa using hu
    | succ i =>
      rw [List.getElem?_append_right (by rw [h7]; omega), h7]
      have e : (i + 1) * 7 + j - 7 = i * 7 + j := by omega
      rw [e]
      exact ih (by simpa using h) hu
theorem tks_of {w : World} {B T : Nat} {v : Value} {l : List NT} (h : QAt w B T v l) : TokIn w v l := by
  rcases h.2 with ⟨rfl, h0⟩ | ⟨g, cap, cur, rfl, hb, hg, hn, hm, hs, ht⟩
  · have : l = [] := List.eq_nil_of_length_eq_zero h0
    subst this
    exact ⟨none, 0, rfl, Nat.le_refl _, by unfold maxLen; omega, by simp⟩
  · refine ⟨some ⟨g, 0, none⟩, cap, rfl, hn, hm, fun i t hi => ⟨g, 0, rfl, t_lt hg, ?_⟩⟩
    have key : ∀ j u, (tkC t)[j]? = some u → w.cell? ⟨g, 0 + i * 7 + j, none⟩ = some u := by
      intro j u hu
      have h1 := flat_at hi hu
      rw [← ht, List.getElem?_take] at h1
      split at h1
      · rw [Nat.zero_add]
        exact (Lib.cell_of_heap hg _).trans (by simpa using h1)
      · cases h1
    exact ⟨key 0 _ rfl, key 1 _ rfl, key 2 _ rfl, key 3 _ rfl, key 4 _ rfl, key 5 _ rfl, key 6 _ rfl⟩
theorem tks_kept {W w1 : World} {v : Value} {l : List NT} (hB : Below W.heap.size W w1) (h : TokIn W v l) : TokIn w1 v l := by
  obtain ⟨ao, cap, hv, h1, h2, h3⟩ := h
  refine ⟨ao, cap, hv, h1, h2, fun i t ht => ?_⟩
  obtain ⟨b, off, ha, hb, hc⟩ := h3 i t ht
  exact ⟨b, off, ha, Nat.lt_of_lt_of_le hb hB.size, cellsT_kept hB hb hc⟩
end Go.Proofs.YthkjdllpgcocpaaGreatDoor
