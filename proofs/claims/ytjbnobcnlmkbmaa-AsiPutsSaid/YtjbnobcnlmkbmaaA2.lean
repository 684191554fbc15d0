/-
  May and Bars of package asi and of its reference at this translation.
-/
import Derived.Test.YtjbnobcnlmkbmaaA1
import Derived.Lib.Builder
import Derived.Laws.IdiomRangeMap
namespace Go.Proofs.Ytjbnobcnlmkbmaa
open Go.RowKit

theorem str_cells {W : World} {b : Nat} {zs : List ByteArray} {T : TypeId} (h : W.heap[b]? = some (.cells (zs.map Value.string).toArray T (0, 0))) : ∀ j, j < zs.length → W.cell? ⟨b, 0 + j, none⟩ = some (.string (zs.getD j ByteArray.empty)) := by
  intro j hj
  rw [Nat.zero_add]
  refine (Lib.cell_of_heap h j).trans ?_
  rw [List.getElem?_toArray, List.getElem?_map, List.getElem?_eq_getElem hj, List.getD_eq_getElem?_getD, List.getElem?_eq_getElem hj]
  rfl
theorem new_cells (w : World) (zs : List ByteArray) (T : TypeId) (b : Nat) (hb : b = w.heap.size) : ∀ j, j < zs.length → (w.alloc (.cells (zs.map Value.string).toArray T)).cell? ⟨b, 0 + j, none⟩ = some (.string (zs.getD j ByteArray.empty)) := by
  subst hb
  exact str_cells (heap_alloc_new w _)
def zMay : List ByteArray := [⟨#[125]⟩]
def zSemi : List ByteArray := [⟨#[59]⟩]
def zWord : List ByteArray := [⟨#[114, 101, 116, 117, 114, 110]⟩, ⟨#[98, 114, 101, 97, 107]⟩, ⟨#[99, 111, 110, 116, 105, 110, 117, 101]⟩, ⟨#[116, 104, 114, 111, 119]⟩, ⟨#[121, 105, 101, 108, 100]⟩]
def zThree : List ByteArray := [⟨#[43, 43]⟩, ⟨#[45, 45]⟩, ⟨#[61, 62]⟩]
theorem arr_l (a : Array UInt8) (l : List UInt8) : (a == l.toArray) = (a.toList == l) := by
  rw [Bool.eq_iff_iff, beq_iff_eq, beq_iff_eq]
  constructor
  · rintro rfl; rfl
  · intro h; rw [← h]
theorem has_may (s : ByteArray) : Lib.containsS zMay s = (s.toList == [125]) := by
  rw [has_any]
  simp only [zMay, List.any_cons, List.any_nil, Bool.or_false]
  simp only [ByteArray.toList_eq]
theorem has_semi (s : ByteArray) : Lib.containsS zSemi s = (s.toList == [59]) := by
  rw [has_any]
  simp only [zSemi, List.any_cons, List.any_nil, Bool.or_false]
  simp only [ByteArray.toList_eq]
theorem has_word (s : ByteArray) : Lib.containsS zWord s = wordB s := by
  rw [has_any]
  simp only [zWord, wordB, List.any_cons, List.any_nil, Bool.or_false]
  simp only [ByteArray.toList_eq]
theorem has_three (s : ByteArray) : Lib.containsS zThree s = threeB s := by
  rw [has_any]
  simp only [zThree, threeB, List.any_cons, List.any_nil, Bool.or_false]
  simp only [ByteArray.toList_eq]

set_option maxRecDepth 100000 in
theorem may_any (kd a to n : Int) (s : ByteArray) (l o : Bool) (w : World) :
    Calls Try.prog 7 #[.agg #[.int .i64 kd, .int .i64 a, .int .i64 to, .int .i64 n, .string s, .bool l, .bool o]] w fun e w' => e = .returned (.bool (mayB kd s l)) ∧ Below w.heap.size w w' := by
  unfold mayB
  cases l with
  | true =>
    rw [Bool.true_or]
    go_enter Try.func7, Try.ntmps7
    go_wp2
    go_ret
    exact ⟨rfl, by go_grown⟩
  | false =>
    rw [Bool.false_or]
    cases h0 : (kd == 0) with
    | true =>
      rw [Bool.true_or]
      go_enter Try.func7, Try.ntmps7
      go_wp2
      go_ret
      exact ⟨rfl, by go_grown⟩
    | false =>
      rw [Bool.false_or]
      have H := Lib.hid (fun (W : World) (b c : Nat) hc hb => isSign_any kd a to n s false o zMay b c W (by decide) hc hb)
      rw [has_may] at H
      unfold sgnB
      generalize ((kd == 5) && (s.toList == [125])) = r at H ⊢
      go_enter Try.func7, Try.ntmps7
      go_wp2_with fail
      refine (H.out _ _ _ (new_cells _ zMay _ _ (by simp)) (by simp)).mono ?_
      rintro e w' ⟨rfl, hB⟩
      have hB2 : Below w.heap.size w w' := (((Below.refl _ w).alloc (Nat.le_refl _) _).alloc (by simp) _).trans (hB.mono (by simp; omega))
      clear hB H
      go_wp2
      go_ret
      exact ⟨rfl, hB2⟩

set_option maxRecDepth 100000 in
theorem rmay_any (kd a to n : Int) (s : ByteArray) (l o : Bool) (w : World) :
    Calls Try.prog 8 #[.agg #[.int .i64 kd, .int .i64 a, .int .i64 to, .int .i64 n, .string s, .bool l, .bool o]] w fun e w' => e = .returned (.bool (mayB kd s l)) ∧ Below w.heap.size w w' := by
  have H := Lib.hid (fun (W : World) => sign_any kd a to n s l o ⟨#[125]⟩ W)
  rw [show (ByteArray.mk #[125]).toList = [125] by simp [ByteArray.toList_eq]] at H
  unfold mayB
  generalize sgnB kd s [125] = r at H ⊢
  cases r with
  | true =>
    rw [Bool.or_true, Bool.or_true]
    go_enter Try.func8, Try.ntmps8
    go_wp2_with fail
    refine (H.out _).mono ?_
    rintro e w' ⟨rfl, hB⟩
    have hB2 : Below w.heap.size w w' := ((Below.refl _ w).alloc (Nat.le_refl _) _).trans (hB.mono (by simp))
    clear hB H
    go_wp2
    go_ret
    exact ⟨rfl, hB2⟩
  | false =>
    rw [Bool.or_false]
    cases h0 : (kd == 0) with
    | true =>
      rw [Bool.or_true]
      go_enter Try.func8, Try.ntmps8
      go_wp2_with fail
      refine (H.out _).mono ?_
      rintro e w' ⟨rfl, hB⟩
      have hB2 : Below w.heap.size w w' := ((Below.refl _ w).alloc (Nat.le_refl _) _).trans (hB.mono (by simp))
      have hc := hB.cell (p := ⟨w.heap.size, 0, none⟩) (by simp)
      clear hB H
      go_wp2
      go_ret
      exact ⟨rfl, hB2⟩
    | false =>
      rw [Bool.or_false]
      go_enter Try.func8, Try.ntmps8
      go_wp2_with fail
      refine (H.out _).mono ?_
      rintro e w' ⟨rfl, hB⟩
      have hB2 : Below w.heap.size w w' := ((Below.refl _ w).alloc (Nat.le_refl _) _).trans (hB.mono (by simp))
      have hc := hB.cell (p := ⟨w.heap.size, 0, none⟩) (by simp)
      have hc5 := hB.cell (p := ⟨w.heap.size, 5, none⟩) (by simp)
      clear hB H
      go_wp2
      go_ret
      exact ⟨rfl, hB2⟩
end Go.Proofs.Ytjbnobcnlmkbmaa
