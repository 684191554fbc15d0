/-
  Bars of package asi and of its reference at this translation.
-/
import Derived.Test.YtjbnobcnlmkbmaaA2
namespace Go.Proofs.Ytjbnobcnlmkbmaa
open Go.RowKit

theorem a_thr {B : Nat} {w w1 w2 : World} (h : Below B w w1) (h2 : Below w1.heap.size w1 w2) (hB : B ≤ w1.heap.size) : Below B w w2 := h.trans (h2.mono hB)

theorem tok_cells7 {w : World} {b : Nat} {x0 x1 x2 x3 x4 x5 x6 : Value} {T : TypeId} (h : w.heap[b]? = some (.cells #[x0, x1, x2, x3, x4, x5, x6] T (0, 0))) :
    w.cell? ⟨b, 0, none⟩ = some x0 ∧ w.cell? ⟨b, 1, none⟩ = some x1 ∧ w.cell? ⟨b, 2, none⟩ = some x2 ∧ w.cell? ⟨b, 3, none⟩ = some x3 ∧ w.cell? ⟨b, 4, none⟩ = some x4 ∧ w.cell? ⟨b, 5, none⟩ = some x5 ∧ w.cell? ⟨b, 6, none⟩ = some x6 := by
  refine ⟨?_, ?_, ?_, ?_, ?_, ?_, ?_⟩
  all_goals simp [World.cell?, h]

set_option maxRecDepth 100000 in
theorem bars_any (u : ByteArray) (kd a to n : Int) (s : ByteArray) (l o : Bool) (w : World) :
    Calls Try.prog 9 #[.string u, .agg #[.int .i64 kd, .int .i64 a, .int .i64 to, .int .i64 n, .string s, .bool l, .bool o]] w fun e w' => e = .returned (.bool (barsB u kd s l)) ∧ Below w.heap.size w w' := by
  unfold barsB
  cases l with
  | false =>
    rw [Bool.false_and]
    go_enter Try.func9, Try.ntmps9
    go_wp2
    go_ret
    exact ⟨rfl, by go_grown⟩
  | true =>
    rw [Bool.true_and]
    have HW := Lib.hid (fun (W : World) (b c : Nat) hc => among_any zWord b c u W (by decide) hc)
    rw [has_word] at HW
    have HS := Lib.hid (fun (W : World) (b c : Nat) hc hb => isSign_any kd a to n s true o zThree b c W (by decide) hc hb)
    rw [has_three] at HS
    generalize wordB u = r at HW ⊢
    generalize ((kd == 5) && threeB s) = q at HS ⊢
    cases r with
    | true =>
      rw [Bool.true_or]
      go_enter Try.func9, Try.ntmps9
      go_wp2_with fail
      refine (HW.out _ _ _ (new_cells _ zWord _ _ (by simp))).mono ?_
      rintro e w' ⟨rfl, rfl⟩
      go_wp2
      go_ret
      exact ⟨rfl, by go_grown⟩
    | false =>
      rw [Bool.false_or]
      go_enter Try.func9, Try.ntmps9
      go_wp2_with fail
      refine (HW.out _ _ _ (new_cells _ zWord _ _ (by simp))).mono ?_
      rintro e w' ⟨rfl, rfl⟩
      clear HW
      go_wp2_with fail
      refine (HS.out _ _ _ (new_cells _ zThree _ _ (by simp)) (by simp)).mono ?_
      rintro e w' ⟨rfl, hB⟩
      have hB2 : Below w.heap.size w w' := a_thr ((((Below.refl _ w).alloc (Nat.le_refl _) _).alloc (by simp) _).alloc (by simp; omega) _) hB (by simp; omega)
      clear hB HS
      go_wp2
      go_ret
      exact ⟨rfl, hB2⟩

set_option maxRecDepth 100000 in
theorem rbars_words (u : ByteArray) (kd a to n : Int) (s : ByteArray) (o : Bool) (w : World) (g1 : sgnB kd s [43, 43] = false) (g2 : sgnB kd s [45, 45] = false) (g3 : sgnB kd s [61, 62] = false) :
    Calls Try.prog 10 #[.string u, .agg #[.int .i64 kd, .int .i64 a, .int .i64 to, .int .i64 n, .string s, .bool true, .bool o]] w fun e w' => e = .returned (.bool (wordB u)) ∧ Below w.heap.size w w' := by
  have H1 := Lib.hid (fun (W : World) => sign_any kd a to n s true o ⟨#[43, 43]⟩ W)
  rw [show (ByteArray.mk #[43, 43]).toList = [43, 43] by simp only [ByteArray.toList_eq], g1] at H1
  have H2 := Lib.hid (fun (W : World) => sign_any kd a to n s true o ⟨#[45, 45]⟩ W)
  rw [show (ByteArray.mk #[45, 45]).toList = [45, 45] by simp only [ByteArray.toList_eq], g2] at H2
  have H3 := Lib.hid (fun (W : World) => sign_any kd a to n s true o ⟨#[61, 62]⟩ W)
  rw [show (ByteArray.mk #[61, 62]).toList = [61, 62] by simp only [ByteArray.toList_eq], g3] at H3
  clear g1 g2 g3
  unfold wordB
  cases h1 : (u.toList == [114, 101, 116, 117, 114, 110]) with
  | true =>
    go_enter Try.func10, Try.ntmps10
    go_wp2_with fail
    refine (H1.out _).mono ?_
    rintro e w1 ⟨rfl, hB⟩
    have hB1 : Below w.heap.size w w1 := a_thr ((Below.refl _ w).alloc (Nat.le_refl _) _) hB (by simp)
    have hg1 := (hB.block w.heap.size (by simp)).trans (heap_alloc_new w _)
    have hl1 : w.heap.size < w1.heap.size := by have := hB.size; simp at this; omega
    obtain ⟨q0, q1, q2, q3, q4, q5, q6⟩ := tok_cells7 hg1
    clear hB
    go_wp2_with fail
    refine (H2.out _).mono ?_
    rintro e w2 ⟨rfl, hB⟩
    have hB2 : Below w.heap.size w w2 := a_thr hB1 hB (by omega)
    have hg2 := (hB.block w.heap.size hl1).trans hg1
    have hl2 : w.heap.size < w2.heap.size := by have := hB.size; omega
    clear hB1 hg1 hl1
    obtain ⟨q0, q1, q2, q3, q4, q5, q6⟩ := tok_cells7 hg2
    clear hB
    go_wp2_with fail
    refine (H3.out _).mono ?_
    rintro e w3 ⟨rfl, hB⟩
    have hB3 : Below w.heap.size w w3 := a_thr hB2 hB (by omega)
    have hg3 := (hB.block w.heap.size hl2).trans hg2
    have hl3 : w.heap.size < w3.heap.size := by have := hB.size; omega
    clear hB2 hg2 hl2
    clear hB
    clear q0 q1 q2 q3 q4 q5 q6 hg3 hl3
    go_wp2
    go_ret
    exact ⟨by simp, hB3⟩
  | false =>
    cases h2 : (u.toList == [98, 114, 101, 97, 107]) with
    | true =>
      go_enter Try.func10, Try.ntmps10
      go_wp2_with fail
      refine (H1.out _).mono ?_
      rintro e w1 ⟨rfl, hB⟩
      have hB1 : Below w.heap.size w w1 := a_thr ((Below.refl _ w).alloc (Nat.le_refl _) _) hB (by simp)
      have hg1 := (hB.block w.heap.size (by simp)).trans (heap_alloc_new w _)
      have hl1 : w.heap.size < w1.heap.size := by have := hB.size; simp at this; omega
      obtain ⟨q0, q1, q2, q3, q4, q5, q6⟩ := tok_cells7 hg1
      clear hB
      go_wp2_with fail
      refine (H2.out _).mono ?_
      rintro e w2 ⟨rfl, hB⟩
      have hB2 : Below w.heap.size w w2 := a_thr hB1 hB (by omega)
      have hg2 := (hB.block w.heap.size hl1).trans hg1
      have hl2 : w.heap.size < w2.heap.size := by have := hB.size; omega
      clear hB1 hg1 hl1
      obtain ⟨q0, q1, q2, q3, q4, q5, q6⟩ := tok_cells7 hg2
      clear hB
      go_wp2_with fail
      refine (H3.out _).mono ?_
      rintro e w3 ⟨rfl, hB⟩
      have hB3 : Below w.heap.size w w3 := a_thr hB2 hB (by omega)
      have hg3 := (hB.block w.heap.size hl2).trans hg2
      have hl3 : w.heap.size < w3.heap.size := by have := hB.size; omega
      clear hB2 hg2 hl2
      clear hB
      clear q0 q1 q2 q3 q4 q5 q6 hg3 hl3
      go_wp2
      go_ret
      exact ⟨by simp, hB3⟩
    | false =>
      cases h3 : (u.toList == [99, 111, 110, 116, 105, 110, 117, 101]) with
      | true =>
        go_enter Try.func10, Try.ntmps10
        go_wp2_with fail
        refine (H1.out _).mono ?_
        rintro e w1 ⟨rfl, hB⟩
        have hB1 : Below w.heap.size w w1 := a_thr ((Below.refl _ w).alloc (Nat.le_refl _) _) hB (by simp)
        have hg1 := (hB.block w.heap.size (by simp)).trans (heap_alloc_new w _)
        have hl1 : w.heap.size < w1.heap.size := by have := hB.size; simp at this; omega
        obtain ⟨q0, q1, q2, q3, q4, q5, q6⟩ := tok_cells7 hg1
        clear hB
        go_wp2_with fail
        refine (H2.out _).mono ?_
        rintro e w2 ⟨rfl, hB⟩
        have hB2 : Below w.heap.size w w2 := a_thr hB1 hB (by omega)
        have hg2 := (hB.block w.heap.size hl1).trans hg1
        have hl2 : w.heap.size < w2.heap.size := by have := hB.size; omega
        clear hB1 hg1 hl1
        obtain ⟨q0, q1, q2, q3, q4, q5, q6⟩ := tok_cells7 hg2
        clear hB
        go_wp2_with fail
        refine (H3.out _).mono ?_
        rintro e w3 ⟨rfl, hB⟩
        have hB3 : Below w.heap.size w w3 := a_thr hB2 hB (by omega)
        have hg3 := (hB.block w.heap.size hl2).trans hg2
        have hl3 : w.heap.size < w3.heap.size := by have := hB.size; omega
        clear hB2 hg2 hl2
        clear hB
        clear q0 q1 q2 q3 q4 q5 q6 hg3 hl3
        go_wp2
        go_ret
        exact ⟨by simp, hB3⟩
      | false =>
        cases h4 : (u.toList == [116, 104, 114, 111, 119]) with
        | true =>
          go_enter Try.func10, Try.ntmps10
          go_wp2_with fail
          refine (H1.out _).mono ?_
          rintro e w1 ⟨rfl, hB⟩
          have hB1 : Below w.heap.size w w1 := a_thr ((Below.refl _ w).alloc (Nat.le_refl _) _) hB (by simp)
          have hg1 := (hB.block w.heap.size (by simp)).trans (heap_alloc_new w _)
          have hl1 : w.heap.size < w1.heap.size := by have := hB.size; simp at this; omega
          obtain ⟨q0, q1, q2, q3, q4, q5, q6⟩ := tok_cells7 hg1
          clear hB
          go_wp2_with fail
          refine (H2.out _).mono ?_
          rintro e w2 ⟨rfl, hB⟩
          have hB2 : Below w.heap.size w w2 := a_thr hB1 hB (by omega)
          have hg2 := (hB.block w.heap.size hl1).trans hg1
          have hl2 : w.heap.size < w2.heap.size := by have := hB.size; omega
          clear hB1 hg1 hl1
          obtain ⟨q0, q1, q2, q3, q4, q5, q6⟩ := tok_cells7 hg2
          clear hB
          go_wp2_with fail
          refine (H3.out _).mono ?_
          rintro e w3 ⟨rfl, hB⟩
          have hB3 : Below w.heap.size w w3 := a_thr hB2 hB (by omega)
          have hg3 := (hB.block w.heap.size hl2).trans hg2
          have hl3 : w.heap.size < w3.heap.size := by have := hB.size; omega
          clear hB2 hg2 hl2
          clear hB
          clear q0 q1 q2 q3 q4 q5 q6 hg3 hl3
          go_wp2
          go_ret
          exact ⟨by simp, hB3⟩
        | false =>
          cases h5 : (u.toList == [121, 105, 101, 108, 100]) with
          | true =>
            go_enter Try.func10, Try.ntmps10
            go_wp2_with fail
            refine (H1.out _).mono ?_
            rintro e w1 ⟨rfl, hB⟩
            have hB1 : Below w.heap.size w w1 := a_thr ((Below.refl _ w).alloc (Nat.le_refl _) _) hB (by simp)
            have hg1 := (hB.block w.heap.size (by simp)).trans (heap_alloc_new w _)
            have hl1 : w.heap.size < w1.heap.size := by have := hB.size; simp at this; omega
            obtain ⟨q0, q1, q2, q3, q4, q5, q6⟩ := tok_cells7 hg1
            clear hB
            go_wp2_with fail
            refine (H2.out _).mono ?_
            rintro e w2 ⟨rfl, hB⟩
            have hB2 : Below w.heap.size w w2 := a_thr hB1 hB (by omega)
            have hg2 := (hB.block w.heap.size hl1).trans hg1
            have hl2 : w.heap.size < w2.heap.size := by have := hB.size; omega
            clear hB1 hg1 hl1
            obtain ⟨q0, q1, q2, q3, q4, q5, q6⟩ := tok_cells7 hg2
            clear hB
            go_wp2_with fail
            refine (H3.out _).mono ?_
            rintro e w3 ⟨rfl, hB⟩
            have hB3 : Below w.heap.size w w3 := a_thr hB2 hB (by omega)
            have hg3 := (hB.block w.heap.size hl2).trans hg2
            have hl3 : w.heap.size < w3.heap.size := by have := hB.size; omega
            clear hB2 hg2 hl2
            clear hB
            clear q0 q1 q2 q3 q4 q5 q6 hg3 hl3
            go_wp2
            go_ret
            exact ⟨by simp, hB3⟩
          | false =>
            go_enter Try.func10, Try.ntmps10
            go_wp2_with fail
            refine (H1.out _).mono ?_
            rintro e w1 ⟨rfl, hB⟩
            have hB1 : Below w.heap.size w w1 := a_thr ((Below.refl _ w).alloc (Nat.le_refl _) _) hB (by simp)
            have hg1 := (hB.block w.heap.size (by simp)).trans (heap_alloc_new w _)
            have hl1 : w.heap.size < w1.heap.size := by have := hB.size; simp at this; omega
            obtain ⟨q0, q1, q2, q3, q4, q5, q6⟩ := tok_cells7 hg1
            clear hB
            go_wp2_with fail
            refine (H2.out _).mono ?_
            rintro e w2 ⟨rfl, hB⟩
            have hB2 : Below w.heap.size w w2 := a_thr hB1 hB (by omega)
            have hg2 := (hB.block w.heap.size hl1).trans hg1
            have hl2 : w.heap.size < w2.heap.size := by have := hB.size; omega
            clear hB1 hg1 hl1
            obtain ⟨q0, q1, q2, q3, q4, q5, q6⟩ := tok_cells7 hg2
            clear hB
            go_wp2_with fail
            refine (H3.out _).mono ?_
            rintro e w3 ⟨rfl, hB⟩
            have hB3 : Below w.heap.size w w3 := a_thr hB2 hB (by omega)
            have hg3 := (hB.block w.heap.size hl2).trans hg2
            have hl3 : w.heap.size < w3.heap.size := by have := hB.size; omega
            clear hB2 hg2 hl2
            clear hB
            clear q0 q1 q2 q3 q4 q5 q6 hg3 hl3
            go_wp2
            go_ret
            exact ⟨by simp, hB3⟩

set_option maxRecDepth 100000 in
theorem rbars_any (u : ByteArray) (kd a to n : Int) (s : ByteArray) (l o : Bool) (w : World) :
    Calls Try.prog 10 #[.string u, .agg #[.int .i64 kd, .int .i64 a, .int .i64 to, .int .i64 n, .string s, .bool l, .bool o]] w fun e w' => e = .returned (.bool (barsB u kd s l)) ∧ Below w.heap.size w w' := by
  cases l with
  | false =>
    unfold barsB
    rw [Bool.false_and]
    go_enter Try.func10, Try.ntmps10
    go_wp2
    go_ret
    exact ⟨rfl, by go_grown⟩
  | true =>
    have e3 : ((kd == 5) && threeB s) = (sgnB kd s [43, 43] || (sgnB kd s [45, 45] || sgnB kd s [61, 62])) := by
      unfold threeB sgnB
      cases (kd == 5) <;> rfl
    unfold barsB
    rw [Bool.true_and, e3]
    clear e3
    cases g1 : sgnB kd s [43, 43] with
    | true =>
      rw [Bool.true_or, Bool.or_true]
      have H1 := Lib.hid (fun (W : World) => sign_any kd a to n s true o ⟨#[43, 43]⟩ W)
      rw [show (ByteArray.mk #[43, 43]).toList = [43, 43] by simp only [ByteArray.toList_eq], g1] at H1
      clear g1
      go_enter Try.func10, Try.ntmps10
      go_wp2_with fail
      refine (H1.out _).mono ?_
      rintro e w1 ⟨rfl, hB⟩
      have hB1 : Below w.heap.size w w1 := a_thr ((Below.refl _ w).alloc (Nat.le_refl _) _) hB (by simp)
      clear hB H1
      go_wp2
      go_ret
      exact ⟨rfl, hB1⟩
    | false =>
      rw [Bool.false_or]
      cases g2 : sgnB kd s [45, 45] with
      | true =>
        rw [Bool.true_or, Bool.or_true]
        have H1 := Lib.hid (fun (W : World) => sign_any kd a to n s true o ⟨#[43, 43]⟩ W)
        rw [show (ByteArray.mk #[43, 43]).toList = [43, 43] by simp only [ByteArray.toList_eq], g1] at H1
        have H2 := Lib.hid (fun (W : World) => sign_any kd a to n s true o ⟨#[45, 45]⟩ W)
        rw [show (ByteArray.mk #[45, 45]).toList = [45, 45] by simp only [ByteArray.toList_eq], g2] at H2
        clear g1 g2
        go_enter Try.func10, Try.ntmps10
        go_wp2_with fail
        refine (H1.out _).mono ?_
        rintro e w1 ⟨rfl, hB⟩
        have hB1 : Below w.heap.size w w1 := a_thr ((Below.refl _ w).alloc (Nat.le_refl _) _) hB (by simp)
        have hg1 := (hB.block w.heap.size (by simp)).trans (heap_alloc_new w _)
        have hl1 : w.heap.size < w1.heap.size := by have := hB.size; simp at this; omega
        obtain ⟨q0, q1, q2, q3, q4, q5, q6⟩ := tok_cells7 hg1
        clear hB H1 hg1
        go_wp2_with fail
        refine (H2.out _).mono ?_
        rintro e w2 ⟨rfl, hB⟩
        have hB2 : Below w.heap.size w w2 := a_thr hB1 hB (by omega)
        clear hB H2 hB1 hl1 q0 q1 q2 q3 q4 q5 q6
        go_wp2
        go_ret
        exact ⟨rfl, hB2⟩
      | false =>
        rw [Bool.false_or]
        cases g3 : sgnB kd s [61, 62] with
        | true =>
          rw [Bool.or_true]
          have H1 := Lib.hid (fun (W : World) => sign_any kd a to n s true o ⟨#[43, 43]⟩ W)
          rw [show (ByteArray.mk #[43, 43]).toList = [43, 43] by simp only [ByteArray.toList_eq], g1] at H1
          have H2 := Lib.hid (fun (W : World) => sign_any kd a to n s true o ⟨#[45, 45]⟩ W)
          rw [show (ByteArray.mk #[45, 45]).toList = [45, 45] by simp only [ByteArray.toList_eq], g2] at H2
          have H3 := Lib.hid (fun (W : World) => sign_any kd a to n s true o ⟨#[61, 62]⟩ W)
          rw [show (ByteArray.mk #[61, 62]).toList = [61, 62] by simp only [ByteArray.toList_eq], g3] at H3
          clear g1 g2 g3
          go_enter Try.func10, Try.ntmps10
          go_wp2_with fail
          refine (H1.out _).mono ?_
          rintro e w1 ⟨rfl, hB⟩
          have hB1 : Below w.heap.size w w1 := a_thr ((Below.refl _ w).alloc (Nat.le_refl _) _) hB (by simp)
          have hg1 := (hB.block w.heap.size (by simp)).trans (heap_alloc_new w _)
          have hl1 : w.heap.size < w1.heap.size := by have := hB.size; simp at this; omega
          obtain ⟨q0, q1, q2, q3, q4, q5, q6⟩ := tok_cells7 hg1
          clear hB
          go_wp2_with fail
          refine (H2.out _).mono ?_
          rintro e w2 ⟨rfl, hB⟩
          have hB2 : Below w.heap.size w w2 := a_thr hB1 hB (by omega)
          have hg2 := (hB.block w.heap.size hl1).trans hg1
          have hl2 : w.heap.size < w2.heap.size := by have := hB.size; omega
          clear hB1 hg1 hl1
          obtain ⟨q0, q1, q2, q3, q4, q5, q6⟩ := tok_cells7 hg2
          clear hB
          go_wp2_with fail
          refine (H3.out _).mono ?_
          rintro e w3 ⟨rfl, hB⟩
          have hB3 : Below w.heap.size w w3 := a_thr hB2 hB (by omega)
          have hg3 := (hB.block w.heap.size hl2).trans hg2
          have hl3 : w.heap.size < w3.heap.size := by have := hB.size; omega
          clear hB2 hg2 hl2
          clear hB
          clear q0 q1 q2 q3 q4 q5 q6 hg3 hl3
          go_wp2
          go_ret
          exact ⟨rfl, hB3⟩
        | false =>
          rw [Bool.or_false]
          exact rbars_words u kd a to n s o w g1 g2 g3
end Go.Proofs.Ytjbnobcnlmkbmaa
