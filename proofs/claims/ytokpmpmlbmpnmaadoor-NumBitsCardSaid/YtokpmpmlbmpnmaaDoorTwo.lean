/-
  Two and Less of the reference at this translation.
-/
import Derived.Test.YtokpmpmlbmpnmaaDoorTimes
namespace Go.Proofs.YtokpmpmlbmpnmaaDoor
open Go.RowKit

theorem wh_in {k n : Int} {s : ByteArray} (h : whK k n s = true) : inB n = true ∧ whN k n s = n := by
  refine ⟨?_, by unfold whN; rw [if_pos h]⟩
  unfold whK at h
  simp only [Bool.and_eq_true] at h
  exact h.2

set_option maxRecDepth 100000 in
set_option linter.unusedVariables false in
set_option maxHeartbeats 2000000 in
theorem two_add_a (k n k' n' : Int) (s s' : ByteArray) (w : World) (HA : Hid (∀ W, Calls Tryd.prog 32 #[.agg #[.int .i64 k, .int .i64 n, .string s]] W fun e w' => e = .returned (.bool false) ∧ Below W.heap.size W w')) : Calls Tryd.prog 17 #[.string ⟨#[43]⟩, .agg #[.int .i64 k, .int .i64 n, .string s], .agg #[.int .i64 k', .int .i64 n', .string s']] w fun e w' => e = .returned (.agg #[.int .i64 4, .int .i64 0, .string ⟨#[]⟩]) ∧ Below w.heap.size w w' := by
  go_enter Tryd.func17, Tryd.ntmps17
  go_wp2_with fail
  refine (HA.out _).mono ?_
  rintro e w1 ⟨rfl, hb⟩
  have b1 : Below w.heap.size w w1 := thr (bel3 w _ _ _) hb (by simp <;> omega)
  have oa := kept hb (by simp <;> omega) (old2 w _ _ _)
  have ob := kept hb (by simp <;> omega) (mid2 w _ _ _)
  have oc := kept hb (by simp) (blk2 w _ _ _)
  clear hb
  obtain ⟨q0, q1, q2, f0, f1, f2, hz⟩ := tri oc
  go_wp2
  refine bodyPost_ret (v := .agg #[.int .i64 4, .int .i64 0, .string ⟨#[]⟩]) (by simp [results, Tryd.results17, go_sem, q0, q1, q2]) rfl ?_
  exact ⟨rfl, st3 b1 (by omega)⟩

set_option maxRecDepth 100000 in
set_option linter.unusedVariables false in
set_option maxHeartbeats 2000000 in
theorem two_add_b (k n k' n' : Int) (s s' : ByteArray) (w : World) (HA : Hid (∀ W, Calls Tryd.prog 32 #[.agg #[.int .i64 k, .int .i64 n, .string s]] W fun e w' => e = .returned (.bool true) ∧ Below W.heap.size W w')) (HB : Hid (∀ W, Calls Tryd.prog 32 #[.agg #[.int .i64 k', .int .i64 n', .string s']] W fun e w' => e = .returned (.bool false) ∧ Below W.heap.size W w')) : Calls Tryd.prog 17 #[.string ⟨#[43]⟩, .agg #[.int .i64 k, .int .i64 n, .string s], .agg #[.int .i64 k', .int .i64 n', .string s']] w fun e w' => e = .returned (.agg #[.int .i64 4, .int .i64 0, .string ⟨#[]⟩]) ∧ Below w.heap.size w w' := by
  go_enter Tryd.func17, Tryd.ntmps17
  go_wp2_with fail
  refine (HA.out _).mono ?_
  rintro e w1 ⟨rfl, hb⟩
  have b1 : Below w.heap.size w w1 := thr (bel3 w _ _ _) hb (by simp <;> omega)
  have oa := kept hb (by simp <;> omega) (old2 w _ _ _)
  have ob := kept hb (by simp <;> omega) (mid2 w _ _ _)
  have oc := kept hb (by simp) (blk2 w _ _ _)
  clear hb
  obtain ⟨x0, x1, x2, _, _, _, _⟩ := tri ob
  go_wp2_with fail
  refine (HB.out _).mono ?_
  rintro e w2 ⟨rfl, hb⟩
  have b2 : Below w.heap.size w w2 := thr b1 hb b1.size
  replace oa := kept hb (tri oa).2.2.2.2.2.2 oa
  replace ob := kept hb (tri ob).2.2.2.2.2.2 ob
  replace oc := kept hb (tri oc).2.2.2.2.2.2 oc
  clear hb x0 x1 x2 b1
  obtain ⟨x0, x1, x2, _, _, _, _⟩ := tri ob
  obtain ⟨y0, y1, y2, _, _, _, _⟩ := tri oa
  obtain ⟨q0, q1, q2, f0, f1, f2, hz⟩ := tri oc
  go_wp2
  refine bodyPost_ret (v := .agg #[.int .i64 4, .int .i64 0, .string ⟨#[]⟩]) (by simp [results, Tryd.results17, go_sem, q0, q1, q2]) rfl ?_
  exact ⟨rfl, st3 b2 (by omega)⟩

set_option maxRecDepth 100000 in
set_option linter.unusedVariables false in
set_option maxHeartbeats 2000000 in
theorem two_add_n (k n k' n' : Int) (s s' : ByteArray) (w : World) (HA : Hid (∀ W, Calls Tryd.prog 32 #[.agg #[.int .i64 k, .int .i64 n, .string s]] W fun e w' => e = .returned (.bool true) ∧ Below W.heap.size W w')) (HB : Hid (∀ W, Calls Tryd.prog 32 #[.agg #[.int .i64 k', .int .i64 n', .string s']] W fun e w' => e = .returned (.bool true) ∧ Below W.heap.size W w')) (h0 : n' = 0) (i0 : -9007199254740992 ≤ n) (i1 : n ≤ 9007199254740992) (i2 : -9007199254740992 ≤ n') (i3 : n' ≤ 9007199254740992) (ok on z : Int) (hzz : n + n' = z) (z0 : -18014398509481984 ≤ z) (z1 : z ≤ 18014398509481984) (HO : Hid (∀ W, Calls Tryd.prog 11 #[.int .i64 z] W fun e w' => e = .returned (.agg #[.int .i64 ok, .int .i64 on, .string ⟨#[]⟩]) ∧ Below W.heap.size W w')) : Calls Tryd.prog 17 #[.string ⟨#[43]⟩, .agg #[.int .i64 k, .int .i64 n, .string s], .agg #[.int .i64 k', .int .i64 n', .string s']] w fun e w' => e = .returned (.agg #[.int .i64 ok, .int .i64 on, .string ⟨#[]⟩]) ∧ Below w.heap.size w w' := by
  subst h0
  go_enter Tryd.func17, Tryd.ntmps17
  go_wp2_with fail
  refine (HA.out _).mono ?_
  rintro e w1 ⟨rfl, hb⟩
  have b1 : Below w.heap.size w w1 := thr (bel3 w _ _ _) hb (by simp <;> omega)
  have oa := kept hb (by simp <;> omega) (old2 w _ _ _)
  have ob := kept hb (by simp <;> omega) (mid2 w _ _ _)
  have oc := kept hb (by simp) (blk2 w _ _ _)
  clear hb
  obtain ⟨x0, x1, x2, _, _, _, _⟩ := tri ob
  go_wp2_with fail
  refine (HB.out _).mono ?_
  rintro e w2 ⟨rfl, hb⟩
  have b2 : Below w.heap.size w w2 := thr b1 hb b1.size
  replace oa := kept hb (tri oa).2.2.2.2.2.2 oa
  replace ob := kept hb (tri ob).2.2.2.2.2.2 ob
  replace oc := kept hb (tri oc).2.2.2.2.2.2 oc
  clear hb x0 x1 x2 b1
  obtain ⟨x0, x1, x2, _, _, _, _⟩ := tri ob
  obtain ⟨y0, y1, y2, _, _, _, _⟩ := tri oa
  go_wp2_with fail
  refine (HO.out _).mono ?_
  rintro e w3 ⟨rfl, hb⟩
  have b3 : Below w.heap.size w w3 := thr b2 hb b2.size
  obtain ⟨q0, q1, q2, f0, f1, f2, hz⟩ := tri (kept hb (tri oc).2.2.2.2.2.2 oc)
  clear hb
  go_wp2
  refine bodyPost_ret (v := .agg #[.int .i64 ok, .int .i64 on, .string ⟨#[]⟩]) (by simp [results, Tryd.results17, go_sem, q0, q1, q2]) rfl ?_
  exact ⟨rfl, st3 b3 (by omega)⟩

set_option maxRecDepth 100000 in
set_option linter.unusedVariables false in
set_option maxHeartbeats 2000000 in
theorem two_add_o (k n k' n' : Int) (s s' : ByteArray) (w : World) (HA : Hid (∀ W, Calls Tryd.prog 32 #[.agg #[.int .i64 k, .int .i64 n, .string s]] W fun e w' => e = .returned (.bool true) ∧ Below W.heap.size W w')) (HB : Hid (∀ W, Calls Tryd.prog 32 #[.agg #[.int .i64 k', .int .i64 n', .string s']] W fun e w' => e = .returned (.bool true) ∧ Below W.heap.size W w')) (h0 : ¬ n' = 0) (i0 : -9007199254740992 ≤ n) (i1 : n ≤ 9007199254740992) (i2 : -9007199254740992 ≤ n') (i3 : n' ≤ 9007199254740992) (ok on z : Int) (hzz : n + n' = z) (z0 : -18014398509481984 ≤ z) (z1 : z ≤ 18014398509481984) (HO : Hid (∀ W, Calls Tryd.prog 11 #[.int .i64 z] W fun e w' => e = .returned (.agg #[.int .i64 ok, .int .i64 on, .string ⟨#[]⟩]) ∧ Below W.heap.size W w')) : Calls Tryd.prog 17 #[.string ⟨#[43]⟩, .agg #[.int .i64 k, .int .i64 n, .string s], .agg #[.int .i64 k', .int .i64 n', .string s']] w fun e w' => e = .returned (.agg #[.int .i64 ok, .int .i64 on, .string ⟨#[]⟩]) ∧ Below w.heap.size w w' := by
  have h0b : (n' == 0) = false := by simpa using h0
  go_enter Tryd.func17, Tryd.ntmps17
  go_wp2_with fail
  refine (HA.out _).mono ?_
  rintro e w1 ⟨rfl, hb⟩
  have b1 : Below w.heap.size w w1 := thr (bel3 w _ _ _) hb (by simp <;> omega)
  have oa := kept hb (by simp <;> omega) (old2 w _ _ _)
  have ob := kept hb (by simp <;> omega) (mid2 w _ _ _)
  have oc := kept hb (by simp) (blk2 w _ _ _)
  clear hb
  obtain ⟨x0, x1, x2, _, _, _, _⟩ := tri ob
  go_wp2_with fail
  refine (HB.out _).mono ?_
  rintro e w2 ⟨rfl, hb⟩
  have b2 : Below w.heap.size w w2 := thr b1 hb b1.size
  replace oa := kept hb (tri oa).2.2.2.2.2.2 oa
  replace ob := kept hb (tri ob).2.2.2.2.2.2 ob
  replace oc := kept hb (tri oc).2.2.2.2.2.2 oc
  clear hb x0 x1 x2 b1
  obtain ⟨x0, x1, x2, _, _, _, _⟩ := tri ob
  obtain ⟨y0, y1, y2, _, _, _, _⟩ := tri oa
  go_wp2_with fail
  refine (HO.out _).mono ?_
  rintro e w3 ⟨rfl, hb⟩
  have b3 : Below w.heap.size w w3 := thr b2 hb b2.size
  obtain ⟨q0, q1, q2, f0, f1, f2, hz⟩ := tri (kept hb (tri oc).2.2.2.2.2.2 oc)
  clear hb
  go_wp2
  refine bodyPost_ret (v := .agg #[.int .i64 ok, .int .i64 on, .string ⟨#[]⟩]) (by simp [results, Tryd.results17, go_sem, q0, q1, q2]) rfl ?_
  exact ⟨rfl, st3 b3 (by omega)⟩

set_option maxRecDepth 100000 in
set_option linter.unusedVariables false in
set_option maxHeartbeats 2000000 in
theorem two_sub_a (k n k' n' : Int) (s s' : ByteArray) (w : World) (HA : Hid (∀ W, Calls Tryd.prog 32 #[.agg #[.int .i64 k, .int .i64 n, .string s]] W fun e w' => e = .returned (.bool false) ∧ Below W.heap.size W w')) : Calls Tryd.prog 17 #[.string ⟨#[45]⟩, .agg #[.int .i64 k, .int .i64 n, .string s], .agg #[.int .i64 k', .int .i64 n', .string s']] w fun e w' => e = .returned (.agg #[.int .i64 4, .int .i64 0, .string ⟨#[]⟩]) ∧ Below w.heap.size w w' := by
  go_enter Tryd.func17, Tryd.ntmps17
  go_wp2_with fail
  refine (HA.out _).mono ?_
  rintro e w1 ⟨rfl, hb⟩
  have b1 : Below w.heap.size w w1 := thr (bel3 w _ _ _) hb (by simp <;> omega)
  have oa := kept hb (by simp <;> omega) (old2 w _ _ _)
  have ob := kept hb (by simp <;> omega) (mid2 w _ _ _)
  have oc := kept hb (by simp) (blk2 w _ _ _)
  clear hb
  obtain ⟨q0, q1, q2, f0, f1, f2, hz⟩ := tri oc
  go_wp2
  refine bodyPost_ret (v := .agg #[.int .i64 4, .int .i64 0, .string ⟨#[]⟩]) (by simp [results, Tryd.results17, go_sem, q0, q1, q2]) rfl ?_
  exact ⟨rfl, st3 b1 (by omega)⟩

set_option maxRecDepth 100000 in
set_option linter.unusedVariables false in
set_option maxHeartbeats 2000000 in
theorem two_sub_b (k n k' n' : Int) (s s' : ByteArray) (w : World) (HA : Hid (∀ W, Calls Tryd.prog 32 #[.agg #[.int .i64 k, .int .i64 n, .string s]] W fun e w' => e = .returned (.bool true) ∧ Below W.heap.size W w')) (HB : Hid (∀ W, Calls Tryd.prog 32 #[.agg #[.int .i64 k', .int .i64 n', .string s']] W fun e w' => e = .returned (.bool false) ∧ Below W.heap.size W w')) : Calls Tryd.prog 17 #[.string ⟨#[45]⟩, .agg #[.int .i64 k, .int .i64 n, .string s], .agg #[.int .i64 k', .int .i64 n', .string s']] w fun e w' => e = .returned (.agg #[.int .i64 4, .int .i64 0, .string ⟨#[]⟩]) ∧ Below w.heap.size w w' := by
  go_enter Tryd.func17, Tryd.ntmps17
  go_wp2_with fail
  refine (HA.out _).mono ?_
  rintro e w1 ⟨rfl, hb⟩
  have b1 : Below w.heap.size w w1 := thr (bel3 w _ _ _) hb (by simp <;> omega)
  have oa := kept hb (by simp <;> omega) (old2 w _ _ _)
  have ob := kept hb (by simp <;> omega) (mid2 w _ _ _)
  have oc := kept hb (by simp) (blk2 w _ _ _)
  clear hb
  obtain ⟨x0, x1, x2, _, _, _, _⟩ := tri ob
  go_wp2_with fail
  refine (HB.out _).mono ?_
  rintro e w2 ⟨rfl, hb⟩
  have b2 : Below w.heap.size w w2 := thr b1 hb b1.size
  replace oa := kept hb (tri oa).2.2.2.2.2.2 oa
  replace ob := kept hb (tri ob).2.2.2.2.2.2 ob
  replace oc := kept hb (tri oc).2.2.2.2.2.2 oc
  clear hb x0 x1 x2 b1
  obtain ⟨x0, x1, x2, _, _, _, _⟩ := tri ob
  obtain ⟨y0, y1, y2, _, _, _, _⟩ := tri oa
  obtain ⟨q0, q1, q2, f0, f1, f2, hz⟩ := tri oc
  go_wp2
  refine bodyPost_ret (v := .agg #[.int .i64 4, .int .i64 0, .string ⟨#[]⟩]) (by simp [results, Tryd.results17, go_sem, q0, q1, q2]) rfl ?_
  exact ⟨rfl, st3 b2 (by omega)⟩

set_option maxRecDepth 100000 in
set_option linter.unusedVariables false in
set_option maxHeartbeats 2000000 in
theorem two_sub_n (k n k' n' : Int) (s s' : ByteArray) (w : World) (HA : Hid (∀ W, Calls Tryd.prog 32 #[.agg #[.int .i64 k, .int .i64 n, .string s]] W fun e w' => e = .returned (.bool true) ∧ Below W.heap.size W w')) (HB : Hid (∀ W, Calls Tryd.prog 32 #[.agg #[.int .i64 k', .int .i64 n', .string s']] W fun e w' => e = .returned (.bool true) ∧ Below W.heap.size W w')) (h0 : n' = 0) (i0 : -9007199254740992 ≤ n) (i1 : n ≤ 9007199254740992) (i2 : -9007199254740992 ≤ n') (i3 : n' ≤ 9007199254740992) (ok on z : Int) (hzz : n - n' = z) (z0 : -18014398509481984 ≤ z) (z1 : z ≤ 18014398509481984) (HO : Hid (∀ W, Calls Tryd.prog 11 #[.int .i64 z] W fun e w' => e = .returned (.agg #[.int .i64 ok, .int .i64 on, .string ⟨#[]⟩]) ∧ Below W.heap.size W w')) : Calls Tryd.prog 17 #[.string ⟨#[45]⟩, .agg #[.int .i64 k, .int .i64 n, .string s], .agg #[.int .i64 k', .int .i64 n', .string s']] w fun e w' => e = .returned (.agg #[.int .i64 ok, .int .i64 on, .string ⟨#[]⟩]) ∧ Below w.heap.size w w' := by
  subst h0
  go_enter Tryd.func17, Tryd.ntmps17
  go_wp2_with fail
  refine (HA.out _).mono ?_
  rintro e w1 ⟨rfl, hb⟩
  have b1 : Below w.heap.size w w1 := thr (bel3 w _ _ _) hb (by simp <;> omega)
  have oa := kept hb (by simp <;> omega) (old2 w _ _ _)
  have ob := kept hb (by simp <;> omega) (mid2 w _ _ _)
  have oc := kept hb (by simp) (blk2 w _ _ _)
  clear hb
  obtain ⟨x0, x1, x2, _, _, _, _⟩ := tri ob
  go_wp2_with fail
  refine (HB.out _).mono ?_
  rintro e w2 ⟨rfl, hb⟩
  have b2 : Below w.heap.size w w2 := thr b1 hb b1.size
  replace oa := kept hb (tri oa).2.2.2.2.2.2 oa
  replace ob := kept hb (tri ob).2.2.2.2.2.2 ob
  replace oc := kept hb (tri oc).2.2.2.2.2.2 oc
  clear hb x0 x1 x2 b1
  obtain ⟨x0, x1, x2, _, _, _, _⟩ := tri ob
  obtain ⟨y0, y1, y2, _, _, _, _⟩ := tri oa
  go_wp2_with fail
  refine (HO.out _).mono ?_
  rintro e w3 ⟨rfl, hb⟩
  have b3 : Below w.heap.size w w3 := thr b2 hb b2.size
  obtain ⟨q0, q1, q2, f0, f1, f2, hz⟩ := tri (kept hb (tri oc).2.2.2.2.2.2 oc)
  clear hb
  go_wp2
  refine bodyPost_ret (v := .agg #[.int .i64 ok, .int .i64 on, .string ⟨#[]⟩]) (by simp [results, Tryd.results17, go_sem, q0, q1, q2]) rfl ?_
  exact ⟨rfl, st3 b3 (by omega)⟩

set_option maxRecDepth 100000 in
set_option linter.unusedVariables false in
set_option maxHeartbeats 2000000 in
theorem two_sub_o (k n k' n' : Int) (s s' : ByteArray) (w : World) (HA : Hid (∀ W, Calls Tryd.prog 32 #[.agg #[.int .i64 k, .int .i64 n, .string s]] W fun e w' => e = .returned (.bool true) ∧ Below W.heap.size W w')) (HB : Hid (∀ W, Calls Tryd.prog 32 #[.agg #[.int .i64 k', .int .i64 n', .string s']] W fun e w' => e = .returned (.bool true) ∧ Below W.heap.size W w')) (h0 : ¬ n' = 0) (i0 : -9007199254740992 ≤ n) (i1 : n ≤ 9007199254740992) (i2 : -9007199254740992 ≤ n') (i3 : n' ≤ 9007199254740992) (ok on z : Int) (hzz : n - n' = z) (z0 : -18014398509481984 ≤ z) (z1 : z ≤ 18014398509481984) (HO : Hid (∀ W, Calls Tryd.prog 11 #[.int .i64 z] W fun e w' => e = .returned (.agg #[.int .i64 ok, .int .i64 on, .string ⟨#[]⟩]) ∧ Below W.heap.size W w')) : Calls Tryd.prog 17 #[.string ⟨#[45]⟩, .agg #[.int .i64 k, .int .i64 n, .string s], .agg #[.int .i64 k', .int .i64 n', .string s']] w fun e w' => e = .returned (.agg #[.int .i64 ok, .int .i64 on, .string ⟨#[]⟩]) ∧ Below w.heap.size w w' := by
  have h0b : (n' == 0) = false := by simpa using h0
  go_enter Tryd.func17, Tryd.ntmps17
  go_wp2_with fail
  refine (HA.out _).mono ?_
  rintro e w1 ⟨rfl, hb⟩
  have b1 : Below w.heap.size w w1 := thr (bel3 w _ _ _) hb (by simp <;> omega)
  have oa := kept hb (by simp <;> omega) (old2 w _ _ _)
  have ob := kept hb (by simp <;> omega) (mid2 w _ _ _)
  have oc := kept hb (by simp) (blk2 w _ _ _)
  clear hb
  obtain ⟨x0, x1, x2, _, _, _, _⟩ := tri ob
  go_wp2_with fail
  refine (HB.out _).mono ?_
  rintro e w2 ⟨rfl, hb⟩
  have b2 : Below w.heap.size w w2 := thr b1 hb b1.size
  replace oa := kept hb (tri oa).2.2.2.2.2.2 oa
  replace ob := kept hb (tri ob).2.2.2.2.2.2 ob
  replace oc := kept hb (tri oc).2.2.2.2.2.2 oc
  clear hb x0 x1 x2 b1
  obtain ⟨x0, x1, x2, _, _, _, _⟩ := tri ob
  obtain ⟨y0, y1, y2, _, _, _, _⟩ := tri oa
  go_wp2_with fail
  refine (HO.out _).mono ?_
  rintro e w3 ⟨rfl, hb⟩
  have b3 : Below w.heap.size w w3 := thr b2 hb b2.size
  obtain ⟨q0, q1, q2, f0, f1, f2, hz⟩ := tri (kept hb (tri oc).2.2.2.2.2.2 oc)
  clear hb
  go_wp2
  refine bodyPost_ret (v := .agg #[.int .i64 ok, .int .i64 on, .string ⟨#[]⟩]) (by simp [results, Tryd.results17, go_sem, q0, q1, q2]) rfl ?_
  exact ⟨rfl, st3 b3 (by omega)⟩

set_option maxRecDepth 100000 in
set_option linter.unusedVariables false in
set_option maxHeartbeats 2000000 in
theorem two_mul_a (k n k' n' : Int) (s s' : ByteArray) (w : World) (HA : Hid (∀ W, Calls Tryd.prog 32 #[.agg #[.int .i64 k, .int .i64 n, .string s]] W fun e w' => e = .returned (.bool false) ∧ Below W.heap.size W w')) : Calls Tryd.prog 17 #[.string ⟨#[42]⟩, .agg #[.int .i64 k, .int .i64 n, .string s], .agg #[.int .i64 k', .int .i64 n', .string s']] w fun e w' => e = .returned (.agg #[.int .i64 4, .int .i64 0, .string ⟨#[]⟩]) ∧ Below w.heap.size w w' := by
  go_enter Tryd.func17, Tryd.ntmps17
  go_wp2_with fail
  refine (HA.out _).mono ?_
  rintro e w1 ⟨rfl, hb⟩
  have b1 : Below w.heap.size w w1 := thr (bel3 w _ _ _) hb (by simp <;> omega)
  have oa := kept hb (by simp <;> omega) (old2 w _ _ _)
  have ob := kept hb (by simp <;> omega) (mid2 w _ _ _)
  have oc := kept hb (by simp) (blk2 w _ _ _)
  clear hb
  obtain ⟨q0, q1, q2, f0, f1, f2, hz⟩ := tri oc
  go_wp2
  refine bodyPost_ret (v := .agg #[.int .i64 4, .int .i64 0, .string ⟨#[]⟩]) (by simp [results, Tryd.results17, go_sem, q0, q1, q2]) rfl ?_
  exact ⟨rfl, st3 b1 (by omega)⟩

set_option maxRecDepth 100000 in
set_option linter.unusedVariables false in
set_option maxHeartbeats 2000000 in
theorem two_mul_b (k n k' n' : Int) (s s' : ByteArray) (w : World) (HA : Hid (∀ W, Calls Tryd.prog 32 #[.agg #[.int .i64 k, .int .i64 n, .string s]] W fun e w' => e = .returned (.bool true) ∧ Below W.heap.size W w')) (HB : Hid (∀ W, Calls Tryd.prog 32 #[.agg #[.int .i64 k', .int .i64 n', .string s']] W fun e w' => e = .returned (.bool false) ∧ Below W.heap.size W w')) : Calls Tryd.prog 17 #[.string ⟨#[42]⟩, .agg #[.int .i64 k, .int .i64 n, .string s], .agg #[.int .i64 k', .int .i64 n', .string s']] w fun e w' => e = .returned (.agg #[.int .i64 4, .int .i64 0, .string ⟨#[]⟩]) ∧ Below w.heap.size w w' := by
  go_enter Tryd.func17, Tryd.ntmps17
  go_wp2_with fail
  refine (HA.out _).mono ?_
  rintro e w1 ⟨rfl, hb⟩
  have b1 : Below w.heap.size w w1 := thr (bel3 w _ _ _) hb (by simp <;> omega)
  have oa := kept hb (by simp <;> omega) (old2 w _ _ _)
  have ob := kept hb (by simp <;> omega) (mid2 w _ _ _)
  have oc := kept hb (by simp) (blk2 w _ _ _)
  clear hb
  obtain ⟨x0, x1, x2, _, _, _, _⟩ := tri ob
  go_wp2_with fail
  refine (HB.out _).mono ?_
  rintro e w2 ⟨rfl, hb⟩
  have b2 : Below w.heap.size w w2 := thr b1 hb b1.size
  replace oa := kept hb (tri oa).2.2.2.2.2.2 oa
  replace ob := kept hb (tri ob).2.2.2.2.2.2 ob
  replace oc := kept hb (tri oc).2.2.2.2.2.2 oc
  clear hb x0 x1 x2 b1
  obtain ⟨x0, x1, x2, _, _, _, _⟩ := tri ob
  obtain ⟨y0, y1, y2, _, _, _, _⟩ := tri oa
  obtain ⟨q0, q1, q2, f0, f1, f2, hz⟩ := tri oc
  go_wp2
  refine bodyPost_ret (v := .agg #[.int .i64 4, .int .i64 0, .string ⟨#[]⟩]) (by simp [results, Tryd.results17, go_sem, q0, q1, q2]) rfl ?_
  exact ⟨rfl, st3 b2 (by omega)⟩

set_option maxRecDepth 100000 in
set_option linter.unusedVariables false in
set_option maxHeartbeats 2000000 in
theorem two_mul_n (k n k' n' : Int) (s s' : ByteArray) (w : World) (HA : Hid (∀ W, Calls Tryd.prog 32 #[.agg #[.int .i64 k, .int .i64 n, .string s]] W fun e w' => e = .returned (.bool true) ∧ Below W.heap.size W w')) (HB : Hid (∀ W, Calls Tryd.prog 32 #[.agg #[.int .i64 k', .int .i64 n', .string s']] W fun e w' => e = .returned (.bool true) ∧ Below W.heap.size W w')) (h0 : n' = 0) (i0 : -9007199254740992 ≤ n) (i1 : n ≤ 9007199254740992) (i2 : -9007199254740992 ≤ n') (i3 : n' ≤ 9007199254740992) (ok on z : Int) (hzz : n * n' = z) (HO : Hid (∀ W, Calls Tryd.prog 35 #[.int .i64 n, .int .i64 n'] W fun e w' => e = .returned (.agg #[.int .i64 ok, .int .i64 on, .string ⟨#[]⟩]) ∧ Below W.heap.size W w')) : Calls Tryd.prog 17 #[.string ⟨#[42]⟩, .agg #[.int .i64 k, .int .i64 n, .string s], .agg #[.int .i64 k', .int .i64 n', .string s']] w fun e w' => e = .returned (.agg #[.int .i64 ok, .int .i64 on, .string ⟨#[]⟩]) ∧ Below w.heap.size w w' := by
  subst h0
  go_enter Tryd.func17, Tryd.ntmps17
  go_wp2_with fail
  refine (HA.out _).mono ?_
  rintro e w1 ⟨rfl, hb⟩
  have b1 : Below w.heap.size w w1 := thr (bel3 w _ _ _) hb (by simp <;> omega)
  have oa := kept hb (by simp <;> omega) (old2 w _ _ _)
  have ob := kept hb (by simp <;> omega) (mid2 w _ _ _)
  have oc := kept hb (by simp) (blk2 w _ _ _)
  clear hb
  obtain ⟨x0, x1, x2, _, _, _, _⟩ := tri ob
  go_wp2_with fail
  refine (HB.out _).mono ?_
  rintro e w2 ⟨rfl, hb⟩
  have b2 : Below w.heap.size w w2 := thr b1 hb b1.size
  replace oa := kept hb (tri oa).2.2.2.2.2.2 oa
  replace ob := kept hb (tri ob).2.2.2.2.2.2 ob
  replace oc := kept hb (tri oc).2.2.2.2.2.2 oc
  clear hb x0 x1 x2 b1
  obtain ⟨x0, x1, x2, _, _, _, _⟩ := tri ob
  obtain ⟨y0, y1, y2, _, _, _, _⟩ := tri oa
  go_wp2_with fail
  refine (HO.out _).mono ?_
  rintro e w3 ⟨rfl, hb⟩
  have b3 : Below w.heap.size w w3 := thr b2 hb b2.size
  obtain ⟨q0, q1, q2, f0, f1, f2, hz⟩ := tri (kept hb (tri oc).2.2.2.2.2.2 oc)
  clear hb
  go_wp2
  refine bodyPost_ret (v := .agg #[.int .i64 ok, .int .i64 on, .string ⟨#[]⟩]) (by simp [results, Tryd.results17, go_sem, q0, q1, q2]) rfl ?_
  exact ⟨rfl, st3 b3 (by omega)⟩

set_option maxRecDepth 100000 in
set_option linter.unusedVariables false in
set_option maxHeartbeats 2000000 in
theorem two_mul_o (k n k' n' : Int) (s s' : ByteArray) (w : World) (HA : Hid (∀ W, Calls Tryd.prog 32 #[.agg #[.int .i64 k, .int .i64 n, .string s]] W fun e w' => e = .returned (.bool true) ∧ Below W.heap.size W w')) (HB : Hid (∀ W, Calls Tryd.prog 32 #[.agg #[.int .i64 k', .int .i64 n', .string s']] W fun e w' => e = .returned (.bool true) ∧ Below W.heap.size W w')) (h0 : ¬ n' = 0) (i0 : -9007199254740992 ≤ n) (i1 : n ≤ 9007199254740992) (i2 : -9007199254740992 ≤ n') (i3 : n' ≤ 9007199254740992) (ok on z : Int) (hzz : n * n' = z) (HO : Hid (∀ W, Calls Tryd.prog 35 #[.int .i64 n, .int .i64 n'] W fun e w' => e = .returned (.agg #[.int .i64 ok, .int .i64 on, .string ⟨#[]⟩]) ∧ Below W.heap.size W w')) : Calls Tryd.prog 17 #[.string ⟨#[42]⟩, .agg #[.int .i64 k, .int .i64 n, .string s], .agg #[.int .i64 k', .int .i64 n', .string s']] w fun e w' => e = .returned (.agg #[.int .i64 ok, .int .i64 on, .string ⟨#[]⟩]) ∧ Below w.heap.size w w' := by
  have h0b : (n' == 0) = false := by simpa using h0
  go_enter Tryd.func17, Tryd.ntmps17
  go_wp2_with fail
  refine (HA.out _).mono ?_
  rintro e w1 ⟨rfl, hb⟩
  have b1 : Below w.heap.size w w1 := thr (bel3 w _ _ _) hb (by simp <;> omega)
  have oa := kept hb (by simp <;> omega) (old2 w _ _ _)
  have ob := kept hb (by simp <;> omega) (mid2 w _ _ _)
  have oc := kept hb (by simp) (blk2 w _ _ _)
  clear hb
  obtain ⟨x0, x1, x2, _, _, _, _⟩ := tri ob
  go_wp2_with fail
  refine (HB.out _).mono ?_
  rintro e w2 ⟨rfl, hb⟩
  have b2 : Below w.heap.size w w2 := thr b1 hb b1.size
  replace oa := kept hb (tri oa).2.2.2.2.2.2 oa
  replace ob := kept hb (tri ob).2.2.2.2.2.2 ob
  replace oc := kept hb (tri oc).2.2.2.2.2.2 oc
  clear hb x0 x1 x2 b1
  obtain ⟨x0, x1, x2, _, _, _, _⟩ := tri ob
  obtain ⟨y0, y1, y2, _, _, _, _⟩ := tri oa
  go_wp2_with fail
  refine (HO.out _).mono ?_
  rintro e w3 ⟨rfl, hb⟩
  have b3 : Below w.heap.size w w3 := thr b2 hb b2.size
  obtain ⟨q0, q1, q2, f0, f1, f2, hz⟩ := tri (kept hb (tri oc).2.2.2.2.2.2 oc)
  clear hb
  go_wp2
  refine bodyPost_ret (v := .agg #[.int .i64 ok, .int .i64 on, .string ⟨#[]⟩]) (by simp [results, Tryd.results17, go_sem, q0, q1, q2]) rfl ?_
  exact ⟨rfl, st3 b3 (by omega)⟩

set_option maxRecDepth 100000 in
set_option linter.unusedVariables false in
set_option maxHeartbeats 2000000 in
theorem two_div_a (k n k' n' : Int) (s s' : ByteArray) (w : World) (HA : Hid (∀ W, Calls Tryd.prog 32 #[.agg #[.int .i64 k, .int .i64 n, .string s]] W fun e w' => e = .returned (.bool false) ∧ Below W.heap.size W w')) : Calls Tryd.prog 17 #[.string ⟨#[47]⟩, .agg #[.int .i64 k, .int .i64 n, .string s], .agg #[.int .i64 k', .int .i64 n', .string s']] w fun e w' => e = .returned (.agg #[.int .i64 4, .int .i64 0, .string ⟨#[]⟩]) ∧ Below w.heap.size w w' := by
  go_enter Tryd.func17, Tryd.ntmps17
  go_wp2_with fail
  refine (HA.out _).mono ?_
  rintro e w1 ⟨rfl, hb⟩
  have b1 : Below w.heap.size w w1 := thr (bel3 w _ _ _) hb (by simp <;> omega)
  have oa := kept hb (by simp <;> omega) (old2 w _ _ _)
  have ob := kept hb (by simp <;> omega) (mid2 w _ _ _)
  have oc := kept hb (by simp) (blk2 w _ _ _)
  clear hb
  obtain ⟨q0, q1, q2, f0, f1, f2, hz⟩ := tri oc
  go_wp2
  refine bodyPost_ret (v := .agg #[.int .i64 4, .int .i64 0, .string ⟨#[]⟩]) (by simp [results, Tryd.results17, go_sem, q0, q1, q2]) rfl ?_
  exact ⟨rfl, st3 b1 (by omega)⟩

set_option maxRecDepth 100000 in
set_option linter.unusedVariables false in
set_option maxHeartbeats 2000000 in
theorem two_div_b (k n k' n' : Int) (s s' : ByteArray) (w : World) (HA : Hid (∀ W, Calls Tryd.prog 32 #[.agg #[.int .i64 k, .int .i64 n, .string s]] W fun e w' => e = .returned (.bool true) ∧ Below W.heap.size W w')) (HB : Hid (∀ W, Calls Tryd.prog 32 #[.agg #[.int .i64 k', .int .i64 n', .string s']] W fun e w' => e = .returned (.bool false) ∧ Below W.heap.size W w')) : Calls Tryd.prog 17 #[.string ⟨#[47]⟩, .agg #[.int .i64 k, .int .i64 n, .string s], .agg #[.int .i64 k', .int .i64 n', .string s']] w fun e w' => e = .returned (.agg #[.int .i64 4, .int .i64 0, .string ⟨#[]⟩]) ∧ Below w.heap.size w w' := by
  go_enter Tryd.func17, Tryd.ntmps17
  go_wp2_with fail
  refine (HA.out _).mono ?_
  rintro e w1 ⟨rfl, hb⟩
  have b1 : Below w.heap.size w w1 := thr (bel3 w _ _ _) hb (by simp <;> omega)
  have oa := kept hb (by simp <;> omega) (old2 w _ _ _)
  have ob := kept hb (by simp <;> omega) (mid2 w _ _ _)
  have oc := kept hb (by simp) (blk2 w _ _ _)
  clear hb
  obtain ⟨x0, x1, x2, _, _, _, _⟩ := tri ob
  go_wp2_with fail
  refine (HB.out _).mono ?_
  rintro e w2 ⟨rfl, hb⟩
  have b2 : Below w.heap.size w w2 := thr b1 hb b1.size
  replace oa := kept hb (tri oa).2.2.2.2.2.2 oa
  replace ob := kept hb (tri ob).2.2.2.2.2.2 ob
  replace oc := kept hb (tri oc).2.2.2.2.2.2 oc
  clear hb x0 x1 x2 b1
  obtain ⟨x0, x1, x2, _, _, _, _⟩ := tri ob
  obtain ⟨y0, y1, y2, _, _, _, _⟩ := tri oa
  obtain ⟨q0, q1, q2, f0, f1, f2, hz⟩ := tri oc
  go_wp2
  refine bodyPost_ret (v := .agg #[.int .i64 4, .int .i64 0, .string ⟨#[]⟩]) (by simp [results, Tryd.results17, go_sem, q0, q1, q2]) rfl ?_
  exact ⟨rfl, st3 b2 (by omega)⟩

set_option maxRecDepth 100000 in
set_option linter.unusedVariables false in
set_option maxHeartbeats 2000000 in
theorem two_div_z (k n k' n' : Int) (s s' : ByteArray) (w : World) (HA : Hid (∀ W, Calls Tryd.prog 32 #[.agg #[.int .i64 k, .int .i64 n, .string s]] W fun e w' => e = .returned (.bool true) ∧ Below W.heap.size W w')) (HB : Hid (∀ W, Calls Tryd.prog 32 #[.agg #[.int .i64 k', .int .i64 n', .string s']] W fun e w' => e = .returned (.bool true) ∧ Below W.heap.size W w')) (h0 : n' = 0) : Calls Tryd.prog 17 #[.string ⟨#[47]⟩, .agg #[.int .i64 k, .int .i64 n, .string s], .agg #[.int .i64 k', .int .i64 n', .string s']] w fun e w' => e = .returned (.agg #[.int .i64 4, .int .i64 0, .string ⟨#[]⟩]) ∧ Below w.heap.size w w' := by
  subst h0
  go_enter Tryd.func17, Tryd.ntmps17
  go_wp2_with fail
  refine (HA.out _).mono ?_
  rintro e w1 ⟨rfl, hb⟩
  have b1 : Below w.heap.size w w1 := thr (bel3 w _ _ _) hb (by simp <;> omega)
  have oa := kept hb (by simp <;> omega) (old2 w _ _ _)
  have ob := kept hb (by simp <;> omega) (mid2 w _ _ _)
  have oc := kept hb (by simp) (blk2 w _ _ _)
  clear hb
  obtain ⟨x0, x1, x2, _, _, _, _⟩ := tri ob
  go_wp2_with fail
  refine (HB.out _).mono ?_
  rintro e w2 ⟨rfl, hb⟩
  have b2 : Below w.heap.size w w2 := thr b1 hb b1.size
  replace oa := kept hb (tri oa).2.2.2.2.2.2 oa
  replace ob := kept hb (tri ob).2.2.2.2.2.2 ob
  replace oc := kept hb (tri oc).2.2.2.2.2.2 oc
  clear hb x0 x1 x2 b1
  obtain ⟨x0, x1, x2, _, _, _, _⟩ := tri ob
  obtain ⟨y0, y1, y2, _, _, _, _⟩ := tri oa
  obtain ⟨q0, q1, q2, f0, f1, f2, hz⟩ := tri oc
  go_wp2
  refine bodyPost_ret (v := .agg #[.int .i64 4, .int .i64 0, .string ⟨#[]⟩]) (by simp [results, Tryd.results17, go_sem, q0, q1, q2]) rfl ?_
  exact ⟨rfl, st3 b2 (by omega)⟩

set_option maxRecDepth 100000 in
set_option linter.unusedVariables false in
set_option maxHeartbeats 2000000 in
theorem two_div_o (k n k' n' : Int) (s s' : ByteArray) (w : World) (HA : Hid (∀ W, Calls Tryd.prog 32 #[.agg #[.int .i64 k, .int .i64 n, .string s]] W fun e w' => e = .returned (.bool true) ∧ Below W.heap.size W w')) (HB : Hid (∀ W, Calls Tryd.prog 32 #[.agg #[.int .i64 k', .int .i64 n', .string s']] W fun e w' => e = .returned (.bool true) ∧ Below W.heap.size W w')) (h0 : ¬ n' = 0) (i0 : -9007199254740992 ≤ n) (i1 : n ≤ 9007199254740992) (i2 : -9007199254740992 ≤ n') (i3 : n' ≤ 9007199254740992) (ok on z : Int) (hzz : n.tdiv n' = z) (z0 : -18014398509481984 ≤ z) (z1 : z ≤ 18014398509481984) (HO : Hid (∀ W, Calls Tryd.prog 11 #[.int .i64 z] W fun e w' => e = .returned (.agg #[.int .i64 ok, .int .i64 on, .string ⟨#[]⟩]) ∧ Below W.heap.size W w')) : Calls Tryd.prog 17 #[.string ⟨#[47]⟩, .agg #[.int .i64 k, .int .i64 n, .string s], .agg #[.int .i64 k', .int .i64 n', .string s']] w fun e w' => e = .returned (.agg #[.int .i64 ok, .int .i64 on, .string ⟨#[]⟩]) ∧ Below w.heap.size w w' := by
  have h0b : (n' == 0) = false := by simpa using h0
  go_enter Tryd.func17, Tryd.ntmps17
  go_wp2_with fail
  refine (HA.out _).mono ?_
  rintro e w1 ⟨rfl, hb⟩
  have b1 : Below w.heap.size w w1 := thr (bel3 w _ _ _) hb (by simp <;> omega)
  have oa := kept hb (by simp <;> omega) (old2 w _ _ _)
  have ob := kept hb (by simp <;> omega) (mid2 w _ _ _)
  have oc := kept hb (by simp) (blk2 w _ _ _)
  clear hb
  obtain ⟨x0, x1, x2, _, _, _, _⟩ := tri ob
  go_wp2_with fail
  refine (HB.out _).mono ?_
  rintro e w2 ⟨rfl, hb⟩
  have b2 : Below w.heap.size w w2 := thr b1 hb b1.size
  replace oa := kept hb (tri oa).2.2.2.2.2.2 oa
  replace ob := kept hb (tri ob).2.2.2.2.2.2 ob
  replace oc := kept hb (tri oc).2.2.2.2.2.2 oc
  clear hb x0 x1 x2 b1
  obtain ⟨x0, x1, x2, _, _, _, _⟩ := tri ob
  obtain ⟨y0, y1, y2, _, _, _, _⟩ := tri oa
  go_wp2_with fail
  refine (HO.out _).mono ?_
  rintro e w3 ⟨rfl, hb⟩
  have b3 : Below w.heap.size w w3 := thr b2 hb b2.size
  obtain ⟨q0, q1, q2, f0, f1, f2, hz⟩ := tri (kept hb (tri oc).2.2.2.2.2.2 oc)
  clear hb
  go_wp2
  refine bodyPost_ret (v := .agg #[.int .i64 ok, .int .i64 on, .string ⟨#[]⟩]) (by simp [results, Tryd.results17, go_sem, q0, q1, q2]) rfl ?_
  exact ⟨rfl, st3 b3 (by omega)⟩

set_option maxRecDepth 100000 in
set_option linter.unusedVariables false in
set_option maxHeartbeats 2000000 in
theorem two_rem_a (k n k' n' : Int) (s s' : ByteArray) (w : World) (HA : Hid (∀ W, Calls Tryd.prog 32 #[.agg #[.int .i64 k, .int .i64 n, .string s]] W fun e w' => e = .returned (.bool false) ∧ Below W.heap.size W w')) : Calls Tryd.prog 17 #[.string ⟨#[37]⟩, .agg #[.int .i64 k, .int .i64 n, .string s], .agg #[.int .i64 k', .int .i64 n', .string s']] w fun e w' => e = .returned (.agg #[.int .i64 4, .int .i64 0, .string ⟨#[]⟩]) ∧ Below w.heap.size w w' := by
  go_enter Tryd.func17, Tryd.ntmps17
  go_wp2_with fail
  refine (HA.out _).mono ?_
  rintro e w1 ⟨rfl, hb⟩
  have b1 : Below w.heap.size w w1 := thr (bel3 w _ _ _) hb (by simp <;> omega)
  have oa := kept hb (by simp <;> omega) (old2 w _ _ _)
  have ob := kept hb (by simp <;> omega) (mid2 w _ _ _)
  have oc := kept hb (by simp) (blk2 w _ _ _)
  clear hb
  obtain ⟨q0, q1, q2, f0, f1, f2, hz⟩ := tri oc
  go_wp2
  refine bodyPost_ret (v := .agg #[.int .i64 4, .int .i64 0, .string ⟨#[]⟩]) (by simp [results, Tryd.results17, go_sem, q0, q1, q2]) rfl ?_
  exact ⟨rfl, st3 b1 (by omega)⟩

set_option maxRecDepth 100000 in
set_option linter.unusedVariables false in
set_option maxHeartbeats 2000000 in
theorem two_rem_b (k n k' n' : Int) (s s' : ByteArray) (w : World) (HA : Hid (∀ W, Calls Tryd.prog 32 #[.agg #[.int .i64 k, .int .i64 n, .string s]] W fun e w' => e = .returned (.bool true) ∧ Below W.heap.size W w')) (HB : Hid (∀ W, Calls Tryd.prog 32 #[.agg #[.int .i64 k', .int .i64 n', .string s']] W fun e w' => e = .returned (.bool false) ∧ Below W.heap.size W w')) : Calls Tryd.prog 17 #[.string ⟨#[37]⟩, .agg #[.int .i64 k, .int .i64 n, .string s], .agg #[.int .i64 k', .int .i64 n', .string s']] w fun e w' => e = .returned (.agg #[.int .i64 4, .int .i64 0, .string ⟨#[]⟩]) ∧ Below w.heap.size w w' := by
  go_enter Tryd.func17, Tryd.ntmps17
  go_wp2_with fail
  refine (HA.out _).mono ?_
  rintro e w1 ⟨rfl, hb⟩
  have b1 : Below w.heap.size w w1 := thr (bel3 w _ _ _) hb (by simp <;> omega)
  have oa := kept hb (by simp <;> omega) (old2 w _ _ _)
  have ob := kept hb (by simp <;> omega) (mid2 w _ _ _)
  have oc := kept hb (by simp) (blk2 w _ _ _)
  clear hb
  obtain ⟨x0, x1, x2, _, _, _, _⟩ := tri ob
  go_wp2_with fail
  refine (HB.out _).mono ?_
  rintro e w2 ⟨rfl, hb⟩
  have b2 : Below w.heap.size w w2 := thr b1 hb b1.size
  replace oa := kept hb (tri oa).2.2.2.2.2.2 oa
  replace ob := kept hb (tri ob).2.2.2.2.2.2 ob
  replace oc := kept hb (tri oc).2.2.2.2.2.2 oc
  clear hb x0 x1 x2 b1
  obtain ⟨x0, x1, x2, _, _, _, _⟩ := tri ob
  obtain ⟨y0, y1, y2, _, _, _, _⟩ := tri oa
  obtain ⟨q0, q1, q2, f0, f1, f2, hz⟩ := tri oc
  go_wp2
  refine bodyPost_ret (v := .agg #[.int .i64 4, .int .i64 0, .string ⟨#[]⟩]) (by simp [results, Tryd.results17, go_sem, q0, q1, q2]) rfl ?_
  exact ⟨rfl, st3 b2 (by omega)⟩

set_option maxRecDepth 100000 in
set_option linter.unusedVariables false in
set_option maxHeartbeats 2000000 in
theorem two_rem_z (k n k' n' : Int) (s s' : ByteArray) (w : World) (HA : Hid (∀ W, Calls Tryd.prog 32 #[.agg #[.int .i64 k, .int .i64 n, .string s]] W fun e w' => e = .returned (.bool true) ∧ Below W.heap.size W w')) (HB : Hid (∀ W, Calls Tryd.prog 32 #[.agg #[.int .i64 k', .int .i64 n', .string s']] W fun e w' => e = .returned (.bool true) ∧ Below W.heap.size W w')) (h0 : n' = 0) : Calls Tryd.prog 17 #[.string ⟨#[37]⟩, .agg #[.int .i64 k, .int .i64 n, .string s], .agg #[.int .i64 k', .int .i64 n', .string s']] w fun e w' => e = .returned (.agg #[.int .i64 4, .int .i64 0, .string ⟨#[]⟩]) ∧ Below w.heap.size w w' := by
  subst h0
  go_enter Tryd.func17, Tryd.ntmps17
  go_wp2_with fail
  refine (HA.out _).mono ?_
  rintro e w1 ⟨rfl, hb⟩
  have b1 : Below w.heap.size w w1 := thr (bel3 w _ _ _) hb (by simp <;> omega)
  have oa := kept hb (by simp <;> omega) (old2 w _ _ _)
  have ob := kept hb (by simp <;> omega) (mid2 w _ _ _)
  have oc := kept hb (by simp) (blk2 w _ _ _)
  clear hb
  obtain ⟨x0, x1, x2, _, _, _, _⟩ := tri ob
  go_wp2_with fail
  refine (HB.out _).mono ?_
  rintro e w2 ⟨rfl, hb⟩
  have b2 : Below w.heap.size w w2 := thr b1 hb b1.size
  replace oa := kept hb (tri oa).2.2.2.2.2.2 oa
  replace ob := kept hb (tri ob).2.2.2.2.2.2 ob
  replace oc := kept hb (tri oc).2.2.2.2.2.2 oc
  clear hb x0 x1 x2 b1
  obtain ⟨x0, x1, x2, _, _, _, _⟩ := tri ob
  obtain ⟨y0, y1, y2, _, _, _, _⟩ := tri oa
  obtain ⟨q0, q1, q2, f0, f1, f2, hz⟩ := tri oc
  go_wp2
  refine bodyPost_ret (v := .agg #[.int .i64 4, .int .i64 0, .string ⟨#[]⟩]) (by simp [results, Tryd.results17, go_sem, q0, q1, q2]) rfl ?_
  exact ⟨rfl, st3 b2 (by omega)⟩

def K2 (w : World) (b : Nat) (k n k' n' : Int) (s s' : ByteArray) : World → Prop := fun U => Below w.heap.size w U ∧ (U.heap[b]? = some (.cells #[.int .i64 k, .int .i64 n, .string s] 23 (0, 0)) ∧ U.heap[b + 1]? = some (.cells #[.int .i64 k', .int .i64 n', .string s'] 23 (0, 0)) ∧ (∃ x y z, U.heap[b + 1 + 1]? = some (.cells #[x, y, z] 23 (0, 0)))) ∧ U.cell? ⟨b, 0, none⟩ = some (.int .i64 k) ∧ U.cell? ⟨b, 1, none⟩ = some (.int .i64 n) ∧ U.cell? ⟨b, 2, none⟩ = some (.string s) ∧ U.cell? ⟨b + 1, 0, none⟩ = some (.int .i64 k') ∧ U.cell? ⟨b + 1, 1, none⟩ = some (.int .i64 n') ∧ U.cell? ⟨b + 1, 2, none⟩ = some (.string s')
theorem k2_of {w U : World} {b : Nat} {k n k' n' : Int} {s s' : ByteArray} (B : Below w.heap.size w U) (f : U.heap[b]? = some (.cells #[.int .i64 k, .int .i64 n, .string s] 23 (0, 0))) (f' : U.heap[b + 1]? = some (.cells #[.int .i64 k', .int .i64 n', .string s'] 23 (0, 0))) (g : ∃ x y z, U.heap[b + 1 + 1]? = some (.cells #[x, y, z] 23 (0, 0))) : K2 w b k n k' n' s s' U := by
  obtain ⟨p0, p1, p2, _, _, _, _⟩ := tri f
  obtain ⟨q0, q1, q2, _, _, _, _⟩ := tri f'
  exact ⟨B, ⟨f, f', g⟩, p0, p1, p2, q0, q1, q2⟩
theorem k2_call {w U U' : World} {b : Nat} {k n k' n' : Int} {s s' : ByteArray} (h : K2 w b k n k' n' s s' U) (hb : Below U.heap.size U U') : K2 w b k n k' n' s s' U' := by
  obtain ⟨B, ⟨f, f', x, y, z, g⟩, _⟩ := h
  exact k2_of (thr B hb B.size) (kept hb (tri f).2.2.2.2.2.2 f) (kept hb (tri f').2.2.2.2.2.2 f') ⟨x, y, z, kept hb (tri g).2.2.2.2.2.2 g⟩

def ops_tworem : Array Oper := #[{ dst := some 61, op := Op.fieldAddr 23 (Operand.tmp 4) 1, type := 0, pos := "ref.go:42", after := #[], guard := none }, { dst := some 62, op := Op.load 3 (Operand.tmp 61), type := 3, pos := "ref.go:42", after := #[{ on := 0, ground := Ground.data }], guard := none }, { dst := some 63, op := Op.fieldAddr 23 (Operand.tmp 5) 1, type := 0, pos := "ref.go:42", after := #[], guard := none }, { dst := some 64, op := Op.load 3 (Operand.tmp 63), type := 3, pos := "ref.go:42", after := #[{ on := 2, ground := Ground.data }], guard := none }, { dst := some 65, op := Op.fieldAddr 23 (Operand.tmp 4) 1, type := 0, pos := "ref.go:42", after := #[], guard := none }, { dst := some 66, op := Op.load 3 (Operand.tmp 65), type := 3, pos := "ref.go:42", after := #[{ on := 4, ground := Ground.data }], guard := none }, { dst := some 67, op := Op.fieldAddr 23 (Operand.tmp 5) 1, type := 0, pos := "ref.go:42", after := #[], guard := none }, { dst := some 68, op := Op.load 3 (Operand.tmp 67), type := 3, pos := "ref.go:42", after := #[{ on := 6, ground := Ground.data }], guard := none }, { dst := some 69, op := Op.binOp BinOp.quo 3 (Operand.tmp 66) (Operand.tmp 68) 3, type := 3, pos := "ref.go:42", after := #[{ on := 5, ground := Ground.data }, { on := 7, ground := Ground.data }], guard := none }, { dst := some 70, op := Op.binOp BinOp.mul 3 (Operand.tmp 64) (Operand.tmp 69) 3, type := 3, pos := "ref.go:42", after := #[{ on := 3, ground := Ground.data }, { on := 8, ground := Ground.data }], guard := none }, { dst := some 71, op := Op.binOp BinOp.sub 3 (Operand.tmp 62) (Operand.tmp 70) 3, type := 3, pos := "ref.go:42", after := #[{ on := 1, ground := Ground.data }, { on := 9, ground := Ground.data }], guard := none }, { dst := some 72, op := Op.call { callee := Callee.value (Operand.func 11), args := #[Operand.tmp 71], argTypes := #[3] }, type := 23, pos := "ref.go:42", after := #[{ on := 10, ground := Ground.data }], guard := none }, { dst := none, op := Op.store 23 (Operand.tmp 6) (Operand.tmp 72), type := 0, pos := "ref.go:42", after := #[{ on := 11, ground := Ground.data }, { on := 11, ground := Ground.chain }, { on := 0, ground := Ground.phase }, { on := 1, ground := Ground.phase }, { on := 2, ground := Ground.phase }, { on := 3, ground := Ground.phase }, { on := 4, ground := Ground.phase }, { on := 5, ground := Ground.phase }, { on := 6, ground := Ground.phase }, { on := 7, ground := Ground.phase }, { on := 8, ground := Ground.phase }, { on := 9, ground := Ground.phase }, { on := 10, ground := Ground.phase }, { on := 11, ground := Ground.phase }], guard := none }]
def fin_tworem (k n k' n' q m z ok on : Int) (s s' : ByteArray) (w : World) (b : Nat) : Act → World → Prop := fun act V => act = { tmps := #[.string ⟨#[37]⟩, .agg #[.int .i64 k, .int .i64 n, .string s], .agg #[.int .i64 k', .int .i64 n', .string s'], undef, .pointer (some ⟨b, 0, none⟩), .pointer (some ⟨b + 1, 0, none⟩), .pointer (some ⟨b + 1 + 1, 0, none⟩), .agg #[.int .i64 k, .int .i64 n, .string s], .bool true, .bool false, .bool false, .agg #[.int .i64 k', .int .i64 n', .string s'], .bool true, .bool false, .bool false, .bool false, .pointer (some ⟨b + 1, 1, none⟩), .int .i64 n', .bool false, .bool false, undef, undef, undef, undef, undef, undef, .bool false, .bool false, undef, .string ⟨#[37]⟩, .bool false, .bool false, undef, undef, undef, undef, undef, undef, .bool false, .bool false, undef, undef, undef, undef, undef, undef, .bool false, .bool false, undef, undef, undef, undef, undef, .bool false, .bool false, undef, undef, undef, undef, undef, undef, .pointer (some ⟨b, 1, none⟩), .int .i64 n, .pointer (some ⟨b + 1, 1, none⟩), .int .i64 n', .pointer (some ⟨b, 1, none⟩), .int .i64 n, .pointer (some ⟨b + 1, 1, none⟩), .int .i64 n', .int .i64 q, .int .i64 m, .int .i64 z, .agg #[.int .i64 ok, .int .i64 on, .string ⟨#[]⟩]], defers := [] } ∧ (K2 w b k n k' n' s s') V ∧ V.heap[b + 1 + 1]? = some (V3 ok on)

set_option maxRecDepth 100000 in
set_option linter.unusedVariables false in
set_option maxHeartbeats 2000000 in
theorem tworem_13 (Q : Exit → Act → World → Prop) (hQ : ∀ c a (d : Nat) v w, Q (.panic c) (Act.put a (some d) v) w → Q (.panic c) a w) (k n k' n' q m z ok on : Int) (s s' : ByteArray) (w : World) (b : Nat) (HR : Hid (∀ act V, fin_tworem k n k' n' q m z ok on s s' w b act V → Q .normal act V)) (hlb : w.heap.size ≤ b) (hq : n.tdiv n' = q) (hm : n' * q = m) (hz : n - m = z) (h0b : (n' == 0) = false) (h0 : ¬ n' = 0) (i0 : -9007199254740992 ≤ n) (i1 : n ≤ 9007199254740992) (i2 : -9007199254740992 ≤ n') (i3 : n' ≤ 9007199254740992) (j0 : -9007199254740992 ≤ q) (j1 : q ≤ 9007199254740992) (j2 : -9007199254740992 ≤ m) (j3 : m ≤ 9007199254740992) (j4 : -9007199254740992 ≤ z) (j5 : z ≤ 9007199254740992) (HO : Hid (∀ W, Calls Tryd.prog 11 #[.int .i64 z] W fun e w' => e = .returned (.agg #[.int .i64 ok, .int .i64 on, .string ⟨#[]⟩]) ∧ Below W.heap.size W w')) (V : World) (hV : (K2 w b k n k' n' s s') V) (g1 : V.heap[b + 1 + 1]? = some (V3 ok on)) : wpAnyH Tryd.prog .any ops_tworem Q (K2 w b k n k' n' s s') 0 #[true, true, true, true, true, true, true, true, true, true, true, true, true] { tmps := #[.string ⟨#[37]⟩, .agg #[.int .i64 k, .int .i64 n, .string s], .agg #[.int .i64 k', .int .i64 n', .string s'], undef, .pointer (some ⟨b, 0, none⟩), .pointer (some ⟨b + 1, 0, none⟩), .pointer (some ⟨b + 1 + 1, 0, none⟩), .agg #[.int .i64 k, .int .i64 n, .string s], .bool true, .bool false, .bool false, .agg #[.int .i64 k', .int .i64 n', .string s'], .bool true, .bool false, .bool false, .bool false, .pointer (some ⟨b + 1, 1, none⟩), .int .i64 n', .bool false, .bool false, undef, undef, undef, undef, undef, undef, .bool false, .bool false, undef, .string ⟨#[37]⟩, .bool false, .bool false, undef, undef, undef, undef, undef, undef, .bool false, .bool false, undef, undef, undef, undef, undef, undef, .bool false, .bool false, undef, undef, undef, undef, undef, .bool false, .bool false, undef, undef, undef, undef, undef, undef, .pointer (some ⟨b, 1, none⟩), .int .i64 n, .pointer (some ⟨b + 1, 1, none⟩), .int .i64 n', .pointer (some ⟨b, 1, none⟩), .int .i64 n, .pointer (some ⟨b + 1, 1, none⟩), .int .i64 n', .int .i64 q, .int .i64 m, .int .i64 z, .agg #[.int .i64 ok, .int .i64 on, .string ⟨#[]⟩]], defers := [] } V := by
  refine wpAnyH_done (by kernel_rfl) ?_ _
  exact HR.out _ _ ⟨rfl, hV, g1⟩

set_option maxRecDepth 100000 in
set_option linter.unusedVariables false in
set_option maxHeartbeats 2000000 in
theorem tworem_12 (Q : Exit → Act → World → Prop) (hQ : ∀ c a (d : Nat) v w, Q (.panic c) (Act.put a (some d) v) w → Q (.panic c) a w) (k n k' n' q m z ok on : Int) (s s' : ByteArray) (w : World) (b : Nat) (HR : Hid (∀ act V, fin_tworem k n k' n' q m z ok on s s' w b act V → Q .normal act V)) (hlb : w.heap.size ≤ b) (hq : n.tdiv n' = q) (hm : n' * q = m) (hz : n - m = z) (h0b : (n' == 0) = false) (h0 : ¬ n' = 0) (i0 : -9007199254740992 ≤ n) (i1 : n ≤ 9007199254740992) (i2 : -9007199254740992 ≤ n') (i3 : n' ≤ 9007199254740992) (j0 : -9007199254740992 ≤ q) (j1 : q ≤ 9007199254740992) (j2 : -9007199254740992 ≤ m) (j3 : m ≤ 9007199254740992) (j4 : -9007199254740992 ≤ z) (j5 : z ≤ 9007199254740992) (HO : Hid (∀ W, Calls Tryd.prog 11 #[.int .i64 z] W fun e w' => e = .returned (.agg #[.int .i64 ok, .int .i64 on, .string ⟨#[]⟩]) ∧ Below W.heap.size W w')) (V : World) (hV : (K2 w b k n k' n' s s') V) : wpAnyH Tryd.prog .any ops_tworem Q (K2 w b k n k' n' s s') 1 #[true, true, true, true, true, true, true, true, true, true, true, true, false] { tmps := #[.string ⟨#[37]⟩, .agg #[.int .i64 k, .int .i64 n, .string s], .agg #[.int .i64 k', .int .i64 n', .string s'], undef, .pointer (some ⟨b, 0, none⟩), .pointer (some ⟨b + 1, 0, none⟩), .pointer (some ⟨b + 1 + 1, 0, none⟩), .agg #[.int .i64 k, .int .i64 n, .string s], .bool true, .bool false, .bool false, .agg #[.int .i64 k', .int .i64 n', .string s'], .bool true, .bool false, .bool false, .bool false, .pointer (some ⟨b + 1, 1, none⟩), .int .i64 n', .bool false, .bool false, undef, undef, undef, undef, undef, undef, .bool false, .bool false, undef, .string ⟨#[37]⟩, .bool false, .bool false, undef, undef, undef, undef, undef, undef, .bool false, .bool false, undef, undef, undef, undef, undef, undef, .bool false, .bool false, undef, undef, undef, undef, undef, .bool false, .bool false, undef, undef, undef, undef, undef, undef, .pointer (some ⟨b, 1, none⟩), .int .i64 n, .pointer (some ⟨b + 1, 1, none⟩), .int .i64 n', .pointer (some ⟨b, 1, none⟩), .int .i64 n, .pointer (some ⟨b + 1, 1, none⟩), .int .i64 n', .int .i64 q, .int .i64 m, .int .i64 z, .agg #[.int .i64 ok, .int .i64 on, .string ⟨#[]⟩]], defers := [] } V := by
  refine wpAnyH_ready (rs := [12]) (by kernel_rfl) (by simp) ?_
  refine AllReadyH.cons (o := { dst := none, op := Op.store 23 (Operand.tmp 6) (Operand.tmp 72), type := 0, pos := "ref.go:42", after := #[{ on := 11, ground := Ground.data }, { on := 11, ground := Ground.chain }, { on := 0, ground := Ground.phase }, { on := 1, ground := Ground.phase }, { on := 2, ground := Ground.phase }, { on := 3, ground := Ground.phase }, { on := 4, ground := Ground.phase }, { on := 5, ground := Ground.phase }, { on := 6, ground := Ground.phase }, { on := 7, ground := Ground.phase }, { on := 8, ground := Ground.phase }, { on := 9, ground := Ground.phase }, { on := 10, ground := Ground.phase }, { on := 11, ground := Ground.phase }], guard := none }) rfl (fun K hK => ?_) AllReadyH.nil
  have HK := Lib.hid hK.out
  clear hK
  obtain ⟨B, ⟨f, f', x, y, z', g⟩, _⟩ := hV
  obtain ⟨_, _, _, z0, z1, z2, _⟩ := tri g
  go_simp
  obtain ⟨v1, e1⟩ : ∃ U, U = set3 V (b + 1 + 1) (.int .i64 ok) (.int .i64 on) (.string ⟨#[]⟩) := ⟨_, rfl⟩
  have g1 : v1.heap[b + 1 + 1]? = some (V3 ok on) := by rw [e1]; exact set3_new _ _ _ _ _ _ _ _ g
  have hV : K2 w b k n k' n' s s' v1 := by
    rw [e1]
    exact k2_of (st3 B (by omega)) ((set3_old _ _ _ _ _ _ (by omega)).trans f) ((set3_old _ _ _ _ _ _ (by omega)).trans f') ⟨_, _, _, set3_new _ _ _ _ _ _ _ _ g⟩
  change K _ (set3 V (b + 1 + 1) (.int .i64 ok) (.int .i64 on) (.string ⟨#[]⟩))
  rw [← e1]
  refine HK.out _ _ (by exact hV) (fun _ => ?_)
  exact tworem_13 Q hQ k n k' n' q m z ok on s s' w b HR hlb hq hm hz h0b h0 i0 i1 i2 i3 j0 j1 j2 j3 j4 j5 HO _ hV g1

set_option maxRecDepth 100000 in
set_option linter.unusedVariables false in
set_option maxHeartbeats 2000000 in
theorem tworem_11 (Q : Exit → Act → World → Prop) (hQ : ∀ c a (d : Nat) v w, Q (.panic c) (Act.put a (some d) v) w → Q (.panic c) a w) (k n k' n' q m z ok on : Int) (s s' : ByteArray) (w : World) (b : Nat) (HR : Hid (∀ act V, fin_tworem k n k' n' q m z ok on s s' w b act V → Q .normal act V)) (hlb : w.heap.size ≤ b) (hq : n.tdiv n' = q) (hm : n' * q = m) (hz : n - m = z) (h0b : (n' == 0) = false) (h0 : ¬ n' = 0) (i0 : -9007199254740992 ≤ n) (i1 : n ≤ 9007199254740992) (i2 : -9007199254740992 ≤ n') (i3 : n' ≤ 9007199254740992) (j0 : -9007199254740992 ≤ q) (j1 : q ≤ 9007199254740992) (j2 : -9007199254740992 ≤ m) (j3 : m ≤ 9007199254740992) (j4 : -9007199254740992 ≤ z) (j5 : z ≤ 9007199254740992) (HO : Hid (∀ W, Calls Tryd.prog 11 #[.int .i64 z] W fun e w' => e = .returned (.agg #[.int .i64 ok, .int .i64 on, .string ⟨#[]⟩]) ∧ Below W.heap.size W w')) (V : World) (hV : (K2 w b k n k' n' s s') V) : wpAnyH Tryd.prog .any ops_tworem Q (K2 w b k n k' n' s s') 2 #[true, true, true, true, true, true, true, true, true, true, true, false, false] { tmps := #[.string ⟨#[37]⟩, .agg #[.int .i64 k, .int .i64 n, .string s], .agg #[.int .i64 k', .int .i64 n', .string s'], undef, .pointer (some ⟨b, 0, none⟩), .pointer (some ⟨b + 1, 0, none⟩), .pointer (some ⟨b + 1 + 1, 0, none⟩), .agg #[.int .i64 k, .int .i64 n, .string s], .bool true, .bool false, .bool false, .agg #[.int .i64 k', .int .i64 n', .string s'], .bool true, .bool false, .bool false, .bool false, .pointer (some ⟨b + 1, 1, none⟩), .int .i64 n', .bool false, .bool false, undef, undef, undef, undef, undef, undef, .bool false, .bool false, undef, .string ⟨#[37]⟩, .bool false, .bool false, undef, undef, undef, undef, undef, undef, .bool false, .bool false, undef, undef, undef, undef, undef, undef, .bool false, .bool false, undef, undef, undef, undef, undef, .bool false, .bool false, undef, undef, undef, undef, undef, undef, .pointer (some ⟨b, 1, none⟩), .int .i64 n, .pointer (some ⟨b + 1, 1, none⟩), .int .i64 n', .pointer (some ⟨b, 1, none⟩), .int .i64 n, .pointer (some ⟨b + 1, 1, none⟩), .int .i64 n', .int .i64 q, .int .i64 m, .int .i64 z, undef], defers := [] } V := by
  refine wpAnyH_ready (rs := [11]) (by kernel_rfl) (by simp) ?_
  refine AllReadyH.cons (o := { dst := some 72, op := Op.call { callee := Callee.value (Operand.func 11), args := #[Operand.tmp 71], argTypes := #[3] }, type := 23, pos := "ref.go:42", after := #[{ on := 10, ground := Ground.data }], guard := none }) rfl (fun K hK => ?_) AllReadyH.nil
  have HK := Lib.hid hK.out
  clear hK
  go_wp2_with fail
  refine (HO.out _).mono ?_
  rintro e V' ⟨rfl, hb⟩
  replace hV := k2_call hV hb
  clear hb
  refine HK.out _ _ (by exact hV) (fun _ => ?_)
  exact tworem_12 Q hQ k n k' n' q m z ok on s s' w b HR hlb hq hm hz h0b h0 i0 i1 i2 i3 j0 j1 j2 j3 j4 j5 HO _ hV

set_option maxRecDepth 100000 in
set_option linter.unusedVariables false in
set_option maxHeartbeats 2000000 in
theorem tworem_10 (Q : Exit → Act → World → Prop) (hQ : ∀ c a (d : Nat) v w, Q (.panic c) (Act.put a (some d) v) w → Q (.panic c) a w) (k n k' n' q m z ok on : Int) (s s' : ByteArray) (w : World) (b : Nat) (HR : Hid (∀ act V, fin_tworem k n k' n' q m z ok on s s' w b act V → Q .normal act V)) (hlb : w.heap.size ≤ b) (hq : n.tdiv n' = q) (hm : n' * q = m) (hz : n - m = z) (h0b : (n' == 0) = false) (h0 : ¬ n' = 0) (i0 : -9007199254740992 ≤ n) (i1 : n ≤ 9007199254740992) (i2 : -9007199254740992 ≤ n') (i3 : n' ≤ 9007199254740992) (j0 : -9007199254740992 ≤ q) (j1 : q ≤ 9007199254740992) (j2 : -9007199254740992 ≤ m) (j3 : m ≤ 9007199254740992) (j4 : -9007199254740992 ≤ z) (j5 : z ≤ 9007199254740992) (HO : Hid (∀ W, Calls Tryd.prog 11 #[.int .i64 z] W fun e w' => e = .returned (.agg #[.int .i64 ok, .int .i64 on, .string ⟨#[]⟩]) ∧ Below W.heap.size W w')) (V : World) (hV : (K2 w b k n k' n' s s') V) : wpAnyH Tryd.prog .any ops_tworem Q (K2 w b k n k' n' s s') 3 #[true, true, true, true, true, true, true, true, true, true, false, false, false] { tmps := #[.string ⟨#[37]⟩, .agg #[.int .i64 k, .int .i64 n, .string s], .agg #[.int .i64 k', .int .i64 n', .string s'], undef, .pointer (some ⟨b, 0, none⟩), .pointer (some ⟨b + 1, 0, none⟩), .pointer (some ⟨b + 1 + 1, 0, none⟩), .agg #[.int .i64 k, .int .i64 n, .string s], .bool true, .bool false, .bool false, .agg #[.int .i64 k', .int .i64 n', .string s'], .bool true, .bool false, .bool false, .bool false, .pointer (some ⟨b + 1, 1, none⟩), .int .i64 n', .bool false, .bool false, undef, undef, undef, undef, undef, undef, .bool false, .bool false, undef, .string ⟨#[37]⟩, .bool false, .bool false, undef, undef, undef, undef, undef, undef, .bool false, .bool false, undef, undef, undef, undef, undef, undef, .bool false, .bool false, undef, undef, undef, undef, undef, .bool false, .bool false, undef, undef, undef, undef, undef, undef, .pointer (some ⟨b, 1, none⟩), .int .i64 n, .pointer (some ⟨b + 1, 1, none⟩), .int .i64 n', .pointer (some ⟨b, 1, none⟩), .int .i64 n, .pointer (some ⟨b + 1, 1, none⟩), .int .i64 n', .int .i64 q, .int .i64 m, undef, undef], defers := [] } V := by
  refine wpAnyH_take (i := 10) (oi := { dst := some 71, op := Op.binOp BinOp.sub 3 (Operand.tmp 62) (Operand.tmp 70) 3, type := 3, pos := "ref.go:42", after := #[{ on := 1, ground := Ground.data }, { on := 9, ground := Ground.data }], guard := none }) (v := .int .i64 z) rfl (by kernel_rfl) (by kernel_rfl) (by kernel_rfl) (fun c a w h => hQ c a _ _ w h) (Or.inl ⟨by kernel_rfl, ?_⟩) (by exact hV) ?_
  · intro U hS
    go_simp
    simp (disch := omega) only [IntWalk.i64_in]
  exact tworem_11 Q hQ k n k' n' q m z ok on s s' w b HR hlb hq hm hz h0b h0 i0 i1 i2 i3 j0 j1 j2 j3 j4 j5 HO _ hV

set_option maxRecDepth 100000 in
set_option linter.unusedVariables false in
set_option maxHeartbeats 2000000 in
theorem tworem_9 (Q : Exit → Act → World → Prop) (hQ : ∀ c a (d : Nat) v w, Q (.panic c) (Act.put a (some d) v) w → Q (.panic c) a w) (k n k' n' q m z ok on : Int) (s s' : ByteArray) (w : World) (b : Nat) (HR : Hid (∀ act V, fin_tworem k n k' n' q m z ok on s s' w b act V → Q .normal act V)) (hlb : w.heap.size ≤ b) (hq : n.tdiv n' = q) (hm : n' * q = m) (hz : n - m = z) (h0b : (n' == 0) = false) (h0 : ¬ n' = 0) (i0 : -9007199254740992 ≤ n) (i1 : n ≤ 9007199254740992) (i2 : -9007199254740992 ≤ n') (i3 : n' ≤ 9007199254740992) (j0 : -9007199254740992 ≤ q) (j1 : q ≤ 9007199254740992) (j2 : -9007199254740992 ≤ m) (j3 : m ≤ 9007199254740992) (j4 : -9007199254740992 ≤ z) (j5 : z ≤ 9007199254740992) (HO : Hid (∀ W, Calls Tryd.prog 11 #[.int .i64 z] W fun e w' => e = .returned (.agg #[.int .i64 ok, .int .i64 on, .string ⟨#[]⟩]) ∧ Below W.heap.size W w')) (V : World) (hV : (K2 w b k n k' n' s s') V) : wpAnyH Tryd.prog .any ops_tworem Q (K2 w b k n k' n' s s') 4 #[true, true, true, true, true, true, true, true, true, false, false, false, false] { tmps := #[.string ⟨#[37]⟩, .agg #[.int .i64 k, .int .i64 n, .string s], .agg #[.int .i64 k', .int .i64 n', .string s'], undef, .pointer (some ⟨b, 0, none⟩), .pointer (some ⟨b + 1, 0, none⟩), .pointer (some ⟨b + 1 + 1, 0, none⟩), .agg #[.int .i64 k, .int .i64 n, .string s], .bool true, .bool false, .bool false, .agg #[.int .i64 k', .int .i64 n', .string s'], .bool true, .bool false, .bool false, .bool false, .pointer (some ⟨b + 1, 1, none⟩), .int .i64 n', .bool false, .bool false, undef, undef, undef, undef, undef, undef, .bool false, .bool false, undef, .string ⟨#[37]⟩, .bool false, .bool false, undef, undef, undef, undef, undef, undef, .bool false, .bool false, undef, undef, undef, undef, undef, undef, .bool false, .bool false, undef, undef, undef, undef, undef, .bool false, .bool false, undef, undef, undef, undef, undef, undef, .pointer (some ⟨b, 1, none⟩), .int .i64 n, .pointer (some ⟨b + 1, 1, none⟩), .int .i64 n', .pointer (some ⟨b, 1, none⟩), .int .i64 n, .pointer (some ⟨b + 1, 1, none⟩), .int .i64 n', .int .i64 q, undef, undef, undef], defers := [] } V := by
  refine wpAnyH_take (i := 9) (oi := { dst := some 70, op := Op.binOp BinOp.mul 3 (Operand.tmp 64) (Operand.tmp 69) 3, type := 3, pos := "ref.go:42", after := #[{ on := 3, ground := Ground.data }, { on := 8, ground := Ground.data }], guard := none }) (v := .int .i64 m) rfl (by kernel_rfl) (by kernel_rfl) (by kernel_rfl) (fun c a w h => hQ c a _ _ w h) (Or.inl ⟨by kernel_rfl, ?_⟩) (by exact hV) ?_
  · intro U hS
    go_simp
    simp (disch := omega) only [IntWalk.i64_in]
  exact tworem_10 Q hQ k n k' n' q m z ok on s s' w b HR hlb hq hm hz h0b h0 i0 i1 i2 i3 j0 j1 j2 j3 j4 j5 HO _ hV

set_option maxRecDepth 100000 in
set_option linter.unusedVariables false in
set_option maxHeartbeats 2000000 in
theorem tworem_8 (Q : Exit → Act → World → Prop) (hQ : ∀ c a (d : Nat) v w, Q (.panic c) (Act.put a (some d) v) w → Q (.panic c) a w) (k n k' n' q m z ok on : Int) (s s' : ByteArray) (w : World) (b : Nat) (HR : Hid (∀ act V, fin_tworem k n k' n' q m z ok on s s' w b act V → Q .normal act V)) (hlb : w.heap.size ≤ b) (hq : n.tdiv n' = q) (hm : n' * q = m) (hz : n - m = z) (h0b : (n' == 0) = false) (h0 : ¬ n' = 0) (i0 : -9007199254740992 ≤ n) (i1 : n ≤ 9007199254740992) (i2 : -9007199254740992 ≤ n') (i3 : n' ≤ 9007199254740992) (j0 : -9007199254740992 ≤ q) (j1 : q ≤ 9007199254740992) (j2 : -9007199254740992 ≤ m) (j3 : m ≤ 9007199254740992) (j4 : -9007199254740992 ≤ z) (j5 : z ≤ 9007199254740992) (HO : Hid (∀ W, Calls Tryd.prog 11 #[.int .i64 z] W fun e w' => e = .returned (.agg #[.int .i64 ok, .int .i64 on, .string ⟨#[]⟩]) ∧ Below W.heap.size W w')) (V : World) (hV : (K2 w b k n k' n' s s') V) : wpAnyH Tryd.prog .any ops_tworem Q (K2 w b k n k' n' s s') 5 #[true, true, true, true, true, true, true, true, false, false, false, false, false] { tmps := #[.string ⟨#[37]⟩, .agg #[.int .i64 k, .int .i64 n, .string s], .agg #[.int .i64 k', .int .i64 n', .string s'], undef, .pointer (some ⟨b, 0, none⟩), .pointer (some ⟨b + 1, 0, none⟩), .pointer (some ⟨b + 1 + 1, 0, none⟩), .agg #[.int .i64 k, .int .i64 n, .string s], .bool true, .bool false, .bool false, .agg #[.int .i64 k', .int .i64 n', .string s'], .bool true, .bool false, .bool false, .bool false, .pointer (some ⟨b + 1, 1, none⟩), .int .i64 n', .bool false, .bool false, undef, undef, undef, undef, undef, undef, .bool false, .bool false, undef, .string ⟨#[37]⟩, .bool false, .bool false, undef, undef, undef, undef, undef, undef, .bool false, .bool false, undef, undef, undef, undef, undef, undef, .bool false, .bool false, undef, undef, undef, undef, undef, .bool false, .bool false, undef, undef, undef, undef, undef, undef, .pointer (some ⟨b, 1, none⟩), .int .i64 n, .pointer (some ⟨b + 1, 1, none⟩), .int .i64 n', .pointer (some ⟨b, 1, none⟩), .int .i64 n, .pointer (some ⟨b + 1, 1, none⟩), .int .i64 n', undef, undef, undef, undef], defers := [] } V := by
  refine wpAnyH_take (i := 8) (oi := { dst := some 69, op := Op.binOp BinOp.quo 3 (Operand.tmp 66) (Operand.tmp 68) 3, type := 3, pos := "ref.go:42", after := #[{ on := 5, ground := Ground.data }, { on := 7, ground := Ground.data }], guard := none }) (v := .int .i64 q) rfl (by kernel_rfl) (by kernel_rfl) (by kernel_rfl) (fun c a w h => hQ c a _ _ w h) (Or.inl ⟨by kernel_rfl, ?_⟩) (by exact hV) ?_
  · intro U hS
    go_simp
    simp (disch := omega) only [IntWalk.i64_in]
  exact tworem_9 Q hQ k n k' n' q m z ok on s s' w b HR hlb hq hm hz h0b h0 i0 i1 i2 i3 j0 j1 j2 j3 j4 j5 HO _ hV

set_option maxRecDepth 100000 in
set_option linter.unusedVariables false in
set_option maxHeartbeats 2000000 in
theorem tworem_7 (Q : Exit → Act → World → Prop) (hQ : ∀ c a (d : Nat) v w, Q (.panic c) (Act.put a (some d) v) w → Q (.panic c) a w) (k n k' n' q m z ok on : Int) (s s' : ByteArray) (w : World) (b : Nat) (HR : Hid (∀ act V, fin_tworem k n k' n' q m z ok on s s' w b act V → Q .normal act V)) (hlb : w.heap.size ≤ b) (hq : n.tdiv n' = q) (hm : n' * q = m) (hz : n - m = z) (h0b : (n' == 0) = false) (h0 : ¬ n' = 0) (i0 : -9007199254740992 ≤ n) (i1 : n ≤ 9007199254740992) (i2 : -9007199254740992 ≤ n') (i3 : n' ≤ 9007199254740992) (j0 : -9007199254740992 ≤ q) (j1 : q ≤ 9007199254740992) (j2 : -9007199254740992 ≤ m) (j3 : m ≤ 9007199254740992) (j4 : -9007199254740992 ≤ z) (j5 : z ≤ 9007199254740992) (HO : Hid (∀ W, Calls Tryd.prog 11 #[.int .i64 z] W fun e w' => e = .returned (.agg #[.int .i64 ok, .int .i64 on, .string ⟨#[]⟩]) ∧ Below W.heap.size W w')) (V : World) (hV : (K2 w b k n k' n' s s') V) : wpAnyH Tryd.prog .any ops_tworem Q (K2 w b k n k' n' s s') 6 #[true, true, true, true, true, true, true, false, false, false, false, false, false] { tmps := #[.string ⟨#[37]⟩, .agg #[.int .i64 k, .int .i64 n, .string s], .agg #[.int .i64 k', .int .i64 n', .string s'], undef, .pointer (some ⟨b, 0, none⟩), .pointer (some ⟨b + 1, 0, none⟩), .pointer (some ⟨b + 1 + 1, 0, none⟩), .agg #[.int .i64 k, .int .i64 n, .string s], .bool true, .bool false, .bool false, .agg #[.int .i64 k', .int .i64 n', .string s'], .bool true, .bool false, .bool false, .bool false, .pointer (some ⟨b + 1, 1, none⟩), .int .i64 n', .bool false, .bool false, undef, undef, undef, undef, undef, undef, .bool false, .bool false, undef, .string ⟨#[37]⟩, .bool false, .bool false, undef, undef, undef, undef, undef, undef, .bool false, .bool false, undef, undef, undef, undef, undef, undef, .bool false, .bool false, undef, undef, undef, undef, undef, .bool false, .bool false, undef, undef, undef, undef, undef, undef, .pointer (some ⟨b, 1, none⟩), .int .i64 n, .pointer (some ⟨b + 1, 1, none⟩), .int .i64 n', .pointer (some ⟨b, 1, none⟩), .int .i64 n, .pointer (some ⟨b + 1, 1, none⟩), undef, undef, undef, undef, undef], defers := [] } V := by
  refine wpAnyH_take (i := 7) (oi := { dst := some 68, op := Op.load 3 (Operand.tmp 67), type := 3, pos := "ref.go:42", after := #[{ on := 6, ground := Ground.data }], guard := none }) (v := .int .i64 n') rfl (by kernel_rfl) (by kernel_rfl) (by kernel_rfl) (fun c a w h => hQ c a _ _ w h) (Or.inl ⟨by kernel_rfl, ?_⟩) (by exact hV) ?_
  · intro U hS
    obtain ⟨_, _, p0, p1, p2, q0, q1, q2⟩ := hS
    go_simp
  exact tworem_8 Q hQ k n k' n' q m z ok on s s' w b HR hlb hq hm hz h0b h0 i0 i1 i2 i3 j0 j1 j2 j3 j4 j5 HO _ hV

set_option maxRecDepth 100000 in
set_option linter.unusedVariables false in
set_option maxHeartbeats 2000000 in
theorem tworem_6 (Q : Exit → Act → World → Prop) (hQ : ∀ c a (d : Nat) v w, Q (.panic c) (Act.put a (some d) v) w → Q (.panic c) a w) (k n k' n' q m z ok on : Int) (s s' : ByteArray) (w : World) (b : Nat) (HR : Hid (∀ act V, fin_tworem k n k' n' q m z ok on s s' w b act V → Q .normal act V)) (hlb : w.heap.size ≤ b) (hq : n.tdiv n' = q) (hm : n' * q = m) (hz : n - m = z) (h0b : (n' == 0) = false) (h0 : ¬ n' = 0) (i0 : -9007199254740992 ≤ n) (i1 : n ≤ 9007199254740992) (i2 : -9007199254740992 ≤ n') (i3 : n' ≤ 9007199254740992) (j0 : -9007199254740992 ≤ q) (j1 : q ≤ 9007199254740992) (j2 : -9007199254740992 ≤ m) (j3 : m ≤ 9007199254740992) (j4 : -9007199254740992 ≤ z) (j5 : z ≤ 9007199254740992) (HO : Hid (∀ W, Calls Tryd.prog 11 #[.int .i64 z] W fun e w' => e = .returned (.agg #[.int .i64 ok, .int .i64 on, .string ⟨#[]⟩]) ∧ Below W.heap.size W w')) (V : World) (hV : (K2 w b k n k' n' s s') V) : wpAnyH Tryd.prog .any ops_tworem Q (K2 w b k n k' n' s s') 7 #[true, true, true, true, true, true, false, false, false, false, false, false, false] { tmps := #[.string ⟨#[37]⟩, .agg #[.int .i64 k, .int .i64 n, .string s], .agg #[.int .i64 k', .int .i64 n', .string s'], undef, .pointer (some ⟨b, 0, none⟩), .pointer (some ⟨b + 1, 0, none⟩), .pointer (some ⟨b + 1 + 1, 0, none⟩), .agg #[.int .i64 k, .int .i64 n, .string s], .bool true, .bool false, .bool false, .agg #[.int .i64 k', .int .i64 n', .string s'], .bool true, .bool false, .bool false, .bool false, .pointer (some ⟨b + 1, 1, none⟩), .int .i64 n', .bool false, .bool false, undef, undef, undef, undef, undef, undef, .bool false, .bool false, undef, .string ⟨#[37]⟩, .bool false, .bool false, undef, undef, undef, undef, undef, undef, .bool false, .bool false, undef, undef, undef, undef, undef, undef, .bool false, .bool false, undef, undef, undef, undef, undef, .bool false, .bool false, undef, undef, undef, undef, undef, undef, .pointer (some ⟨b, 1, none⟩), .int .i64 n, .pointer (some ⟨b + 1, 1, none⟩), .int .i64 n', .pointer (some ⟨b, 1, none⟩), .int .i64 n, undef, undef, undef, undef, undef, undef], defers := [] } V := by
  refine wpAnyH_take (i := 6) (oi := { dst := some 67, op := Op.fieldAddr 23 (Operand.tmp 5) 1, type := 0, pos := "ref.go:42", after := #[], guard := none }) (v := .pointer (some ⟨b + 1, 1, none⟩)) rfl (by kernel_rfl) (by kernel_rfl) (by kernel_rfl) (fun c a w h => hQ c a _ _ w h) (Or.inl ⟨by kernel_rfl, ?_⟩) (by exact hV) ?_
  · intro U hS
    go_simp
  exact tworem_7 Q hQ k n k' n' q m z ok on s s' w b HR hlb hq hm hz h0b h0 i0 i1 i2 i3 j0 j1 j2 j3 j4 j5 HO _ hV

set_option maxRecDepth 100000 in
set_option linter.unusedVariables false in
set_option maxHeartbeats 2000000 in
theorem tworem_5 (Q : Exit → Act → World → Prop) (hQ : ∀ c a (d : Nat) v w, Q (.panic c) (Act.put a (some d) v) w → Q (.panic c) a w) (k n k' n' q m z ok on : Int) (s s' : ByteArray) (w : World) (b : Nat) (HR : Hid (∀ act V, fin_tworem k n k' n' q m z ok on s s' w b act V → Q .normal act V)) (hlb : w.heap.size ≤ b) (hq : n.tdiv n' = q) (hm : n' * q = m) (hz : n - m = z) (h0b : (n' == 0) = false) (h0 : ¬ n' = 0) (i0 : -9007199254740992 ≤ n) (i1 : n ≤ 9007199254740992) (i2 : -9007199254740992 ≤ n') (i3 : n' ≤ 9007199254740992) (j0 : -9007199254740992 ≤ q) (j1 : q ≤ 9007199254740992) (j2 : -9007199254740992 ≤ m) (j3 : m ≤ 9007199254740992) (j4 : -9007199254740992 ≤ z) (j5 : z ≤ 9007199254740992) (HO : Hid (∀ W, Calls Tryd.prog 11 #[.int .i64 z] W fun e w' => e = .returned (.agg #[.int .i64 ok, .int .i64 on, .string ⟨#[]⟩]) ∧ Below W.heap.size W w')) (V : World) (hV : (K2 w b k n k' n' s s') V) : wpAnyH Tryd.prog .any ops_tworem Q (K2 w b k n k' n' s s') 8 #[true, true, true, true, true, false, false, false, false, false, false, false, false] { tmps := #[.string ⟨#[37]⟩, .agg #[.int .i64 k, .int .i64 n, .string s], .agg #[.int .i64 k', .int .i64 n', .string s'], undef, .pointer (some ⟨b, 0, none⟩), .pointer (some ⟨b + 1, 0, none⟩), .pointer (some ⟨b + 1 + 1, 0, none⟩), .agg #[.int .i64 k, .int .i64 n, .string s], .bool true, .bool false, .bool false, .agg #[.int .i64 k', .int .i64 n', .string s'], .bool true, .bool false, .bool false, .bool false, .pointer (some ⟨b + 1, 1, none⟩), .int .i64 n', .bool false, .bool false, undef, undef, undef, undef, undef, undef, .bool false, .bool false, undef, .string ⟨#[37]⟩, .bool false, .bool false, undef, undef, undef, undef, undef, undef, .bool false, .bool false, undef, undef, undef, undef, undef, undef, .bool false, .bool false, undef, undef, undef, undef, undef, .bool false, .bool false, undef, undef, undef, undef, undef, undef, .pointer (some ⟨b, 1, none⟩), .int .i64 n, .pointer (some ⟨b + 1, 1, none⟩), .int .i64 n', .pointer (some ⟨b, 1, none⟩), undef, undef, undef, undef, undef, undef, undef], defers := [] } V := by
  refine wpAnyH_take (i := 5) (oi := { dst := some 66, op := Op.load 3 (Operand.tmp 65), type := 3, pos := "ref.go:42", after := #[{ on := 4, ground := Ground.data }], guard := none }) (v := .int .i64 n) rfl (by kernel_rfl) (by kernel_rfl) (by kernel_rfl) (fun c a w h => hQ c a _ _ w h) (Or.inl ⟨by kernel_rfl, ?_⟩) (by exact hV) ?_
  · intro U hS
    obtain ⟨_, _, p0, p1, p2, q0, q1, q2⟩ := hS
    go_simp
  exact tworem_6 Q hQ k n k' n' q m z ok on s s' w b HR hlb hq hm hz h0b h0 i0 i1 i2 i3 j0 j1 j2 j3 j4 j5 HO _ hV

set_option maxRecDepth 100000 in
set_option linter.unusedVariables false in
set_option maxHeartbeats 2000000 in
theorem tworem_4 (Q : Exit → Act → World → Prop) (hQ : ∀ c a (d : Nat) v w, Q (.panic c) (Act.put a (some d) v) w → Q (.panic c) a w) (k n k' n' q m z ok on : Int) (s s' : ByteArray) (w : World) (b : Nat) (HR : Hid (∀ act V, fin_tworem k n k' n' q m z ok on s s' w b act V → Q .normal act V)) (hlb : w.heap.size ≤ b) (hq : n.tdiv n' = q) (hm : n' * q = m) (hz : n - m = z) (h0b : (n' == 0) = false) (h0 : ¬ n' = 0) (i0 : -9007199254740992 ≤ n) (i1 : n ≤ 9007199254740992) (i2 : -9007199254740992 ≤ n') (i3 : n' ≤ 9007199254740992) (j0 : -9007199254740992 ≤ q) (j1 : q ≤ 9007199254740992) (j2 : -9007199254740992 ≤ m) (j3 : m ≤ 9007199254740992) (j4 : -9007199254740992 ≤ z) (j5 : z ≤ 9007199254740992) (HO : Hid (∀ W, Calls Tryd.prog 11 #[.int .i64 z] W fun e w' => e = .returned (.agg #[.int .i64 ok, .int .i64 on, .string ⟨#[]⟩]) ∧ Below W.heap.size W w')) (V : World) (hV : (K2 w b k n k' n' s s') V) : wpAnyH Tryd.prog .any ops_tworem Q (K2 w b k n k' n' s s') 9 #[true, true, true, true, false, false, false, false, false, false, false, false, false] { tmps := #[.string ⟨#[37]⟩, .agg #[.int .i64 k, .int .i64 n, .string s], .agg #[.int .i64 k', .int .i64 n', .string s'], undef, .pointer (some ⟨b, 0, none⟩), .pointer (some ⟨b + 1, 0, none⟩), .pointer (some ⟨b + 1 + 1, 0, none⟩), .agg #[.int .i64 k, .int .i64 n, .string s], .bool true, .bool false, .bool false, .agg #[.int .i64 k', .int .i64 n', .string s'], .bool true, .bool false, .bool false, .bool false, .pointer (some ⟨b + 1, 1, none⟩), .int .i64 n', .bool false, .bool false, undef, undef, undef, undef, undef, undef, .bool false, .bool false, undef, .string ⟨#[37]⟩, .bool false, .bool false, undef, undef, undef, undef, undef, undef, .bool false, .bool false, undef, undef, undef, undef, undef, undef, .bool false, .bool false, undef, undef, undef, undef, undef, .bool false, .bool false, undef, undef, undef, undef, undef, undef, .pointer (some ⟨b, 1, none⟩), .int .i64 n, .pointer (some ⟨b + 1, 1, none⟩), .int .i64 n', undef, undef, undef, undef, undef, undef, undef, undef], defers := [] } V := by
  refine wpAnyH_take (i := 4) (oi := { dst := some 65, op := Op.fieldAddr 23 (Operand.tmp 4) 1, type := 0, pos := "ref.go:42", after := #[], guard := none }) (v := .pointer (some ⟨b, 1, none⟩)) rfl (by kernel_rfl) (by kernel_rfl) (by kernel_rfl) (fun c a w h => hQ c a _ _ w h) (Or.inl ⟨by kernel_rfl, ?_⟩) (by exact hV) ?_
  · intro U hS
    go_simp
  exact tworem_5 Q hQ k n k' n' q m z ok on s s' w b HR hlb hq hm hz h0b h0 i0 i1 i2 i3 j0 j1 j2 j3 j4 j5 HO _ hV

set_option maxRecDepth 100000 in
set_option linter.unusedVariables false in
set_option maxHeartbeats 2000000 in
theorem tworem_3 (Q : Exit → Act → World → Prop) (hQ : ∀ c a (d : Nat) v w, Q (.panic c) (Act.put a (some d) v) w → Q (.panic c) a w) (k n k' n' q m z ok on : Int) (s s' : ByteArray) (w : World) (b : Nat) (HR : Hid (∀ act V, fin_tworem k n k' n' q m z ok on s s' w b act V → Q .normal act V)) (hlb : w.heap.size ≤ b) (hq : n.tdiv n' = q) (hm : n' * q = m) (hz : n - m = z) (h0b : (n' == 0) = false) (h0 : ¬ n' = 0) (i0 : -9007199254740992 ≤ n) (i1 : n ≤ 9007199254740992) (i2 : -9007199254740992 ≤ n') (i3 : n' ≤ 9007199254740992) (j0 : -9007199254740992 ≤ q) (j1 : q ≤ 9007199254740992) (j2 : -9007199254740992 ≤ m) (j3 : m ≤ 9007199254740992) (j4 : -9007199254740992 ≤ z) (j5 : z ≤ 9007199254740992) (HO : Hid (∀ W, Calls Tryd.prog 11 #[.int .i64 z] W fun e w' => e = .returned (.agg #[.int .i64 ok, .int .i64 on, .string ⟨#[]⟩]) ∧ Below W.heap.size W w')) (V : World) (hV : (K2 w b k n k' n' s s') V) : wpAnyH Tryd.prog .any ops_tworem Q (K2 w b k n k' n' s s') 10 #[true, true, true, false, false, false, false, false, false, false, false, false, false] { tmps := #[.string ⟨#[37]⟩, .agg #[.int .i64 k, .int .i64 n, .string s], .agg #[.int .i64 k', .int .i64 n', .string s'], undef, .pointer (some ⟨b, 0, none⟩), .pointer (some ⟨b + 1, 0, none⟩), .pointer (some ⟨b + 1 + 1, 0, none⟩), .agg #[.int .i64 k, .int .i64 n, .string s], .bool true, .bool false, .bool false, .agg #[.int .i64 k', .int .i64 n', .string s'], .bool true, .bool false, .bool false, .bool false, .pointer (some ⟨b + 1, 1, none⟩), .int .i64 n', .bool false, .bool false, undef, undef, undef, undef, undef, undef, .bool false, .bool false, undef, .string ⟨#[37]⟩, .bool false, .bool false, undef, undef, undef, undef, undef, undef, .bool false, .bool false, undef, undef, undef, undef, undef, undef, .bool false, .bool false, undef, undef, undef, undef, undef, .bool false, .bool false, undef, undef, undef, undef, undef, undef, .pointer (some ⟨b, 1, none⟩), .int .i64 n, .pointer (some ⟨b + 1, 1, none⟩), undef, undef, undef, undef, undef, undef, undef, undef, undef], defers := [] } V := by
  refine wpAnyH_take (i := 3) (oi := { dst := some 64, op := Op.load 3 (Operand.tmp 63), type := 3, pos := "ref.go:42", after := #[{ on := 2, ground := Ground.data }], guard := none }) (v := .int .i64 n') rfl (by kernel_rfl) (by kernel_rfl) (by kernel_rfl) (fun c a w h => hQ c a _ _ w h) (Or.inl ⟨by kernel_rfl, ?_⟩) (by exact hV) ?_
  · intro U hS
    obtain ⟨_, _, p0, p1, p2, q0, q1, q2⟩ := hS
    go_simp
  exact tworem_4 Q hQ k n k' n' q m z ok on s s' w b HR hlb hq hm hz h0b h0 i0 i1 i2 i3 j0 j1 j2 j3 j4 j5 HO _ hV

set_option maxRecDepth 100000 in
set_option linter.unusedVariables false in
set_option maxHeartbeats 2000000 in
theorem tworem_2 (Q : Exit → Act → World → Prop) (hQ : ∀ c a (d : Nat) v w, Q (.panic c) (Act.put a (some d) v) w → Q (.panic c) a w) (k n k' n' q m z ok on : Int) (s s' : ByteArray) (w : World) (b : Nat) (HR : Hid (∀ act V, fin_tworem k n k' n' q m z ok on s s' w b act V → Q .normal act V)) (hlb : w.heap.size ≤ b) (hq : n.tdiv n' = q) (hm : n' * q = m) (hz : n - m = z) (h0b : (n' == 0) = false) (h0 : ¬ n' = 0) (i0 : -9007199254740992 ≤ n) (i1 : n ≤ 9007199254740992) (i2 : -9007199254740992 ≤ n') (i3 : n' ≤ 9007199254740992) (j0 : -9007199254740992 ≤ q) (j1 : q ≤ 9007199254740992) (j2 : -9007199254740992 ≤ m) (j3 : m ≤ 9007199254740992) (j4 : -9007199254740992 ≤ z) (j5 : z ≤ 9007199254740992) (HO : Hid (∀ W, Calls Tryd.prog 11 #[.int .i64 z] W fun e w' => e = .returned (.agg #[.int .i64 ok, .int .i64 on, .string ⟨#[]⟩]) ∧ Below W.heap.size W w')) (V : World) (hV : (K2 w b k n k' n' s s') V) : wpAnyH Tryd.prog .any ops_tworem Q (K2 w b k n k' n' s s') 11 #[true, true, false, false, false, false, false, false, false, false, false, false, false] { tmps := #[.string ⟨#[37]⟩, .agg #[.int .i64 k, .int .i64 n, .string s], .agg #[.int .i64 k', .int .i64 n', .string s'], undef, .pointer (some ⟨b, 0, none⟩), .pointer (some ⟨b + 1, 0, none⟩), .pointer (some ⟨b + 1 + 1, 0, none⟩), .agg #[.int .i64 k, .int .i64 n, .string s], .bool true, .bool false, .bool false, .agg #[.int .i64 k', .int .i64 n', .string s'], .bool true, .bool false, .bool false, .bool false, .pointer (some ⟨b + 1, 1, none⟩), .int .i64 n', .bool false, .bool false, undef, undef, undef, undef, undef, undef, .bool false, .bool false, undef, .string ⟨#[37]⟩, .bool false, .bool false, undef, undef, undef, undef, undef, undef, .bool false, .bool false, undef, undef, undef, undef, undef, undef, .bool false, .bool false, undef, undef, undef, undef, undef, .bool false, .bool false, undef, undef, undef, undef, undef, undef, .pointer (some ⟨b, 1, none⟩), .int .i64 n, undef, undef, undef, undef, undef, undef, undef, undef, undef, undef], defers := [] } V := by
  refine wpAnyH_take (i := 2) (oi := { dst := some 63, op := Op.fieldAddr 23 (Operand.tmp 5) 1, type := 0, pos := "ref.go:42", after := #[], guard := none }) (v := .pointer (some ⟨b + 1, 1, none⟩)) rfl (by kernel_rfl) (by kernel_rfl) (by kernel_rfl) (fun c a w h => hQ c a _ _ w h) (Or.inl ⟨by kernel_rfl, ?_⟩) (by exact hV) ?_
  · intro U hS
    go_simp
  exact tworem_3 Q hQ k n k' n' q m z ok on s s' w b HR hlb hq hm hz h0b h0 i0 i1 i2 i3 j0 j1 j2 j3 j4 j5 HO _ hV

set_option maxRecDepth 100000 in
set_option linter.unusedVariables false in
set_option maxHeartbeats 2000000 in
theorem tworem_1 (Q : Exit → Act → World → Prop) (hQ : ∀ c a (d : Nat) v w, Q (.panic c) (Act.put a (some d) v) w → Q (.panic c) a w) (k n k' n' q m z ok on : Int) (s s' : ByteArray) (w : World) (b : Nat) (HR : Hid (∀ act V, fin_tworem k n k' n' q m z ok on s s' w b act V → Q .normal act V)) (hlb : w.heap.size ≤ b) (hq : n.tdiv n' = q) (hm : n' * q = m) (hz : n - m = z) (h0b : (n' == 0) = false) (h0 : ¬ n' = 0) (i0 : -9007199254740992 ≤ n) (i1 : n ≤ 9007199254740992) (i2 : -9007199254740992 ≤ n') (i3 : n' ≤ 9007199254740992) (j0 : -9007199254740992 ≤ q) (j1 : q ≤ 9007199254740992) (j2 : -9007199254740992 ≤ m) (j3 : m ≤ 9007199254740992) (j4 : -9007199254740992 ≤ z) (j5 : z ≤ 9007199254740992) (HO : Hid (∀ W, Calls Tryd.prog 11 #[.int .i64 z] W fun e w' => e = .returned (.agg #[.int .i64 ok, .int .i64 on, .string ⟨#[]⟩]) ∧ Below W.heap.size W w')) (V : World) (hV : (K2 w b k n k' n' s s') V) : wpAnyH Tryd.prog .any ops_tworem Q (K2 w b k n k' n' s s') 12 #[true, false, false, false, false, false, false, false, false, false, false, false, false] { tmps := #[.string ⟨#[37]⟩, .agg #[.int .i64 k, .int .i64 n, .string s], .agg #[.int .i64 k', .int .i64 n', .string s'], undef, .pointer (some ⟨b, 0, none⟩), .pointer (some ⟨b + 1, 0, none⟩), .pointer (some ⟨b + 1 + 1, 0, none⟩), .agg #[.int .i64 k, .int .i64 n, .string s], .bool true, .bool false, .bool false, .agg #[.int .i64 k', .int .i64 n', .string s'], .bool true, .bool false, .bool false, .bool false, .pointer (some ⟨b + 1, 1, none⟩), .int .i64 n', .bool false, .bool false, undef, undef, undef, undef, undef, undef, .bool false, .bool false, undef, .string ⟨#[37]⟩, .bool false, .bool false, undef, undef, undef, undef, undef, undef, .bool false, .bool false, undef, undef, undef, undef, undef, undef, .bool false, .bool false, undef, undef, undef, undef, undef, .bool false, .bool false, undef, undef, undef, undef, undef, undef, .pointer (some ⟨b, 1, none⟩), undef, undef, undef, undef, undef, undef, undef, undef, undef, undef, undef], defers := [] } V := by
  refine wpAnyH_take (i := 1) (oi := { dst := some 62, op := Op.load 3 (Operand.tmp 61), type := 3, pos := "ref.go:42", after := #[{ on := 0, ground := Ground.data }], guard := none }) (v := .int .i64 n) rfl (by kernel_rfl) (by kernel_rfl) (by kernel_rfl) (fun c a w h => hQ c a _ _ w h) (Or.inl ⟨by kernel_rfl, ?_⟩) (by exact hV) ?_
  · intro U hS
    obtain ⟨_, _, p0, p1, p2, q0, q1, q2⟩ := hS
    go_simp
  exact tworem_2 Q hQ k n k' n' q m z ok on s s' w b HR hlb hq hm hz h0b h0 i0 i1 i2 i3 j0 j1 j2 j3 j4 j5 HO _ hV

set_option maxRecDepth 100000 in
set_option linter.unusedVariables false in
set_option maxHeartbeats 2000000 in
theorem tworem_0 (Q : Exit → Act → World → Prop) (hQ : ∀ c a (d : Nat) v w, Q (.panic c) (Act.put a (some d) v) w → Q (.panic c) a w) (k n k' n' q m z ok on : Int) (s s' : ByteArray) (w : World) (b : Nat) (HR : Hid (∀ act V, fin_tworem k n k' n' q m z ok on s s' w b act V → Q .normal act V)) (hlb : w.heap.size ≤ b) (hq : n.tdiv n' = q) (hm : n' * q = m) (hz : n - m = z) (h0b : (n' == 0) = false) (h0 : ¬ n' = 0) (i0 : -9007199254740992 ≤ n) (i1 : n ≤ 9007199254740992) (i2 : -9007199254740992 ≤ n') (i3 : n' ≤ 9007199254740992) (j0 : -9007199254740992 ≤ q) (j1 : q ≤ 9007199254740992) (j2 : -9007199254740992 ≤ m) (j3 : m ≤ 9007199254740992) (j4 : -9007199254740992 ≤ z) (j5 : z ≤ 9007199254740992) (HO : Hid (∀ W, Calls Tryd.prog 11 #[.int .i64 z] W fun e w' => e = .returned (.agg #[.int .i64 ok, .int .i64 on, .string ⟨#[]⟩]) ∧ Below W.heap.size W w')) (V : World) (hV : (K2 w b k n k' n' s s') V) : wpAnyH Tryd.prog .any ops_tworem Q (K2 w b k n k' n' s s') 13 #[false, false, false, false, false, false, false, false, false, false, false, false, false] { tmps := #[.string ⟨#[37]⟩, .agg #[.int .i64 k, .int .i64 n, .string s], .agg #[.int .i64 k', .int .i64 n', .string s'], undef, .pointer (some ⟨b, 0, none⟩), .pointer (some ⟨b + 1, 0, none⟩), .pointer (some ⟨b + 1 + 1, 0, none⟩), .agg #[.int .i64 k, .int .i64 n, .string s], .bool true, .bool false, .bool false, .agg #[.int .i64 k', .int .i64 n', .string s'], .bool true, .bool false, .bool false, .bool false, .pointer (some ⟨b + 1, 1, none⟩), .int .i64 n', .bool false, .bool false, undef, undef, undef, undef, undef, undef, .bool false, .bool false, undef, .string ⟨#[37]⟩, .bool false, .bool false, undef, undef, undef, undef, undef, undef, .bool false, .bool false, undef, undef, undef, undef, undef, undef, .bool false, .bool false, undef, undef, undef, undef, undef, .bool false, .bool false, undef, undef, undef, undef, undef, undef, undef, undef, undef, undef, undef, undef, undef, undef, undef, undef, undef, undef], defers := [] } V := by
  refine wpAnyH_take (i := 0) (oi := { dst := some 61, op := Op.fieldAddr 23 (Operand.tmp 4) 1, type := 0, pos := "ref.go:42", after := #[], guard := none }) (v := .pointer (some ⟨b, 1, none⟩)) rfl (by kernel_rfl) (by kernel_rfl) (by kernel_rfl) (fun c a w h => hQ c a _ _ w h) (Or.inl ⟨by kernel_rfl, ?_⟩) (by exact hV) ?_
  · intro U hS
    go_simp
  exact tworem_1 Q hQ k n k' n' q m z ok on s s' w b HR hlb hq hm hz h0b h0 i0 i1 i2 i3 j0 j1 j2 j3 j4 j5 HO _ hV

set_option maxRecDepth 100000 in
set_option linter.unusedVariables false in
set_option maxHeartbeats 2000000 in
theorem reg_tworem (Q : Exit → Act → World → Prop) (hQ : ∀ c a (d : Nat) v w, Q (.panic c) (Act.put a (some d) v) w → Q (.panic c) a w) (k n k' n' q m z ok on : Int) (s s' : ByteArray) (w : World) (b : Nat) (HR : Hid (∀ act V, fin_tworem k n k' n' q m z ok on s s' w b act V → Q .normal act V)) (hlb : w.heap.size ≤ b) (hq : n.tdiv n' = q) (hm : n' * q = m) (hz : n - m = z) (h0b : (n' == 0) = false) (h0 : ¬ n' = 0) (i0 : -9007199254740992 ≤ n) (i1 : n ≤ 9007199254740992) (i2 : -9007199254740992 ≤ n') (i3 : n' ≤ 9007199254740992) (j0 : -9007199254740992 ≤ q) (j1 : q ≤ 9007199254740992) (j2 : -9007199254740992 ≤ m) (j3 : m ≤ 9007199254740992) (j4 : -9007199254740992 ≤ z) (j5 : z ≤ 9007199254740992) (HO : Hid (∀ W, Calls Tryd.prog 11 #[.int .i64 z] W fun e w' => e = .returned (.agg #[.int .i64 ok, .int .i64 on, .string ⟨#[]⟩]) ∧ Below W.heap.size W w')) (W : World) (hW : (K2 w b k n k' n' s s') W.drew) : Code.wp Tryd.prog (Code.region 12 ops_tworem true) Q { tmps := #[.string ⟨#[37]⟩, .agg #[.int .i64 k, .int .i64 n, .string s], .agg #[.int .i64 k', .int .i64 n', .string s'], undef, .pointer (some ⟨b, 0, none⟩), .pointer (some ⟨b + 1, 0, none⟩), .pointer (some ⟨b + 1 + 1, 0, none⟩), .agg #[.int .i64 k, .int .i64 n, .string s], .bool true, .bool false, .bool false, .agg #[.int .i64 k', .int .i64 n', .string s'], .bool true, .bool false, .bool false, .bool false, .pointer (some ⟨b + 1, 1, none⟩), .int .i64 n', .bool false, .bool false, undef, undef, undef, undef, undef, undef, .bool false, .bool false, undef, .string ⟨#[37]⟩, .bool false, .bool false, undef, undef, undef, undef, undef, undef, .bool false, .bool false, undef, undef, undef, undef, undef, undef, .bool false, .bool false, undef, undef, undef, undef, undef, .bool false, .bool false, undef, undef, undef, undef, undef, undef, undef, undef, undef, undef, undef, undef, undef, undef, undef, undef, undef, undef], defers := [] } W := by
  refine wp_region_held_drew (S := (K2 w b k n k' n' s s')) (by kernel_rfl) (by exact hW) (fun hV => ?_)
  exact tworem_0 Q hQ k n k' n' q m z ok on s s' w b HR hlb hq hm hz h0b h0 i0 i1 i2 i3 j0 j1 j2 j3 j4 j5 HO _ hV

set_option maxRecDepth 100000 in
set_option linter.unusedVariables false in
set_option maxHeartbeats 2000000 in
theorem two_rem_o (k n k' n' q m z ok on : Int) (s s' : ByteArray) (w : World) (HA : Hid (∀ W, Calls Tryd.prog 32 #[.agg #[.int .i64 k, .int .i64 n, .string s]] W fun e w' => e = .returned (.bool true) ∧ Below W.heap.size W w')) (HB : Hid (∀ W, Calls Tryd.prog 32 #[.agg #[.int .i64 k', .int .i64 n', .string s']] W fun e w' => e = .returned (.bool true) ∧ Below W.heap.size W w')) (hq : n.tdiv n' = q) (hm : n' * q = m) (hz : n - m = z) (h0b : (n' == 0) = false) (h0 : ¬ n' = 0) (i0 : -9007199254740992 ≤ n) (i1 : n ≤ 9007199254740992) (i2 : -9007199254740992 ≤ n') (i3 : n' ≤ 9007199254740992) (j0 : -9007199254740992 ≤ q) (j1 : q ≤ 9007199254740992) (j2 : -9007199254740992 ≤ m) (j3 : m ≤ 9007199254740992) (j4 : -9007199254740992 ≤ z) (j5 : z ≤ 9007199254740992) (HO : Hid (∀ W, Calls Tryd.prog 11 #[.int .i64 z] W fun e w' => e = .returned (.agg #[.int .i64 ok, .int .i64 on, .string ⟨#[]⟩]) ∧ Below W.heap.size W w')) :
    Calls Tryd.prog 17 #[.string ⟨#[37]⟩, .agg #[.int .i64 k, .int .i64 n, .string s], .agg #[.int .i64 k', .int .i64 n', .string s']] w fun e w' => e = .returned (.agg #[.int .i64 ok, .int .i64 on, .string ⟨#[]⟩]) ∧ Below w.heap.size w w' := by
  go_enter Tryd.func17, Tryd.ntmps17
  go_wp2_with fail
  refine (HA.out _).mono ?_
  rintro e w1 ⟨rfl, hb⟩
  have b1 : Below w.heap.size w w1 := thr (bel3 w _ _ _) hb (by simp <;> omega)
  have oa := kept hb (by simp <;> omega) (old2 w _ _ _)
  have ob := kept hb (by simp <;> omega) (mid2 w _ _ _)
  have oc := kept hb (by simp) (blk2 w _ _ _)
  clear hb
  obtain ⟨x0, x1, x2, _, _, _, _⟩ := tri ob
  go_wp2_with fail
  refine (HB.out _).mono ?_
  rintro e w2 ⟨rfl, hb⟩
  have b2 : Below w.heap.size w w2 := thr b1 hb b1.size
  replace oa := kept hb (tri oa).2.2.2.2.2.2 oa
  replace ob := kept hb (tri ob).2.2.2.2.2.2 ob
  replace oc := kept hb (tri oc).2.2.2.2.2.2 oc
  clear hb x0 x1 x2 b1
  obtain ⟨x0, x1, x2, _, _, _, _⟩ := tri ob
  obtain ⟨y0, y1, y2, _, _, _, _⟩ := tri oa
  go_wp2_with fail
  refine cutQ (fin_tworem k n k' n' q m z ok on s s' w w.heap.size) ?_ (fun hR => reg_tworem _ (fun _ _ _ _ _ h => h) k n k' n' q m z ok on s s' w w.heap.size (Lib.hid hR) (Nat.le_refl _) hq hm hz h0b h0 i0 i1 i2 i3 j0 j1 j2 j3 j4 j5 HO w2 (k2_of b2.drew oa ob ⟨_, _, _, oc⟩))
  rintro a U ⟨rfl, hU, hg⟩
  have hUB := hU.1
  clear hU HA HB HO
  obtain ⟨q0, q1, q2, f0, f1, f2, _⟩ := tri hg
  go_wp2
  refine bodyPost_ret (v := .agg #[.int .i64 ok, .int .i64 on, .string ⟨#[]⟩]) (by simp [results, Tryd.results17, go_sem, q0, q1, q2]) rfl ?_
  exact ⟨rfl, hUB⟩

set_option maxHeartbeats 1000000 in
theorem two_add_any (k n k' n' : Int) (s s' : ByteArray) (w : World) : Calls Tryd.prog 17 #[.string ⟨#[43]⟩, .agg #[.int .i64 k, .int .i64 n, .string s], .agg #[.int .i64 k', .int .i64 n', .string s']] w fun e w' => e = .returned (.agg #[.int .i64 (rsK ((whK k n s && whK k' n' s')) ((whN k n s) + (whN k' n' s'))), .int .i64 (rsN ((whK k n s && whK k' n' s')) ((whN k n s) + (whN k' n' s'))), .string ⟨#[]⟩]) ∧ Below w.heap.size w w' := by
  have SA := fun W => some_any k n s W
  have SB := fun W => some_any k' n' s' W
  cases hA : whK k n s with
  | false =>
    rw [hA] at SA
    exact two_add_a k n k' n' s s' w (Lib.hid SA)
  | true =>
    rw [hA] at SA
    cases hB : whK k' n' s' with
    | false =>
      rw [hB] at SB
      exact two_add_b k n k' n' s s' w (Lib.hid SA) (Lib.hid SB)
    | true =>
      rw [hB] at SB
      obtain ⟨ia, ea⟩ := wh_in hA
      obtain ⟨ib, eb⟩ := wh_in hB
      obtain ⟨a0, a1⟩ := in_yes ia
      obtain ⟨b0, b1⟩ := in_yes ib
      rw [ea, eb]
      by_cases h0 : n' = 0
      · exact two_add_n k n k' n' s s' w (Lib.hid SA) (Lib.hid SB) h0 a0 a1 b0 b1 (ofK (n + n')) (ofN (n + n')) (n + n') rfl (by omega) (by omega) (Lib.hid (fun W => refof_any (n + n') W))
      · exact two_add_o k n k' n' s s' w (Lib.hid SA) (Lib.hid SB) h0 a0 a1 b0 b1 (ofK (n + n')) (ofN (n + n')) (n + n') rfl (by omega) (by omega) (Lib.hid (fun W => refof_any (n + n') W))

set_option maxHeartbeats 1000000 in
theorem two_sub_any (k n k' n' : Int) (s s' : ByteArray) (w : World) : Calls Tryd.prog 17 #[.string ⟨#[45]⟩, .agg #[.int .i64 k, .int .i64 n, .string s], .agg #[.int .i64 k', .int .i64 n', .string s']] w fun e w' => e = .returned (.agg #[.int .i64 (rsK ((whK k n s && whK k' n' s')) ((whN k n s) - (whN k' n' s'))), .int .i64 (rsN ((whK k n s && whK k' n' s')) ((whN k n s) - (whN k' n' s'))), .string ⟨#[]⟩]) ∧ Below w.heap.size w w' := by
  have SA := fun W => some_any k n s W
  have SB := fun W => some_any k' n' s' W
  cases hA : whK k n s with
  | false =>
    rw [hA] at SA
    exact two_sub_a k n k' n' s s' w (Lib.hid SA)
  | true =>
    rw [hA] at SA
    cases hB : whK k' n' s' with
    | false =>
      rw [hB] at SB
      exact two_sub_b k n k' n' s s' w (Lib.hid SA) (Lib.hid SB)
    | true =>
      rw [hB] at SB
      obtain ⟨ia, ea⟩ := wh_in hA
      obtain ⟨ib, eb⟩ := wh_in hB
      obtain ⟨a0, a1⟩ := in_yes ia
      obtain ⟨b0, b1⟩ := in_yes ib
      rw [ea, eb]
      by_cases h0 : n' = 0
      · exact two_sub_n k n k' n' s s' w (Lib.hid SA) (Lib.hid SB) h0 a0 a1 b0 b1 (ofK (n - n')) (ofN (n - n')) (n - n') rfl (by omega) (by omega) (Lib.hid (fun W => refof_any (n - n') W))
      · exact two_sub_o k n k' n' s s' w (Lib.hid SA) (Lib.hid SB) h0 a0 a1 b0 b1 (ofK (n - n')) (ofN (n - n')) (n - n') rfl (by omega) (by omega) (Lib.hid (fun W => refof_any (n - n') W))

set_option maxHeartbeats 1000000 in
theorem two_mul_any (k n k' n' : Int) (s s' : ByteArray) (w : World) : Calls Tryd.prog 17 #[.string ⟨#[42]⟩, .agg #[.int .i64 k, .int .i64 n, .string s], .agg #[.int .i64 k', .int .i64 n', .string s']] w fun e w' => e = .returned (.agg #[.int .i64 (rsK ((whK k n s && whK k' n' s')) ((whN k n s) * (whN k' n' s'))), .int .i64 (rsN ((whK k n s && whK k' n' s')) ((whN k n s) * (whN k' n' s'))), .string ⟨#[]⟩]) ∧ Below w.heap.size w w' := by
  have SA := fun W => some_any k n s W
  have SB := fun W => some_any k' n' s' W
  cases hA : whK k n s with
  | false =>
    rw [hA] at SA
    exact two_mul_a k n k' n' s s' w (Lib.hid SA)
  | true =>
    rw [hA] at SA
    cases hB : whK k' n' s' with
    | false =>
      rw [hB] at SB
      exact two_mul_b k n k' n' s s' w (Lib.hid SA) (Lib.hid SB)
    | true =>
      rw [hB] at SB
      obtain ⟨ia, ea⟩ := wh_in hA
      obtain ⟨ib, eb⟩ := wh_in hB
      obtain ⟨a0, a1⟩ := in_yes ia
      obtain ⟨b0, b1⟩ := in_yes ib
      rw [ea, eb]
      by_cases h0 : n' = 0
      · exact two_mul_n k n k' n' s s' w (Lib.hid SA) (Lib.hid SB) h0 a0 a1 b0 b1 (ofK (n * n')) (ofN (n * n')) (n * n') rfl (Lib.hid (fun W => times_any n n' W a0 a1 b0 b1))
      · exact two_mul_o k n k' n' s s' w (Lib.hid SA) (Lib.hid SB) h0 a0 a1 b0 b1 (ofK (n * n')) (ofN (n * n')) (n * n') rfl (Lib.hid (fun W => times_any n n' W a0 a1 b0 b1))

set_option maxHeartbeats 1000000 in
theorem two_div_any (k n k' n' : Int) (s s' : ByteArray) (w : World) : Calls Tryd.prog 17 #[.string ⟨#[47]⟩, .agg #[.int .i64 k, .int .i64 n, .string s], .agg #[.int .i64 k', .int .i64 n', .string s']] w fun e w' => e = .returned (.agg #[.int .i64 (rsK ((whK k n s && whK k' n' s') && (whN k' n' s') != 0) (((whN k n s)).tdiv ((whN k' n' s')))), .int .i64 (rsN ((whK k n s && whK k' n' s') && (whN k' n' s') != 0) (((whN k n s)).tdiv ((whN k' n' s')))), .string ⟨#[]⟩]) ∧ Below w.heap.size w w' := by
  have SA := fun W => some_any k n s W
  have SB := fun W => some_any k' n' s' W
  cases hA : whK k n s with
  | false =>
    rw [hA] at SA
    exact two_div_a k n k' n' s s' w (Lib.hid SA)
  | true =>
    rw [hA] at SA
    cases hB : whK k' n' s' with
    | false =>
      rw [hB] at SB
      exact two_div_b k n k' n' s s' w (Lib.hid SA) (Lib.hid SB)
    | true =>
      rw [hB] at SB
      obtain ⟨ia, ea⟩ := wh_in hA
      obtain ⟨ib, eb⟩ := wh_in hB
      obtain ⟨a0, a1⟩ := in_yes ia
      obtain ⟨b0, b1⟩ := in_yes ib
      rw [ea, eb]
      by_cases h0 : n' = 0
      · have e : (n' != 0) = false := by simpa using h0
        rw [e]
        exact two_div_z k n k' n' s s' w (Lib.hid SA) (Lib.hid SB) h0
      · have e : (n' != 0) = true := by simpa using h0
        rw [e]
        have db := tdiv_b n n' a0 a1 h0
        exact two_div_o k n k' n' s s' w (Lib.hid SA) (Lib.hid SB) h0 a0 a1 b0 b1 (ofK ((n).tdiv (n'))) (ofN ((n).tdiv (n'))) ((n).tdiv (n')) rfl (by omega) (by omega) (Lib.hid (fun W => refof_any ((n).tdiv (n')) W))

set_option maxHeartbeats 1000000 in
theorem two_rem_any (k n k' n' : Int) (s s' : ByteArray) (w : World) : Calls Tryd.prog 17 #[.string ⟨#[37]⟩, .agg #[.int .i64 k, .int .i64 n, .string s], .agg #[.int .i64 k', .int .i64 n', .string s']] w fun e w' => e = .returned (.agg #[.int .i64 (rsK ((whK k n s && whK k' n' s') && (whN k' n' s') != 0) (((whN k n s)).tmod ((whN k' n' s')))), .int .i64 (rsN ((whK k n s && whK k' n' s') && (whN k' n' s') != 0) (((whN k n s)).tmod ((whN k' n' s')))), .string ⟨#[]⟩]) ∧ Below w.heap.size w w' := by
  have SA := fun W => some_any k n s W
  have SB := fun W => some_any k' n' s' W
  cases hA : whK k n s with
  | false =>
    rw [hA] at SA
    exact two_rem_a k n k' n' s s' w (Lib.hid SA)
  | true =>
    rw [hA] at SA
    cases hB : whK k' n' s' with
    | false =>
      rw [hB] at SB
      exact two_rem_b k n k' n' s s' w (Lib.hid SA) (Lib.hid SB)
    | true =>
      rw [hB] at SB
      obtain ⟨ia, ea⟩ := wh_in hA
      obtain ⟨ib, eb⟩ := wh_in hB
      obtain ⟨a0, a1⟩ := in_yes ia
      obtain ⟨b0, b1⟩ := in_yes ib
      rw [ea, eb]
      by_cases h0 : n' = 0
      · have e : (n' != 0) = false := by simpa using h0
        rw [e]
        exact two_rem_z k n k' n' s s' w (Lib.hid SA) (Lib.hid SB) h0
      · have e : (n' != 0) = true := by simpa using h0
        rw [e]
        have db := tdiv_b n n' a0 a1 h0
        have mb := tmod_b n n' a0 a1 h0
        have hs : n' * n.tdiv n' + n.tmod n' = n := Int.mul_tdiv_add_tmod n n'
        have hm : (n' * n.tdiv n').natAbs ≤ n.natAbs := by
          rw [Int.natAbs_mul, Int.natAbs_tdiv]
          exact Nat.mul_div_le _ _
        exact two_rem_o k n k' n' (n.tdiv n') (n' * n.tdiv n') (n.tmod n') (ofK (n.tmod n')) (ofN (n.tmod n')) s s' w (Lib.hid SA) (Lib.hid SB) rfl rfl (by omega) (by simpa using h0) h0 a0 a1 b0 b1 db.1 db.2 (by omega) (by omega) mb.1 mb.2 (Lib.hid (fun W => refof_any (n.tmod n') W))

set_option maxHeartbeats 1000000 in
theorem refless_any (k n k' n' : Int) (s s' : ByteArray) (w : World) : Calls Tryd.prog 24 #[.agg #[.int .i64 k, .int .i64 n, .string s], .agg #[.int .i64 k', .int .i64 n', .string s']] w fun e w' => e = .returned (.tuple #[.bool (whK k n s && whK k' n' s' && decide (whN k n s < whN k' n' s')), .bool (whK k n s && whK k' n' s')]) ∧ Below w.heap.size w w' := by
  have SA := fun W => some_any k n s W
  have SB := fun W => some_any k' n' s' W
  cases hA : whK k n s with
  | false =>
    rw [hA] at SA
    have HA := Lib.hid SA
    clear SA SB hA
    go_enter Tryd.func24, Tryd.ntmps24
    go_wp2_with fail
    refine (HA.out _).mono ?_
    rintro e w1 ⟨rfl, hb⟩
    have b1 : Below w.heap.size w w1 := thr (bel2 w _ _) hb (by simp <;> omega)
    go_wp2
    go_ret2
    exact ⟨rfl, b1⟩
  | true =>
    rw [hA] at SA
    have HA := Lib.hid SA
    clear SA
    cases hB : whK k' n' s' with
    | false =>
      rw [hB] at SB
      have HB := Lib.hid SB
      clear SB hB hA
      go_enter Tryd.func24, Tryd.ntmps24
      go_wp2_with fail
      refine (HA.out _).mono ?_
      rintro e w1 ⟨rfl, hb⟩
      have b1 : Below w.heap.size w w1 := thr (bel2 w _ _) hb (by simp <;> omega)
      obtain ⟨x0, x1, x2, _, _, _, _⟩ := tri (kept hb (by simp) (blk1 w _ _))
      clear hb
      go_wp2_with fail
      refine (HB.out _).mono ?_
      rintro e w2 ⟨rfl, hb⟩
      have b2 : Below w.heap.size w w2 := thr b1 hb b1.size
      go_wp2
      go_ret2
      exact ⟨rfl, b2⟩
    | true =>
      rw [hB] at SB
      have HB := Lib.hid SB
      rw [(wh_in hA).2, (wh_in hB).2]
      clear SB hB hA
      go_enter Tryd.func24, Tryd.ntmps24
      go_wp2_with fail
      refine (HA.out _).mono ?_
      rintro e w1 ⟨rfl, hb⟩
      have b1 : Below w.heap.size w w1 := thr (bel2 w _ _) hb (by simp <;> omega)
      have oa := kept hb (by simp <;> omega) (old1 w _ _)
      have ob := kept hb (by simp) (blk1 w _ _)
      obtain ⟨x0, x1, x2, _, _, _, _⟩ := tri ob
      clear hb
      go_wp2_with fail
      refine (HB.out _).mono ?_
      rintro e w2 ⟨rfl, hb⟩
      have b2 : Below w.heap.size w w2 := thr b1 hb b1.size
      replace oa := kept hb (tri oa).2.2.2.2.2.2 oa
      replace ob := kept hb (tri ob).2.2.2.2.2.2 ob
      clear x0 x1 x2 hb
      obtain ⟨x0, x1, x2, _, _, _, _⟩ := tri ob
      obtain ⟨y0, y1, y2, _, _, _, _⟩ := tri oa
      go_wp2
      go_ret2
      exact ⟨rfl, b2⟩
end Go.Proofs.YtokpmpmlbmpnmaaDoor
