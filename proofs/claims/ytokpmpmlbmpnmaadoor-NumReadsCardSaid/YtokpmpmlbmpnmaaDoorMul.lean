/-
  Mul, Neg and Less of package num at this translation: for any two values.
-/
import Derived.Test.YtokpmpmlbmpnmaaDoorArith
namespace Go.Proofs.YtokpmpmlbmpnmaaDoor
open Go.RowKit

def szV (n : Int) : Int := if n < 0 then -n else n
theorem szV_0 (n : Int) : 0 ≤ szV n := by unfold szV; split <;> omega
theorem szV_1 (n : Int) (h : ¬ n = 0) : 1 ≤ szV n := by unfold szV; split <;> omega
theorem szV_hi (n : Int) (h0 : -9007199254740992 ≤ n) (h1 : n ≤ 9007199254740992) : szV n ≤ 9007199254740992 := by unfold szV; split <;> omega
theorem szV_mul (x y : Int) : szV (x * y) = szV x * szV y := by
  have e : ∀ n : Int, szV n = n.natAbs := by intro n; unfold szV; split <;> omega
  rw [e, e, e, Int.natAbs_mul]
  push_cast
  rfl
theorem ret_i {a b : Int} (h : a = b) : Ending.returned (.int .i64 a) = .returned (.int .i64 b) := by rw [h]

set_option maxHeartbeats 400000 in
theorem size_any (n : Int) (w : World) (h0 : -9007199254740992 ≤ n) (h1 : n ≤ 9007199254740992) : Calls Tryd.prog 36 #[.int .i64 n] w fun e w' => e = .returned (.int .i64 (szV n)) ∧ w = w' := by
  by_cases hn : n < 0
  · have e : szV n = -n := by unfold szV; rw [if_pos hn]
    rw [e]
    go_enter Tryd.func36, Tryd.ntmps36
    go_wp2
    go_ret
    exact ⟨rfl, rfl⟩
  · have e : szV n = n := by unfold szV; rw [if_neg hn]
    rw [e]
    go_enter Tryd.func36, Tryd.ntmps36
    go_wp2
    go_ret
    exact ⟨rfl, rfl⟩

theorem mul_big (x y : Int) (hx : ¬ x = 0) (h : 9007199254740992 / szV x < szV y) : inB (x * y) = false := by
  have h1 := szV_1 x hx
  rw [Int.ediv_lt_iff_lt_mul (by omega)] at h
  have e := szV_mul x y
  rw [Int.mul_comm] at h
  cases hb : inB (x * y) with
  | false => rfl
  | true =>
    have b := in_yes hb
    have := szV_hi _ b.1 b.2
    omega
theorem mul_small (x y : Int) (hx : ¬ x = 0) (h : ¬ 9007199254740992 / szV x < szV y) : -9007199254740992 ≤ x * y ∧ x * y ≤ 9007199254740992 := by
  have h1 := szV_1 x hx
  rw [Int.ediv_lt_iff_lt_mul (by omega)] at h
  have e := szV_mul x y
  rw [Int.mul_comm] at h
  have : szV (x * y) ≤ 9007199254740992 := by omega
  unfold szV at this
  split at this <;> omega

set_option maxHeartbeats 2000000 in
theorem mul_any (k n k' n' : Int) (s s' : ByteArray) (w : World) : Calls Tryd.prog 19 #[.agg #[.int .i64 k, .int .i64 n, .string s], .agg #[.int .i64 k', .int .i64 n', .string s']] w fun e w' => e = .returned (.agg #[.int .i64 (rsK (whK k n s && whK k' n' s') (whN k n s * whN k' n' s')), .int .i64 (rsN (whK k n s && whK k' n' s') (whN k n s * whN k' n' s')), .string ⟨#[]⟩]) ∧ Below w.heap.size w w' := by
  have P := fun W => pair_any k n k' n' s s' W
  obtain ⟨kn, hkn⟩ : ∃ b, b = (whK k n s && whK k' n' s') := ⟨_, rfl⟩
  obtain ⟨x, hx⟩ : ∃ x, x = whN k n s := ⟨_, rfl⟩
  obtain ⟨y, hy⟩ : ∃ y, y = whN k' n' s' := ⟨_, rfl⟩
  have bx := whN_b k n s
  have by' := whN_b k' n' s'
  simp only [← hkn, ← hx, ← hy] at P bx by' ⊢
  clear hkn hx hy
  obtain ⟨bx0, bx1⟩ := bx
  obtain ⟨by0, by1⟩ := by'
  have HP := Lib.hid P
  clear P
  cases kn with
  | false =>
    show Calls Tryd.prog 19 _ w fun e w' => e = .returned (.agg #[.int .i64 4, .int .i64 0, .string ⟨#[]⟩]) ∧ Below w.heap.size w w'
    go_enter Tryd.func19, Tryd.ntmps19
    go_wp2_with fail
    refine (HP.out _).mono ?_
    rintro e w1 ⟨rfl, hb⟩
    have hB : Below w.heap.size w w1 := thr (bel3 w _ _ _) hb (by simp; omega)
    have hh := kept hb (by simp) (blk2 w _ _ _)
    have z1 := (tri hh).2.2.2.2.2.2
    clear hb
    go_wp2_with fail
    refine (nan_any _).mono ?_
    rintro e w2 ⟨rfl, hb⟩
    have hB2 : Below w.heap.size w w2 := thr hB hb (by omega)
    obtain ⟨q0, q1, q2, f0, f1, f2, hz⟩ := tri (kept hb z1 hh)
    clear hb hh hB
    go_wp2
    refine bodyPost_ret (v := .agg #[.int .i64 4, .int .i64 0, .string ⟨#[]⟩]) (by simp [results, Tryd.results19, go_sem, q0, q1, q2]) rfl ?_
    exact ⟨rfl, st3 hB2 (by omega)⟩
  | true =>
    show Calls Tryd.prog 19 _ w fun e w' => e = .returned (.agg #[.int .i64 (ofK (x * y)), .int .i64 (ofN (x * y)), .string ⟨#[]⟩]) ∧ Below w.heap.size w w'
    by_cases hx0 : x = 0
    · subst hx0
      rw [Int.zero_mul]
      have O := fun W => of_any (0) W
      obtain ⟨u, hu⟩ : ∃ u, u = ofK (0) := ⟨_, rfl⟩
      obtain ⟨v, hv⟩ : ∃ v, v = ofN (0) := ⟨_, rfl⟩
      simp only [← hu, ← hv] at O ⊢
      clear hu hv
      have HO := Lib.hid O
      clear O
      go_enter Tryd.func19, Tryd.ntmps19
      go_wp2_with fail
      refine (HP.out _).mono ?_
      rintro e w1 ⟨rfl, hb⟩
      have hB : Below w.heap.size w w1 := thr (bel3 w _ _ _) hb (by simp; omega)
      have hh := kept hb (by simp) (blk2 w _ _ _)
      have z1 := (tri hh).2.2.2.2.2.2
      clear hb
      go_wp2_with (go_at_call 36; refine (size_any _ _ (by omega) (by omega)).mono ?_; rintro e w' ⟨rfl, rfl⟩)
      refine (HO.out _).mono ?_
      rintro e w2 ⟨rfl, hb⟩
      have hB2 : Below w.heap.size w w2 := thr hB hb (by omega)
      obtain ⟨q0, q1, q2, f0, f1, f2, hz⟩ := tri (kept hb z1 hh)
      clear hb hh hB
      go_wp2
      refine bodyPost_ret (v := .agg #[.int .i64 u, .int .i64 v, .string ⟨#[]⟩]) (by simp [results, Tryd.results19, go_sem, q0, q1, q2]) rfl ?_
      exact ⟨rfl, st3 hB2 (by omega)⟩
    · have hxb : (x != 0) = true := by simpa using hx0
      have sx1 := szV_1 x hx0
      have sy0 := szV_0 y
      by_cases hg : 9007199254740992 / szV x < szV y
      · have hi := mul_big x y hx0 hg
        have e1 : ofK (x * y) = 4 := by simp [ofK, hi]
        have e2 : ofN (x * y) = 0 := by simp [ofN, hi]
        rw [e1, e2]
        have hgb : decide (9007199254740992 / szV x < szV y) = true := by simpa using hg
        clear hi e1 e2
        go_enter Tryd.func19, Tryd.ntmps19
        go_wp2_with fail
        refine (HP.out _).mono ?_
        rintro e w1 ⟨rfl, hb⟩
        have hB : Below w.heap.size w w1 := thr (bel3 w _ _ _) hb (by simp; omega)
        have hh := kept hb (by simp) (blk2 w _ _ _)
        have z1 := (tri hh).2.2.2.2.2.2
        clear hb
        go_wp2_with (go_at_call 36; refine (size_any _ _ (by omega) (by omega)).mono ?_; rintro e w' ⟨rfl, rfl⟩)
        refine (nan_any _).mono ?_
        rintro e w2 ⟨rfl, hb⟩
        have hB2 : Below w.heap.size w w2 := thr hB hb (by omega)
        obtain ⟨q0, q1, q2, f0, f1, f2, hz⟩ := tri (kept hb z1 hh)
        clear hb hh hB
        go_wp2
        refine bodyPost_ret (v := .agg #[.int .i64 4, .int .i64 0, .string ⟨#[]⟩]) (by simp [results, Tryd.results19, go_sem, q0, q1, q2]) rfl ?_
        exact ⟨rfl, st3 hB2 (by omega)⟩
      · have hm := mul_small x y hx0 hg
        obtain ⟨m0, m1⟩ := hm
        have hgb : decide (9007199254740992 / szV x < szV y) = false := by simpa using hg
        have O := fun W => of_any (x * y) W
        obtain ⟨u, hu⟩ : ∃ u, u = ofK (x * y) := ⟨_, rfl⟩
        obtain ⟨v, hv⟩ : ∃ v, v = ofN (x * y) := ⟨_, rfl⟩
        simp only [← hu, ← hv] at O ⊢
        clear hu hv
        have HO := Lib.hid O
        clear O
        go_enter Tryd.func19, Tryd.ntmps19
        go_wp2_with fail
        refine (HP.out _).mono ?_
        rintro e w1 ⟨rfl, hb⟩
        have hB : Below w.heap.size w w1 := thr (bel3 w _ _ _) hb (by simp; omega)
        have hh := kept hb (by simp) (blk2 w _ _ _)
        have z1 := (tri hh).2.2.2.2.2.2
        clear hb
        go_wp2_with (go_at_call 36; refine (size_any _ _ (by omega) (by omega)).mono ?_; rintro e w' ⟨rfl, rfl⟩)
        refine (HO.out _).mono ?_
        rintro e w2 ⟨rfl, hb⟩
        have hB2 : Below w.heap.size w w2 := thr hB hb (by omega)
        obtain ⟨q0, q1, q2, f0, f1, f2, hz⟩ := tri (kept hb z1 hh)
        clear hb hh hB
        go_wp2
        refine bodyPost_ret (v := .agg #[.int .i64 u, .int .i64 v, .string ⟨#[]⟩]) (by simp [results, Tryd.results19, go_sem, q0, q1, q2]) rfl ?_
        exact ⟨rfl, st3 hB2 (by omega)⟩

set_option maxHeartbeats 1000000 in
theorem less_any (k n k' n' : Int) (s s' : ByteArray) (w : World) : Calls Tryd.prog 23 #[.agg #[.int .i64 k, .int .i64 n, .string s], .agg #[.int .i64 k', .int .i64 n', .string s']] w fun e w' => e = .returned (.tuple #[.bool (whK k n s && whK k' n' s' && decide (whN k n s < whN k' n' s')), .bool (whK k n s && whK k' n' s')]) ∧ Below w.heap.size w w' := by
  have P := fun W => pair_any k n k' n' s s' W
  obtain ⟨kn, hkn⟩ : ∃ b, b = (whK k n s && whK k' n' s') := ⟨_, rfl⟩
  obtain ⟨x, hx⟩ : ∃ x, x = whN k n s := ⟨_, rfl⟩
  obtain ⟨y, hy⟩ : ∃ y, y = whN k' n' s' := ⟨_, rfl⟩
  simp only [← hkn, ← hx, ← hy] at P ⊢
  clear hkn hx hy
  have HP := Lib.hid P
  clear P
  cases kn with
  | false =>
    go_enter Tryd.func23, Tryd.ntmps23
    go_wp2_with fail
    refine (HP.out _).mono ?_
    rintro e w1 ⟨rfl, hb⟩
    have hB : Below w.heap.size w w1 := thr (bel2 w _ _) hb (by simp; omega)
    go_wp2
    go_ret2
    exact ⟨rfl, hB⟩
  | true =>
    go_enter Tryd.func23, Tryd.ntmps23
    go_wp2_with fail
    refine (HP.out _).mono ?_
    rintro e w1 ⟨rfl, hb⟩
    have hB : Below w.heap.size w w1 := thr (bel2 w _ _) hb (by simp; omega)
    go_wp2
    go_ret2
    exact ⟨rfl, hB⟩
end Go.Proofs.YtokpmpmlbmpnmaaDoor
