/-
  The arithmetic of package num at this translation: pair, Add, Sub, Neg, Less: for any two values.
-/
import Derived.Test.YthkjdllpgcocpaaGreatDoorNVals
namespace Go.Proofs.YthkjdllpgcocpaaGreatDoor.num
open Go.RowKit

/-- the result of an operation whose exact result is z, where both operands are known -/
def rsK (b : Bool) (z : Int) : Int := if b = true then ofK z else 4
def rsN (b : Bool) (z : Int) : Int := if b = true then ofN z else 0

theorem ret_iib {a b a' b' : Int} {c c' : Bool} (h : a = a') (h1 : b = b') (h2 : c = c') : Ending.returned (.tuple #[.int .i64 a, .int .i64 b, .bool c]) = .returned (.tuple #[.int .i64 a', .int .i64 b', .bool c']) := by rw [h, h1, h2]

set_option maxHeartbeats 400000 in
theorem pair_any (k n k' n' : Int) (s s' : ByteArray) (w : World) : Calls Tryz.prog 186 #[.agg #[.int .i64 k, .int .i64 n, .string s], .agg #[.int .i64 k', .int .i64 n', .string s']] w fun e w' => e = .returned (.tuple #[.int .i64 (whN k n s), .int .i64 (whN k' n' s'), .bool (whK k n s && whK k' n' s')]) ∧ Below w.heap.size w w' := by
  go_enter Tryz.func186, Tryz.ntmps186
  go_wp2_with fail
  refine (whole_any _ _ _ _).mono ?_
  rintro e w1 ⟨rfl, hb⟩
  obtain ⟨q0, q1, q2, f0, f1, f2, hz⟩ := three hb (by simp) (blk1 w _ _)
  have hB : Below w.heap.size w w1 := thr (bel2 w _ _) hb (by simp; omega)
  clear hb
  go_wp2_with fail
  refine (whole_any _ _ _ _).mono ?_
  rintro e w2 ⟨rfl, hb⟩
  have hB2 : Below w.heap.size w w2 := thr hB hb (by omega)
  clear hb
  go_wp2
  all_goals
    go_ret3
    exact ⟨ret_iib rfl rfl (by simp_all), hB2⟩


theorem tdiv_b (x y : Int) (h0 : -9007199254740992 ≤ x) (h1 : x ≤ 9007199254740992) (_hy : ¬ y = 0) : -9007199254740992 ≤ x.tdiv y ∧ x.tdiv y ≤ 9007199254740992 := by
  have h := Int.natAbs_tdiv_le_natAbs x y
  omega
theorem tmod_b (x y : Int) (h0 : -9007199254740992 ≤ x) (h1 : x ≤ 9007199254740992) (_hy : ¬ y = 0) : -9007199254740992 ≤ x.tmod y ∧ x.tmod y ≤ 9007199254740992 := by
  have h : (x.tmod y).natAbs ≤ x.natAbs := by
    rw [Int.natAbs_tmod]
    exact Nat.mod_le _ _
  omega

set_option maxHeartbeats 2000000 in
theorem sub_any (k n k' n' : Int) (s s' : ByteArray) (w : World) : Calls Tryz.prog 177 #[.agg #[.int .i64 k, .int .i64 n, .string s], .agg #[.int .i64 k', .int .i64 n', .string s']] w fun e w' => e = .returned (.agg #[.int .i64 (rsK ((whK k n s && whK k' n' s')) ((whN k n s) - (whN k' n' s'))), .int .i64 (rsN ((whK k n s && whK k' n' s')) ((whN k n s) - (whN k' n' s'))), .string ⟨#[]⟩]) ∧ Below w.heap.size w w' := by
  have P := fun W => pair_any k n k' n' s s' W
  obtain ⟨kn, hkn⟩ : ∃ b, b = (whK k n s && whK k' n' s') := ⟨_, rfl⟩
  obtain ⟨x, hx⟩ : ∃ x, x = whN k n s := ⟨_, rfl⟩
  obtain ⟨y, hy⟩ : ∃ y, y = whN k' n' s' := ⟨_, rfl⟩
  have bx := whN_b k n s
  have by' := whN_b k' n' s'
  simp only [← hkn, ← hx, ← hy] at P bx by' ⊢
  clear hkn hx hy
  obtain ⟨bx0, bx1⟩ := bx
  obtain ⟨by0, by1⟩ := by'
  have HP := Lib.hid P
  clear P
  cases kn with
  | false =>
    show Calls Tryz.prog 177 _ w fun e w' => e = .returned (.agg #[.int .i64 4, .int .i64 0, .string ⟨#[]⟩]) ∧ Below w.heap.size w w'
    go_enter Tryz.func177, Tryz.ntmps177
    go_wp2_with fail
    refine (HP.out _).mono ?_
    rintro e w1 ⟨rfl, hb⟩
    have hB : Below w.heap.size w w1 := thr (bel3 w _ _ _) hb (by simp; omega)
    have hh := kept hb (by simp) (blk2 w _ _ _)
    have z1 := (tri hh).2.2.2.2.2.2
    clear hb
    go_wp2_with fail
    refine (nan_any _).mono ?_
    rintro e w2 ⟨rfl, hb⟩
    have hB2 : Below w.heap.size w w2 := thr hB hb (by omega)
    obtain ⟨q0, q1, q2, f0, f1, f2, hz⟩ := tri (kept hb z1 hh)
    clear hb hh hB
    go_wp2
    refine bodyPost_ret (v := .agg #[.int .i64 4, .int .i64 0, .string ⟨#[]⟩]) (by simp [results, Tryz.results177, go_sem, q0, q1, q2]) rfl ?_
    exact ⟨rfl, st3 hB2 (by omega)⟩
  | true =>
    show Calls Tryz.prog 177 _ w fun e w' => e = .returned (.agg #[.int .i64 (ofK (x - y)), .int .i64 (ofN (x - y)), .string ⟨#[]⟩]) ∧ Below w.heap.size w w'
    have O := fun W => of_any (x - y) W
    obtain ⟨u, hu⟩ : ∃ u, u = ofK (x - y) := ⟨_, rfl⟩
    obtain ⟨v, hv⟩ : ∃ v, v = ofN (x - y) := ⟨_, rfl⟩
    simp only [← hu, ← hv] at O ⊢
    clear hu hv
    have HO := Lib.hid O
    clear O
    go_enter Tryz.func177, Tryz.ntmps177
    go_wp2_with fail
    refine (HP.out _).mono ?_
    rintro e w1 ⟨rfl, hb⟩
    have hB : Below w.heap.size w w1 := thr (bel3 w _ _ _) hb (by simp; omega)
    have hh := kept hb (by simp) (blk2 w _ _ _)
    have z1 := (tri hh).2.2.2.2.2.2
    clear hb
    go_wp2_with fail
    refine (HO.out _).mono ?_
    rintro e w2 ⟨rfl, hb⟩
    have hB2 : Below w.heap.size w w2 := thr hB hb (by omega)
    obtain ⟨q0, q1, q2, f0, f1, f2, hz⟩ := tri (kept hb z1 hh)
    clear hb hh hB
    go_wp2
    refine bodyPost_ret (v := .agg #[.int .i64 u, .int .i64 v, .string ⟨#[]⟩]) (by simp [results, Tryz.results177, go_sem, q0, q1, q2]) rfl ?_
    exact ⟨rfl, st3 hB2 (by omega)⟩

end Go.Proofs.YthkjdllpgcocpaaGreatDoor.num
