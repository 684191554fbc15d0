/-
  One bit of each operator, and Low, of the reference at this translation.
-/
import Derived.Test.YtokpmpmlbmpnmaaDoorBits1
import Derived.Test.YtokpmpmlbmpnmaaDoorRefText
namespace Go.Proofs.YtokpmpmlbmpnmaaDoor
open Go.RowKit

theorem bit_v (x : Int) (i : Nat) (v : Int) (h0 : -2147483648 ≤ x) (h1 : x ≤ 2147483647) (hi : i ≤ 31) (hv : ((bt (un x) i : Nat) : Int) = v) : ∀ w, Calls Tryd.prog 47 #[.int .i64 x, .int .i64 i] w fun e w' => e = .returned (.int .i64 v) ∧ w = w' := by
  intro w
  rw [← hv]
  exact bit_any x i w h0 h1 hi

set_option maxHeartbeats 1000000 in
theorem one_and (x y c : Int) (i : Nat) (w : World) (x0 : -2147483648 ≤ x) (x1 : x ≤ 2147483647) (y0 : -2147483648 ≤ y) (y1 : y ≤ 2147483647) (hi : i ≤ 31) : Calls Tryd.prog 40 #[.string ⟨#[38]⟩, .int .i64 x, .int .i64 y, .int .i64 c, .int .i64 i] w fun e w' => e = .returned (.int .i64 (bt (un x &&& un y) i : Nat)) ∧ w = w' := by
  rw [bt_and]
  rcases bt_01 (un x) i with hp | hp <;> rcases bt_01 (un y) i with hq | hq <;> (
    rw [hp, hq]
    have HA := Lib.hid (bit_v x i _ x0 x1 hi (congrArg (fun n : Nat => (n : Int)) hp))
    have HB := Lib.hid (bit_v y i _ y0 y1 hi (congrArg (fun n : Nat => (n : Int)) hq))
    clear hp hq x0 x1 y0 y1 hi
    go_enter Tryd.func40, Tryd.ntmps40
    go_wp2_with fail
    refine (HA.out _).mono ?_
    rintro e w' ⟨rfl, rfl⟩
    go_wp2_with fail
    refine (HB.out _).mono ?_
    rintro e w' ⟨rfl, rfl⟩
    go_wp2
    go_ret
    exact ⟨ret_i64 (by decide), rfl⟩)

set_option maxHeartbeats 1000000 in
theorem one_or (x y c : Int) (i : Nat) (w : World) (x0 : -2147483648 ≤ x) (x1 : x ≤ 2147483647) (y0 : -2147483648 ≤ y) (y1 : y ≤ 2147483647) (hi : i ≤ 31) : Calls Tryd.prog 40 #[.string ⟨#[124]⟩, .int .i64 x, .int .i64 y, .int .i64 c, .int .i64 i] w fun e w' => e = .returned (.int .i64 (bt (un x ||| un y) i : Nat)) ∧ w = w' := by
  rw [bt_or]
  rcases bt_01 (un x) i with hp | hp <;> rcases bt_01 (un y) i with hq | hq <;> (
    rw [hp, hq]
    have HA := Lib.hid (bit_v x i _ x0 x1 hi (congrArg (fun n : Nat => (n : Int)) hp))
    have HB := Lib.hid (bit_v y i _ y0 y1 hi (congrArg (fun n : Nat => (n : Int)) hq))
    clear hp hq x0 x1 y0 y1 hi
    go_enter Tryd.func40, Tryd.ntmps40
    go_wp2_with fail
    refine (HA.out _).mono ?_
    rintro e w' ⟨rfl, rfl⟩
    go_wp2_with fail
    refine (HB.out _).mono ?_
    rintro e w' ⟨rfl, rfl⟩
    go_wp2
    go_ret
    exact ⟨ret_i64 (by decide), rfl⟩)

set_option maxHeartbeats 1000000 in
theorem one_xor (x y c : Int) (i : Nat) (w : World) (x0 : -2147483648 ≤ x) (x1 : x ≤ 2147483647) (y0 : -2147483648 ≤ y) (y1 : y ≤ 2147483647) (hi : i ≤ 31) : Calls Tryd.prog 40 #[.string ⟨#[94]⟩, .int .i64 x, .int .i64 y, .int .i64 c, .int .i64 i] w fun e w' => e = .returned (.int .i64 (bt (un x ^^^ un y) i : Nat)) ∧ w = w' := by
  rw [bt_xor]
  rcases bt_01 (un x) i with hp | hp <;> rcases bt_01 (un y) i with hq | hq <;> (
    rw [hp, hq]
    have HA := Lib.hid (bit_v x i _ x0 x1 hi (congrArg (fun n : Nat => (n : Int)) hp))
    have HB := Lib.hid (bit_v y i _ y0 y1 hi (congrArg (fun n : Nat => (n : Int)) hq))
    clear hp hq x0 x1 y0 y1 hi
    go_enter Tryd.func40, Tryd.ntmps40
    go_wp2_with fail
    refine (HA.out _).mono ?_
    rintro e w' ⟨rfl, rfl⟩
    go_wp2_with fail
    refine (HB.out _).mono ?_
    rintro e w' ⟨rfl, rfl⟩
    go_wp2
    go_ret
    exact ⟨ret_i64 (by decide), rfl⟩)

set_option maxHeartbeats 1000000 in
theorem one_shl (x y : Int) (k i : Nat) (w : World) (x0 : -2147483648 ≤ x) (x1 : x ≤ 2147483647) (hk : k ≤ 31) (hi : i ≤ 31) : Calls Tryd.prog 40 #[.string ⟨#[60, 60]⟩, .int .i64 x, .int .i64 y, .int .i64 k, .int .i64 i] w fun e w' => e = .returned (.int .i64 (bt (un x * 2 ^ k % 4294967296) i : Nat)) ∧ w = w' := by
  rw [bt_shl _ _ _ (by omega)]
  by_cases h : i < k
  · rw [if_pos h]
    have h' : (i : Int) < k := by omega
    go_enter Tryd.func40, Tryd.ntmps40
    go_wp2
    go_ret
    exact ⟨ret_i64 rfl, rfl⟩
  · rw [if_neg h]
    have h' : ¬ (i : Int) < k := by omega
    obtain ⟨j, hj⟩ : ∃ j, j = i - k := ⟨_, rfl⟩
    have e : (i : Int) - k = j := by omega
    have hj' : j ≤ 31 := by omega
    rw [← hj]
    have HA := Lib.hid (bit_v x j _ x0 x1 hj' rfl)
    clear hj x0 x1
    go_enter Tryd.func40, Tryd.ntmps40
    go_wp2_with fail
    refine (HA.out _).mono ?_
    rintro e w' ⟨rfl, rfl⟩
    go_wp2
    go_ret
    exact ⟨ret_i64 rfl, rfl⟩
set_option maxHeartbeats 1000000 in
theorem one_shr (x y : Int) (k i : Nat) (w : World) (x0 : -2147483648 ≤ x) (x1 : x ≤ 2147483647) (hk : k ≤ 31) (hi : i ≤ 31) : Calls Tryd.prog 40 #[.string ⟨#[62, 62]⟩, .int .i64 x, .int .i64 y, .int .i64 k, .int .i64 i] w fun e w' => e = .returned (.int .i64 (bt (un (x / 2 ^ k)) i : Nat)) ∧ w = w' := by
  rw [bt_shr x x0 x1 k i (by omega)]
  obtain ⟨j, hj⟩ : ∃ j, j = min (i + k) 31 := ⟨_, rfl⟩
  have e : min ((i : Int) + k) 31 = j := by omega
  have hj' : j ≤ 31 := by omega
  rw [← hj]
  have HA := Lib.hid (bit_v x j _ x0 x1 hj' rfl)
  clear hj x0 x1
  go_enter Tryd.func40, Tryd.ntmps40
  go_wp2_with fail
  refine (HA.out _).mono ?_
  rintro e w' ⟨rfl, rfl⟩
  go_wp2
  go_ret
  exact ⟨ret_i64 rfl, rfl⟩

theorem lo_tmod (n : Int) : lo n = if n.tmod 4294967296 < 0 then (if n.tmod 4294967296 + 4294967296 ≥ 2147483648 then n.tmod 4294967296 else n.tmod 4294967296 + 4294967296) else (if n.tmod 4294967296 ≥ 2147483648 then n.tmod 4294967296 - 4294967296 else n.tmod 4294967296) := by
  unfold lo
  by_cases h : 0 ≤ n
  · rw [Int.tmod_eq_emod_of_nonneg h]
    split
    · omega
    · split <;> omega
  · have h3 : (-n).tmod 4294967296 = -(n.tmod 4294967296) := Int.neg_tmod n 4294967296
    rw [Int.tmod_eq_emod_of_nonneg (by omega)] at h3
    split
    · split <;> omega
    · split <;> omega
theorem tm32_b (n : Int) : -4294967296 < n.tmod 4294967296 ∧ n.tmod 4294967296 < 4294967296 := by
  by_cases h : 0 ≤ n
  · rw [Int.tmod_eq_emod_of_nonneg h]
    omega
  · have h3 : (-n).tmod 4294967296 = -(n.tmod 4294967296) := Int.neg_tmod n 4294967296
    rw [Int.tmod_eq_emod_of_nonneg (by omega)] at h3
    omega
set_option maxHeartbeats 1000000 in
theorem reflow_go (k n r z : Int) (s : ByteArray) (w : World) (HA : Hid (∀ W, Calls Tryd.prog 32 #[.agg #[.int .i64 k, .int .i64 n, .string s]] W fun e w' => e = .returned (.bool true) ∧ Below W.heap.size W w')) (hr : n.tmod 4294967296 = r) (r0 : -4294967296 < r) (r1 : r < 4294967296) (hz : Hid (z = if r < 0 then (if r + 4294967296 ≥ 2147483648 then r else r + 4294967296) else (if r ≥ 2147483648 then r - 4294967296 else r))) :
    Calls Tryd.prog 39 #[.agg #[.int .i64 k, .int .i64 n, .string s]] w fun e w' => e = .returned (.int .i64 z) ∧ Below w.heap.size w w' := by
  go_enter Tryd.func39, Tryd.ntmps39
  go_wp2_with fail
  refine (HA.out _).mono ?_
  rintro e w1 ⟨rfl, hb⟩
  obtain ⟨q0, q1, q2, f0, f1, f2, hl⟩ := three hb (by simp) (heap_alloc_new w _)
  have hB : Below w.heap.size w w1 := thr (bel1 w _) hb (by simp)
  clear hb HA
  go_wp2
  all_goals
    go_ret
    refine ⟨ret_i64 (Eq.trans ?_ hz.out.symm), hB⟩
    split <;> (try split) <;> omega
set_option maxHeartbeats 1000000 in
theorem reflow_any (k n : Int) (s : ByteArray) (w : World) : Calls Tryd.prog 39 #[.agg #[.int .i64 k, .int .i64 n, .string s]] w fun e w' => e = .returned (.int .i64 (lwV k n s)) ∧ Below w.heap.size w w' := by
  have SA := fun W => some_any k n s W
  cases hA : whK k n s with
  | false =>
    rw [hA] at SA
    have e : lwV k n s = 0 := by unfold lwV whN; rw [hA]; rfl
    rw [e]
    have HA := Lib.hid SA
    clear SA hA e
    go_enter Tryd.func39, Tryd.ntmps39
    go_wp2_with fail
    refine (HA.out _).mono ?_
    rintro e w1 ⟨rfl, hb⟩
    have hB : Below w.heap.size w w1 := thr (bel1 w _) hb (by simp)
    go_wp2
    go_ret
    exact ⟨rfl, hB⟩
  | true =>
    rw [hA] at SA
    have e : whN k n s = n := by unfold whN; rw [if_pos hA]
    have el : lwV k n s = lo n := by unfold lwV; rw [e]
    rw [el]
    exact reflow_go k n _ _ s w (Lib.hid SA) rfl (tm32_b n).1 (tm32_b n).2 (Lib.hid (lo_tmod n))
end Go.Proofs.YtokpmpmlbmpnmaaDoor
