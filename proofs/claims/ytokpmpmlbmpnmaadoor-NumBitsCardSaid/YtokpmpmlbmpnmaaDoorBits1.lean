/-
  low, shift of num and Low, bit of the reference at this translation.
-/
import Derived.Test.YtokpmpmlbmpnmaaDoorBitM
import Derived.Test.YtokpmpmlbmpnmaaDoorVals
import Derived.LoopTactic
namespace Go.Proofs.YtokpmpmlbmpnmaaDoor
open Go.RowKit

theorem wrap_lo (n : Int) : IntKind.i32.wrap n = lo n := by
  simp [IntKind.wrap, lo, IntKind.signed, IntKind.bits]
  split <;> omega
theorem ret_i32 {a b : Int} (h : a = b) : Ending.returned (.int .i32 a) = .returned (.int .i32 b) := by rw [h]
theorem ret_i64 {a b : Int} (h : a = b) : Ending.returned (.int .i64 a) = .returned (.int .i64 b) := by rw [h]
def lwV (k n : Int) (s : ByteArray) : Int := lo (whN k n s)

set_option maxHeartbeats 400000 in
theorem low_any (k n : Int) (s : ByteArray) (w : World) : Calls Tryd.prog 37 #[.agg #[.int .i64 k, .int .i64 n, .string s]] w fun e w' => e = .returned (.int .i32 (lwV k n s)) ∧ Below w.heap.size w w' := by
  have P := fun W => whole_any k n s W
  have hb := whN_b k n s
  unfold lwV
  generalize whN k n s = v at P hb
  generalize whK k n s = c at P
  have HP := Lib.hid P
  clear P
  go_enter Tryd.func37, Tryd.ntmps37
  go_wp2_with fail
  refine (HP.out _).mono ?_
  rintro e w1 ⟨rfl, hb⟩
  have h1 : Below w.heap.size w w1 := thr (bel1 w _) hb (by simp)
  go_wp2
  go_ret
  exact ⟨ret_i32 (by unfold wrap32 lo; omega), h1⟩

theorem and31 (y : Int) : bits .and .i32 y 31 = y % 32 := by
  have e : (BitVec.ofInt 32 y &&& BitVec.ofInt 32 31).toNat = (y % 32).toNat := by
    have e1 : (BitVec.ofInt 32 31).toNat = 31 := by decide
    rw [BitVec.toNat_and, e1, show (31 : Nat) = 2 ^ 5 - 1 from rfl, Nat.and_two_pow_sub_one_eq_mod, BitVec.toNat_ofInt]
    omega
  unfold bits
  show IntKind.i32.wrap ((BitVec.ofInt 32 y &&& BitVec.ofInt 32 31).toNat : Int) = _
  rw [e, wrap_lo]
  unfold lo
  omega
set_option maxHeartbeats 400000 in
theorem shift_any (y : Int) (w : World) : Calls Tryd.prog 38 #[.int .i32 y] w fun e w' => e = .returned (.int .i64 (y % 32)) ∧ w = w' := by
  have h0 : 0 ≤ bits .and .i32 y 31 ∧ bits .and .i32 y 31 ≤ 31 := by rw [and31]; omega
  have E := Lib.hid (and31 y)
  obtain ⟨z, hz⟩ : ∃ z, bits .and .i32 y 31 = z := ⟨_, rfl⟩
  rw [hz] at h0
  have EZ : Hid (z = y % 32) := Lib.hid (by rw [← hz]; exact E.out)
  clear E
  obtain ⟨h1, h2⟩ := h0
  go_enter Tryd.func38, Tryd.ntmps38
  go_wp2
  go_ret
  exact ⟨ret_i64 EZ.out, rfl⟩
set_option maxHeartbeats 1000000 in
theorem bit_any (x : Int) (i : Nat) (w : World) (h0 : -2147483648 ≤ x) (h1 : x ≤ 2147483647) (hi : i ≤ 31) : Calls Tryd.prog 47 #[.int .i64 x, .int .i64 i] w fun e w' => e = .returned (.int .i64 (bt (un x) i : Nat)) ∧ w = w' := by
  obtain ⟨X, hX⟩ : ∃ X, X = un x := ⟨_, rfl⟩
  have hlt : X < 4294967296 := by rw [hX]; exact un_lt x
  have hn := un_neg x h0 h1
  rw [← hX] at hn ⊢
  clear hX
  by_cases hx : x < 0
  all_goals
    rw [show (if x < 0 then x + 4294967296 else x) = _ from by first | exact if_pos hx | exact if_neg hx] at hn
    have HX := Lib.hid hn
    clear hn
    go_enter Tryd.func47, Tryd.ntmps47
    go_wp2_with fail
    go_loop [0, 5] (fun v c => ∃ k : Nat, k ≤ i ∧ c = .int .i64 k ∧ v = .int .i64 ((X / 2 ^ k : Nat) : Int)) (fun _ c => i - (intOf c).toNat)
    case atStart => exact ⟨0, by omega, by go_num, by simp [HX.out]⟩
    case round =>
      obtain ⟨k, hk, rfl, rfl⟩ := hrel
      obtain ⟨Y, hY⟩ : ∃ Y, Y = X / 2 ^ k := ⟨_, rfl⟩
      have hYl : Y < 4294967296 := by rw [hY]; exact Nat.lt_of_le_of_lt (Nat.div_le_self _ _) hlt
      rw [← hY]
      have HY := Lib.hid hY
      clear hY
      by_cases hki : k < i
      · go_wp2
        go_round
        case rel => exact ⟨k + 1, by omega, by go_num, by rw [Nat.pow_succ, ← Nat.div_div_eq_div_mul, ← HY.out]; go_num⟩
        case measure => simp [intOf]; omega
      · go_wp2
        go_ret
        exact ⟨ret_i64 (by unfold bt; rw [show i = k from by omega, ← HY.out]; omega), rfl⟩
end Go.Proofs.YtokpmpmlbmpnmaaDoor
