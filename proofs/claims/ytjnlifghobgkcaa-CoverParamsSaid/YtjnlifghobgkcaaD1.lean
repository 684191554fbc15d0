/-
  few: whether an input is small.
-/
import Derived.Test.YtjnlifghobgkcaaOpen
import Derived.Test.YtjnlifghobgkcaaC17
namespace Go.Proofs.Ytjnlifghobgkcaa
open Go.RowKit

/-- few: the world stays; true only where there are at most 400 items -/
def FewPost (w : World) (l : List It) : Ending → World → Prop := fun e w' => ∃ c : Bool, e = .returned (.bool c) ∧ w' = w ∧ (c = true → l.length ≤ 400)
def RelFew (w : World) (len : Nat) (z i : Value) (wr : World) : Prop := ∃ (x : Int) (k : Nat), z = .int .i64 x ∧ i = .int .i64 k ∧ k ≤ len ∧ k ≤ 401 ∧ wr = w
set_option linter.unusedVariables false in
set_option maxRecDepth 100000 in
set_option maxHeartbeats 1000000 in
theorem few_any (l : List It) (v : Value) (w : World) (h : ItsIn w v l) : Calls Try.prog 8 #[v] w (FewPost w l) := by
  obtain ⟨ao, cap, rfl, hcap, hmax, hin⟩ := h
  have HI := Lib.hid hin
  have hm : l.length ≤ maxLen := Nat.le_trans hcap hmax
  unfold maxLen at hm
  obtain ⟨len, hlen⟩ : ∃ len, len = l.length := ⟨_, rfl⟩
  rw [← hlen] at hm ⊢
  have HL := Lib.hid hlen
  clear hin hlen hcap hmax
  go_enter Try.func8, Try.ntmps8
  go_wp2
  go_loopw [3, 4] (fun z i wr => RelFew w len z i wr) (fun _ i _ => len - (intOf i).toNat)
  case atStart => exact ⟨0, 0, rfl, rfl, Nat.zero_le _, by omega, rfl⟩
  case round =>
    obtain ⟨x, k, rfl, rfl, hk, hk2, rfl⟩ := hrel
    by_cases hkl : k < len
    · have g1 : decide ((k : Int) < (len : Int)) = true := decide_eq_true (by omega)
      have k1 : (k : Int) < (len : Int) := by omega
      by_cases hk4 : k < 401
      · have g2 : decide ((k : Int) < (401 : Int)) = true := decide_eq_true (by omega)
        obtain ⟨y, hy⟩ : ∃ y, l[k]? = some y := ⟨_, List.getElem?_eq_getElem (by rw [← HL.out]; exact hkl)⟩
        obtain ⟨bb, oo, rfl, hbb, hcc⟩ := HI.out k y hy
        obtain ⟨-, -, -, -, c4, -⟩ := hcc
        clear hy
        go_wp2
        · go_ret
          exact ⟨false, rfl, rfl, fun h => by cases h⟩
        · exact ⟨⟨_, k + 1, rfl, by simp, by omega, by omega, rfl⟩, by simp [intOf]; omega⟩
      · have g2 : decide ((k : Int) < (401 : Int)) = false := decide_eq_false (by omega)
        have g3 : decide ((len : Int) ≤ (400 : Int)) = false := decide_eq_false (by omega)
        go_wp2
        go_ret
        exact ⟨false, rfl, rfl, fun h => by cases h⟩
    · have g1 : decide ((k : Int) < (len : Int)) = false := decide_eq_false (by omega)
      have g3 : decide ((len : Int) ≤ (400 : Int)) = decide (len ≤ 400) := by rw [Bool.eq_iff_iff, decide_eq_true_iff, decide_eq_true_iff]; omega
      obtain ⟨c, hc⟩ : ∃ c, c = decide (len ≤ 400) := ⟨_, rfl⟩
      rw [← hc] at g3
      have HLL := Lib.hid hc
      clear hc
      go_wp2
      go_ret
      exact ⟨c, rfl, rfl, fun h => by have := HLL.out; rw [h] at this; rw [← HL.out]; simpa using this.symm⟩
end Go.Proofs.Ytjnlifghobgkcaa
