/-
  digits and decimal of the reference of package token at this translation.
-/
import Derived.Test.YthkjdllpgcocpaaGreatDoorWOwn
namespace Go.Proofs.YthkjdllpgcocpaaGreatDoor
open Go.RowKit

def natOf : Value → Nat
  | .int _ n => n.toNat
  | _ => 0
theorem dd_one (n : Nat) (h : n < 10) : Lib.decDigits n = [UInt8.ofNat (48 + n)] := by rw [Lib.decDigits, dif_pos h]
theorem dd_more (n : Nat) (h : ¬ n < 10) : Lib.decDigits n = Lib.decDigits (n / 10) ++ [UInt8.ofNat (48 + n % 10)] := by rw [Lib.decDigits.eq_def n, dif_neg h]

theorem dd_le : ∀ (m n : Nat), n < 10 ^ m → (Lib.decDigits n).length ≤ m ∨ m = 0
  | 0, _, _ => .inr rfl
  | m + 1, n, h => by
    by_cases h10 : n < 10
    · rw [dd_one n h10]; exact .inl (by simp)
    · rw [dd_more n h10]
      rcases dd_le m (n / 10) (by rw [Nat.pow_succ] at h; omega) with h1 | h1
      · exact .inl (by simp; omega)
      · subst h1; simp at h; omega
theorem dd_len (u : Nat) (hu : u < 18446744073709551616) : (Lib.decDigits u).length ≤ 20 := by
  rcases dd_le 20 u (by omega) with h | h
  · exact h
  · omega
theorem itoa_len (n : Int) (h0 : -9223372036854775808 ≤ n) (h1 : n ≤ 9223372036854775807) : (Lib.itoa n).length ≤ 21 := by
  unfold Lib.itoa
  split
  · have := dd_len n.natAbs (by omega); simp; omega
  · have := dd_len n.toNat (by omega); omega

set_option linter.unusedVariables false in
set_option maxRecDepth 100000 in
set_option maxHeartbeats 1000000 in
theorem rdigits_any (u : Nat) (w : World) (hu : u < 18446744073709551616) :
    Calls Tryz.prog 42 #[.int .u64 u] w fun e w' => e = .returned (.string ⟨(Lib.decDigits u).toArray⟩) ∧ Below w.heap.size w w' := by
  go_enter Tryz.func42, Tryz.ntmps42
  go_wp2
  go_loopw [0, 3] (fun v s wr => ∃ (k : Nat) (o : ByteArray), v = .int .u64 k ∧ s = .string o ∧ k ≤ u ∧ Lib.decDigits u = Lib.decDigits k ++ o.data.toList ∧ o.size ≤ 100 ∧ Below w.heap.size w wr) (fun v _ _ => natOf v)
  case atStart => exact ⟨u, ⟨#[]⟩, rfl, rfl, Nat.le_refl _, by simp, by simp [ByteArray.size], Below.refl _ _⟩
  case round =>
    obtain ⟨k, o, rfl, rfl, hk, he, hz, hb⟩ := hrel
    have HE := Lib.hid he
    have HB := Lib.hid hb
    clear he hb
    by_cases h10 : 10 ≤ k
    · have g1 : decide ((10 : Int) ≤ (k : Int)) = true := decide_eq_true (by omega)
      have hcv := conv_one wr (48 + (k : Int) % 10) (by omega) (by omega)
      obtain ⟨p, hp⟩ : ∃ p : ByteArray, p = ⟨#[byt (48 + (k : Int) % 10)]⟩ := ⟨_, rfl⟩
      have hp1 : p.size = 1 := by rw [hp]; rfl
      rw [← hp] at hcv
      have HP := Lib.hid hp
      clear hp
      go_wp2
      go_roundw
      case rel =>
        have e2 : Lib.decDigits u = Lib.decDigits (k / 10) ++ (p ++ o).data.toList := by
          rw [HE.out, dd_more k (by omega), List.append_assoc, HP.out]
          have : byt (48 + (k : Int) % 10) = UInt8.ofNat (48 + k % 10) := by unfold byt; congr 1
          rw [this]
          simp
        have e3 := dd_len u hu
        rw [e2, List.length_append] at e3
        have e4 : (p ++ o).data.toList.length = (p ++ o).size := by rw [Array.length_toList]; rfl
        exact ⟨k / 10, p ++ o, by simp, rfl, by omega, e2, by omega, HB.out.alloc HB.out.size _⟩
      case measure =>
        show ((k : Int) / 10).toNat < (k : Int).toNat
        omega
    · have g1 : decide ((10 : Int) ≤ (k : Int)) = false := decide_eq_false (by omega)
      have hcv := conv_one wr (48 + (k : Int)) (by omega) (by omega)
      obtain ⟨p, hp⟩ : ∃ p : ByteArray, p = ⟨#[byt (48 + (k : Int))]⟩ := ⟨_, rfl⟩
      have hp1 : p.size = 1 := by rw [hp]; rfl
      rw [← hp] at hcv
      have HP := Lib.hid hp
      have hk9 : k < 10 := by omega
      clear h10 hp
      go_wp2
      go_ret
      refine ⟨?_, HB.out.alloc HB.out.size _⟩
      have e2 : p ++ o = ⟨(Lib.decDigits u).toArray⟩ := by
        refine ByteArray.ext (Array.ext' ?_)
        rw [HE.out, dd_one k hk9, HP.out]
        have : byt (48 + (k : Int)) = UInt8.ofNat (48 + k) := by unfold byt; congr 1
        rw [this]
        simp
      rw [e2]
      rfl
set_option linter.unusedVariables false in
set_option maxRecDepth 100000 in
set_option maxHeartbeats 1000000 in
theorem decimal_any (n : Int) (w : World) (h0 : -9223372036854775808 ≤ n) (h1 : n ≤ 9223372036854775807) :
    Calls Tryz.prog 23 #[.int .i64 n] w fun e w' => e = .returned (.string ⟨(Lib.itoa n).toArray⟩) ∧ Below w.heap.size w w' := by
  by_cases hn : n < 0
  · have H := rdigits_any n.natAbs w (by omega)
    have e : ((n.natAbs : Nat) : Int) = -(n + 1) + 1 := by omega
    rw [e] at H
    have hi : Lib.itoa n = 45 :: Lib.decDigits n.natAbs := by unfold Lib.itoa; rw [if_pos hn]
    rw [hi]
    clear hi e
    go_enter Tryz.func23, Tryz.ntmps23
    go_wp2_with fail
    obtain ⟨p, hp⟩ : ∃ p : ByteArray, p = ⟨(Lib.decDigits n.natAbs).toArray⟩ := ⟨_, rfl⟩
    have hp1 : p.size ≤ 20 := by rw [hp]; have := dd_len n.natAbs (by omega); simpa [ByteArray.size] using this
    rw [← hp] at H
    have HP := Lib.hid hp
    clear hp
    refine H.mono ?_
    rintro e w1 ⟨rfl, hb⟩
    go_wp2
    go_ret
    refine ⟨?_, hb⟩
    rw [HP.out]
    have e5 : (⟨#[45]⟩ : ByteArray) ++ ⟨(Lib.decDigits n.natAbs).toArray⟩ = ⟨(45 :: Lib.decDigits n.natAbs).toArray⟩ := ByteArray.ext (Array.ext' (by simp))
    rw [e5]
    rfl
  · obtain ⟨u, rfl⟩ : ∃ u : Nat, n = u := ⟨n.toNat, by omega⟩
    have H := rdigits_any u w (by omega)
    have hi : Lib.itoa (u : Int) = Lib.decDigits u := by unfold Lib.itoa; rw [if_neg hn]; simp
    rw [hi]
    clear hi
    go_enter Tryz.func23, Tryz.ntmps23
    go_wp2_with fail
    refine H.mono ?_
    rintro e w1 ⟨rfl, hb⟩
    go_wp2
    go_ret
    exact ⟨rfl, hb⟩
end Go.Proofs.YthkjdllpgcocpaaGreatDoor
