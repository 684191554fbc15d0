/-
  Reading the decimal numeral of an integer gives the integer back.
-/
import Derived.Test.YtokpmpmlbmpnmaaDoorTrim
import Derived.Lib.ItoaMem
namespace Go.Proofs.YtokpmpmlbmpnmaaDoor
open Go.RowKit

theorem dv_at (u : Nat) (h : u < 10) : dgV ((UInt8.ofNat (48 + u)).toNat : Int) = u := by
  have e : (UInt8.ofNat (48 + u)).toNat = 48 + u := by simp; omega
  rw [e]
  unfold dgV
  rw [if_pos (by omega)]
  omega
theorem dgR_dec : ∀ (u : Nat) (l : List UInt8), u ≤ 9007199254740992 → dgR 10 (Lib.decDigits u ++ l) 0 = dgR 10 l u := by
  intro u
  induction u using Nat.strongRecOn with
  | ind u ih =>
    intro l hu
    by_cases h : u < 10
    · rw [Lib.decDigits.eq_def u, dif_pos h]
      have e := dv_at u h
      show dgR 10 (UInt8.ofNat (48 + u) :: l) 0 = _
      rw [dg_in (by rw [e]; omega) (by rw [e]; exact in_of (by omega) (by omega)), e]
      congr 1
      omega
    · rw [Lib.decDigits.eq_def u, dif_neg h, List.append_assoc, ih (u / 10) (by omega) _ (by omega)]
      have e := dv_at (u % 10) (by omega)
      show dgR 10 (UInt8.ofNat (48 + u % 10) :: l) _ = _
      rw [dg_in (by rw [e]; omega) (by rw [e]; exact in_of (by omega) (by omega)), e]
      congr 1
      omega
theorem dec_ne (u : Nat) : Lib.decDigits u ≠ [] := by
  rw [Lib.decDigits.eq_def u]
  split <;> simp
theorem dgS_dec (u : Nat) (hu : u ≤ 9007199254740992) : dgS 10 (Lib.decDigits u) = some (u : Int) := by
  unfold dgS
  rw [if_neg (dec_ne u)]
  have h := dgR_dec u [] hu
  rw [List.append_nil] at h
  rw [h]
  rfl
theorem dec_mem (u : Nat) : ∀ b ∈ Lib.decDigits u, 48 ≤ b.toNat ∧ b.toNat ≤ 57 := by
  induction u using Nat.strongRecOn with
  | ind u ih =>
    intro b hb
    rw [Lib.decDigits.eq_def u] at hb
    by_cases h : u < 10
    · rw [dif_pos h] at hb
      simp at hb
      subst hb
      simp
      omega
    · rw [dif_neg h] at hb
      simp at hb
      rcases hb with hb | rfl
      · exact ih (u / 10) (by omega) b hb
      · simp
        omega
theorem bl_dig (b : UInt8) (h : 45 ≤ b.toNat ∧ b.toNat ≤ 57) : blU b = false := by
  unfold blU blB
  simp
  omega
theorem tr_none (l : List UInt8) (h : ∀ b ∈ l, blU b = false) : rtr (ltr l) = l := by
  have h1 : ltr l = l := by
    cases l with
    | nil => rfl
    | cons x xs => exact ltr_no (h x (by simp))
  rw [h1]
  cases hl : l.reverse with
  | nil =>
    have : l = [] := by simpa using hl
    subst this
    rfl
  | cons x xs =>
    have e : l = xs.reverse ++ [x] := by
      have := congrArg List.reverse hl
      simpa using this
    rw [e]
    exact rtr_no (h x (by rw [e]; simp))
theorem rd_itoa (n : Int) (h0 : -9007199254740992 ≤ n) (h1 : n ≤ 9007199254740992) : rdS (Lib.itoa n) = some n := by
  unfold rdS
  rw [tr_eq]
  unfold Lib.itoa
  by_cases hn : n < 0
  · rw [if_pos hn, tr_none _ (by
      intro b hb
      simp at hb
      rcases hb with rfl | hb
      · exact bl_dig _ (by decide)
      · have := dec_mem _ b hb
        exact bl_dig b (by omega)), rdT_cons, if_neg (by simp [Lib.hasPrefix, List.isPrefixOf]), if_neg (by decide), if_pos rfl, dgS_dec _ (by omega)]
    show some (0 - ((n.natAbs : Nat) : Int)) = some n
    congr 1
    omega
  · rw [if_neg hn, tr_none _ (by
      intro b hb
      have := dec_mem _ b hb
      exact bl_dig b (by omega))]
    have hd := dgS_dec n.toNat (by omega)
    have hm := dec_mem n.toNat
    cases hl : Lib.decDigits n.toNat with
    | nil => exact absurd hl (dec_ne _)
    | cons c r =>
      rw [hl] at hd hm
      have hc := hm c (by simp)
      have n120 : ¬ (120 : UInt8) = c := by intro h; rw [← h] at hc; simp at hc
      have p1 : ∀ x : UInt8, 57 < x.toNat → Lib.hasPrefix (c :: r) [48, x] = false := by
        intro x hx
        cases r with
        | nil => simp [Lib.hasPrefix, List.isPrefixOf]
        | cons d r2 =>
          have hd2 := hm d (by simp)
          have : ¬ x = d := by intro h; rw [← h] at hd2; omega
          simp [Lib.hasPrefix, List.isPrefixOf, this]
      rw [rdT_cons, p1 120 (by decide), p1 88 (by decide), if_neg (by simp), if_neg (by intro h; rw [h] at hc; simp at hc), if_neg (by intro h; rw [h] at hc; simp at hc), hd]
      congr 1
      omega
theorem rd_nan : rdS [78, 97, 78] = none := by kernel_rfl
end Go.Proofs.YtokpmpmlbmpnmaaDoor
