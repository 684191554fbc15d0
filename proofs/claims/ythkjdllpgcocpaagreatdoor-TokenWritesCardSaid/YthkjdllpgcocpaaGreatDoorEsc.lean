/-
  Escape sequences: what pair, escape and the reference's one answer at this translation, for every string and every offset from 0 to its length: one plain function of the bytes that follow.
-/
import Derived.Test.YthkjdllpgcocpaaGreatDoorBytes
import Derived.Lib.Hide
namespace Go.Proofs.YthkjdllpgcocpaaGreatDoor
open Go.RowKit

def hex2 : List UInt8 → Int × Nat × Int
  | [] => (0, 0, 8)
  | a :: t => if hexV a.toNat = -1 then (0, 0, 21) else
    match t with
    | [] => (0, 0, 8)
    | b :: _ => if hexV b.toNat = -1 then (0, 0, 21) else (16 * hexV a.toNat + hexV b.toNat, 3, 0)

theorem hexV_lo (c : Int) : -1 ≤ hexV c := by unfold hexV; repeat' split; all_goals omega
theorem hexV_hi (c : Int) : hexV c ≤ 15 := by unfold hexV; repeat' split; all_goals omega

theorem drop_at (s : ByteArray) (k : Nat) (h : k < s.size) : s.data.toList.drop k = s[k] :: s.data.toList.drop (k + 1) := by
  rw [List.drop_eq_getElem_cons (by simpa using h)]; rfl
theorem drop_out (s : ByteArray) (k : Nat) (h : ¬ k < s.size) : s.data.toList.drop k = [] := by
  rw [List.drop_eq_nil_iff]; simp; simpa using h

def pairR (k : Nat) (r : Int × Nat × Int) : Ending := .returned (.tuple #[.int .u8 r.1, .int .i64 (if r.2.2 = 0 then (k : Int) + 2 else 0), .int .i64 r.2.2])

theorem or16f : ∀ a b : Fin 16, bits BinOp.or IntKind.u8 (bits BinOp.or IntKind.u8 0 (a.val : Int) * 16 % 256) (b.val : Int) = 16 * (a.val : Int) + (b.val : Int) := by decide +kernel
theorem or16 (a b : Int) (a0 : 0 ≤ a) (a1 : a ≤ 15) (b0 : 0 ≤ b) (b1 : b ≤ 15) : bits BinOp.or IntKind.u8 (bits BinOp.or IntKind.u8 0 a * 16 % 256) b = 16 * a + b := by
  have h := or16f ⟨a.toNat, by omega⟩ ⟨b.toNat, by omega⟩
  have ea : ((a.toNat : Nat) : Int) = a := by omega
  have eb : ((b.toNat : Nat) : Int) = b := by omega
  simp only [ea, eb] at h
  exact h
theorem ret_3 {k1 k2 k3 : IntKind} {a b c a' b' c' : Int} (h : a = a') (h1 : b = b') (h2 : c = c') : Ending.returned (.tuple #[.int k1 a, .int k2 b, .int k3 c]) = .returned (.tuple #[.int k1 a', .int k2 b', .int k3 c']) := by rw [h, h1, h2]

theorem dv_no {c : Int} (h : hexV c = -1) : dvK c = false ∧ dvV c = 0 := by simp [dvK, dvV, h]
theorem dv_yes {c : Int} (h : ¬ hexV c = -1) : dvK c = true ∧ dvV c = hexV c := by simp [dvK, dvV, h]

set_option maxHeartbeats 1000000 in
theorem pair_any (s : ByteArray) (k : Nat) (w : World) (hs : s.size ≤ 4000000) (hk : k ≤ 4000000) :
    Calls Tryz.prog 188 #[.string s, .int .i64 k] w fun e w' => e = pairR k (hex2 (s.data.toList.drop k)) ∧ w = w' := by
  by_cases h0 : k < s.size
  · obtain ⟨x, hx⟩ : ∃ x : UInt8, s[k] = x := ⟨_, rfl⟩
    have hx0 : (0 : Int) ≤ x.toNat := by omega
    have hx1 : (x.toNat : Int) ≤ 255 := by have := x.toNat_lt; omega
    by_cases h1 : hexV x.toNat = -1
    · obtain ⟨d1, d2⟩ := dv_no h1
      have R : pairR k (hex2 (s.data.toList.drop k)) = .returned (.tuple #[.int .u8 0, .int .i64 0, .int .i64 21]) := by
        rw [drop_at s k h0, hx]; simp [hex2, h1, pairR]
      rw [R]
      clear h1 R
      go_enter Tryz.func188, Tryz.ntmps188
      go_wp2
      refine wp_loop_rounds 1 ?_
      rw [rounds_succ]
      go_wp2_with (go_at_call 192; refine (digit_any _ _ hx0 hx1).mono ?_; rintro e w' ⟨rfl, rfl⟩)
      go_ret3
      exact ⟨rfl, rfl⟩
    · obtain ⟨d1, d2⟩ := dv_yes h1
      by_cases h2 : k + 1 < s.size
      · obtain ⟨y, hy⟩ : ∃ y : UInt8, s[k + 1] = y := ⟨_, rfl⟩
        have hy0 : (0 : Int) ≤ y.toNat := by omega
        have hy1 : (y.toNat : Int) ≤ 255 := by have := y.toNat_lt; omega
        by_cases h3 : hexV y.toNat = -1
        · obtain ⟨d3, d4⟩ := dv_no h3
          have R : pairR k (hex2 (s.data.toList.drop k)) = .returned (.tuple #[.int .u8 0, .int .i64 0, .int .i64 21]) := by
            rw [drop_at s k h0, hx, drop_at s (k + 1) h2, hy]; simp [hex2, h1, h3, pairR]
          rw [R]
          clear h1 R h3
          go_enter Tryz.func188, Tryz.ntmps188
          go_wp2
          refine wp_loop_rounds 2 ?_
          rw [rounds_succ]
          go_wp2_with (go_at_call 192; refine (digit_any _ _ hx0 hx1).mono ?_; rintro e w' ⟨rfl, rfl⟩)
          rw [rounds_succ]
          go_wp2_with (go_at_call 192; refine (digit_any _ _ hy0 hy1).mono ?_; rintro e w' ⟨rfl, rfl⟩)
          go_ret3
          exact ⟨rfl, rfl⟩
        · obtain ⟨d3, d4⟩ := dv_yes h3
          have R : pairR k (hex2 (s.data.toList.drop k)) = .returned (.tuple #[.int .u8 (16 * hexV x.toNat + hexV y.toNat), .int .i64 ((k : Int) + 2), .int .i64 0]) := by
            rw [drop_at s k h0, hx, drop_at s (k + 1) h2, hy]; simp [hex2, h1, h3, pairR]
          rw [R]
          have b1 := hexV_hi x.toNat
          have b2 := hexV_hi y.toNat
          have b3 : 0 ≤ hexV x.toNat := by have := hexV_lo x.toNat; omega
          have b4 : 0 ≤ hexV y.toNat := by have := hexV_lo y.toNat; omega
          clear h1 R h3
          go_enter Tryz.func188, Tryz.ntmps188
          go_wp2
          refine wp_loop_rounds 3 ?_
          rw [rounds_succ]
          go_wp2_with (go_at_call 192; refine (digit_any _ _ hx0 hx1).mono ?_; rintro e w' ⟨rfl, rfl⟩)
          rw [rounds_succ]
          go_wp2_with (go_at_call 192; refine (digit_any _ _ hy0 hy1).mono ?_; rintro e w' ⟨rfl, rfl⟩)
          rw [rounds_succ]
          go_wp2
          go_ret3
          exact ⟨ret_3 (or16 _ _ b3 b1 b4 b2) (by omega) rfl, rfl⟩
      · have R : pairR k (hex2 (s.data.toList.drop k)) = .returned (.tuple #[.int .u8 0, .int .i64 0, .int .i64 8]) := by
          rw [drop_at s k h0, hx, drop_out s (k + 1) h2]; simp [hex2, h1, pairR]
        rw [R]
        clear h1 R
        go_enter Tryz.func188, Tryz.ntmps188
        go_wp2
        refine wp_loop_rounds 2 ?_
        rw [rounds_succ]
        go_wp2_with (go_at_call 192; refine (digit_any _ _ hx0 hx1).mono ?_; rintro e w' ⟨rfl, rfl⟩)
        rw [rounds_succ]
        go_wp2
        go_ret3
        exact ⟨rfl, rfl⟩
  · have R : pairR k (hex2 (s.data.toList.drop k)) = .returned (.tuple #[.int .u8 0, .int .i64 0, .int .i64 8]) := by
      rw [drop_out s k h0]; simp [hex2, pairR]
    rw [R]
    clear R
    go_enter Tryz.func188, Tryz.ntmps188
    go_wp2
    refine wp_loop_rounds 1 ?_
    rw [rounds_succ]
    go_wp2
    go_ret3
    exact ⟨rfl, rfl⟩

def esc1 (x : Int) : Option Int :=
  if x = 110 then some 10 else if x = 116 then some 9 else if x = 114 then some 13 else if x = 48 then some 0 else if x = 92 ∨ x = 39 ∨ x = 34 ∨ x = 96 ∨ x = 36 then some x else none

/-- the bytes behind a backslash: the byte that they denote, how many they are, the error's number -/
def esc : List UInt8 → Int × Nat × Int
  | [] => (0, 0, 8)
  | c :: t => match esc1 c.toNat with
    | some b => (b, 1, 0)
    | none => if (c.toNat : Int) = 120 then hex2 t else (0, 0, 21)

def escR (k : Nat) (r : Int × Nat × Int) : Ending := .returned (.tuple #[.int .u8 r.1, .int .i64 (if r.2.2 = 0 then (k : Int) + r.2.1 else 0), .int .i64 r.2.2])

theorem hex2_w (l : List UInt8) : (hex2 l).2.2 = 0 → (hex2 l).2.1 = 3 := by
  intro h
  match l with
  | [] => simp [hex2] at h
  | [a] => by_cases h1 : hexV a.toNat = -1 <;> simp [hex2, h1] at h
  | a :: b :: t => by_cases h1 : hexV a.toNat = -1 <;> by_cases h2 : hexV b.toNat = -1 <;> simp [hex2, h1, h2] at h ⊢

theorem pair_as (k : Nat) (t : List UInt8) : pairR (k + 1) (hex2 t) = escR k (hex2 t) := by
  unfold pairR escR
  by_cases h : (hex2 t).2.2 = 0
  · have := hex2_w t h
    simp [h, this]; omega
  · simp [h]

theorem escR_one {x : UInt8} {c b : Int} {t : List UInt8} {k : Nat} (hc : (x.toNat : Int) = c) (h : esc1 c = some b) : escR k (esc (x :: t)) = .returned (.tuple #[.int .u8 b, .int .i64 ((k : Int) + 1), .int .i64 0]) := by
  simp [escR, esc, hc, h]
theorem escR_bad {x : UInt8} {c : Int} {t : List UInt8} {k : Nat} (hc : (x.toNat : Int) = c) (h1 : ¬ c = 120) (h : esc1 c = none) : escR k (esc (x :: t)) = .returned (.tuple #[.int .u8 0, .int .i64 0, .int .i64 21]) := by
  simp [escR, esc, hc, h, h1]

set_option maxHeartbeats 1000000 in
theorem escape_any (s : ByteArray) (k : Nat) (w : World) (hs : s.size ≤ 4000000) (hk : k ≤ 4000000) :
    Calls Tryz.prog 178 #[.string s, .int .i64 k] w fun e w' => e = escR k (esc (s.data.toList.drop k)) ∧ w = w' := by
  by_cases h0 : k < s.size
  · obtain ⟨x, hx⟩ : ∃ x : UInt8, s[k] = x := ⟨_, rfl⟩
    have D := drop_at s k h0
    rw [hx] at D
    rw [D]
    clear D
    obtain ⟨c, hc⟩ : ∃ c : Int, (x.toNat : Int) = c := ⟨_, rfl⟩
    by_cases h120 : c = 120
    · subst h120
      have R : escR k (esc (x :: s.data.toList.drop (k + 1))) = pairR (k + 1) (hex2 (s.data.toList.drop (k + 1))) := by
        rw [pair_as]; simp [esc, hc, esc1]
      rw [R]
      clear R
      have H := pair_any s (k + 1) w hs (by omega)
      have e1 : ((k + 1 : Nat) : Int) = (k : Int) + 1 := by omega
      rw [e1] at H
      clear e1
      obtain ⟨rb, rn, re, hret⟩ : ∃ rb rn re : Int, pairR (k + 1) (hex2 (s.data.toList.drop (k + 1))) = .returned (.tuple #[.int .u8 rb, .int .i64 rn, .int .i64 re]) := ⟨_, _, _, rfl⟩
      rw [hret] at H ⊢
      clear hret
      go_enter Tryz.func178, Tryz.ntmps178
      go_wp2_with (go_at_call 188; refine H.mono ?_; rintro e w' ⟨rfl, rfl⟩)
      go_ret3
      exact ⟨rfl, rfl⟩
    · obtain ⟨r, R⟩ : ∃ r, r = escR k (esc (x :: s.data.toList.drop (k + 1))) := ⟨_, rfl⟩
      rw [← R]
      have HR := Lib.hid R
      clear R
      go_enter Tryz.func178, Tryz.ntmps178
      go_wp2_with (go_at_call 187; refine (control_any _ _).mono ?_; rintro e w' ⟨rfl, rfl⟩)
      all_goals
        go_ret3
        refine ⟨?_, rfl⟩
        rw [HR.out]
        first
          | (refine (escR_one (b := ctlV c) hc ?_).symm; simp_all [esc1, ctlV]; done)
          | (refine (escR_one (b := c) hc ?_).symm; simp_all [esc1]; done)
          | (refine (escR_bad hc h120 ?_).symm; simp_all [esc1]; done)
  · have R : escR k (esc (s.data.toList.drop k)) = .returned (.tuple #[.int .u8 0, .int .i64 0, .int .i64 8]) := by
      rw [drop_out s k h0]; simp [esc, escR]
    rw [R]
    clear R
    go_enter Tryz.func178, Tryz.ntmps178
    go_wp2
    go_ret3
    exact ⟨rfl, rfl⟩

end Go.Proofs.YthkjdllpgcocpaaGreatDoor
