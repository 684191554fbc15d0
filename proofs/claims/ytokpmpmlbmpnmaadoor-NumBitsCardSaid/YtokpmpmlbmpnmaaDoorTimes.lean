/-
  times and Less of the reference at this translation.
-/
import Derived.Test.YtokpmpmlbmpnmaaDoorRefText
namespace Go.Proofs.YtokpmpmlbmpnmaaDoor
open Go.RowKit

/-- Two naturals, each parted at 2^26: their product, and the bounds of its parts. -/
theorem nat_parts (h l u d : Nat) (hh : h ≤ 134217728) (hl : l < 67108864) (hu : u ≤ 134217728) (hd : d < 67108864) :
    h * u ≤ 18014398509481984 ∧ h * d ≤ 9007199120523264 ∧ l * u ≤ 9007199120523264 ∧ l * d ≤ 4503599493152769 ∧ (h * 67108864 + l) * (u * 67108864 + d) = h * u * 4503599627370496 + (h * d + l * u) * 67108864 + l * d := by
  refine ⟨Nat.le_trans (Nat.mul_le_mul hh hu) (by decide), Nat.le_trans (Nat.mul_le_mul hh (show d ≤ 67108863 by omega)) (by decide), Nat.le_trans (Nat.mul_le_mul (show l ≤ 67108863 by omega) hu) (by decide), Nat.le_trans (Nat.mul_le_mul (show l ≤ 67108863 by omega) (show d ≤ 67108863 by omega)) (by decide), ?_⟩
  rw [Nat.add_mul, Nat.mul_add, Nat.mul_add, Nat.add_mul]
  have e1 : h * 67108864 * (u * 67108864) = h * u * 4503599627370496 := by
    rw [Nat.mul_mul_mul_comm]
  have e2 : h * 67108864 * d = h * d * 67108864 := by rw [Nat.mul_right_comm]
  have e3 : l * (u * 67108864) = l * u * 67108864 := by rw [Nat.mul_assoc]
  rw [e1, e2, e3]
  omega

/-- The signed parts: each product of parts has the product's sign. -/
theorem part_of (a : Int) (h0 : -9007199254740992 ≤ a) (h1 : a ≤ 9007199254740992) : ∃ (H L : Nat) (s : Int), (s = 1 ∨ s = -1) ∧ a.tdiv 67108864 = s * H ∧ a.tmod 67108864 = s * L ∧ a = s * ((H * 67108864 + L : Nat) : Int) ∧ H ≤ 134217728 ∧ L < 67108864 := by
  have hd : a.natAbs / 67108864 * 67108864 + a.natAbs % 67108864 = a.natAbs := by omega
  by_cases hn : 0 ≤ a
  · refine ⟨a.natAbs / 67108864, a.natAbs % 67108864, 1, .inl rfl, ?_, ?_, ?_, by omega, by omega⟩
    · rw [Int.tdiv_eq_ediv_of_nonneg hn]; omega
    · rw [Int.tmod_eq_emod_of_nonneg hn]; omega
    · omega
  · have h2 : (-a).tdiv 67108864 = -(a.tdiv 67108864) := Int.neg_tdiv a 67108864
    have h3 : (-a).tmod 67108864 = -(a.tmod 67108864) := Int.neg_tmod a 67108864
    rw [Int.tdiv_eq_ediv_of_nonneg (by omega)] at h2
    rw [Int.tmod_eq_emod_of_nonneg (by omega)] at h3
    refine ⟨a.natAbs / 67108864, a.natAbs % 67108864, -1, .inr rfl, ?_, ?_, ?_, by omega, by omega⟩
    · omega
    · omega
    · omega
theorem sg (s t : Int) (x y : Nat) : (s * x) * (t * y) = (s * t) * ((x * y : Nat) : Int) := by
  push_cast
  rw [Int.mul_assoc, Int.mul_assoc, Int.mul_left_comm (x : Int) t y]
theorem int_parts (a b : Int) (a0 : -9007199254740992 ≤ a) (a1 : a ≤ 9007199254740992) (b0 : -9007199254740992 ≤ b) (b1 : b ≤ 9007199254740992) :
    ∃ (T X Y Z : Nat) (s : Int), (s = 1 ∨ s = -1) ∧ a.tdiv 67108864 * b.tdiv 67108864 = s * T ∧ a.tdiv 67108864 * b.tmod 67108864 = s * X ∧ a.tmod 67108864 * b.tdiv 67108864 = s * Y ∧ a.tmod 67108864 * b.tmod 67108864 = s * Z ∧
      T ≤ 18014398509481984 ∧ X ≤ 9007199120523264 ∧ Y ≤ 9007199120523264 ∧ Z ≤ 4503599493152769 ∧ a * b = s * ((T * 4503599627370496 + (X + Y) * 67108864 + Z : Nat) : Int) := by
  obtain ⟨H, L, s, hs, e1, e2, e3, h1, h2⟩ := part_of a a0 a1
  obtain ⟨U, D, t, ht, f1, f2, f3, g1, g2⟩ := part_of b b0 b1
  obtain ⟨q1, q2, q3, q4, q5⟩ := nat_parts H L U D h1 h2 g1 g2
  refine ⟨H * U, H * D, L * U, L * D, s * t, ?_, ?_, ?_, ?_, ?_, q1, q2, q3, q4, ?_⟩
  · rcases hs with rfl | rfl <;> rcases ht with rfl | rfl <;> simp
  · rw [e1, f1]; exact sg s t H U
  · rw [e1, f2]; exact sg s t H D
  · rw [e2, f1]; exact sg s t L U
  · rw [e2, f2]; exact sg s t L D
  · rw [← q5]
    have := sg s t (H * 67108864 + L) (U * 67108864 + D)
    rw [← e3, ← f3] at this
    exact this
theorem of_far {n : Int} (h : n < -9007199254740992 ∨ 9007199254740992 < n) : ofK n = 4 ∧ ofN n = 0 := by
  have h' : inB n = false := by unfold inB; simp; omega
  simp [ofK, ofN, h']

set_option linter.unusedVariables false in
set_option maxRecDepth 100000 in
set_option maxHeartbeats 1000000 in
theorem times_a (a b h l u d p1 p2 p3 p4 : Int) (w : World) (hh : a.tdiv 67108864 = h) (hl : a.tmod 67108864 = l) (hu : b.tdiv 67108864 = u) (hd : b.tmod 67108864 = d) (e1 : h * u = p1) (e2 : h * d = p2) (e3 : l * u = p3) (e4 : l * d = p4)
    (i1 : -134217728 ≤ h) (i2 : h ≤ 134217728) (i3 : -67108864 ≤ l) (i4 : l ≤ 67108864) (i5 : -134217728 ≤ u) (i6 : u ≤ 134217728) (i7 : -67108864 ≤ d) (i8 : d ≤ 67108864)
    (j1 : -18014398509481984 ≤ p1) (j2 : p1 ≤ 18014398509481984) (j3 : -9007199254740992 ≤ p2) (j4 : p2 ≤ 9007199254740992) (j5 : -9007199254740992 ≤ p3) (j6 : p3 ≤ 9007199254740992) (j7 : -9007199254740992 ≤ p4) (j8 : p4 ≤ 9007199254740992) (c : 4 < p1) :
    Calls Tryd.prog 35 #[.int .i64 a, .int .i64 b] w fun e w' => e = .returned (.agg #[.int .i64 4, .int .i64 0, .string ⟨#[]⟩]) ∧ Below w.heap.size w w' := by
  go_enter Tryd.func35, Tryd.ntmps35
  go_wp2
  go_returns
  exact ⟨rfl, by go_grown⟩

set_option linter.unusedVariables false in
set_option maxRecDepth 100000 in
set_option maxHeartbeats 1000000 in
theorem times_b (a b h l u d p1 p2 p3 p4 : Int) (w : World) (hh : a.tdiv 67108864 = h) (hl : a.tmod 67108864 = l) (hu : b.tdiv 67108864 = u) (hd : b.tmod 67108864 = d) (e1 : h * u = p1) (e2 : h * d = p2) (e3 : l * u = p3) (e4 : l * d = p4)
    (i1 : -134217728 ≤ h) (i2 : h ≤ 134217728) (i3 : -67108864 ≤ l) (i4 : l ≤ 67108864) (i5 : -134217728 ≤ u) (i6 : u ≤ 134217728) (i7 : -67108864 ≤ d) (i8 : d ≤ 67108864)
    (j1 : -18014398509481984 ≤ p1) (j2 : p1 ≤ 18014398509481984) (j3 : -9007199254740992 ≤ p2) (j4 : p2 ≤ 9007199254740992) (j5 : -9007199254740992 ≤ p3) (j6 : p3 ≤ 9007199254740992) (j7 : -9007199254740992 ≤ p4) (j8 : p4 ≤ 9007199254740992) (c : p1 < -4) :
    Calls Tryd.prog 35 #[.int .i64 a, .int .i64 b] w fun e w' => e = .returned (.agg #[.int .i64 4, .int .i64 0, .string ⟨#[]⟩]) ∧ Below w.heap.size w w' := by
  go_enter Tryd.func35, Tryd.ntmps35
  go_wp2
  go_returns
  exact ⟨rfl, by go_grown⟩

set_option linter.unusedVariables false in
set_option maxRecDepth 100000 in
set_option maxHeartbeats 1000000 in
theorem times_c (a b h l u d p1 p2 p3 p4 : Int) (w : World) (hh : a.tdiv 67108864 = h) (hl : a.tmod 67108864 = l) (hu : b.tdiv 67108864 = u) (hd : b.tmod 67108864 = d) (e1 : h * u = p1) (e2 : h * d = p2) (e3 : l * u = p3) (e4 : l * d = p4)
    (i1 : -134217728 ≤ h) (i2 : h ≤ 134217728) (i3 : -67108864 ≤ l) (i4 : l ≤ 67108864) (i5 : -134217728 ≤ u) (i6 : u ≤ 134217728) (i7 : -67108864 ≤ d) (i8 : d ≤ 67108864)
    (j1 : -18014398509481984 ≤ p1) (j2 : p1 ≤ 18014398509481984) (j3 : -9007199254740992 ≤ p2) (j4 : p2 ≤ 9007199254740992) (j5 : -9007199254740992 ≤ p3) (j6 : p3 ≤ 9007199254740992) (j7 : -9007199254740992 ≤ p4) (j8 : p4 ≤ 9007199254740992) (c1 : p1 ≤ 4) (c2 : -4 ≤ p1) (c : 9007199254740992 < p2 + p3) :
    Calls Tryd.prog 35 #[.int .i64 a, .int .i64 b] w fun e w' => e = .returned (.agg #[.int .i64 4, .int .i64 0, .string ⟨#[]⟩]) ∧ Below w.heap.size w w' := by
  go_enter Tryd.func35, Tryd.ntmps35
  go_wp2
  go_returns
  exact ⟨rfl, by go_grown⟩

set_option linter.unusedVariables false in
set_option maxRecDepth 100000 in
set_option maxHeartbeats 1000000 in
theorem times_d (a b h l u d p1 p2 p3 p4 : Int) (w : World) (hh : a.tdiv 67108864 = h) (hl : a.tmod 67108864 = l) (hu : b.tdiv 67108864 = u) (hd : b.tmod 67108864 = d) (e1 : h * u = p1) (e2 : h * d = p2) (e3 : l * u = p3) (e4 : l * d = p4)
    (i1 : -134217728 ≤ h) (i2 : h ≤ 134217728) (i3 : -67108864 ≤ l) (i4 : l ≤ 67108864) (i5 : -134217728 ≤ u) (i6 : u ≤ 134217728) (i7 : -67108864 ≤ d) (i8 : d ≤ 67108864)
    (j1 : -18014398509481984 ≤ p1) (j2 : p1 ≤ 18014398509481984) (j3 : -9007199254740992 ≤ p2) (j4 : p2 ≤ 9007199254740992) (j5 : -9007199254740992 ≤ p3) (j6 : p3 ≤ 9007199254740992) (j7 : -9007199254740992 ≤ p4) (j8 : p4 ≤ 9007199254740992) (c1 : p1 ≤ 4) (c2 : -4 ≤ p1) (c : p2 + p3 < -9007199254740992) :
    Calls Tryd.prog 35 #[.int .i64 a, .int .i64 b] w fun e w' => e = .returned (.agg #[.int .i64 4, .int .i64 0, .string ⟨#[]⟩]) ∧ Below w.heap.size w w' := by
  go_enter Tryd.func35, Tryd.ntmps35
  go_wp2
  go_returns
  exact ⟨rfl, by go_grown⟩

set_option linter.unusedVariables false in
set_option maxRecDepth 100000 in
set_option maxHeartbeats 1000000 in
theorem times_e (a b h l u d p1 p2 p3 p4 : Int) (w : World) (hh : a.tdiv 67108864 = h) (hl : a.tmod 67108864 = l) (hu : b.tdiv 67108864 = u) (hd : b.tmod 67108864 = d) (e1 : h * u = p1) (e2 : h * d = p2) (e3 : l * u = p3) (e4 : l * d = p4)
    (i1 : -134217728 ≤ h) (i2 : h ≤ 134217728) (i3 : -67108864 ≤ l) (i4 : l ≤ 67108864) (i5 : -134217728 ≤ u) (i6 : u ≤ 134217728) (i7 : -67108864 ≤ d) (i8 : d ≤ 67108864)
    (j1 : -18014398509481984 ≤ p1) (j2 : p1 ≤ 18014398509481984) (j3 : -9007199254740992 ≤ p2) (j4 : p2 ≤ 9007199254740992) (j5 : -9007199254740992 ≤ p3) (j6 : p3 ≤ 9007199254740992) (j7 : -9007199254740992 ≤ p4) (j8 : p4 ≤ 9007199254740992) (c1 : p1 ≤ 4) (c2 : -4 ≤ p1) (c3 : p2 + p3 ≤ 9007199254740992) (c4 : -9007199254740992 ≤ p2 + p3) (c : 268435460 < p1 * 67108864 + (p2 + p3)) :
    Calls Tryd.prog 35 #[.int .i64 a, .int .i64 b] w fun e w' => e = .returned (.agg #[.int .i64 4, .int .i64 0, .string ⟨#[]⟩]) ∧ Below w.heap.size w w' := by
  go_enter Tryd.func35, Tryd.ntmps35
  go_wp2
  go_returns
  exact ⟨rfl, by go_grown⟩

set_option linter.unusedVariables false in
set_option maxRecDepth 100000 in
set_option maxHeartbeats 1000000 in
theorem times_f (a b h l u d p1 p2 p3 p4 : Int) (w : World) (hh : a.tdiv 67108864 = h) (hl : a.tmod 67108864 = l) (hu : b.tdiv 67108864 = u) (hd : b.tmod 67108864 = d) (e1 : h * u = p1) (e2 : h * d = p2) (e3 : l * u = p3) (e4 : l * d = p4)
    (i1 : -134217728 ≤ h) (i2 : h ≤ 134217728) (i3 : -67108864 ≤ l) (i4 : l ≤ 67108864) (i5 : -134217728 ≤ u) (i6 : u ≤ 134217728) (i7 : -67108864 ≤ d) (i8 : d ≤ 67108864)
    (j1 : -18014398509481984 ≤ p1) (j2 : p1 ≤ 18014398509481984) (j3 : -9007199254740992 ≤ p2) (j4 : p2 ≤ 9007199254740992) (j5 : -9007199254740992 ≤ p3) (j6 : p3 ≤ 9007199254740992) (j7 : -9007199254740992 ≤ p4) (j8 : p4 ≤ 9007199254740992) (c1 : p1 ≤ 4) (c2 : -4 ≤ p1) (c3 : p2 + p3 ≤ 9007199254740992) (c4 : -9007199254740992 ≤ p2 + p3) (c : p1 * 67108864 + (p2 + p3) < -268435460) :
    Calls Tryd.prog 35 #[.int .i64 a, .int .i64 b] w fun e w' => e = .returned (.agg #[.int .i64 4, .int .i64 0, .string ⟨#[]⟩]) ∧ Below w.heap.size w w' := by
  go_enter Tryd.func35, Tryd.ntmps35
  go_wp2
  go_returns
  exact ⟨rfl, by go_grown⟩

set_option linter.unusedVariables false in
set_option maxRecDepth 100000 in
set_option maxHeartbeats 1000000 in
theorem times_g (a b h l u d p1 p2 p3 p4 : Int) (w : World) (hh : a.tdiv 67108864 = h) (hl : a.tmod 67108864 = l) (hu : b.tdiv 67108864 = u) (hd : b.tmod 67108864 = d) (e1 : h * u = p1) (e2 : h * d = p2) (e3 : l * u = p3) (e4 : l * d = p4)
    (i1 : -134217728 ≤ h) (i2 : h ≤ 134217728) (i3 : -67108864 ≤ l) (i4 : l ≤ 67108864) (i5 : -134217728 ≤ u) (i6 : u ≤ 134217728) (i7 : -67108864 ≤ d) (i8 : d ≤ 67108864)
    (j1 : -18014398509481984 ≤ p1) (j2 : p1 ≤ 18014398509481984) (j3 : -9007199254740992 ≤ p2) (j4 : p2 ≤ 9007199254740992) (j5 : -9007199254740992 ≤ p3) (j6 : p3 ≤ 9007199254740992) (j7 : -9007199254740992 ≤ p4) (j8 : p4 ≤ 9007199254740992) (c1 : p1 ≤ 4) (c2 : -4 ≤ p1) (c3 : p2 + p3 ≤ 9007199254740992) (c4 : -9007199254740992 ≤ p2 + p3) (c5 : p1 * 67108864 + (p2 + p3) ≤ 268435460) (c6 : -268435460 ≤ p1 * 67108864 + (p2 + p3)) (ok on : Int) (HO : Hid (∀ W, Calls Tryd.prog 11 #[.int .i64 ((p1 * 67108864 + (p2 + p3)) * 67108864 + p4)] W fun e w' => e = .returned (.agg #[.int .i64 ok, .int .i64 on, .string ⟨#[]⟩]) ∧ Below W.heap.size W w')) :
    Calls Tryd.prog 35 #[.int .i64 a, .int .i64 b] w fun e w' => e = .returned (.agg #[.int .i64 ok, .int .i64 on, .string ⟨#[]⟩]) ∧ Below w.heap.size w w' := by
  go_enter Tryd.func35, Tryd.ntmps35
  go_wp2_with fail
  refine (HO.out _).mono ?_
  rintro e w1 ⟨rfl, hb⟩
  obtain ⟨q0, q1, q2, f0, f1, f2, hz⟩ := three hb (by simp) (heap_alloc_new w _)
  have hB : Below w.heap.size w w1 := thr (bel1 w _) hb (by simp)
  go_wp2
  refine bodyPost_ret (v := .agg #[.int .i64 ok, .int .i64 on, .string ⟨#[]⟩]) (by simp [results, Tryd.results35, go_sem, q0, q1, q2]) rfl ?_
  exact ⟨rfl, st3 hB (Nat.le_refl _)⟩

set_option maxHeartbeats 1000000 in
theorem times_any (a b : Int) (w : World) (a0 : -9007199254740992 ≤ a) (a1 : a ≤ 9007199254740992) (b0 : -9007199254740992 ≤ b) (b1 : b ≤ 9007199254740992) :
    Calls Tryd.prog 35 #[.int .i64 a, .int .i64 b] w fun e w' => e = .returned (.agg #[.int .i64 (ofK (a * b)), .int .i64 (ofN (a * b)), .string ⟨#[]⟩]) ∧ Below w.heap.size w w' := by
  obtain ⟨T, X, Y, Z, s, hs, e1, e2, e3, e4, t1, t2, t3, t4, hab⟩ := int_parts a b a0 a1 b0 b1
  obtain ⟨H, L, s1, hs1, r1, r2, _, r4, r5⟩ := part_of a a0 a1
  obtain ⟨U, D, s2, hs2, y1, y2, _, y4, y5⟩ := part_of b b0 b1
  obtain ⟨h, hh⟩ : ∃ h, h = a.tdiv 67108864 := ⟨_, rfl⟩
  obtain ⟨l, hl⟩ : ∃ l, l = a.tmod 67108864 := ⟨_, rfl⟩
  obtain ⟨u, hu⟩ : ∃ u, u = b.tdiv 67108864 := ⟨_, rfl⟩
  obtain ⟨d, hd⟩ : ∃ d, d = b.tmod 67108864 := ⟨_, rfl⟩
  obtain ⟨n, hn⟩ : ∃ n, n = a * b := ⟨_, rfl⟩
  rw [← hh] at e1 e2 r1
  rw [← hl] at e3 e4 r2
  rw [← hu] at e1 e3 y1
  rw [← hd] at e2 e4 y2
  rw [← hn] at hab ⊢
  obtain ⟨p1, hp1⟩ : ∃ p1, p1 = h * u := ⟨_, rfl⟩
  obtain ⟨p2, hp2⟩ : ∃ p2, p2 = h * d := ⟨_, rfl⟩
  obtain ⟨p3, hp3⟩ : ∃ p3, p3 = l * u := ⟨_, rfl⟩
  obtain ⟨p4, hp4⟩ : ∃ p4, p4 = l * d := ⟨_, rfl⟩
  rw [← hp1] at e1
  rw [← hp2] at e2
  rw [← hp3] at e3
  rw [← hp4] at e4
  have B : -134217728 ≤ h ∧ h ≤ 134217728 ∧ -67108864 ≤ l ∧ l ≤ 67108864 := by rcases hs1 with rfl | rfl <;> omega
  have B' : -134217728 ≤ u ∧ u ≤ 134217728 ∧ -67108864 ≤ d ∧ d ≤ 67108864 := by rcases hs2 with rfl | rfl <;> omega
  obtain ⟨i1, i2, i3, i4⟩ := B
  obtain ⟨i5, i6, i7, i8⟩ := B'
  have F : n = (p1 * 67108864 + (p2 + p3)) * 67108864 + p4 := by rcases hs with rfl | rfl <;> omega
  have J : -18014398509481984 ≤ p1 ∧ p1 ≤ 18014398509481984 ∧ -9007199254740992 ≤ p2 ∧ p2 ≤ 9007199254740992 ∧ -9007199254740992 ≤ p3 ∧ p3 ≤ 9007199254740992 ∧ -9007199254740992 ≤ p4 ∧ p4 ≤ 9007199254740992 := by rcases hs with rfl | rfl <;> omega
  obtain ⟨j1, j2, j3, j4, j5, j6, j7, j8⟩ := J
  have S : (0 ≤ p1 ∧ 0 ≤ p2 ∧ 0 ≤ p3 ∧ 0 ≤ p4) ∨ (p1 ≤ 0 ∧ p2 ≤ 0 ∧ p3 ≤ 0 ∧ p4 ≤ 0) := by rcases hs with rfl | rfl <;> omega
  clear hab e1 e2 e3 e4 r1 r2 y1 y2 hs hs1 hs2 t1 t2 t3 t4 r4 r5 y4 y5
  by_cases c1 : 4 < p1
  · have := of_far (n := n) (by omega)
    rw [this.1, this.2]
    exact times_a a b h l u d p1 p2 p3 p4 w hh.symm hl.symm hu.symm hd.symm hp1.symm hp2.symm hp3.symm hp4.symm i1 i2 i3 i4 i5 i6 i7 i8 j1 j2 j3 j4 j5 j6 j7 j8 c1
  · by_cases c2 : p1 < -4
    · have := of_far (n := n) (by omega)
      rw [this.1, this.2]
      exact times_b a b h l u d p1 p2 p3 p4 w hh.symm hl.symm hu.symm hd.symm hp1.symm hp2.symm hp3.symm hp4.symm i1 i2 i3 i4 i5 i6 i7 i8 j1 j2 j3 j4 j5 j6 j7 j8 c2
    · by_cases c3 : 9007199254740992 < p2 + p3
      · have := of_far (n := n) (by omega)
        rw [this.1, this.2]
        exact times_c a b h l u d p1 p2 p3 p4 w hh.symm hl.symm hu.symm hd.symm hp1.symm hp2.symm hp3.symm hp4.symm i1 i2 i3 i4 i5 i6 i7 i8 j1 j2 j3 j4 j5 j6 j7 j8 (by omega) (by omega) c3
      · by_cases c4 : p2 + p3 < -9007199254740992
        · have := of_far (n := n) (by omega)
          rw [this.1, this.2]
          exact times_d a b h l u d p1 p2 p3 p4 w hh.symm hl.symm hu.symm hd.symm hp1.symm hp2.symm hp3.symm hp4.symm i1 i2 i3 i4 i5 i6 i7 i8 j1 j2 j3 j4 j5 j6 j7 j8 (by omega) (by omega) c4
        · by_cases c5 : 268435460 < p1 * 67108864 + (p2 + p3)
          · have := of_far (n := n) (by omega)
            rw [this.1, this.2]
            exact times_e a b h l u d p1 p2 p3 p4 w hh.symm hl.symm hu.symm hd.symm hp1.symm hp2.symm hp3.symm hp4.symm i1 i2 i3 i4 i5 i6 i7 i8 j1 j2 j3 j4 j5 j6 j7 j8 (by omega) (by omega) (by omega) (by omega) c5
          · by_cases c6 : p1 * 67108864 + (p2 + p3) < -268435460
            · have := of_far (n := n) (by omega)
              rw [this.1, this.2]
              exact times_f a b h l u d p1 p2 p3 p4 w hh.symm hl.symm hu.symm hd.symm hp1.symm hp2.symm hp3.symm hp4.symm i1 i2 i3 i4 i5 i6 i7 i8 j1 j2 j3 j4 j5 j6 j7 j8 (by omega) (by omega) (by omega) (by omega) c6
            · exact times_g a b h l u d p1 p2 p3 p4 w hh.symm hl.symm hu.symm hd.symm hp1.symm hp2.symm hp3.symm hp4.symm i1 i2 i3 i4 i5 i6 i7 i8 j1 j2 j3 j4 j5 j6 j7 j8 (by omega) (by omega) (by omega) (by omega) (by omega) (by omega) (ofK n) (ofN n) (Lib.hid (fun W => by rw [← F]; exact refof_any n W))
end Go.Proofs.YtokpmpmlbmpnmaaDoor
