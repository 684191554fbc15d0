/-
  The law AsiMays at this translation: true, for every word and token.
-/
import Derived.Test.YtjbnobcnlmkbmaaA5
import Derived.Deep.RegionHeld3
namespace Go.Proofs.Ytjbnobcnlmkbmaa
open Go.RowKit

theorem two_on {kd a to n : Int} {s : ByteArray} {l o : Bool} {w0 W w1 : World} {b1 b2 : Nat} (h1 : b1 < w0.heap.size) (h2 : b2 < w0.heap.size) (h : (W.cell? ⟨b1, 0, none⟩ = some (.int .i64 kd) ∧ W.cell? ⟨b1, 1, none⟩ = some (.int .i64 a) ∧ W.cell? ⟨b1, 2, none⟩ = some (.int .i64 to) ∧ W.cell? ⟨b1, 3, none⟩ = some (.int .i64 n) ∧ W.cell? ⟨b1, 4, none⟩ = some (.string s) ∧ W.cell? ⟨b1, 5, none⟩ = some (.bool l) ∧ W.cell? ⟨b1, 6, none⟩ = some (.bool o)) ∧ (W.cell? ⟨b2, 0, none⟩ = some (.int .i64 kd) ∧ W.cell? ⟨b2, 1, none⟩ = some (.int .i64 a) ∧ W.cell? ⟨b2, 2, none⟩ = some (.int .i64 to) ∧ W.cell? ⟨b2, 3, none⟩ = some (.int .i64 n) ∧ W.cell? ⟨b2, 4, none⟩ = some (.string s) ∧ W.cell? ⟨b2, 5, none⟩ = some (.bool l) ∧ W.cell? ⟨b2, 6, none⟩ = some (.bool o)) ∧ Below w0.heap.size w0 W) (hB : Below W.heap.size W w1) : (w1.cell? ⟨b1, 0, none⟩ = some (.int .i64 kd) ∧ w1.cell? ⟨b1, 1, none⟩ = some (.int .i64 a) ∧ w1.cell? ⟨b1, 2, none⟩ = some (.int .i64 to) ∧ w1.cell? ⟨b1, 3, none⟩ = some (.int .i64 n) ∧ w1.cell? ⟨b1, 4, none⟩ = some (.string s) ∧ w1.cell? ⟨b1, 5, none⟩ = some (.bool l) ∧ w1.cell? ⟨b1, 6, none⟩ = some (.bool o)) ∧ (w1.cell? ⟨b2, 0, none⟩ = some (.int .i64 kd) ∧ w1.cell? ⟨b2, 1, none⟩ = some (.int .i64 a) ∧ w1.cell? ⟨b2, 2, none⟩ = some (.int .i64 to) ∧ w1.cell? ⟨b2, 3, none⟩ = some (.int .i64 n) ∧ w1.cell? ⟨b2, 4, none⟩ = some (.string s) ∧ w1.cell? ⟨b2, 5, none⟩ = some (.bool l) ∧ w1.cell? ⟨b2, 6, none⟩ = some (.bool o)) ∧ Below w0.heap.size w0 w1 := by
  obtain ⟨⟨c0, c1, c2, c3, c4, c5, c6⟩, ⟨d0, d1, d2, d3, d4, d5, d6⟩, hb⟩ := h
  have k1 : ∀ i, w1.cell? ⟨b1, i, none⟩ = W.cell? ⟨b1, i, none⟩ := fun i => hB.cell (p := ⟨b1, i, none⟩) (Nat.lt_of_lt_of_le h1 hb.size)
  have k2 : ∀ i, w1.cell? ⟨b2, i, none⟩ = W.cell? ⟨b2, i, none⟩ := fun i => hB.cell (p := ⟨b2, i, none⟩) (Nat.lt_of_lt_of_le h2 hb.size)
  exact ⟨⟨(k1 0).trans c0, (k1 1).trans c1, (k1 2).trans c2, (k1 3).trans c3, (k1 4).trans c4, (k1 5).trans c5, (k1 6).trans c6⟩, ⟨(k2 0).trans d0, (k2 1).trans d1, (k2 2).trans d2, (k2 3).trans d3, (k2 4).trans d4, (k2 5).trans d5, (k2 6).trans d6⟩, a_thr hb hB hb.size⟩

set_option maxRecDepth 100000 in
set_option maxHeartbeats 4000000 in
theorem mays_any (u : ByteArray) (kd a to n : Int) (s : ByteArray) (l o : Bool) (w : World) :
    Calls Try.prog 3 #[.string u, .agg #[.int .i64 kd, .int .i64 a, .int .i64 to, .int .i64 n, .string s, .bool l, .bool o]] w fun e w' => e = .returned (.bool true) ∧ Below w.heap.size w w' := by
  have M1 := Lib.hid (fun (W : World) => may_any kd a to n s l o W)
  have M2 := Lib.hid (fun (W : World) => rmay_any kd a to n s l o W)
  have B1 := Lib.hid (fun (W : World) => bars_any u kd a to n s l o W)
  have B2 := Lib.hid (fun (W : World) => rbars_any u kd a to n s l o W)
  generalize mayB kd s l = r at M1 M2
  generalize barsB u kd s l = q at B1 B2
  have rr : (r == r) = true := by simp
  have qq : (q == q) = true := by simp
  go_enter Try.func3, Try.ntmps3
  go_upto_region 2 with fail
  obtain ⟨W, hW⟩ : ∃ W, W = ((w.alloc (.cells #[.int .i64 kd, .int .i64 a, .int .i64 to, .int .i64 n, .string s, .bool l, .bool o] 23)).alloc (.cells #[.int .i64 kd, .int .i64 a, .int .i64 to, .int .i64 n, .string s, .bool l, .bool o] 24)) := ⟨_, rfl⟩
  obtain ⟨b1, hb1⟩ : ∃ b1, b1 = w.heap.size := ⟨_, rfl⟩
  obtain ⟨b2, hb2⟩ : ∃ b2, b2 = b1 + 1 := ⟨_, rfl⟩
  have hc1 := tok_cells7 ((heap_alloc_old (w.alloc (.cells #[.int .i64 kd, .int .i64 a, .int .i64 to, .int .i64 n, .string s, .bool l, .bool o] 23)) (.cells #[.int .i64 kd, .int .i64 a, .int .i64 to, .int .i64 n, .string s, .bool l, .bool o] 24) (by simp)).trans (heap_alloc_new w _))
  have hc2 := tok_cells7 (heap_alloc_new (w.alloc (.cells #[.int .i64 kd, .int .i64 a, .int .i64 to, .int .i64 n, .string s, .bool l, .bool o] 23)) (.cells #[.int .i64 kd, .int .i64 a, .int .i64 to, .int .i64 n, .string s, .bool l, .bool o] 24))
  have hB : Below w.heap.size w W := by rw [hW]; go_grown
  have h1 : b1 < W.heap.size := by rw [hW, hb1]; simp; omega
  have h2 : b2 < W.heap.size := by rw [hW, hb2, hb1]; simp
  rw [show (w.alloc (.cells #[.int .i64 kd, .int .i64 a, .int .i64 to, .int .i64 n, .string s, .bool l, .bool o] 23)).heap.size = b2 by rw [hb2, hb1]; simp, ← hW] at hc2
  rw [← hW, ← hb1] at hc1
  rw [← hW, ← hb1, ← hb2]
  clear hW hb1 hb2
  have HB := Lib.hid hB
  clear hB
  have hS0 : (W.drew.cell? ⟨b1, 0, none⟩ = some (.int .i64 kd) ∧ W.drew.cell? ⟨b1, 1, none⟩ = some (.int .i64 a) ∧ W.drew.cell? ⟨b1, 2, none⟩ = some (.int .i64 to) ∧ W.drew.cell? ⟨b1, 3, none⟩ = some (.int .i64 n) ∧ W.drew.cell? ⟨b1, 4, none⟩ = some (.string s) ∧ W.drew.cell? ⟨b1, 5, none⟩ = some (.bool l) ∧ W.drew.cell? ⟨b1, 6, none⟩ = some (.bool o)) ∧ (W.drew.cell? ⟨b2, 0, none⟩ = some (.int .i64 kd) ∧ W.drew.cell? ⟨b2, 1, none⟩ = some (.int .i64 a) ∧ W.drew.cell? ⟨b2, 2, none⟩ = some (.int .i64 to) ∧ W.drew.cell? ⟨b2, 3, none⟩ = some (.int .i64 n) ∧ W.drew.cell? ⟨b2, 4, none⟩ = some (.string s) ∧ W.drew.cell? ⟨b2, 5, none⟩ = some (.bool l) ∧ W.drew.cell? ⟨b2, 6, none⟩ = some (.bool o)) ∧ Below W.heap.size W W.drew := ⟨hc1, hc2, (Below.refl _ _).drew⟩
  obtain ⟨p0, p1, p2, p3, p4, p5, p6⟩ := hc1
  obtain ⟨r0, r1, r2, r3, r4, r5, r6⟩ := hc2
  go_region_held3 (fun w' => (w'.cell? ⟨b1, 0, none⟩ = some (.int .i64 kd) ∧ w'.cell? ⟨b1, 1, none⟩ = some (.int .i64 a) ∧ w'.cell? ⟨b1, 2, none⟩ = some (.int .i64 to) ∧ w'.cell? ⟨b1, 3, none⟩ = some (.int .i64 n) ∧ w'.cell? ⟨b1, 4, none⟩ = some (.string s) ∧ w'.cell? ⟨b1, 5, none⟩ = some (.bool l) ∧ w'.cell? ⟨b1, 6, none⟩ = some (.bool o)) ∧ (w'.cell? ⟨b2, 0, none⟩ = some (.int .i64 kd) ∧ w'.cell? ⟨b2, 1, none⟩ = some (.int .i64 a) ∧ w'.cell? ⟨b2, 2, none⟩ = some (.int .i64 to) ∧ w'.cell? ⟨b2, 3, none⟩ = some (.int .i64 n) ∧ w'.cell? ⟨b2, 4, none⟩ = some (.string s) ∧ w'.cell? ⟨b2, 5, none⟩ = some (.bool l) ∧ w'.cell? ⟨b2, 6, none⟩ = some (.bool o)) ∧ Below W.heap.size W w') (first | assumption | go_keep) (first
    | (go_at_call 7; refine (M1.out _).mono ?_; rintro e w' ⟨rfl, hB⟩; have hS2 := two_on h1 h2 (by assumption) hB; clear hB)
    | (go_at_call 8; refine (M2.out _).mono ?_; rintro e w' ⟨rfl, hB⟩; have hS2 := two_on h1 h2 (by assumption) hB; clear hB)
    | (go_at_call 9; refine (B1.out _).mono ?_; rintro e w' ⟨rfl, hB⟩; have hS2 := two_on h1 h2 (by assumption) hB; clear hB)
    | (go_at_call 10; refine (B2.out _).mono ?_; rintro e w' ⟨rfl, hB⟩; have hS2 := two_on h1 h2 (by assumption) hB; clear hB)
    | (go_at_call 11; refine (goes_any _).mono ?_; rintro e w' ⟨rfl, hB⟩; have hS2 := two_on h1 h2 (by assumption) hB; clear hB))
  all_goals (go_wp2; go_ret; exact ⟨rfl, a_thr HB.out hS2.2.2 HB.out.size⟩)
end Go.Proofs.Ytjbnobcnlmkbmaa
