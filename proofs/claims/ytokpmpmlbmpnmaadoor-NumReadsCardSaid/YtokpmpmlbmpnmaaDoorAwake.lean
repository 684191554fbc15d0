/-
  awake of the laws of package num at this translation: it answers true, and the world has at most new blocks.
-/
import Derived.Test.YtokpmpmlbmpnmaaDoorRead
import Derived.Test.YtokpmpmlbmpnmaaDoorText
namespace Go.Proofs.YtokpmpmlbmpnmaaDoor
open Go.RowKit

theorem div_7 (W : World) : Calls Tryd.prog 20 #[.agg #[.int .i64 3, .int .i64 (-7), .string ⟨#[]⟩], .agg #[.int .i64 3, .int .i64 2, .string ⟨#[]⟩]] W fun e w' => e = .returned (.agg #[.int .i64 3, .int .i64 (-3), .string ⟨#[]⟩]) ∧ Below W.heap.size W w' :=
  (div_any 3 (-7) 3 2 ⟨#[]⟩ ⟨#[]⟩ W).mono fun e w' h => ⟨h.1.trans (by kernel_rfl), h.2⟩
theorem rem_7 (W : World) : Calls Tryd.prog 21 #[.agg #[.int .i64 3, .int .i64 (-7), .string ⟨#[]⟩], .agg #[.int .i64 3, .int .i64 2, .string ⟨#[]⟩]] W fun e w' => e = .returned (.agg #[.int .i64 3, .int .i64 (-1), .string ⟨#[]⟩]) ∧ Below W.heap.size W w' :=
  (rem_any 3 (-7) 3 2 ⟨#[]⟩ ⟨#[]⟩ W).mono fun e w' h => ⟨h.1.trans (by kernel_rfl), h.2⟩
theorem read_1f (W : World) : Calls Tryd.prog 27 #[.string ⟨#[32, 48, 120, 49, 70]⟩] W fun e w' => e = .returned (.agg #[.int .i64 3, .int .i64 31, .string ⟨#[]⟩]) ∧ Below W.heap.size W w' :=
  (read_any ⟨#[32, 48, 120, 49, 70]⟩ W (by decide)).mono fun e w' h => ⟨h.1.trans (by kernel_rfl), h.2⟩
theorem read_m1 (W : World) : Calls Tryd.prog 27 #[.string ⟨#[32, 45, 48, 120, 49]⟩] W fun e w' => e = .returned (.agg #[.int .i64 4, .int .i64 0, .string ⟨#[]⟩]) ∧ Below W.heap.size W w' :=
  (read_any ⟨#[32, 45, 48, 120, 49]⟩ W (by decide)).mono fun e w' h => ⟨h.1.trans (by kernel_rfl), h.2⟩
theorem tx_7 : txV 3 (-7) ⟨#[]⟩ = ⟨#[45, 55]⟩ := by
  have e : whK 3 (-7) ⟨#[]⟩ = true := by kernel_rfl
  unfold txV
  rw [if_pos e]
  have h : Lib.itoa (-7) = [45, 55] := by
    unfold Lib.itoa
    rw [if_pos (by omega), Lib.decDigits, dif_pos (by decide)]
    rfl
  rw [h]
theorem text_7 (W : World) (ht : Tab W) : Calls Tryd.prog 14 #[.agg #[.int .i64 3, .int .i64 (-7), .string ⟨#[]⟩]] W fun e w' => e = .returned (.string ⟨#[45, 55]⟩) ∧ Below W.heap.size W w' := by
  have h := text_any 3 (-7) ⟨#[]⟩ W ht
  rw [tx_7] at h
  exact h

@[go_sem, simp] theorem fld0 (k n : Int) (s : ByteArray) (w : World) : (Instr.field 23 (.agg #[.int .i64 k, .int .i64 n, .string s]) 0).run Tryd.prog w = .ok (.int .i64 k) w := by kernel_rfl
@[go_sem, simp] theorem fld1 (k n : Int) (s : ByteArray) (w : World) : (Instr.field 23 (.agg #[.int .i64 k, .int .i64 n, .string s]) 1).run Tryd.prog w = .ok (.int .i64 n) w := by kernel_rfl

set_option maxHeartbeats 4000000 in
theorem awake_any (w : World) (ht : Tab w) : Calls Tryd.prog 8 #[] w fun e w' => e = .returned (.bool true) ∧ Below w.heap.size w w' := by
  go_enter Tryd.func8, Tryd.ntmps8
  go_wp2_with fail
  refine (div_7 _).mono ?_
  rintro e w1 ⟨rfl, hb⟩
  have b1 : Below w.heap.size w w1 := thr (bel2 w _ _) hb (by simp; omega)
  have o1 := kept hb (by simp; omega) (old1 w _ _)
  have p1 := kept hb (by simp) (blk1 w _ _)
  have z1 := (tri p1).2.2.2.2.2.2
  obtain ⟨x0, x1, x2, _, _, _, _⟩ := tri o1
  obtain ⟨y0, y1, y2, _, _, _, _⟩ := tri p1
  clear hb
  go_wp2_with fail
  refine (rem_7 _).mono ?_
  rintro e w2 ⟨rfl, hb⟩
  have b2 : Below w.heap.size w w2 := thr b1 hb (by omega)
  have o2 := kept hb (by omega) o1
  clear hb x0 x1 x2 y0 y1 y2 o1 p1
  go_wp2_with fail
  refine (read_1f _).mono ?_
  rintro e w3 ⟨rfl, hb⟩
  have z2 := (tri o2).2.2.2.2.2.2
  have b3 : Below w.heap.size w w3 := thr b2 hb (by omega)
  have o3 := kept hb (by omega) o2
  obtain ⟨x0, x1, x2, _, _, _, z3⟩ := tri o3
  clear hb
  go_wp2_with fail
  refine (text_7 _ (tab_grown ht b3)).mono ?_
  rintro e w4 ⟨rfl, hb⟩
  have b4 : Below w.heap.size w w4 := thr b3 hb (by omega)
  clear hb
  go_wp2_with fail
  refine (read_m1 _).mono ?_
  rintro e w5 ⟨rfl, hb⟩
  have b5 : Below w.heap.size w w5 := thr b4 hb (by have := b4.size; omega)
  go_wp2
  go_ret
  exact ⟨rfl, b5⟩
end Go.Proofs.YtokpmpmlbmpnmaaDoor
