/-
  array of the reference at this translation.
-/
import Derived.Test.YtjnlifghobgkcaaR4
namespace Go.Proofs.Ytjnlifghobgkcaa
open Go.RowKit

/-- an answer of the reference, whatever it is: some node and some code; and it stands where the blocks that came in and the new ones stand -/
theorem q_any {w W2 w5 : World} {B : Nat} {R : Res} {e : Ending} (hz : w.heap.size ≤ W2.heap.size) (h : QPost W2 (Sha B W2) R e w5) : ∃ (y p0 p1 p2 p3 : Int) (p4 : ByteArray) (po : Option Addr) (pl pc : Nat), e = .returned (.tuple #[.agg #[.int .i64 p0, .int .i64 p1, .int .i64 p2, .int .i64 p3, .string p4, .slice po pl pc], .int .i64 y]) ∧ Below W2.heap.size W2 w5 ∧ ∀ w', Below w.heap.size w w' → (∀ b, b < w5.heap.size → (b < B ∨ W2.heap.size ≤ b) → w'.heap[b]? = w5.heap[b]?) → w5.heap.size ≤ w'.heap.size → QPost w (Sha B w) R e w' := by
  cases R with
  | error c =>
    obtain ⟨hc0, p0, p1, p2, p3, p4, po, pl, pc, rfl, hb⟩ := h
    exact ⟨c, p0, p1, p2, p3, p4, po, pl, pc, rfl, hb, fun w' hw _ _ => ⟨hc0, p0, p1, p2, p3, p4, po, pl, pc, rfl, hw⟩⟩
  | ok r =>
    obtain ⟨ko, kl, kc, rfl, htr, hb⟩ := h
    refine ⟨0, r.op, r.a, r.n, r.m, r.s, ko, kl, kc, rfl, hb, fun w' hw hk hs => ⟨ko, kl, kc, rfl, tin_imp (fun b hb5 hS => ⟨?_, hk b hb5 hS⟩) hs r _ htr, hw⟩⟩
    rcases hS with hS | hS
    · exact .inl hS
    · exact .inr (Nat.le_trans hz hS)
/-- the answer stored into the own box first made -/
theorem q_st6 {w W2 w5 : World} {B : Nat} {R : Res} {e : Ending} (x0 x1 x2 x3 x4 x5 : Value) (hB : B ≤ w.heap.size) (hz : w.heap.size + 1 ≤ W2.heap.size) (hb : Below w.heap.size w w5) (hQ : ∀ w', Below w.heap.size w w' → (∀ b, b < w5.heap.size → (b < B ∨ W2.heap.size ≤ b) → w'.heap[b]? = w5.heap[b]?) → w5.heap.size ≤ w'.heap.size → QPost w (Sha B w) R e w') : QPost w (Sha B w) R e ((((((w5.setCell ⟨w.heap.size, 0, none⟩ x0).setCell ⟨w.heap.size, 1, none⟩ x1).setCell ⟨w.heap.size, 2, none⟩ x2).setCell ⟨w.heap.size, 3, none⟩ x3).setCell ⟨w.heap.size, 4, none⟩ x4).setCell ⟨w.heap.size, 5, none⟩ x5) := by
  refine hQ _ (c_st6 hb (Nat.le_refl _)) (fun b _ h => ?_) (by simp only [x_sz]; exact Nat.le_refl _)
  have hn : b ≠ w.heap.size := by rcases h with h | h <;> omega
  rw [x_ne _ _ _ _ _ hn, x_ne _ _ _ _ _ hn, x_ne _ _ _ _ _ hn, x_ne _ _ _ _ _ hn, x_ne _ _ _ _ _ hn, x_ne _ _ _ _ _ hn]
set_option linter.unusedVariables false in
set_option maxRecDepth 100000 in
set_option maxHeartbeats 1000000 in
theorem array_hole (bb oo len lc i : Nat) (y : Tr) (yo : Option Addr) (yc d B : Nat) (w : World) (hB : B ≤ w.heap.size) (hbb : bb < w.heap.size) (hcc : NCells w bb (oo + i * 6) y (.slice yo y.ks.length yc)) (ht : TIn w (fun b => b < B) y (.slice yo y.ks.length yc)) (hlen : len ≤ 100000) (hi : i < len) (hd : d ≤ 900) (h41 : (y.op == 41) = false) (h40 : (y.op == 40) = true) : Calls Try.prog 28 #[.slice (some ⟨bb, oo, none⟩) len lc, .int .i64 i, .int .i64 d] w (QPost w (Sha B w) (.ok y)) := by
  have hi2 : (i : Int) < (len : Int) := by omega
  obtain ⟨c0, c1, c2, c3, c4, c5⟩ := hcc
  obtain ⟨W2, hW2⟩ : ∃ W2, W2 = (w.alloc (.cells #[.int .i64 0, .int .i64 0, .int .i64 0, .int .i64 0, .string ⟨#[]⟩, .slice none 0 0] 27)).alloc (.cells #[.int .i64 y.op, .int .i64 y.a, .int .i64 y.n, .int .i64 y.m, .string y.s, .slice yo y.ks.length yc] 27) := ⟨_, rfl⟩
  have hB2 : Below w.heap.size w W2 := by rw [hW2]; exact c_box2 w _ _
  have hzW : w.heap.size + 2 ≤ W2.heap.size := by rw [hW2]; simp
  have hres : W2.heap[w.heap.size]? = some (.cells #[.int .i64 0, .int .i64 0, .int .i64 0, .int .i64 0, .string ⟨#[]⟩, .slice none 0 0] 27 (0, 0)) := by rw [hW2]; exact c_new1 w _ _
  have hbox : W2.heap[w.heap.size + 1]? = some (.cells #[.int .i64 y.op, .int .i64 y.a, .int .i64 y.n, .int .i64 y.m, .string y.s, .slice yo y.ks.length yc] 27 (0, 0)) := by rw [hW2]; exact c_new2 w _ _
  obtain ⟨⟨b0, b1, b2, b3, b4, b5⟩, -, hxl⟩ := c_six hbox
  obtain ⟨⟨r0, r1, r2, r3, r4, r5⟩, ⟨q0, q1, q2, q3, q4, q5⟩, hrl⟩ := c_six hres
  have HW := Lib.hid hW2
  have HB := Lib.hid hB2
  have HZ := Lib.hid hzW
  have HBR := Lib.hid (And.intro hres hbox)
  have HT := Lib.hid (tin_kept ht hB2)
  clear hW2 hB2 hzW hbox hres ht
  go_enter Try.func28, Try.ntmps28
  go_upto_region 2 with fail
  rw [← HW.out]
  go_wp2
  refine bodyPost_ret (v := .tuple #[.agg #[.int .i64 y.op, .int .i64 y.a, .int .i64 y.n, .int .i64 y.m, .string y.s, .slice yo y.ks.length yc], .int .i64 0]) (by simp [results, Try.results28, go_sem, r0, r1, r2, r3, r4, r5]) rfl ?_
  exact ⟨yo, _, yc, rfl, tin_mono (tin_grown HT.out (st6_grown W2 w.heap.size 0 _ _ _ _ _ _) (fun b _ hs e => by simp at e; omega)) (fun b _ hs => .inl hs), c_st6 HB.out (by omega)⟩
set_option linter.unusedVariables false in
set_option maxRecDepth 100000 in
set_option maxHeartbeats 1000000 in
theorem array_elem (bb oo len lc i : Nat) (y : Tr) (yo : Option Addr) (yc d B : Nat) (w : World) (hB : B ≤ w.heap.size) (hbb : bb < w.heap.size) (hcc : NCells w bb (oo + i * 6) y (.slice yo y.ks.length yc)) (ht : TIn w (fun b => b < B) y (.slice yo y.ks.length yc)) (hlen : len ≤ 100000) (hi : i < len) (hd : d ≤ 900) (h41 : (y.op == 41) = false) (h40 : (y.op == 40) = false) (R : Res) (HE : Hid (∀ W : World, Below w.heap.size w W → Calls Try.prog 24 #[.agg #[.int .i64 y.op, .int .i64 y.a, .int .i64 y.n, .int .i64 y.m, .string y.s, .slice yo y.ks.length yc], .int .i64 d, .bool true] W (QPost W (Sha B W) R))) : Calls Try.prog 28 #[.slice (some ⟨bb, oo, none⟩) len lc, .int .i64 i, .int .i64 d] w (QPost w (Sha B w) R) := by
  have hi2 : (i : Int) < (len : Int) := by omega
  obtain ⟨c0, c1, c2, c3, c4, c5⟩ := hcc
  obtain ⟨W2, hW2⟩ : ∃ W2, W2 = (w.alloc (.cells #[.int .i64 0, .int .i64 0, .int .i64 0, .int .i64 0, .string ⟨#[]⟩, .slice none 0 0] 27)).alloc (.cells #[.int .i64 y.op, .int .i64 y.a, .int .i64 y.n, .int .i64 y.m, .string y.s, .slice yo y.ks.length yc] 27) := ⟨_, rfl⟩
  have hB2 : Below w.heap.size w W2 := by rw [hW2]; exact c_box2 w _ _
  have hzW : w.heap.size + 2 ≤ W2.heap.size := by rw [hW2]; simp
  have hres : W2.heap[w.heap.size]? = some (.cells #[.int .i64 0, .int .i64 0, .int .i64 0, .int .i64 0, .string ⟨#[]⟩, .slice none 0 0] 27 (0, 0)) := by rw [hW2]; exact c_new1 w _ _
  have hbox : W2.heap[w.heap.size + 1]? = some (.cells #[.int .i64 y.op, .int .i64 y.a, .int .i64 y.n, .int .i64 y.m, .string y.s, .slice yo y.ks.length yc] 27 (0, 0)) := by rw [hW2]; exact c_new2 w _ _
  obtain ⟨⟨b0, b1, b2, b3, b4, b5⟩, -, hxl⟩ := c_six hbox
  obtain ⟨⟨r0, r1, r2, r3, r4, r5⟩, ⟨q0, q1, q2, q3, q4, q5⟩, hrl⟩ := c_six hres
  have HW := Lib.hid hW2
  have HB := Lib.hid hB2
  have HZ := Lib.hid hzW
  have HBR := Lib.hid (And.intro hres hbox)
  have HT := Lib.hid (tin_kept ht hB2)
  clear hW2 hB2 hzW hbox hres ht
  go_enter Try.func28, Try.ntmps28
  go_upto_region 2 with fail
  rw [← HW.out]
  go_wp2_with fail
  refine (HE.out _ HB.out).mono ?_
  rintro e w5 hq
  obtain ⟨c, p0, p1, p2, p3, p4, po, pl, pc, rfl, hB5, hQ⟩ := q_any (w := w) (by have := HZ.out; omega) hq
  obtain ⟨⟨r0, r1, r2, r3, r4, r5⟩, ⟨q0, q1, q2, q3, q4, q5⟩, hrl⟩ := c_six (c_kept hB5 (c_lt HBR.out.1) HBR.out.1)
  have HQ := Lib.hid (q_st6 (.int .i64 p0) (.int .i64 p1) (.int .i64 p2) (.int .i64 p3) (.string p4) (.slice po pl pc) hB (by have := HZ.out; omega) (c_thr HB.out hB5 HB.out.size) hQ)
  clear hB5 hQ hq
  go_wp2
  refine bodyPost_ret (v := .tuple #[.agg #[.int .i64 p0, .int .i64 p1, .int .i64 p2, .int .i64 p3, .string p4, .slice po pl pc], .int .i64 c]) (by simp [results, Try.results28, go_sem, r0, r1, r2, r3, r4, r5]) rfl ?_
  exact HQ.out
end Go.Proofs.Ytjnlifghobgkcaa
