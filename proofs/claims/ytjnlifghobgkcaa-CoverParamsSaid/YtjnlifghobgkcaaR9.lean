/-
  prop of the reference at this translation: a spread, a key that is no text.
-/
import Derived.Test.YtjnlifghobgkcaaR8
import Derived.Deep.RegionHeld3
namespace Go.Proofs.Ytjnlifghobgkcaa
open Go.RowKit

set_option linter.unusedVariables false in
set_option maxRecDepth 100000 in
set_option maxHeartbeats 1000000 in
theorem prop_rest (bb oo len lc i : Nat) (y : Tr) (yo : Option Addr) (yc d B : Nat) (w : World) (hB : B ≤ w.heap.size) (hbb : bb < w.heap.size) (hcc : NCells w bb (oo + i * 6) y (.slice yo y.ks.length yc)) (ht : TIn w (fun b => b < B) y (.slice yo y.ks.length yc)) (hlen : len ≤ 100000) (hi : i < len) (hd : d ≤ 900) (hks : y.ks.length ≤ 100000) (g39 : (y.op == 39) = true) (g4 : (y.n == 4) = true)  (f : Tr) (HF : Hid (∀ W : World, Below w.heap.size w W → Calls Try.prog 44 #[.agg #[.int .i64 y.op, .int .i64 y.a, .int .i64 y.n, .int .i64 y.m, .string y.s, .slice yo y.ks.length yc]] W (NPost W (fun b => b < B) f))) (R : Res) (HR : Hid (∀ (W : World) (fo : Option Addr) (fl fc : Nat), Below w.heap.size w W → TIn W (fun b => b < B) f (.slice fo fl fc) → Calls Try.prog 43 #[.slice (some ⟨bb, oo, none⟩) len lc, .int .i64 i, .agg #[.int .i64 f.op, .int .i64 f.a, .int .i64 f.n, .int .i64 f.m, .string f.s, .slice fo fl fc], .int .i64 y.ks.length, .bool true, .int .i64 d] W (QPost W (Sha B W) R))) : Calls Try.prog 40 #[.slice (some ⟨bb, oo, none⟩) len lc, .int .i64 i, .int .i64 d] w (QPost w (Sha B w) R) := by
  have hi2 : (i : Int) < (len : Int) := by omega
  obtain ⟨c0, c1, c2, c3, c4, c5⟩ := hcc
  obtain ⟨W2, hW2⟩ : ∃ W2, W2 = (w.alloc (.cells #[.int .i64 0, .int .i64 0, .int .i64 0, .int .i64 0, .string ⟨#[]⟩, .slice none 0 0] 27)).alloc (.cells #[.int .i64 y.op, .int .i64 y.a, .int .i64 y.n, .int .i64 y.m, .string y.s, .slice yo y.ks.length yc] 27) := ⟨_, rfl⟩
  have hB2 : Below w.heap.size w W2 := by rw [hW2]; exact c_box2 w _ _
  have hzW : w.heap.size + 2 ≤ W2.heap.size := by rw [hW2]; simp
  have hres : W2.heap[w.heap.size]? = some (.cells #[.int .i64 0, .int .i64 0, .int .i64 0, .int .i64 0, .string ⟨#[]⟩, .slice none 0 0] 27 (0, 0)) := by rw [hW2]; exact c_new1 w _ _
  have hbox : W2.heap[w.heap.size + 1]? = some (.cells #[.int .i64 y.op, .int .i64 y.a, .int .i64 y.n, .int .i64 y.m, .string y.s, .slice yo y.ks.length yc] 27 (0, 0)) := by rw [hW2]; exact c_new2 w _ _
  obtain ⟨⟨b0, b1, b2, b3, b4, b5⟩, -, hxl⟩ := c_six hbox
  obtain ⟨⟨r0, r1, r2, r3, r4, r5⟩, ⟨q0, q1, q2, q3, q4, q5⟩, hrl⟩ := c_six hres
  have HW := Lib.hid hW2
  have HB := Lib.hid hB2
  have HZ := Lib.hid hzW
  have HBR := Lib.hid (And.intro hres hbox)
  have HT := Lib.hid (tin_kept ht hB2)
  clear hW2 hB2 hzW hbox hres ht
  go_enter Try.func40, Try.ntmps40
  go_upto_region 2 with fail
  rw [← HW.out]
  go_upto_region 3 with fail
  have hS0 := (c_six (w := W2.drew) HBR.out.2).1
  have HBe0 := Lib.hid (show Below w.heap.size w W2.drew from HB.out.drew)
  have HK0 := Lib.hid (show W2.drew.heap[w.heap.size]? = some (.cells #[.int .i64 0, .int .i64 0, .int .i64 0, .int .i64 0, .string ⟨#[]⟩, .slice none 0 0] 27 (0, 0)) ∧ W2.drew.heap[w.heap.size + 1]? = some (.cells #[.int .i64 y.op, .int .i64 y.a, .int .i64 y.n, .int .i64 y.m, .string y.s, .slice yo y.ks.length yc] 27 (0, 0)) from HBR.out)
  have HZ0 := Lib.hid (show w.heap.size + 2 ≤ W2.drew.heap.size from HZ.out)
  clear b0 b1 b2 b3 b4 b5 r0 r1 r2 r3 r4 r5 q0 q1 q2 q3 q4 q5 hxl hrl
  go_region_held3 (fun w' => w'.cell? ⟨w.heap.size + 1, 0, none⟩ = some (.int .i64 y.op) ∧ w'.cell? ⟨w.heap.size + 1, 1, none⟩ = some (.int .i64 y.a) ∧ w'.cell? ⟨w.heap.size + 1, 2, none⟩ = some (.int .i64 y.n) ∧ w'.cell? ⟨w.heap.size + 1, 3, none⟩ = some (.int .i64 y.m) ∧ w'.cell? ⟨w.heap.size + 1, 4, none⟩ = some (.string y.s) ∧ w'.cell? ⟨w.heap.size + 1, 5, none⟩ = some (.slice yo y.ks.length yc)) (first | with_reducible assumption | with_reducible exact six_st6 hS3 (by omega)) (first
    | (go_at_call 44; refine (HF.out _ HBe0.out).mono ?_; rintro e w1 ⟨fo, fl, fc, rfl, hft, hB1⟩; have hk1 := c_kept hB1 (c_lt HK0.out.1) HK0.out.1; have hk2 := c_kept hB1 (c_lt HK0.out.2) HK0.out.2; have hS2 := (c_six hk2).1; have HK1 := Lib.hid (And.intro hk1 hk2); have HBe1 := Lib.hid (c_thr HBe0.out hB1 HBe0.out.size); have HZ1 := Lib.hid (Nat.le_trans HZ0.out hB1.size); have HFT := Lib.hid hft; clear hft hk1 hk2 hB1)
    | (go_at_call 43; refine (HR.out _ fo fl fc HBe1.out HFT.out).mono ?_; rintro e w9 hq; obtain ⟨c, p0, p1, p2, p3, p4, po, pl, pc, rfl, hB9, hQ⟩ := q_any (w := w) (by have := HZ1.out; omega) hq; have hS3 := (c_six (c_kept hB9 (c_lt HK1.out.2) HK1.out.2)).1; obtain ⟨⟨r0, r1, r2, r3, r4, r5⟩, ⟨q0, q1, q2, q3, q4, q5⟩, hrl⟩ := c_six (c_kept hB9 (c_lt HK1.out.1) HK1.out.1); have HQ := Lib.hid (q_st6 (.int .i64 p0) (.int .i64 p1) (.int .i64 p2) (.int .i64 p3) (.string p4) (.slice po pl pc) hB (by have := HZ1.out; omega) (c_thr HBe1.out hB9 HBe1.out.size) hQ); clear hB9 hQ hq))
  go_wp2
  refine bodyPost_ret (v := .tuple #[.agg #[.int .i64 p0, .int .i64 p1, .int .i64 p2, .int .i64 p3, .string p4, .slice po pl pc], .int .i64 c]) (by simp [results, Try.results40, go_sem, r0, r1, r2, r3, r4, r5]) rfl ?_
  exact HQ.out
set_option linter.unusedVariables false in
set_option maxRecDepth 100000 in
set_option maxHeartbeats 1000000 in
theorem prop_key (bb oo len lc i : Nat) (y : Tr) (kb ko : Nat) (yc d B : Nat) (w : World) (hB : B ≤ w.heap.size) (hbb : bb < w.heap.size) (hcc : NCells w bb (oo + i * 6) y (.slice (some ⟨kb, ko, none⟩) y.ks.length yc)) (ht : TIn w (fun b => b < B) y (.slice (some ⟨kb, ko, none⟩) y.ks.length yc)) (hlen : len ≤ 100000) (hi : i < len) (hd : d ≤ 900) (hks : y.ks.length ≤ 100000) (x : Tr) (xo : Option Addr) (xl xc : Nat) (hkb : kb < w.heap.size) (hkc : NCells w kb ko x (.slice xo xl xc)) (g39 : (y.op == 39) = true) (g39n : (y.op != 39) = false) (g4 : (y.n == 4) = false) (g0 : (y.n == 0) = false) (g3 : (y.n != 3) = false) (gl : decide ((y.ks.length : Int) < 1) = false) (gl2 : decide ((2 : Int) < (y.ks.length : Int)) = false) (hl0 : 0 < y.ks.length) (gx : (x.op != 31) = true) (h200 : ¬ 200 < d) : Calls Try.prog 40 #[.slice (some ⟨bb, oo, none⟩) len lc, .int .i64 i, .int .i64 d] w (EAny w 24) := by
  have gd : decide ((200 : Int) < (d : Int)) = false := decide_eq_false (by omega)
  have hi2 : (i : Int) < (len : Int) := by omega
  obtain ⟨c0, c1, c2, c3, c4, c5⟩ := hcc
  obtain ⟨W2, hW2⟩ : ∃ W2, W2 = (w.alloc (.cells #[.int .i64 0, .int .i64 0, .int .i64 0, .int .i64 0, .string ⟨#[]⟩, .slice none 0 0] 27)).alloc (.cells #[.int .i64 y.op, .int .i64 y.a, .int .i64 y.n, .int .i64 y.m, .string y.s, .slice (some ⟨kb, ko, none⟩) y.ks.length yc] 27) := ⟨_, rfl⟩
  have hB2 : Below w.heap.size w W2 := by rw [hW2]; exact c_box2 w _ _
  have hzW : w.heap.size + 2 ≤ W2.heap.size := by rw [hW2]; simp
  have hres : W2.heap[w.heap.size]? = some (.cells #[.int .i64 0, .int .i64 0, .int .i64 0, .int .i64 0, .string ⟨#[]⟩, .slice none 0 0] 27 (0, 0)) := by rw [hW2]; exact c_new1 w _ _
  have hbox : W2.heap[w.heap.size + 1]? = some (.cells #[.int .i64 y.op, .int .i64 y.a, .int .i64 y.n, .int .i64 y.m, .string y.s, .slice (some ⟨kb, ko, none⟩) y.ks.length yc] 27 (0, 0)) := by rw [hW2]; exact c_new2 w _ _
  obtain ⟨⟨b0, b1, b2, b3, b4, b5⟩, -, hxl⟩ := c_six hbox
  obtain ⟨⟨r0, r1, r2, r3, r4, r5⟩, ⟨q0, q1, q2, q3, q4, q5⟩, hrl⟩ := c_six hres
  have HW := Lib.hid hW2
  have HB := Lib.hid hB2
  have HZ := Lib.hid hzW
  have HBR := Lib.hid (And.intro hres hbox)
  have HT := Lib.hid (tin_kept ht hB2)
  clear hW2 hB2 hzW hbox hres ht
  go_enter Try.func40, Try.ntmps40
  go_upto_region 2 with fail
  rw [← HW.out]
  go_upto_region 7 with fail
  obtain ⟨W3, hW3⟩ : ∃ W3, W3 = W2.alloc (.cells #[.int .i64 62, .int .i64 y.a, .int .i64 0, .int .i64 y.m, .string ⟨#[]⟩, .slice none 0 0] 27) := ⟨_, rfl⟩
  have hB3 : Below W2.heap.size W2 W3 := by rw [hW3]; exact c_box W2 _
  have hout : W3.heap[W2.heap.size]? = some (.cells #[.int .i64 62, .int .i64 y.a, .int .i64 0, .int .i64 y.m, .string ⟨#[]⟩, .slice none 0 0] 27 (0, 0)) := by rw [hW3]; exact heap_alloc_new W2 _
  have hz3 : W3.heap.size = W2.heap.size + 1 := by rw [hW3]; simp
  obtain ⟨g9, hg9⟩ : ∃ g9, g9 = W2.heap.size := ⟨_, rfl⟩
  rw [← hW3, ← hg9]
  rw [← hg9] at hout
  have hbox3 := c_kept hB3 (c_lt HBR.out.2) HBR.out.2
  have hres3 := c_kept hB3 (c_lt HBR.out.1) HBR.out.1
  have HB3 := Lib.hid (c_thr HB.out hB3 HB.out.size)
  have HT3 := Lib.hid (tin_kept HT.out hB3)
  have HBR3 := Lib.hid (And.intro hres3 (And.intro hbox3 hout))
  have HZ3 := Lib.hid (show w.heap.size + 3 ≤ W3.heap.size ∧ g9 = W2.heap.size ∧ W3.heap.size = g9 + 1 ∧ w.heap.size + 2 ≤ g9 from by have := HZ.out; omega)
  clear b0 b1 b2 b3 b4 b5 r0 r1 r2 r3 r4 r5 q0 q1 q2 q3 q4 q5 hxl hrl
  obtain ⟨⟨b0, b1, b2, b3, b4, b5⟩, -, hxl⟩ := c_six hbox3
  obtain ⟨⟨r0, r1, r2, r3, r4, r5⟩, ⟨q0, q1, q2, q3, q4, q5⟩, hrl⟩ := c_six hres3
  obtain ⟨⟨t0, t1, t2, t3, t4, t5⟩, ⟨u0, u1, u2, u3, u4, u5⟩, htl⟩ := c_six hout
  clear hW3 hB3 hout hz3 hg9 hbox3 hres3
  have hl0i : (0 : Int) < (y.ks.length : Int) := by omega
  obtain ⟨k0, k1, k2, k3, k4, k5⟩ := ncells_kept (HB3.out.block kb hkb) hkc
  go_wp2
  refine bodyPost_ret (v := .tuple #[.agg #[.int .i64 62, .int .i64 y.a, .int .i64 0, .int .i64 y.m, .string ⟨#[]⟩, .slice none 0 0], .int .i64 24]) (by simp [results, Try.results40, go_sem, r0, r1, r2, r3, r4, r5]) rfl ?_
  exact ⟨rfl, 62, y.a, 0, y.m, ⟨#[]⟩, none, 0, 0, rfl, c_st6 HB3.out (by omega)⟩
end Go.Proofs.Ytjnlifghobgkcaa
