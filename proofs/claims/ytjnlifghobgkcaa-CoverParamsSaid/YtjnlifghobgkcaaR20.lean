/-
  Pattern of the reference at this translation.
-/
import Derived.Test.YtjnlifghobgkcaaR19
namespace Go.Proofs.Ytjnlifghobgkcaa
open Go.RowKit

set_option linter.unusedVariables false in
set_option maxRecDepth 100000 in
set_option maxHeartbeats 1000000 in
theorem rpat_top (y : Tr) (yo : Option Addr) (yc : Nat) (w : World) (hc : y.cnt ≤ 100000) (ht0 : TIn w All y (.slice yo y.ks.length yc)) : Calls Try.prog 12 #[.agg #[.int .i64 y.op, .int .i64 y.a, .int .i64 y.n, .int .i64 y.m, .string y.s, .slice yo y.ks.length yc]] w (RPost w All (patOf y)) := by
  have ht : TIn w (fun b => b < w.heap.size) y (.slice yo y.ks.length yc) := tin_mono ht0 (fun b hb _ => hb)
  obtain ⟨R, hR⟩ : ∃ R, R = patOf y := ⟨_, rfl⟩
  have HC : Hid (∀ W : World, Below w.heap.size w W → Calls Try.prog 24 #[.agg #[.int .i64 y.op, .int .i64 y.a, .int .i64 y.n, .int .i64 y.m, .string y.s, .slice yo y.ks.length yc], .int .i64 1, .bool false] W (QPost W (Sha w.heap.size W) R)) := Lib.hid (fun W hW => by
    have H := ele_at y.cnt hc y yo yc 1 false w.heap.size W (Nat.le_refl _) (by omega) hW.size (tin_kept ht hW)
    have e : withinV (if false then eleG (patF y.cnt) else patF y.cnt) y 1 true = R := by
      rw [hR]
      unfold withinV patOf
      rw [if_neg (by omega)]
      rfl
    rw [e] at H
    exact H)
  rw [← hR]
  clear hR ht0
  obtain ⟨W2, hW2⟩ : ∃ W2, W2 = (w.alloc (.cells #[.int .i64 y.op, .int .i64 y.a, .int .i64 y.n, .int .i64 y.m, .string y.s, .slice yo y.ks.length yc] 27)).alloc (.cells #[.int .i64 0, .int .i64 0, .int .i64 0, .int .i64 0, .string ⟨#[]⟩, .slice none 0 0] 27) := ⟨_, rfl⟩
  have hB2 : Below w.heap.size w W2 := by rw [hW2]; exact c_box2 w _ _
  have hzW : W2.heap.size = w.heap.size + 2 := by rw [hW2]; simp
  have hbox : W2.heap[w.heap.size]? = some (.cells #[.int .i64 y.op, .int .i64 y.a, .int .i64 y.n, .int .i64 y.m, .string y.s, .slice yo y.ks.length yc] 27 (0, 0)) := by rw [hW2]; exact c_new1 w _ _
  have hres : W2.heap[w.heap.size + 1]? = some (.cells #[.int .i64 0, .int .i64 0, .int .i64 0, .int .i64 0, .string ⟨#[]⟩, .slice none 0 0] 27 (0, 0)) := by rw [hW2]; exact c_new2 w _ _
  obtain ⟨⟨b0, b1, b2, b3, b4, b5⟩, -, hxl⟩ := c_six hbox
  obtain ⟨⟨r0, r1, r2, r3, r4, r5⟩, ⟨q0, q1, q2, q3, q4, q5⟩, hrl⟩ := c_six hres
  have HW := Lib.hid hW2
  have HB := Lib.hid hB2
  have HZ := Lib.hid hzW
  have HBR := Lib.hid (And.intro hbox hres)
  have HT := Lib.hid (tin_kept ht hB2)
  clear hW2 hB2 hzW hbox hres ht
  go_enter Try.func12, Try.ntmps12
  go_upto_region 1 with fail
  rw [← HW.out]
  go_wp2_with fail
  cases R with
  | error x =>
    refine (HC.out _ HB.out).mono ?_
    rintro e w1 ⟨hx, p0, p1, p2, p3, p4, po, pl, pc, rfl, hB1⟩
    have hne : (x != 0) = true := by simp [bne, hx]
    have hres1 := c_kept hB1 (c_lt HBR.out.2) HBR.out.2
    have HF := Lib.hid (And.intro hx (And.intro (c_thr HB.out hB1 HB.out.size) hres1))
    clear hx hB1 hres1 b0 b1 b2 b3 b4 b5 hxl r0 r1 r2 r3 r4 r5 q0 q1 q2 q3 q4 q5 hrl
    go_upto_region 2 with fail
    obtain ⟨W3, hW3⟩ : ∃ W3, W3 = w1.alloc (.cells #[.int .i64 p0, .int .i64 p1, .int .i64 p2, .int .i64 p3, .string p4, .slice po pl pc] 27) := ⟨_, rfl⟩
    rw [← hW3]
    have hres3 : W3.heap[w.heap.size + 1]? = some (.cells #[.int .i64 0, .int .i64 0, .int .i64 0, .int .i64 0, .string ⟨#[]⟩, .slice none 0 0] 27 (0, 0)) := by rw [hW3]; exact c_kept (c_box w1 _) (c_lt HF.out.2.2) HF.out.2.2
    have hB3 : Below w.heap.size w W3 := by rw [hW3]; exact c_thr HF.out.2.1 (c_box w1 _) HF.out.2.1.size
    obtain ⟨⟨r0, r1, r2, r3, r4, r5⟩, ⟨q0, q1, q2, q3, q4, q5⟩, hr⟩ := c_six hres3
    have HB3 := Lib.hid hB3
    clear hW3 hres3 hB3
    go_wp2
    refine bodyPost_ret (v := .tuple #[.agg #[.int .i64 0, .int .i64 0, .int .i64 0, .int .i64 0, .string ⟨#[]⟩, .slice none 0 0], .int .i64 x]) (by simp [results, Try.results12, go_sem, r0, r1, r2, r3, r4, r5]) rfl ?_
    exact ⟨HF.out.1, rfl, c_st6 HB3.out (by omega)⟩
  | ok r =>
    refine (HC.out _ HB.out).mono ?_
    rintro e w1 ⟨zo, zl, zc, rfl, htin, hB1⟩
    have hres1 := c_kept hB1 (c_lt HBR.out.2) HBR.out.2
    have HF := Lib.hid (And.intro htin (And.intro (c_thr HB.out hB1 HB.out.size) (And.intro hres1 hB1.size)))
    clear htin hB1 hres1 b0 b1 b2 b3 b4 b5 hxl r0 r1 r2 r3 r4 r5 q0 q1 q2 q3 q4 q5 hrl
    go_upto_region 2 with fail
    obtain ⟨W3, hW3⟩ : ∃ W3, W3 = w1.alloc (.cells #[.int .i64 r.op, .int .i64 r.a, .int .i64 r.n, .int .i64 r.m, .string r.s, .slice zo zl zc] 27) := ⟨_, rfl⟩
    rw [← hW3]
    have hn3 : W3.heap[w1.heap.size]? = some (.cells #[.int .i64 r.op, .int .i64 r.a, .int .i64 r.n, .int .i64 r.m, .string r.s, .slice zo zl zc] 27 (0, 0)) := by rw [hW3]; exact heap_alloc_new w1 _
    have hres3 : W3.heap[w.heap.size + 1]? = some (.cells #[.int .i64 0, .int .i64 0, .int .i64 0, .int .i64 0, .string ⟨#[]⟩, .slice none 0 0] 27 (0, 0)) := by rw [hW3]; exact c_kept (c_box w1 _) (c_lt HF.out.2.2.1) HF.out.2.2.1
    have hB3 : Below w.heap.size w W3 := by rw [hW3]; exact c_thr HF.out.2.1 (c_box w1 _) HF.out.2.1.size
    have ht3 : TIn W3 (Sha w.heap.size W2) r (.slice zo zl zc) := by rw [hW3]; exact tin_kept HF.out.1 (c_box w1 _)
    obtain ⟨⟨r0, r1, r2, r3, r4, r5⟩, ⟨q0, q1, q2, q3, q4, q5⟩, hr⟩ := c_six hres3
    obtain ⟨⟨n0, n1, n2, n3, n4, n5⟩, -, hnl⟩ := c_six hn3
    have HB3 := Lib.hid (And.intro hB3 ht3)
    clear hW3 hres3 hB3 hn3 ht3
    go_wp2
    refine bodyPost_ret (v := .tuple #[.agg #[.int .i64 r.op, .int .i64 r.a, .int .i64 r.n, .int .i64 r.m, .string r.s, .slice zo zl zc], .int .i64 0]) (by simp [results, Try.results12, go_sem, r0, r1, r2, r3, r4, r5]) rfl ?_
    exact ⟨zo, zl, zc, rfl, tin_mono (tin_grown HB3.out.2 (st6_grown W3 (w.heap.size + 1) 0 _ _ _ _ _ _) (fun b _ hs e => by simp at e; have := HZ.out; unfold Sha at hs; omega)) (fun b _ hs => trivial), c_st6 HB3.out.1 (by omega)⟩
end Go.Proofs.Ytjnlifghobgkcaa
