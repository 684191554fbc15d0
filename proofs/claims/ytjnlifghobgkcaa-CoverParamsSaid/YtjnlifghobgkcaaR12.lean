/-
  prop of the reference at this translation: a property with a value.
-/
import Derived.Test.YtjnlifghobgkcaaR11
import Derived.BigRegion
import Derived.ChangeAlike
namespace Go.Proofs.Ytjnlifghobgkcaa
open Go.RowKit

def valR (a m : Int) (x : Tr) (R : Res) : Res := match R with
  | .error e => .error e
  | .ok p => .ok (.mk 62 a 0 m noS [x, p])
theorem q_val {w W3 w5 : World} {B : Nat} {R : Res} {e : Ending} (a m : Int) (x : Tr) (xo : Option Addr) (xl xc : Nat) (hz : w.heap.size ≤ W3.heap.size) (h : QPost W3 (Sha B W3) R e w5) : ∃ (c p0 p1 p2 p3 : Int) (p4 : ByteArray) (po : Option Addr) (pl pc : Nat), e = .returned (.tuple #[.agg #[.int .i64 p0, .int .i64 p1, .int .i64 p2, .int .i64 p3, .string p4, .slice po pl pc], .int .i64 c]) ∧ Below W3.heap.size W3 w5 ∧ ∀ w' g, Below w.heap.size w w' → w.heap.size ≤ g → w'.heap[g]? = some (.cells #[.int .i64 x.op, .int .i64 x.a, .int .i64 x.n, .int .i64 x.m, .string x.s, .slice xo xl xc, .int .i64 p0, .int .i64 p1, .int .i64 p2, .int .i64 p3, .string p4, .slice po pl pc] 27 (0, 0)) → (∀ b, b < w5.heap.size → (b < B ∨ W3.heap.size ≤ b) → w'.heap[b]? = w5.heap[b]?) → w5.heap.size ≤ w'.heap.size → TIn w' (Sha B w) x (.slice xo xl xc) → QPost w (Sha B w) (valR a m x R) (.returned (.tuple #[.agg #[.int .i64 62, .int .i64 a, .int .i64 0, .int .i64 m, .string ⟨#[]⟩, .slice (some ⟨g, 0, none⟩) 2 2], .int .i64 c])) w' := by
  cases R with
  | error c =>
    obtain ⟨hc0, p0, p1, p2, p3, p4, po, pl, pc, rfl, hb⟩ := h
    exact ⟨c, p0, p1, p2, p3, p4, po, pl, pc, rfl, hb, fun w' g hw _ _ _ _ _ => ⟨hc0, _, _, _, _, _, _, _, _, rfl, hw⟩⟩
  | ok r =>
    obtain ⟨ko, kl, kc, rfl, htr, hb⟩ := h
    refine ⟨0, r.op, r.a, r.n, r.m, r.s, ko, kl, kc, rfl, hb, fun w' g hw hg hcc hk hs hx => ⟨_, _, _, rfl, tin_pair (x := x) (y := r) (kx := .slice xo xl xc) (ky := .slice ko kl kc) hcc (.inr hg) hx (tin_imp (fun b hb5 hS => ⟨?_, hk b hb5 hS⟩) hs r _ htr) 62 a 0 m noS, hw⟩⟩
    rcases hS with hS | hS
    · exact .inl hS
    · exact .inr (Nat.le_trans hz hS)
theorem set_alloc_enddr {W5 W6 : World} {g9 : Nat} {C : Array Value} {x0 x1 x2 x3 x4 x5 v : Value} (hW : ((W5.setCell ⟨g9, 5, none⟩ v).alloc (.cells C 27)).drew = W6) (h : W5.heap[g9]? = some (.cells #[x0, x1, x2, x3, x4, x5] 27 (0, 0))) :
    W6.heap[g9]? = some (.cells #[x0, x1, x2, x3, x4, v] 27 (0, 0)) ∧ W6.heap[W5.heap.size]? = some (.cells C 27 (0, 0)) ∧ (∀ b, b < W5.heap.size → b ≠ g9 → W6.heap[b]? = W5.heap[b]?) ∧ W6.heap.size = W5.heap.size + 1 ∧ (∀ B, B ≤ g9 → Below B W5 W6) := by
  obtain ⟨e0, e1, e2, e3, e4⟩ := set_alloc_end (W6 := (W5.setCell ⟨g9, 5, none⟩ v).alloc (.cells C 27)) rfl h
  generalize (W5.setCell ⟨g9, 5, none⟩ v).alloc (.cells C 27) = W8 at *
  subst hW
  exact ⟨e0, e1, e2, e3, fun B hB => (e4 B hB).drew⟩
set_option linter.unusedVariables false in
set_option maxRecDepth 100000 in
set_option maxHeartbeats 1000000 in
theorem prop_pair (bb oo len lc i : Nat) (y : Tr) (kb ko : Nat) (yc d B : Nat) (w : World) (hB : B ≤ w.heap.size) (hbb : bb < w.heap.size) (hcc : NCells w bb (oo + i * 6) y (.slice (some ⟨kb, ko, none⟩) y.ks.length yc)) (ht : TIn w (fun b => b < B) y (.slice (some ⟨kb, ko, none⟩) y.ks.length yc)) (hlen : len ≤ 100000) (hi : i < len) (hd : d ≤ 900) (hks : y.ks.length ≤ 100000) (x : Tr) (xo : Option Addr) (xl xc : Nat) (hkb : kb < w.heap.size) (hkc : NCells w kb ko x (.slice xo xl xc)) (z : Tr) (zo : Option Addr) (zc : Nat) (hl1 : 1 < y.ks.length) (hkz : NCells w kb (ko + 6) z (.slice zo z.ks.length zc)) (htx : TIn w (fun b => b < B) x (.slice xo xl xc)) (R : Res) (HE : Hid (∀ W : World, Below w.heap.size w W → Calls Try.prog 24 #[.agg #[.int .i64 z.op, .int .i64 z.a, .int .i64 z.n, .int .i64 z.m, .string z.s, .slice zo z.ks.length zc], .int .i64 ((d : Int) + 1), .bool true] W (QPost W (Sha B W) R))) (g39 : (y.op == 39) = true) (g39n : (y.op != 39) = false) (g4 : (y.n == 4) = false) (g0 : (y.n == 0) = true) (gl : ((y.ks.length : Int) == 2) = true) (h200 : ¬ 200 < d) : Calls Try.prog 40 #[.slice (some ⟨bb, oo, none⟩) len lc, .int .i64 i, .int .i64 d] w (QPost w (Sha B w) (valR y.a y.m x R)) := by
  have gd : decide ((200 : Int) < (d : Int)) = false := decide_eq_false (by omega)
  have hi2 : (i : Int) < (len : Int) := by omega
  obtain ⟨c0, c1, c2, c3, c4, c5⟩ := hcc
  obtain ⟨W2, hW2⟩ : ∃ W2, W2 = (w.alloc (.cells #[.int .i64 0, .int .i64 0, .int .i64 0, .int .i64 0, .string ⟨#[]⟩, .slice none 0 0] 27)).alloc (.cells #[.int .i64 y.op, .int .i64 y.a, .int .i64 y.n, .int .i64 y.m, .string y.s, .slice (some ⟨kb, ko, none⟩) y.ks.length yc] 27) := ⟨_, rfl⟩
  have hB2 : Below w.heap.size w W2 := by rw [hW2]; exact c_box2 w _ _
  have hzW : w.heap.size + 2 ≤ W2.heap.size := by rw [hW2]; simp
  have hres : W2.heap[w.heap.size]? = some (.cells #[.int .i64 0, .int .i64 0, .int .i64 0, .int .i64 0, .string ⟨#[]⟩, .slice none 0 0] 27 (0, 0)) := by rw [hW2]; exact c_new1 w _ _
  have hbox : W2.heap[w.heap.size + 1]? = some (.cells #[.int .i64 y.op, .int .i64 y.a, .int .i64 y.n, .int .i64 y.m, .string y.s, .slice (some ⟨kb, ko, none⟩) y.ks.length yc] 27 (0, 0)) := by rw [hW2]; exact c_new2 w _ _
  obtain ⟨⟨b0, b1, b2, b3, b4, b5⟩, -, hxl⟩ := c_six hbox
  obtain ⟨⟨r0, r1, r2, r3, r4, r5⟩, ⟨q0, q1, q2, q3, q4, q5⟩, hrl⟩ := c_six hres
  have HW := Lib.hid hW2
  have HB := Lib.hid hB2
  have HZ := Lib.hid hzW
  have HBR := Lib.hid (And.intro hres hbox)
  have HT := Lib.hid (tin_kept ht hB2)
  clear hW2 hB2 hzW hbox hres ht
  go_enter Try.func40, Try.ntmps40
  go_upto_region 2 with fail
  rw [← HW.out]
  go_upto_region 7 with fail
  obtain ⟨W3, hW3⟩ : ∃ W3, W3 = W2.alloc (.cells #[.int .i64 62, .int .i64 y.a, .int .i64 0, .int .i64 y.m, .string ⟨#[]⟩, .slice none 0 0] 27) := ⟨_, rfl⟩
  have hB3 : Below W2.heap.size W2 W3 := by rw [hW3]; exact c_box W2 _
  have hout : W3.heap[W2.heap.size]? = some (.cells #[.int .i64 62, .int .i64 y.a, .int .i64 0, .int .i64 y.m, .string ⟨#[]⟩, .slice none 0 0] 27 (0, 0)) := by rw [hW3]; exact heap_alloc_new W2 _
  have hz3 : W3.heap.size = W2.heap.size + 1 := by rw [hW3]; simp
  obtain ⟨g9, hg9⟩ : ∃ g9, g9 = W2.heap.size := ⟨_, rfl⟩
  rw [← hW3, ← hg9]
  rw [← hg9] at hout
  have hbox3 := c_kept hB3 (c_lt HBR.out.2) HBR.out.2
  have hres3 := c_kept hB3 (c_lt HBR.out.1) HBR.out.1
  have HB3 := Lib.hid (c_thr HB.out hB3 HB.out.size)
  have HT3 := Lib.hid (tin_kept HT.out hB3)
  have HBR3 := Lib.hid (And.intro hres3 (And.intro hbox3 hout))
  have HZ3 := Lib.hid (show w.heap.size + 3 ≤ W3.heap.size ∧ g9 = W2.heap.size ∧ W3.heap.size = g9 + 1 ∧ w.heap.size + 2 ≤ g9 from by have := HZ.out; omega)
  clear b0 b1 b2 b3 b4 b5 r0 r1 r2 r3 r4 r5 q0 q1 q2 q3 q4 q5 hxl hrl
  obtain ⟨⟨b0, b1, b2, b3, b4, b5⟩, -, hxl⟩ := c_six hbox3
  obtain ⟨⟨r0, r1, r2, r3, r4, r5⟩, ⟨q0, q1, q2, q3, q4, q5⟩, hrl⟩ := c_six hres3
  obtain ⟨⟨t0, t1, t2, t3, t4, t5⟩, ⟨u0, u1, u2, u3, u4, u5⟩, htl⟩ := c_six hout
  clear hW3 hB3 hout hz3 hg9 hbox3 hres3
  have hl0i : (0 : Int) < (y.ks.length : Int) := by omega
  have hl1i : (1 : Int) < (y.ks.length : Int) := by omega
  obtain ⟨z0, z1, z2, z3, z4, z5⟩ := ncells_kept (HB3.out.block kb hkb) hkz
  go_upto_region 8 with fail
  go_wp2_with fail
  refine (HE.out _ HB3.out).mono ?_
  rintro e w5 hq
  obtain ⟨c, p0, p1, p2, p3, p4, po, pl, pc, rfl, hB5, hQ⟩ := q_val (w := w) y.a y.m x xo xl xc (by have := HZ3.out; omega) hq
  have hr5 := c_kept hB5 (c_lt HBR3.out.1) HBR3.out.1
  have hb5 := c_kept hB5 (c_lt HBR3.out.2.1) HBR3.out.2.1
  have ho5 := c_kept hB5 (c_lt HBR3.out.2.2) HBR3.out.2.2
  obtain ⟨W6, hW6⟩ : ∃ W6, W6 = w5.alloc (.cells #[.int .i64 p0, .int .i64 p1, .int .i64 p2, .int .i64 p3, .string p4, .slice po pl pc] 27) := ⟨_, rfl⟩
  have hB6 : Below w5.heap.size w5 W6 := by rw [hW6]; exact c_box w5 _
  have hn6 : W6.heap[w5.heap.size]? = some (.cells #[.int .i64 p0, .int .i64 p1, .int .i64 p2, .int .i64 p3, .string p4, .slice po pl pc] 27 (0, 0)) := by rw [hW6]; exact heap_alloc_new w5 _
  have hz6 : W6.heap.size = w5.heap.size + 1 := by rw [hW6]; simp
  obtain ⟨g10, hg10⟩ : ∃ g10, g10 = w5.heap.size := ⟨_, rfl⟩
  rw [← hg10] at hn6
  have hr6 := c_kept hB6 (c_lt hr5) hr5
  have hb6 := c_kept hB6 (c_lt hb5) hb5
  have ho6 := c_kept hB6 (c_lt ho5) ho5
  have hbw := c_thr HB3.out hB5 HB3.out.size
  have HB6 := Lib.hid (c_thr hbw hB6 hbw.size)
  have HX6 := Lib.hid (And.intro hr6 (And.intro hb6 (And.intro ho6 hn6)))
  have HZ6 := Lib.hid (show g10 = w5.heap.size ∧ W6.heap.size = g10 + 1 ∧ W3.heap.size ≤ g10 from by have := hB5.size; omega)
  have HK6 := Lib.hid (And.intro hB6 hQ)
  have HW6 := Lib.hid hW6
  have HG10 := Lib.hid hg10
  clear b0 b1 b2 b3 b4 b5 r0 r1 r2 r3 r4 r5 q0 q1 q2 q3 q4 q5 hxl hrl t0 t1 t2 t3 t4 t5 u0 u1 u2 u3 u4 u5 htl z0 z1 z2 z3 z4 z5
  clear hW6 hB6 hn6 hz6 hg10 hr6 hb6 ho6 hr5 hb5 ho5 hbw hB5 hQ hq
  go_upto_region 9 with fail
  rw [← HW6.out, ← HG10.out]
  obtain ⟨⟨b0, b1, b2, b3, b4, b5⟩, -, hxl⟩ := c_six HX6.out.2.1
  obtain ⟨⟨t0, t1, t2, t3, t4, t5⟩, ⟨u0, u1, u2, u3, u4, u5⟩, htl⟩ := c_six HX6.out.2.2.1
  obtain ⟨⟨n0, n1, n2, n3, n4, n5⟩, -, hnl⟩ := c_six HX6.out.2.2.2
  obtain ⟨k0, k1, k2, k3, k4, k5⟩ := ncells_kept (HB6.out.block kb hkb) hkc
  go_region
  generalize hW9 : ((W6.setCell ⟨g9, 5, none⟩ (.slice (some ⟨W6.heap.size, 0, none⟩) 2 2)).alloc (.cells #[.int .i64 x.op, .int .i64 x.a, .int .i64 x.n, .int .i64 x.m, .string x.s, .slice xo xl xc, .int .i64 p0, .int .i64 p1, .int .i64 p2, .int .i64 p3, .string p4, .slice po pl pc] 27)).drew = W9
  obtain ⟨e0, e1, e2, e3, e4⟩ := set_alloc_enddr hW9 HX6.out.2.2.1
  have hne : w.heap.size ≠ g9 := by have := HZ3.out; omega
  have hr9 := (e2 w.heap.size (c_lt HX6.out.1) hne).trans HX6.out.1
  clear b0 b1 b2 b3 b4 b5 hxl t0 t1 t2 t3 t4 t5 u0 u1 u2 u3 u4 u5 htl n0 n1 n2 n3 n4 n5 hnl k0 k1 k2 k3 k4 k5
  obtain ⟨⟨r0, r1, r2, r3, r4, r5⟩, ⟨q0, q1, q2, q3, q4, q5⟩, hrl⟩ := c_six hr9
  obtain ⟨⟨t0, t1, t2, t3, t4, t5⟩, -, htl⟩ := c_six e0
  have HE9 := Lib.hid (And.intro e1 (And.intro e2 (And.intro e3 e4)))
  clear hW9 e0 e1 e2 e3 e4 hr9 hne
  go_wp2
  refine bodyPost_ret (v := .tuple #[.agg #[.int .i64 62, .int .i64 y.a, .int .i64 0, .int .i64 y.m, .string ⟨#[]⟩, .slice (some ⟨W6.heap.size, 0, none⟩) 2 2], .int .i64 c]) (by simp [results, Try.results40, go_sem, r0, r1, r2, r3, r4, r5]) rfl ?_
  have hb9 : Below w.heap.size w W9 := HB6.out.trans (HE9.out.2.2.2 w.heap.size (by have := HZ3.out; omega))
  have hb7 := c_st6 (x0 := .int .i64 62) (x1 := .int .i64 y.a) (x2 := .int .i64 0) (x3 := .int .i64 y.m) (x4 := .string ⟨#[]⟩) (x5 := .slice (some ⟨W6.heap.size, 0, none⟩) 2 2) hb9 (Nat.le_refl _)
  have hk7 : ∀ b, b ≠ w.heap.size → ((((((W9.setCell ⟨w.heap.size, 0, none⟩ (.int .i64 62)).setCell ⟨w.heap.size, 1, none⟩ (.int .i64 y.a)).setCell ⟨w.heap.size, 2, none⟩ (.int .i64 0)).setCell ⟨w.heap.size, 3, none⟩ (.int .i64 y.m)).setCell ⟨w.heap.size, 4, none⟩ (.string ⟨#[]⟩)).setCell ⟨w.heap.size, 5, none⟩ (.slice (some ⟨W6.heap.size, 0, none⟩) 2 2)).heap[b]? = W9.heap[b]? := by
    intro b hn
    rw [x_ne _ _ _ _ _ hn, x_ne _ _ _ _ _ hn, x_ne _ _ _ _ _ hn, x_ne _ _ _ _ _ hn, x_ne _ _ _ _ _ hn, x_ne _ _ _ _ _ hn]
  have hz3 := HZ3.out
  have hz6 := HZ6.out
  refine HK6.out.2 _ W6.heap.size hb7 (by omega) ((hk7 _ (by omega)).trans HE9.out.1) (fun b hb hS => ?_) (by simp only [x_sz]; have := HE9.out.2.2.1; omega) (tin_mono (tin_kept htx hb7) (fun b _ h => .inl h))
  have h1 : b ≠ w.heap.size ∧ b ≠ g9 := by rcases hS with hS | hS <;> omega
  exact (hk7 b h1.1).trans ((HE9.out.2.1 b (by omega) h1.2).trans (HK6.out.1.block b hb))
end Go.Proofs.Ytjnlifghobgkcaa
