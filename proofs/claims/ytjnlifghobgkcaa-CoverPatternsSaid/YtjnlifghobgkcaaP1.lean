/-
  The law CoverPatterns at this translation: true, whatever the tree.
-/
import Derived.Test.YtjnlifghobgkcaaR20
import Derived.Test.YtjnlifghobgkcaaD4
import Derived.Test.YtjnlifghobgkcaaD1
import Derived.Test.YtjnlifghobgkcaaE0
namespace Go.Proofs.Ytjnlifghobgkcaa
open Go.RowKit

def rOf : Res → Tr
  | .ok r => r
  | .error _ => zeroT
def cOf : Res → Int
  | .ok _ => 0
  | .error x => x
theorem r_post {w w' : World} {S : Nat → Prop} {R : Res} {e : Ending} (h : RPost w S R e w') : ∃ (ao : Option Addr) (cap : Nat), e = .returned (.tuple #[.agg #[.int .i64 (rOf R).op, .int .i64 (rOf R).a, .int .i64 (rOf R).n, .int .i64 (rOf R).m, .string (rOf R).s, .slice ao (rOf R).ks.length cap], .int .i64 (cOf R)]) ∧ TIn w' All (rOf R) (.slice ao (rOf R).ks.length cap) ∧ Below w.heap.size w w' := by
  cases R with
  | error x =>
    obtain ⟨_, rfl, hb⟩ := h
    exact ⟨none, 0, rfl, tin_leaf, hb⟩
  | ok r =>
    obtain ⟨ao, len, cap, rfl, ht, hb⟩ := h
    obtain rfl := tin_len ht
    exact ⟨ao, cap, rfl, tin_mono ht (fun _ _ _ => trivial), hb⟩
theorem three6 {w : World} {b1 b2 b3 : Nat} {x0 x1 x2 x3 x4 x5 y0 y1 y2 y3 y4 y5 z0 z1 z2 z3 z4 z5 : Value} {T : TypeId} (h1 : w.heap[b1]? = some (.cells #[x0, x1, x2, x3, x4, x5] T (0, 0))) (h2 : w.heap[b2]? = some (.cells #[y0, y1, y2, y3, y4, y5] T (0, 0))) (h3 : w.heap[b3]? = some (.cells #[z0, z1, z2, z3, z4, z5] T (0, 0))) :
    w.cell? ⟨b1, 0, none⟩ = some x0 ∧ w.cell? ⟨b1, 1, none⟩ = some x1 ∧ w.cell? ⟨b1, 2, none⟩ = some x2 ∧ w.cell? ⟨b1, 3, none⟩ = some x3 ∧ w.cell? ⟨b1, 4, none⟩ = some x4 ∧ w.cell? ⟨b1, 5, none⟩ = some x5 ∧ w.cell? ⟨b2, 0, none⟩ = some y0 ∧ w.cell? ⟨b2, 1, none⟩ = some y1 ∧ w.cell? ⟨b2, 2, none⟩ = some y2 ∧ w.cell? ⟨b2, 3, none⟩ = some y3 ∧ w.cell? ⟨b2, 4, none⟩ = some y4 ∧ w.cell? ⟨b2, 5, none⟩ = some y5 ∧ w.cell? ⟨b3, 0, none⟩ = some z0 ∧ w.cell? ⟨b3, 1, none⟩ = some z1 ∧ w.cell? ⟨b3, 2, none⟩ = some z2 ∧ w.cell? ⟨b3, 3, none⟩ = some z3 ∧ w.cell? ⟨b3, 4, none⟩ = some z4 ∧ w.cell? ⟨b3, 5, none⟩ = some z5 := by
  obtain ⟨⟨a0, a1, a2, a3, a4, a5⟩, -, -⟩ := c_six h1
  obtain ⟨⟨c0, c1, c2, c3, c4, c5⟩, -, -⟩ := c_six h2
  obtain ⟨⟨d0, d1, d2, d3, d4, d5⟩, -, -⟩ := c_six h3
  exact ⟨a0, a1, a2, a3, a4, a5, c0, c1, c2, c3, c4, c5, d0, d1, d2, d3, d4, d5⟩
theorem rpat_cnt {t : Tr} (h : t.cnt ≤ 401) : (rOf (patOf t)).cnt ≤ 2000 := by
  cases e : patOf t with
  | error x => show (1 : Nat) + 0 ≤ 2000; omega
  | ok r => have := pat_cnt e; show r.cnt ≤ 2000; omega
set_option linter.unusedVariables false in
set_option maxRecDepth 100000 in
set_option maxHeartbeats 4000000 in
theorem cpats_walk (l : List It) (v : Value) (w : World) (h : ItsIn w v l) : Calls Try.prog 3 #[v] w (BPost w true) := by
  have HF := Lib.hid (few_any l v w h)
  have HBU := Lib.hid (fun (hl : l.length ≤ 400) => build_any l v w hl h)
  clear h
  go_enter Try.func3, Try.ntmps3
  go_wp2_with fail
  refine HF.out.mono ?_
  rintro e w1 ⟨c, rfl, rfl, hc⟩
  cases c with
  | false =>
    go_wp2_with fail
    refine (lives_any w1).mono ?_
    rintro e w2 ⟨rfl, hB⟩
    have HB := Lib.hid hB
    clear hB
    go_wp2
    go_ret
    exact ⟨rfl, HB.out⟩
  | true =>
    have hl4 := hc rfl
    go_wp2_with fail
    refine (HBU.out hl4).mono ?_
    rintro e w2 ⟨t, ao, cap, rfl, hcnt, htin, hB⟩
    have hcn : t.cnt ≤ 401 := by omega
    have HT := Lib.hid (And.intro htin hB)
    have HC := Lib.hid hcn
    clear htin hB hcnt hc hcn
    go_upto_region 4 with fail
    obtain ⟨W3, hW3⟩ : ∃ W3, W3 = w2.alloc (.cells #[.int .i64 t.op, .int .i64 t.a, .int .i64 t.n, .int .i64 t.m, .string t.s, .slice ao t.ks.length cap] 27) := ⟨_, rfl⟩
    have hB3 : Below w2.heap.size w2 W3 := by rw [hW3]; exact c_box w2 _
    have hn3 : W3.heap[w2.heap.size]? = some (.cells #[.int .i64 t.op, .int .i64 t.a, .int .i64 t.n, .int .i64 t.m, .string t.s, .slice ao t.ks.length cap] 27 (0, 0)) := by rw [hW3]; exact heap_alloc_new w2 _
    rw [← hW3]
    obtain ⟨R, hR⟩ : ∃ R, R = patOf t := ⟨_, rfl⟩
    have HRC : Hid (R = patOf t) := Lib.hid hR
    have HX := Lib.hid (And.intro (tin_kept HT.out.1 hB3) (And.intro hn3 (c_thr HT.out.2 hB3 HT.out.2.size)))
    obtain ⟨⟨t0, t1, t2, t3, t4, t5⟩, -, hxl⟩ := c_six hn3
    clear hW3 hB3 hn3 hR
    go_wp2_with fail
    refine (pattern_top t ao _ cap _ (by have := HC.out; omega) HX.out.1).mono ?_
    rintro e w4 hp
    rw [← HRC.out] at hp
    obtain ⟨ro, rc, rfl, htr, hB4⟩ := r_post hp
    have HCN : Hid ((rOf R).cnt ≤ 2000) := Lib.hid (by rw [HRC.out]; exact rpat_cnt HC.out)
    obtain ⟨r, hr⟩ : ∃ r, r = rOf R := ⟨_, rfl⟩
    obtain ⟨cc, hcc⟩ : ∃ cc, cc = cOf R := ⟨_, rfl⟩
    rw [← hr, ← hcc]
    rw [← hr] at htr HCN
    have HRR := Lib.hid (And.intro hr hcc)
    have H4 := Lib.hid (And.intro htr (And.intro hB4 (c_kept hB4 (c_lt HX.out.2.1) HX.out.2.1)))
    clear hp hr hcc htr hB4 t0 t1 t2 t3 t4 t5 hxl
    go_upto_region 5 with fail
    obtain ⟨W5, hW5⟩ : ∃ W5, W5 = w4.alloc (.cells #[.int .i64 r.op, .int .i64 r.a, .int .i64 r.n, .int .i64 r.m, .string r.s, .slice ro r.ks.length rc] 27) := ⟨_, rfl⟩
    have hB5 : Below w4.heap.size w4 W5 := by rw [hW5]; exact c_box w4 _
    have ha5 : W5.heap[w4.heap.size]? = some (.cells #[.int .i64 r.op, .int .i64 r.a, .int .i64 r.n, .int .i64 r.m, .string r.s, .slice ro r.ks.length rc] 27 (0, 0)) := by rw [hW5]; exact heap_alloc_new w4 _
    have hn5 := c_kept hB5 (c_lt H4.out.2.2) H4.out.2.2
    have ht5 : TIn W5 All t (.slice ao t.ks.length cap) := tin_kept (tin_kept HX.out.1 H4.out.2.1) hB5
    have H5 := Lib.hid (And.intro (tin_kept H4.out.1 hB5) (And.intro (c_thr H4.out.2.1 hB5 H4.out.2.1.size) (And.intro hn5 (And.intro ha5 ht5))))
    rw [← hW5]
    obtain ⟨⟨t0, t1, t2, t3, t4, t5⟩, -, hxl⟩ := c_six hn5
    clear hW5 hB5 ha5 hn5 ht5
    go_wp2_with fail
    refine (rpat_top t ao cap _ (by have := HC.out; omega) H5.out.2.2.2.2).mono ?_
    rintro e w6 hp
    rw [← HRC.out] at hp
    obtain ⟨so, sc, rfl, hts, hB6⟩ := r_post hp
    rw [← HRR.out.1, ← HRR.out.2]
    rw [← HRR.out.1] at hts
    have H6 := Lib.hid (And.intro hts (And.intro hB6 (And.intro (c_kept hB6 (c_lt H5.out.2.2.1) H5.out.2.2.1) (c_kept hB6 (c_lt H5.out.2.2.2.1) H5.out.2.2.2.1))))
    clear hp hts hB6 t0 t1 t2 t3 t4 t5 hxl
    go_upto_region 6 with fail
    obtain ⟨W7, hW7⟩ : ∃ W7, W7 = w6.alloc (.cells #[.int .i64 r.op, .int .i64 r.a, .int .i64 r.n, .int .i64 r.m, .string r.s, .slice so r.ks.length sc] 27) := ⟨_, rfl⟩
    have hB7 : Below w6.heap.size w6 W7 := by rw [hW7]; exact c_box w6 _
    have hb7 : W7.heap[w6.heap.size]? = some (.cells #[.int .i64 r.op, .int .i64 r.a, .int .i64 r.n, .int .i64 r.m, .string r.s, .slice so r.ks.length sc] 27 (0, 0)) := by rw [hW7]; exact heap_alloc_new w6 _
    have hn7 := c_kept hB7 (c_lt H6.out.2.2.1) H6.out.2.2.1
    have ha7 := c_kept hB7 (c_lt H6.out.2.2.2) H6.out.2.2.2
    have htt : TIn W7 All t (.slice ao t.ks.length cap) := tin_kept (tin_kept H5.out.2.2.2.2 H6.out.2.1) hB7
    have htr : TIn W7 All r (.slice ro r.ks.length rc) := tin_kept (tin_kept H5.out.1 H6.out.2.1) hB7
    have hts : TIn W7 All r (.slice so r.ks.length sc) := tin_kept H6.out.1 hB7
    have h1 := c_thr HX.out.2.2 H5.out.2.1 HX.out.2.2.size
    have h2 := c_thr h1 H6.out.2.1 h1.size
    have hbw := c_thr h2 hB7 h2.size
    clear h1 h2
    rw [← hW7]
    have hS0 : W7.drew.cell? ⟨w2.heap.size, 0, none⟩ = some (.int .i64 t.op) ∧ W7.drew.cell? ⟨w2.heap.size, 1, none⟩ = some (.int .i64 t.a) ∧ W7.drew.cell? ⟨w2.heap.size, 2, none⟩ = some (.int .i64 t.n) ∧ W7.drew.cell? ⟨w2.heap.size, 3, none⟩ = some (.int .i64 t.m) ∧ W7.drew.cell? ⟨w2.heap.size, 4, none⟩ = some (.string t.s) ∧ W7.drew.cell? ⟨w2.heap.size, 5, none⟩ = some (.slice ao t.ks.length cap) ∧ W7.drew.cell? ⟨w4.heap.size, 0, none⟩ = some (.int .i64 r.op) ∧ W7.drew.cell? ⟨w4.heap.size, 1, none⟩ = some (.int .i64 r.a) ∧ W7.drew.cell? ⟨w4.heap.size, 2, none⟩ = some (.int .i64 r.n) ∧ W7.drew.cell? ⟨w4.heap.size, 3, none⟩ = some (.int .i64 r.m) ∧ W7.drew.cell? ⟨w4.heap.size, 4, none⟩ = some (.string r.s) ∧ W7.drew.cell? ⟨w4.heap.size, 5, none⟩ = some (.slice ro r.ks.length rc) ∧ W7.drew.cell? ⟨w6.heap.size, 0, none⟩ = some (.int .i64 r.op) ∧ W7.drew.cell? ⟨w6.heap.size, 1, none⟩ = some (.int .i64 r.a) ∧ W7.drew.cell? ⟨w6.heap.size, 2, none⟩ = some (.int .i64 r.n) ∧ W7.drew.cell? ⟨w6.heap.size, 3, none⟩ = some (.int .i64 r.m) ∧ W7.drew.cell? ⟨w6.heap.size, 4, none⟩ = some (.string r.s) ∧ W7.drew.cell? ⟨w6.heap.size, 5, none⟩ = some (.slice so r.ks.length sc) := three6 (w := W7.drew) hn7 ha7 hb7
    have H7 := Lib.hid (And.intro hn7 (And.intro ha7 hb7))
    have HTI := Lib.hid (And.intro htt (And.intro htr hts))
    have HBW := Lib.hid hbw
    have gc : (cc == cc) = true := by simp
    clear hW7 hB7 hb7 hn7 ha7 htt htr hts hbw
    obtain ⟨bt, hbt⟩ : ∃ bt, bt = tgtB t := ⟨_, rfl⟩
    have H14 : Hid (∀ W, Calls Try.prog 14 #[.agg #[.int .i64 t.op, .int .i64 t.a, .int .i64 t.n, .int .i64 t.m, .string t.s, .slice ao t.ks.length cap]] W (BPost W bt)) := Lib.hid (fun W => by rw [hbt]; exact target_any t.op t.a t.n t.m t.s ao t.ks.length cap W)
    have H15 : Hid (∀ W, Calls Try.prog 15 #[.agg #[.int .i64 t.op, .int .i64 t.a, .int .i64 t.n, .int .i64 t.m, .string t.s, .slice ao t.ks.length cap]] W (BPost W bt)) := Lib.hid (fun W => by rw [hbt]; exact rtarget_any t ao t.ks.length cap W)
    have gb : (bt == bt) = true := by simp
    clear hbt
    go_region_held3 (fun w' => w'.cell? ⟨w2.heap.size, 0, none⟩ = some (.int .i64 t.op) ∧ w'.cell? ⟨w2.heap.size, 1, none⟩ = some (.int .i64 t.a) ∧ w'.cell? ⟨w2.heap.size, 2, none⟩ = some (.int .i64 t.n) ∧ w'.cell? ⟨w2.heap.size, 3, none⟩ = some (.int .i64 t.m) ∧ w'.cell? ⟨w2.heap.size, 4, none⟩ = some (.string t.s) ∧ w'.cell? ⟨w2.heap.size, 5, none⟩ = some (.slice ao t.ks.length cap) ∧ w'.cell? ⟨w4.heap.size, 0, none⟩ = some (.int .i64 r.op) ∧ w'.cell? ⟨w4.heap.size, 1, none⟩ = some (.int .i64 r.a) ∧ w'.cell? ⟨w4.heap.size, 2, none⟩ = some (.int .i64 r.n) ∧ w'.cell? ⟨w4.heap.size, 3, none⟩ = some (.int .i64 r.m) ∧ w'.cell? ⟨w4.heap.size, 4, none⟩ = some (.string r.s) ∧ w'.cell? ⟨w4.heap.size, 5, none⟩ = some (.slice ro r.ks.length rc) ∧ w'.cell? ⟨w6.heap.size, 0, none⟩ = some (.int .i64 r.op) ∧ w'.cell? ⟨w6.heap.size, 1, none⟩ = some (.int .i64 r.a) ∧ w'.cell? ⟨w6.heap.size, 2, none⟩ = some (.int .i64 r.n) ∧ w'.cell? ⟨w6.heap.size, 3, none⟩ = some (.int .i64 r.m) ∧ w'.cell? ⟨w6.heap.size, 4, none⟩ = some (.string r.s) ∧ w'.cell? ⟨w6.heap.size, 5, none⟩ = some (.slice so r.ks.length sc)) (first | with_reducible assumption) (first
      | (go_at_call 13; refine (same_any 2000 r ro so rc sc _ HCN.out (by omega) ?_ ?_).mono ?_; exact tin_all HTI.out.2.1 (Below.refl _ _) rfl; exact tin_all HTI.out.2.2 (Below.refl _ _) rfl; rintro e x1 ⟨rfl, hB9⟩; have hB9' : Below W7.heap.size W7 x1 := c_thr (show Below W7.heap.size W7 W7.drew from (Below.refl _ W7).drew) hB9 ((show Below W7.heap.size W7 W7.drew from (Below.refl _ W7).drew)).size; have hSx1 : x1.cell? ⟨w2.heap.size, 0, none⟩ = some (.int .i64 t.op) ∧ x1.cell? ⟨w2.heap.size, 1, none⟩ = some (.int .i64 t.a) ∧ x1.cell? ⟨w2.heap.size, 2, none⟩ = some (.int .i64 t.n) ∧ x1.cell? ⟨w2.heap.size, 3, none⟩ = some (.int .i64 t.m) ∧ x1.cell? ⟨w2.heap.size, 4, none⟩ = some (.string t.s) ∧ x1.cell? ⟨w2.heap.size, 5, none⟩ = some (.slice ao t.ks.length cap) ∧ x1.cell? ⟨w4.heap.size, 0, none⟩ = some (.int .i64 r.op) ∧ x1.cell? ⟨w4.heap.size, 1, none⟩ = some (.int .i64 r.a) ∧ x1.cell? ⟨w4.heap.size, 2, none⟩ = some (.int .i64 r.n) ∧ x1.cell? ⟨w4.heap.size, 3, none⟩ = some (.int .i64 r.m) ∧ x1.cell? ⟨w4.heap.size, 4, none⟩ = some (.string r.s) ∧ x1.cell? ⟨w4.heap.size, 5, none⟩ = some (.slice ro r.ks.length rc) ∧ x1.cell? ⟨w6.heap.size, 0, none⟩ = some (.int .i64 r.op) ∧ x1.cell? ⟨w6.heap.size, 1, none⟩ = some (.int .i64 r.a) ∧ x1.cell? ⟨w6.heap.size, 2, none⟩ = some (.int .i64 r.n) ∧ x1.cell? ⟨w6.heap.size, 3, none⟩ = some (.int .i64 r.m) ∧ x1.cell? ⟨w6.heap.size, 4, none⟩ = some (.string r.s) ∧ x1.cell? ⟨w6.heap.size, 5, none⟩ = some (.slice so r.ks.length sc) := three6 (c_kept hB9' (c_lt H7.out.1) H7.out.1) (c_kept hB9' (c_lt H7.out.2.1) H7.out.2.1) (c_kept hB9' (c_lt H7.out.2.2) H7.out.2.2); have HBx1 := Lib.hid hB9'; clear hB9 hB9')
      | (go_at_call 14; refine (H14.out _).mono ?_; rintro e x2 ⟨rfl, hB9⟩; have hB9' : Below W7.heap.size W7 x2 := c_thr HBx1.out hB9 (HBx1.out).size; have hSx2 : x2.cell? ⟨w2.heap.size, 0, none⟩ = some (.int .i64 t.op) ∧ x2.cell? ⟨w2.heap.size, 1, none⟩ = some (.int .i64 t.a) ∧ x2.cell? ⟨w2.heap.size, 2, none⟩ = some (.int .i64 t.n) ∧ x2.cell? ⟨w2.heap.size, 3, none⟩ = some (.int .i64 t.m) ∧ x2.cell? ⟨w2.heap.size, 4, none⟩ = some (.string t.s) ∧ x2.cell? ⟨w2.heap.size, 5, none⟩ = some (.slice ao t.ks.length cap) ∧ x2.cell? ⟨w4.heap.size, 0, none⟩ = some (.int .i64 r.op) ∧ x2.cell? ⟨w4.heap.size, 1, none⟩ = some (.int .i64 r.a) ∧ x2.cell? ⟨w4.heap.size, 2, none⟩ = some (.int .i64 r.n) ∧ x2.cell? ⟨w4.heap.size, 3, none⟩ = some (.int .i64 r.m) ∧ x2.cell? ⟨w4.heap.size, 4, none⟩ = some (.string r.s) ∧ x2.cell? ⟨w4.heap.size, 5, none⟩ = some (.slice ro r.ks.length rc) ∧ x2.cell? ⟨w6.heap.size, 0, none⟩ = some (.int .i64 r.op) ∧ x2.cell? ⟨w6.heap.size, 1, none⟩ = some (.int .i64 r.a) ∧ x2.cell? ⟨w6.heap.size, 2, none⟩ = some (.int .i64 r.n) ∧ x2.cell? ⟨w6.heap.size, 3, none⟩ = some (.int .i64 r.m) ∧ x2.cell? ⟨w6.heap.size, 4, none⟩ = some (.string r.s) ∧ x2.cell? ⟨w6.heap.size, 5, none⟩ = some (.slice so r.ks.length sc) := three6 (c_kept hB9' (c_lt H7.out.1) H7.out.1) (c_kept hB9' (c_lt H7.out.2.1) H7.out.2.1) (c_kept hB9' (c_lt H7.out.2.2) H7.out.2.2); have HBx2 := Lib.hid hB9'; clear hB9 hB9')
      | (go_at_call 15; refine (H15.out _).mono ?_; rintro e x3 ⟨rfl, hB9⟩; have hB9' : Below W7.heap.size W7 x3 := c_thr HBx2.out hB9 (HBx2.out).size; have hSx3 : x3.cell? ⟨w2.heap.size, 0, none⟩ = some (.int .i64 t.op) ∧ x3.cell? ⟨w2.heap.size, 1, none⟩ = some (.int .i64 t.a) ∧ x3.cell? ⟨w2.heap.size, 2, none⟩ = some (.int .i64 t.n) ∧ x3.cell? ⟨w2.heap.size, 3, none⟩ = some (.int .i64 t.m) ∧ x3.cell? ⟨w2.heap.size, 4, none⟩ = some (.string t.s) ∧ x3.cell? ⟨w2.heap.size, 5, none⟩ = some (.slice ao t.ks.length cap) ∧ x3.cell? ⟨w4.heap.size, 0, none⟩ = some (.int .i64 r.op) ∧ x3.cell? ⟨w4.heap.size, 1, none⟩ = some (.int .i64 r.a) ∧ x3.cell? ⟨w4.heap.size, 2, none⟩ = some (.int .i64 r.n) ∧ x3.cell? ⟨w4.heap.size, 3, none⟩ = some (.int .i64 r.m) ∧ x3.cell? ⟨w4.heap.size, 4, none⟩ = some (.string r.s) ∧ x3.cell? ⟨w4.heap.size, 5, none⟩ = some (.slice ro r.ks.length rc) ∧ x3.cell? ⟨w6.heap.size, 0, none⟩ = some (.int .i64 r.op) ∧ x3.cell? ⟨w6.heap.size, 1, none⟩ = some (.int .i64 r.a) ∧ x3.cell? ⟨w6.heap.size, 2, none⟩ = some (.int .i64 r.n) ∧ x3.cell? ⟨w6.heap.size, 3, none⟩ = some (.int .i64 r.m) ∧ x3.cell? ⟨w6.heap.size, 4, none⟩ = some (.string r.s) ∧ x3.cell? ⟨w6.heap.size, 5, none⟩ = some (.slice so r.ks.length sc) := three6 (c_kept hB9' (c_lt H7.out.1) H7.out.1) (c_kept hB9' (c_lt H7.out.2.1) H7.out.2.1) (c_kept hB9' (c_lt H7.out.2.2) H7.out.2.2); have HBx3 := Lib.hid hB9'; clear hB9 hB9')
      | (go_at_call 9; refine (lives_any _).mono ?_; rintro e x4 ⟨rfl, hB9⟩; have hB9' : Below W7.heap.size W7 x4 := c_thr HBx3.out hB9 (HBx3.out).size; have hSx4 : x4.cell? ⟨w2.heap.size, 0, none⟩ = some (.int .i64 t.op) ∧ x4.cell? ⟨w2.heap.size, 1, none⟩ = some (.int .i64 t.a) ∧ x4.cell? ⟨w2.heap.size, 2, none⟩ = some (.int .i64 t.n) ∧ x4.cell? ⟨w2.heap.size, 3, none⟩ = some (.int .i64 t.m) ∧ x4.cell? ⟨w2.heap.size, 4, none⟩ = some (.string t.s) ∧ x4.cell? ⟨w2.heap.size, 5, none⟩ = some (.slice ao t.ks.length cap) ∧ x4.cell? ⟨w4.heap.size, 0, none⟩ = some (.int .i64 r.op) ∧ x4.cell? ⟨w4.heap.size, 1, none⟩ = some (.int .i64 r.a) ∧ x4.cell? ⟨w4.heap.size, 2, none⟩ = some (.int .i64 r.n) ∧ x4.cell? ⟨w4.heap.size, 3, none⟩ = some (.int .i64 r.m) ∧ x4.cell? ⟨w4.heap.size, 4, none⟩ = some (.string r.s) ∧ x4.cell? ⟨w4.heap.size, 5, none⟩ = some (.slice ro r.ks.length rc) ∧ x4.cell? ⟨w6.heap.size, 0, none⟩ = some (.int .i64 r.op) ∧ x4.cell? ⟨w6.heap.size, 1, none⟩ = some (.int .i64 r.a) ∧ x4.cell? ⟨w6.heap.size, 2, none⟩ = some (.int .i64 r.n) ∧ x4.cell? ⟨w6.heap.size, 3, none⟩ = some (.int .i64 r.m) ∧ x4.cell? ⟨w6.heap.size, 4, none⟩ = some (.string r.s) ∧ x4.cell? ⟨w6.heap.size, 5, none⟩ = some (.slice so r.ks.length sc) := three6 (c_kept hB9' (c_lt H7.out.1) H7.out.1) (c_kept hB9' (c_lt H7.out.2.1) H7.out.2.1) (c_kept hB9' (c_lt H7.out.2.2) H7.out.2.2); have HBx4 := Lib.hid hB9'; clear hB9 hB9'))
    go_wp2
    go_ret
    exact ⟨rfl, c_thr HBW.out HBx4.out HBW.out.size⟩
end Go.Proofs.Ytjnlifghobgkcaa
