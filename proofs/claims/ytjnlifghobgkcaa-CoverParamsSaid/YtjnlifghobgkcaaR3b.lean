/-
  rest of the reference at this translation: what it makes.
-/
import Derived.Test.YtjnlifghobgkcaaR3
import Derived.Test.YtjnlifghobgkcaaR0
namespace Go.Proofs.Ytjnlifghobgkcaa
open Go.RowKit

theorem sev7 {w : World} {g : Nat} {x0 x1 x2 x3 x4 x5 : Value} {lb lo b : Nat} {z y0 y1 y2 y3 y4 y5 : Value} (h : w.cell? ⟨lb, lo, none⟩ = some z ∧ w.cell? ⟨b, 0, none⟩ = some y0 ∧ w.cell? ⟨b, 1, none⟩ = some y1 ∧ w.cell? ⟨b, 2, none⟩ = some y2 ∧ w.cell? ⟨b, 3, none⟩ = some y3 ∧ w.cell? ⟨b, 4, none⟩ = some y4 ∧ w.cell? ⟨b, 5, none⟩ = some y5) (hl : ¬ lb = g) (hb : ¬ b = g) : ((((((w.setCell ⟨g, 0, none⟩ x0).setCell ⟨g, 1, none⟩ x1).setCell ⟨g, 2, none⟩ x2).setCell ⟨g, 3, none⟩ x3).setCell ⟨g, 4, none⟩ x4).setCell ⟨g, 5, none⟩ x5).cell? ⟨lb, lo, none⟩ = some z ∧ ((((((w.setCell ⟨g, 0, none⟩ x0).setCell ⟨g, 1, none⟩ x1).setCell ⟨g, 2, none⟩ x2).setCell ⟨g, 3, none⟩ x3).setCell ⟨g, 4, none⟩ x4).setCell ⟨g, 5, none⟩ x5).cell? ⟨b, 0, none⟩ = some y0 ∧ ((((((w.setCell ⟨g, 0, none⟩ x0).setCell ⟨g, 1, none⟩ x1).setCell ⟨g, 2, none⟩ x2).setCell ⟨g, 3, none⟩ x3).setCell ⟨g, 4, none⟩ x4).setCell ⟨g, 5, none⟩ x5).cell? ⟨b, 1, none⟩ = some y1 ∧ ((((((w.setCell ⟨g, 0, none⟩ x0).setCell ⟨g, 1, none⟩ x1).setCell ⟨g, 2, none⟩ x2).setCell ⟨g, 3, none⟩ x3).setCell ⟨g, 4, none⟩ x4).setCell ⟨g, 5, none⟩ x5).cell? ⟨b, 2, none⟩ = some y2 ∧ ((((((w.setCell ⟨g, 0, none⟩ x0).setCell ⟨g, 1, none⟩ x1).setCell ⟨g, 2, none⟩ x2).setCell ⟨g, 3, none⟩ x3).setCell ⟨g, 4, none⟩ x4).setCell ⟨g, 5, none⟩ x5).cell? ⟨b, 3, none⟩ = some y3 ∧ ((((((w.setCell ⟨g, 0, none⟩ x0).setCell ⟨g, 1, none⟩ x1).setCell ⟨g, 2, none⟩ x2).setCell ⟨g, 3, none⟩ x3).setCell ⟨g, 4, none⟩ x4).setCell ⟨g, 5, none⟩ x5).cell? ⟨b, 4, none⟩ = some y4 ∧ ((((((w.setCell ⟨g, 0, none⟩ x0).setCell ⟨g, 1, none⟩ x1).setCell ⟨g, 2, none⟩ x2).setCell ⟨g, 3, none⟩ x3).setCell ⟨g, 4, none⟩ x4).setCell ⟨g, 5, none⟩ x5).cell? ⟨b, 5, none⟩ = some y5 :=
  ⟨(st6_cell w g 0 x0 x1 x2 x3 x4 x5 lb lo hl).trans h.1, (st6_cell w g 0 x0 x1 x2 x3 x4 x5 b 0 hb).trans h.2.1, (st6_cell w g 0 x0 x1 x2 x3 x4 x5 b 1 hb).trans h.2.2.1, (st6_cell w g 0 x0 x1 x2 x3 x4 x5 b 2 hb).trans h.2.2.2.1, (st6_cell w g 0 x0 x1 x2 x3 x4 x5 b 3 hb).trans h.2.2.2.2.1, (st6_cell w g 0 x0 x1 x2 x3 x4 x5 b 4 hb).trans h.2.2.2.2.2.1, (st6_cell w g 0 x0 x1 x2 x3 x4 x5 b 5 hb).trans h.2.2.2.2.2.2⟩
/-- what rest makes of what element answered -/
def RestPost (w w5 : World) (na x : Int) (p0 p1 p2 p3 : Int) (p4 : ByteArray) (po : Option Addr) (pl pc : Nat) : Ending → World → Prop := fun e w' => ∃ g : Nat, e = .returned (.tuple #[.agg #[.int .i64 64, .int .i64 na, .int .i64 0, .int .i64 0, .string ⟨#[]⟩, .slice (some ⟨g, 0, none⟩) 1 1], .int .i64 x]) ∧ w5.heap.size ≤ g ∧ w'.heap[g]? = some (.cells #[.int .i64 p0, .int .i64 p1, .int .i64 p2, .int .i64 p3, .string p4, .slice po pl pc] 27 (0, 0)) ∧ (∀ b, b < w5.heap.size → b ≠ w.heap.size + 1 → w'.heap[b]? = w5.heap[b]?) ∧ w5.heap.size ≤ w'.heap.size ∧ Below w.heap.size w w'
theorem x_drew (w : World) : w.drew.heap = w.heap := rfl
theorem x_sz (w : World) (p : Addr) (v : Value) : (w.setCell p v).heap.size = w.heap.size := by simp [World.setCell]
theorem x_ne (w : World) (b i c : Nat) (v : Value) (h : c ≠ b) : (w.setCell ⟨b, i, none⟩ v).heap[c]? = w.heap[c]? := Below.heap_setCell _ _ _ _ h
theorem rest_end {W7 W9 : World} {bw : Nat} {na : Int} {x : Value} {C : Array Value} (hW : (((((((W7.setCell ⟨bw, 0, none⟩ (.int .i64 64)).setCell ⟨bw, 1, none⟩ (.int .i64 na)).setCell ⟨bw, 2, none⟩ (.int .i64 0)).setCell ⟨bw, 3, none⟩ (.int .i64 0)).setCell ⟨bw, 4, none⟩ (.string ⟨#[]⟩)).setCell ⟨bw, 5, none⟩ x).alloc (.cells C 27)).drew = W9) (h : W7.heap[bw]? = some (.cells #[.int .i64 0, .int .i64 0, .int .i64 0, .int .i64 0, .string ⟨#[]⟩, .slice none 0 0] 27 (0, 0))) :
    W9.heap[bw]? = some (.cells #[.int .i64 64, .int .i64 na, .int .i64 0, .int .i64 0, .string ⟨#[]⟩, x] 27 (0, 0)) ∧ W9.heap[W7.heap.size]? = some (.cells C 27 (0, 0)) ∧ (∀ b, b < W7.heap.size → b ≠ bw → W9.heap[b]? = W7.heap[b]?) ∧ W9.heap.size = W7.heap.size + 1 ∧ (∀ B, B ≤ bw → Below B W7 W9) := by
  have hb : bw < W7.heap.size := c_lt h
  have h0 := c_one 0 (.int .i64 64) h
  have h1 := c_one 1 (.int .i64 na) h0
  have h2 := c_one 2 (.int .i64 0) h1
  have h3 := c_one 3 (.int .i64 0) h2
  have h4 := c_one 4 (.string ⟨#[]⟩) h3
  have h5 := c_one 5 x h4
  have hz : ((((((W7.setCell ⟨bw, 0, none⟩ (.int .i64 64)).setCell ⟨bw, 1, none⟩ (.int .i64 na)).setCell ⟨bw, 2, none⟩ (.int .i64 0)).setCell ⟨bw, 3, none⟩ (.int .i64 0)).setCell ⟨bw, 4, none⟩ (.string ⟨#[]⟩)).setCell ⟨bw, 5, none⟩ x).heap.size = W7.heap.size := by simp only [x_sz]
  have hn : ∀ c, c ≠ bw → ((((((W7.setCell ⟨bw, 0, none⟩ (.int .i64 64)).setCell ⟨bw, 1, none⟩ (.int .i64 na)).setCell ⟨bw, 2, none⟩ (.int .i64 0)).setCell ⟨bw, 3, none⟩ (.int .i64 0)).setCell ⟨bw, 4, none⟩ (.string ⟨#[]⟩)).setCell ⟨bw, 5, none⟩ x).heap[c]? = W7.heap[c]? := by
    intro c hc
    rw [x_ne _ _ _ _ _ hc, x_ne _ _ _ _ _ hc, x_ne _ _ _ _ _ hc, x_ne _ _ _ _ _ hc, x_ne _ _ _ _ _ hc, x_ne _ _ _ _ _ hc]
  have hB : ∀ B, B ≤ bw → Below B W7 ((((((W7.setCell ⟨bw, 0, none⟩ (.int .i64 64)).setCell ⟨bw, 1, none⟩ (.int .i64 na)).setCell ⟨bw, 2, none⟩ (.int .i64 0)).setCell ⟨bw, 3, none⟩ (.int .i64 0)).setCell ⟨bw, 4, none⟩ (.string ⟨#[]⟩)).setCell ⟨bw, 5, none⟩ x) := fun B hl => c_st6 (Below.refl B W7) hl
  generalize ((((((W7.setCell ⟨bw, 0, none⟩ (.int .i64 64)).setCell ⟨bw, 1, none⟩ (.int .i64 na)).setCell ⟨bw, 2, none⟩ (.int .i64 0)).setCell ⟨bw, 3, none⟩ (.int .i64 0)).setCell ⟨bw, 4, none⟩ (.string ⟨#[]⟩)).setCell ⟨bw, 5, none⟩ x) = W8 at hW h5 hz hn hB
  subst hW
  simp only [x_drew]
  refine ⟨?_, ?_, ?_, ?_, ?_⟩
  · rw [Below.heap_alloc _ _ bw (by rw [hz]; exact hb)]
    exact h5.trans (by simp)
  · have := heap_alloc_new W8 (.cells C 27)
    rw [hz] at this
    exact this
  · intro b hb2 hne
    rw [Below.heap_alloc _ _ b (by rw [hz]; exact hb2)]
    exact hn b hne
  · rw [World.size_alloc, hz]
  · intro B hl
    exact c_thr (hB B hl) (c_box W8 _).drew (by rw [hz]; omega)
set_option linter.unusedVariables false in
set_option maxRecDepth 100000 in
set_option maxHeartbeats 4000000 in
theorem rest_false (len lc i : Nat) (x : Tr) (xo : Option Addr) (xc d : Nat) (w : World) (hlen : len ≤ 100000) (hi : i < len) (hd : d ≤ 100000) (na : Int) (lb lf : Nat) (hlb : lb < w.heap.size) (hna : w.cell? ⟨lb, lf + i * 6 + 1, none⟩ = some (.int .i64 na)) (h200 : ¬ 200 < d) (hl : i + 1 = len) (Q : Ending → World → Prop) (HE : Hid (∀ W : World, Below w.heap.size w W → w.heap.size + 2 ≤ W.heap.size → Calls Try.prog 24 #[.agg #[.int .i64 x.op, .int .i64 x.a, .int .i64 x.n, .int .i64 x.m, .string x.s, .slice xo x.ks.length xc], .int .i64 ((d : Int) + 1), .bool false] W (fun e w5 => ∃ (y p0 p1 p2 p3 : Int) (p4 : ByteArray) (po : Option Addr) (pl pc : Nat), e = .returned (.tuple #[.agg #[.int .i64 p0, .int .i64 p1, .int .i64 p2, .int .i64 p3, .string p4, .slice po pl pc], .int .i64 y]) ∧ Below W.heap.size W w5 ∧ ∀ e2 w2, RestPost w w5 na y p0 p1 p2 p3 p4 po pl pc e2 w2 → Q e2 w2))) : Calls Try.prog 43 #[.slice (some ⟨lb, lf, none⟩) len lc, .int .i64 i, .agg #[.int .i64 x.op, .int .i64 x.a, .int .i64 x.n, .int .i64 x.m, .string x.s, .slice xo x.ks.length xc], .int .i64 1, .bool false, .int .i64 d] w Q := by
  have g1 : decide ((200 : Int) < (d : Int)) = false := decide_eq_false (by omega)
  have g2 : ((i : Int) != (len : Int) - 1) = false := by simp only [bne_eq_false_iff_eq]; omega
  have g3 : ((1 : Int) != 1) = false := rfl
  have hi0 : (i : Int) < (len : Int) := by omega
  have HNA := Lib.hid hna
  have HLB := Lib.hid hlb
  clear hl hna
  obtain ⟨W2, hW2⟩ : ∃ W2, W2 = (w.alloc (.cells #[.int .i64 x.op, .int .i64 x.a, .int .i64 x.n, .int .i64 x.m, .string x.s, .slice xo x.ks.length xc] 27)).alloc (.cells #[.int .i64 0, .int .i64 0, .int .i64 0, .int .i64 0, .string ⟨#[]⟩, .slice none 0 0] 27) := ⟨_, rfl⟩
  have hB2 : Below w.heap.size w W2 := by rw [hW2]; exact c_box2 w _ _
  have hbox : W2.heap[w.heap.size]? = some (.cells #[.int .i64 x.op, .int .i64 x.a, .int .i64 x.n, .int .i64 x.m, .string x.s, .slice xo x.ks.length xc] 27 (0, 0)) := by rw [hW2]; exact c_new1 w _ _
  have hres : W2.heap[w.heap.size + 1]? = some (.cells #[.int .i64 0, .int .i64 0, .int .i64 0, .int .i64 0, .string ⟨#[]⟩, .slice none 0 0] 27 (0, 0)) := by rw [hW2]; exact c_new2 w _ _
  obtain ⟨⟨b0, b1, b2, b3, b4, b5⟩, -, hxl⟩ := c_six hbox
  obtain ⟨⟨r0, r1, r2, r3, r4, r5⟩, ⟨q0, q1, q2, q3, q4, q5⟩, hrl⟩ := c_six hres
  have HW := Lib.hid hW2
  have HB := Lib.hid hB2
  have HBR := Lib.hid (And.intro hbox hres)
  clear hW2 hB2 hbox hres
  have HZ2 := Lib.hid (show w.heap.size + 2 ≤ W2.heap.size from hrl)
  go_enter Try.func43, Try.ntmps43
  go_upto_region 1 with fail
  rw [← HW.out]
  go_wp2_with fail
  have HBq := Lib.hid (And.intro (Below.refl W2.heap.size W2) HB.out)
  refine (HE.out _ HB.out (by have := HZ2.out; omega)).mono ?_
  rintro e w5 ⟨y, p0, p1, p2, p3, p4, po, pl, pc, rfl, hB5, hQ⟩
  have hB5w := c_thr HBq.out.2 hB5 HBq.out.2.size
  have hB5q := c_thr HBq.out.1 hB5 HBq.out.1.size
  obtain ⟨W7, hW7⟩ : ∃ W7, W7 = w5.alloc (.cells #[.int .i64 p0, .int .i64 p1, .int .i64 p2, .int .i64 p3, .string p4, .slice po pl pc] 27) := ⟨_, rfl⟩
  have hB7 : Below w5.heap.size w5 W7 := by rw [hW7]; exact c_box w5 _
  have hn7 : W7.heap[w5.heap.size]? = some (.cells #[.int .i64 p0, .int .i64 p1, .int .i64 p2, .int .i64 p3, .string p4, .slice po pl pc] 27 (0, 0)) := by rw [hW7]; exact heap_alloc_new w5 _
  have hz7 : W7.heap.size = w5.heap.size + 1 := by rw [hW7]; simp
  have hB27 := c_thr hB5q hB7 hB5q.size
  have hres7 := c_kept hB27 (c_lt HBR.out.2) HBR.out.2
  have hna7 : W7.cell? ⟨lb, lf + i * 6 + 1, none⟩ = some (.int .i64 na) := ((c_thr hB5w hB7 hB5w.size).cell (p := ⟨lb, lf + i * 6 + 1, none⟩) HLB.out).trans HNA.out
  obtain ⟨bp, hbp⟩ : ∃ bp, bp = w5.heap.size := ⟨_, rfl⟩
  have HW7 := Lib.hid hW7
  have HX := Lib.hid (And.intro hB5w (And.intro hB7 (And.intro hz7 (And.intro hB5q hQ))))
  have HRS := Lib.hid hres7
  have HN7 := Lib.hid hn7
  have HA7 := Lib.hid hna7
  have HBP := Lib.hid hbp
  have hlb7 : lb < W7.heap.size := by have := HLB.out; have := hB5w.size; omega
  have hbp7 : bp < W7.heap.size := by omega
  clear hB5 hB5w hB5q hW7 hB7 hn7 hz7 hB27 hres7 hna7 hQ b0 b1 b2 b3 b4 b5 hxl r0 r1 r2 r3 r4 r5 q0 q1 q2 q3 q4 q5 hrl
  go_upto_region 10 with fail
  rw [← HW7.out, ← HBP.out]
  clear hbp
  have hS0 : W7.drew.cell? ⟨lb, lf + i * 6 + 1, none⟩ = some (.int .i64 na) ∧ W7.drew.cell? ⟨bp, 0, none⟩ = some (.int .i64 p0) ∧ W7.drew.cell? ⟨bp, 1, none⟩ = some (.int .i64 p1) ∧ W7.drew.cell? ⟨bp, 2, none⟩ = some (.int .i64 p2) ∧ W7.drew.cell? ⟨bp, 3, none⟩ = some (.int .i64 p3) ∧ W7.drew.cell? ⟨bp, 4, none⟩ = some (.string p4) ∧ W7.drew.cell? ⟨bp, 5, none⟩ = some (.slice po pl pc) := ⟨HA7.out, (c_six (w := W7.drew) (by rw [HBP.out]; exact HN7.out)).1⟩
  have hSA : (W7.alloc (.cells #[.int .i64 p0, .int .i64 p1, .int .i64 p2, .int .i64 p3, .string p4, .slice po pl pc] 27)).drew.cell? ⟨lb, lf + i * 6 + 1, none⟩ = some (.int .i64 na) ∧ (W7.alloc (.cells #[.int .i64 p0, .int .i64 p1, .int .i64 p2, .int .i64 p3, .string p4, .slice po pl pc] 27)).drew.cell? ⟨bp, 0, none⟩ = some (.int .i64 p0) ∧ (W7.alloc (.cells #[.int .i64 p0, .int .i64 p1, .int .i64 p2, .int .i64 p3, .string p4, .slice po pl pc] 27)).drew.cell? ⟨bp, 1, none⟩ = some (.int .i64 p1) ∧ (W7.alloc (.cells #[.int .i64 p0, .int .i64 p1, .int .i64 p2, .int .i64 p3, .string p4, .slice po pl pc] 27)).drew.cell? ⟨bp, 2, none⟩ = some (.int .i64 p2) ∧ (W7.alloc (.cells #[.int .i64 p0, .int .i64 p1, .int .i64 p2, .int .i64 p3, .string p4, .slice po pl pc] 27)).drew.cell? ⟨bp, 3, none⟩ = some (.int .i64 p3) ∧ (W7.alloc (.cells #[.int .i64 p0, .int .i64 p1, .int .i64 p2, .int .i64 p3, .string p4, .slice po pl pc] 27)).drew.cell? ⟨bp, 4, none⟩ = some (.string p4) ∧ (W7.alloc (.cells #[.int .i64 p0, .int .i64 p1, .int .i64 p2, .int .i64 p3, .string p4, .slice po pl pc] 27)).drew.cell? ⟨bp, 5, none⟩ = some (.slice po pl pc) := ⟨((c_box W7 (.cells #[.int .i64 p0, .int .i64 p1, .int .i64 p2, .int .i64 p3, .string p4, .slice po pl pc] 27)).drew.cell (p := ⟨lb, lf + i * 6 + 1, none⟩) hlb7).trans HA7.out, (c_six (c_kept (c_box W7 (.cells #[.int .i64 p0, .int .i64 p1, .int .i64 p2, .int .i64 p3, .string p4, .slice po pl pc] 27)).drew (c_lt HN7.out) HN7.out) |> fun h => by rw [HBP.out]; exact h.1)⟩
  have hrA : (W7.alloc (.cells #[.int .i64 p0, .int .i64 p1, .int .i64 p2, .int .i64 p3, .string p4, .slice po pl pc] 27)).drew.heap[w.heap.size + 1]? = some (.cells #[.int .i64 0, .int .i64 0, .int .i64 0, .int .i64 0, .string ⟨#[]⟩, .slice none 0 0] 27 (0, 0)) := c_kept (c_box W7 (.cells #[.int .i64 p0, .int .i64 p1, .int .i64 p2, .int .i64 p3, .string p4, .slice po pl pc] 27)).drew (c_lt HRS.out) HRS.out
  obtain ⟨⟨r0, r1, r2, r3, r4, r5⟩, ⟨q0, q1, q2, q3, q4, q5⟩, hrl⟩ := c_six hrA
  have HRA := Lib.hid hrA
  obtain ⟨⟨m0, m1, m2, m3, m4, m5⟩, ⟨k0, k1, k2, k3, k4, k5⟩, hml⟩ := c_six HRS.out
  have hne1 : ¬ lb = w.heap.size + 1 := by have := HLB.out; omega
  have hne2 : ¬ bp = w.heap.size + 1 := by have := HBP.out; have := HX.out.1.size; have := HX.out.2.2.2.1.size; have := HZ2.out; omega
  clear hrA
  go_region
  generalize hW9 : (((((((W7.setCell ⟨w.heap.size + 1, 0, none⟩ (.int .i64 64)).setCell ⟨w.heap.size + 1, 1, none⟩ (.int .i64 na)).setCell ⟨w.heap.size + 1, 2, none⟩ (.int .i64 0)).setCell ⟨w.heap.size + 1, 3, none⟩ (.int .i64 0)).setCell ⟨w.heap.size + 1, 4, none⟩ (.string ⟨#[]⟩)).setCell ⟨w.heap.size + 1, 5, none⟩ (.slice (some ⟨W7.heap.size, 0, none⟩) 1 1)).alloc (.cells #[.int .i64 p0, .int .i64 p1, .int .i64 p2, .int .i64 p3, .string p4, .slice po pl pc] 27)).drew = W9
  obtain ⟨e0, e1, e2, e3, e4⟩ := rest_end hW9 HRS.out
  obtain ⟨⟨t0, t1, t2, t3, t4, t5⟩, -, htl⟩ := c_six e0
  have HE9 := Lib.hid (And.intro e1 (And.intro e2 (And.intro e3 e4)))
  clear e0 e1 e2 e3 e4 hW9
  go_wp2
  refine bodyPost_ret (v := .tuple #[.agg #[.int .i64 64, .int .i64 na, .int .i64 0, .int .i64 0, .string ⟨#[]⟩, .slice (some ⟨W7.heap.size, 0, none⟩) 1 1], .int .i64 y]) (by simp [results, Try.results43, go_sem, t0, t1, t2, t3, t4, t5]) rfl ?_
  have h7 : W7.heap.size = w5.heap.size + 1 := HX.out.2.2.1
  refine HX.out.2.2.2.2 _ _ ⟨W7.heap.size, rfl, by omega, HE9.out.1, fun b hb hn => ?_, ?_, ?_⟩
  · exact (HE9.out.2.1 b (by omega) hn).trans (HX.out.2.1.block b hb)
  · have := HE9.out.2.2.1; omega
  · exact (c_thr HX.out.1 HX.out.2.1 HX.out.1.size).trans (HE9.out.2.2.2 w.heap.size (by omega))
set_option linter.unusedVariables false in
set_option maxRecDepth 100000 in
set_option maxHeartbeats 4000000 in
theorem rest_true (len lc i : Nat) (x : Tr) (xo : Option Addr) (xc d : Nat) (w : World) (hlen : len ≤ 100000) (hi : i < len) (hd : d ≤ 100000) (na : Int) (lb lf : Nat) (hlb : lb < w.heap.size) (hna : w.cell? ⟨lb, lf + i * 6 + 1, none⟩ = some (.int .i64 na)) (h200 : ¬ 200 < d) (hl : i + 1 = len) (h201 : ¬ 200 < d + 1) (hx : tgtB x = true) (Q : Ending → World → Prop) (HE : Hid (∀ W : World, Below w.heap.size w W → w.heap.size + 2 ≤ W.heap.size → Calls Try.prog 24 #[.agg #[.int .i64 x.op, .int .i64 x.a, .int .i64 x.n, .int .i64 x.m, .string x.s, .slice xo x.ks.length xc], .int .i64 ((d : Int) + 1), .bool false] W (fun e w5 => ∃ (y p0 p1 p2 p3 : Int) (p4 : ByteArray) (po : Option Addr) (pl pc : Nat), e = .returned (.tuple #[.agg #[.int .i64 p0, .int .i64 p1, .int .i64 p2, .int .i64 p3, .string p4, .slice po pl pc], .int .i64 y]) ∧ Below W.heap.size W w5 ∧ ∀ e2 w2, RestPost w w5 na y p0 p1 p2 p3 p4 po pl pc e2 w2 → Q e2 w2))) : Calls Try.prog 43 #[.slice (some ⟨lb, lf, none⟩) len lc, .int .i64 i, .agg #[.int .i64 x.op, .int .i64 x.a, .int .i64 x.n, .int .i64 x.m, .string x.s, .slice xo x.ks.length xc], .int .i64 1, .bool true, .int .i64 d] w Q := by
  have g1 : decide ((200 : Int) < (d : Int)) = false := decide_eq_false (by omega)
  have g2 : ((i : Int) != (len : Int) - 1) = false := by simp only [bne_eq_false_iff_eq]; omega
  have g3 : ((1 : Int) != 1) = false := rfl
  have g4 : decide ((200 : Int) < (d : Int) + 1) = false := decide_eq_false (by omega)
  have HM := Lib.hid (fun W => rtarget_any x xo x.ks.length xc W)
  rw [hx] at HM
  clear hx
  have hi0 : (i : Int) < (len : Int) := by omega
  have HNA := Lib.hid hna
  have HLB := Lib.hid hlb
  clear hl hna
  obtain ⟨W2, hW2⟩ : ∃ W2, W2 = (w.alloc (.cells #[.int .i64 x.op, .int .i64 x.a, .int .i64 x.n, .int .i64 x.m, .string x.s, .slice xo x.ks.length xc] 27)).alloc (.cells #[.int .i64 0, .int .i64 0, .int .i64 0, .int .i64 0, .string ⟨#[]⟩, .slice none 0 0] 27) := ⟨_, rfl⟩
  have hB2 : Below w.heap.size w W2 := by rw [hW2]; exact c_box2 w _ _
  have hbox : W2.heap[w.heap.size]? = some (.cells #[.int .i64 x.op, .int .i64 x.a, .int .i64 x.n, .int .i64 x.m, .string x.s, .slice xo x.ks.length xc] 27 (0, 0)) := by rw [hW2]; exact c_new1 w _ _
  have hres : W2.heap[w.heap.size + 1]? = some (.cells #[.int .i64 0, .int .i64 0, .int .i64 0, .int .i64 0, .string ⟨#[]⟩, .slice none 0 0] 27 (0, 0)) := by rw [hW2]; exact c_new2 w _ _
  obtain ⟨⟨b0, b1, b2, b3, b4, b5⟩, -, hxl⟩ := c_six hbox
  obtain ⟨⟨r0, r1, r2, r3, r4, r5⟩, ⟨q0, q1, q2, q3, q4, q5⟩, hrl⟩ := c_six hres
  have HW := Lib.hid hW2
  have HB := Lib.hid hB2
  have HBR := Lib.hid (And.intro hbox hres)
  clear hW2 hB2 hbox hres
  have HZ2 := Lib.hid (show w.heap.size + 2 ≤ W2.heap.size from hrl)
  go_enter Try.func43, Try.ntmps43
  go_upto_region 1 with fail
  rw [← HW.out]
  go_wp2_with fail
  refine (HM.out _).mono ?_
  rintro e w4 ⟨rfl, hB4⟩
  obtain ⟨⟨r0, r1, r2, r3, r4, r5⟩, ⟨q0, q1, q2, q3, q4, q5⟩, hrl⟩ := c_six (c_kept hB4 (c_lt HBR.out.2) HBR.out.2)
  obtain ⟨⟨b0, b1, b2, b3, b4, b5⟩, -, hxl⟩ := c_six (c_kept hB4 (c_lt HBR.out.1) HBR.out.1)
  have HBq := Lib.hid (And.intro hB4 (c_thr HB.out hB4 HB.out.size))
  have HZ4 := Lib.hid (Nat.le_trans HZ2.out hB4.size)
  clear hB4
  go_wp2_with fail
  refine (HE.out _ HBq.out.2 HZ4.out).mono ?_
  rintro e w5 ⟨y, p0, p1, p2, p3, p4, po, pl, pc, rfl, hB5, hQ⟩
  have hB5w := c_thr HBq.out.2 hB5 HBq.out.2.size
  have hB5q := c_thr HBq.out.1 hB5 HBq.out.1.size
  obtain ⟨W7, hW7⟩ : ∃ W7, W7 = w5.alloc (.cells #[.int .i64 p0, .int .i64 p1, .int .i64 p2, .int .i64 p3, .string p4, .slice po pl pc] 27) := ⟨_, rfl⟩
  have hB7 : Below w5.heap.size w5 W7 := by rw [hW7]; exact c_box w5 _
  have hn7 : W7.heap[w5.heap.size]? = some (.cells #[.int .i64 p0, .int .i64 p1, .int .i64 p2, .int .i64 p3, .string p4, .slice po pl pc] 27 (0, 0)) := by rw [hW7]; exact heap_alloc_new w5 _
  have hz7 : W7.heap.size = w5.heap.size + 1 := by rw [hW7]; simp
  have hB27 := c_thr hB5q hB7 hB5q.size
  have hres7 := c_kept hB27 (c_lt HBR.out.2) HBR.out.2
  have hna7 : W7.cell? ⟨lb, lf + i * 6 + 1, none⟩ = some (.int .i64 na) := ((c_thr hB5w hB7 hB5w.size).cell (p := ⟨lb, lf + i * 6 + 1, none⟩) HLB.out).trans HNA.out
  obtain ⟨bp, hbp⟩ : ∃ bp, bp = w5.heap.size := ⟨_, rfl⟩
  have HW7 := Lib.hid hW7
  have HX := Lib.hid (And.intro hB5w (And.intro hB7 (And.intro hz7 (And.intro hB5q hQ))))
  have HRS := Lib.hid hres7
  have HN7 := Lib.hid hn7
  have HA7 := Lib.hid hna7
  have HBP := Lib.hid hbp
  have hlb7 : lb < W7.heap.size := by have := HLB.out; have := hB5w.size; omega
  have hbp7 : bp < W7.heap.size := by omega
  clear hB5 hB5w hB5q hW7 hB7 hn7 hz7 hB27 hres7 hna7 hQ b0 b1 b2 b3 b4 b5 hxl r0 r1 r2 r3 r4 r5 q0 q1 q2 q3 q4 q5 hrl
  go_upto_region 10 with fail
  rw [← HW7.out, ← HBP.out]
  clear hbp
  have hS0 : W7.drew.cell? ⟨lb, lf + i * 6 + 1, none⟩ = some (.int .i64 na) ∧ W7.drew.cell? ⟨bp, 0, none⟩ = some (.int .i64 p0) ∧ W7.drew.cell? ⟨bp, 1, none⟩ = some (.int .i64 p1) ∧ W7.drew.cell? ⟨bp, 2, none⟩ = some (.int .i64 p2) ∧ W7.drew.cell? ⟨bp, 3, none⟩ = some (.int .i64 p3) ∧ W7.drew.cell? ⟨bp, 4, none⟩ = some (.string p4) ∧ W7.drew.cell? ⟨bp, 5, none⟩ = some (.slice po pl pc) := ⟨HA7.out, (c_six (w := W7.drew) (by rw [HBP.out]; exact HN7.out)).1⟩
  have hSA : (W7.alloc (.cells #[.int .i64 p0, .int .i64 p1, .int .i64 p2, .int .i64 p3, .string p4, .slice po pl pc] 27)).drew.cell? ⟨lb, lf + i * 6 + 1, none⟩ = some (.int .i64 na) ∧ (W7.alloc (.cells #[.int .i64 p0, .int .i64 p1, .int .i64 p2, .int .i64 p3, .string p4, .slice po pl pc] 27)).drew.cell? ⟨bp, 0, none⟩ = some (.int .i64 p0) ∧ (W7.alloc (.cells #[.int .i64 p0, .int .i64 p1, .int .i64 p2, .int .i64 p3, .string p4, .slice po pl pc] 27)).drew.cell? ⟨bp, 1, none⟩ = some (.int .i64 p1) ∧ (W7.alloc (.cells #[.int .i64 p0, .int .i64 p1, .int .i64 p2, .int .i64 p3, .string p4, .slice po pl pc] 27)).drew.cell? ⟨bp, 2, none⟩ = some (.int .i64 p2) ∧ (W7.alloc (.cells #[.int .i64 p0, .int .i64 p1, .int .i64 p2, .int .i64 p3, .string p4, .slice po pl pc] 27)).drew.cell? ⟨bp, 3, none⟩ = some (.int .i64 p3) ∧ (W7.alloc (.cells #[.int .i64 p0, .int .i64 p1, .int .i64 p2, .int .i64 p3, .string p4, .slice po pl pc] 27)).drew.cell? ⟨bp, 4, none⟩ = some (.string p4) ∧ (W7.alloc (.cells #[.int .i64 p0, .int .i64 p1, .int .i64 p2, .int .i64 p3, .string p4, .slice po pl pc] 27)).drew.cell? ⟨bp, 5, none⟩ = some (.slice po pl pc) := ⟨((c_box W7 (.cells #[.int .i64 p0, .int .i64 p1, .int .i64 p2, .int .i64 p3, .string p4, .slice po pl pc] 27)).drew.cell (p := ⟨lb, lf + i * 6 + 1, none⟩) hlb7).trans HA7.out, (c_six (c_kept (c_box W7 (.cells #[.int .i64 p0, .int .i64 p1, .int .i64 p2, .int .i64 p3, .string p4, .slice po pl pc] 27)).drew (c_lt HN7.out) HN7.out) |> fun h => by rw [HBP.out]; exact h.1)⟩
  have hrA : (W7.alloc (.cells #[.int .i64 p0, .int .i64 p1, .int .i64 p2, .int .i64 p3, .string p4, .slice po pl pc] 27)).drew.heap[w.heap.size + 1]? = some (.cells #[.int .i64 0, .int .i64 0, .int .i64 0, .int .i64 0, .string ⟨#[]⟩, .slice none 0 0] 27 (0, 0)) := c_kept (c_box W7 (.cells #[.int .i64 p0, .int .i64 p1, .int .i64 p2, .int .i64 p3, .string p4, .slice po pl pc] 27)).drew (c_lt HRS.out) HRS.out
  obtain ⟨⟨r0, r1, r2, r3, r4, r5⟩, ⟨q0, q1, q2, q3, q4, q5⟩, hrl⟩ := c_six hrA
  have HRA := Lib.hid hrA
  obtain ⟨⟨m0, m1, m2, m3, m4, m5⟩, ⟨k0, k1, k2, k3, k4, k5⟩, hml⟩ := c_six HRS.out
  have hne1 : ¬ lb = w.heap.size + 1 := by have := HLB.out; omega
  have hne2 : ¬ bp = w.heap.size + 1 := by have := HBP.out; have := HX.out.1.size; have := HX.out.2.2.2.1.size; have := HZ2.out; omega
  clear hrA
  go_region
  generalize hW9 : (((((((W7.setCell ⟨w.heap.size + 1, 0, none⟩ (.int .i64 64)).setCell ⟨w.heap.size + 1, 1, none⟩ (.int .i64 na)).setCell ⟨w.heap.size + 1, 2, none⟩ (.int .i64 0)).setCell ⟨w.heap.size + 1, 3, none⟩ (.int .i64 0)).setCell ⟨w.heap.size + 1, 4, none⟩ (.string ⟨#[]⟩)).setCell ⟨w.heap.size + 1, 5, none⟩ (.slice (some ⟨W7.heap.size, 0, none⟩) 1 1)).alloc (.cells #[.int .i64 p0, .int .i64 p1, .int .i64 p2, .int .i64 p3, .string p4, .slice po pl pc] 27)).drew = W9
  obtain ⟨e0, e1, e2, e3, e4⟩ := rest_end hW9 HRS.out
  obtain ⟨⟨t0, t1, t2, t3, t4, t5⟩, -, htl⟩ := c_six e0
  have HE9 := Lib.hid (And.intro e1 (And.intro e2 (And.intro e3 e4)))
  clear e0 e1 e2 e3 e4 hW9
  go_wp2
  refine bodyPost_ret (v := .tuple #[.agg #[.int .i64 64, .int .i64 na, .int .i64 0, .int .i64 0, .string ⟨#[]⟩, .slice (some ⟨W7.heap.size, 0, none⟩) 1 1], .int .i64 y]) (by simp [results, Try.results43, go_sem, t0, t1, t2, t3, t4, t5]) rfl ?_
  have h7 : W7.heap.size = w5.heap.size + 1 := HX.out.2.2.1
  refine HX.out.2.2.2.2 _ _ ⟨W7.heap.size, rfl, by omega, HE9.out.1, fun b hb hn => ?_, ?_, ?_⟩
  · exact (HE9.out.2.1 b (by omega) hn).trans (HX.out.2.1.block b hb)
  · have := HE9.out.2.2.1; omega
  · exact (c_thr HX.out.1 HX.out.2.1 HX.out.1.size).trans (HE9.out.2.2.2 w.heap.size (by omega))
end Go.Proofs.Ytjnlifghobgkcaa
