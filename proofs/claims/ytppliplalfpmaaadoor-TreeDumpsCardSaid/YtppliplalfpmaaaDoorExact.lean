/-
  Exact of the reference at this translation: two equal trees.
-/
import Derived.Test.YtppliplalfpmaaaDoorDepth
namespace Go.Proofs.YtppliplalfpmaaaDoor
open Go.RowKit

theorem ks_le {t : Tr} {f : Nat} (h : t.cnt ≤ f) (hf : f ≤ 100000) : t.ks.length ≤ 100000 := by
  have := cntL_len t.ks
  obtain ⟨op, a, n, m, s, ks⟩ := t
  have h2 : ks.length ≤ cntL ks := cntL_len ks
  unfold Tr.cnt at h
  show ks.length ≤ 100000
  omega
theorem kid0 {w : World} {t x : Tr} {ao : Option Addr} {len cap i : Nat} (h : TIn w All t (.slice ao len cap)) (hx : t.ks[i]? = some x) : ∃ b o xo xl xc, ao = some ⟨b, o, none⟩ ∧ b < w.heap.size ∧ NCells w b (o + i * 6) x (.slice xo xl xc) ∧ TIn w All x (.slice xo xl xc) := by
  obtain ⟨ao', cap', e, _, _, h3⟩ := tin_open h
  obtain ⟨rfl, -, -⟩ : ao = ao' ∧ len = t.ks.length ∧ cap = cap' := by simpa using e
  obtain ⟨b, o, kx, ea, hb, _, hc, ht⟩ := h3 i x hx
  obtain ⟨xo, xl, xc, rfl⟩ := tin_slice ht
  exact ⟨b, o, xo, xl, xc, ea, hb, hc, ht⟩
def RelSame (w : World) (len : Nat) (i : Value) (wr : World) : Prop := ∃ k : Nat, i = .int .i64 k ∧ k ≤ len ∧ Below w.heap.size w wr
set_option linter.unusedVariables false in
set_option maxRecDepth 100000 in
set_option maxHeartbeats 1000000 in
theorem exact_any : ∀ (N : Nat) (t : Tr) (ao ao2 : Option Addr) (cap cap2 : Nat) (w : World), t.cnt ≤ N → N ≤ 100000 → TIn w All t (.slice ao t.ks.length cap) → TIn w All t (.slice ao2 t.ks.length cap2) →
    Calls Tryd.prog 14 #[.agg #[.int .i64 t.op, .int .i64 t.a, .int .i64 t.n, .int .i64 t.m, .string t.s, .slice ao t.ks.length cap], .agg #[.int .i64 t.op, .int .i64 t.a, .int .i64 t.n, .int .i64 t.m, .string t.s, .slice ao2 t.ks.length cap2]] w (BPost w true) := by
  intro N
  induction N with
  | zero => intro t ao ao2 cap cap2 w h; have := cnt_pos t; omega
  | succ N ih =>
    intro t ao ao2 cap cap2 w hN hN2 ht1 ht2
    have hks := ks_le hN hN2
    have HT := Lib.hid (And.intro ht1 ht2)
    have HI := Lib.hid (fun (x : Tr) (a1 a2 : Option Addr) (p1 p2 : Nat) (W : World) (hx : x.cnt ≤ N) => ih x a1 a2 p1 p2 W hx (by omega))
    have HKL := Lib.hid (fun (i : Nat) (x : Tr) (hx : t.ks[i]? = some x) => (by have := cnt_kid hx; omega : x.cnt ≤ N))
    clear ih ht1 ht2
    obtain ⟨ks, hke⟩ : ∃ ks, ks = t.ks := ⟨_, rfl⟩
    obtain ⟨len, hle⟩ : ∃ len, len = t.ks.length := ⟨_, rfl⟩
    have HLE := Lib.hid (And.intro hke hle)
    rw [← hle] at hks HT ⊢
    clear hke hle
    go_enter Tryd.func14, Tryd.ntmps14
    go_upto_region 3 with fail
    obtain ⟨W0, hW0⟩ : ∃ W0, W0 = ((w.alloc (.cells #[.int .i64 t.op, .int .i64 t.a, .int .i64 t.n, .int .i64 t.m, .string t.s, .slice ao len cap] 24)).alloc (.cells #[.int .i64 t.op, .int .i64 t.a, .int .i64 t.n, .int .i64 t.m, .string t.s, .slice ao2 len cap2] 24)) := ⟨_, rfl⟩
    rw [← hW0]
    have hB0 : Below w.heap.size w W0 := by rw [hW0]; exact c_box2 w _ _
    have hz0 : w.heap.size + 2 ≤ W0.heap.size := by rw [hW0]; simp
    have h01 : W0.heap[w.heap.size]? = some (.cells #[.int .i64 t.op, .int .i64 t.a, .int .i64 t.n, .int .i64 t.m, .string t.s, .slice ao len cap] 24 (0, 0)) := by rw [hW0]; exact c_new1 w _ _
    have h02 : W0.heap[w.heap.size + 1]? = some (.cells #[.int .i64 t.op, .int .i64 t.a, .int .i64 t.n, .int .i64 t.m, .string t.s, .slice ao2 len cap2] 24 (0, 0)) := by rw [hW0]; exact c_new2 w _ _
    have HX := Lib.hid (And.intro hB0 (And.intro hz0 (And.intro h01 h02)))
    clear hW0 hB0 hz0 h01 h02
    go_wp2
    go_loopw [5] (fun i wr => RelSame W0 len i wr) (fun i _ => len - natOf i)
    case atStart => exact ⟨0, rfl, Nat.zero_le _, Below.refl _ _⟩
    case round =>
      obtain ⟨k, rfl, hk, hB⟩ := hrel
      have hwz : w.heap.size + 2 ≤ wr.heap.size := Nat.le_trans HX.out.2.1 hB.size
      have hB1 : Below w.heap.size w wr := c_thr HX.out.1 hB HX.out.1.size
      have hb1 := c_kept hB (c_lt HX.out.2.2.1) HX.out.2.2.1
      have hb2 := c_kept hB (c_lt HX.out.2.2.2) HX.out.2.2.2
      have d5 : wr.cell? ⟨w.heap.size, 5, none⟩ = some (.slice ao len cap) := (c_six hb1).1.2.2.2.2.2
      have e5 : wr.cell? ⟨w.heap.size + 1, 5, none⟩ = some (.slice ao2 len cap2) := (c_six hb2).1.2.2.2.2.2
      have hl1 : w.heap.size < wr.heap.size := by omega
      have hl2 : w.heap.size + 1 < wr.heap.size := by omega
      by_cases hkl : k < len
      · have g1 : decide ((k : Int) < (len : Int)) = true := decide_eq_true (by omega)
        obtain ⟨x, hx⟩ : ∃ x, t.ks[k]? = some x := ⟨_, List.getElem?_eq_getElem (by rw [← HLE.out.2]; exact hkl)⟩
        have hxc := HKL.out k x hx
        obtain ⟨b1, o1, xo, xl, xc, ea1, hbb1, hc1, hx1⟩ := kid0 HT.out.1 hx
        obtain ⟨b2, o2, yo, yl, yc, ea2, hbb2, hc2, hx2⟩ := kid0 HT.out.2 hx
        subst ea1
        subst ea2
        have hc1' := ncells_kept (hB1.block b1 hbb1) hc1
        have hc2' := ncells_kept (hB1.block b2 hbb2) hc2
        obtain rfl := tin_len hx1
        obtain rfl := tin_len hx2
        have HK := Lib.hid (And.intro hc1' (And.intro hc2' (And.intro hb1 (And.intro hb2 (And.intro (tin_kept hx1 hB1) (tin_kept hx2 hB1))))))
        have HB := Lib.hid (And.intro hB hB1)
        have HL := Lib.hid (And.intro (Nat.lt_of_lt_of_le hbb1 hB1.size) (Nat.lt_of_lt_of_le hbb2 hB1.size))
        have hS0 : (wr.drew.cell? ⟨w.heap.size, 5, none⟩ = some (.slice (some ⟨b1, o1, none⟩) len cap) ∧ wr.drew.cell? ⟨w.heap.size + 1, 5, none⟩ = some (.slice (some ⟨b2, o2, none⟩) len cap2)) ∧ (wr.drew.cell? ⟨b1, o1 + k * 6, none⟩ = some (.int .i64 x.op) ∧ wr.drew.cell? ⟨b1, o1 + k * 6 + 1, none⟩ = some (.int .i64 x.a) ∧ wr.drew.cell? ⟨b1, o1 + k * 6 + 2, none⟩ = some (.int .i64 x.n) ∧ wr.drew.cell? ⟨b1, o1 + k * 6 + 3, none⟩ = some (.int .i64 x.m) ∧ wr.drew.cell? ⟨b1, o1 + k * 6 + 4, none⟩ = some (.string x.s) ∧ wr.drew.cell? ⟨b1, o1 + k * 6 + 5, none⟩ = some (.slice xo x.ks.length xc)) ∧ (wr.drew.cell? ⟨b2, o2 + k * 6, none⟩ = some (.int .i64 x.op) ∧ wr.drew.cell? ⟨b2, o2 + k * 6 + 1, none⟩ = some (.int .i64 x.a) ∧ wr.drew.cell? ⟨b2, o2 + k * 6 + 2, none⟩ = some (.int .i64 x.n) ∧ wr.drew.cell? ⟨b2, o2 + k * 6 + 3, none⟩ = some (.int .i64 x.m) ∧ wr.drew.cell? ⟨b2, o2 + k * 6 + 4, none⟩ = some (.string x.s) ∧ wr.drew.cell? ⟨b2, o2 + k * 6 + 5, none⟩ = some (.slice yo x.ks.length yc)) := ⟨⟨d5, e5⟩, hc1', hc2'⟩
        obtain ⟨c0, c1, c2, c3, c4, c5⟩ := hc1'
        obtain ⟨p0, p1, p2, p3, p4, p5⟩ := hc2'
        have hll1 := HL.out.1
        have hll2 := HL.out.2
        clear hc1 hc2 hx1 hx2 hB hB1 hb1 hb2 hx
        go_upto_region 6 with fail
        go_region_held3 (fun w' => (w'.cell? ⟨w.heap.size, 5, none⟩ = some (.slice (some ⟨b1, o1, none⟩) len cap) ∧ w'.cell? ⟨w.heap.size + 1, 5, none⟩ = some (.slice (some ⟨b2, o2, none⟩) len cap2)) ∧ (w'.cell? ⟨b1, o1 + k * 6, none⟩ = some (.int .i64 x.op) ∧ w'.cell? ⟨b1, o1 + k * 6 + 1, none⟩ = some (.int .i64 x.a) ∧ w'.cell? ⟨b1, o1 + k * 6 + 2, none⟩ = some (.int .i64 x.n) ∧ w'.cell? ⟨b1, o1 + k * 6 + 3, none⟩ = some (.int .i64 x.m) ∧ w'.cell? ⟨b1, o1 + k * 6 + 4, none⟩ = some (.string x.s) ∧ w'.cell? ⟨b1, o1 + k * 6 + 5, none⟩ = some (.slice xo x.ks.length xc)) ∧ (w'.cell? ⟨b2, o2 + k * 6, none⟩ = some (.int .i64 x.op) ∧ w'.cell? ⟨b2, o2 + k * 6 + 1, none⟩ = some (.int .i64 x.a) ∧ w'.cell? ⟨b2, o2 + k * 6 + 2, none⟩ = some (.int .i64 x.n) ∧ w'.cell? ⟨b2, o2 + k * 6 + 3, none⟩ = some (.int .i64 x.m) ∧ w'.cell? ⟨b2, o2 + k * 6 + 4, none⟩ = some (.string x.s) ∧ w'.cell? ⟨b2, o2 + k * 6 + 5, none⟩ = some (.slice yo x.ks.length yc))) (first | with_reducible assumption) (first
          | (go_at_call 14; refine (HI.out x _ _ _ _ _ hxc ?_ ?_).mono ?_; exact tin_all HK.out.2.2.2.2.1 (Below.refl _ _) rfl; exact tin_all HK.out.2.2.2.2.2 (Below.refl _ _) rfl; rintro e w9 ⟨rfl, hB9⟩; have hS2 : (w9.cell? ⟨w.heap.size, 5, none⟩ = some (.slice (some ⟨b1, o1, none⟩) len cap) ∧ w9.cell? ⟨w.heap.size + 1, 5, none⟩ = some (.slice (some ⟨b2, o2, none⟩) len cap2)) ∧ (w9.cell? ⟨b1, o1 + k * 6, none⟩ = some (.int .i64 x.op) ∧ w9.cell? ⟨b1, o1 + k * 6 + 1, none⟩ = some (.int .i64 x.a) ∧ w9.cell? ⟨b1, o1 + k * 6 + 2, none⟩ = some (.int .i64 x.n) ∧ w9.cell? ⟨b1, o1 + k * 6 + 3, none⟩ = some (.int .i64 x.m) ∧ w9.cell? ⟨b1, o1 + k * 6 + 4, none⟩ = some (.string x.s) ∧ w9.cell? ⟨b1, o1 + k * 6 + 5, none⟩ = some (.slice xo x.ks.length xc)) ∧ (w9.cell? ⟨b2, o2 + k * 6, none⟩ = some (.int .i64 x.op) ∧ w9.cell? ⟨b2, o2 + k * 6 + 1, none⟩ = some (.int .i64 x.a) ∧ w9.cell? ⟨b2, o2 + k * 6 + 2, none⟩ = some (.int .i64 x.n) ∧ w9.cell? ⟨b2, o2 + k * 6 + 3, none⟩ = some (.int .i64 x.m) ∧ w9.cell? ⟨b2, o2 + k * 6 + 4, none⟩ = some (.string x.s) ∧ w9.cell? ⟨b2, o2 + k * 6 + 5, none⟩ = some (.slice yo x.ks.length yc)) := ⟨⟨(hB9.cell (p := ⟨w.heap.size, 5, none⟩) hl1).trans d5, (hB9.cell (p := ⟨w.heap.size + 1, 5, none⟩) hl2).trans e5⟩, ncells_kept (hB9.block b1 HL.out.1) HK.out.1, ncells_kept (hB9.block b2 HL.out.2) HK.out.2.1⟩; have HB9 := Lib.hid hB9; clear hB9))
        go_wp2
        go_roundw
        case rel => exact ⟨k + 1, by go_num, by omega, c_thr HB.out.1.drew HB9.out HB.out.1.size⟩
        case measure => simp [natOf]; omega
      · have g1 : decide ((k : Int) < (len : Int)) = false := decide_eq_false (by omega)
        have HB := Lib.hid hB1
        clear hB hB1 hb1 hb2
        go_wp2
        go_ret
        exact ⟨rfl, HB.out⟩
end Go.Proofs.YtppliplalfpmaaaDoor
