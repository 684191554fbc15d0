/-
  Same at this translation, on any two trees: same_any.
-/
import Derived.Test.YtppliplalfpmaaaDoorRSame
namespace Go.Proofs.YtppliplalfpmaaaDoor
open Go.RowKit

set_option linter.unusedVariables false in
set_option maxRecDepth 100000 in
set_option maxHeartbeats 1000000 in
theorem same_any : ∀ (N : Nat) (t u : Tr) (ao ao2 : Option Addr) (cap cap2 : Nat) (w : World), t.cnt ≤ N → N ≤ 100000 → TIn w All t (.slice ao t.ks.length cap) → TIn w All u (.slice ao2 u.ks.length cap2) →
    Calls Tryd.prog 22 #[.agg #[.int .i64 t.op, .int .i64 t.a, .int .i64 t.n, .int .i64 t.m, .string t.s, .slice ao t.ks.length cap], .agg #[.int .i64 u.op, .int .i64 u.a, .int .i64 u.n, .int .i64 u.m, .string u.s, .slice ao2 u.ks.length cap2]] w (BPost w (sm t u)) := by
  intro N
  induction N with
  | zero => intro t u ao ao2 cap cap2 w h; have := cnt_pos t; omega
  | succ N ih =>
    intro t u ao ao2 cap cap2 w hN hN2 ht1 ht2
    have hks := ks_le hN hN2
    have HT := Lib.hid (And.intro ht1 ht2)
    have HI := Lib.hid (fun (x y : Tr) (a1 a2 : Option Addr) (p1 p2 : Nat) (W : World) (hx : x.cnt ≤ N) => ih x y a1 a2 p1 p2 W hx (by omega))
    have HKL := Lib.hid (fun (i : Nat) (x : Tr) (hx : t.ks[i]? = some x) => (by have := cnt_kid hx; omega : x.cnt ≤ N))
    clear ih ht1 ht2
    go_enter Tryd.func22, Tryd.ntmps22
    by_cases e1 : t.op = u.op
    case neg =>
      have g1 : decide (t.op = u.op) = false := decide_eq_false e1
      have hv : sm t u = false := by rw [sm_eq, g1]; simp
      go_wp2
      go_ret
      exact ⟨by rw [hv]; rfl, c_box2 w _ _⟩
    have g1 : decide (t.op = u.op) = true := decide_eq_true e1
    by_cases e2 : t.n = u.n
    case neg =>
      have g2 : decide (t.n = u.n) = false := decide_eq_false e2
      have hv : sm t u = false := by rw [sm_eq, g2]; simp
      go_wp2
      go_ret
      exact ⟨by rw [hv]; rfl, c_box2 w _ _⟩
    have g2 : decide (t.n = u.n) = true := decide_eq_true e2
    by_cases e3 : t.m = u.m
    case neg =>
      have g3 : decide (t.m = u.m) = false := decide_eq_false e3
      have hv : sm t u = false := by rw [sm_eq, g3]; simp
      go_wp2
      go_ret
      exact ⟨by rw [hv]; rfl, c_box2 w _ _⟩
    have g3 : decide (t.m = u.m) = true := decide_eq_true e3
    by_cases e4 : t.s = u.s
    case neg =>
      have e9 : ¬ t.s.toList = u.s.toList := fun h => e4 (ByteArray.ext (Array.toList_inj.mp ((ByteArray.toList_eq _).symm.trans (h.trans (ByteArray.toList_eq _)))))
      have g4 : decide (t.s = u.s) = false := decide_eq_false e4
      have hv : sm t u = false := by rw [sm_eq, g4]; simp
      go_wp2
      go_ret
      exact ⟨by rw [hv]; rfl, c_box2 w _ _⟩
    have g4 : decide (t.s = u.s) = true := decide_eq_true e4
    have HSM : sm t u = smL t.ks u.ks := by rw [sm_eq, g1, g2, g3, g4]; rfl
    by_cases e5 : t.ks.length = u.ks.length
    case neg =>
      have g5 : decide ((t.ks.length : Int) = (u.ks.length : Int)) = false := decide_eq_false (by omega)
      have hv : sm t u = false := by
        rw [HSM]
        cases h : smL t.ks u.ks with
        | false => rfl
        | true => exact absurd (smL_len h) e5
      go_wp2
      go_ret
      exact ⟨by rw [hv]; rfl, c_box2 w _ _⟩
    obtain ⟨len, hle⟩ : ∃ len, len = t.ks.length := ⟨_, rfl⟩
    have HLE := Lib.hid (And.intro hle (e5 ▸ hle : len = u.ks.length))
    have HSM2 := Lib.hid HSM
    rw [← e5, ← hle] at HT
    rw [← e5, ← hle]
    rw [← hle] at hks
    clear hle e5 HSM
    go_upto_region 3 with fail
    clear e1 e2 e3 e4 g1 g2 g3 g4
    obtain ⟨W0, hW0⟩ : ∃ W0, W0 = ((w.alloc (.cells #[.int .i64 u.op, .int .i64 t.a, .int .i64 u.n, .int .i64 u.m, .string u.s, .slice ao len cap] 24)).alloc (.cells #[.int .i64 u.op, .int .i64 u.a, .int .i64 u.n, .int .i64 u.m, .string u.s, .slice ao2 len cap2] 24)) := ⟨_, rfl⟩
    rw [← hW0]
    have hB0 : Below w.heap.size w W0 := by rw [hW0]; exact c_box2 w _ _
    have hz0 : w.heap.size + 2 ≤ W0.heap.size := by rw [hW0]; simp
    have h01 : W0.heap[w.heap.size]? = some (.cells #[.int .i64 u.op, .int .i64 t.a, .int .i64 u.n, .int .i64 u.m, .string u.s, .slice ao len cap] 24 (0, 0)) := by rw [hW0]; exact c_new1 w _ _
    have h02 : W0.heap[w.heap.size + 1]? = some (.cells #[.int .i64 u.op, .int .i64 u.a, .int .i64 u.n, .int .i64 u.m, .string u.s, .slice ao2 len cap2] 24 (0, 0)) := by rw [hW0]; exact c_new2 w _ _
    have HX := Lib.hid (And.intro hB0 (And.intro hz0 (And.intro h01 h02)))
    clear hW0 hB0 hz0 h01 h02
    have f5 : W0.cell? ⟨w.heap.size, 5, none⟩ = some (.slice ao len cap) := (c_six HX.out.2.2.1).1.2.2.2.2.2
    go_wp2
    go_loopw [45] (fun i wr => RelSm W0 t u len i wr) (fun i _ => len - natOf i)
    case atStart => exact ⟨0, rfl, Nat.zero_le _, Below.refl _ _, fun j x y h => absurd h (Nat.not_lt_zero j)⟩
    case round =>
      obtain ⟨k, rfl, hk, hB, hall⟩ := hrel
      have HA := Lib.hid hall
      clear hall
      have hwz : w.heap.size + 2 ≤ wr.heap.size := Nat.le_trans HX.out.2.1 hB.size
      have hB1 : Below w.heap.size w wr := c_thr HX.out.1 hB HX.out.1.size
      have hb2 := c_kept hB (c_lt HX.out.2.2.2) HX.out.2.2.2
      by_cases hkl : k < len
      · have g1 : decide ((k : Int) < (len : Int)) = true := decide_eq_true (by omega)
        have g2 : (k : Int) < (len : Int) := by omega
        obtain ⟨x, hx⟩ : ∃ x, t.ks[k]? = some x := ⟨_, List.getElem?_eq_getElem (by rw [← HLE.out.1]; exact hkl)⟩
        obtain ⟨y, hy⟩ : ∃ y, u.ks[k]? = some y := ⟨_, List.getElem?_eq_getElem (by rw [← HLE.out.2]; exact hkl)⟩
        have hxc := HKL.out k x hx
        obtain ⟨b1, o1, xo, xl, xc, ea1, hbb1, hc1, hx1⟩ := kid0 HT.out.1 hx
        obtain ⟨b2, o2, yo, yl, yc, ea2, hbb2, hc2, hx2⟩ := kid0 HT.out.2 hy
        subst ea1
        subst ea2
        obtain ⟨c0, c1, c2, c3, c4, c5⟩ := ncells_kept (hB1.block b1 hbb1) hc1
        obtain rfl := tin_len hx1
        obtain rfl := tin_len hx2
        obtain ⟨W2, hW2⟩ : ∃ W2, W2 = wr.alloc (.cells #[.int .i64 x.op, .int .i64 x.a, .int .i64 x.n, .int .i64 x.m, .string x.s, .slice xo x.ks.length xc] 24) := ⟨_, rfl⟩
        have hb9 : Below wr.heap.size wr W2 := by rw [hW2]; exact c_box wr _
        have hx9 : W2.heap[wr.heap.size]? = some (.cells #[.int .i64 x.op, .int .i64 x.a, .int .i64 x.n, .int .i64 x.m, .string x.s, .slice xo x.ks.length xc] 24 (0, 0)) := by rw [hW2]; exact heap_alloc_new wr _
        have hz9 : wr.heap.size < W2.heap.size := c_lt hx9
        obtain ⟨⟨d0, d1, d2, d3, d4, d5⟩, -, hxl⟩ := c_six hx9
        have hB2 : Below w.heap.size w W2 := c_thr hB1 hb9 (by omega)
        have hc2' : NCells W2 b2 (o2 + k * 6) y (.slice yo y.ks.length yc) := ncells_kept (hB2.block b2 hbb2) hc2
        have hb2' := c_kept hb9 (c_lt hb2) hb2
        have e5' : W2.cell? ⟨w.heap.size + 1, 5, none⟩ = some (.slice (some ⟨b2, o2, none⟩) len cap2) := (c_six hb2').1.2.2.2.2.2
        have HK := Lib.hid (And.intro (tin_kept hx1 hB2) (And.intro (tin_kept hx2 hB2) hc2'))
        have HB := Lib.hid (And.intro (c_thr hB hb9 hB.size : Below W0.heap.size W0 W2) hB2)
        have HL := Lib.hid (And.intro hz9 (And.intro (by omega : w.heap.size + 1 < W2.heap.size) (by omega : b2 < W2.heap.size)))
        have HXY := Lib.hid (And.intro hx hy)
        have hS0 : (W2.drew.cell? ⟨wr.heap.size, 0, none⟩ = some (.int .i64 x.op) ∧ W2.drew.cell? ⟨wr.heap.size, 1, none⟩ = some (.int .i64 x.a) ∧ W2.drew.cell? ⟨wr.heap.size, 2, none⟩ = some (.int .i64 x.n) ∧ W2.drew.cell? ⟨wr.heap.size, 3, none⟩ = some (.int .i64 x.m) ∧ W2.drew.cell? ⟨wr.heap.size, 4, none⟩ = some (.string x.s) ∧ W2.drew.cell? ⟨wr.heap.size, 5, none⟩ = some (.slice xo x.ks.length xc)) ∧ W2.drew.cell? ⟨w.heap.size + 1, 5, none⟩ = some (.slice (some ⟨b2, o2, none⟩) len cap2) ∧ (W2.drew.cell? ⟨b2, o2 + k * 6, none⟩ = some (.int .i64 y.op) ∧ W2.drew.cell? ⟨b2, o2 + k * 6 + 1, none⟩ = some (.int .i64 y.a) ∧ W2.drew.cell? ⟨b2, o2 + k * 6 + 2, none⟩ = some (.int .i64 y.n) ∧ W2.drew.cell? ⟨b2, o2 + k * 6 + 3, none⟩ = some (.int .i64 y.m) ∧ W2.drew.cell? ⟨b2, o2 + k * 6 + 4, none⟩ = some (.string y.s) ∧ W2.drew.cell? ⟨b2, o2 + k * 6 + 5, none⟩ = some (.slice yo y.ks.length yc)) := ⟨⟨d0, d1, d2, d3, d4, d5⟩, e5', hc2'⟩
        have HW2 := Lib.hid hW2
        clear hc1 hc2 hx1 hx2 hB hB1 hB2 hb2 hb2' hb9 hx9 hxl hx hy hW2
        cases hxy : sm x y with
        | true =>
          have HI1 := fun a1 a2 p1 p2 W => HI.out x y a1 a2 p1 p2 W hxc
          simp only [hxy] at HI1
          have HI2 := Lib.hid HI1
          clear HI1
          go_upto_region 6 with fail
          rw [← HW2.out]
          obtain ⟨p0, p1, p2, p3, p4, p5⟩ := hc2'
          go_region_held3 (fun w' => (w'.cell? ⟨wr.heap.size, 0, none⟩ = some (.int .i64 x.op) ∧ w'.cell? ⟨wr.heap.size, 1, none⟩ = some (.int .i64 x.a) ∧ w'.cell? ⟨wr.heap.size, 2, none⟩ = some (.int .i64 x.n) ∧ w'.cell? ⟨wr.heap.size, 3, none⟩ = some (.int .i64 x.m) ∧ w'.cell? ⟨wr.heap.size, 4, none⟩ = some (.string x.s) ∧ w'.cell? ⟨wr.heap.size, 5, none⟩ = some (.slice xo x.ks.length xc)) ∧ w'.cell? ⟨w.heap.size + 1, 5, none⟩ = some (.slice (some ⟨b2, o2, none⟩) len cap2) ∧ (w'.cell? ⟨b2, o2 + k * 6, none⟩ = some (.int .i64 y.op) ∧ w'.cell? ⟨b2, o2 + k * 6 + 1, none⟩ = some (.int .i64 y.a) ∧ w'.cell? ⟨b2, o2 + k * 6 + 2, none⟩ = some (.int .i64 y.n) ∧ w'.cell? ⟨b2, o2 + k * 6 + 3, none⟩ = some (.int .i64 y.m) ∧ w'.cell? ⟨b2, o2 + k * 6 + 4, none⟩ = some (.string y.s) ∧ w'.cell? ⟨b2, o2 + k * 6 + 5, none⟩ = some (.slice yo y.ks.length yc))) (first | with_reducible assumption) (first
            | (go_at_call 22; refine (HI2.out _ _ _ _ _ ?_ ?_).mono ?_; exact tin_all HK.out.1 (Below.refl _ _) rfl; exact tin_all HK.out.2.1 (Below.refl _ _) rfl; rintro e w9 ⟨rfl, hB9⟩; have hS2 : (w9.cell? ⟨wr.heap.size, 0, none⟩ = some (.int .i64 x.op) ∧ w9.cell? ⟨wr.heap.size, 1, none⟩ = some (.int .i64 x.a) ∧ w9.cell? ⟨wr.heap.size, 2, none⟩ = some (.int .i64 x.n) ∧ w9.cell? ⟨wr.heap.size, 3, none⟩ = some (.int .i64 x.m) ∧ w9.cell? ⟨wr.heap.size, 4, none⟩ = some (.string x.s) ∧ w9.cell? ⟨wr.heap.size, 5, none⟩ = some (.slice xo x.ks.length xc)) ∧ w9.cell? ⟨w.heap.size + 1, 5, none⟩ = some (.slice (some ⟨b2, o2, none⟩) len cap2) ∧ (w9.cell? ⟨b2, o2 + k * 6, none⟩ = some (.int .i64 y.op) ∧ w9.cell? ⟨b2, o2 + k * 6 + 1, none⟩ = some (.int .i64 y.a) ∧ w9.cell? ⟨b2, o2 + k * 6 + 2, none⟩ = some (.int .i64 y.n) ∧ w9.cell? ⟨b2, o2 + k * 6 + 3, none⟩ = some (.int .i64 y.m) ∧ w9.cell? ⟨b2, o2 + k * 6 + 4, none⟩ = some (.string y.s) ∧ w9.cell? ⟨b2, o2 + k * 6 + 5, none⟩ = some (.slice yo y.ks.length yc)) := ⟨⟨(hB9.cell (p := ⟨wr.heap.size, 0, none⟩) HL.out.1).trans d0, (hB9.cell (p := ⟨wr.heap.size, 1, none⟩) HL.out.1).trans d1, (hB9.cell (p := ⟨wr.heap.size, 2, none⟩) HL.out.1).trans d2, (hB9.cell (p := ⟨wr.heap.size, 3, none⟩) HL.out.1).trans d3, (hB9.cell (p := ⟨wr.heap.size, 4, none⟩) HL.out.1).trans d4, (hB9.cell (p := ⟨wr.heap.size, 5, none⟩) HL.out.1).trans d5⟩, (hB9.cell (p := ⟨w.heap.size + 1, 5, none⟩) HL.out.2.1).trans e5', ncells_kept (hB9.block b2 HL.out.2.2) HK.out.2.2⟩; have HB9 := Lib.hid hB9; clear hB9))
          go_wp2
          go_roundw
          case rel =>
            refine ⟨k + 1, by go_num, by omega, c_thr HB.out.1.drew HB9.out HB.out.1.size, ?_⟩
            intro j a c hj ha hc
            by_cases hjk : j < k
            · exact HA.out j a c hjk ha hc
            · have ejk : j = k := by omega
              rw [ejk] at ha hc
              have e1' : x = a := Option.some.inj (HXY.out.1.symm.trans ha)
              have e2' : y = c := Option.some.inj (HXY.out.2.symm.trans hc)
              rw [← e1', ← e2']; exact hxy
          case measure => simp [natOf]; omega
        | false =>
          have hv : sm t u = false := HSM2.out.trans (smL_bad HXY.out.1 HXY.out.2 hxy)
          have HI1 := fun a1 a2 p1 p2 W => HI.out x y a1 a2 p1 p2 W hxc
          simp only [hxy] at HI1
          have HI2 := Lib.hid HI1
          clear HI1
          go_upto_region 6 with fail
          rw [← HW2.out]
          obtain ⟨p0, p1, p2, p3, p4, p5⟩ := hc2'
          go_region_held3 (fun w' => (w'.cell? ⟨wr.heap.size, 0, none⟩ = some (.int .i64 x.op) ∧ w'.cell? ⟨wr.heap.size, 1, none⟩ = some (.int .i64 x.a) ∧ w'.cell? ⟨wr.heap.size, 2, none⟩ = some (.int .i64 x.n) ∧ w'.cell? ⟨wr.heap.size, 3, none⟩ = some (.int .i64 x.m) ∧ w'.cell? ⟨wr.heap.size, 4, none⟩ = some (.string x.s) ∧ w'.cell? ⟨wr.heap.size, 5, none⟩ = some (.slice xo x.ks.length xc)) ∧ w'.cell? ⟨w.heap.size + 1, 5, none⟩ = some (.slice (some ⟨b2, o2, none⟩) len cap2) ∧ (w'.cell? ⟨b2, o2 + k * 6, none⟩ = some (.int .i64 y.op) ∧ w'.cell? ⟨b2, o2 + k * 6 + 1, none⟩ = some (.int .i64 y.a) ∧ w'.cell? ⟨b2, o2 + k * 6 + 2, none⟩ = some (.int .i64 y.n) ∧ w'.cell? ⟨b2, o2 + k * 6 + 3, none⟩ = some (.int .i64 y.m) ∧ w'.cell? ⟨b2, o2 + k * 6 + 4, none⟩ = some (.string y.s) ∧ w'.cell? ⟨b2, o2 + k * 6 + 5, none⟩ = some (.slice yo y.ks.length yc))) (first | with_reducible assumption) (first
            | (go_at_call 22; refine (HI2.out _ _ _ _ _ ?_ ?_).mono ?_; exact tin_all HK.out.1 (Below.refl _ _) rfl; exact tin_all HK.out.2.1 (Below.refl _ _) rfl; rintro e w9 ⟨rfl, hB9⟩; have hS2 : (w9.cell? ⟨wr.heap.size, 0, none⟩ = some (.int .i64 x.op) ∧ w9.cell? ⟨wr.heap.size, 1, none⟩ = some (.int .i64 x.a) ∧ w9.cell? ⟨wr.heap.size, 2, none⟩ = some (.int .i64 x.n) ∧ w9.cell? ⟨wr.heap.size, 3, none⟩ = some (.int .i64 x.m) ∧ w9.cell? ⟨wr.heap.size, 4, none⟩ = some (.string x.s) ∧ w9.cell? ⟨wr.heap.size, 5, none⟩ = some (.slice xo x.ks.length xc)) ∧ w9.cell? ⟨w.heap.size + 1, 5, none⟩ = some (.slice (some ⟨b2, o2, none⟩) len cap2) ∧ (w9.cell? ⟨b2, o2 + k * 6, none⟩ = some (.int .i64 y.op) ∧ w9.cell? ⟨b2, o2 + k * 6 + 1, none⟩ = some (.int .i64 y.a) ∧ w9.cell? ⟨b2, o2 + k * 6 + 2, none⟩ = some (.int .i64 y.n) ∧ w9.cell? ⟨b2, o2 + k * 6 + 3, none⟩ = some (.int .i64 y.m) ∧ w9.cell? ⟨b2, o2 + k * 6 + 4, none⟩ = some (.string y.s) ∧ w9.cell? ⟨b2, o2 + k * 6 + 5, none⟩ = some (.slice yo y.ks.length yc)) := ⟨⟨(hB9.cell (p := ⟨wr.heap.size, 0, none⟩) HL.out.1).trans d0, (hB9.cell (p := ⟨wr.heap.size, 1, none⟩) HL.out.1).trans d1, (hB9.cell (p := ⟨wr.heap.size, 2, none⟩) HL.out.1).trans d2, (hB9.cell (p := ⟨wr.heap.size, 3, none⟩) HL.out.1).trans d3, (hB9.cell (p := ⟨wr.heap.size, 4, none⟩) HL.out.1).trans d4, (hB9.cell (p := ⟨wr.heap.size, 5, none⟩) HL.out.1).trans d5⟩, (hB9.cell (p := ⟨w.heap.size + 1, 5, none⟩) HL.out.2.1).trans e5', ncells_kept (hB9.block b2 HL.out.2.2) HK.out.2.2⟩; have HB9 := Lib.hid hB9; clear hB9))
          go_wp2
          go_ret
          exact ⟨by rw [hv]; rfl, c_thr HB.out.2.drew HB9.out HB.out.2.size⟩
      · have g1 : decide ((k : Int) < (len : Int)) = false := decide_eq_false (by omega)
        have HB := Lib.hid hB1
        clear hB hB1 hb2
        go_wp2
        go_ret
        have hv : sm t u = true := by
          rw [HSM2.out]
          refine smL_all (HLE.out.1.symm.trans HLE.out.2) (fun j a c ha hc => HA.out j a c ?_ ha hc)
          have := (List.getElem?_eq_some_iff.mp ha).1
          have := HLE.out.1
          omega
        exact ⟨by rw [hv]; rfl, HB.out⟩
end Go.Proofs.YtppliplalfpmaaaDoor
