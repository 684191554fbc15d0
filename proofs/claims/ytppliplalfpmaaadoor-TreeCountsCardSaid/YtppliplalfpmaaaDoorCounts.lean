/-
  The law TreeCounts: the walk.
-/
import Derived.Test.YtppliplalfpmaaaDoorCReg
import Derived.Test.YtppliplalfpmaaaDoorSize
import Derived.Test.YtppliplalfpmaaaDoorDepth
import Derived.Test.YtppliplalfpmaaaDoorRPlain
import Derived.Deep.CutRange
import Derived.BigQuiet
namespace Go.Proofs.YtppliplalfpmaaaDoor
open Go.RowKit

theorem tin_at {w : World} {S : Nat → Prop} {t : Tr} {ao : Option Addr} {len cap : Nat} (h : TIn w S t (.slice ao len cap)) : ∀ i x, t.ks[i]? = some x → ∃ b o kx, ao = some ⟨b, o, none⟩ ∧ b < w.heap.size ∧ S b ∧ NCells w b (o + i * 6) x kx ∧ TIn w S x kx := by
  obtain ⟨ao', cap', e, _, _, h3⟩ := tin_open h
  obtain ⟨rfl, -, -⟩ : ao = ao' ∧ len = t.ks.length ∧ cap = cap' := by simpa using e
  exact h3
set_option linter.unusedVariables false in
set_option maxRecDepth 100000 in
set_option maxHeartbeats 2000000 in
theorem counts_walk (x : Tr) (xo : Option Addr) (xc : Nat) (w : World) (hx : TIn w All x (.slice xo x.ks.length xc)) (h4 : 4 ≤ w.heap.size) (hNm : NamT w) (hTb : Tab w) :
    Calls Tryd.prog 3 #[.agg #[.int .i64 x.op, .int .i64 x.a, .int .i64 x.n, .int .i64 x.m, .string x.s, .slice xo x.ks.length xc]] w (RB true w) := by
  obtain ⟨W1, hW1⟩ : ∃ W1, W1 = w.alloc (.cells #[.int .i64 x.op, .int .i64 x.a, .int .i64 x.n, .int .i64 x.m, .string x.s, .slice xo x.ks.length xc] 24) := ⟨_, rfl⟩
  have hB1 : Below w.heap.size w W1 := by rw [hW1]; exact c_box w _
  have hx1 : W1.heap[w.heap.size]? = some (.cells #[.int .i64 x.op, .int .i64 x.a, .int .i64 x.n, .int .i64 x.m, .string x.s, .slice xo x.ks.length xc] 24 (0, 0)) := by rw [hW1]; exact heap_alloc_new w _
  obtain ⟨⟨b0, b1, b2, b3, b4, b5⟩, -, hxl⟩ := c_six hx1
  have HW := Lib.hid hW1
  have HB := Lib.hid hB1
  clear hB1 hW1 hx1
  have hx1 : W1.heap[w.heap.size]? = some (.cells #[.int .i64 x.op, .int .i64 x.a, .int .i64 x.n, .int .i64 x.m, .string x.s, .slice xo x.ks.length xc] 24 (0, 0)) := by rw [HW.out]; exact heap_alloc_new w _
  have hxlt := c_lt hx1
  have HX := Lib.hid (And.intro hx1 hxlt)
  have HA := Lib.hid (awake_any W1 (Nat.le_trans h4 HB.out.size) (namt_grown hNm (namt_lt hNm) HB.out) (tab_keep hTb (Nat.lt_of_lt_of_le (by decide) h4) HB.out))
  have HT := Lib.hid (fun (W : World) (hW : Below w.heap.size w W) => few_any x xo xc W (tin_kept hx hW))
  clear hx h4 hNm hTb hxl hx1 hxlt
  go_enter Tryd.func3, Tryd.ntmps3
  go_upto_region 1 with fail
  rw [← HW.out]
  go_wp2_with fail
  refine HA.out.mono ?_
  rintro e w2 ⟨rfl, hb2⟩
  have hx2 := (hb2.block _ HX.out.2).trans HX.out.1
  have HB2 := Lib.hid (And.intro (c_thr HB.out hb2 HB.out.size) hx2)
  clear hb2 HA b0 b1 b2 b3 b4 b5
  obtain ⟨⟨b0, b1, b2, b3, b4, b5⟩, -, hxl⟩ := c_six hx2
  clear hxl hx2
  go_wp2_with fail
  refine (HT.out _ HB2.out.1).mono ?_
  rintro e w3 ⟨t, o, l, c, rfl, htt, hcn, hdp, hb3⟩
  obtain rfl := tin_len htt
  have hb3' := c_thr HB2.out.1 hb3 HB2.out.1.size
  have hx3 := (hb3.block _ (c_lt HB2.out.2)).trans HB2.out.2
  have HB3 := Lib.hid (And.intro hb3' (And.intro hx3 (And.intro (c_lt hx3) (And.intro htt (And.intro hcn hdp)))))
  have HLW2 := Lib.hid (c_lt HB2.out.2)
  clear HB2 HT htt hcn hdp hb3 hb3' b0 b1 b2 b3 b4 b5
  obtain ⟨⟨b0, b1, b2, b3, b4, b5⟩, ⟨z0, z1, z2, z3, z4, z5⟩, hxl⟩ := c_six hx3
  clear hxl hx3
  go_upto_region 4 with fail
  obtain ⟨Wb, hWb⟩ : ∃ Wb, Wb = st6 w3 w.heap.size 0 (.int .i64 t.op) (.int .i64 t.a) (.int .i64 t.n) (.int .i64 t.m) (.string t.s) (.slice o t.ks.length c) := ⟨_, rfl⟩
  have hbB : Below w.heap.size w Wb := by rw [hWb]; exact c_st6 HB3.out.1 (Nat.le_refl _)
  have hzb : Wb.heap.size = w3.heap.size := by rw [hWb]; exact st6_size _ _ _ _ _ _ _ _ _
  have hgr : w3.grownBy Wb (some w.heap.size) := by rw [hWb]; exact st6_grown _ _ _ _ _ _ _ _ _
  have hxb : Wb.heap[w.heap.size]? = some (.cells #[.int .i64 t.op, .int .i64 t.a, .int .i64 t.n, .int .i64 t.m, .string t.s, .slice o t.ks.length c] 24 (0, 0)) := by rw [hWb]; exact c_set6 _ _ _ _ _ _ HB3.out.2.1
  have hlb := c_lt hxb
  have htb : TIn Wb (fun b => b ≠ w.heap.size) t (.slice o t.ks.length c) := tin_mono (tin_grown HB3.out.2.2.2.1 hgr (fun b _ hs e => by unfold Fresh at hs; have h1 := HB3.out.2.2.1; have := Option.some.inj e; have h2 := HLW2.out; omega)) (fun b _ hs => by unfold Fresh at hs; have h2 := HLW2.out; omega)
  have HTB := Lib.hid (And.intro htb (And.intro hbB (And.intro hxb hlb)))
  have HCN := Lib.hid (And.intro HB3.out.2.2.2.2.1 HB3.out.2.2.2.2.2)
  have HCp := Lib.hid (fun (W : World) (hW : Below Wb.heap.size Wb W) => show Calls Tryd.prog 8 #[.agg #[.int .i64 t.op, .int .i64 t.a, .int .i64 t.n, .int .i64 t.m, .string t.s, .slice o t.ks.length c]] W (PlPost2 W t) from copy_any2 1501 t o c W HCN.out.1 (by omega) (tin_kept (tin_mono HTB.out.1 (fun _ _ _ => trivial)) hW))
  have HPl := Lib.hid (fun (W : World) (hW : Below Wb.heap.size Wb W) => show Calls Tryd.prog 9 #[.agg #[.int .i64 t.op, .int .i64 t.a, .int .i64 t.n, .int .i64 t.m, .string t.s, .slice o t.ks.length c]] W (PlPost2 W t.pl) from plain_any2 1501 t o c W HCN.out.1 (by omega) (tin_kept (tin_mono HTB.out.1 (fun _ _ _ => trivial)) hW))
  have hWb' := hWb
  unfold st6 at hWb'
  simp only [Nat.zero_add] at hWb'
  rw [← hWb']
  clear hWb hWb' hbB hzb hgr hxb htb HB3 z0 z1 z2 z3 z4 z5 b0 b1 b2 b3 b4 b5
  refine startC _ _ _ t o c Wb w.heap.size hlb (Lib.hid ?_) HCp HPl (fun _ _ _ _ _ h => h) Wb (Below.refl _ _).drew HTB.out.2.2.1
  rintro a V ⟨b3, b4, mc, co, cc, po, pc, rfl, hBV, fx, l3, l4, n34, g3, g4, tc, tp, uc, up⟩
  have HV := Lib.hid (And.intro hBV (And.intro fx (And.intro g3 (And.intro g4 (And.intro tc (And.intro tp (And.intro uc up)))))))
  have HL := Lib.hid (And.intro l3 (And.intro l4 n34))
  have hlx := c_lt fx
  have hl3 := c_lt g3
  have hl4 := c_lt g4
  clear hBV tc tp uc up HCp HPl
  have HSa : (V.drew.cell? ⟨w.heap.size, 0, none⟩ = some (.int .i64 t.op) ∧ V.drew.cell? ⟨w.heap.size, 1, none⟩ = some (.int .i64 t.a) ∧ V.drew.cell? ⟨w.heap.size, 2, none⟩ = some (.int .i64 t.n) ∧ V.drew.cell? ⟨w.heap.size, 3, none⟩ = some (.int .i64 t.m) ∧ V.drew.cell? ⟨w.heap.size, 4, none⟩ = some (.string t.s) ∧ V.drew.cell? ⟨w.heap.size, 5, none⟩ = some (.slice o t.ks.length c)) ∧ (V.drew.cell? ⟨b3, 0, none⟩ = some (.int .i64 t.op) ∧ V.drew.cell? ⟨b3, 1, none⟩ = some (.int .i64 t.a) ∧ V.drew.cell? ⟨b3, 2, none⟩ = some (.int .i64 t.n) ∧ V.drew.cell? ⟨b3, 3, none⟩ = some (.int .i64 t.m) ∧ V.drew.cell? ⟨b3, 4, none⟩ = some (.string t.s) ∧ V.drew.cell? ⟨b3, 5, none⟩ = some (.slice co t.ks.length cc)) ∧ (V.drew.cell? ⟨b4, 0, none⟩ = some (.int .i64 t.pl.op) ∧ V.drew.cell? ⟨b4, 1, none⟩ = some (.int .i64 t.pl.a) ∧ V.drew.cell? ⟨b4, 2, none⟩ = some (.int .i64 t.pl.n) ∧ V.drew.cell? ⟨b4, 3, none⟩ = some (.int .i64 t.pl.m) ∧ V.drew.cell? ⟨b4, 4, none⟩ = some (.string t.pl.s) ∧ V.drew.cell? ⟨b4, 5, none⟩ = some (.slice po t.pl.ks.length pc)) := ⟨(c_six (w := V.drew) fx).1, (c_six (w := V.drew) g3).1, (c_six (w := V.drew) g4).1⟩
  clear fx g3 g4
  have HSof := Lib.hid (fun (W : World) (hW : Below V.heap.size V W) => show (W.cell? ⟨w.heap.size, 0, none⟩ = some (.int .i64 t.op) ∧ W.cell? ⟨w.heap.size, 1, none⟩ = some (.int .i64 t.a) ∧ W.cell? ⟨w.heap.size, 2, none⟩ = some (.int .i64 t.n) ∧ W.cell? ⟨w.heap.size, 3, none⟩ = some (.int .i64 t.m) ∧ W.cell? ⟨w.heap.size, 4, none⟩ = some (.string t.s) ∧ W.cell? ⟨w.heap.size, 5, none⟩ = some (.slice o t.ks.length c)) ∧ (W.cell? ⟨b3, 0, none⟩ = some (.int .i64 t.op) ∧ W.cell? ⟨b3, 1, none⟩ = some (.int .i64 t.a) ∧ W.cell? ⟨b3, 2, none⟩ = some (.int .i64 t.n) ∧ W.cell? ⟨b3, 3, none⟩ = some (.int .i64 t.m) ∧ W.cell? ⟨b3, 4, none⟩ = some (.string t.s) ∧ W.cell? ⟨b3, 5, none⟩ = some (.slice co t.ks.length cc)) ∧ (W.cell? ⟨b4, 0, none⟩ = some (.int .i64 t.pl.op) ∧ W.cell? ⟨b4, 1, none⟩ = some (.int .i64 t.pl.a) ∧ W.cell? ⟨b4, 2, none⟩ = some (.int .i64 t.pl.n) ∧ W.cell? ⟨b4, 3, none⟩ = some (.int .i64 t.pl.m) ∧ W.cell? ⟨b4, 4, none⟩ = some (.string t.pl.s) ∧ W.cell? ⟨b4, 5, none⟩ = some (.slice po t.pl.ks.length pc)) from ⟨(c_six (c_kept hW (c_lt HV.out.2.1) HV.out.2.1)).1, (c_six (c_kept hW (c_lt HV.out.2.2.1) HV.out.2.2.1)).1, (c_six (c_kept hW (c_lt HV.out.2.2.2.1) HV.out.2.2.2.1)).1⟩)
  have HTn := Lib.hid (fun (W : World) (hW : Below V.heap.size V W) => show TIn W All t (.slice o t.ks.length c) from tin_kept (tin_below (tin_mono HTB.out.1 (fun _ _ _ => trivial)) HV.out.1 (fun b hb _ => hb)) hW)
  have HTc := Lib.hid (fun (W : World) (hW : Below V.heap.size V W) => show TIn W All t (.slice co t.ks.length cc) from tin_kept (tin_mono HV.out.2.2.2.2.1 (fun _ _ _ => trivial)) hW)
  have HTp := Lib.hid (fun (W : World) (hW : Below V.heap.size V W) => show TIn W All t.pl (.slice po t.pl.ks.length pc) from tin_kept (tin_mono HV.out.2.2.2.2.2.1 (fun _ _ _ => trivial)) hW)
  have hcp : t.pl.cnt ≤ 1501 := by rw [cnt_pl]; exact HCN.out.1
  have HCP := Lib.hid hcp
  clear hcp
  go_upto_region 5 with fail
  go_cut [38] from 14 (fun s wc => s = .bool false ∧ Below V.heap.size V wc)
  case first =>
    go_region_held3 (fun w' => (w'.cell? ⟨w.heap.size, 0, none⟩ = some (.int .i64 t.op) ∧ w'.cell? ⟨w.heap.size, 1, none⟩ = some (.int .i64 t.a) ∧ w'.cell? ⟨w.heap.size, 2, none⟩ = some (.int .i64 t.n) ∧ w'.cell? ⟨w.heap.size, 3, none⟩ = some (.int .i64 t.m) ∧ w'.cell? ⟨w.heap.size, 4, none⟩ = some (.string t.s) ∧ w'.cell? ⟨w.heap.size, 5, none⟩ = some (.slice o t.ks.length c)) ∧ (w'.cell? ⟨b3, 0, none⟩ = some (.int .i64 t.op) ∧ w'.cell? ⟨b3, 1, none⟩ = some (.int .i64 t.a) ∧ w'.cell? ⟨b3, 2, none⟩ = some (.int .i64 t.n) ∧ w'.cell? ⟨b3, 3, none⟩ = some (.int .i64 t.m) ∧ w'.cell? ⟨b3, 4, none⟩ = some (.string t.s) ∧ w'.cell? ⟨b3, 5, none⟩ = some (.slice co t.ks.length cc)) ∧ (w'.cell? ⟨b4, 0, none⟩ = some (.int .i64 t.pl.op) ∧ w'.cell? ⟨b4, 1, none⟩ = some (.int .i64 t.pl.a) ∧ w'.cell? ⟨b4, 2, none⟩ = some (.int .i64 t.pl.n) ∧ w'.cell? ⟨b4, 3, none⟩ = some (.int .i64 t.pl.m) ∧ w'.cell? ⟨b4, 4, none⟩ = some (.string t.pl.s) ∧ w'.cell? ⟨b4, 5, none⟩ = some (.slice po t.pl.ks.length pc))) (first | with_reducible assumption) (first
      | (go_at_call 10; refine (size_any 1501 (by omega) t o c _ HCN.out.1 (HTn.out _ (Below.refl _ _).drew)).mono ?_; rintro e w91 ⟨rfl, hB9⟩; have H1 := Lib.hid (show Below V.heap.size V w91 from c_thr (w1 := V.drew) (Below.refl _ _).drew hB9 (Nat.le_refl _)); clear hB9; have hS1 := HSof.out _ H1.out)
      | (go_at_call 11; refine (rsize_any 1501 (by omega) t o c _ HCN.out.1 (HTn.out _ H1.out)).mono ?_; rintro e w92 ⟨rfl, hB9⟩; have H2 := Lib.hid (c_thr H1.out hB9 H1.out.size); clear hB9; have hS2 := HSof.out _ H2.out)
      | (go_at_call 12; refine (depth_any 1501 (by omega) t o c _ HCN.out.1 (HTn.out _ H2.out)).mono ?_; rintro e w93 ⟨rfl, hB9⟩; have H3 := Lib.hid (c_thr H2.out hB9 H2.out.size); clear hB9; have hS3 := HSof.out _ H3.out)
      | (go_at_call 13; refine (rdepth_any 1501 (by omega) t o c _ HCN.out.1 (HTn.out _ H3.out)).mono ?_; rintro e w94 ⟨rfl, hB9⟩; have H4 := Lib.hid (c_thr H3.out hB9 H3.out.size); clear hB9; have hS4 := HSof.out _ H4.out)
      | (go_at_call 15; refine (rplain_any 1501 t o c _ HCN.out.1 (by omega) (HTn.out _ H5.out)).mono ?_; rintro e w96 ⟨qo, ql, qc, rfl, htq, hB9⟩; obtain rfl := tin_len htq; have H6 := Lib.hid (And.intro (c_thr H5.out hB9 H5.out.size) htq); clear hB9 htq; have hS6 := HSof.out _ H6.out.1)
      | (go_at_call 14; have hh := H6; clear hh; refine (exact_any 1501 t.pl po qo pc qc _ HCP.out (by omega) (HTp.out _ H6.out.1) (tin_mono H6.out.2 (fun _ _ _ => trivial))).mono ?_; rintro e w97 ⟨rfl, hB9⟩; have H7 := Lib.hid (c_thr H6.out.1 hB9 H6.out.1.size); clear hB9; have hS7 := HSof.out _ H7.out)
      | (go_at_call 14; refine (exact_any 1501 t co o cc c _ HCN.out.1 (by omega) (HTc.out _ H4.out) (HTn.out _ H4.out)).mono ?_; rintro e w95 ⟨rfl, hB9⟩; have H5 := Lib.hid (c_thr H4.out hB9 H4.out.size); clear hB9; have hS5 := HSof.out _ H5.out))
    go_wp2
    go_meet
    case rel => exact ⟨rfl, H7.out⟩
  case rest =>
    obtain ⟨rfl, hbc⟩ := hcut
    have hfin := c_thr HTB.out.2.1 (c_thr HV.out.1 hbc HV.out.1.size) HTB.out.2.1.size
    have hbx := c_kept hbc (c_lt HV.out.2.1) HV.out.2.1
    have hb3 := c_kept hbc (c_lt HV.out.2.2.1) HV.out.2.2.1
    have hb4 := c_kept hbc (c_lt HV.out.2.2.2.1) HV.out.2.2.2.1
    have HC := Lib.hid (And.intro hbc (And.intro hfin (And.intro hbx (And.intro hb3 hb4))))
    clear hbc hfin hb3 hb4 HSa hlx hl3 hl4
    obtain ⟨⟨p0, p1, p2, p3, p4, p5⟩, -, hlx⟩ := c_six hbx
    clear hbx
    cases hks : t.ks with
    | nil =>
      have g1 : ((t.ks.length : Int) == 0) = true := by rw [hks]; rfl
      clear hks
      go_wp2
      go_ret
      exact ⟨rfl, HC.out.2.1⟩
    | cons y r =>
      have hy : t.ks[0]? = some y := by rw [hks]; rfl
      have g1 : ((t.ks.length : Int) == 0) = false := by rw [hks]; simp only [List.length_cons]; exact beq_eq_false_iff_ne.2 (by omega)
      have g2 : (0 : Int) < (t.ks.length : Int) := by rw [hks]; simp only [List.length_cons]; omega
      have g3 : (0 : Int) < (t.pl.ks.length : Int) := by rw [pl_ks, plL_len]; exact g2
      obtain ⟨bn, on, kn, rfl, hbn, hsn, ⟨n0, n1, n2, n3, n4, n5⟩, -⟩ := (tin_at HTB.out.1) 0 y hy
      obtain ⟨kb, ko, kk, rfl, hkb, hsk, ⟨k0, k1, k2, k3, k4, k5⟩, -⟩ := (tin_at HV.out.2.2.2.2.1) 0 y hy
      obtain ⟨kp, kq, kz, rfl, hkp, hsp, ⟨q0, q1, q2, q3, q4, q5⟩, -⟩ := (tin_at HV.out.2.2.2.2.2.1) 0 y.pl (by rw [pl_ks]; exact plL_at hy)
      obtain ⟨hu1, cs1, T1, hu2⟩ := HV.out.2.2.2.2.2.2.1 kb ko rfl
      obtain ⟨hv1, cs2, T2, hv2⟩ := HV.out.2.2.2.2.2.2.2 kp kq rfl
      simp only [Nat.zero_mul, Nat.add_zero] at n0 k0 q0
      have hne : kb ≠ kp ∧ kb ≠ bn ∧ kp ≠ bn ∧ kb ≠ w.heap.size ∧ kp ≠ w.heap.size ∧ kb ≠ b3 ∧ kb ≠ b4 ∧ kp ≠ b3 ∧ kp ≠ b4 := by
        have h1 := HTB.out.2.2.2
        have h2 : Wb.heap.size ≤ kb ∧ kb < mc := ⟨hsk.1, hsk.2.1⟩
        have h3 : mc ≤ kp := hsp.1
        simp at hu1 hv1
        omega
      have nw0 : wc.cell? ⟨bn, on, none⟩ = some (.int .i64 y.op) := (HC.out.1.cell (p := ⟨bn, on, none⟩) (Nat.lt_of_lt_of_le hbn HV.out.1.size)).trans ((HV.out.1.cell (p := ⟨bn, on, none⟩) hbn).trans n0)
      have kw0 : wc.cell? ⟨kb, ko, none⟩ = some (.int .i64 y.op) := (HC.out.1.cell (p := ⟨kb, ko, none⟩) hkb).trans k0
      have hfk := c_kept HC.out.1 hkb hu2
      have hfp := c_kept HC.out.1 hkp hv2
      have fk : wc.frozen? ⟨kb, ko, none⟩ = false := by simp [World.frozen?, hfk]
      have qw0 : wc.cell? ⟨kp, kq, none⟩ = some (.int .i64 y.pl.op) := (HC.out.1.cell (p := ⟨kp, kq, none⟩) hkp).trans q0
      obtain ⟨W10, hW10⟩ : ∃ W10, W10 = wc.setCell ⟨kb, ko, none⟩ (.int .i64 (wrap64 (y.op + 1))) := ⟨_, rfl⟩
      obtain ⟨W11, hW11⟩ : ∃ W11, W11 = W10.setCell ⟨kp, kq, none⟩ (.int .i64 (wrap64 (y.op + 2))) := ⟨_, rfl⟩
      have h10 : ∀ b, b ≠ kb → W10.heap[b]? = wc.heap[b]? := fun b hb => by rw [hW10]; exact x_ne _ _ _ _ _ hb
      have h11 : ∀ b, b ≠ kp → W11.heap[b]? = W10.heap[b]? := fun b hb => by rw [hW11]; exact x_ne _ _ _ _ _ hb
      have hz10 : W10.heap.size = wc.heap.size := by rw [hW10]; exact x_sz _ _ _
      have hz11 : W11.heap.size = wc.heap.size := by rw [hW11, x_sz]; exact hz10
      have hlt1 : kb < wc.heap.size := Nat.lt_of_lt_of_le hkb HC.out.1.size
      have hlt2 : kp < wc.heap.size := Nat.lt_of_lt_of_le hkp HC.out.1.size
      have hlt3 : bn < wc.heap.size := Nat.lt_of_lt_of_le hbn (Nat.le_trans HV.out.1.size HC.out.1.size)
      have hend : Below w.heap.size w W11 := by
        have hA : w.heap.size ≤ kb ∧ w.heap.size ≤ kp := by have h1 := HTB.out.2.2.2; have h2 : Wb.heap.size ≤ kb ∧ kb < mc := ⟨hsk.1, hsk.2.1⟩; have h3 : mc ≤ kp := hsp.1; omega
        rw [hW11, hW10]
        exact c_set kq _ (c_set ko _ HC.out.2.1 hA.1) hA.2
      have HE := Lib.hid hend
      have HNE := Lib.hid hne
      have fk10 : W10.heap[b4]? = wc.heap[b4]? := h10 b4 (fun e => hne.2.2.2.2.2.2.1 e.symm)
      have HF10 := Lib.hid (And.intro hfk (And.intro hfp (And.intro h10 (And.intro h11 (And.intro hz10 hz11)))))
      have HCW := Lib.hid (And.intro nw0 (And.intro kw0 qw0))
      clear hfk hfp h10 h11 hz10 hz11 hend hne fk10 hu1 hu2 hv1 hv2 n0 n1 n2 n3 n4 n5 k0 k1 k2 k3 k4 k5 q0 q1 q2 q3 q4 q5 hy hks hsn hsk hsp hbn hkb hkp qw0
      go_upto_region 10 with fail
      have hb3 := (c_six HC.out.2.2.2.1).1
      obtain ⟨m0, m1, m2, m3, m4, m5⟩ := hb3
      clear p0 p1 p2 p3 p4 p5 nw0
      go_upto_region 11 with fail
      rw [← hW10]
      have hb4 := (HF10.out.2.2.1 b4 (fun e => HNE.out.2.2.2.2.2.2.1 e.symm)).trans HC.out.2.2.2.2
      have q10 : W10.cell? ⟨kp, kq, none⟩ = some (.int .i64 y.pl.op) := (World.cell?_of_block (a := ⟨kp, kq, none⟩) (HF10.out.2.2.1 kp (fun e => HNE.out.1 e.symm))).trans HCW.out.2.2
      have fp10 : W10.frozen? ⟨kp, kq, none⟩ = false := by have h := (HF10.out.2.2.1 kp (fun e => HNE.out.1 e.symm)).trans HF10.out.2.1; simp [World.frozen?, h]
      have hlt4 : kp < W10.heap.size := by rw [HF10.out.2.2.2.2.1]; exact hlt2
      clear m0 m1 m2 m3 m4 m5 kw0 fk
      obtain ⟨⟨m0, m1, m2, m3, m4, m5⟩, -, hl4⟩ := c_six hb4
      clear hb4
      have HW10 := Lib.hid hW10
      clear hW10
      go_upto_region 12 with fail
      rw [← hW11]
      have HW11 := Lib.hid hW11
      have hbx := (HF10.out.2.2.2.1 w.heap.size (fun e => HNE.out.2.2.2.2.1 e.symm)).trans ((HF10.out.2.2.1 w.heap.size (fun e => HNE.out.2.2.2.1 e.symm)).trans HC.out.2.2.1)
      have hb3 := (HF10.out.2.2.2.1 b3 (fun e => HNE.out.2.2.2.2.2.2.2.1 e.symm)).trans ((HF10.out.2.2.1 b3 (fun e => HNE.out.2.2.2.2.2.1 e.symm)).trans HC.out.2.2.2.1)
      have n11 : W11.cell? ⟨bn, on, none⟩ = some (.int .i64 y.op) := (World.cell?_of_block (a := ⟨bn, on, none⟩) ((HF10.out.2.2.2.1 bn (fun e => HNE.out.2.2.1 e.symm)).trans (HF10.out.2.2.1 bn (fun e => HNE.out.2.1 e.symm)))).trans HCW.out.1
      have k10 : W10.cell? ⟨kb, ko, none⟩ = some (.int .i64 (wrap64 (y.op + 1))) := by rw [HW10.out]; exact World.cell?_setCell_same _ _ _ HCW.out.2.1
      have k11 : W11.cell? ⟨kb, ko, none⟩ = some (.int .i64 (wrap64 (y.op + 1))) := (World.cell?_of_block (a := ⟨kb, ko, none⟩) (HF10.out.2.2.2.1 kb HNE.out.1)).trans k10
      have hl1 : kb < W11.heap.size := by rw [HF10.out.2.2.2.2.2]; exact hlt1
      have hl3 : bn < W11.heap.size := by rw [HF10.out.2.2.2.2.2]; exact hlt3
      clear hW11 m0 m1 m2 m3 m4 m5 q10 fp10 hlt4 k10 hl4
      obtain ⟨⟨p0, p1, p2, p3, p4, p5⟩, -, hlx⟩ := c_six hbx
      obtain ⟨⟨m0, m1, m2, m3, m4, m5⟩, -, hl4⟩ := c_six hb3
      clear hbx hb3
      go_wp2
      go_ret
      exact ⟨rfl, HE.out⟩
end Go.Proofs.YtppliplalfpmaaaDoor
