/-
  The law TreeDumps: the walk.
-/
import Derived.Test.YtppliplalfpmaaaDoorDReg
import Derived.Test.YtppliplalfpmaaaDoorInj
import Derived.Test.YtppliplalfpmaaaDoorAwake2
import Derived.Test.YtppliplalfpmaaaDoorCopy2
import Derived.Test.YtppliplalfpmaaaDoorSame
import Derived.Test.YtppliplalfpmaaaDoorRSame
import Derived.Deep.CutRange
import Derived.BigQuiet
namespace Go.Proofs.YtppliplalfpmaaaDoor
open Go.RowKit

set_option linter.unusedVariables false in
set_option maxRecDepth 100000 in
set_option maxHeartbeats 2000000 in
theorem dumps_walk (x : Tr) (xo : Option Addr) (xc : Nat) (y : Tr) (yo : Option Addr) (yc : Nat) (z : Int) (w : World) (hx : TIn w All x (.slice xo x.ks.length xc)) (hy : TIn w All y (.slice yo y.ks.length yc)) (hnx : x.nums) (hny : y.nums) (h4 : 4 ≤ w.heap.size) (hNm : NamT w) (hTb : Tab w) :
    Calls Tryd.prog 5 #[.agg #[.int .i64 x.op, .int .i64 x.a, .int .i64 x.n, .int .i64 x.m, .string x.s, .slice xo x.ks.length xc], .agg #[.int .i64 y.op, .int .i64 y.a, .int .i64 y.n, .int .i64 y.m, .string y.s, .slice yo y.ks.length yc], .int .i64 z] w (RB true w) := by
  obtain ⟨bA, hbA⟩ : ∃ bA, bA = w.heap.size := ⟨_, rfl⟩
  obtain ⟨bB, hbB⟩ : ∃ bB, bB = bA + 1 := ⟨_, rfl⟩
  obtain ⟨W1, hW1⟩ : ∃ W1, W1 = (w.alloc (.cells #[.int .i64 x.op, .int .i64 x.a, .int .i64 x.n, .int .i64 x.m, .string x.s, .slice xo x.ks.length xc] 24)).alloc (.cells #[.int .i64 y.op, .int .i64 y.a, .int .i64 y.n, .int .i64 y.m, .string y.s, .slice yo y.ks.length yc] 24) := ⟨_, rfl⟩
  have hB1 : Below w.heap.size w W1 := by rw [hW1]; exact c_box2 w _ _
  have hx1 : W1.heap[bA]? = some (.cells #[.int .i64 x.op, .int .i64 x.a, .int .i64 x.n, .int .i64 x.m, .string x.s, .slice xo x.ks.length xc] 24 (0, 0)) := by rw [hW1, hbA]; exact c_new1 w _ _
  have hy1 : W1.heap[bB]? = some (.cells #[.int .i64 y.op, .int .i64 y.a, .int .i64 y.n, .int .i64 y.m, .string y.s, .slice yo y.ks.length yc] 24 (0, 0)) := by rw [hW1, hbB, hbA]; exact c_new2 w _ _
  have HAB := Lib.hid (And.intro (show w.heap.size ≤ bA by omega) (And.intro (show w.heap.size ≤ bB by omega) (show bA ≠ bB by omega)))
  have HB := Lib.hid (And.intro hB1 (And.intro hx1 hy1))
  have HW := Lib.hid (And.intro hW1 (And.intro hbA hbB))
  have HN := Lib.hid (And.intro h4 (And.intro hNm hTb))
  have HA := Lib.hid (awake_any W1 (Nat.le_trans h4 HB.out.1.size) (namt_grown hNm (namt_lt hNm) HB.out.1) (tab_keep hTb (Nat.lt_of_lt_of_le (by decide) h4) HB.out.1))
  have HF := Lib.hid (fun (W : World) (hW : Below w.heap.size w W) => few_any2 x xo xc W (tin_kept hx hW) hnx)
  have HG := Lib.hid (fun (W : World) (hW : Below w.heap.size w W) => few_any2 y yo yc W (tin_kept hy hW) hny)
  clear hB1 hx1 hy1 hW1 hbA hbB hx hy hnx hny h4 hNm hTb
  go_enter Tryd.func5, Tryd.ntmps5
  go_upto_region 1 with fail
  simp only [← HW.out.1, ← HW.out.2.1, ← HW.out.2.2]
  go_wp2_with fail
  refine HA.out.mono ?_
  rintro e w2 ⟨rfl, hb2⟩
  have HB2 := Lib.hid (And.intro (c_thr HB.out.1 hb2 HB.out.1.size) (And.intro (c_kept hb2 (c_lt HB.out.2.1) HB.out.2.1) (c_kept hb2 (c_lt HB.out.2.2) HB.out.2.2)))
  clear hb2 HA
  go_upto_region 3 with fail
  refine startD _ _ _ _ _ _ _ x y xo yo xc yc w bA bB HAB.out.1 HAB.out.2.1 HAB.out.2.2 (Lib.hid ?_) HF HG w2 (show Below w.heap.size w w2.drew from HB2.out.1.trans (Below.refl _ _).drew) HB2.out.2.1 HB2.out.2.2
  rintro a V ⟨t, u, o, c, p, d, rfl, hBV, fA, fB, tt, tu, ct, cu⟩
  obtain ⟨pd, hpd⟩ : ∃ q : ByteArray, q = ⟨(dmp t).toArray⟩ := ⟨_, rfl⟩
  obtain ⟨qd, hqd⟩ : ∃ q : ByteArray, q = ⟨(dmp u).toArray⟩ := ⟨_, rfl⟩
  obtain ⟨nz, hnz⟩ : ∃ q : ByteArray, q = ⟨(nmOf z).toArray⟩ := ⟨_, rfl⟩
  have lt1 : (dmp t).length ≤ 140737488350000 := by have h1 := dmp_len t ct.out.2.1 ct.out.2.2; have h2 := ct.out.1; omega
  have lu1 : (dmp u).length ≤ 140737488350000 := by have h1 := dmp_len u cu.out.2.1 cu.out.2.2; have h2 := cu.out.1; omega
  have hsm : sm t u = decide (pd = qd) := by
    rw [sm_dmp, hpd, hqd, Bool.eq_iff_iff, decide_eq_true_eq, decide_eq_true_eq]
    exact ⟨fun h => by rw [h], fun h => by have := congrArg (fun b : ByteArray => b.data.toList) h; simpa using this⟩
  have HTn := Lib.hid (fun (W : World) (hW : Below V.heap.size V W) => show TIn W All t (.slice o t.ks.length c) from tin_kept (tin_mono tt (fun _ _ _ => trivial)) hW)
  have HUn := Lib.hid (fun (W : World) (hW : Below V.heap.size V W) => show TIn W All u (.slice p u.ks.length d) from tin_kept (tin_mono tu (fun _ _ _ => trivial)) hW)
  have hN4 : 4 ≤ V.heap.size := Nat.le_trans HN.out.1 hBV.size
  have hNV : NamT V := namt_grown HN.out.2.1 (namt_lt HN.out.2.1) hBV
  have hTV : Tab V := tab_keep HN.out.2.2 (Nat.lt_of_lt_of_le (by decide) HN.out.1) hBV
  have HNV := Lib.hid (And.intro hN4 (And.intro hNV hTV))
  have HDt := Lib.hid (fun (W : World) (hW : Below V.heap.size V W) => show Calls Tryd.prog 18 #[.agg #[.int .i64 t.op, .int .i64 t.a, .int .i64 t.n, .int .i64 t.m, .string t.s, .slice o t.ks.length c]] W (fun e w' => e = .returned (.string pd) ∧ Below W.heap.size W w') by rw [hpd]; exact Dump_any 1501 t o c W ct.out.1 (by omega) ct.out.2.1 (HTn.out W hW) lt1 (Nat.le_trans HNV.out.1 hW.size) (namt_grown HNV.out.2.1 (namt_lt HNV.out.2.1) hW) (tab_keep HNV.out.2.2 (Nat.lt_of_lt_of_le (by decide) HNV.out.1) hW))
  have HDu := Lib.hid (fun (W : World) (hW : Below V.heap.size V W) => show Calls Tryd.prog 18 #[.agg #[.int .i64 u.op, .int .i64 u.a, .int .i64 u.n, .int .i64 u.m, .string u.s, .slice p u.ks.length d]] W (fun e w' => e = .returned (.string qd) ∧ Below W.heap.size W w') by rw [hqd]; exact Dump_any 1501 u p d W cu.out.1 (by omega) cu.out.2.1 (HUn.out W hW) lu1 (Nat.le_trans HNV.out.1 hW.size) (namt_grown HNV.out.2.1 (namt_lt HNV.out.2.1) hW) (tab_keep HNV.out.2.2 (Nat.lt_of_lt_of_le (by decide) HNV.out.1) hW))
  have HRd := Lib.hid (fun (W : World) (hW : Below V.heap.size V W) => show Calls Tryd.prog 19 #[.agg #[.int .i64 t.op, .int .i64 t.a, .int .i64 t.n, .int .i64 t.m, .string t.s, .slice o t.ks.length c]] W (fun e w' => e = .returned (.string pd) ∧ Below W.heap.size W w') by rw [hpd]; exact rdump_any 1501 t o c W ct.out.1 (by omega) ct.out.2.1 ct.out.2.2 (HTn.out W hW) lt1)
  have HNm := Lib.hid (fun (W : World) (hW : Below V.heap.size V W) => show Calls Tryd.prog 20 #[.int .i64 z] W (fun e w' => e = .returned (.string nz) ∧ W = w') by rw [hnz]; exact name_any z W (namt_grown HNV.out.2.1 (namt_lt HNV.out.2.1) hW))
  have HRn := Lib.hid (fun (W : World) => show Calls Tryd.prog 21 #[.int .i64 z] W (fun e w' => e = .returned (.string nz) ∧ Below W.heap.size W w') by rw [hnz]; exact rName_any z W)
  have HSm := Lib.hid (fun (W : World) (hW : Below V.heap.size V W) => same_any 1501 t u o p c d W ct.out.1 (by omega) (HTn.out W hW) (HUn.out W hW))
  have HRs := Lib.hid (fun (W : World) (hW : Below V.heap.size V W) => rsame_any 1501 t u o p c d W ct.out.1 (by omega) (HTn.out W hW) (HUn.out W hW))
  have HPl := Lib.hid (fun (W : World) (hW : Below V.heap.size V W) => plain_any2 1501 t o c W ct.out.1 (by omega) (HTn.out W hW))
  have HSp := Lib.hid (fun (W : World) (hW : Below V.heap.size V W) (ao : Option Addr) (cap : Nat) (hP : TIn W All t.pl (.slice ao t.pl.ks.length cap)) => (show Calls Tryd.prog 22 #[.agg #[.int .i64 t.op, .int .i64 t.a, .int .i64 t.n, .int .i64 t.m, .string t.s, .slice o t.ks.length c], .agg #[.int .i64 t.pl.op, .int .i64 t.pl.a, .int .i64 t.pl.n, .int .i64 t.pl.m, .string t.pl.s, .slice ao t.pl.ks.length cap]] W (BPost W true) from by have h := same_any 1501 t t.pl o ao c cap W ct.out.1 (by omega) (HTn.out W hW) hP; rw [sm_pl] at h; exact h))
  have HV := Lib.hid (And.intro hBV (And.intro fA fB))
  have HSof := Lib.hid (fun (W : World) (hW : Below V.heap.size V W) => show (W.cell? ⟨bA, 0, none⟩ = some (.int .i64 t.op) ∧ W.cell? ⟨bA, 1, none⟩ = some (.int .i64 t.a) ∧ W.cell? ⟨bA, 2, none⟩ = some (.int .i64 t.n) ∧ W.cell? ⟨bA, 3, none⟩ = some (.int .i64 t.m) ∧ W.cell? ⟨bA, 4, none⟩ = some (.string t.s) ∧ W.cell? ⟨bA, 5, none⟩ = some (.slice o t.ks.length c)) ∧ (W.cell? ⟨bB, 0, none⟩ = some (.int .i64 u.op) ∧ W.cell? ⟨bB, 1, none⟩ = some (.int .i64 u.a) ∧ W.cell? ⟨bB, 2, none⟩ = some (.int .i64 u.n) ∧ W.cell? ⟨bB, 3, none⟩ = some (.int .i64 u.m) ∧ W.cell? ⟨bB, 4, none⟩ = some (.string u.s) ∧ W.cell? ⟨bB, 5, none⟩ = some (.slice p u.ks.length d)) from ⟨(c_six (c_kept hW (c_lt HV.out.2.1) HV.out.2.1)).1, (c_six (c_kept hW (c_lt HV.out.2.2) HV.out.2.2)).1⟩)
  have HL := Lib.hid (And.intro (c_lt fA) (c_lt fB))
  have lA := c_lt fA
  have lB := c_lt fB
  have HQ := Lib.hid hsm
  clear hpd hqd hnz lt1 lu1 hN4 hNV hTV tt tu ct cu fA fB hsm hBV
  have hS0 := HSof.out V.drew (Below.refl _ _).drew
  go_upto_region 4 with fail
  go_region_held3 (fun w' => (w'.cell? ⟨bA, 0, none⟩ = some (.int .i64 t.op) ∧ w'.cell? ⟨bA, 1, none⟩ = some (.int .i64 t.a) ∧ w'.cell? ⟨bA, 2, none⟩ = some (.int .i64 t.n) ∧ w'.cell? ⟨bA, 3, none⟩ = some (.int .i64 t.m) ∧ w'.cell? ⟨bA, 4, none⟩ = some (.string t.s) ∧ w'.cell? ⟨bA, 5, none⟩ = some (.slice o t.ks.length c)) ∧ (w'.cell? ⟨bB, 0, none⟩ = some (.int .i64 u.op) ∧ w'.cell? ⟨bB, 1, none⟩ = some (.int .i64 u.a) ∧ w'.cell? ⟨bB, 2, none⟩ = some (.int .i64 u.n) ∧ w'.cell? ⟨bB, 3, none⟩ = some (.int .i64 u.m) ∧ w'.cell? ⟨bB, 4, none⟩ = some (.string u.s) ∧ w'.cell? ⟨bB, 5, none⟩ = some (.slice p u.ks.length d))) (first | with_reducible assumption) (first
    | (go_at_call 18; refine (HDt.out _ (Below.refl _ _).drew).mono ?_; rintro e w41 ⟨rfl, hB9⟩; have H1 := Lib.hid (show Below V.heap.size V w41 from c_thr (w1 := V.drew) (Below.refl _ _).drew hB9 (Nat.le_refl _)); clear hB9; have hS1 := HSof.out _ H1.out)
    | (go_at_call 18; refine (HDu.out _ H1.out).mono ?_; rintro e w42 ⟨rfl, hB9⟩; have H2 := Lib.hid (c_thr H1.out hB9 H1.out.size); clear hB9; have hS2 := HSof.out _ H2.out))
  have HZ := Lib.hid H2.out
  clear hS0 hS1 hS2 H1
  have hS0 := HSof.out w42.drew (HZ.out.trans (Below.refl _ _).drew)
  go_upto_region 5 with fail
  by_cases hpq : pd = qd
  · have hq2 : sm t u = true := by rw [HQ.out]; exact decide_eq_true hpq
    subst hpq
    rw [hq2] at HSm HRs
    clear HQ hq2
    go_region_held3 (fun w' => (w'.cell? ⟨bA, 0, none⟩ = some (.int .i64 t.op) ∧ w'.cell? ⟨bA, 1, none⟩ = some (.int .i64 t.a) ∧ w'.cell? ⟨bA, 2, none⟩ = some (.int .i64 t.n) ∧ w'.cell? ⟨bA, 3, none⟩ = some (.int .i64 t.m) ∧ w'.cell? ⟨bA, 4, none⟩ = some (.string t.s) ∧ w'.cell? ⟨bA, 5, none⟩ = some (.slice o t.ks.length c)) ∧ (w'.cell? ⟨bB, 0, none⟩ = some (.int .i64 u.op) ∧ w'.cell? ⟨bB, 1, none⟩ = some (.int .i64 u.a) ∧ w'.cell? ⟨bB, 2, none⟩ = some (.int .i64 u.n) ∧ w'.cell? ⟨bB, 3, none⟩ = some (.int .i64 u.m) ∧ w'.cell? ⟨bB, 4, none⟩ = some (.string u.s) ∧ w'.cell? ⟨bB, 5, none⟩ = some (.slice p u.ks.length d))) (first | with_reducible assumption) (first
      | (go_at_call 19; refine (HRd.out _ (HZ.out.trans (Below.refl _ _).drew)).mono ?_; rintro e w51 ⟨rfl, hB9⟩; have I1 := Lib.hid (show Below V.heap.size V w51 from c_thr (w1 := w42.drew) (HZ.out.trans (Below.refl _ _).drew) hB9 HZ.out.size); clear hB9; have hR1 := HSof.out _ I1.out)
      | (go_at_call 20; refine (HNm.out _ I1.out).mono ?_; rintro e w52 ⟨rfl, rfl⟩)
      | (go_at_call 21; refine (HRn.out _).mono ?_; rintro e w53 ⟨rfl, hB9⟩; have I3 := Lib.hid (c_thr I1.out hB9 I1.out.size); clear hB9; have hR3 := HSof.out _ I3.out)
      | (go_at_call 23; refine (HRs.out _ I5.out).mono ?_; rintro e w56 ⟨rfl, hB9⟩; have I6 := Lib.hid (c_thr I5.out hB9 I5.out.size); clear hB9; have hR6 := HSof.out _ I6.out)
      | (go_at_call 9; refine (HPl.out _ I6.out).mono ?_; rintro e w57 ⟨po, pl, pc, rfl, htp, hB9, -⟩; obtain rfl := tin_len htp; have I7 := Lib.hid (And.intro (c_thr I6.out hB9 I6.out.size) (tin_mono htp (fun _ _ _ => trivial) : TIn _ All _ _)); clear hB9 htp; have hR7 := HSof.out _ I7.out.1)
      | (go_at_call 22; have hh := I7; clear hh; refine (HSp.out _ I7.out.1 po pc I7.out.2).mono ?_; rintro e w58 ⟨rfl, hB9⟩; have I8 := Lib.hid (c_thr I7.out.1 hB9 I7.out.1.size); clear hB9; have hR8 := HSof.out _ I8.out)
      | (go_at_call 22; have hh := I4; clear hh; refine (HSm.out _ I4.out).mono ?_; rintro e w55 ⟨rfl, hB9⟩; have I5 := Lib.hid (c_thr I4.out hB9 I4.out.size); clear hB9; have hR5 := HSof.out _ I5.out)
      | (go_at_call 22; refine (HSm.out _ I3.out).mono ?_; rintro e w54 ⟨rfl, hB9⟩; have I4 := Lib.hid (c_thr I3.out hB9 I3.out.size); clear hB9; have hR4 := HSof.out _ I4.out))
    go_wp2
    go_ret
    exact ⟨rfl, c_thr HV.out.1 I8.out HV.out.1.size⟩
  · have hq2 : sm t u = false := by rw [HQ.out]; exact decide_eq_false hpq
    rw [hq2] at HSm HRs
    have g1 : (pd.toList == qd.toList) = false := beq_eq_false_iff_ne.2 (fun h => hpq (ByteArray.ext (Array.ext' (by rw [ByteArray.toList_eq, ByteArray.toList_eq] at h; exact h))))
    clear HQ hq2
    go_region_held3 (fun w' => (w'.cell? ⟨bA, 0, none⟩ = some (.int .i64 t.op) ∧ w'.cell? ⟨bA, 1, none⟩ = some (.int .i64 t.a) ∧ w'.cell? ⟨bA, 2, none⟩ = some (.int .i64 t.n) ∧ w'.cell? ⟨bA, 3, none⟩ = some (.int .i64 t.m) ∧ w'.cell? ⟨bA, 4, none⟩ = some (.string t.s) ∧ w'.cell? ⟨bA, 5, none⟩ = some (.slice o t.ks.length c)) ∧ (w'.cell? ⟨bB, 0, none⟩ = some (.int .i64 u.op) ∧ w'.cell? ⟨bB, 1, none⟩ = some (.int .i64 u.a) ∧ w'.cell? ⟨bB, 2, none⟩ = some (.int .i64 u.n) ∧ w'.cell? ⟨bB, 3, none⟩ = some (.int .i64 u.m) ∧ w'.cell? ⟨bB, 4, none⟩ = some (.string u.s) ∧ w'.cell? ⟨bB, 5, none⟩ = some (.slice p u.ks.length d))) (first | with_reducible assumption) (first
      | (go_at_call 19; refine (HRd.out _ (HZ.out.trans (Below.refl _ _).drew)).mono ?_; rintro e w51 ⟨rfl, hB9⟩; have I1 := Lib.hid (show Below V.heap.size V w51 from c_thr (w1 := w42.drew) (HZ.out.trans (Below.refl _ _).drew) hB9 HZ.out.size); clear hB9; have hR1 := HSof.out _ I1.out)
      | (go_at_call 20; refine (HNm.out _ I1.out).mono ?_; rintro e w52 ⟨rfl, rfl⟩)
      | (go_at_call 21; refine (HRn.out _).mono ?_; rintro e w53 ⟨rfl, hB9⟩; have I3 := Lib.hid (c_thr I1.out hB9 I1.out.size); clear hB9; have hR3 := HSof.out _ I3.out)
      | (go_at_call 23; refine (HRs.out _ I5.out).mono ?_; rintro e w56 ⟨rfl, hB9⟩; have I6 := Lib.hid (c_thr I5.out hB9 I5.out.size); clear hB9; have hR6 := HSof.out _ I6.out)
      | (go_at_call 9; refine (HPl.out _ I6.out).mono ?_; rintro e w57 ⟨po, pl, pc, rfl, htp, hB9, -⟩; obtain rfl := tin_len htp; have I7 := Lib.hid (And.intro (c_thr I6.out hB9 I6.out.size) (tin_mono htp (fun _ _ _ => trivial) : TIn _ All _ _)); clear hB9 htp; have hR7 := HSof.out _ I7.out.1)
      | (go_at_call 22; have hh := I7; clear hh; refine (HSp.out _ I7.out.1 po pc I7.out.2).mono ?_; rintro e w58 ⟨rfl, hB9⟩; have I8 := Lib.hid (c_thr I7.out.1 hB9 I7.out.1.size); clear hB9; have hR8 := HSof.out _ I8.out)
      | (go_at_call 22; have hh := I4; clear hh; refine (HSm.out _ I4.out).mono ?_; rintro e w55 ⟨rfl, hB9⟩; have I5 := Lib.hid (c_thr I4.out hB9 I4.out.size); clear hB9; have hR5 := HSof.out _ I5.out)
      | (go_at_call 22; refine (HSm.out _ I3.out).mono ?_; rintro e w54 ⟨rfl, hB9⟩; have I4 := Lib.hid (c_thr I3.out hB9 I3.out.size); clear hB9; have hR4 := HSof.out _ I4.out))
    go_wp2
    go_ret
    exact ⟨rfl, c_thr HV.out.1 I8.out HV.out.1.size⟩
end Go.Proofs.YtppliplalfpmaaaDoor
