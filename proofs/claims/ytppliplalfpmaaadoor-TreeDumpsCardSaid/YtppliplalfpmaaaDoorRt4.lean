/-
  right of package tree, out of what text, children and inside answer.
-/
import Derived.Test.YtppliplalfpmaaaDoorRt3
import Derived.Deep.CutRange
namespace Go.Proofs.YtppliplalfpmaaaDoor
open Go.RowKit

def andZ (n k : Int) : Bool := bits BinOp.and IntKind.i64 n k == 0
def exprF (t : Tr) : Bool := if t.op == 4 then andZ t.n 57 else exprV t
set_option linter.unusedVariables false in
set_option maxRecDepth 100000 in
set_option maxHeartbeats 2000000 in
theorem isExpr_any (t : Tr) (k : Value) (w : World) : Calls Tryd.prog 73 #[.agg #[.int .i64 t.op, .int .i64 t.a, .int .i64 t.n, .int .i64 t.m, .string t.s, k]] w (RB (exprF t) w) := by
  cases g0 : (t.op == 4) with
  | false =>
    have e : exprF t = exprV t := by unfold exprF; rw [g0]; rfl
    rw [e]
    exact isExpr_nofn t k w g0
  | true =>
    have e : exprF t = andZ t.n 57 := by unfold exprF; rw [g0]; rfl
    rw [e]
    unfold andZ
    obtain ⟨W1, hW1⟩ : ∃ W1, W1 = w.alloc (.cells #[.int .i64 t.op, .int .i64 t.a, .int .i64 t.n, .int .i64 t.m, .string t.s, k] 24) := ⟨_, rfl⟩
    have hB1 : Below w.heap.size w W1 := by rw [hW1]; exact c_box w _
    have hx1 : W1.heap[w.heap.size]? = some (.cells #[.int .i64 t.op, .int .i64 t.a, .int .i64 t.n, .int .i64 t.m, .string t.s, k] 24 (0, 0)) := by rw [hW1]; exact heap_alloc_new w _
    obtain ⟨⟨b0, b1, b2, b3, b4, b5⟩, -, hxl⟩ := c_six hx1
    have HW := Lib.hid hW1
    have HB := Lib.hid hB1
    clear hB1 hW1 hx1
    go_enter Tryd.func73, Tryd.ntmps73
    go_upto_region 1 with fail
    rw [← HW.out]
    go_wp2
    go_ret
    exact ⟨rfl, HB.out⟩
section
variable (tx ch ins : Tr → Bool)
mutual
def rightV : Nat → Bool → Tr → Bool
  | d, sp, .mk o a n m s ks => (decide (d ≤ 200) && (decide (0 ≤ a) && (numsV (.mk o a n m s ks) && (tx (.mk o a n m s ks) && ch (.mk o a n m s ks))))) && (!(linkV (.mk o a n m s ks) && ((n == 1) && !sp)) && (rightL (d + 1) (sp || (o == 53)) ks && ins (.mk o a n m s ks)))
def rightL : Nat → Bool → List Tr → Bool
  | _, _, [] => true
  | d, p, x :: r => rightV d (linkV x && p) x && rightL d false r
end
end
theorem rightV_eq (tx ch ins : Tr → Bool) (d : Nat) (sp : Bool) (t : Tr) : rightV tx ch ins d sp t = ((decide (d ≤ 200) && (decide (0 ≤ t.a) && (numsV t && (tx t && ch t)))) && (!(linkV t && ((t.n == 1) && !sp)) && (rightL tx ch ins (d + 1) (sp || (t.op == 53)) t.ks && ins t))) := by
  cases t; simp only [rightV]; rfl
theorem rightL_at {tx ch ins : Tr → Bool} {d : Nat} {p : Bool} {l : List Tr} {k : Nat} {x : Tr} (hx : l[k]? = some x) : rightL tx ch ins d p (l.drop k) = (rightV tx ch ins d (linkV x && p) x && rightL tx ch ins d false (l.drop (k + 1))) := by
  have hj := (List.getElem?_eq_some_iff.1 hx).1
  have e : l.drop k = x :: l.drop (k + 1) := by
    rw [List.drop_eq_getElem_cons hj]
    congr 1
    exact (List.getElem?_eq_some_iff.1 hx).2
  rw [e]
  rfl
theorem rightL_all {tx ch ins : Tr → Bool} {d : Nat} : ∀ {p : Bool} {l : List Tr}, rightL tx ch ins d p l = true → ∀ x ∈ l, ∃ sp, rightV tx ch ins d sp x = true
  | _, [], _, x, h => by cases h
  | p, y :: r, h, x, hx => by
    unfold rightL at h
    rw [Bool.and_eq_true] at h
    rcases List.mem_cons.1 hx with rfl | hx
    · exact ⟨_, h.1⟩
    · exact rightL_all h.2 x hx
structure RightOK (S : Tr → Prop) (tx ch ins : Tr → Bool) : Prop where
  kids : ∀ t, S t → ∀ x ∈ t.ks, S x
  text : ∀ (t : Tr) (k : Value) (w : World), S t → Calls Tryd.prog 41 #[.agg #[.int .i64 t.op, .int .i64 t.a, .int .i64 t.n, .int .i64 t.m, .string t.s, k]] w (RB (tx t) w)
  children : ∀ (t : Tr) (ao : Option Addr) (cap : Nat) (w : World), S t → t.ks.length ≤ 100000 → TIn w All t (.slice ao t.ks.length cap) → Calls Tryd.prog 42 #[.agg #[.int .i64 t.op, .int .i64 t.a, .int .i64 t.n, .int .i64 t.m, .string t.s, .slice ao t.ks.length cap]] w (RB (ch t) w)
  inside : ∀ (t : Tr) (ao : Option Addr) (cap : Nat) (w : World), S t → t.ks.length ≤ 100000 → TIn w All t (.slice ao t.ks.length cap) → ch t = true → (∀ x ∈ t.ks, ∃ d sp, rightV tx ch ins d sp x = true) → Calls Tryd.prog 44 #[.agg #[.int .i64 t.op, .int .i64 t.a, .int .i64 t.n, .int .i64 t.m, .string t.s, .slice ao t.ks.length cap]] w (RB (ins t) w)
set_option linter.unusedVariables false in
set_option maxRecDepth 100000 in
set_option maxHeartbeats 2000000 in
theorem right_any {S : Tr → Prop} {tx ch ins : Tr → Bool} (ok : RightOK S tx ch ins) : ∀ (N : Nat) (t : Tr) (ao : Option Addr) (cap : Nat) (d : Nat) (sp : Bool) (w : World), t.cnt ≤ N → N ≤ 100000 → d ≤ 1000000 → S t → TIn w All t (.slice ao t.ks.length cap) →
    Calls Tryd.prog 35 #[.agg #[.int .i64 t.op, .int .i64 t.a, .int .i64 t.n, .int .i64 t.m, .string t.s, .slice ao t.ks.length cap], .int .i64 (d : Int), .bool sp] w (RB (rightV tx ch ins d sp t) w) := by
  intro N
  induction N with
  | zero => intro t _ _ _ _ _ h; have := cnt_pos t; omega
  | succ N ih =>
    intro t ao cap d sp w hc hN hd hS ht
    obtain ⟨R, hR⟩ : ∃ R, R = rightV tx ch ins d sp t := ⟨_, rfl⟩
    rw [← hR]
    rw [rightV_eq] at hR
    have hle : ∀ x ∈ t.ks, x.cnt ≤ N := fun x hx => by
      obtain ⟨i, hi⟩ := List.getElem?_of_mem hx
      have := cnt_kid hi
      omega
    have hkl : t.ks.length ≤ 100000 := by have := cntL_len t.ks; have := cnt_ks t; omega
    obtain ⟨W1, hW1⟩ : ∃ W1, W1 = w.alloc (.cells #[.int .i64 t.op, .int .i64 t.a, .int .i64 t.n, .int .i64 t.m, .string t.s, .slice ao t.ks.length cap] 24) := ⟨_, rfl⟩
    have hB1 : Below w.heap.size w W1 := by rw [hW1]; exact c_box w _
    have hx1 : W1.heap[w.heap.size]? = some (.cells #[.int .i64 t.op, .int .i64 t.a, .int .i64 t.n, .int .i64 t.m, .string t.s, .slice ao t.ks.length cap] 24 (0, 0)) := by rw [hW1]; exact heap_alloc_new w _
    obtain ⟨⟨b0, b1, b2, b3, b4, b5⟩, -, hxl⟩ := c_six hx1
    have HW := Lib.hid hW1
    have HB := Lib.hid hB1
    clear hB1 hW1 hx1
    have hX1 : W1.heap[w.heap.size]? = some (.cells #[.int .i64 t.op, .int .i64 t.a, .int .i64 t.n, .int .i64 t.m, .string t.s, .slice ao t.ks.length cap] 24 (0, 0)) := by rw [HW.out]; exact heap_alloc_new w _
    have HX := Lib.hid hX1
    have HT := Lib.hid (tin_kept ht HB.out)
    have HIH : Hid (∀ (x : Tr) (xo : Option Addr) (xc : Nat) (sq : Bool) (W : World), d ≤ 200 → x ∈ t.ks → TIn W All x (.slice xo x.ks.length xc) → Calls Tryd.prog 35 #[.agg #[.int .i64 x.op, .int .i64 x.a, .int .i64 x.n, .int .i64 x.m, .string x.s, .slice xo x.ks.length xc], .int .i64 ((d : Int) + 1), .bool sq] W (RB (rightV tx ch ins (d + 1) sq x) W)) :=
      Lib.hid (fun x xo xc sq W hd2 hx hxt => by have := ih x xo xc (d + 1) sq W (hle x hx) (by omega) (by omega) (ok.kids t hS x hx) hxt; simpa using this)
    have HO := Lib.hid (And.intro hS (And.intro hkl hR))
    have hxlt := c_lt hX1
    have HLT := Lib.hid hxlt
    have HOK := Lib.hid ok
    clear ih hle hN hc ht hS hR hX1 hxl hxlt ok
    cases g1 : decide (d ≤ 200) with
    | false =>
      have g1' : decide ((200 : Int) < (d : Int)) = true := decide_eq_true (by have := of_decide_eq_false g1; omega)
      have hF : R = false := by rw [HO.out.2.2, g1]; rfl
      have HF := Lib.hid hF
      clear hF g1
      go_enter Tryd.func35, Tryd.ntmps35
      go_upto_region 1 with fail
      rw [← HW.out]
      go_wp2
      go_ret
      exact ⟨ret_b2 HF.out.symm, HB.out⟩
    | true =>
      have g1' : decide ((200 : Int) < (d : Int)) = false := decide_eq_false (by have := of_decide_eq_true g1; omega)
      cases g2 : decide (0 ≤ t.a) with
      | false =>
        have g2' : decide (t.a < 0) = true := decide_eq_true (by have := of_decide_eq_false g2; omega)
        have hF : R = false := by rw [HO.out.2.2, g2]; simp
        have HF := Lib.hid hF
        clear hF g1 g2
        go_enter Tryd.func35, Tryd.ntmps35
        go_upto_region 1 with fail
        rw [← HW.out]
        go_wp2
        go_ret
        exact ⟨ret_b2 HF.out.symm, HB.out⟩
      | true =>
        have g2' : decide (t.a < 0) = false := decide_eq_false (by have := of_decide_eq_true g2; omega)
        have HG := Lib.hid (And.intro g1 g2)
        have HNU := Lib.hid (fun (W : World) => numbers_any t (.slice ao t.ks.length cap) W)
        have HTX := Lib.hid (fun (W : World) => HOK.out.text t (.slice ao t.ks.length cap) W HO.out.1)
        have HCH := Lib.hid (fun (W : World) (h : TIn W All t (.slice ao t.ks.length cap)) => HOK.out.children t ao cap W HO.out.1 HO.out.2.1 h)
        clear g1 g2
        cases g3 : numsV t with
        | false =>
          have hF : R = false := by rw [HO.out.2.2, g3]; simp
          have HF := Lib.hid hF
          rw [g3] at HNU
          clear hF
          go_enter Tryd.func35, Tryd.ntmps35
          go_upto_region 1 with fail
          rw [← HW.out]
          go_wp2_with fail
          refine (HNU.out _).mono ?_
          rintro e w2 ⟨rfl, hb2⟩
          have HB2 := Lib.hid (c_thr HB.out hb2 HB.out.size)
          clear hb2
          go_wp2
          go_ret
          exact ⟨ret_b2 HF.out.symm, HB2.out⟩
        | true =>
          rw [g3] at HNU
          cases g4 : tx t with
          | false =>
            have hF : R = false := by rw [HO.out.2.2, g4]; simp
            have HF := Lib.hid hF
            rw [g4] at HTX
            clear hF
            go_enter Tryd.func35, Tryd.ntmps35
            go_upto_region 1 with fail
            rw [← HW.out]
            go_wp2_with fail
            refine (HNU.out _).mono ?_
            rintro e w2 ⟨rfl, hb2⟩
            have hx2 := (hb2.block _ HLT.out).trans HX.out
            have H2 := Lib.hid hb2
            clear hb2 b0 b1 b2 b3 b4 b5
            obtain ⟨⟨b0, b1, b2, b3, b4, b5⟩, -, hxl⟩ := c_six hx2
            clear hxl hx2
            go_wp2_with fail
            refine (HTX.out _).mono ?_
            rintro e w3 ⟨rfl, hb3⟩
            have HB2 := Lib.hid (c_thr HB.out (c_thr H2.out hb3 H2.out.size) HB.out.size)
            clear hb3
            go_wp2
            go_ret
            exact ⟨ret_b2 HF.out.symm, HB2.out⟩
          | true =>
            rw [g4] at HTX
            cases g5 : ch t with
            | false =>
              have hF : R = false := by rw [HO.out.2.2, g5]; simp
              have HF := Lib.hid hF
              rw [g5] at HCH
              clear hF
              go_enter Tryd.func35, Tryd.ntmps35
              go_upto_region 1 with fail
              rw [← HW.out]
              go_wp2_with fail
              refine (HNU.out _).mono ?_
              rintro e w2 ⟨rfl, hb2⟩
              have hx2 := (hb2.block _ HLT.out).trans HX.out
              have H2 := Lib.hid hb2
              clear hb2 b0 b1 b2 b3 b4 b5
              obtain ⟨⟨b0, b1, b2, b3, b4, b5⟩, -, hxl⟩ := c_six hx2
              clear hxl hx2
              go_wp2_with fail
              refine (HTX.out _).mono ?_
              rintro e w3 ⟨rfl, hb3⟩
              have hb3' := c_thr H2.out hb3 H2.out.size
              have hx3 := (hb3'.block _ HLT.out).trans HX.out
              have H3 := Lib.hid hb3'
              clear hb3 hb3' b0 b1 b2 b3 b4 b5
              obtain ⟨⟨b0, b1, b2, b3, b4, b5⟩, -, hxl⟩ := c_six hx3
              clear hxl hx3
              go_wp2_with fail
              refine (HCH.out _ (tin_kept HT.out H3.out)).mono ?_
              rintro e w4 ⟨rfl, hb4⟩
              have HB2 := Lib.hid (c_thr HB.out (c_thr H3.out hb4 H3.out.size) HB.out.size)
              clear hb4
              go_wp2
              go_ret
              exact ⟨ret_b2 HF.out.symm, HB2.out⟩
            | true =>
              rw [g5] at HCH
              have HG5 := Lib.hid g5
              have hR2 : R = (!(linkV t && ((t.n == 1) && !sp)) && (rightL tx ch ins (d + 1) (sp || (t.op == 53)) t.ks && ins t)) := by rw [HO.out.2.2, HG.out.1, HG.out.2, g3, g4, g5]; rfl
              have HR2 := Lib.hid hR2
              have HD2 := Lib.hid (of_decide_eq_true HG.out.1)
              have HLK := Lib.hid (fun (W : World) => isLink_any t (.slice ao t.ks.length cap) W)
              clear hR2 HG g3 g4 g5
              go_enter Tryd.func35, Tryd.ntmps35
              go_upto_region 1 with fail
              rw [← HW.out]
              go_wp2_with fail
              refine (HNU.out _).mono ?_
              rintro e w2 ⟨rfl, hb2⟩
              have hx2 := (hb2.block _ HLT.out).trans HX.out
              have H2 := Lib.hid hb2
              clear hb2 b0 b1 b2 b3 b4 b5
              obtain ⟨⟨b0, b1, b2, b3, b4, b5⟩, -, hxl⟩ := c_six hx2
              clear hxl hx2
              go_wp2_with fail
              refine (HTX.out _).mono ?_
              rintro e w3 ⟨rfl, hb3⟩
              have hb3' := c_thr H2.out hb3 H2.out.size
              have hx3 := (hb3'.block _ HLT.out).trans HX.out
              have H3 := Lib.hid hb3'
              clear hb3 hb3' b0 b1 b2 b3 b4 b5
              obtain ⟨⟨b0, b1, b2, b3, b4, b5⟩, -, hxl⟩ := c_six hx3
              clear hxl hx3
              go_wp2_with fail
              refine (HCH.out _ (tin_kept HT.out H3.out)).mono ?_
              rintro e w4 ⟨rfl, hb4⟩
              have hb4' := c_thr H3.out hb4 H3.out.size
              have hx4 := (hb4'.block _ HLT.out).trans HX.out
              have H4 := Lib.hid hb4'
              clear hb4 hb4' b0 b1 b2 b3 b4 b5
              obtain ⟨⟨b0, b1, b2, b3, b4, b5⟩, -, hxl⟩ := c_six hx4
              clear hxl hx4
              go_upto_region 3 with fail
              go_cut [42] from 32 (fun s wc => s = .bool (linkV t && ((t.n == 1) && !sp)) ∧ Below W1.heap.size W1 wc)
              case first =>
                cases g6 : linkV t with
                | false =>
                  rw [g6] at HLK
                  go_wp2_with fail
                  refine (HLK.out _).mono ?_
                  rintro e w5 ⟨rfl, hb5⟩
                  have hb5' := c_thr H4.out hb5 H4.out.size
                  have hx5 := (hb5'.block _ HLT.out).trans HX.out
                  have H5 := Lib.hid hb5'
                  clear hb5 hb5' b0 b1 b2 b3 b4 b5
                  obtain ⟨⟨b0, b1, b2, b3, b4, b5⟩, -, hxl⟩ := c_six hx5
                  clear hxl hx5
                  go_wp2
                  go_meet
                  case rel => exact ⟨by rw [g6]; rfl, H5.out⟩
                | true =>
                  rw [g6] at HLK
                  cases g7 : (t.n == 1) with
                  | false =>
                    go_wp2_with fail
                    refine (HLK.out _).mono ?_
                    rintro e w5 ⟨rfl, hb5⟩
                    have hb5' := c_thr H4.out hb5 H4.out.size
                    have hx5 := (hb5'.block _ HLT.out).trans HX.out
                    have H5 := Lib.hid hb5'
                    clear hb5 hb5' b0 b1 b2 b3 b4 b5
                    obtain ⟨⟨b0, b1, b2, b3, b4, b5⟩, -, hxl⟩ := c_six hx5
                    clear hxl hx5
                    go_wp2
                    go_meet
                    case rel => exact ⟨by rw [g6, g7]; rfl, H5.out⟩
                  | true =>
                    cases sp with
                    | true =>
                      go_wp2_with fail
                      refine (HLK.out _).mono ?_
                      rintro e w5 ⟨rfl, hb5⟩
                      have hb5' := c_thr H4.out hb5 H4.out.size
                      have hx5 := (hb5'.block _ HLT.out).trans HX.out
                      have H5 := Lib.hid hb5'
                      clear hb5 hb5' b0 b1 b2 b3 b4 b5
                      obtain ⟨⟨b0, b1, b2, b3, b4, b5⟩, -, hxl⟩ := c_six hx5
                      clear hxl hx5
                      go_wp2
                      go_meet
                      case rel => exact ⟨by rw [g6, g7]; rfl, H5.out⟩
                    | false =>
                      go_wp2_with fail
                      refine (HLK.out _).mono ?_
                      rintro e w5 ⟨rfl, hb5⟩
                      have hb5' := c_thr H4.out hb5 H4.out.size
                      have hx5 := (hb5'.block _ HLT.out).trans HX.out
                      have H5 := Lib.hid hb5'
                      clear hb5 hb5' b0 b1 b2 b3 b4 b5
                      obtain ⟨⟨b0, b1, b2, b3, b4, b5⟩, -, hxl⟩ := c_six hx5
                      clear hxl hx5
                      go_wp2
                      go_meet
                      case rel => exact ⟨by rw [g6, g7]; rfl, H5.out⟩
              case rest =>
                obtain ⟨rfl, hbc⟩ := hcut
                have hxc := (hbc.block _ HLT.out).trans HX.out
                have HC := Lib.hid hbc
                clear hbc H4 H3 H2 HLK HNU HTX HCH b0 b1 b2 b3 b4 b5
                obtain ⟨⟨b0, b1, b2, b3, b4, b5⟩, -, hxl⟩ := c_six hxc
                clear hxl hxc
                cases g6 : (linkV t && ((t.n == 1) && !sp)) with
                | true =>
                  have hF : R = false := by rw [HR2.out, g6]; rfl
                  have HF := Lib.hid hF
                  have HB2 := Lib.hid (c_thr HB.out HC.out HB.out.size)
                  clear hF
                  go_wp2
                  go_ret
                  exact ⟨ret_b2 HF.out.symm, HB2.out⟩
                | false =>
                  have hR3 : R = (rightL tx ch ins (d + 1) (sp || (t.op == 53)) t.ks && ins t) := by rw [HR2.out, g6]; rfl
                  have HR3 := Lib.hid hR3
                  have HG6 := Lib.hid g6
                  clear hR3 g6
                  obtain ⟨p, hp⟩ : ∃ p, p = (sp || (t.op == 53)) := ⟨_, rfl⟩
                  rw [← hp] at HR3
                  have HPP := Lib.hid hp
                  clear hp
                  have hd2 : d ≤ 200 := HD2.out
                  go_wp2
                  go_loopw [46] (fun i wr => ∃ k : Nat, i = .int .i64 (k : Int) ∧ k ≤ t.ks.length ∧ rightL tx ch ins (d + 1) p t.ks = rightL tx ch ins (d + 1) (if k = 0 then p else false) (t.ks.drop k) ∧ Below W1.heap.size W1 wr) (fun i _ => t.ks.length - natOf i)
                  case atStart => exact ⟨0, rfl, Nat.zero_le _, by simp, HC.out⟩
                  case round =>
                    obtain ⟨k, rfl, hk, hE, hbr⟩ := hrel
                    clear HC b0 b1 b2 b3 b4 b5
                    have hkl := HO.out.2.1
                    have hxr := (hbr.block _ HLT.out).trans HX.out
                    obtain ⟨⟨b0, b1, b2, b3, b4, b5⟩, -, hxl⟩ := c_six hxr
                    have HXR := Lib.hid (And.intro hxr hxl)
                    have HBR := Lib.hid (And.intro hbr hE)
                    clear hxl hxr hbr hE
                    by_cases hlt : k < t.ks.length
                    · have g8 : decide ((k : Int) < (t.ks.length : Int)) = true := decide_eq_true (by omega)
                      have g9 : (k : Int) < (t.ks.length : Int) := by omega
                      obtain ⟨x, hx⟩ : ∃ x, t.ks[k]? = some x := ⟨_, List.getElem?_eq_getElem hlt⟩
                      obtain ⟨bb, oo, xo, xl, xc, rfl, hbb, -, hcc, hxt⟩ := kidS HT.out hx
                      obtain rfl := tin_len hxt
                      obtain ⟨c0, c1, c2, c3, c4, c5⟩ := ncells_kept (HBR.out.1.block bb hbb) hcc
                      have hbw : bb < wr.heap.size := Nat.lt_of_lt_of_le hbb HBR.out.1.size
                      obtain ⟨nx, hnx⟩ : ∃ nx, nx = (linkV x && (if k = 0 then p else false)) := ⟨_, rfl⟩
                      have hst := HBR.out.2
                      rw [rightL_at hx, ← hnx] at hst
                      have HST := Lib.hid (And.intro hst (And.intro hnx (And.intro hx hxt)))
                      have HXK := Lib.hid (fun (W : World) (sq : Bool) (hW : Below W1.heap.size W1 W) => HIH.out x xo xc sq W HD2.out (List.mem_of_getElem? hx) (tin_kept hxt hW))
                      have HLX := Lib.hid (fun (W : World) => isLink_any x (.slice xo x.ks.length xc) W)
                      clear hst hnx hx hxt hcc
                      obtain ⟨W2, hW2⟩ : ∃ W2, W2 = wr.alloc (.cells #[.int .i64 x.op, .int .i64 x.a, .int .i64 x.n, .int .i64 x.m, .string x.s, .slice xo x.ks.length xc] 24) := ⟨_, rfl⟩
                      have hb2 : Below wr.heap.size wr W2 := by rw [hW2]; exact c_box wr _
                      have hx2 : W2.heap[wr.heap.size]? = some (.cells #[.int .i64 x.op, .int .i64 x.a, .int .i64 x.n, .int .i64 x.m, .string x.s, .slice xo x.ks.length xc] 24 (0, 0)) := by rw [hW2]; exact heap_alloc_new wr _
                      have ht2 := (hb2.block _ HXR.out.2).trans HXR.out.1
                      have HW2 := Lib.hid hW2
                      have HB2 := Lib.hid (And.intro (c_thr HBR.out.1 hb2 HBR.out.1.size) (And.intro hx2 (And.intro ht2 (And.intro (c_lt hx2) (c_lt ht2)))))
                      obtain ⟨⟨d0, d1, d2, d3, d4, d5⟩, -, hxl⟩ := c_six hx2
                      clear hxl hb2 hx2 hW2
                      go_upto_region 8 with fail
                      rw [← HW2.out]
                      clear b0 b1 b2 b3 b4 b5 c0 c1 c2 c3 c4 c5
                      obtain ⟨⟨b0, b1, b2, b3, b4, b5⟩, -, hxl⟩ := c_six ht2
                      clear hxl ht2
                      go_cut [9] from 51 to 64 (fun s wc => s = .bool nx ∧ Below W2.heap.size W2 wc)
                      case first =>
                        cases g10 : ((k : Int) == 0) with
                        | false =>
                          have hk0 : ¬ k = 0 := by intro e; rw [e] at g10; cases g10
                          have hnx : nx = false := by rw [HST.out.2.1, if_neg hk0, Bool.and_false]
                          have HNX := Lib.hid hnx
                          clear hk0 hnx
                          go_wp2
                          go_meet
                          case rel => exact ⟨by rw [HNX.out], Below.refl _ _⟩
                        | true =>
                          have hk0 : k = 0 := by simpa using g10
                          have hnx : nx = (linkV x && p) := by rw [HST.out.2.1, if_pos hk0]
                          have HNX := Lib.hid hnx
                          clear hk0 hnx
                          cases g11 : linkV x with
                          | false =>
                            rw [g11] at HLX
                            go_wp2_with fail
                            refine (HLX.out _).mono ?_
                            rintro e w6 ⟨rfl, hb6⟩
                            have hx6 := (hb6.block _ HB2.out.2.2.2.2).trans HB2.out.2.2.1
                            have H6 := Lib.hid hb6
                            clear hb6 b0 b1 b2 b3 b4 b5
                            obtain ⟨⟨b0, b1, b2, b3, b4, b5⟩, -, hxl⟩ := c_six hx6
                            clear hxl hx6
                            go_wp2
                            go_meet
                            case rel => exact ⟨by rw [HNX.out, g11]; rfl, H6.out⟩
                          | true =>
                            rw [g11] at HLX
                            cases g12 : sp with
                            | true =>
                              have hpp : p = true := by rw [HPP.out, g12]; rfl
                              have HP2 := Lib.hid hpp
                              clear hpp
                              cases g12
                              go_wp2_with fail
                              refine (HLX.out _).mono ?_
                              rintro e w6 ⟨rfl, hb6⟩
                              have hx6 := (hb6.block _ HB2.out.2.2.2.2).trans HB2.out.2.2.1
                              have H6 := Lib.hid hb6
                              clear hb6 b0 b1 b2 b3 b4 b5
                              obtain ⟨⟨b0, b1, b2, b3, b4, b5⟩, -, hxl⟩ := c_six hx6
                              clear hxl hx6
                              go_wp2
                              go_meet
                              case rel => exact ⟨by rw [HNX.out, g11, HP2.out]; rfl, H6.out⟩
                            | false =>
                              cases g13 : (t.op == 53) with
                              | true =>
                                have hpp : p = true := by rw [HPP.out, g12, g13]; rfl
                                have HP2 := Lib.hid hpp
                                clear hpp
                                cases g12
                                go_wp2_with fail
                                refine (HLX.out _).mono ?_
                                rintro e w6 ⟨rfl, hb6⟩
                                have hx6 := (hb6.block _ HB2.out.2.2.2.2).trans HB2.out.2.2.1
                                have H6 := Lib.hid hb6
                                clear hb6 b0 b1 b2 b3 b4 b5
                                obtain ⟨⟨b0, b1, b2, b3, b4, b5⟩, -, hxl⟩ := c_six hx6
                                clear hxl hx6
                                go_wp2
                                go_meet
                                case rel => exact ⟨by rw [HNX.out, g11, HP2.out]; rfl, H6.out⟩
                              | false =>
                                have hpp : p = false := by rw [HPP.out, g12, g13]; rfl
                                have HP2 := Lib.hid hpp
                                clear hpp
                                cases g12
                                go_wp2_with fail
                                refine (HLX.out _).mono ?_
                                rintro e w6 ⟨rfl, hb6⟩
                                have hx6 := (hb6.block _ HB2.out.2.2.2.2).trans HB2.out.2.2.1
                                have H6 := Lib.hid hb6
                                clear hb6 b0 b1 b2 b3 b4 b5
                                obtain ⟨⟨b0, b1, b2, b3, b4, b5⟩, -, hxl⟩ := c_six hx6
                                clear hxl hx6
                                go_wp2
                                go_meet
                                case rel => exact ⟨by rw [HNX.out, g11, HP2.out]; rfl, H6.out⟩
                      case rest =>
                        obtain ⟨rfl, hbc⟩ := hcut
                        have hxc := (hbc.block _ HB2.out.2.2.2.1).trans HB2.out.2.1
                        have HC2 := Lib.hid (c_thr HB2.out.1 hbc HB2.out.1.size)
                        clear hbc b0 b1 b2 b3 b4 b5 d0 d1 d2 d3 d4 d5 HLX
                        obtain ⟨⟨d0, d1, d2, d3, d4, d5⟩, -, hxl⟩ := c_six hxc
                        clear hxl hxc
                        cases g14 : rightV tx ch ins (d + 1) nx x with
                        | true =>
                          have HXK2 := Lib.hid (fun (W : World) (hW : Below W1.heap.size W1 W) => HXK.out W nx hW)
                          rw [g14] at HXK2
                          have hE2 : rightL tx ch ins (d + 1) p t.ks = rightL tx ch ins (d + 1) (if k + 1 = 0 then p else false) (t.ks.drop (k + 1)) := by rw [HST.out.1, g14, if_neg (by omega)]; rfl
                          have HE2 := Lib.hid hE2
                          clear hE2 g14
                          go_wp2_with fail
                          refine (HXK2.out _ HC2.out).mono ?_
                          rintro e w7 ⟨rfl, hb7⟩
                          have HB7 := Lib.hid (c_thr HC2.out hb7 HC2.out.size)
                          clear hb7
                          go_wp2
                          go_roundw
                          case rel => exact ⟨k + 1, by go_num, by omega, HE2.out, HB7.out⟩
                          case measure => simp [natOf]; omega
                        | false =>
                          have HXK2 := Lib.hid (fun (W : World) (hW : Below W1.heap.size W1 W) => HXK.out W nx hW)
                          rw [g14] at HXK2
                          have hF : R = false := by rw [HR3.out, HST.out.1, g14]; rfl
                          have HF := Lib.hid hF
                          clear hF g14
                          go_wp2_with fail
                          refine (HXK2.out _ HC2.out).mono ?_
                          rintro e w7 ⟨rfl, hb7⟩
                          have HB7 := Lib.hid (c_thr HC2.out hb7 HC2.out.size)
                          clear hb7
                          go_wp2
                          go_ret
                          exact ⟨ret_b2 HF.out.symm, c_thr HB.out HB7.out HB.out.size⟩
                    · have g8 : decide ((k : Int) < (t.ks.length : Int)) = false := decide_eq_false (by omega)
                      have hkk : k = t.ks.length := by omega
                      have hall : rightL tx ch ins (d + 1) p t.ks = true := by rw [HBR.out.2, List.drop_of_length_le (by omega)]; rfl
                      have hF : R = ins t := by rw [HR3.out, hall]; rfl
                      have HF := Lib.hid hF
                      have HIN := Lib.hid (HOK.out.inside t ao cap wr HO.out.1 HO.out.2.1 (tin_kept HT.out HBR.out.1) HG5.out (fun x hx => ⟨d + 1, rightL_all hall x hx⟩))
                      clear hF hall hkk
                      go_wp2_with fail
                      refine HIN.out.mono ?_
                      rintro e w8 ⟨rfl, hb8⟩
                      have HB8 := Lib.hid (c_thr HBR.out.1 hb8 HBR.out.1.size)
                      clear hb8
                      go_wp2
                      go_ret
                      exact ⟨ret_b2 HF.out.symm, c_thr HB.out HB8.out HB.out.size⟩
end Go.Proofs.YtppliplalfpmaaaDoor
