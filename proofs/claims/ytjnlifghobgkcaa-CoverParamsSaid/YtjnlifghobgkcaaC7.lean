/-
  listed of package cover at this translation.
-/
import Derived.Test.YtjnlifghobgkcaaC6
import Derived.Deep.RegionHeld3
import Derived.Deep.Cut
namespace Go.Proofs.Ytjnlifghobgkcaa
open Go.RowKit

theorem tin_len {w : World} {S : Nat → Prop} {t : Tr} {ao : Option Addr} {len cap : Nat} (h : TIn w S t (.slice ao len cap)) : len = t.ks.length := by
  obtain ⟨ao', cap', e, _⟩ := tin_open h
  have : ao = ao' ∧ len = t.ks.length ∧ cap = cap' := by simpa using e
  exact this.2.1
theorem two_of {w : World} {b : Nat} {x0 x1 x2 x3 x4 x5 : Value} {T : TypeId} (h : w.heap[b]? = some (.cells #[x0, x1, x2, x3, x4, x5] T (0, 0))) : w.cell? ⟨b, 1, none⟩ = some x1 ∧ w.cell? ⟨b, 5, none⟩ = some x5 := ⟨(c_six h).1.2.1, (c_six h).1.2.2.2.2.2⟩
theorem two_st6 {w : World} {g : Nat} {x0 x1 x2 x3 x4 x5 : Value} {b : Nat} {y1 y5 : Value} (h : w.cell? ⟨b, 1, none⟩ = some y1 ∧ w.cell? ⟨b, 5, none⟩ = some y5) (hb : ¬ b = g) :
    ((((((w.setCell ⟨g, 0, none⟩ x0).setCell ⟨g, 1, none⟩ x1).setCell ⟨g, 2, none⟩ x2).setCell ⟨g, 3, none⟩ x3).setCell ⟨g, 4, none⟩ x4).setCell ⟨g, 5, none⟩ x5).cell? ⟨b, 1, none⟩ = some y1 ∧ ((((((w.setCell ⟨g, 0, none⟩ x0).setCell ⟨g, 1, none⟩ x1).setCell ⟨g, 2, none⟩ x2).setCell ⟨g, 3, none⟩ x3).setCell ⟨g, 4, none⟩ x4).setCell ⟨g, 5, none⟩ x5).cell? ⟨b, 5, none⟩ = some y5 :=
  ⟨(st6_cell w g 0 x0 x1 x2 x3 x4 x5 b 1 hb).trans h.1, (st6_cell w g 0 x0 x1 x2 x3 x4 x5 b 5 hb).trans h.2⟩
theorem ent41 : EntersF 41 := enters_of Try.func41 (by kernel_rfl) rfl
theorem ent50 : EntersF 50 := enters_of Try.func50 (by kernel_rfl) rfl
theorem ent23 : EntersF 23 := enters_of Try.func23 (by kernel_rfl) rfl
theorem ent36 : EntersF 36 := enters_of Try.func36 (by kernel_rfl) rfl
theorem ent38 : EntersF 38 := enters_of Try.func38 (by kernel_rfl) rfl
theorem ent27 : EntersF 27 := enters_of Try.func27 (by kernel_rfl) rfl
theorem kid_le {t x : Tr} {f : Nat} (h : t.cnt ≤ f) (hx : x ∈ t.ks) : x.cnt ≤ f := by
  obtain ⟨i, hi⟩ := List.mem_iff_getElem?.1 hx
  have := cnt_kid hi
  omega
theorem ks_le {t : Tr} {f : Nat} (h : t.cnt ≤ f) (hf : f ≤ 100000) : t.ks.length ≤ 100000 := by
  have := cntL_len t.ks
  obtain ⟨op, a, n, m, s, ks⟩ := t
  have h2 : ks.length ≤ cntL ks := cntL_len ks
  unfold Tr.cnt at h
  show ks.length ≤ 100000
  omega
set_option linter.unusedVariables false in
set_option maxRecDepth 100000 in
set_option maxHeartbeats 1000000 in
theorem listed_part (W0 : World) (f : Nat) (P : Part) (hf : f ≤ 100000) (hP : PartAt 23 #[] W0 f 200 P) (hE : PartAt 50 #[] W0 f 200 (eleG P)) : PartAt 41 #[] W0 f 200 (lisG P) := by
  refine ⟨ent41, fun w hW t ao len cap d l ht hd htin => ?_⟩
  obtain rfl := tin_len htin
  have hks := ks_le ht hf
  unfold lisG
  by_cases h41 : t.op = 41
  · rw [if_neg (by simpa using h41)]
    have g0 : (t.op != 41) = false := by simp [h41]
    by_cases h2 : l = true ∧ t.ks.length = 1
    · rw [if_pos h2]
      obtain ⟨rfl, h1⟩ := h2
      have g1 : ((t.ks.length : Int) != 1) = false := by rw [h1]; rfl
      have HP := Lib.hid (fun (W : World) (hB : Below w.heap.size w W) => part_below (part_below hP hW) hB)
      have HT := Lib.hid (fun (W : World) (hB : Below w.heap.size w W) => tin_kept htin hB)
      have HKL := Lib.hid (fun x (hx : x ∈ t.ks) => kid_le ht hx)
      clear hP hE htin hW h41 h1
      cases hR : madeV 64 t.a 0 t.ks d (withinV P) with
      | ok r =>
        show Calls Try.prog 41 _ w (OkPost w (Fresh w) r)
        have HR := Lib.hid hR
        clear hR
        go_enter Try.func41, Try.ntmps41
        go_upto_region 5 with fail
        obtain ⟨W2, hW2⟩ : ∃ W2, W2 = ((w.alloc (.cells #[.int .i64 t.op, .int .i64 t.a, .int .i64 t.n, .int .i64 t.m, .string t.s, .slice ao t.ks.length cap] 27)).alloc (.cells #[.int .i64 0, .int .i64 0, .int .i64 0, .int .i64 0, .string ⟨#[]⟩, .slice none 0 0] 27)) := ⟨_, rfl⟩
        rw [← hW2]
        have hB2 : Below w.heap.size w W2 := by rw [hW2]; exact c_box2 w _ _
        have hzW : W2.heap.size = w.heap.size + 2 := by rw [hW2]; simp
        have hbox : W2.heap[w.heap.size]? = some (.cells #[.int .i64 t.op, .int .i64 t.a, .int .i64 t.n, .int .i64 t.m, .string t.s, .slice ao t.ks.length cap] 27 (0, 0)) := by rw [hW2]; exact c_new1 w _ _
        have hres : W2.heap[w.heap.size + 1]? = some (.cells #[.int .i64 0, .int .i64 0, .int .i64 0, .int .i64 0, .string ⟨#[]⟩, .slice none 0 0] 27 (0, 0)) := by rw [hW2]; exact c_new2 w _ _
        have hS0 := two_of (w := W2.drew) hbox
        have HX := Lib.hid (And.intro hB2 (And.intro hbox (And.intro hres hzW)))
        have hBd : Below w.heap.size w W2.drew := hB2.drew
        have HBd := Lib.hid hBd
        clear hW2 hB2 hbox hres hzW hBd
        go_region_held3 (fun w' => w'.cell? ⟨w.heap.size, 1, none⟩ = some (.int .i64 t.a) ∧ w'.cell? ⟨w.heap.size, 5, none⟩ = some (.slice ao t.ks.length cap)) (first | with_reducible assumption | with_reducible exact two_st6 hS2 (by omega)) (first
          | (go_at_call 37; refine (within_any 23 #[] f 201 P _ (by omega) (HP.out _ HBd.out)).mono ?_; rintro e w1 ⟨b1, rfl, hP1, hB⟩; have hk1 := c_kept hB (c_lt HX.out.2.1) HX.out.2.1; have hk2 := c_kept hB (c_lt HX.out.2.2.1) HX.out.2.2.1; have hS2 := two_of hk1; have HK := Lib.hid (And.intro hk1 hk2); have hz : W2.heap.size ≤ w1.heap.size := hB.size; have HZ := Lib.hid hz; have HBe := Lib.hid (c_thr HBd.out hB HBd.out.size); have HP1 := Lib.hid hP1; have HZ2 := Lib.hid (show w.heap.size + 2 ≤ w1.heap.size by rw [← HX.out.2.2.2]; exact hz); clear hk1 hk2 hz hB hP1)
          | (go_at_call 26; have HM := made_any 48 _ f (withinV P) 64 t.a 0 t ao cap d 201 _ (by omega) HP1.out hf HKL.out hks (by omega) (HT.out _ HBe.out); rw [HR.out] at HM; refine HM.mono ?_; rintro e w9 ⟨yo, yl, yc, rfl, htin9, hB9⟩; have hS2 := two_of (c_kept hB9 (Nat.lt_of_lt_of_le (c_lt HX.out.2.1) HZ.out) HK.out.1); obtain ⟨⟨r0, r1, r2, r3, r4, r5⟩, ⟨q0, q1, q2, q3, q4, q5⟩, hr⟩ := c_six (c_kept hB9 (Nat.lt_of_lt_of_le (c_lt HX.out.2.2.1) HZ.out) HK.out.2); have hW9 := c_thr HBe.out hB9 HBe.out.size; have HF := Lib.hid (And.intro htin9 hW9); clear htin9 hW9 hB9))
        go_wp2
        refine bodyPost_ret (v := .tuple #[.agg #[.int .i64 r.op, .int .i64 r.a, .int .i64 r.n, .int .i64 r.m, .string r.s, .slice yo yl yc], .int .i64 0]) (by simp [results, Try.results41, go_sem, r0, r1, r2, r3, r4, r5]) rfl ?_
        exact ⟨yo, yl, yc, rfl, fin_ok HF.out.1 HZ2.out HF.out.2⟩
      | error x =>
        show Calls Try.prog 41 _ w (ErPost w x)
        have HR := Lib.hid hR
        clear hR
        go_enter Try.func41, Try.ntmps41
        go_upto_region 5 with fail
        obtain ⟨W2, hW2⟩ : ∃ W2, W2 = ((w.alloc (.cells #[.int .i64 t.op, .int .i64 t.a, .int .i64 t.n, .int .i64 t.m, .string t.s, .slice ao t.ks.length cap] 27)).alloc (.cells #[.int .i64 0, .int .i64 0, .int .i64 0, .int .i64 0, .string ⟨#[]⟩, .slice none 0 0] 27)) := ⟨_, rfl⟩
        rw [← hW2]
        have hB2 : Below w.heap.size w W2 := by rw [hW2]; exact c_box2 w _ _
        have hzW : W2.heap.size = w.heap.size + 2 := by rw [hW2]; simp
        have hbox : W2.heap[w.heap.size]? = some (.cells #[.int .i64 t.op, .int .i64 t.a, .int .i64 t.n, .int .i64 t.m, .string t.s, .slice ao t.ks.length cap] 27 (0, 0)) := by rw [hW2]; exact c_new1 w _ _
        have hres : W2.heap[w.heap.size + 1]? = some (.cells #[.int .i64 0, .int .i64 0, .int .i64 0, .int .i64 0, .string ⟨#[]⟩, .slice none 0 0] 27 (0, 0)) := by rw [hW2]; exact c_new2 w _ _
        have hS0 := two_of (w := W2.drew) hbox
        have HX := Lib.hid (And.intro hB2 (And.intro hbox (And.intro hres hzW)))
        have hBd : Below w.heap.size w W2.drew := hB2.drew
        have HBd := Lib.hid hBd
        clear hW2 hB2 hbox hres hzW hBd
        go_region_held3 (fun w' => w'.cell? ⟨w.heap.size, 1, none⟩ = some (.int .i64 t.a) ∧ w'.cell? ⟨w.heap.size, 5, none⟩ = some (.slice ao t.ks.length cap)) (first | with_reducible assumption | with_reducible exact two_st6 hS2 (by omega)) (first
          | (go_at_call 37; refine (within_any 23 #[] f 201 P _ (by omega) (HP.out _ HBd.out)).mono ?_; rintro e w1 ⟨b1, rfl, hP1, hB⟩; have hk1 := c_kept hB (c_lt HX.out.2.1) HX.out.2.1; have hk2 := c_kept hB (c_lt HX.out.2.2.1) HX.out.2.2.1; have hS2 := two_of hk1; have HK := Lib.hid (And.intro hk1 hk2); have hz : W2.heap.size ≤ w1.heap.size := hB.size; have HZ := Lib.hid hz; have HBe := Lib.hid (c_thr HBd.out hB HBd.out.size); have HP1 := Lib.hid hP1; have HZ2 := Lib.hid (show w.heap.size + 2 ≤ w1.heap.size by rw [← HX.out.2.2.2]; exact hz); clear hk1 hk2 hz hB hP1)
          | (go_at_call 26; have HM := made_any 48 _ f (withinV P) 64 t.a 0 t ao cap d 201 _ (by omega) HP1.out hf HKL.out hks (by omega) (HT.out _ HBe.out); rw [HR.out] at HM; refine HM.mono ?_; rintro e w9 ⟨hx, rfl, hB9⟩; have hS2 := two_of (c_kept hB9 (Nat.lt_of_lt_of_le (c_lt HX.out.2.1) HZ.out) HK.out.1); obtain ⟨⟨r0, r1, r2, r3, r4, r5⟩, ⟨q0, q1, q2, q3, q4, q5⟩, hr⟩ := c_six (c_kept hB9 (Nat.lt_of_lt_of_le (c_lt HX.out.2.2.1) HZ.out) HK.out.2); have hW9 := c_thr HBe.out hB9 HBe.out.size; have HF := Lib.hid (And.intro hx hW9); clear hx hW9 hB9))
        go_wp2
        refine bodyPost_ret (v := .tuple #[.agg #[.int .i64 0, .int .i64 0, .int .i64 0, .int .i64 0, .string ⟨#[]⟩, .slice none 0 0], .int .i64 x]) (by simp [results, Try.results41, go_sem, r0, r1, r2, r3, r4, r5]) rfl ?_
        exact ⟨HF.out.1, rfl, c_st6 HF.out.2 (by omega)⟩
    · rw [if_neg h2]
      have HP := Lib.hid hP
      clear hP hE htin hW h41
      show Calls Try.prog 41 _ w (ErPost w 24)
      cases l with
      | false =>
        go_enter Try.func41, Try.ntmps41
        go_wp2
        go_returns
        exact ⟨rfl, rfl, c_box2 w _ _⟩
      | true =>
        have g1 : ((t.ks.length : Int) != 1) = true := by
          have : ¬ t.ks.length = 1 := fun e => h2 ⟨rfl, e⟩
          simp
          omega
        go_enter Try.func41, Try.ntmps41
        go_wp2
        go_returns
        exact ⟨rfl, rfl, c_box2 w _ _⟩
  · rw [if_pos h41]
    have g0 : (t.op != 41) = true := by simpa using h41
    obtain ⟨R, hRd⟩ : ∃ R, R = eleG P t d l := ⟨_, rfl⟩
    have HG := Lib.hid (fun (W : World) (hB : Below w.heap.size w W) => hE.run W (c_thr hW hB hW.size) t ao t.ks.length cap d l ht hd (tin_kept htin hB))
    rw [← hRd] at HG ⊢
    simp only [Array.append_empty] at HG
    clear hP hE htin hW hRd h41
    cases hR : R with
    | ok r =>
      rw [hR] at HG
      show Calls Try.prog 41 _ w (OkPost w (Fresh w) r)
      clear hR
      go_enter Try.func41, Try.ntmps41
      go_wp2_with fail
      refine (HG.out _ (c_box2 w _ _)).mono ?_
      rintro e w1 ⟨yo, yl, yc, rfl, htin, hB⟩
      have hres := c_kept hB (by simp) (c_new2 w _ _)
      have hU : w.heap.size + 2 ≤ ((w.alloc (.cells #[.int .i64 t.op, .int .i64 t.a, .int .i64 t.n, .int .i64 t.m, .string t.s, .slice ao t.ks.length cap] 27)).alloc (.cells #[.int .i64 0, .int .i64 0, .int .i64 0, .int .i64 0, .string ⟨#[]⟩, .slice none 0 0] 27)).heap.size := by simp
      have hW1 : Below w.heap.size w w1 := c_thr (c_box2 w _ _) hB (by simp; omega)
      obtain ⟨⟨r0, r1, r2, r3, r4, r5⟩, ⟨q0, q1, q2, q3, q4, q5⟩, hr⟩ := c_six hres
      have HF := Lib.hid (And.intro htin (And.intro hU hW1))
      clear hres htin hB hU hW1
      go_wp2
      refine bodyPost_ret (v := .tuple #[.agg #[.int .i64 r.op, .int .i64 r.a, .int .i64 r.n, .int .i64 r.m, .string r.s, .slice yo yl yc], .int .i64 0]) (by simp [results, Try.results41, go_sem, r0, r1, r2, r3, r4, r5]) rfl ?_
      exact ⟨yo, yl, yc, rfl, fin_ok HF.out.1 HF.out.2.1 HF.out.2.2⟩
    | error x =>
      rw [hR] at HG
      show Calls Try.prog 41 _ w (ErPost w x)
      clear hR
      go_enter Try.func41, Try.ntmps41
      go_wp2_with fail
      refine (HG.out _ (c_box2 w _ _)).mono ?_
      rintro e w1 ⟨hx, rfl, hB⟩
      have hres := c_kept hB (by simp) (c_new2 w _ _)
      have hW1 : Below w.heap.size w w1 := c_thr (c_box2 w _ _) hB (by simp; omega)
      obtain ⟨⟨r0, r1, r2, r3, r4, r5⟩, ⟨q0, q1, q2, q3, q4, q5⟩, hr⟩ := c_six hres
      have HF := Lib.hid (And.intro hx hW1)
      clear hres hB hW1
      go_wp2
      refine bodyPost_ret (v := .tuple #[.agg #[.int .i64 0, .int .i64 0, .int .i64 0, .int .i64 0, .string ⟨#[]⟩, .slice none 0 0], .int .i64 x]) (by simp [results, Try.results41, go_sem, r0, r1, r2, r3, r4, r5]) rfl ?_
      exact ⟨HF.out.1, rfl, c_st6 HF.out.2 (by omega)⟩
end Go.Proofs.Ytjnlifghobgkcaa
