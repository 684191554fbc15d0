/-
  element and item of package cover at this translation.
-/
import Derived.Test.YtjnlifghobgkcaaC7
namespace Go.Proofs.Ytjnlifghobgkcaa
open Go.RowKit

theorem ba_ext {s t : ByteArray} (h : s.toList = t.toList) : s = t := by
  rw [ByteArray.toList_eq, ByteArray.toList_eq] at h
  exact ByteArray.ext (Array.toList_inj.1 h)
theorem six_st6 {w : World} {g : Nat} {x0 x1 x2 x3 x4 x5 : Value} {b : Nat} {y0 y1 y2 y3 y4 y5 : Value} (h : w.cell? ⟨b, 0, none⟩ = some y0 ∧ w.cell? ⟨b, 1, none⟩ = some y1 ∧ w.cell? ⟨b, 2, none⟩ = some y2 ∧ w.cell? ⟨b, 3, none⟩ = some y3 ∧ w.cell? ⟨b, 4, none⟩ = some y4 ∧ w.cell? ⟨b, 5, none⟩ = some y5) (hb : ¬ b = g) : ((((((w.setCell ⟨g, 0, none⟩ x0).setCell ⟨g, 1, none⟩ x1).setCell ⟨g, 2, none⟩ x2).setCell ⟨g, 3, none⟩ x3).setCell ⟨g, 4, none⟩ x4).setCell ⟨g, 5, none⟩ x5).cell? ⟨b, 0, none⟩ = some y0 ∧ ((((((w.setCell ⟨g, 0, none⟩ x0).setCell ⟨g, 1, none⟩ x1).setCell ⟨g, 2, none⟩ x2).setCell ⟨g, 3, none⟩ x3).setCell ⟨g, 4, none⟩ x4).setCell ⟨g, 5, none⟩ x5).cell? ⟨b, 1, none⟩ = some y1 ∧ ((((((w.setCell ⟨g, 0, none⟩ x0).setCell ⟨g, 1, none⟩ x1).setCell ⟨g, 2, none⟩ x2).setCell ⟨g, 3, none⟩ x3).setCell ⟨g, 4, none⟩ x4).setCell ⟨g, 5, none⟩ x5).cell? ⟨b, 2, none⟩ = some y2 ∧ ((((((w.setCell ⟨g, 0, none⟩ x0).setCell ⟨g, 1, none⟩ x1).setCell ⟨g, 2, none⟩ x2).setCell ⟨g, 3, none⟩ x3).setCell ⟨g, 4, none⟩ x4).setCell ⟨g, 5, none⟩ x5).cell? ⟨b, 3, none⟩ = some y3 ∧ ((((((w.setCell ⟨g, 0, none⟩ x0).setCell ⟨g, 1, none⟩ x1).setCell ⟨g, 2, none⟩ x2).setCell ⟨g, 3, none⟩ x3).setCell ⟨g, 4, none⟩ x4).setCell ⟨g, 5, none⟩ x5).cell? ⟨b, 4, none⟩ = some y4 ∧ ((((((w.setCell ⟨g, 0, none⟩ x0).setCell ⟨g, 1, none⟩ x1).setCell ⟨g, 2, none⟩ x2).setCell ⟨g, 3, none⟩ x3).setCell ⟨g, 4, none⟩ x4).setCell ⟨g, 5, none⟩ x5).cell? ⟨b, 5, none⟩ = some y5 :=
  ⟨(st6_cell w g 0 x0 x1 x2 x3 x4 x5 b 0 hb).trans h.1, (st6_cell w g 0 x0 x1 x2 x3 x4 x5 b 1 hb).trans h.2.1, (st6_cell w g 0 x0 x1 x2 x3 x4 x5 b 2 hb).trans h.2.2.1, (st6_cell w g 0 x0 x1 x2 x3 x4 x5 b 3 hb).trans h.2.2.2.1, (st6_cell w g 0 x0 x1 x2 x3 x4 x5 b 4 hb).trans h.2.2.2.2.1, (st6_cell w g 0 x0 x1 x2 x3 x4 x5 b 5 hb).trans h.2.2.2.2.2⟩
set_option linter.unusedVariables false in
set_option maxRecDepth 100000 in
set_option maxHeartbeats 1000000 in
theorem element_part (W0 : World) (f : Nat) (P : Part) (hf : f ≤ 100000) (hP : PartAt 23 #[] W0 f 200 P) : PartAt 50 #[] W0 f 200 (eleG P) := by
  refine ⟨ent50, fun w hW t ao len cap d l ht hd htin => ?_⟩
  obtain rfl := tin_len htin
  have hks := ks_le ht hf
  unfold eleG
  by_cases h46 : t.op = 46
  · rw [if_neg (by simpa using h46)]
    have g0 : (t.op != 46) = false := by simp [h46]
    by_cases h2 : t.s = eqS ∧ t.ks.length = 2
    · rw [if_pos h2]
      obtain ⟨hs, h1⟩ := h2
      have gs : t.s.toList = [61] := by rw [hs]; simp [eqS, ByteArray.toList_eq]
      have g1 : ((t.ks.length : Int) != 2) = false := by rw [h1]; rfl
      have HT := Lib.hid (fun (W : World) (hB : Below w.heap.size w W) => tin_kept htin hB)
      have HKL := Lib.hid (fun x (hx : x ∈ t.ks) => kid_le ht hx)
      clear hP htin hW h1 hs h46
      cases hR : madeV 63 t.a 0 t.ks d (pairV (withinV (onlyV patB)) keepV) with
      | ok r =>
        show Calls Try.prog 50 _ w (OkPost w (Fresh w) r)
        have HR := Lib.hid hR
        clear hR
        go_enter Try.func50, Try.ntmps50
        go_upto_region 5 with fail
        obtain ⟨W2, hW2⟩ : ∃ W2, W2 = ((w.alloc (.cells #[.int .i64 t.op, .int .i64 t.a, .int .i64 t.n, .int .i64 t.m, .string t.s, .slice ao t.ks.length cap] 27)).alloc (.cells #[.int .i64 0, .int .i64 0, .int .i64 0, .int .i64 0, .string ⟨#[]⟩, .slice none 0 0] 27)) := ⟨_, rfl⟩
        rw [← hW2]
        have hB2 : Below w.heap.size w W2 := by rw [hW2]; exact c_box2 w _ _
        have hzW : w.heap.size + 2 ≤ W2.heap.size := by rw [hW2]; simp
        have hbox : W2.heap[w.heap.size]? = some (.cells #[.int .i64 t.op, .int .i64 t.a, .int .i64 t.n, .int .i64 t.m, .string t.s, .slice ao t.ks.length cap] 27 (0, 0)) := by rw [hW2]; exact c_new1 w _ _
        have hres : W2.heap[w.heap.size + 1]? = some (.cells #[.int .i64 0, .int .i64 0, .int .i64 0, .int .i64 0, .string ⟨#[]⟩, .slice none 0 0] 27 (0, 0)) := by rw [hW2]; exact c_new2 w _ _
        clear hW2
        have hS0 := two_of (w := W2.drew) hbox
        have HK0 := Lib.hid (And.intro hbox (And.intro hres trivial))
        have HBe0 := Lib.hid (show Below w.heap.size w W2.drew from hB2.drew)
        have HZ0 := Lib.hid (show w.heap.size + 2 ≤ W2.drew.heap.size from hzW)
        clear hB2 hbox hres hzW
        go_region_held3 (fun w' => w'.cell? ⟨w.heap.size, 1, none⟩ = some (.int .i64 t.a) ∧ w'.cell? ⟨w.heap.size, 5, none⟩ = some (.slice ao t.ks.length cap)) (first | with_reducible assumption | with_reducible exact two_st6 hS2 (by omega)) (first
          | (go_at_call 52; refine (only_any 34 f 200 patB _ hf (by omega) pred34).mono ?_; rintro e w1 ⟨b1, rfl, hP1, hB⟩; have hk1 := c_kept hB (c_lt HK0.out.1) HK0.out.1; have hk2 := c_kept hB (c_lt HK0.out.2.1) HK0.out.2.1; have hS2 := two_of hk1; have HK1 := Lib.hid (And.intro hk1 (And.intro hk2 trivial)); have HBe1 := Lib.hid (c_thr HBe0.out hB HBe0.out.size); have HZ1 := Lib.hid (Nat.le_trans HZ0.out hB.size); have HP1 := Lib.hid hP1; clear hP1; clear hk1 hk2 hB)
          | (go_at_call 37; refine (within_any 55 _ f 201 (onlyV patB) _ (by omega) HP1.out).mono ?_; rintro e w2 ⟨b2, rfl, hP2, hB⟩; have hk1 := c_kept hB (c_lt HK1.out.1) HK1.out.1; have hk2 := c_kept hB (c_lt HK1.out.2.1) HK1.out.2.1; have hS2 := two_of hk1; have HK2 := Lib.hid (And.intro hk1 (And.intro hk2 trivial)); have HBe2 := Lib.hid (c_thr HBe1.out hB HBe1.out.size); have HZ2 := Lib.hid (Nat.le_trans HZ1.out hB.size); have HP2 := Lib.hid hP2; clear hP2; clear hk1 hk2 hB)
          | (go_at_call 49; refine (pair_any 48 47 _ _ f 201 (by omega) (withinV (onlyV patB)) keepV _ HP2.out (keep_part _ f 201 hf (by omega))).mono ?_; rintro e w3 ⟨b3, c3, rfl, hP3, hB⟩; have hk1 := c_kept hB (c_lt HK2.out.1) HK2.out.1; have hk2 := c_kept hB (c_lt HK2.out.2.1) HK2.out.2.1; have hS2 := two_of hk1; have HK3 := Lib.hid (And.intro hk1 (And.intro hk2 trivial)); have HBe3 := Lib.hid (c_thr HBe2.out hB HBe2.out.size); have HZ3 := Lib.hid (Nat.le_trans HZ2.out hB.size); have HP3 := Lib.hid hP3; clear hP3; clear hk1 hk2 hB)
          | (go_at_call 26; have HM := made_any 54 _ f (pairV (withinV (onlyV patB)) keepV) 63 t.a 0 t ao cap d 201 _ (by omega) HP3.out hf HKL.out hks (by omega) (HT.out _ HBe3.out); rw [HR.out] at HM; refine HM.mono ?_; rintro e w9 ⟨yo, yl, yc, rfl, htin9, hB9⟩; have hS2 := two_of (c_kept hB9 (c_lt HK3.out.1) HK3.out.1); obtain ⟨⟨r0, r1, r2, r3, r4, r5⟩, ⟨q0, q1, q2, q3, q4, q5⟩, hr⟩ := c_six (c_kept hB9 (c_lt HK3.out.2.1) HK3.out.2.1); have hW9 := c_thr HBe3.out hB9 HBe3.out.size; have HF := Lib.hid (And.intro htin9 (And.intro HZ3.out hW9)); clear htin9 hW9 hB9))
        go_wp2
        refine bodyPost_ret (v := .tuple #[.agg #[.int .i64 r.op, .int .i64 r.a, .int .i64 r.n, .int .i64 r.m, .string r.s, .slice yo yl yc], .int .i64 0]) (by simp [results, Try.results50, go_sem, r0, r1, r2, r3, r4, r5]) rfl ?_
        exact ⟨yo, yl, yc, rfl, fin_ok HF.out.1 HF.out.2.1 HF.out.2.2⟩
      | error x =>
        show Calls Try.prog 50 _ w (ErPost w x)
        have HR := Lib.hid hR
        clear hR
        go_enter Try.func50, Try.ntmps50
        go_upto_region 5 with fail
        obtain ⟨W2, hW2⟩ : ∃ W2, W2 = ((w.alloc (.cells #[.int .i64 t.op, .int .i64 t.a, .int .i64 t.n, .int .i64 t.m, .string t.s, .slice ao t.ks.length cap] 27)).alloc (.cells #[.int .i64 0, .int .i64 0, .int .i64 0, .int .i64 0, .string ⟨#[]⟩, .slice none 0 0] 27)) := ⟨_, rfl⟩
        rw [← hW2]
        have hB2 : Below w.heap.size w W2 := by rw [hW2]; exact c_box2 w _ _
        have hzW : w.heap.size + 2 ≤ W2.heap.size := by rw [hW2]; simp
        have hbox : W2.heap[w.heap.size]? = some (.cells #[.int .i64 t.op, .int .i64 t.a, .int .i64 t.n, .int .i64 t.m, .string t.s, .slice ao t.ks.length cap] 27 (0, 0)) := by rw [hW2]; exact c_new1 w _ _
        have hres : W2.heap[w.heap.size + 1]? = some (.cells #[.int .i64 0, .int .i64 0, .int .i64 0, .int .i64 0, .string ⟨#[]⟩, .slice none 0 0] 27 (0, 0)) := by rw [hW2]; exact c_new2 w _ _
        clear hW2
        have hS0 := two_of (w := W2.drew) hbox
        have HK0 := Lib.hid (And.intro hbox (And.intro hres trivial))
        have HBe0 := Lib.hid (show Below w.heap.size w W2.drew from hB2.drew)
        have HZ0 := Lib.hid (show w.heap.size + 2 ≤ W2.drew.heap.size from hzW)
        clear hB2 hbox hres hzW
        go_region_held3 (fun w' => w'.cell? ⟨w.heap.size, 1, none⟩ = some (.int .i64 t.a) ∧ w'.cell? ⟨w.heap.size, 5, none⟩ = some (.slice ao t.ks.length cap)) (first | with_reducible assumption | with_reducible exact two_st6 hS2 (by omega)) (first
          | (go_at_call 52; refine (only_any 34 f 200 patB _ hf (by omega) pred34).mono ?_; rintro e w1 ⟨b1, rfl, hP1, hB⟩; have hk1 := c_kept hB (c_lt HK0.out.1) HK0.out.1; have hk2 := c_kept hB (c_lt HK0.out.2.1) HK0.out.2.1; have hS2 := two_of hk1; have HK1 := Lib.hid (And.intro hk1 (And.intro hk2 trivial)); have HBe1 := Lib.hid (c_thr HBe0.out hB HBe0.out.size); have HZ1 := Lib.hid (Nat.le_trans HZ0.out hB.size); have HP1 := Lib.hid hP1; clear hP1; clear hk1 hk2 hB)
          | (go_at_call 37; refine (within_any 55 _ f 201 (onlyV patB) _ (by omega) HP1.out).mono ?_; rintro e w2 ⟨b2, rfl, hP2, hB⟩; have hk1 := c_kept hB (c_lt HK1.out.1) HK1.out.1; have hk2 := c_kept hB (c_lt HK1.out.2.1) HK1.out.2.1; have hS2 := two_of hk1; have HK2 := Lib.hid (And.intro hk1 (And.intro hk2 trivial)); have HBe2 := Lib.hid (c_thr HBe1.out hB HBe1.out.size); have HZ2 := Lib.hid (Nat.le_trans HZ1.out hB.size); have HP2 := Lib.hid hP2; clear hP2; clear hk1 hk2 hB)
          | (go_at_call 49; refine (pair_any 48 47 _ _ f 201 (by omega) (withinV (onlyV patB)) keepV _ HP2.out (keep_part _ f 201 hf (by omega))).mono ?_; rintro e w3 ⟨b3, c3, rfl, hP3, hB⟩; have hk1 := c_kept hB (c_lt HK2.out.1) HK2.out.1; have hk2 := c_kept hB (c_lt HK2.out.2.1) HK2.out.2.1; have hS2 := two_of hk1; have HK3 := Lib.hid (And.intro hk1 (And.intro hk2 trivial)); have HBe3 := Lib.hid (c_thr HBe2.out hB HBe2.out.size); have HZ3 := Lib.hid (Nat.le_trans HZ2.out hB.size); have HP3 := Lib.hid hP3; clear hP3; clear hk1 hk2 hB)
          | (go_at_call 26; have HM := made_any 54 _ f (pairV (withinV (onlyV patB)) keepV) 63 t.a 0 t ao cap d 201 _ (by omega) HP3.out hf HKL.out hks (by omega) (HT.out _ HBe3.out); rw [HR.out] at HM; refine HM.mono ?_; rintro e w9 ⟨hx, rfl, hB9⟩; have hS2 := two_of (c_kept hB9 (c_lt HK3.out.1) HK3.out.1); obtain ⟨⟨r0, r1, r2, r3, r4, r5⟩, ⟨q0, q1, q2, q3, q4, q5⟩, hr⟩ := c_six (c_kept hB9 (c_lt HK3.out.2.1) HK3.out.2.1); have hW9 := c_thr HBe3.out hB9 HBe3.out.size; have HF := Lib.hid (And.intro hx hW9); clear hx hW9 hB9))
        go_wp2
        refine bodyPost_ret (v := .tuple #[.agg #[.int .i64 0, .int .i64 0, .int .i64 0, .int .i64 0, .string ⟨#[]⟩, .slice none 0 0], .int .i64 x]) (by simp [results, Try.results50, go_sem, r0, r1, r2, r3, r4, r5]) rfl ?_
        exact ⟨HF.out.1, rfl, c_st6 HF.out.2 (by omega)⟩
    · rw [if_neg h2]
      clear hP htin hW h46
      show Calls Try.prog 50 _ w (ErPost w 24)
      by_cases hs : t.s = eqS
      · have gs : t.s.toList = [61] := by rw [hs]; simp [eqS, ByteArray.toList_eq]
        have g1 : ((t.ks.length : Int) != 2) = true := by
          have : ¬ t.ks.length = 2 := fun e => h2 ⟨hs, e⟩
          simp
          omega
        clear hs h2
        go_enter Try.func50, Try.ntmps50
        go_wp2
        go_returns
        exact ⟨rfl, rfl, c_box2 w _ _⟩
      · have gs : ¬ t.s.toList = [61] := fun h => hs (ba_ext (h.trans (by simp [eqS, ByteArray.toList_eq])))
        clear hs h2
        go_enter Try.func50, Try.ntmps50
        go_wp2
        go_returns
        exact ⟨rfl, rfl, c_box2 w _ _⟩
  · rw [if_pos h46]
    have g0 : (t.op != 46) = true := by simpa using h46
    obtain ⟨R, hRd⟩ : ∃ R, R = P t d l := ⟨_, rfl⟩
    have HG := Lib.hid (fun (W : World) (hB : Below w.heap.size w W) => hP.run W (c_thr hW hB hW.size) t ao t.ks.length cap d l ht hd (tin_kept htin hB))
    rw [← hRd] at HG ⊢
    simp only [Array.append_empty] at HG
    clear hP htin hW hRd h46
    cases hR : R with
    | ok r =>
      rw [hR] at HG
      show Calls Try.prog 50 _ w (OkPost w (Fresh w) r)
      clear hR
      go_enter Try.func50, Try.ntmps50
      go_wp2_with fail
      refine (HG.out _ (c_box2 w _ _)).mono ?_
      rintro e w1 ⟨yo, yl, yc, rfl, htin, hB⟩
      have hres := c_kept hB (by simp) (c_new2 w _ _)
      have hU : w.heap.size + 2 ≤ ((w.alloc (.cells #[.int .i64 t.op, .int .i64 t.a, .int .i64 t.n, .int .i64 t.m, .string t.s, .slice ao t.ks.length cap] 27)).alloc (.cells #[.int .i64 0, .int .i64 0, .int .i64 0, .int .i64 0, .string ⟨#[]⟩, .slice none 0 0] 27)).heap.size := by simp
      have hW1 : Below w.heap.size w w1 := c_thr (c_box2 w _ _) hB (by simp; omega)
      obtain ⟨⟨r0, r1, r2, r3, r4, r5⟩, ⟨q0, q1, q2, q3, q4, q5⟩, hr⟩ := c_six hres
      have HF := Lib.hid (And.intro htin (And.intro hU hW1))
      clear hres htin hB hU hW1
      go_wp2
      refine bodyPost_ret (v := .tuple #[.agg #[.int .i64 r.op, .int .i64 r.a, .int .i64 r.n, .int .i64 r.m, .string r.s, .slice yo yl yc], .int .i64 0]) (by simp [results, Try.results50, go_sem, r0, r1, r2, r3, r4, r5]) rfl ?_
      exact ⟨yo, yl, yc, rfl, fin_ok HF.out.1 HF.out.2.1 HF.out.2.2⟩
    | error x =>
      rw [hR] at HG
      show Calls Try.prog 50 _ w (ErPost w x)
      clear hR
      go_enter Try.func50, Try.ntmps50
      go_wp2_with fail
      refine (HG.out _ (c_box2 w _ _)).mono ?_
      rintro e w1 ⟨hx, rfl, hB⟩
      have hres := c_kept hB (by simp) (c_new2 w _ _)
      have hW1 : Below w.heap.size w w1 := c_thr (c_box2 w _ _) hB (by simp; omega)
      obtain ⟨⟨r0, r1, r2, r3, r4, r5⟩, ⟨q0, q1, q2, q3, q4, q5⟩, hr⟩ := c_six hres
      have HF := Lib.hid (And.intro hx hW1)
      clear hres hB hW1
      go_wp2
      refine bodyPost_ret (v := .tuple #[.agg #[.int .i64 0, .int .i64 0, .int .i64 0, .int .i64 0, .string ⟨#[]⟩, .slice none 0 0], .int .i64 x]) (by simp [results, Try.results50, go_sem, r0, r1, r2, r3, r4, r5]) rfl ?_
      exact ⟨HF.out.1, rfl, c_st6 HF.out.2 (by omega)⟩
set_option linter.unusedVariables false in
set_option maxRecDepth 100000 in
set_option maxHeartbeats 1000000 in
theorem item_part (W0 : World) (f : Nat) (P : Part) (hf : f ≤ 100000) (hL : PartAt 41 #[] W0 f 200 (lisG P)) : PartAt 36 #[] W0 f 201 (itemG P) := by
  refine ⟨ent36, fun w hW t ao len cap d l ht hd htin => ?_⟩
  obtain rfl := tin_len htin
  unfold itemG
  by_cases h40 : t.op = 40
  · rw [if_pos h40]
    have g0 : (t.op == 40) = true := by simpa using h40
    obtain ⟨R, hRd⟩ : ∃ R, R = keepV t d l := ⟨_, rfl⟩
    have hK := keep_part w f 201 hf (by omega)
    have HG := Lib.hid (fun (W : World) (hB : Below w.heap.size w W) => hK.run W hB t ao t.ks.length cap d l ht hd (tin_kept htin hB))
    rw [← hRd] at HG
    rw [show (Except.ok t : Res) = R from hRd.symm]
    simp only [Array.append_empty] at HG
    clear hL hK htin hW hRd h40
    cases hR : R with
    | ok r =>
      rw [hR] at HG
      show Calls Try.prog 36 _ w (OkPost w (Fresh w) r)
      clear hR
      go_enter Try.func36, Try.ntmps36
      go_wp2_with fail
      refine (HG.out _ (c_box2 w _ _)).mono ?_
      rintro e w1 ⟨yo, yl, yc, rfl, htin, hB⟩
      have hres := c_kept hB (by simp) (c_new2 w _ _)
      have hU : w.heap.size + 2 ≤ ((w.alloc (.cells #[.int .i64 t.op, .int .i64 t.a, .int .i64 t.n, .int .i64 t.m, .string t.s, .slice ao t.ks.length cap] 27)).alloc (.cells #[.int .i64 0, .int .i64 0, .int .i64 0, .int .i64 0, .string ⟨#[]⟩, .slice none 0 0] 27)).heap.size := by simp
      have hW1 : Below w.heap.size w w1 := c_thr (c_box2 w _ _) hB (by simp; omega)
      obtain ⟨⟨r0, r1, r2, r3, r4, r5⟩, ⟨q0, q1, q2, q3, q4, q5⟩, hr⟩ := c_six hres
      have HF := Lib.hid (And.intro htin (And.intro hU hW1))
      clear hres htin hB hU hW1
      go_wp2
      refine bodyPost_ret (v := .tuple #[.agg #[.int .i64 r.op, .int .i64 r.a, .int .i64 r.n, .int .i64 r.m, .string r.s, .slice yo yl yc], .int .i64 0]) (by simp [results, Try.results36, go_sem, r0, r1, r2, r3, r4, r5]) rfl ?_
      exact ⟨yo, yl, yc, rfl, fin_ok HF.out.1 HF.out.2.1 HF.out.2.2⟩
    | error x =>
      rw [hR] at HG
      show Calls Try.prog 36 _ w (ErPost w x)
      clear hR
      go_enter Try.func36, Try.ntmps36
      go_wp2_with fail
      refine (HG.out _ (c_box2 w _ _)).mono ?_
      rintro e w1 ⟨hx, rfl, hB⟩
      have hres := c_kept hB (by simp) (c_new2 w _ _)
      have hW1 : Below w.heap.size w w1 := c_thr (c_box2 w _ _) hB (by simp; omega)
      obtain ⟨⟨r0, r1, r2, r3, r4, r5⟩, ⟨q0, q1, q2, q3, q4, q5⟩, hr⟩ := c_six hres
      have HF := Lib.hid (And.intro hx hW1)
      clear hres hB hW1
      go_wp2
      refine bodyPost_ret (v := .tuple #[.agg #[.int .i64 0, .int .i64 0, .int .i64 0, .int .i64 0, .string ⟨#[]⟩, .slice none 0 0], .int .i64 x]) (by simp [results, Try.results36, go_sem, r0, r1, r2, r3, r4, r5]) rfl ?_
      exact ⟨HF.out.1, rfl, c_st6 HF.out.2 (by omega)⟩
  · rw [if_neg h40]
    have g0 : (t.op == 40) = false := by simpa using h40
    obtain ⟨R, hRd⟩ : ∃ R, R = withinV (lisG P) t d l := ⟨_, rfl⟩
    have HL := Lib.hid (fun (W : World) (hB : Below w.heap.size w W) => part_below (part_below hL hW) hB)
    have HT := Lib.hid (fun (W : World) (hB : Below w.heap.size w W) => tin_kept htin hB)
    rw [← hRd]
    have HR := Lib.hid hRd
    have ent48' : EntersF 48 := ent48
    unfold EntersF at ent48'
    clear hL htin hW hRd h40
    cases R with
    | ok r =>
      show Calls Try.prog 36 _ w (OkPost w (Fresh w) r)
      go_enter Try.func36, Try.ntmps36
      go_upto_region 3 with fail
      obtain ⟨W2, hW2⟩ : ∃ W2, W2 = ((w.alloc (.cells #[.int .i64 t.op, .int .i64 t.a, .int .i64 t.n, .int .i64 t.m, .string t.s, .slice ao t.ks.length cap] 27)).alloc (.cells #[.int .i64 0, .int .i64 0, .int .i64 0, .int .i64 0, .string ⟨#[]⟩, .slice none 0 0] 27)) := ⟨_, rfl⟩
      rw [← hW2]
      have hB2 : Below w.heap.size w W2 := by rw [hW2]; exact c_box2 w _ _
      have hzW : w.heap.size + 2 ≤ W2.heap.size := by rw [hW2]; simp
      have hbox : W2.heap[w.heap.size]? = some (.cells #[.int .i64 t.op, .int .i64 t.a, .int .i64 t.n, .int .i64 t.m, .string t.s, .slice ao t.ks.length cap] 27 (0, 0)) := by rw [hW2]; exact c_new1 w _ _
      have hres : W2.heap[w.heap.size + 1]? = some (.cells #[.int .i64 0, .int .i64 0, .int .i64 0, .int .i64 0, .string ⟨#[]⟩, .slice none 0 0] 27 (0, 0)) := by rw [hW2]; exact c_new2 w _ _
      clear hW2
      have hS0 := (c_six (w := W2.drew) hbox).1
      have HK0 := Lib.hid (And.intro hbox hres)
      have HBe0 := Lib.hid (show Below w.heap.size w W2.drew from hB2.drew)
      have HZ0 := Lib.hid (show w.heap.size + 2 ≤ W2.drew.heap.size from hzW)
      clear hB2 hbox hres hzW
      go_region_held3 (fun w' => w'.cell? ⟨w.heap.size, 0, none⟩ = some (.int .i64 t.op) ∧ w'.cell? ⟨w.heap.size, 1, none⟩ = some (.int .i64 t.a) ∧ w'.cell? ⟨w.heap.size, 2, none⟩ = some (.int .i64 t.n) ∧ w'.cell? ⟨w.heap.size, 3, none⟩ = some (.int .i64 t.m) ∧ w'.cell? ⟨w.heap.size, 4, none⟩ = some (.string t.s) ∧ w'.cell? ⟨w.heap.size, 5, none⟩ = some (.slice ao t.ks.length cap)) (first | with_reducible assumption | with_reducible exact six_st6 hS2 (by omega)) (first
        | (go_at_call 37; refine (within_any 41 _ f 201 (lisG P) _ (by omega) (HL.out _ HBe0.out)).mono ?_; rintro e w1 ⟨b1, rfl, hP1, hB⟩; have hk1 := c_kept hB (c_lt HK0.out.1) HK0.out.1; have hk2 := c_kept hB (c_lt HK0.out.2) HK0.out.2; have hS2 := (c_six hk1).1; have HK1 := Lib.hid (And.intro hk1 hk2); have HBe1 := Lib.hid (c_thr HBe0.out hB HBe0.out.size); have HZ1 := Lib.hid (Nat.le_trans HZ0.out hB.size); have HP1 := Lib.hid hP1; clear hk1 hk2 hB hP1)
        | (go_at_call 48; have HM := HP1.out.run _ (Below.refl _ _) t ao t.ks.length cap d l ht hd (HT.out _ HBe1.out); rw [← HR.out] at HM; refine Calls.mono (show Calls Try.prog 48 #[.agg #[.int .i64 t.op, .int .i64 t.a, .int .i64 t.n, .int .i64 t.m, .string t.s, .slice ao t.ks.length cap], .int .i64 d, .bool l, .pointer (some ⟨b1, 0, none⟩)] _ _ from HM) ?_; rintro e w9 ⟨yo, yl, yc, rfl, htin9, hB9⟩; have hS2 := (c_six (c_kept hB9 (c_lt HK1.out.1) HK1.out.1)).1; obtain ⟨⟨r0, r1, r2, r3, r4, r5⟩, ⟨q0, q1, q2, q3, q4, q5⟩, hr⟩ := c_six (c_kept hB9 (c_lt HK1.out.2) HK1.out.2); have hW9 := c_thr HBe1.out hB9 HBe1.out.size; have HF := Lib.hid (And.intro htin9 (And.intro HZ1.out hW9)); clear htin9 hW9 hB9))
      go_wp2
      refine bodyPost_ret (v := .tuple #[.agg #[.int .i64 r.op, .int .i64 r.a, .int .i64 r.n, .int .i64 r.m, .string r.s, .slice yo yl yc], .int .i64 0]) (by simp [results, Try.results36, go_sem, r0, r1, r2, r3, r4, r5]) rfl ?_
      exact ⟨yo, yl, yc, rfl, fin_ok HF.out.1 HF.out.2.1 HF.out.2.2⟩
    | error x =>
      show Calls Try.prog 36 _ w (ErPost w x)
      go_enter Try.func36, Try.ntmps36
      go_upto_region 3 with fail
      obtain ⟨W2, hW2⟩ : ∃ W2, W2 = ((w.alloc (.cells #[.int .i64 t.op, .int .i64 t.a, .int .i64 t.n, .int .i64 t.m, .string t.s, .slice ao t.ks.length cap] 27)).alloc (.cells #[.int .i64 0, .int .i64 0, .int .i64 0, .int .i64 0, .string ⟨#[]⟩, .slice none 0 0] 27)) := ⟨_, rfl⟩
      rw [← hW2]
      have hB2 : Below w.heap.size w W2 := by rw [hW2]; exact c_box2 w _ _
      have hzW : w.heap.size + 2 ≤ W2.heap.size := by rw [hW2]; simp
      have hbox : W2.heap[w.heap.size]? = some (.cells #[.int .i64 t.op, .int .i64 t.a, .int .i64 t.n, .int .i64 t.m, .string t.s, .slice ao t.ks.length cap] 27 (0, 0)) := by rw [hW2]; exact c_new1 w _ _
      have hres : W2.heap[w.heap.size + 1]? = some (.cells #[.int .i64 0, .int .i64 0, .int .i64 0, .int .i64 0, .string ⟨#[]⟩, .slice none 0 0] 27 (0, 0)) := by rw [hW2]; exact c_new2 w _ _
      clear hW2
      have hS0 := (c_six (w := W2.drew) hbox).1
      have HK0 := Lib.hid (And.intro hbox hres)
      have HBe0 := Lib.hid (show Below w.heap.size w W2.drew from hB2.drew)
      have HZ0 := Lib.hid (show w.heap.size + 2 ≤ W2.drew.heap.size from hzW)
      clear hB2 hbox hres hzW
      go_region_held3 (fun w' => w'.cell? ⟨w.heap.size, 0, none⟩ = some (.int .i64 t.op) ∧ w'.cell? ⟨w.heap.size, 1, none⟩ = some (.int .i64 t.a) ∧ w'.cell? ⟨w.heap.size, 2, none⟩ = some (.int .i64 t.n) ∧ w'.cell? ⟨w.heap.size, 3, none⟩ = some (.int .i64 t.m) ∧ w'.cell? ⟨w.heap.size, 4, none⟩ = some (.string t.s) ∧ w'.cell? ⟨w.heap.size, 5, none⟩ = some (.slice ao t.ks.length cap)) (first | with_reducible assumption | with_reducible exact six_st6 hS2 (by omega)) (first
        | (go_at_call 37; refine (within_any 41 _ f 201 (lisG P) _ (by omega) (HL.out _ HBe0.out)).mono ?_; rintro e w1 ⟨b1, rfl, hP1, hB⟩; have hk1 := c_kept hB (c_lt HK0.out.1) HK0.out.1; have hk2 := c_kept hB (c_lt HK0.out.2) HK0.out.2; have hS2 := (c_six hk1).1; have HK1 := Lib.hid (And.intro hk1 hk2); have HBe1 := Lib.hid (c_thr HBe0.out hB HBe0.out.size); have HZ1 := Lib.hid (Nat.le_trans HZ0.out hB.size); have HP1 := Lib.hid hP1; clear hk1 hk2 hB hP1)
        | (go_at_call 48; have HM := HP1.out.run _ (Below.refl _ _) t ao t.ks.length cap d l ht hd (HT.out _ HBe1.out); rw [← HR.out] at HM; refine Calls.mono (show Calls Try.prog 48 #[.agg #[.int .i64 t.op, .int .i64 t.a, .int .i64 t.n, .int .i64 t.m, .string t.s, .slice ao t.ks.length cap], .int .i64 d, .bool l, .pointer (some ⟨b1, 0, none⟩)] _ _ from HM) ?_; rintro e w9 ⟨hx, rfl, hB9⟩; have hS2 := (c_six (c_kept hB9 (c_lt HK1.out.1) HK1.out.1)).1; obtain ⟨⟨r0, r1, r2, r3, r4, r5⟩, ⟨q0, q1, q2, q3, q4, q5⟩, hr⟩ := c_six (c_kept hB9 (c_lt HK1.out.2) HK1.out.2); have hW9 := c_thr HBe1.out hB9 HBe1.out.size; have HF := Lib.hid (And.intro hx hW9); clear hx hW9 hB9))
      go_wp2
      refine bodyPost_ret (v := .tuple #[.agg #[.int .i64 0, .int .i64 0, .int .i64 0, .int .i64 0, .string ⟨#[]⟩, .slice none 0 0], .int .i64 x]) (by simp [results, Try.results36, go_sem, r0, r1, r2, r3, r4, r5]) rfl ?_
      exact ⟨HF.out.1, rfl, c_st6 HF.out.2 (by omega)⟩
end Go.Proofs.Ytjnlifghobgkcaa
