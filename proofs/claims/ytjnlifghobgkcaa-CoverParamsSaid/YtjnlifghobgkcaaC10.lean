/-
  property of package cover at this translation.
-/
import Derived.Test.YtjnlifghobgkcaaC9
namespace Go.Proofs.Ytjnlifghobgkcaa
open Go.RowKit

theorem sev_st60 {w : World} {g : Nat} {x0 x1 x2 x3 x4 x5 : Value} {b c : Nat} {y5 z0 z1 z2 z3 z4 z5 : Value} (h : w.cell? ⟨b, 5, none⟩ = some y5 ∧ w.cell? ⟨c, 0, none⟩ = some z0 ∧ w.cell? ⟨c, 1, none⟩ = some z1 ∧ w.cell? ⟨c, 2, none⟩ = some z2 ∧ w.cell? ⟨c, 3, none⟩ = some z3 ∧ w.cell? ⟨c, 4, none⟩ = some z4 ∧ w.cell? ⟨c, 5, none⟩ = some z5) (hb : ¬ b = g) (hc : ¬ c = g) :
    ((((((w.setCell ⟨g, 0, none⟩ x0).setCell ⟨g, 1, none⟩ x1).setCell ⟨g, 2, none⟩ x2).setCell ⟨g, 3, none⟩ x3).setCell ⟨g, 4, none⟩ x4).setCell ⟨g, 5, none⟩ x5).cell? ⟨b, 5, none⟩ = some y5 ∧ ((((((w.setCell ⟨g, 0, none⟩ x0).setCell ⟨g, 1, none⟩ x1).setCell ⟨g, 2, none⟩ x2).setCell ⟨g, 3, none⟩ x3).setCell ⟨g, 4, none⟩ x4).setCell ⟨g, 5, none⟩ x5).cell? ⟨c, 0, none⟩ = some z0 ∧ ((((((w.setCell ⟨g, 0, none⟩ x0).setCell ⟨g, 1, none⟩ x1).setCell ⟨g, 2, none⟩ x2).setCell ⟨g, 3, none⟩ x3).setCell ⟨g, 4, none⟩ x4).setCell ⟨g, 5, none⟩ x5).cell? ⟨c, 1, none⟩ = some z1 ∧ ((((((w.setCell ⟨g, 0, none⟩ x0).setCell ⟨g, 1, none⟩ x1).setCell ⟨g, 2, none⟩ x2).setCell ⟨g, 3, none⟩ x3).setCell ⟨g, 4, none⟩ x4).setCell ⟨g, 5, none⟩ x5).cell? ⟨c, 2, none⟩ = some z2 ∧ ((((((w.setCell ⟨g, 0, none⟩ x0).setCell ⟨g, 1, none⟩ x1).setCell ⟨g, 2, none⟩ x2).setCell ⟨g, 3, none⟩ x3).setCell ⟨g, 4, none⟩ x4).setCell ⟨g, 5, none⟩ x5).cell? ⟨c, 3, none⟩ = some z3 ∧ ((((((w.setCell ⟨g, 0, none⟩ x0).setCell ⟨g, 1, none⟩ x1).setCell ⟨g, 2, none⟩ x2).setCell ⟨g, 3, none⟩ x3).setCell ⟨g, 4, none⟩ x4).setCell ⟨g, 5, none⟩ x5).cell? ⟨c, 4, none⟩ = some z4 ∧ ((((((w.setCell ⟨g, 0, none⟩ x0).setCell ⟨g, 1, none⟩ x1).setCell ⟨g, 2, none⟩ x2).setCell ⟨g, 3, none⟩ x3).setCell ⟨g, 4, none⟩ x4).setCell ⟨g, 5, none⟩ x5).cell? ⟨c, 5, none⟩ = some z5 :=
  sev_st6 (o := 0) h hb hc
theorem made_list (id : Nat) (caps : Array Value) (N : Nat) (G : Part) (op a m : Int) (kl : List Tr) (lo : Option Addr) (lc : Nat) (d D : Nat) (w : World) (hD : D ≤ 100000) (hG : PartAt id caps w N D G) (hN : N ≤ 100000) (hk : ∀ x ∈ kl, x.cnt ≤ N) (hlen : kl.length ≤ 100000) (hd : d + 1 ≤ D) (ht : TIn w All (.mk 0 0 0 0 noS kl) (.slice lo kl.length lc)) :
    Calls Try.prog 26 #[.agg #[.int .i64 op, .int .i64 a, .int .i64 0, .int .i64 m, .string ⟨#[]⟩, .slice none 0 0], .slice lo kl.length lc, .int .i64 d, .func (.func id) #[] caps] w (RPost w (Fresh w) (madeV op a m kl d G)) :=
  made_any id caps N G op a m (.mk 0 0 0 0 noS kl) lo lc d D w hD hG hN hk hlen hd ht
theorem written_any (t : Tr) (ao : Option Addr) (cap : Nat) (w : World) (h : t.ks.length = 1 ∨ t.ks.length = 2) (ht : TIn w All t (.slice ao t.ks.length cap)) :
    Calls Try.prog 51 #[.slice ao t.ks.length cap] w (WPost w (writtenV t.ks)) := by
  match hk : t.ks, h with
  | [x], _ => rw [hk] at ht; exact written_one t x ao cap w hk ht
  | [x, y], _ => rw [hk] at ht; exact written_two t x y ao cap w hk ht
  | [], h => simp at h
  | _ :: _ :: _ :: _, h => simp at h
theorem written_le {t : Tr} {f : Nat} (hc : t.cnt ≤ f) (h : t.ks.length = 1 ∨ t.ks.length = 2) : ∀ x ∈ writtenV t.ks, x.cnt ≤ f := by
  have hcn : t.cnt = 1 + cntL t.ks := by obtain ⟨op, a, n, m, s, ks⟩ := t; rfl
  match hk : t.ks, h with
  | [x], _ =>
    rw [hk] at hcn
    intro z hz
    simp only [writtenV, List.mem_cons, List.not_mem_nil, or_false] at hz
    simp only [cntL] at hcn
    rcases hz with rfl | rfl
    · omega
    · simp only [Tr.cnt, cntL]; omega
  | [x, y], _ =>
    rw [hk] at hcn
    intro z hz
    simp only [writtenV, List.mem_cons, List.not_mem_nil, or_false] at hz
    simp only [cntL] at hcn
    have := cnt_pos x
    rcases hz with rfl | rfl
    · omega
    · simp only [Tr.cnt, cntL]; omega
  | [], h => simp at h
  | _ :: _ :: _ :: _, h => simp at h
theorem written_len {t : Tr} (h : t.ks.length = 1 ∨ t.ks.length = 2) : (writtenV t.ks).length = 2 := by
  match hk : t.ks, h with
  | [x], _ => rfl
  | [x, y], _ => rfl
  | [], h => simp at h
  | _ :: _ :: _ :: _, h => simp at h
set_option linter.unusedVariables false in
set_option maxRecDepth 100000 in
set_option maxHeartbeats 1000000 in
theorem prop_value (f : Nat) (P : Part) (hf : f ≤ 100000) (t : Tr) (ao : Option Addr) (cap d : Nat) (l : Bool) (w : World) (hks : t.ks.length ≤ 100000) (hd : d ≤ 200) (HE : Hid (∀ W : World, Below w.heap.size w W → PartAt 50 #[] W f 200 (eleG P))) (HT : Hid (∀ W : World, Below w.heap.size w W → TIn W All t (.slice ao t.ks.length cap))) (ht : t.cnt ≤ f) (g0 : (t.op != 39) = false) (gn : (t.n == 0) = true) (gl : ((t.ks.length : Int) == 2) = true) :
    Calls Try.prog 38 #[.agg #[.int .i64 t.op, .int .i64 t.a, .int .i64 t.n, .int .i64 t.m, .string t.s, .slice ao t.ks.length cap], .int .i64 d, .bool l] w (RPost w (Fresh w) (madeV 62 t.a t.m t.ks d (pairV keepV (withinV (eleG P))))) := by
  have HKL := Lib.hid (fun x (hx : x ∈ t.ks) => kid_le ht hx)
  cases hR : madeV 62 t.a t.m t.ks d (pairV keepV (withinV (eleG P))) with
  | ok r =>
    show Calls Try.prog 38 _ w (OkPost w (Fresh w) r)
    have HR := Lib.hid hR
    clear hR
    go_enter Try.func38, Try.ntmps38
    go_upto_region 6 with fail
    obtain ⟨W2, hW2⟩ : ∃ W2, W2 = (((w.alloc (.cells #[.int .i64 t.op, .int .i64 t.a, .int .i64 t.n, .int .i64 t.m, .string t.s, .slice ao t.ks.length cap] 27)).alloc (.cells #[.int .i64 0, .int .i64 0, .int .i64 0, .int .i64 0, .string ⟨#[]⟩, .slice none 0 0] 27)).alloc (.cells #[.int .i64 62, .int .i64 t.a, .int .i64 0, .int .i64 t.m, .string ⟨#[]⟩, .slice none 0 0] 27)) := ⟨_, rfl⟩
    rw [← hW2]
    have hB2 : Below w.heap.size w W2 := by rw [hW2]; exact c_box3 w _ _ _
    have hzW : w.heap.size + 2 ≤ W2.heap.size := by rw [hW2]; simp
    have hbox : W2.heap[w.heap.size]? = some (.cells #[.int .i64 t.op, .int .i64 t.a, .int .i64 t.n, .int .i64 t.m, .string t.s, .slice ao t.ks.length cap] 27 (0, 0)) := by rw [hW2]; exact (Below.heap_alloc _ _ _ (by simp; omega)).trans (c_new1 w _ _)
    have hres : W2.heap[w.heap.size + 1]? = some (.cells #[.int .i64 0, .int .i64 0, .int .i64 0, .int .i64 0, .string ⟨#[]⟩, .slice none 0 0] 27 (0, 0)) := by rw [hW2]; exact (Below.heap_alloc _ _ _ (by simp)).trans (c_new2 w _ _)
    have hhd : W2.heap[w.heap.size + 1 + 1]? = some (.cells #[.int .i64 62, .int .i64 t.a, .int .i64 0, .int .i64 t.m, .string ⟨#[]⟩, .slice none 0 0] 27 (0, 0)) := by rw [hW2]; exact c_new3 w _ _ _
    clear hW2
    have hS0 := nsev (w := W2.drew) hbox hhd
    have HK0 := Lib.hid (And.intro hbox (And.intro hres hhd))
    have HBe0 := Lib.hid (show Below w.heap.size w W2.drew from hB2.drew)
    have HZ0 := Lib.hid (show w.heap.size + 2 ≤ W2.drew.heap.size from hzW)
    clear hB2 hbox hres hzW hhd
    go_region_held3 (fun w' => w'.cell? ⟨w.heap.size, 5, none⟩ = some (.slice ao t.ks.length cap) ∧ w'.cell? ⟨w.heap.size + 1 + 1, 0, none⟩ = some (.int .i64 62) ∧ w'.cell? ⟨w.heap.size + 1 + 1, 1, none⟩ = some (.int .i64 t.a) ∧ w'.cell? ⟨w.heap.size + 1 + 1, 2, none⟩ = some (.int .i64 0) ∧ w'.cell? ⟨w.heap.size + 1 + 1, 3, none⟩ = some (.int .i64 t.m) ∧ w'.cell? ⟨w.heap.size + 1 + 1, 4, none⟩ = some (.string ⟨#[]⟩) ∧ w'.cell? ⟨w.heap.size + 1 + 1, 5, none⟩ = some (.slice none 0 0)) (first | with_reducible assumption | with_reducible exact sev_st60 hS2 (by omega) (by omega)) (first
      | (go_at_call 37; refine (within_any 50 _ f 201 (eleG P) _ (by omega) (HE.out _ HBe0.out)).mono ?_; rintro e w1 ⟨b1, rfl, hP1, hB⟩; have hk1 := c_kept hB (c_lt HK0.out.1) HK0.out.1; have hk2 := c_kept hB (c_lt HK0.out.2.1) HK0.out.2.1; have hk3 := c_kept hB (c_lt HK0.out.2.2) HK0.out.2.2; have hS2 := nsev hk1 hk3; have HK1 := Lib.hid (And.intro hk1 (And.intro hk2 hk3)); clear hk3; have HBe1 := Lib.hid (c_thr HBe0.out hB HBe0.out.size); have HZ1 := Lib.hid (Nat.le_trans HZ0.out hB.size); have HP1 := Lib.hid hP1; clear hP1; clear hk1 hk2 hB)
      | (go_at_call 49; refine (pair_any 47 48 _ _ f 201 (by omega) keepV (withinV (eleG P)) _ (keep_part _ f 201 hf (by omega)) HP1.out).mono ?_; rintro e w2 ⟨b2, c2, rfl, hP2, hB⟩; have hk1 := c_kept hB (c_lt HK1.out.1) HK1.out.1; have hk2 := c_kept hB (c_lt HK1.out.2.1) HK1.out.2.1; have hk3 := c_kept hB (c_lt HK1.out.2.2) HK1.out.2.2; have hS2 := nsev hk1 hk3; have HK2 := Lib.hid (And.intro hk1 (And.intro hk2 hk3)); clear hk3; have HBe2 := Lib.hid (c_thr HBe1.out hB HBe1.out.size); have HZ2 := Lib.hid (Nat.le_trans HZ1.out hB.size); have HP2 := Lib.hid hP2; clear hP2; clear hk1 hk2 hB)
      | (go_at_call 26; have HM := made_any 54 _ f (pairV keepV (withinV (eleG P))) 62 t.a t.m t ao cap d 201 _ (by omega) HP2.out hf HKL.out hks (by omega) (HT.out _ HBe2.out); rw [HR.out] at HM; refine HM.mono ?_; rintro e w9 ⟨yo, yl, yc, rfl, htin9, hB9⟩; have hS2 := nsev (c_kept hB9 (c_lt HK2.out.1) HK2.out.1) (c_kept hB9 (c_lt HK2.out.2.2) HK2.out.2.2); obtain ⟨⟨r0, r1, r2, r3, r4, r5⟩, ⟨q0, q1, q2, q3, q4, q5⟩, hr⟩ := c_six (c_kept hB9 (c_lt HK2.out.2.1) HK2.out.2.1); have hW9 := c_thr HBe2.out hB9 HBe2.out.size; have HF := Lib.hid (And.intro htin9 (And.intro HZ2.out hW9)); clear htin9 hW9 hB9))
    go_wp2
    refine bodyPost_ret (v := .tuple #[.agg #[.int .i64 r.op, .int .i64 r.a, .int .i64 r.n, .int .i64 r.m, .string r.s, .slice yo yl yc], .int .i64 0]) (by simp [results, Try.results38, go_sem, r0, r1, r2, r3, r4, r5]) rfl ?_
    exact ⟨yo, yl, yc, rfl, fin_ok HF.out.1 HF.out.2.1 HF.out.2.2⟩
  | error x =>
    show Calls Try.prog 38 _ w (ErPost w x)
    have HR := Lib.hid hR
    clear hR
    go_enter Try.func38, Try.ntmps38
    go_upto_region 6 with fail
    obtain ⟨W2, hW2⟩ : ∃ W2, W2 = (((w.alloc (.cells #[.int .i64 t.op, .int .i64 t.a, .int .i64 t.n, .int .i64 t.m, .string t.s, .slice ao t.ks.length cap] 27)).alloc (.cells #[.int .i64 0, .int .i64 0, .int .i64 0, .int .i64 0, .string ⟨#[]⟩, .slice none 0 0] 27)).alloc (.cells #[.int .i64 62, .int .i64 t.a, .int .i64 0, .int .i64 t.m, .string ⟨#[]⟩, .slice none 0 0] 27)) := ⟨_, rfl⟩
    rw [← hW2]
    have hB2 : Below w.heap.size w W2 := by rw [hW2]; exact c_box3 w _ _ _
    have hzW : w.heap.size + 2 ≤ W2.heap.size := by rw [hW2]; simp
    have hbox : W2.heap[w.heap.size]? = some (.cells #[.int .i64 t.op, .int .i64 t.a, .int .i64 t.n, .int .i64 t.m, .string t.s, .slice ao t.ks.length cap] 27 (0, 0)) := by rw [hW2]; exact (Below.heap_alloc _ _ _ (by simp; omega)).trans (c_new1 w _ _)
    have hres : W2.heap[w.heap.size + 1]? = some (.cells #[.int .i64 0, .int .i64 0, .int .i64 0, .int .i64 0, .string ⟨#[]⟩, .slice none 0 0] 27 (0, 0)) := by rw [hW2]; exact (Below.heap_alloc _ _ _ (by simp)).trans (c_new2 w _ _)
    have hhd : W2.heap[w.heap.size + 1 + 1]? = some (.cells #[.int .i64 62, .int .i64 t.a, .int .i64 0, .int .i64 t.m, .string ⟨#[]⟩, .slice none 0 0] 27 (0, 0)) := by rw [hW2]; exact c_new3 w _ _ _
    clear hW2
    have hS0 := nsev (w := W2.drew) hbox hhd
    have HK0 := Lib.hid (And.intro hbox (And.intro hres hhd))
    have HBe0 := Lib.hid (show Below w.heap.size w W2.drew from hB2.drew)
    have HZ0 := Lib.hid (show w.heap.size + 2 ≤ W2.drew.heap.size from hzW)
    clear hB2 hbox hres hzW hhd
    go_region_held3 (fun w' => w'.cell? ⟨w.heap.size, 5, none⟩ = some (.slice ao t.ks.length cap) ∧ w'.cell? ⟨w.heap.size + 1 + 1, 0, none⟩ = some (.int .i64 62) ∧ w'.cell? ⟨w.heap.size + 1 + 1, 1, none⟩ = some (.int .i64 t.a) ∧ w'.cell? ⟨w.heap.size + 1 + 1, 2, none⟩ = some (.int .i64 0) ∧ w'.cell? ⟨w.heap.size + 1 + 1, 3, none⟩ = some (.int .i64 t.m) ∧ w'.cell? ⟨w.heap.size + 1 + 1, 4, none⟩ = some (.string ⟨#[]⟩) ∧ w'.cell? ⟨w.heap.size + 1 + 1, 5, none⟩ = some (.slice none 0 0)) (first | with_reducible assumption | with_reducible exact sev_st60 hS2 (by omega) (by omega)) (first
      | (go_at_call 37; refine (within_any 50 _ f 201 (eleG P) _ (by omega) (HE.out _ HBe0.out)).mono ?_; rintro e w1 ⟨b1, rfl, hP1, hB⟩; have hk1 := c_kept hB (c_lt HK0.out.1) HK0.out.1; have hk2 := c_kept hB (c_lt HK0.out.2.1) HK0.out.2.1; have hk3 := c_kept hB (c_lt HK0.out.2.2) HK0.out.2.2; have hS2 := nsev hk1 hk3; have HK1 := Lib.hid (And.intro hk1 (And.intro hk2 hk3)); clear hk3; have HBe1 := Lib.hid (c_thr HBe0.out hB HBe0.out.size); have HZ1 := Lib.hid (Nat.le_trans HZ0.out hB.size); have HP1 := Lib.hid hP1; clear hP1; clear hk1 hk2 hB)
      | (go_at_call 49; refine (pair_any 47 48 _ _ f 201 (by omega) keepV (withinV (eleG P)) _ (keep_part _ f 201 hf (by omega)) HP1.out).mono ?_; rintro e w2 ⟨b2, c2, rfl, hP2, hB⟩; have hk1 := c_kept hB (c_lt HK1.out.1) HK1.out.1; have hk2 := c_kept hB (c_lt HK1.out.2.1) HK1.out.2.1; have hk3 := c_kept hB (c_lt HK1.out.2.2) HK1.out.2.2; have hS2 := nsev hk1 hk3; have HK2 := Lib.hid (And.intro hk1 (And.intro hk2 hk3)); clear hk3; have HBe2 := Lib.hid (c_thr HBe1.out hB HBe1.out.size); have HZ2 := Lib.hid (Nat.le_trans HZ1.out hB.size); have HP2 := Lib.hid hP2; clear hP2; clear hk1 hk2 hB)
      | (go_at_call 26; have HM := made_any 54 _ f (pairV keepV (withinV (eleG P))) 62 t.a t.m t ao cap d 201 _ (by omega) HP2.out hf HKL.out hks (by omega) (HT.out _ HBe2.out); rw [HR.out] at HM; refine HM.mono ?_; rintro e w9 ⟨hx, rfl, hB9⟩; have hS2 := nsev (c_kept hB9 (c_lt HK2.out.1) HK2.out.1) (c_kept hB9 (c_lt HK2.out.2.2) HK2.out.2.2); obtain ⟨⟨r0, r1, r2, r3, r4, r5⟩, ⟨q0, q1, q2, q3, q4, q5⟩, hr⟩ := c_six (c_kept hB9 (c_lt HK2.out.2.1) HK2.out.2.1); have hW9 := c_thr HBe2.out hB9 HBe2.out.size; have HF := Lib.hid (And.intro hx hW9); clear hx hW9 hB9))
    go_wp2
    refine bodyPost_ret (v := .tuple #[.agg #[.int .i64 0, .int .i64 0, .int .i64 0, .int .i64 0, .string ⟨#[]⟩, .slice none 0 0], .int .i64 x]) (by simp [results, Try.results38, go_sem, r0, r1, r2, r3, r4, r5]) rfl ?_
    exact ⟨HF.out.1, rfl, c_st6 HF.out.2 (by omega)⟩
set_option linter.unusedVariables false in
set_option maxRecDepth 100000 in
set_option maxHeartbeats 1000000 in
theorem prop_short (f : Nat) (P : Part) (hf : f ≤ 100000) (t : Tr) (ao : Option Addr) (cap d : Nat) (l : Bool) (w : World) (hks : t.ks.length ≤ 100000) (hd : d ≤ 200) (HE : Hid (∀ W : World, Below w.heap.size w W → PartAt 50 #[] W f 200 (eleG P))) (HT : Hid (∀ W : World, Below w.heap.size w W → TIn W All t (.slice ao t.ks.length cap))) (ht : t.cnt ≤ f) (g0 : (t.op != 39) = false) (gn0 : (t.n == 0) = false) (gn : (t.n == 3) = true) (gl : t.ks.length = 1 ∨ t.ks.length = 2) :
    Calls Try.prog 38 #[.agg #[.int .i64 t.op, .int .i64 t.a, .int .i64 t.n, .int .i64 t.m, .string t.s, .slice ao t.ks.length cap], .int .i64 d, .bool l] w (RPost w (Fresh w) (madeV 62 t.a t.m (writtenV t.ks) d (pairV (onlyV txtB) (withinV (eleG P))))) := by
  have HKL := Lib.hid (written_le ht gl)
  have HGL := Lib.hid gl
  have hwl := written_len gl
  have HWL := Lib.hid hwl
  obtain ⟨b1, hb1⟩ : ∃ b1, b1 = ((t.ks.length : Int) == 1) := ⟨_, rfl⟩
  have gl1 : ((t.ks.length : Int) == 1) = b1 := hb1.symm
  have gl2 : b1 = false → ((t.ks.length : Int) == 2) = true := by
    intro h
    rw [h] at hb1
    have h1 : ¬ ((t.ks.length : Int) = 1) := by simpa using hb1.symm
    simp
    omega
  have HL2 := Lib.hid gl2
  clear gl hwl gl2 hb1
  cases hR : madeV 62 t.a t.m (writtenV t.ks) d (pairV (onlyV txtB) (withinV (eleG P))) with
  | ok r =>
    show Calls Try.prog 38 _ w (OkPost w (Fresh w) r)
    have HR := Lib.hid hR
    clear hR
    cases b1 with
    | true =>
      have gl2 : True := trivial
      go_enter Try.func38, Try.ntmps38
      go_upto_region 8 with fail
      obtain ⟨W2, hW2⟩ : ∃ W2, W2 = (((w.alloc (.cells #[.int .i64 t.op, .int .i64 t.a, .int .i64 t.n, .int .i64 t.m, .string t.s, .slice ao t.ks.length cap] 27)).alloc (.cells #[.int .i64 0, .int .i64 0, .int .i64 0, .int .i64 0, .string ⟨#[]⟩, .slice none 0 0] 27)).alloc (.cells #[.int .i64 62, .int .i64 t.a, .int .i64 0, .int .i64 t.m, .string ⟨#[]⟩, .slice none 0 0] 27)) := ⟨_, rfl⟩
      rw [← hW2]
      have hB2 : Below w.heap.size w W2 := by rw [hW2]; exact c_box3 w _ _ _
      have hzW : w.heap.size + 2 ≤ W2.heap.size := by rw [hW2]; simp
      have hbox : W2.heap[w.heap.size]? = some (.cells #[.int .i64 t.op, .int .i64 t.a, .int .i64 t.n, .int .i64 t.m, .string t.s, .slice ao t.ks.length cap] 27 (0, 0)) := by rw [hW2]; exact (Below.heap_alloc _ _ _ (by simp; omega)).trans (c_new1 w _ _)
      have hres : W2.heap[w.heap.size + 1]? = some (.cells #[.int .i64 0, .int .i64 0, .int .i64 0, .int .i64 0, .string ⟨#[]⟩, .slice none 0 0] 27 (0, 0)) := by rw [hW2]; exact (Below.heap_alloc _ _ _ (by simp)).trans (c_new2 w _ _)
      have hhd : W2.heap[w.heap.size + 1 + 1]? = some (.cells #[.int .i64 62, .int .i64 t.a, .int .i64 0, .int .i64 t.m, .string ⟨#[]⟩, .slice none 0 0] 27 (0, 0)) := by rw [hW2]; exact c_new3 w _ _ _
      clear hW2
      have hS0 := nsev (w := W2.drew) hbox hhd
      have HK0 := Lib.hid (And.intro hbox (And.intro hres hhd))
      have HBe0 := Lib.hid (show Below w.heap.size w W2.drew from hB2.drew)
      have HZ0 := Lib.hid (show w.heap.size + 2 ≤ W2.drew.heap.size from hzW)
      clear hB2 hbox hres hzW hhd
      go_region_held3 (fun w' => w'.cell? ⟨w.heap.size, 5, none⟩ = some (.slice ao t.ks.length cap) ∧ w'.cell? ⟨w.heap.size + 1 + 1, 0, none⟩ = some (.int .i64 62) ∧ w'.cell? ⟨w.heap.size + 1 + 1, 1, none⟩ = some (.int .i64 t.a) ∧ w'.cell? ⟨w.heap.size + 1 + 1, 2, none⟩ = some (.int .i64 0) ∧ w'.cell? ⟨w.heap.size + 1 + 1, 3, none⟩ = some (.int .i64 t.m) ∧ w'.cell? ⟨w.heap.size + 1 + 1, 4, none⟩ = some (.string ⟨#[]⟩) ∧ w'.cell? ⟨w.heap.size + 1 + 1, 5, none⟩ = some (.slice none 0 0)) (first | with_reducible assumption | with_reducible exact sev_st60 hS2 (by omega) (by omega)) (first
        | (go_at_call 51; refine (written_any t ao cap _ HGL.out (HT.out _ HBe0.out)).mono ?_; rintro e w1 ⟨wo, wc, rfl, hTW, hB⟩; have hk1 := c_kept hB (c_lt HK0.out.1) HK0.out.1; have hk2 := c_kept hB (c_lt HK0.out.2.1) HK0.out.2.1; have hk3 := c_kept hB (c_lt HK0.out.2.2) HK0.out.2.2; have hS2 := nsev hk1 hk3; have HK1 := Lib.hid (And.intro hk1 (And.intro hk2 hk3)); clear hk3; have HBe1 := Lib.hid (c_thr HBe0.out hB HBe0.out.size); have HZ1 := Lib.hid (Nat.le_trans HZ0.out hB.size); have HTW1 := Lib.hid hTW; clear hTW; clear hk1 hk2 hB)
        | (go_at_call 52; refine (only_any 53 f 201 txtB _ hf (by omega) pred53).mono ?_; rintro e w2 ⟨b2, rfl, hP2, hB⟩; have hk1 := c_kept hB (c_lt HK1.out.1) HK1.out.1; have hk2 := c_kept hB (c_lt HK1.out.2.1) HK1.out.2.1; have hk3 := c_kept hB (c_lt HK1.out.2.2) HK1.out.2.2; have hS2 := nsev hk1 hk3; have HK2 := Lib.hid (And.intro hk1 (And.intro hk2 hk3)); clear hk3; have HBe2 := Lib.hid (c_thr HBe1.out hB HBe1.out.size); have HZ2 := Lib.hid (Nat.le_trans HZ1.out hB.size); have HTW2 := Lib.hid (tin_kept HTW1.out hB); have HP2 := Lib.hid hP2; clear hP2; clear hk1 hk2 hB)
        | (go_at_call 37; refine (within_any 50 _ f 201 (eleG P) _ (by omega) (HE.out _ HBe2.out)).mono ?_; rintro e w3 ⟨b3, rfl, hP3, hB⟩; have hk1 := c_kept hB (c_lt HK2.out.1) HK2.out.1; have hk2 := c_kept hB (c_lt HK2.out.2.1) HK2.out.2.1; have hk3 := c_kept hB (c_lt HK2.out.2.2) HK2.out.2.2; have hS2 := nsev hk1 hk3; have HK3 := Lib.hid (And.intro hk1 (And.intro hk2 hk3)); clear hk3; have HBe3 := Lib.hid (c_thr HBe2.out hB HBe2.out.size); have HZ3 := Lib.hid (Nat.le_trans HZ2.out hB.size); have HTW3 := Lib.hid (tin_kept HTW2.out hB); have HP3 := Lib.hid hP3; have HQ3 := Lib.hid (part_below HP2.out hB); clear hP3; clear hk1 hk2 hB)
        | (go_at_call 49; refine (pair_any 55 48 _ _ f 201 (by omega) (onlyV txtB) (withinV (eleG P)) _ HQ3.out HP3.out).mono ?_; rintro e w4 ⟨b4, c4, rfl, hP4, hB⟩; have hk1 := c_kept hB (c_lt HK3.out.1) HK3.out.1; have hk2 := c_kept hB (c_lt HK3.out.2.1) HK3.out.2.1; have hk3 := c_kept hB (c_lt HK3.out.2.2) HK3.out.2.2; have hS2 := nsev hk1 hk3; have HK4 := Lib.hid (And.intro hk1 (And.intro hk2 hk3)); clear hk3; have HBe4 := Lib.hid (c_thr HBe3.out hB HBe3.out.size); have HZ4 := Lib.hid (Nat.le_trans HZ3.out hB.size); have HTW4 := Lib.hid (tin_kept HTW3.out hB); have HP4 := Lib.hid hP4; clear hP4; clear hk1 hk2 hB)
        | (go_at_call 26; have HM := made_list 54 _ f (pairV (onlyV txtB) (withinV (eleG P))) 62 t.a t.m (writtenV t.ks) wo wc d 201 _ (by omega) HP4.out hf HKL.out (by rw [HWL.out]; omega) (by omega) HTW4.out; rw [HR.out] at HM; refine HM.mono ?_; rintro e w9 ⟨yo, yl, yc, rfl, htin9, hB9⟩; have hS2 := nsev (c_kept hB9 (c_lt HK4.out.1) HK4.out.1) (c_kept hB9 (c_lt HK4.out.2.2) HK4.out.2.2); obtain ⟨⟨r0, r1, r2, r3, r4, r5⟩, ⟨q0, q1, q2, q3, q4, q5⟩, hr⟩ := c_six (c_kept hB9 (c_lt HK4.out.2.1) HK4.out.2.1); have hW9 := c_thr HBe4.out hB9 HBe4.out.size; have HF := Lib.hid (And.intro htin9 (And.intro HZ4.out hW9)); clear htin9 hW9 hB9))
      go_wp2
      refine bodyPost_ret (v := .tuple #[.agg #[.int .i64 r.op, .int .i64 r.a, .int .i64 r.n, .int .i64 r.m, .string r.s, .slice yo yl yc], .int .i64 0]) (by simp [results, Try.results38, go_sem, r0, r1, r2, r3, r4, r5]) rfl ?_
      exact ⟨yo, yl, yc, rfl, fin_ok HF.out.1 HF.out.2.1 HF.out.2.2⟩

    | false =>
      have gl2 : ((t.ks.length : Int) == 2) = true := HL2.out rfl
      go_enter Try.func38, Try.ntmps38
      go_upto_region 8 with fail
      obtain ⟨W2, hW2⟩ : ∃ W2, W2 = (((w.alloc (.cells #[.int .i64 t.op, .int .i64 t.a, .int .i64 t.n, .int .i64 t.m, .string t.s, .slice ao t.ks.length cap] 27)).alloc (.cells #[.int .i64 0, .int .i64 0, .int .i64 0, .int .i64 0, .string ⟨#[]⟩, .slice none 0 0] 27)).alloc (.cells #[.int .i64 62, .int .i64 t.a, .int .i64 0, .int .i64 t.m, .string ⟨#[]⟩, .slice none 0 0] 27)) := ⟨_, rfl⟩
      rw [← hW2]
      have hB2 : Below w.heap.size w W2 := by rw [hW2]; exact c_box3 w _ _ _
      have hzW : w.heap.size + 2 ≤ W2.heap.size := by rw [hW2]; simp
      have hbox : W2.heap[w.heap.size]? = some (.cells #[.int .i64 t.op, .int .i64 t.a, .int .i64 t.n, .int .i64 t.m, .string t.s, .slice ao t.ks.length cap] 27 (0, 0)) := by rw [hW2]; exact (Below.heap_alloc _ _ _ (by simp; omega)).trans (c_new1 w _ _)
      have hres : W2.heap[w.heap.size + 1]? = some (.cells #[.int .i64 0, .int .i64 0, .int .i64 0, .int .i64 0, .string ⟨#[]⟩, .slice none 0 0] 27 (0, 0)) := by rw [hW2]; exact (Below.heap_alloc _ _ _ (by simp)).trans (c_new2 w _ _)
      have hhd : W2.heap[w.heap.size + 1 + 1]? = some (.cells #[.int .i64 62, .int .i64 t.a, .int .i64 0, .int .i64 t.m, .string ⟨#[]⟩, .slice none 0 0] 27 (0, 0)) := by rw [hW2]; exact c_new3 w _ _ _
      clear hW2
      have hS0 := nsev (w := W2.drew) hbox hhd
      have HK0 := Lib.hid (And.intro hbox (And.intro hres hhd))
      have HBe0 := Lib.hid (show Below w.heap.size w W2.drew from hB2.drew)
      have HZ0 := Lib.hid (show w.heap.size + 2 ≤ W2.drew.heap.size from hzW)
      clear hB2 hbox hres hzW hhd
      go_region_held3 (fun w' => w'.cell? ⟨w.heap.size, 5, none⟩ = some (.slice ao t.ks.length cap) ∧ w'.cell? ⟨w.heap.size + 1 + 1, 0, none⟩ = some (.int .i64 62) ∧ w'.cell? ⟨w.heap.size + 1 + 1, 1, none⟩ = some (.int .i64 t.a) ∧ w'.cell? ⟨w.heap.size + 1 + 1, 2, none⟩ = some (.int .i64 0) ∧ w'.cell? ⟨w.heap.size + 1 + 1, 3, none⟩ = some (.int .i64 t.m) ∧ w'.cell? ⟨w.heap.size + 1 + 1, 4, none⟩ = some (.string ⟨#[]⟩) ∧ w'.cell? ⟨w.heap.size + 1 + 1, 5, none⟩ = some (.slice none 0 0)) (first | with_reducible assumption | with_reducible exact sev_st60 hS2 (by omega) (by omega)) (first
        | (go_at_call 51; refine (written_any t ao cap _ HGL.out (HT.out _ HBe0.out)).mono ?_; rintro e w1 ⟨wo, wc, rfl, hTW, hB⟩; have hk1 := c_kept hB (c_lt HK0.out.1) HK0.out.1; have hk2 := c_kept hB (c_lt HK0.out.2.1) HK0.out.2.1; have hk3 := c_kept hB (c_lt HK0.out.2.2) HK0.out.2.2; have hS2 := nsev hk1 hk3; have HK1 := Lib.hid (And.intro hk1 (And.intro hk2 hk3)); clear hk3; have HBe1 := Lib.hid (c_thr HBe0.out hB HBe0.out.size); have HZ1 := Lib.hid (Nat.le_trans HZ0.out hB.size); have HTW1 := Lib.hid hTW; clear hTW; clear hk1 hk2 hB)
        | (go_at_call 52; refine (only_any 53 f 201 txtB _ hf (by omega) pred53).mono ?_; rintro e w2 ⟨b2, rfl, hP2, hB⟩; have hk1 := c_kept hB (c_lt HK1.out.1) HK1.out.1; have hk2 := c_kept hB (c_lt HK1.out.2.1) HK1.out.2.1; have hk3 := c_kept hB (c_lt HK1.out.2.2) HK1.out.2.2; have hS2 := nsev hk1 hk3; have HK2 := Lib.hid (And.intro hk1 (And.intro hk2 hk3)); clear hk3; have HBe2 := Lib.hid (c_thr HBe1.out hB HBe1.out.size); have HZ2 := Lib.hid (Nat.le_trans HZ1.out hB.size); have HTW2 := Lib.hid (tin_kept HTW1.out hB); have HP2 := Lib.hid hP2; clear hP2; clear hk1 hk2 hB)
        | (go_at_call 37; refine (within_any 50 _ f 201 (eleG P) _ (by omega) (HE.out _ HBe2.out)).mono ?_; rintro e w3 ⟨b3, rfl, hP3, hB⟩; have hk1 := c_kept hB (c_lt HK2.out.1) HK2.out.1; have hk2 := c_kept hB (c_lt HK2.out.2.1) HK2.out.2.1; have hk3 := c_kept hB (c_lt HK2.out.2.2) HK2.out.2.2; have hS2 := nsev hk1 hk3; have HK3 := Lib.hid (And.intro hk1 (And.intro hk2 hk3)); clear hk3; have HBe3 := Lib.hid (c_thr HBe2.out hB HBe2.out.size); have HZ3 := Lib.hid (Nat.le_trans HZ2.out hB.size); have HTW3 := Lib.hid (tin_kept HTW2.out hB); have HP3 := Lib.hid hP3; have HQ3 := Lib.hid (part_below HP2.out hB); clear hP3; clear hk1 hk2 hB)
        | (go_at_call 49; refine (pair_any 55 48 _ _ f 201 (by omega) (onlyV txtB) (withinV (eleG P)) _ HQ3.out HP3.out).mono ?_; rintro e w4 ⟨b4, c4, rfl, hP4, hB⟩; have hk1 := c_kept hB (c_lt HK3.out.1) HK3.out.1; have hk2 := c_kept hB (c_lt HK3.out.2.1) HK3.out.2.1; have hk3 := c_kept hB (c_lt HK3.out.2.2) HK3.out.2.2; have hS2 := nsev hk1 hk3; have HK4 := Lib.hid (And.intro hk1 (And.intro hk2 hk3)); clear hk3; have HBe4 := Lib.hid (c_thr HBe3.out hB HBe3.out.size); have HZ4 := Lib.hid (Nat.le_trans HZ3.out hB.size); have HTW4 := Lib.hid (tin_kept HTW3.out hB); have HP4 := Lib.hid hP4; clear hP4; clear hk1 hk2 hB)
        | (go_at_call 26; have HM := made_list 54 _ f (pairV (onlyV txtB) (withinV (eleG P))) 62 t.a t.m (writtenV t.ks) wo wc d 201 _ (by omega) HP4.out hf HKL.out (by rw [HWL.out]; omega) (by omega) HTW4.out; rw [HR.out] at HM; refine HM.mono ?_; rintro e w9 ⟨yo, yl, yc, rfl, htin9, hB9⟩; have hS2 := nsev (c_kept hB9 (c_lt HK4.out.1) HK4.out.1) (c_kept hB9 (c_lt HK4.out.2.2) HK4.out.2.2); obtain ⟨⟨r0, r1, r2, r3, r4, r5⟩, ⟨q0, q1, q2, q3, q4, q5⟩, hr⟩ := c_six (c_kept hB9 (c_lt HK4.out.2.1) HK4.out.2.1); have hW9 := c_thr HBe4.out hB9 HBe4.out.size; have HF := Lib.hid (And.intro htin9 (And.intro HZ4.out hW9)); clear htin9 hW9 hB9))
      go_wp2
      refine bodyPost_ret (v := .tuple #[.agg #[.int .i64 r.op, .int .i64 r.a, .int .i64 r.n, .int .i64 r.m, .string r.s, .slice yo yl yc], .int .i64 0]) (by simp [results, Try.results38, go_sem, r0, r1, r2, r3, r4, r5]) rfl ?_
      exact ⟨yo, yl, yc, rfl, fin_ok HF.out.1 HF.out.2.1 HF.out.2.2⟩

  | error x =>
    show Calls Try.prog 38 _ w (ErPost w x)
    have HR := Lib.hid hR
    clear hR
    cases b1 with
    | true =>
      have gl2 : True := trivial
      go_enter Try.func38, Try.ntmps38
      go_upto_region 8 with fail
      obtain ⟨W2, hW2⟩ : ∃ W2, W2 = (((w.alloc (.cells #[.int .i64 t.op, .int .i64 t.a, .int .i64 t.n, .int .i64 t.m, .string t.s, .slice ao t.ks.length cap] 27)).alloc (.cells #[.int .i64 0, .int .i64 0, .int .i64 0, .int .i64 0, .string ⟨#[]⟩, .slice none 0 0] 27)).alloc (.cells #[.int .i64 62, .int .i64 t.a, .int .i64 0, .int .i64 t.m, .string ⟨#[]⟩, .slice none 0 0] 27)) := ⟨_, rfl⟩
      rw [← hW2]
      have hB2 : Below w.heap.size w W2 := by rw [hW2]; exact c_box3 w _ _ _
      have hzW : w.heap.size + 2 ≤ W2.heap.size := by rw [hW2]; simp
      have hbox : W2.heap[w.heap.size]? = some (.cells #[.int .i64 t.op, .int .i64 t.a, .int .i64 t.n, .int .i64 t.m, .string t.s, .slice ao t.ks.length cap] 27 (0, 0)) := by rw [hW2]; exact (Below.heap_alloc _ _ _ (by simp; omega)).trans (c_new1 w _ _)
      have hres : W2.heap[w.heap.size + 1]? = some (.cells #[.int .i64 0, .int .i64 0, .int .i64 0, .int .i64 0, .string ⟨#[]⟩, .slice none 0 0] 27 (0, 0)) := by rw [hW2]; exact (Below.heap_alloc _ _ _ (by simp)).trans (c_new2 w _ _)
      have hhd : W2.heap[w.heap.size + 1 + 1]? = some (.cells #[.int .i64 62, .int .i64 t.a, .int .i64 0, .int .i64 t.m, .string ⟨#[]⟩, .slice none 0 0] 27 (0, 0)) := by rw [hW2]; exact c_new3 w _ _ _
      clear hW2
      have hS0 := nsev (w := W2.drew) hbox hhd
      have HK0 := Lib.hid (And.intro hbox (And.intro hres hhd))
      have HBe0 := Lib.hid (show Below w.heap.size w W2.drew from hB2.drew)
      have HZ0 := Lib.hid (show w.heap.size + 2 ≤ W2.drew.heap.size from hzW)
      clear hB2 hbox hres hzW hhd
      go_region_held3 (fun w' => w'.cell? ⟨w.heap.size, 5, none⟩ = some (.slice ao t.ks.length cap) ∧ w'.cell? ⟨w.heap.size + 1 + 1, 0, none⟩ = some (.int .i64 62) ∧ w'.cell? ⟨w.heap.size + 1 + 1, 1, none⟩ = some (.int .i64 t.a) ∧ w'.cell? ⟨w.heap.size + 1 + 1, 2, none⟩ = some (.int .i64 0) ∧ w'.cell? ⟨w.heap.size + 1 + 1, 3, none⟩ = some (.int .i64 t.m) ∧ w'.cell? ⟨w.heap.size + 1 + 1, 4, none⟩ = some (.string ⟨#[]⟩) ∧ w'.cell? ⟨w.heap.size + 1 + 1, 5, none⟩ = some (.slice none 0 0)) (first | with_reducible assumption | with_reducible exact sev_st60 hS2 (by omega) (by omega)) (first
        | (go_at_call 51; refine (written_any t ao cap _ HGL.out (HT.out _ HBe0.out)).mono ?_; rintro e w1 ⟨wo, wc, rfl, hTW, hB⟩; have hk1 := c_kept hB (c_lt HK0.out.1) HK0.out.1; have hk2 := c_kept hB (c_lt HK0.out.2.1) HK0.out.2.1; have hk3 := c_kept hB (c_lt HK0.out.2.2) HK0.out.2.2; have hS2 := nsev hk1 hk3; have HK1 := Lib.hid (And.intro hk1 (And.intro hk2 hk3)); clear hk3; have HBe1 := Lib.hid (c_thr HBe0.out hB HBe0.out.size); have HZ1 := Lib.hid (Nat.le_trans HZ0.out hB.size); have HTW1 := Lib.hid hTW; clear hTW; clear hk1 hk2 hB)
        | (go_at_call 52; refine (only_any 53 f 201 txtB _ hf (by omega) pred53).mono ?_; rintro e w2 ⟨b2, rfl, hP2, hB⟩; have hk1 := c_kept hB (c_lt HK1.out.1) HK1.out.1; have hk2 := c_kept hB (c_lt HK1.out.2.1) HK1.out.2.1; have hk3 := c_kept hB (c_lt HK1.out.2.2) HK1.out.2.2; have hS2 := nsev hk1 hk3; have HK2 := Lib.hid (And.intro hk1 (And.intro hk2 hk3)); clear hk3; have HBe2 := Lib.hid (c_thr HBe1.out hB HBe1.out.size); have HZ2 := Lib.hid (Nat.le_trans HZ1.out hB.size); have HTW2 := Lib.hid (tin_kept HTW1.out hB); have HP2 := Lib.hid hP2; clear hP2; clear hk1 hk2 hB)
        | (go_at_call 37; refine (within_any 50 _ f 201 (eleG P) _ (by omega) (HE.out _ HBe2.out)).mono ?_; rintro e w3 ⟨b3, rfl, hP3, hB⟩; have hk1 := c_kept hB (c_lt HK2.out.1) HK2.out.1; have hk2 := c_kept hB (c_lt HK2.out.2.1) HK2.out.2.1; have hk3 := c_kept hB (c_lt HK2.out.2.2) HK2.out.2.2; have hS2 := nsev hk1 hk3; have HK3 := Lib.hid (And.intro hk1 (And.intro hk2 hk3)); clear hk3; have HBe3 := Lib.hid (c_thr HBe2.out hB HBe2.out.size); have HZ3 := Lib.hid (Nat.le_trans HZ2.out hB.size); have HTW3 := Lib.hid (tin_kept HTW2.out hB); have HP3 := Lib.hid hP3; have HQ3 := Lib.hid (part_below HP2.out hB); clear hP3; clear hk1 hk2 hB)
        | (go_at_call 49; refine (pair_any 55 48 _ _ f 201 (by omega) (onlyV txtB) (withinV (eleG P)) _ HQ3.out HP3.out).mono ?_; rintro e w4 ⟨b4, c4, rfl, hP4, hB⟩; have hk1 := c_kept hB (c_lt HK3.out.1) HK3.out.1; have hk2 := c_kept hB (c_lt HK3.out.2.1) HK3.out.2.1; have hk3 := c_kept hB (c_lt HK3.out.2.2) HK3.out.2.2; have hS2 := nsev hk1 hk3; have HK4 := Lib.hid (And.intro hk1 (And.intro hk2 hk3)); clear hk3; have HBe4 := Lib.hid (c_thr HBe3.out hB HBe3.out.size); have HZ4 := Lib.hid (Nat.le_trans HZ3.out hB.size); have HTW4 := Lib.hid (tin_kept HTW3.out hB); have HP4 := Lib.hid hP4; clear hP4; clear hk1 hk2 hB)
        | (go_at_call 26; have HM := made_list 54 _ f (pairV (onlyV txtB) (withinV (eleG P))) 62 t.a t.m (writtenV t.ks) wo wc d 201 _ (by omega) HP4.out hf HKL.out (by rw [HWL.out]; omega) (by omega) HTW4.out; rw [HR.out] at HM; refine HM.mono ?_; rintro e w9 ⟨hx, rfl, hB9⟩; have hS2 := nsev (c_kept hB9 (c_lt HK4.out.1) HK4.out.1) (c_kept hB9 (c_lt HK4.out.2.2) HK4.out.2.2); obtain ⟨⟨r0, r1, r2, r3, r4, r5⟩, ⟨q0, q1, q2, q3, q4, q5⟩, hr⟩ := c_six (c_kept hB9 (c_lt HK4.out.2.1) HK4.out.2.1); have hW9 := c_thr HBe4.out hB9 HBe4.out.size; have HF := Lib.hid (And.intro hx hW9); clear hx hW9 hB9))
      go_wp2
      refine bodyPost_ret (v := .tuple #[.agg #[.int .i64 0, .int .i64 0, .int .i64 0, .int .i64 0, .string ⟨#[]⟩, .slice none 0 0], .int .i64 x]) (by simp [results, Try.results38, go_sem, r0, r1, r2, r3, r4, r5]) rfl ?_
      exact ⟨HF.out.1, rfl, c_st6 HF.out.2 (by omega)⟩

    | false =>
      have gl2 : ((t.ks.length : Int) == 2) = true := HL2.out rfl
      go_enter Try.func38, Try.ntmps38
      go_upto_region 8 with fail
      obtain ⟨W2, hW2⟩ : ∃ W2, W2 = (((w.alloc (.cells #[.int .i64 t.op, .int .i64 t.a, .int .i64 t.n, .int .i64 t.m, .string t.s, .slice ao t.ks.length cap] 27)).alloc (.cells #[.int .i64 0, .int .i64 0, .int .i64 0, .int .i64 0, .string ⟨#[]⟩, .slice none 0 0] 27)).alloc (.cells #[.int .i64 62, .int .i64 t.a, .int .i64 0, .int .i64 t.m, .string ⟨#[]⟩, .slice none 0 0] 27)) := ⟨_, rfl⟩
      rw [← hW2]
      have hB2 : Below w.heap.size w W2 := by rw [hW2]; exact c_box3 w _ _ _
      have hzW : w.heap.size + 2 ≤ W2.heap.size := by rw [hW2]; simp
      have hbox : W2.heap[w.heap.size]? = some (.cells #[.int .i64 t.op, .int .i64 t.a, .int .i64 t.n, .int .i64 t.m, .string t.s, .slice ao t.ks.length cap] 27 (0, 0)) := by rw [hW2]; exact (Below.heap_alloc _ _ _ (by simp; omega)).trans (c_new1 w _ _)
      have hres : W2.heap[w.heap.size + 1]? = some (.cells #[.int .i64 0, .int .i64 0, .int .i64 0, .int .i64 0, .string ⟨#[]⟩, .slice none 0 0] 27 (0, 0)) := by rw [hW2]; exact (Below.heap_alloc _ _ _ (by simp)).trans (c_new2 w _ _)
      have hhd : W2.heap[w.heap.size + 1 + 1]? = some (.cells #[.int .i64 62, .int .i64 t.a, .int .i64 0, .int .i64 t.m, .string ⟨#[]⟩, .slice none 0 0] 27 (0, 0)) := by rw [hW2]; exact c_new3 w _ _ _
      clear hW2
      have hS0 := nsev (w := W2.drew) hbox hhd
      have HK0 := Lib.hid (And.intro hbox (And.intro hres hhd))
      have HBe0 := Lib.hid (show Below w.heap.size w W2.drew from hB2.drew)
      have HZ0 := Lib.hid (show w.heap.size + 2 ≤ W2.drew.heap.size from hzW)
      clear hB2 hbox hres hzW hhd
      go_region_held3 (fun w' => w'.cell? ⟨w.heap.size, 5, none⟩ = some (.slice ao t.ks.length cap) ∧ w'.cell? ⟨w.heap.size + 1 + 1, 0, none⟩ = some (.int .i64 62) ∧ w'.cell? ⟨w.heap.size + 1 + 1, 1, none⟩ = some (.int .i64 t.a) ∧ w'.cell? ⟨w.heap.size + 1 + 1, 2, none⟩ = some (.int .i64 0) ∧ w'.cell? ⟨w.heap.size + 1 + 1, 3, none⟩ = some (.int .i64 t.m) ∧ w'.cell? ⟨w.heap.size + 1 + 1, 4, none⟩ = some (.string ⟨#[]⟩) ∧ w'.cell? ⟨w.heap.size + 1 + 1, 5, none⟩ = some (.slice none 0 0)) (first | with_reducible assumption | with_reducible exact sev_st60 hS2 (by omega) (by omega)) (first
        | (go_at_call 51; refine (written_any t ao cap _ HGL.out (HT.out _ HBe0.out)).mono ?_; rintro e w1 ⟨wo, wc, rfl, hTW, hB⟩; have hk1 := c_kept hB (c_lt HK0.out.1) HK0.out.1; have hk2 := c_kept hB (c_lt HK0.out.2.1) HK0.out.2.1; have hk3 := c_kept hB (c_lt HK0.out.2.2) HK0.out.2.2; have hS2 := nsev hk1 hk3; have HK1 := Lib.hid (And.intro hk1 (And.intro hk2 hk3)); clear hk3; have HBe1 := Lib.hid (c_thr HBe0.out hB HBe0.out.size); have HZ1 := Lib.hid (Nat.le_trans HZ0.out hB.size); have HTW1 := Lib.hid hTW; clear hTW; clear hk1 hk2 hB)
        | (go_at_call 52; refine (only_any 53 f 201 txtB _ hf (by omega) pred53).mono ?_; rintro e w2 ⟨b2, rfl, hP2, hB⟩; have hk1 := c_kept hB (c_lt HK1.out.1) HK1.out.1; have hk2 := c_kept hB (c_lt HK1.out.2.1) HK1.out.2.1; have hk3 := c_kept hB (c_lt HK1.out.2.2) HK1.out.2.2; have hS2 := nsev hk1 hk3; have HK2 := Lib.hid (And.intro hk1 (And.intro hk2 hk3)); clear hk3; have HBe2 := Lib.hid (c_thr HBe1.out hB HBe1.out.size); have HZ2 := Lib.hid (Nat.le_trans HZ1.out hB.size); have HTW2 := Lib.hid (tin_kept HTW1.out hB); have HP2 := Lib.hid hP2; clear hP2; clear hk1 hk2 hB)
        | (go_at_call 37; refine (within_any 50 _ f 201 (eleG P) _ (by omega) (HE.out _ HBe2.out)).mono ?_; rintro e w3 ⟨b3, rfl, hP3, hB⟩; have hk1 := c_kept hB (c_lt HK2.out.1) HK2.out.1; have hk2 := c_kept hB (c_lt HK2.out.2.1) HK2.out.2.1; have hk3 := c_kept hB (c_lt HK2.out.2.2) HK2.out.2.2; have hS2 := nsev hk1 hk3; have HK3 := Lib.hid (And.intro hk1 (And.intro hk2 hk3)); clear hk3; have HBe3 := Lib.hid (c_thr HBe2.out hB HBe2.out.size); have HZ3 := Lib.hid (Nat.le_trans HZ2.out hB.size); have HTW3 := Lib.hid (tin_kept HTW2.out hB); have HP3 := Lib.hid hP3; have HQ3 := Lib.hid (part_below HP2.out hB); clear hP3; clear hk1 hk2 hB)
        | (go_at_call 49; refine (pair_any 55 48 _ _ f 201 (by omega) (onlyV txtB) (withinV (eleG P)) _ HQ3.out HP3.out).mono ?_; rintro e w4 ⟨b4, c4, rfl, hP4, hB⟩; have hk1 := c_kept hB (c_lt HK3.out.1) HK3.out.1; have hk2 := c_kept hB (c_lt HK3.out.2.1) HK3.out.2.1; have hk3 := c_kept hB (c_lt HK3.out.2.2) HK3.out.2.2; have hS2 := nsev hk1 hk3; have HK4 := Lib.hid (And.intro hk1 (And.intro hk2 hk3)); clear hk3; have HBe4 := Lib.hid (c_thr HBe3.out hB HBe3.out.size); have HZ4 := Lib.hid (Nat.le_trans HZ3.out hB.size); have HTW4 := Lib.hid (tin_kept HTW3.out hB); have HP4 := Lib.hid hP4; clear hP4; clear hk1 hk2 hB)
        | (go_at_call 26; have HM := made_list 54 _ f (pairV (onlyV txtB) (withinV (eleG P))) 62 t.a t.m (writtenV t.ks) wo wc d 201 _ (by omega) HP4.out hf HKL.out (by rw [HWL.out]; omega) (by omega) HTW4.out; rw [HR.out] at HM; refine HM.mono ?_; rintro e w9 ⟨hx, rfl, hB9⟩; have hS2 := nsev (c_kept hB9 (c_lt HK4.out.1) HK4.out.1) (c_kept hB9 (c_lt HK4.out.2.2) HK4.out.2.2); obtain ⟨⟨r0, r1, r2, r3, r4, r5⟩, ⟨q0, q1, q2, q3, q4, q5⟩, hr⟩ := c_six (c_kept hB9 (c_lt HK4.out.2.1) HK4.out.2.1); have hW9 := c_thr HBe4.out hB9 HBe4.out.size; have HF := Lib.hid (And.intro hx hW9); clear hx hW9 hB9))
      go_wp2
      refine bodyPost_ret (v := .tuple #[.agg #[.int .i64 0, .int .i64 0, .int .i64 0, .int .i64 0, .string ⟨#[]⟩, .slice none 0 0], .int .i64 x]) (by simp [results, Try.results38, go_sem, r0, r1, r2, r3, r4, r5]) rfl ?_
      exact ⟨HF.out.1, rfl, c_st6 HF.out.2 (by omega)⟩

set_option linter.unusedVariables false in
set_option maxRecDepth 100000 in
set_option maxHeartbeats 1000000 in
theorem prop_spread (f : Nat) (P : Part) (hf : f ≤ 100000) (t : Tr) (ao : Option Addr) (cap d : Nat) (l : Bool) (w : World) (hks : t.ks.length ≤ 100000) (hd : d ≤ 200) (HE : Hid (∀ W : World, Below w.heap.size w W → PartAt 50 #[] W f 200 (eleG P))) (HT : Hid (∀ W : World, Below w.heap.size w W → TIn W All t (.slice ao t.ks.length cap))) (ht : t.cnt ≤ f) (g0 : (t.op != 39) = false) (gn0 : (t.n == 0) = false) (gn3 : (t.n == 3) = false) (gn : (t.n == 4) = true) (gl : ((t.ks.length : Int) == 1) = true) (hl : l = true) :
    Calls Try.prog 38 #[.agg #[.int .i64 t.op, .int .i64 t.a, .int .i64 t.n, .int .i64 t.m, .string t.s, .slice ao t.ks.length cap], .int .i64 d, .bool l] w (RPost w (Fresh w) (madeV 64 t.a 0 t.ks d (withinV (onlyV tgtB)))) := by
  have HKL := Lib.hid (fun x (hx : x ∈ t.ks) => kid_le ht hx)
  subst hl
  cases hR : madeV 64 t.a 0 t.ks d (withinV (onlyV tgtB)) with
  | ok r =>
    show Calls Try.prog 38 _ w (OkPost w (Fresh w) r)
    have HR := Lib.hid hR
    clear hR
    go_enter Try.func38, Try.ntmps38
    go_upto_region 10 with fail
    obtain ⟨W2, hW2⟩ : ∃ W2, W2 = (((w.alloc (.cells #[.int .i64 t.op, .int .i64 t.a, .int .i64 t.n, .int .i64 t.m, .string t.s, .slice ao t.ks.length cap] 27)).alloc (.cells #[.int .i64 0, .int .i64 0, .int .i64 0, .int .i64 0, .string ⟨#[]⟩, .slice none 0 0] 27)).alloc (.cells #[.int .i64 62, .int .i64 t.a, .int .i64 0, .int .i64 t.m, .string ⟨#[]⟩, .slice none 0 0] 27)) := ⟨_, rfl⟩
    rw [← hW2]
    have hB2 : Below w.heap.size w W2 := by rw [hW2]; exact c_box3 w _ _ _
    have hzW : w.heap.size + 2 ≤ W2.heap.size := by rw [hW2]; simp
    have hbox : W2.heap[w.heap.size]? = some (.cells #[.int .i64 t.op, .int .i64 t.a, .int .i64 t.n, .int .i64 t.m, .string t.s, .slice ao t.ks.length cap] 27 (0, 0)) := by rw [hW2]; exact (Below.heap_alloc _ _ _ (by simp; omega)).trans (c_new1 w _ _)
    have hres : W2.heap[w.heap.size + 1]? = some (.cells #[.int .i64 0, .int .i64 0, .int .i64 0, .int .i64 0, .string ⟨#[]⟩, .slice none 0 0] 27 (0, 0)) := by rw [hW2]; exact (Below.heap_alloc _ _ _ (by simp)).trans (c_new2 w _ _)
    clear hW2
    have hS0 := two_of (w := W2.drew) hbox
    have HK0 := Lib.hid (And.intro hbox (And.intro hres trivial))
    have HBe0 := Lib.hid (show Below w.heap.size w W2.drew from hB2.drew)
    have HZ0 := Lib.hid (show w.heap.size + 2 ≤ W2.drew.heap.size from hzW)
    clear hB2 hbox hres hzW
    go_region_held3 (fun w' => w'.cell? ⟨w.heap.size, 1, none⟩ = some (.int .i64 t.a) ∧ w'.cell? ⟨w.heap.size, 5, none⟩ = some (.slice ao t.ks.length cap)) (first | with_reducible assumption | with_reducible exact two_st6 hS2 (by omega)) (first
      | (go_at_call 52; refine (only_any 14 f 200 tgtB _ hf (by omega) pred14).mono ?_; rintro e w1 ⟨b1, rfl, hP1, hB⟩; have hk1 := c_kept hB (c_lt HK0.out.1) HK0.out.1; have hk2 := c_kept hB (c_lt HK0.out.2.1) HK0.out.2.1; have hS2 := two_of hk1; have HK1 := Lib.hid (And.intro hk1 (And.intro hk2 trivial)); have HBe1 := Lib.hid (c_thr HBe0.out hB HBe0.out.size); have HZ1 := Lib.hid (Nat.le_trans HZ0.out hB.size); have HP1 := Lib.hid hP1; clear hP1; clear hk1 hk2 hB)
      | (go_at_call 37; refine (within_any 55 _ f 201 (onlyV tgtB) _ (by omega) HP1.out).mono ?_; rintro e w2 ⟨b2, rfl, hP2, hB⟩; have hk1 := c_kept hB (c_lt HK1.out.1) HK1.out.1; have hk2 := c_kept hB (c_lt HK1.out.2.1) HK1.out.2.1; have hS2 := two_of hk1; have HK2 := Lib.hid (And.intro hk1 (And.intro hk2 trivial)); have HBe2 := Lib.hid (c_thr HBe1.out hB HBe1.out.size); have HZ2 := Lib.hid (Nat.le_trans HZ1.out hB.size); have HP2 := Lib.hid hP2; clear hP2; clear hk1 hk2 hB)
      | (go_at_call 26; have HM := made_any 48 _ f (withinV (onlyV tgtB)) 64 t.a 0 t ao cap d 201 _ (by omega) HP2.out hf HKL.out hks (by omega) (HT.out _ HBe2.out); rw [HR.out] at HM; refine HM.mono ?_; rintro e w9 ⟨yo, yl, yc, rfl, htin9, hB9⟩; have hS2 := two_of (c_kept hB9 (c_lt HK2.out.1) HK2.out.1); obtain ⟨⟨r0, r1, r2, r3, r4, r5⟩, ⟨q0, q1, q2, q3, q4, q5⟩, hr⟩ := c_six (c_kept hB9 (c_lt HK2.out.2.1) HK2.out.2.1); have hW9 := c_thr HBe2.out hB9 HBe2.out.size; have HF := Lib.hid (And.intro htin9 (And.intro HZ2.out hW9)); clear htin9 hW9 hB9))
    go_wp2
    refine bodyPost_ret (v := .tuple #[.agg #[.int .i64 r.op, .int .i64 r.a, .int .i64 r.n, .int .i64 r.m, .string r.s, .slice yo yl yc], .int .i64 0]) (by simp [results, Try.results38, go_sem, r0, r1, r2, r3, r4, r5]) rfl ?_
    exact ⟨yo, yl, yc, rfl, fin_ok HF.out.1 HF.out.2.1 HF.out.2.2⟩
  | error x =>
    show Calls Try.prog 38 _ w (ErPost w x)
    have HR := Lib.hid hR
    clear hR
    go_enter Try.func38, Try.ntmps38
    go_upto_region 10 with fail
    obtain ⟨W2, hW2⟩ : ∃ W2, W2 = (((w.alloc (.cells #[.int .i64 t.op, .int .i64 t.a, .int .i64 t.n, .int .i64 t.m, .string t.s, .slice ao t.ks.length cap] 27)).alloc (.cells #[.int .i64 0, .int .i64 0, .int .i64 0, .int .i64 0, .string ⟨#[]⟩, .slice none 0 0] 27)).alloc (.cells #[.int .i64 62, .int .i64 t.a, .int .i64 0, .int .i64 t.m, .string ⟨#[]⟩, .slice none 0 0] 27)) := ⟨_, rfl⟩
    rw [← hW2]
    have hB2 : Below w.heap.size w W2 := by rw [hW2]; exact c_box3 w _ _ _
    have hzW : w.heap.size + 2 ≤ W2.heap.size := by rw [hW2]; simp
    have hbox : W2.heap[w.heap.size]? = some (.cells #[.int .i64 t.op, .int .i64 t.a, .int .i64 t.n, .int .i64 t.m, .string t.s, .slice ao t.ks.length cap] 27 (0, 0)) := by rw [hW2]; exact (Below.heap_alloc _ _ _ (by simp; omega)).trans (c_new1 w _ _)
    have hres : W2.heap[w.heap.size + 1]? = some (.cells #[.int .i64 0, .int .i64 0, .int .i64 0, .int .i64 0, .string ⟨#[]⟩, .slice none 0 0] 27 (0, 0)) := by rw [hW2]; exact (Below.heap_alloc _ _ _ (by simp)).trans (c_new2 w _ _)
    clear hW2
    have hS0 := two_of (w := W2.drew) hbox
    have HK0 := Lib.hid (And.intro hbox (And.intro hres trivial))
    have HBe0 := Lib.hid (show Below w.heap.size w W2.drew from hB2.drew)
    have HZ0 := Lib.hid (show w.heap.size + 2 ≤ W2.drew.heap.size from hzW)
    clear hB2 hbox hres hzW
    go_region_held3 (fun w' => w'.cell? ⟨w.heap.size, 1, none⟩ = some (.int .i64 t.a) ∧ w'.cell? ⟨w.heap.size, 5, none⟩ = some (.slice ao t.ks.length cap)) (first | with_reducible assumption | with_reducible exact two_st6 hS2 (by omega)) (first
      | (go_at_call 52; refine (only_any 14 f 200 tgtB _ hf (by omega) pred14).mono ?_; rintro e w1 ⟨b1, rfl, hP1, hB⟩; have hk1 := c_kept hB (c_lt HK0.out.1) HK0.out.1; have hk2 := c_kept hB (c_lt HK0.out.2.1) HK0.out.2.1; have hS2 := two_of hk1; have HK1 := Lib.hid (And.intro hk1 (And.intro hk2 trivial)); have HBe1 := Lib.hid (c_thr HBe0.out hB HBe0.out.size); have HZ1 := Lib.hid (Nat.le_trans HZ0.out hB.size); have HP1 := Lib.hid hP1; clear hP1; clear hk1 hk2 hB)
      | (go_at_call 37; refine (within_any 55 _ f 201 (onlyV tgtB) _ (by omega) HP1.out).mono ?_; rintro e w2 ⟨b2, rfl, hP2, hB⟩; have hk1 := c_kept hB (c_lt HK1.out.1) HK1.out.1; have hk2 := c_kept hB (c_lt HK1.out.2.1) HK1.out.2.1; have hS2 := two_of hk1; have HK2 := Lib.hid (And.intro hk1 (And.intro hk2 trivial)); have HBe2 := Lib.hid (c_thr HBe1.out hB HBe1.out.size); have HZ2 := Lib.hid (Nat.le_trans HZ1.out hB.size); have HP2 := Lib.hid hP2; clear hP2; clear hk1 hk2 hB)
      | (go_at_call 26; have HM := made_any 48 _ f (withinV (onlyV tgtB)) 64 t.a 0 t ao cap d 201 _ (by omega) HP2.out hf HKL.out hks (by omega) (HT.out _ HBe2.out); rw [HR.out] at HM; refine HM.mono ?_; rintro e w9 ⟨hx, rfl, hB9⟩; have hS2 := two_of (c_kept hB9 (c_lt HK2.out.1) HK2.out.1); obtain ⟨⟨r0, r1, r2, r3, r4, r5⟩, ⟨q0, q1, q2, q3, q4, q5⟩, hr⟩ := c_six (c_kept hB9 (c_lt HK2.out.2.1) HK2.out.2.1); have hW9 := c_thr HBe2.out hB9 HBe2.out.size; have HF := Lib.hid (And.intro hx hW9); clear hx hW9 hB9))
    go_wp2
    refine bodyPost_ret (v := .tuple #[.agg #[.int .i64 0, .int .i64 0, .int .i64 0, .int .i64 0, .string ⟨#[]⟩, .slice none 0 0], .int .i64 x]) (by simp [results, Try.results38, go_sem, r0, r1, r2, r3, r4, r5]) rfl ?_
    exact ⟨HF.out.1, rfl, c_st6 HF.out.2 (by omega)⟩
set_option linter.unusedVariables false in
set_option maxRecDepth 100000 in
set_option maxHeartbeats 1000000 in
theorem prop_not39 (t : Tr) (ao : Option Addr) (cap d : Nat) (l : Bool) (w : World) (g0 : (t.op != 39) = true) :
    Calls Try.prog 38 #[.agg #[.int .i64 t.op, .int .i64 t.a, .int .i64 t.n, .int .i64 t.m, .string t.s, .slice ao t.ks.length cap], .int .i64 d, .bool l] w (ErPost w 24) := by
  go_enter Try.func38, Try.ntmps38
  go_wp2
  go_returns
  exact ⟨rfl, rfl, c_box3 w _ _ _⟩
end Go.Proofs.Ytjnlifghobgkcaa
