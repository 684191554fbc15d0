/-
  pattern of package cover at this translation: what it answers for every tree.
-/
import Derived.Test.YtjnlifghobgkcaaC10
namespace Go.Proofs.Ytjnlifghobgkcaa
open Go.RowKit

def LenB (t : Tr) (k : Nat) : Bool := ((t.ks.length : Int) == k)
set_option linter.unusedVariables false in
set_option maxRecDepth 100000 in
set_option maxHeartbeats 1000000 in
theorem prop_err_a (t : Tr) (ao : Option Addr) (cap d : Nat) (l : Bool) (w : World) (g0 : (t.op != 39) = false) (gn0 : (t.n == 0) = true) (gl : ((t.ks.length : Int) == 2) = false) (gn3 : (t.n == 3) = false) (gn4 : (t.n == 4) = false) :
    Calls Try.prog 38 #[.agg #[.int .i64 t.op, .int .i64 t.a, .int .i64 t.n, .int .i64 t.m, .string t.s, .slice ao t.ks.length cap], .int .i64 d, .bool l] w (ErPost w 24) := by
  go_enter Try.func38, Try.ntmps38
  go_wp2
  go_returns
  exact ⟨rfl, rfl, c_box3 w _ _ _⟩
set_option linter.unusedVariables false in
set_option maxRecDepth 100000 in
set_option maxHeartbeats 1000000 in
theorem prop_err_b (t : Tr) (ao : Option Addr) (cap d : Nat) (l : Bool) (w : World) (g0 : (t.op != 39) = false) (gn0 : (t.n == 0) = false) (gn3 : (t.n == 3) = true) (gl1 : ((t.ks.length : Int) == 1) = false) (gl : ((t.ks.length : Int) == 2) = false) (gn4 : (t.n == 4) = false) :
    Calls Try.prog 38 #[.agg #[.int .i64 t.op, .int .i64 t.a, .int .i64 t.n, .int .i64 t.m, .string t.s, .slice ao t.ks.length cap], .int .i64 d, .bool l] w (ErPost w 24) := by
  go_enter Try.func38, Try.ntmps38
  go_wp2
  go_returns
  exact ⟨rfl, rfl, c_box3 w _ _ _⟩
set_option linter.unusedVariables false in
set_option maxRecDepth 100000 in
set_option maxHeartbeats 1000000 in
theorem prop_err_c (t : Tr) (ao : Option Addr) (cap d : Nat) (l : Bool) (w : World) (g0 : (t.op != 39) = false) (gn0 : (t.n == 0) = false) (gn3 : (t.n == 3) = false) (gn4 : (t.n == 4) = true) (gl1 : ((t.ks.length : Int) == 1) = false) :
    Calls Try.prog 38 #[.agg #[.int .i64 t.op, .int .i64 t.a, .int .i64 t.n, .int .i64 t.m, .string t.s, .slice ao t.ks.length cap], .int .i64 d, .bool l] w (ErPost w 24) := by
  go_enter Try.func38, Try.ntmps38
  go_wp2
  go_returns
  exact ⟨rfl, rfl, c_box3 w _ _ _⟩
set_option linter.unusedVariables false in
set_option maxRecDepth 100000 in
set_option maxHeartbeats 1000000 in
theorem prop_err_d (t : Tr) (ao : Option Addr) (cap d : Nat) (l : Bool) (w : World) (g0 : (t.op != 39) = false) (gn0 : (t.n == 0) = false) (gn3 : (t.n == 3) = false) (gn4 : (t.n == 4) = true) (gl1 : ((t.ks.length : Int) == 1) = true) (hl : l = false) :
    Calls Try.prog 38 #[.agg #[.int .i64 t.op, .int .i64 t.a, .int .i64 t.n, .int .i64 t.m, .string t.s, .slice ao t.ks.length cap], .int .i64 d, .bool l] w (ErPost w 24) := by
  subst hl
  go_enter Try.func38, Try.ntmps38
  go_wp2
  go_returns
  exact ⟨rfl, rfl, c_box3 w _ _ _⟩
set_option linter.unusedVariables false in
set_option maxRecDepth 100000 in
set_option maxHeartbeats 1000000 in
theorem prop_err_e (t : Tr) (ao : Option Addr) (cap d : Nat) (l : Bool) (w : World) (g0 : (t.op != 39) = false) (gn0 : (t.n == 0) = false) (gn3 : (t.n == 3) = false) (gn4 : (t.n == 4) = false) :
    Calls Try.prog 38 #[.agg #[.int .i64 t.op, .int .i64 t.a, .int .i64 t.n, .int .i64 t.m, .string t.s, .slice ao t.ks.length cap], .int .i64 d, .bool l] w (ErPost w 24) := by
  go_enter Try.func38, Try.ntmps38
  go_wp2
  go_returns
  exact ⟨rfl, rfl, c_box3 w _ _ _⟩
theorem beq_len {n k : Nat} (h : n = k) : ((n : Int) == k) = true := by simp [h]
theorem bne_len {n k : Nat} (h : ¬ n = k) : ((n : Int) == k) = false := by simp; omega
theorem property_part (W0 : World) (f : Nat) (P : Part) (hf : f ≤ 100000) (hE : PartAt 50 #[] W0 f 200 (eleG P)) : PartAt 38 #[] W0 f 200 (propG P) := by
  refine ⟨ent38, fun w hW t ao len cap d l ht hd htin => ?_⟩
  obtain rfl := tin_len htin
  have hks := ks_le ht hf
  have HE := Lib.hid (fun (W : World) (hB : Below w.heap.size w W) => part_below (part_below hE hW) hB)
  have HT := Lib.hid (fun (W : World) (hB : Below w.heap.size w W) => tin_kept htin hB)
  show Calls Try.prog 38 #[.agg #[.int .i64 t.op, .int .i64 t.a, .int .i64 t.n, .int .i64 t.m, .string t.s, .slice ao t.ks.length cap], .int .i64 d, .bool l] w (RPost w (Fresh w) (propG P t d l))
  unfold propG
  by_cases h39 : t.op = 39
  · rw [if_neg (by simpa using h39)]
    have g0 : (t.op != 39) = false := by simp [h39]
    by_cases ha : t.n = 0 ∧ t.ks.length = 2
    · rw [if_pos ha]
      exact prop_value f P hf t ao cap d l w hks hd HE HT ht g0 (by simpa using ha.1) (beq_len ha.2)
    · rw [if_neg ha]
      by_cases hb : t.n = 3 ∧ (t.ks.length = 1 ∨ t.ks.length = 2)
      · rw [if_pos hb]
        exact prop_short f P hf t ao cap d l w hks hd HE HT ht g0 (by simp [hb.1]) (by simpa using hb.1) hb.2
      · rw [if_neg hb]
        by_cases hc : t.n = 4 ∧ t.ks.length = 1 ∧ l = true
        · rw [if_pos hc]
          exact prop_spread f P hf t ao cap d l w hks hd HE HT ht g0 (by simp [hc.1]) (by simp [hc.1]) (by simpa using hc.1) (beq_len hc.2.1) hc.2.2
        · rw [if_neg hc]
          by_cases n0 : t.n = 0
          · exact prop_err_a t ao cap d l w g0 (by simpa using n0) (bne_len (fun e => ha ⟨n0, e⟩)) (by simp [n0]) (by simp [n0])
          · by_cases n3 : t.n = 3
            · exact prop_err_b t ao cap d l w g0 (by simpa using n0) (by simpa using n3) (bne_len (fun e => hb ⟨n3, .inl e⟩)) (bne_len (fun e => hb ⟨n3, .inr e⟩)) (by simp [n3])
            · by_cases n4 : t.n = 4
              · by_cases l1 : t.ks.length = 1
                · exact prop_err_d t ao cap d l w g0 (by simpa using n0) (by simpa using n3) (by simpa using n4) (beq_len l1) (by cases l with | false => rfl | true => exact absurd ⟨n4, l1, rfl⟩ hc)
                · exact prop_err_c t ao cap d l w g0 (by simpa using n0) (by simpa using n3) (by simpa using n4) (bne_len l1)
              · exact prop_err_e t ao cap d l w g0 (by simpa using n0) (by simpa using n3) (by simpa using n4)
  · rw [if_pos h39]
    exact prop_not39 t ao cap d l w (by simpa using h39)
set_option linter.unusedVariables false in
set_option maxRecDepth 100000 in
set_option maxHeartbeats 1000000 in
theorem pat_is (f : Nat) (hf : f + 1 ≤ 100000) (t : Tr) (ao : Option Addr) (cap d : Nat) (l : Bool) (w : World) (hks : t.ks.length ≤ 100000) (hd : d ≤ 200) (HT : Hid (∀ W : World, Below w.heap.size w W → TIn W All t (.slice ao t.ks.length cap))) (ht : t.cnt ≤ f + 1) (hp : patB t = true) :
    Calls Try.prog 23 #[.agg #[.int .i64 t.op, .int .i64 t.a, .int .i64 t.n, .int .i64 t.m, .string t.s, .slice ao t.ks.length cap], .int .i64 d, .bool l] w (OkPost w (Fresh w) t) := by
  have HP := Lib.hid (fun W => pred34.run W t ao t.ks.length cap)
  rw [hp] at HP
  have HC := Lib.hid (fun (W : World) (hB : Below w.heap.size w W) => copied_fresh (f + 1) hf t ao t.ks.length cap W ht (HT.out W hB))
  clear hp
  go_enter Try.func23, Try.ntmps23
  go_wp2_with fail
  refine (HP.out _).mono ?_
  rintro e W2 ⟨rfl, hB⟩
  have hbox := c_kept hB (by simp; omega) (c_new1 w _ _)
  have hres := c_kept hB (by simp) (c_new2 w _ _)
  have hzW : w.heap.size + 2 ≤ W2.heap.size := by have := hB.size; simp at this; omega
  have hB2 : Below w.heap.size w W2 := c_thr (c_box2 w _ _) hB (by simp; omega)
  obtain ⟨⟨b0, b1, b2, b3, b4, b5⟩, -, hbl⟩ := c_six hbox
  clear hB
  have HK := Lib.hid (And.intro hres (And.intro hzW hB2))
  clear hres hbox hB2
  go_wp2_with fail
  refine (HC.out _ HK.out.2.2).mono ?_
  rintro e w1 ⟨yo, yl, yc, rfl, htin, hB⟩
  have hres := c_kept hB (c_lt HK.out.1) HK.out.1
  have hU : w.heap.size + 2 ≤ W2.heap.size := HK.out.2.1
  have hW1 : Below w.heap.size w w1 := c_thr HK.out.2.2 hB HK.out.2.2.size
  clear b0 b1 b2 b3 b4 b5 hbl hzW HK
  obtain ⟨⟨r0, r1, r2, r3, r4, r5⟩, ⟨q0, q1, q2, q3, q4, q5⟩, hr⟩ := c_six hres
  have HF := Lib.hid (And.intro htin (And.intro hU hW1))
  clear hres htin hB hU hW1
  go_wp2
  refine bodyPost_ret (v := .tuple #[.agg #[.int .i64 t.op, .int .i64 t.a, .int .i64 t.n, .int .i64 t.m, .string t.s, .slice yo yl yc], .int .i64 0]) (by simp [results, Try.results23, go_sem, r0, r1, r2, r3, r4, r5]) rfl ?_
  exact ⟨yo, yl, yc, rfl, fin_ok HF.out.1 HF.out.2.1 HF.out.2.2⟩
set_option linter.unusedVariables false in
set_option maxRecDepth 100000 in
set_option maxHeartbeats 1000000 in
theorem pat_err (f : Nat) (hf : f + 1 ≤ 100000) (t : Tr) (ao : Option Addr) (cap d : Nat) (l : Bool) (w : World) (hks : t.ks.length ≤ 100000) (hd : d ≤ 200) (HT : Hid (∀ W : World, Below w.heap.size w W → TIn W All t (.slice ao t.ks.length cap))) (ht : t.cnt ≤ f + 1) (hp : patB t = false) (g1 : (t.op == 37) = false) (g2 : (t.op == 38) = false) :
    Calls Try.prog 23 #[.agg #[.int .i64 t.op, .int .i64 t.a, .int .i64 t.n, .int .i64 t.m, .string t.s, .slice ao t.ks.length cap], .int .i64 d, .bool l] w (ErPost w 24) := by
  have HP := Lib.hid (fun W => pred34.run W t ao t.ks.length cap)
  rw [hp] at HP
  clear hp
  go_enter Try.func23, Try.ntmps23
  go_wp2_with fail
  refine (HP.out _).mono ?_
  rintro e W2 ⟨rfl, hB⟩
  have hbox := c_kept hB (by simp; omega) (c_new1 w _ _)
  have hres := c_kept hB (by simp) (c_new2 w _ _)
  have hzW : w.heap.size + 2 ≤ W2.heap.size := by have := hB.size; simp at this; omega
  have hB2 : Below w.heap.size w W2 := c_thr (c_box2 w _ _) hB (by simp; omega)
  obtain ⟨⟨b0, b1, b2, b3, b4, b5⟩, -, hbl⟩ := c_six hbox
  clear hB
  obtain ⟨⟨r0, r1, r2, r3, r4, r5⟩, ⟨q0, q1, q2, q3, q4, q5⟩, hr⟩ := c_six hres
  have HF := Lib.hid hB2
  clear hres hbox hB2
  go_wp2
  refine bodyPost_ret (v := .tuple #[.agg #[.int .i64 0, .int .i64 0, .int .i64 0, .int .i64 0, .string ⟨#[]⟩, .slice none 0 0], .int .i64 24]) (by simp [results, Try.results23, go_sem, r0, r1, r2, r3, r4, r5]) rfl ?_
  exact ⟨rfl, rfl, c_st6 HF.out (by omega)⟩
set_option linter.unusedVariables false in
set_option maxRecDepth 100000 in
set_option maxHeartbeats 1000000 in
theorem pat_arr (f : Nat) (hf : f + 1 ≤ 100000) (t : Tr) (ao : Option Addr) (cap d : Nat) (l : Bool) (w : World) (hks : t.ks.length ≤ 100000) (hd : d ≤ 200) (HT : Hid (∀ W : World, Below w.heap.size w W → TIn W All t (.slice ao t.ks.length cap))) (ht : t.cnt ≤ f + 1) (hI : ∀ W : World, PartAt 36 #[] W f 201 (itemG (patF f))) (hp : patB t = false) (g1 : (t.op == 37) = true) :
    Calls Try.prog 23 #[.agg #[.int .i64 t.op, .int .i64 t.a, .int .i64 t.n, .int .i64 t.m, .string t.s, .slice ao t.ks.length cap], .int .i64 d, .bool l] w (RPost w (Fresh w) (madeV 60 t.a 0 t.ks d (itemG (patF f)))) := by
  have HP := Lib.hid (fun W => pred34.run W t ao t.ks.length cap)
  rw [hp] at HP
  have HM := Lib.hid (fun (W : World) (hB : Below w.heap.size w W) => made_any 36 #[] f (itemG (patF f)) 60 t.a 0 t ao cap d 201 W (by omega) (hI W) (by omega) (fun x hx => by obtain ⟨i, hi⟩ := List.mem_iff_getElem?.1 hx; have := cnt_kid hi; omega) hks (by omega) (HT.out W hB))
  obtain ⟨R, hR⟩ : ∃ R, R = madeV 60 t.a 0 t.ks d (itemG (patF f)) := ⟨_, rfl⟩
  rw [← hR] at HM ⊢
  clear hp hR hI
  cases R with
  | ok r =>
    show Calls Try.prog 23 _ w (OkPost w (Fresh w) r)
    go_enter Try.func23, Try.ntmps23
    go_wp2_with fail
    refine (HP.out _).mono ?_
    rintro e W2 ⟨rfl, hB⟩
    have hbox := c_kept hB (by simp; omega) (c_new1 w _ _)
    have hres := c_kept hB (by simp) (c_new2 w _ _)
    have hzW : w.heap.size + 2 ≤ W2.heap.size := by have := hB.size; simp at this; omega
    have hB2 : Below w.heap.size w W2 := c_thr (c_box2 w _ _) hB (by simp; omega)
    obtain ⟨⟨b0, b1, b2, b3, b4, b5⟩, -, hbl⟩ := c_six hbox
    clear hB
    have HK := Lib.hid (And.intro hres (And.intro hzW hB2))
    clear hres hbox hB2
    go_wp2_with fail
    refine (HM.out _ HK.out.2.2).mono ?_
    rintro e w1 ⟨yo, yl, yc, rfl, htin, hB⟩
    have hres := c_kept hB (c_lt HK.out.1) HK.out.1
    have hU : w.heap.size + 2 ≤ W2.heap.size := HK.out.2.1
    have hW1 : Below w.heap.size w w1 := c_thr HK.out.2.2 hB HK.out.2.2.size
    clear b0 b1 b2 b3 b4 b5 hbl hzW HK
    obtain ⟨⟨r0, r1, r2, r3, r4, r5⟩, ⟨q0, q1, q2, q3, q4, q5⟩, hr⟩ := c_six hres
    have HF := Lib.hid (And.intro htin (And.intro hU hW1))
    clear hres htin hB hU hW1
    go_wp2
    refine bodyPost_ret (v := .tuple #[.agg #[.int .i64 r.op, .int .i64 r.a, .int .i64 r.n, .int .i64 r.m, .string r.s, .slice yo yl yc], .int .i64 0]) (by simp [results, Try.results23, go_sem, r0, r1, r2, r3, r4, r5]) rfl ?_
    exact ⟨yo, yl, yc, rfl, fin_ok HF.out.1 HF.out.2.1 HF.out.2.2⟩
  | error x =>
    show Calls Try.prog 23 _ w (ErPost w x)
    go_enter Try.func23, Try.ntmps23
    go_wp2_with fail
    refine (HP.out _).mono ?_
    rintro e W2 ⟨rfl, hB⟩
    have hbox := c_kept hB (by simp; omega) (c_new1 w _ _)
    have hres := c_kept hB (by simp) (c_new2 w _ _)
    have hzW : w.heap.size + 2 ≤ W2.heap.size := by have := hB.size; simp at this; omega
    have hB2 : Below w.heap.size w W2 := c_thr (c_box2 w _ _) hB (by simp; omega)
    obtain ⟨⟨b0, b1, b2, b3, b4, b5⟩, -, hbl⟩ := c_six hbox
    clear hB
    have HK := Lib.hid (And.intro hres (And.intro hzW hB2))
    clear hres hbox hB2
    go_wp2_with fail
    refine (HM.out _ HK.out.2.2).mono ?_
    rintro e w1 ⟨hx, rfl, hB⟩
    have hres := c_kept hB (c_lt HK.out.1) HK.out.1
    have hW1 : Below w.heap.size w w1 := c_thr HK.out.2.2 hB HK.out.2.2.size
    clear b0 b1 b2 b3 b4 b5 hbl hzW HK
    obtain ⟨⟨r0, r1, r2, r3, r4, r5⟩, ⟨q0, q1, q2, q3, q4, q5⟩, hr⟩ := c_six hres
    have HF := Lib.hid (And.intro hx hW1)
    clear hres hB hW1
    go_wp2
    refine bodyPost_ret (v := .tuple #[.agg #[.int .i64 0, .int .i64 0, .int .i64 0, .int .i64 0, .string ⟨#[]⟩, .slice none 0 0], .int .i64 x]) (by simp [results, Try.results23, go_sem, r0, r1, r2, r3, r4, r5]) rfl ?_
    exact ⟨HF.out.1, rfl, c_st6 HF.out.2 (by omega)⟩
set_option linter.unusedVariables false in
set_option maxRecDepth 100000 in
set_option maxHeartbeats 1000000 in
theorem pat_obj (f : Nat) (hf : f + 1 ≤ 100000) (t : Tr) (ao : Option Addr) (cap d : Nat) (l : Bool) (w : World) (hks : t.ks.length ≤ 100000) (hd : d ≤ 200) (HT : Hid (∀ W : World, Below w.heap.size w W → TIn W All t (.slice ao t.ks.length cap))) (ht : t.cnt ≤ f + 1) (hQ : ∀ W : World, PartAt 38 #[] W f 200 (propG (patF f))) (hp : patB t = false) (g1 : (t.op == 37) = false) (g2 : (t.op == 38) = true) :
    Calls Try.prog 23 #[.agg #[.int .i64 t.op, .int .i64 t.a, .int .i64 t.n, .int .i64 t.m, .string t.s, .slice ao t.ks.length cap], .int .i64 d, .bool l] w (RPost w (Fresh w) (madeV 61 t.a 0 t.ks d (withinV (propG (patF f))))) := by
  have HP := Lib.hid (fun W => pred34.run W t ao t.ks.length cap)
  rw [hp] at HP
  have HKL := Lib.hid (fun x (hx : x ∈ t.ks) => (by obtain ⟨i, hi⟩ := List.mem_iff_getElem?.1 hx; have := cnt_kid hi; omega : x.cnt ≤ f))
  have HQ := Lib.hid hQ
  clear hp hQ
  cases hR : madeV 61 t.a 0 t.ks d (withinV (propG (patF f))) with
  | ok r =>
    show Calls Try.prog 23 _ w (OkPost w (Fresh w) r)
    have HR := Lib.hid hR
    clear hR
    go_enter Try.func23, Try.ntmps23
    go_wp2_with fail
    refine (HP.out _).mono ?_
    rintro e W2 ⟨rfl, hB⟩
    have hbox := c_kept hB (by simp; omega) (c_new1 w _ _)
    have hres := c_kept hB (by simp) (c_new2 w _ _)
    have hzW : w.heap.size + 2 ≤ W2.heap.size := by have := hB.size; simp at this; omega
    have hB2 : Below w.heap.size w W2 := c_thr (c_box2 w _ _) hB (by simp; omega)
    obtain ⟨⟨b0, b1, b2, b3, b4, b5⟩, -, hbl⟩ := c_six hbox
    clear hB
    go_upto_region 6 with fail
    clear b0 b1 b2 b3 b4 b5
    have hS0 := two_of (w := W2.drew) hbox
    have HK0 := Lib.hid (And.intro hbox (And.intro hres trivial))
    have HBe0 := Lib.hid (show Below w.heap.size w W2.drew from hB2.drew)
    have HZ0 := Lib.hid (show w.heap.size + 2 ≤ W2.drew.heap.size from hzW)
    clear hB2 hbox hres hzW
    go_region_held3 (fun w' => w'.cell? ⟨w.heap.size, 1, none⟩ = some (.int .i64 t.a) ∧ w'.cell? ⟨w.heap.size, 5, none⟩ = some (.slice ao t.ks.length cap)) (first | with_reducible assumption | with_reducible exact two_st6 hS2 (by omega)) (first
      | (go_at_call 37; refine (within_any 38 _ f 201 (propG (patF f)) _ (by omega) (HQ.out _)).mono ?_; rintro e w1 ⟨b1, rfl, hP1, hB⟩; have hk1 := c_kept hB (c_lt HK0.out.1) HK0.out.1; have hk2 := c_kept hB (c_lt HK0.out.2.1) HK0.out.2.1; have hS2 := two_of hk1; have HK1 := Lib.hid (And.intro hk1 (And.intro hk2 trivial)); have HBe1 := Lib.hid (c_thr HBe0.out hB HBe0.out.size); have HZ1 := Lib.hid (Nat.le_trans HZ0.out hB.size); have HP1 := Lib.hid hP1; clear hP1; clear hk1 hk2 hB)
      | (go_at_call 26; have HM := made_any 48 _ f (withinV (propG (patF f))) 61 t.a 0 t ao cap d 201 _ (by omega) HP1.out (by omega) HKL.out hks (by omega) (HT.out _ HBe1.out); rw [HR.out] at HM; refine HM.mono ?_; rintro e w9 ⟨yo, yl, yc, rfl, htin9, hB9⟩; have hS2 := two_of (c_kept hB9 (c_lt HK1.out.1) HK1.out.1); obtain ⟨⟨r0, r1, r2, r3, r4, r5⟩, ⟨q0, q1, q2, q3, q4, q5⟩, hr⟩ := c_six (c_kept hB9 (c_lt HK1.out.2.1) HK1.out.2.1); have hW9 := c_thr HBe1.out hB9 HBe1.out.size; have HF := Lib.hid (And.intro htin9 (And.intro HZ1.out hW9)); clear htin9 hW9 hB9))
    go_wp2
    refine bodyPost_ret (v := .tuple #[.agg #[.int .i64 r.op, .int .i64 r.a, .int .i64 r.n, .int .i64 r.m, .string r.s, .slice yo yl yc], .int .i64 0]) (by simp [results, Try.results23, go_sem, r0, r1, r2, r3, r4, r5]) rfl ?_
    exact ⟨yo, yl, yc, rfl, fin_ok HF.out.1 HF.out.2.1 HF.out.2.2⟩
  | error x =>
    show Calls Try.prog 23 _ w (ErPost w x)
    have HR := Lib.hid hR
    clear hR
    go_enter Try.func23, Try.ntmps23
    go_wp2_with fail
    refine (HP.out _).mono ?_
    rintro e W2 ⟨rfl, hB⟩
    have hbox := c_kept hB (by simp; omega) (c_new1 w _ _)
    have hres := c_kept hB (by simp) (c_new2 w _ _)
    have hzW : w.heap.size + 2 ≤ W2.heap.size := by have := hB.size; simp at this; omega
    have hB2 : Below w.heap.size w W2 := c_thr (c_box2 w _ _) hB (by simp; omega)
    obtain ⟨⟨b0, b1, b2, b3, b4, b5⟩, -, hbl⟩ := c_six hbox
    clear hB
    go_upto_region 6 with fail
    clear b0 b1 b2 b3 b4 b5
    have hS0 := two_of (w := W2.drew) hbox
    have HK0 := Lib.hid (And.intro hbox (And.intro hres trivial))
    have HBe0 := Lib.hid (show Below w.heap.size w W2.drew from hB2.drew)
    have HZ0 := Lib.hid (show w.heap.size + 2 ≤ W2.drew.heap.size from hzW)
    clear hB2 hbox hres hzW
    go_region_held3 (fun w' => w'.cell? ⟨w.heap.size, 1, none⟩ = some (.int .i64 t.a) ∧ w'.cell? ⟨w.heap.size, 5, none⟩ = some (.slice ao t.ks.length cap)) (first | with_reducible assumption | with_reducible exact two_st6 hS2 (by omega)) (first
      | (go_at_call 37; refine (within_any 38 _ f 201 (propG (patF f)) _ (by omega) (HQ.out _)).mono ?_; rintro e w1 ⟨b1, rfl, hP1, hB⟩; have hk1 := c_kept hB (c_lt HK0.out.1) HK0.out.1; have hk2 := c_kept hB (c_lt HK0.out.2.1) HK0.out.2.1; have hS2 := two_of hk1; have HK1 := Lib.hid (And.intro hk1 (And.intro hk2 trivial)); have HBe1 := Lib.hid (c_thr HBe0.out hB HBe0.out.size); have HZ1 := Lib.hid (Nat.le_trans HZ0.out hB.size); have HP1 := Lib.hid hP1; clear hP1; clear hk1 hk2 hB)
      | (go_at_call 26; have HM := made_any 48 _ f (withinV (propG (patF f))) 61 t.a 0 t ao cap d 201 _ (by omega) HP1.out (by omega) HKL.out hks (by omega) (HT.out _ HBe1.out); rw [HR.out] at HM; refine HM.mono ?_; rintro e w9 ⟨hx, rfl, hB9⟩; have hS2 := two_of (c_kept hB9 (c_lt HK1.out.1) HK1.out.1); obtain ⟨⟨r0, r1, r2, r3, r4, r5⟩, ⟨q0, q1, q2, q3, q4, q5⟩, hr⟩ := c_six (c_kept hB9 (c_lt HK1.out.2.1) HK1.out.2.1); have hW9 := c_thr HBe1.out hB9 HBe1.out.size; have HF := Lib.hid (And.intro hx hW9); clear hx hW9 hB9))
    go_wp2
    refine bodyPost_ret (v := .tuple #[.agg #[.int .i64 0, .int .i64 0, .int .i64 0, .int .i64 0, .string ⟨#[]⟩, .slice none 0 0], .int .i64 x]) (by simp [results, Try.results23, go_sem, r0, r1, r2, r3, r4, r5]) rfl ?_
    exact ⟨HF.out.1, rfl, c_st6 HF.out.2 (by omega)⟩
theorem pattern_part : ∀ (f : Nat), f ≤ 100000 → ∀ W0 : World, PartAt 23 #[] W0 f 200 (patF f) := by
  intro f
  induction f with
  | zero =>
    intro _ W0
    exact ⟨ent23, fun w hW t ao len cap d l ht => by have := cnt_pos t; omega⟩
  | succ f ih =>
    intro hf W0
    refine ⟨ent23, fun w hW t ao len cap d l ht hd htin => ?_⟩
    obtain rfl := tin_len htin
    have hks := ks_le ht hf
    have HT := Lib.hid (fun (W : World) (hB : Below w.heap.size w W) => tin_kept htin hB)
    have hP := ih (by omega)
    have hE : ∀ W : World, PartAt 50 #[] W f 200 (eleG (patF f)) := fun W => element_part W f _ (by omega) (hP W)
    have hL : ∀ W : World, PartAt 41 #[] W f 200 (lisG (patF f)) := fun W => listed_part W f _ (by omega) (hP W) (hE W)
    have hI : ∀ W : World, PartAt 36 #[] W f 201 (itemG (patF f)) := fun W => item_part W f _ (by omega) (hL W)
    have hQ : ∀ W : World, PartAt 38 #[] W f 200 (propG (patF f)) := fun W => property_part W f _ (by omega) (hE W)
    show Calls Try.prog 23 #[.agg #[.int .i64 t.op, .int .i64 t.a, .int .i64 t.n, .int .i64 t.m, .string t.s, .slice ao t.ks.length cap], .int .i64 d, .bool l] w (RPost w (Fresh w) (patF (f + 1) t d l))
    unfold patF
    cases hp : patB t with
    | true => exact pat_is f hf t ao cap d l w hks hd HT ht hp
    | false =>
      simp only [Bool.false_eq_true, if_false]
      by_cases h37 : t.op = 37
      · rw [if_pos h37]
        exact pat_arr f hf t ao cap d l w hks hd HT ht hI hp (by simpa using h37)
      · rw [if_neg h37]
        by_cases h38 : t.op = 38
        · rw [if_pos h38]
          exact pat_obj f hf t ao cap d l w hks hd HT ht hQ hp (by simpa using h37) (by simpa using h38)
        · rw [if_neg h38]
          exact pat_err f hf t ao cap d l w hks hd HT ht hp (by simpa using h37) (by simpa using h38)
end Go.Proofs.Ytjnlifghobgkcaa
