/-
  Copy and Plain of package tree: fresh trees.
-/
import Derived.Test.YtppliplalfpmaaaDoorEach
namespace Go.Proofs.YtppliplalfpmaaaDoor
open Go.RowKit

theorem plL_map : ∀ (l : List Tr), plL l = l.map Tr.pl := by
  intro l
  induction l with
  | nil => rfl
  | cons t l ih => show t.pl :: plL l = t.pl :: l.map Tr.pl; rw [ih]
theorem ent_copy_any : ∀ (args : Array Value) (w : World), (callFunc 8 args).run Tryd.prog w = .ok (.enter 8 args) w := enters_of Tryd.func8 (by kernel_rfl) rfl
set_option linter.unusedVariables false in
set_option maxRecDepth 100000 in
set_option maxHeartbeats 1000000 in
theorem copy_any : ∀ (N : Nat) (t : Tr) (ao : Option Addr) (cap : Nat) (w : World), t.cnt ≤ N → N ≤ 100000 → TIn w All t (.slice ao t.ks.length cap) →
    Calls Tryd.prog 8 #[.agg #[.int .i64 t.op, .int .i64 t.a, .int .i64 t.n, .int .i64 t.m, .string t.s, .slice ao t.ks.length cap]] w (PlPost w (id t)) := by
  intro N
  induction N with
  | zero => intro t ao cap w h; have := cnt_pos t; omega
  | succ N ih =>
    intro t ao cap w hN hN2 ht
    have hks := ks_le hN hN2
    have hkk : ∀ x ∈ t.ks, x.cnt ≤ N := fun x hx => by
      obtain ⟨i, hi⟩ := List.getElem?_of_mem hx
      have := cnt_kid hi
      omega
    have HE := Lib.hid (fun (W : World) (hW : TIn W All t (.slice ao t.ks.length cap)) => each_any 8 id N ent_copy_any (by omega) (fun x a1 p1 W hx => ih x a1 p1 W hx (by omega)) t ao cap W hkk hks hW)
    have HT := Lib.hid ht
    clear ih ht hkk
    obtain ⟨len, hle⟩ : ∃ len, len = t.ks.length := ⟨_, rfl⟩
    have HLE := Lib.hid hle
    rw [← hle] at hks HT HE ⊢
    clear hle
    go_enter Tryd.func8, Tryd.ntmps8
    go_upto_region 1 with fail
    obtain ⟨W0, hW0⟩ : ∃ W0, W0 = ((w.alloc (.cells #[.int .i64 t.op, .int .i64 t.a, .int .i64 t.n, .int .i64 t.m, .string t.s, .slice ao len cap] 24)).alloc (.cells #[.int .i64 0, .int .i64 0, .int .i64 0, .int .i64 0, .string ⟨#[]⟩, .slice none 0 0] 24)) := ⟨_, rfl⟩
    rw [← hW0]
    have hB0 : Below w.heap.size w W0 := by rw [hW0]; exact c_box2 w _ _
    have hz0' : W0.heap.size = w.heap.size + 2 := by rw [hW0]; simp
    have h01 : W0.heap[w.heap.size]? = some (.cells #[.int .i64 t.op, .int .i64 t.a, .int .i64 t.n, .int .i64 t.m, .string t.s, .slice ao len cap] 24 (0, 0)) := by rw [hW0]; exact c_new1 w _ _
    have h02 : W0.heap[w.heap.size + 1]? = some (.cells #[.int .i64 0, .int .i64 0, .int .i64 0, .int .i64 0, .string ⟨#[]⟩, .slice none 0 0] 24 (0, 0)) := by rw [hW0]; exact c_new2 w _ _
    obtain ⟨⟨d0, d1, d2, d3, d4, d5⟩, ⟨p0, p1, p2, p3, p4, p5⟩, hxl⟩ := c_six h01
    clear hW0
    have HX := Lib.hid (And.intro hB0 (And.intro hz0' (And.intro h01 h02)))
    have HC := Lib.hid (HE.out W0 (tin_kept HT.out hB0))
    clear hB0 h01 h02
    go_wp2_with fail
    refine HC.out.mono ?_
    rintro e w1 ⟨o, c, rfl, htin, hB9⟩
    have HF := Lib.hid (And.intro (htin t (by simp)) hB9)
    have hb1 := c_kept hB9 (c_lt HX.out.2.2.1) HX.out.2.2.1
    have hb2 := c_kept hB9 (c_lt HX.out.2.2.2) HX.out.2.2.2
    have hz9 := hB9.size
    clear htin hB9 d0 d1 d2 d3 d4 d5 p0 p1 p2 p3 p4 p5 hxl
    obtain ⟨⟨d0, d1, d2, d3, d4, d5⟩, ⟨p0, p1, p2, p3, p4, p5⟩, hxl⟩ := c_six hb1
    obtain ⟨⟨r0, r1, r2, r3, r4, r5⟩, ⟨q0, q1, q2, q3, q4, q5⟩, hr⟩ := c_six hb2
    have HG := Lib.hid (And.intro hb1 hb2)
    clear hb1 hb2
    go_wp2
    refine bodyPost_ret (v := .agg #[.int .i64 t.op, .int .i64 t.a, .int .i64 t.n, .int .i64 t.m, .string t.s, .slice o t.ks.length c]) (by simp [results, Tryd.results8, go_sem, r0, r1, r2, r3, r4, r5]) rfl ?_
    have hW2 := HX.out.2.1
    have hlm : (t.ks.map id).length = t.ks.length := List.length_map _
    have hti := HF.out.1
    rw [hlm] at hti
    have hg1 : w1.grownBy (w1.setCell ⟨w.heap.size, 5, none⟩ (.slice o t.ks.length c)) (some w.heap.size) := c_gset ⟨rfl, rfl, rfl, Nat.le_refl _, fun _ _ _ => rfl⟩ rfl _
    refine ⟨o, t.ks.length, c, ?_, tin_mono (tin_grown (tin_grown hti hg1 (fun b _ hs e => by unfold Fresh at hs; simp at e; omega)) (st6_grown _ (w.heap.size + 1) 0 _ _ _ _ _ _) (fun b _ hs e => by unfold Fresh at hs; simp at e; omega)) (fun b _ hs => by unfold Fresh at hs ⊢; omega), c_st6 (c_set 5 _ (c_thr HX.out.1 HF.out.2 HX.out.1.size) (Nat.le_refl _)) (by omega)⟩
    rfl
theorem ent_plain_any : ∀ (args : Array Value) (w : World), (callFunc 9 args).run Tryd.prog w = .ok (.enter 9 args) w := enters_of Tryd.func9 (by kernel_rfl) rfl
set_option linter.unusedVariables false in
set_option maxRecDepth 100000 in
set_option maxHeartbeats 1000000 in
theorem plain_any : ∀ (N : Nat) (t : Tr) (ao : Option Addr) (cap : Nat) (w : World), t.cnt ≤ N → N ≤ 100000 → TIn w All t (.slice ao t.ks.length cap) →
    Calls Tryd.prog 9 #[.agg #[.int .i64 t.op, .int .i64 t.a, .int .i64 t.n, .int .i64 t.m, .string t.s, .slice ao t.ks.length cap]] w (PlPost w (Tr.pl t)) := by
  intro N
  induction N with
  | zero => intro t ao cap w h; have := cnt_pos t; omega
  | succ N ih =>
    intro t ao cap w hN hN2 ht
    have hks := ks_le hN hN2
    have hkk : ∀ x ∈ t.ks, x.cnt ≤ N := fun x hx => by
      obtain ⟨i, hi⟩ := List.getElem?_of_mem hx
      have := cnt_kid hi
      omega
    have HE := Lib.hid (fun (W : World) (hW : TIn W All t (.slice ao t.ks.length cap)) => each_any 9 Tr.pl N ent_plain_any (by omega) (fun x a1 p1 W hx => ih x a1 p1 W hx (by omega)) t ao cap W hkk hks hW)
    have HT := Lib.hid ht
    clear ih ht hkk
    obtain ⟨len, hle⟩ : ∃ len, len = t.ks.length := ⟨_, rfl⟩
    have HLE := Lib.hid hle
    rw [← hle] at hks HT HE ⊢
    clear hle
    go_enter Tryd.func9, Tryd.ntmps9
    go_upto_region 1 with fail
    obtain ⟨W0, hW0⟩ : ∃ W0, W0 = ((w.alloc (.cells #[.int .i64 t.op, .int .i64 t.a, .int .i64 t.n, .int .i64 t.m, .string t.s, .slice ao len cap] 24)).alloc (.cells #[.int .i64 0, .int .i64 0, .int .i64 0, .int .i64 0, .string ⟨#[]⟩, .slice none 0 0] 24)) := ⟨_, rfl⟩
    rw [← hW0]
    have hB0 : Below w.heap.size w W0 := by rw [hW0]; exact c_box2 w _ _
    have hz0' : W0.heap.size = w.heap.size + 2 := by rw [hW0]; simp
    have h01 : W0.heap[w.heap.size]? = some (.cells #[.int .i64 t.op, .int .i64 t.a, .int .i64 t.n, .int .i64 t.m, .string t.s, .slice ao len cap] 24 (0, 0)) := by rw [hW0]; exact c_new1 w _ _
    have h02 : W0.heap[w.heap.size + 1]? = some (.cells #[.int .i64 0, .int .i64 0, .int .i64 0, .int .i64 0, .string ⟨#[]⟩, .slice none 0 0] 24 (0, 0)) := by rw [hW0]; exact c_new2 w _ _
    obtain ⟨⟨d0, d1, d2, d3, d4, d5⟩, ⟨p0, p1, p2, p3, p4, p5⟩, hxl⟩ := c_six h01
    clear hW0
    have hB1 : Below w.heap.size w (W0.setCell ⟨w.heap.size, 1, none⟩ (.int .i64 0)) := c_set 1 _ hB0 (Nat.le_refl _)
    have h11 := c_one 1 (.int .i64 0) h01
    have h12 : (W0.setCell ⟨w.heap.size, 1, none⟩ (.int .i64 0)).heap[w.heap.size + 1]? = some (.cells #[.int .i64 0, .int .i64 0, .int .i64 0, .int .i64 0, .string ⟨#[]⟩, .slice none 0 0] 24 (0, 0)) := (Below.heap_setCell _ _ _ _ (by show w.heap.size + 1 ≠ w.heap.size; omega)).trans h02
    have hz1' : (W0.setCell ⟨w.heap.size, 1, none⟩ (.int .i64 0)).heap.size = w.heap.size + 2 := by rw [x_sz]; exact hz0'
    go_upto_region 2 with fail
    obtain ⟨W1, hW1⟩ : ∃ W1, W1 = W0.setCell ⟨w.heap.size, 1, none⟩ (.int .i64 0) := ⟨_, rfl⟩
    rw [← hW1] at hB1 h11 h12 hz1' ⊢
    have HX := Lib.hid (And.intro hB1 (And.intro hz1' (And.intro h11 h12)))
    have HC := Lib.hid (HE.out W1 (tin_kept HT.out hB1))
    clear d0 d1 d2 d3 d4 d5 p0 p1 p2 p3 p4 p5 hxl hB1 h11 h12 hW1
    obtain ⟨⟨d0, d1, d2, d3, d4, d5⟩, ⟨p0, p1, p2, p3, p4, p5⟩, hxl⟩ := c_six HX.out.2.2.1
    clear hB0 h01 h02
    go_wp2_with fail
    refine HC.out.mono ?_
    rintro e w1 ⟨o, c, rfl, htin, hB9⟩
    have HF := Lib.hid (And.intro (htin t.pl (by rw [pl_ks, plL_map])) hB9)
    have hb1 := c_kept hB9 (c_lt HX.out.2.2.1) HX.out.2.2.1
    have hb2 := c_kept hB9 (c_lt HX.out.2.2.2) HX.out.2.2.2
    have hz9 := hB9.size
    clear htin hB9 d0 d1 d2 d3 d4 d5 p0 p1 p2 p3 p4 p5 hxl
    obtain ⟨⟨d0, d1, d2, d3, d4, d5⟩, ⟨p0, p1, p2, p3, p4, p5⟩, hxl⟩ := c_six hb1
    obtain ⟨⟨r0, r1, r2, r3, r4, r5⟩, ⟨q0, q1, q2, q3, q4, q5⟩, hr⟩ := c_six hb2
    have HG := Lib.hid (And.intro hb1 hb2)
    clear hb1 hb2
    go_wp2
    refine bodyPost_ret (v := .agg #[.int .i64 t.op, .int .i64 0, .int .i64 t.n, .int .i64 t.m, .string t.s, .slice o t.ks.length c]) (by simp [results, Tryd.results9, go_sem, r0, r1, r2, r3, r4, r5]) rfl ?_
    have hW2 := HX.out.2.1
    have hlm : (t.ks.map Tr.pl).length = t.ks.length := List.length_map _
    have hti := HF.out.1
    rw [hlm] at hti
    have hg1 : w1.grownBy (w1.setCell ⟨w.heap.size, 5, none⟩ (.slice o t.ks.length c)) (some w.heap.size) := c_gset ⟨rfl, rfl, rfl, Nat.le_refl _, fun _ _ _ => rfl⟩ rfl _
    refine ⟨o, t.ks.length, c, ?_, tin_mono (tin_grown (tin_grown hti hg1 (fun b _ hs e => by unfold Fresh at hs; simp at e; omega)) (st6_grown _ (w.heap.size + 1) 0 _ _ _ _ _ _) (fun b _ hs e => by unfold Fresh at hs; simp at e; omega)) (fun b _ hs => by unfold Fresh at hs ⊢; omega), c_st6 (c_set 5 _ (c_thr HX.out.1 HF.out.2 HX.out.1.size) (Nat.le_refl _)) (by omega)⟩
    obtain ⟨s1, s2, s3, s4, s5⟩ := pl_op t
    rw [s1, s2, s3, s4, s5]
end Go.Proofs.YtppliplalfpmaaaDoor
