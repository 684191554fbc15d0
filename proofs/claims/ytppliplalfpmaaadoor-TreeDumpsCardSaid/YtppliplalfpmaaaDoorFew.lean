/-
  Few of the law's text: at most 1501 nodes, at most 261 deep, in fresh blocks.
-/
import Derived.Test.YtppliplalfpmaaaDoorCutAny
namespace Go.Proofs.YtppliplalfpmaaaDoor
open Go.RowKit

def FewPost (w : World) : Ending → World → Prop := fun e w' => ∃ (r : Tr) (o : Option Addr) (l c : Nat), e = .returned (.agg #[.int .i64 r.op, .int .i64 r.a, .int .i64 r.n, .int .i64 r.m, .string r.s, .slice o l c]) ∧ TIn w' (Fresh w) r (.slice o l c) ∧ r.cnt ≤ 1501 ∧ r.dep ≤ 261 ∧ Below w.heap.size w w'
set_option linter.unusedVariables false in
set_option maxRecDepth 100000 in
set_option maxHeartbeats 1000000 in
theorem few_any (t : Tr) (ao : Option Addr) (cap : Nat) (w : World) (ht : TIn w All t (.slice ao t.ks.length cap)) :
    Calls Tryd.prog 7 #[.agg #[.int .i64 t.op, .int .i64 t.a, .int .i64 t.n, .int .i64 t.m, .string t.s, .slice ao t.ks.length cap]] w (FewPost w) := by
  have HT := Lib.hid ht
  clear ht
  obtain ⟨len, hle⟩ : ∃ len, len = t.ks.length := ⟨_, rfl⟩
  have HLE := Lib.hid hle
  rw [← hle] at HT ⊢
  clear hle
  go_enter Tryd.func7, Tryd.ntmps7
  go_upto_region 2 with fail
  obtain ⟨W0, hW0⟩ : ∃ W0, W0 = (((w.alloc (.cells #[.int .i64 t.op, .int .i64 t.a, .int .i64 t.n, .int .i64 t.m, .string t.s, .slice ao len cap] 24)).alloc (.cells #[.int .i64 0, .int .i64 0, .int .i64 0, .int .i64 0, .string ⟨#[]⟩, .slice none 0 0] 24)).alloc (.cells #[.int .i64 1500] 3)) := ⟨_, rfl⟩
  rw [← hW0]
  have hB0 : Below w.heap.size w W0 := by rw [hW0]; exact c_thr (c_box2 w _ _) (c_box _ _) (by simp; omega)
  have hz0 : W0.heap.size = w.heap.size + 3 := by rw [hW0]; simp
  have h01 : W0.heap[w.heap.size]? = some (.cells #[.int .i64 t.op, .int .i64 t.a, .int .i64 t.n, .int .i64 t.m, .string t.s, .slice ao len cap] 24 (0, 0)) := by rw [hW0, Below.heap_alloc _ _ _ (by simp; omega)]; exact c_new1 w _ _
  have h02 : W0.heap[w.heap.size + 1]? = some (.cells #[.int .i64 0, .int .i64 0, .int .i64 0, .int .i64 0, .string ⟨#[]⟩, .slice none 0 0] 24 (0, 0)) := by rw [hW0, Below.heap_alloc _ _ _ (by simp)]; exact c_new2 w _ _
  have h03 : W0.heap[w.heap.size + 2]? = some (.cells #[.int .i64 1500] 3 (0, 0)) := by
    have e : w.heap.size + 2 = ((w.alloc (.cells #[.int .i64 t.op, .int .i64 t.a, .int .i64 t.n, .int .i64 t.m, .string t.s, .slice ao len cap] 24)).alloc (.cells #[.int .i64 0, .int .i64 0, .int .i64 0, .int .i64 0, .string ⟨#[]⟩, .slice none 0 0] 24)).heap.size := by simp
    rw [hW0, e]; exact heap_alloc_new _ _
  obtain ⟨⟨d0, d1, d2, d3, d4, d5⟩, -, hxl⟩ := c_six h01
  have htW : TIn W0 (fun b => b ≠ w.heap.size + 2) t (.slice ao t.ks.length cap) := by
    rw [← HLE.out]
    exact tin_imp (fun b hb _ => ⟨by omega, hB0.block b hb⟩) (by omega) _ _ HT.out
  have HC := Lib.hid (cut_any t.cnt t ao cap (w.heap.size + 2) 1500 260 W0 (Nat.le_refl _) (by omega) (by omega) (by omega) h03 htW)
  rw [← HLE.out] at HC
  have HX := Lib.hid (And.intro hB0 (And.intro hz0 h02))
  clear hB0 hz0 h01 h02 h03 hW0 htW
  go_wp2_with fail
  refine HC.out.mono ?_
  rintro e w1 ⟨r, o, l, c, lv', rfl, htin, hcell, hrc, hrd, hG⟩
  have hb2 := (hG.2.2.2.2 (w.heap.size + 1) (by have := HX.out.2.1; omega) (by omega)).trans HX.out.2.2
  obtain ⟨⟨r0, r1, r2, r3, r4, r5⟩, ⟨q0, q1, q2, q3, q4, q5⟩, hr⟩ := c_six hb2
  have HF := Lib.hid (And.intro htin (And.intro hrc (And.intro hrd (And.intro hG hcell))))
  clear htin hrc hrd hG hb2 hcell d0 d1 d2 d3 d4 d5 hxl
  go_wp2
  refine bodyPost_ret (v := .agg #[.int .i64 r.op, .int .i64 r.a, .int .i64 r.n, .int .i64 r.m, .string r.s, .slice o l c]) (by simp [results, Tryd.results7, go_sem, r0, r1, r2, r3, r4, r5]) rfl ?_
  have hz2 := HX.out.2.1
  have hG := HF.out.2.2.2.1
  have hz9 := hG.2.2.2.1
  have hlow : Below w.heap.size w w1 := ⟨hG.1.trans HX.out.1.os, hG.2.1.trans HX.out.1.tape, hG.2.2.1.trans HX.out.1.output, by omega, fun b hb => (hG.2.2.2.2 b (by omega) (by omega)).trans (HX.out.1.block b hb)⟩
  have h1 := HF.out.2.1
  have h2 := HF.out.2.2.1
  exact ⟨r, o, l, c, rfl, tin_mono (tin_grown HF.out.1 (st6_grown w1 (w.heap.size + 1) 0 _ _ _ _ _ _) (fun b _ hs e => by unfold Fresh at hs; simp at e; omega)) (fun b _ hs => by unfold Fresh at hs ⊢; omega), by omega, by omega, c_st6 hlow (by omega)⟩
end Go.Proofs.YtppliplalfpmaaaDoor
