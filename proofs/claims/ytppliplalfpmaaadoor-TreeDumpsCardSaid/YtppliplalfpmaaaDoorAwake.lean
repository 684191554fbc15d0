/-
  Dump of any tree; the example of the laws (awake).
-/
import Derived.Test.YtppliplalfpmaaaDoorDump
import Derived.Test.YtppliplalfpmaaaDoorRt5
import Derived.Test.YtppliplalfpmaaaDoorFew
import Derived.Test.YtppliplalfpmaaaDoorSize
import Derived.Test.YtppliplalfpmaaaDoorDepth
namespace Go.Proofs.YtppliplalfpmaaaDoor
open Go.RowKit

set_option linter.unusedVariables false in
set_option maxRecDepth 100000 in
set_option maxHeartbeats 2000000 in
theorem Dump_any (N : Nat) (t : Tr) (ao : Option Addr) (cap : Nat) (w : World) (hc : t.cnt ≤ N) (hN : N ≤ 100000) (hnu : t.nums) (ht : TIn w All t (.slice ao t.ks.length cap)) (hlen : (dmp t).length ≤ 140737488350000) (h4 : 4 ≤ w.heap.size) (hNm : NamT w) (hTb : Tab w) :
    Calls Tryd.prog 18 #[.agg #[.int .i64 t.op, .int .i64 t.a, .int .i64 t.n, .int .i64 t.m, .string t.s, .slice ao t.ks.length cap]] w fun e w' => e = .returned (.string ⟨(dmp t).toArray⟩) ∧ Below w.heap.size w w' := by
  obtain ⟨W1, hW1⟩ : ∃ W1, W1 = w.alloc (.cells #[.int .i64 t.op, .int .i64 t.a, .int .i64 t.n, .int .i64 t.m, .string t.s, .slice ao t.ks.length cap] 24) := ⟨_, rfl⟩
  have hB1 : Below w.heap.size w W1 := by rw [hW1]; exact c_box w _
  have hx1 : W1.heap[w.heap.size]? = some (.cells #[.int .i64 t.op, .int .i64 t.a, .int .i64 t.n, .int .i64 t.m, .string t.s, .slice ao t.ks.length cap] 24 (0, 0)) := by rw [hW1]; exact heap_alloc_new w _
  obtain ⟨⟨b0, b1, b2, b3, b4, b5⟩, -, hxl⟩ := c_six hx1
  have HW := Lib.hid hW1
  have HB := Lib.hid hB1
  clear hB1 hW1 hx1
  have hx1 : W1.heap[w.heap.size]? = some (.cells #[.int .i64 t.op, .int .i64 t.a, .int .i64 t.n, .int .i64 t.m, .string t.s, .slice ao t.ks.length cap] 24 (0, 0)) := by rw [HW.out]; exact heap_alloc_new w _
  have hz1 : W1.heap.size = w.heap.size + 1 := by rw [HW.out]; simp
  obtain ⟨W2, hW2⟩ : ∃ W2, W2 = W1.alloc (.cells #[.pointer none, .slice none 0 0] 49) := ⟨_, rfl⟩
  have hb2 : Below W1.heap.size W1 W2 := by rw [hW2]; exact c_box W1 _
  have hI : IsB W1.heap.size W1.heap.size [] W2 := by rw [hW2]; exact Lib.fresh_isBuilder _ _ W1
  have hx2 := (hb2.block _ (c_lt hx1)).trans hx1
  have hB2 := c_thr HB.out hb2 HB.out.size
  have ht2 : TIn W2 (fun x => x < W1.heap.size) t (.slice ao t.ks.length cap) := tin_imp (fun b hb _ => ⟨by rw [hz1]; exact Nat.lt_succ_of_lt hb, hB2.block b hb⟩) hB2.size _ _ ht
  have hl2 : ([] : List UInt8).length + (dmp t).length ≤ 140737488350000 := by rw [List.length_nil, Nat.zero_add]; exact hlen
  have h42 : 4 ≤ W1.heap.size := by rw [hz1]; exact Nat.le_succ_of_le h4
  have hn2 : NamT W2 := namt_grown hNm (namt_lt hNm) hB2
  have htb2 : Tab W2 := tab_keep hTb (Nat.lt_of_lt_of_le (by decide) h4) hB2
  have HD0 := dump_any N t ao cap W1.heap.size W1.heap.size [] W2 hc hN hnu ht2 hI hl2 hb2.size h42 hn2 htb2
  rw [hz1] at HD0
  have HD := Lib.hid HD0
  have HZ := Lib.hid hz1
  have HW2 := Lib.hid hW2
  have hb2' : Below (w.heap.size + 1) W1 W2 := by rw [← hz1]; exact hb2
  have HB2 := Lib.hid hb2'
  clear b0 b1 b2 b3 b4 b5 hxl
  obtain ⟨⟨b0, b1, b2, b3, b4, b5⟩, -, hxl⟩ := c_six hx2
  clear hxl hx1 hx2 hz1 hW2 hb2 hI hB2 hc hN hnu ht hlen h4 hNm hTb ht2 hl2 h42 hn2 htb2 HD0 hb2'
  go_enter Tryd.func18, Tryd.ntmps18
  go_upto_region 2 with fail
  rw [← HW.out, ← HW2.out]
  go_wp2_with fail
  refine HD.out.mono ?_
  rintro e w3 ⟨rfl, hI3, hb3, -⟩
  rw [List.nil_append] at hI3
  have HB3 := Lib.hid (HB2.out.trans hb3)
  clear hb3
  go_wp2_with fail
  refine (Tryd.Builder_String_any (w.heap.size + 1) (w.heap.size + 1) _ _ hI3 (by have h1 := HB3.out.size; have h2 := HZ.out; omega)).mono ?_
  rintro e w4 ⟨rfl, hb4⟩
  have HB4 := Lib.hid (HB3.out.trans hb4)
  clear hb4
  go_wp2
  go_ret
  exact ⟨rfl, HB.out.trans (HB4.out.mono (by omega))⟩
set_option linter.unusedVariables false in
set_option maxRecDepth 100000 in
set_option maxHeartbeats 2000000 in
theorem sum_any (w : World) : Calls Tryd.prog 24 #[] w fun e w' => ∃ b : Nat, e = .returned (.agg #[.int .i64 44, .int .i64 0, .int .i64 0, .int .i64 0, .string ⟨#[43]⟩, .slice (some ⟨b, 0, none⟩) 2 2]) ∧ TIn w' All sumT (.slice (some ⟨b, 0, none⟩) 2 2) ∧ Below w.heap.size w w' := by
  go_enter Tryd.func24, Tryd.ntmps24
  go_wp2
  obtain ⟨W1, hW1⟩ : ∃ W1, W1 = w.alloc (.cells #[.int .i64 44, .int .i64 0, .int .i64 0, .int .i64 0, .string ⟨#[43]⟩, .slice (some ⟨w.heap.size + 1, 0, none⟩) 2 2] 24) := ⟨_, rfl⟩
  rw [← hW1]
  have hz1 : W1.heap.size = w.heap.size + 1 := by rw [hW1]; simp
  have hb1 : Below w.heap.size w W1 := by rw [hW1]; exact c_box w _
  have hx1 : W1.heap[w.heap.size]? = some (.cells #[.int .i64 44, .int .i64 0, .int .i64 0, .int .i64 0, .string ⟨#[43]⟩, .slice (some ⟨w.heap.size + 1, 0, none⟩) 2 2] 24 (0, 0)) := by rw [hW1]; exact heap_alloc_new w _
  obtain ⟨W2, hW2⟩ : ∃ W2, W2 = W1.alloc (.cells #[.int .i64 34, .int .i64 0, .int .i64 0, .int .i64 0, .string ⟨#[120]⟩, .slice none 0 0, .int .i64 30, .int .i64 4, .int .i64 1, .int .i64 0, .string ⟨#[]⟩, .slice none 0 0] 24) := ⟨_, rfl⟩
  rw [← hW2]
  have hb2 : Below W1.heap.size W1 W2 := by rw [hW2]; exact c_box W1 _
  have hx2 : W2.heap[w.heap.size + 1]? = some (.cells #[.int .i64 34, .int .i64 0, .int .i64 0, .int .i64 0, .string ⟨#[120]⟩, .slice none 0 0, .int .i64 30, .int .i64 4, .int .i64 1, .int .i64 0, .string ⟨#[]⟩, .slice none 0 0] 24 (0, 0)) := by rw [hW2, ← hz1]; exact heap_alloc_new W1 _
  have hx1' := (hb2.block _ (c_lt hx1)).trans hx1
  obtain ⟨⟨r0, r1, r2, r3, r4, r5⟩, -, -⟩ := c_six hx1'
  have hlt := c_lt hx2
  have hB := c_thr hb1 hb2 hb1.size
  clear hW1 hW2
  refine bodyPost_ret (v := .agg #[.int .i64 44, .int .i64 0, .int .i64 0, .int .i64 0, .string ⟨#[43]⟩, .slice (some ⟨w.heap.size + 1, 0, none⟩) 2 2]) (by simp [results, Tryd.results24, go_sem, r0, r1, r2, r3, r4, r5]) rfl ?_
  refine ⟨w.heap.size + 1, rfl, ?_, hB⟩
  have key : ∀ j v, (#[Value.int .i64 34, .int .i64 0, .int .i64 0, .int .i64 0, .string ⟨#[120]⟩, .slice none 0 0, .int .i64 30, .int .i64 4, .int .i64 1, .int .i64 0, .string ⟨#[]⟩, .slice none 0 0] : Array Value)[j]? = some v → W2.cell? ⟨w.heap.size + 1, j, none⟩ = some v := fun j v hv => (Lib.cell_of_heap hx2 j).trans hv
  refine tin_close (t := sumT) (ao := some ⟨w.heap.size + 1, 0, none⟩) (cap := 2) (by decide) (by unfold maxLen; omega) (.inr ⟨w.heap.size + 1, 0, rfl, hlt, trivial, fun i x hi => ?_⟩)
  match i, hi with
  | 0, hi =>
    have : nmT = x := by simpa [sumT, Tr.ks] using hi
    subst this
    exact ⟨.slice none 0 0, ⟨key 0 _ rfl, key 1 _ rfl, key 2 _ rfl, key 3 _ rfl, key 4 _ rfl, key 5 _ rfl⟩, tin_leaf⟩
  | 1, hi =>
    have : nuT = x := by simpa [sumT, Tr.ks] using hi
    subst this
    exact ⟨.slice none 0 0, ⟨key 6 _ rfl, key 7 _ rfl, key 8 _ rfl, key 9 _ rfl, key 10 _ rfl, key 11 _ rfl⟩, tin_leaf⟩
  | n + 2, hi => simp [sumT, Tr.ks] at hi
end Go.Proofs.YtppliplalfpmaaaDoor
