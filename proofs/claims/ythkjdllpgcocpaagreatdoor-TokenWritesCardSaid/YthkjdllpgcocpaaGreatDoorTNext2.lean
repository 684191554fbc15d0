/-
  Next of package token at this translation.
-/
import Derived.Test.YthkjdllpgcocpaaGreatDoorTNext
namespace Go.Proofs.YthkjdllpgcocpaaGreatDoor
open Go.RowKit

def ntR2 (r : NT) : Ending := .returned (.tuple #[.agg #[.int .i64 r.kind, .int .i64 r.a, .int .i64 r.to, .int .i64 r.n, .string r.s, .bool r.line, .bool r.o], .int .i64 r.err])
set_option maxRecDepth 100000 in
set_option maxHeartbeats 1000000 in
theorem Next_any (s : ByteArray) (a : Int) (tail : Bool) (w : World) (ht : SgnT w) (hm : MaxL w) :
    Calls Tryz.prog 19 #[.string s, .int .i64 a, .bool tail] w fun e w' => e = ntR2 (nxT s a tail) ∧ Below w.heap.size w w' := by
  have HN := Lib.hid (fun (W : World) (hB : Below w.heap.size w W) => next_any s a tail W (sgnt_grown ht hB) (maxl_grown hm hB))
  generalize nxT s a tail = r at HN ⊢
  obtain ⟨kd, f, to, n, str, l, o, ft, er⟩ := r
  unfold ntR at HN
  unfold ntR2
  simp only at HN ⊢
  clear ht hm
  go_enter Tryz.func19, Tryz.ntmps19
  go_wp2_with fail
  refine (HN.out _ (t_bel1 w _)).mono ?_
  rintro e w1 ⟨rfl, hb⟩
  have hg := t_kept hb (by simp) (heap_alloc_new w _)
  have hl := t_lt hg
  have hB : Below w.heap.size w w1 := t_thr (t_bel1 w _) hb (by simp)
  clear hb HN
  have HG := Lib.hid hg
  clear hg
  go_upto_region 2 with fail
  obtain ⟨W2, hW2⟩ : ∃ W2, W2 = w1.alloc (.cells #[.int .i64 kd, .int .i64 f, .int .i64 to, .int .i64 n, .string str, .bool l, .bool o] 27) := ⟨_, rfl⟩
  have hB2 : Below w.heap.size w W2 := by rw [hW2]; exact hB.alloc hB.size _
  have hg2 : W2.heap[w.heap.size]? = some (.cells #[.int .i64 0, .int .i64 0, .int .i64 0, .int .i64 0, .string ⟨#[]⟩, .bool false, .bool false] 27 (0, 0)) := by rw [hW2]; exact (heap_alloc_old w1 _ hl).trans HG.out
  have hn : W2.heap[w1.heap.size]? = some (.cells #[.int .i64 kd, .int .i64 f, .int .i64 to, .int .i64 n, .string str, .bool l, .bool o] 27 (0, 0)) := by rw [hW2]; exact heap_alloc_new w1 _
  rw [← hW2]
  clear hW2 hB HG
  obtain ⟨⟨q0, q1, q2, q3, q4, q5, q6⟩, ⟨f0, f1, f2, f3, f4, f5, f6⟩, hl2⟩ := t_seven hg2
  obtain ⟨⟨r0, r1, r2, r3, r4, r5, r6⟩, _, _⟩ := t_seven hn
  clear hg2 hn
  go_wp2
  refine bodyPost_ret (v := .tuple #[.agg #[.int .i64 kd, .int .i64 f, .int .i64 to, .int .i64 n, .string str, .bool l, .bool o], .int .i64 er]) (by simp [results, Tryz.results19, go_sem, q0, q1, q2, q3, q4, q5, q6]) rfl ?_
  exact ⟨rfl, t_st7 hB2 (Nat.le_refl _)⟩
end Go.Proofs.YthkjdllpgcocpaaGreatDoor
