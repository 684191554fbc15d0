/-
  read and Next of the reference at this translation: the same tokens, the same errors.
-/
import Derived.Test.YtjbnobcnlmkbmaaDoorROne3
import Derived.Test.YtjbnobcnlmkbmaaDoorRSkip
import Derived.Test.YtjbnobcnlmkbmaaDoorTNext2
namespace Go.Proofs.YtjbnobcnlmkbmaaDoor
open Go.RowKit

theorem gap_err (s : ByteArray) : ∀ (n j : Nat), (gapV n (s.data.toList.drop j) j).2 = 0 ∨ (gapV n (s.data.toList.drop j) j).2 = 8 := by
  intro n
  induction n with
  | zero => intro j; exact Or.inl rfl
  | succ n ih =>
    intro j
    obtain ⟨k, hk⟩ : ∃ k, k = j + runLen blkB (s.data.toList.drop j) := ⟨_, rfl⟩
    rw [gap_step _ n j k hk]
    split
    · exact ih _
    · split
      · split
        · exact Or.inr rfl
        · exact ih _
      · exact Or.inl rfl
theorem set_other {W : World} {b c i : Nat} {v : Value} {o : Obj} (h : W.heap[b]? = some o) (hne : ¬ c = b) : (W.setCell ⟨c, i, none⟩ v).heap[b]? = some o := by
  show (W.heap.modify c _)[b]? = _
  rw [Array.getElem?_modify, if_neg hne]
  exact h
set_option linter.unusedVariables false in
set_option maxRecDepth 100000 in
set_option maxHeartbeats 1000000 in
theorem rr_gap (s : ByteArray) (k p : Nat) (tail : Bool) (w : World)
    (HG : Hid (∀ W, Calls Tryd.prog 15 #[.string s, .int .i64 k] W fun e w' => (∃ b, e = skR p b false) ∧ W = w')) :
    Calls Tryd.prog 14 #[.string s, .int .i64 k, .bool tail] w fun e w' => e = .returned (.tuple #[.agg #[.int .i64 0, .int .i64 0, .int .i64 0, .int .i64 0, .string ⟨#[]⟩, .bool false, .bool false], .int .i64 p, .int .i64 8]) ∧ Below w.heap.size w w' := by
  unfold skR at HG
  go_enter Tryd.func14, Tryd.ntmps14
  go_wp2_with fail
  refine (HG.out _).mono ?_
  rintro e w' ⟨⟨b, rfl⟩, rfl⟩
  go_wp2
  go_returns
  exact ⟨rfl, by go_grown⟩
set_option linter.unusedVariables false in
set_option maxRecDepth 100000 in
set_option maxHeartbeats 2000000 in
theorem rr_bad (s : ByteArray) (k p : Nat) (b tail : Bool) (kd a to n er : Int) (str : ByteArray) (o : Bool) (w : World) (he : ¬ er = 0)
    (HG : Hid (∀ W, Calls Tryd.prog 15 #[.string s, .int .i64 k] W fun e w' => e = skR p b true ∧ W = w'))
    (HO : Hid (∀ W, Calls Tryd.prog 19 #[.string s, .int .i64 p, .bool tail] W fun e w' => e = .returned (.tuple #[.agg #[.int .i64 kd, .int .i64 a, .int .i64 to, .int .i64 n, .string str, .bool false, .bool o], .int .i64 er]) ∧ Below W.heap.size W w')) :
    Calls Tryd.prog 14 #[.string s, .int .i64 k, .bool tail] w fun e w' => e = .returned (.tuple #[.agg #[.int .i64 0, .int .i64 0, .int .i64 0, .int .i64 0, .string ⟨#[]⟩, .bool false, .bool false], .int .i64 p, .int .i64 er]) ∧ Below w.heap.size w w' := by
  have e2 : (er != 0) = true := by simpa using he
  unfold skR at HG
  go_enter Tryd.func14, Tryd.ntmps14
  go_wp2_with fail
  refine (HG.out _).mono ?_
  rintro e w' ⟨rfl, rfl⟩
  go_wp2_with fail
  refine (HO.out _).mono ?_
  rintro e w1 ⟨rfl, hb⟩
  have hg := t_kept hb (by simp) (heap_alloc_new w _)
  have hl := t_lt hg
  have hB : Below w.heap.size w w1 := t_thr (t_bel1 w _) hb (by simp)
  have HGG := Lib.hid hg
  clear hb HG HO hg
  go_upto_region 5 with fail
  obtain ⟨W2, hW2⟩ : ∃ W2, W2 = w1.alloc (.cells #[.int .i64 kd, .int .i64 a, .int .i64 to, .int .i64 n, .string str, .bool false, .bool o] 43) := ⟨_, rfl⟩
  have hB2 : Below w.heap.size w W2 := by rw [hW2]; exact hB.alloc hB.size _
  have hg2 : W2.heap[w.heap.size]? = some (.cells #[.int .i64 0, .int .i64 0, .int .i64 0, .int .i64 0, .string ⟨#[]⟩, .bool false, .bool false] 43 (0, 0)) := by rw [hW2]; exact (heap_alloc_old w1 _ hl).trans HGG.out
  rw [← hW2]
  clear hW2 hB HGG
  obtain ⟨⟨q0, q1, q2, q3, q4, q5, q6⟩, ⟨f0, f1, f2, f3, f4, f5, f6⟩, hl2⟩ := t_seven hg2
  clear hg2
  go_wp2
  refine bodyPost_ret (v := .tuple #[.agg #[.int .i64 0, .int .i64 0, .int .i64 0, .int .i64 0, .string ⟨#[]⟩, .bool false, .bool false], .int .i64 p, .int .i64 er]) (by simp [results, Tryd.results14, go_sem, q0, q1, q2, q3, q4, q5, q6]) rfl ?_
  exact ⟨rfl, t_st7 hB2 (Nat.le_refl _)⟩
set_option linter.unusedVariables false in
set_option maxRecDepth 100000 in
set_option maxHeartbeats 2000000 in
theorem rr_good (s : ByteArray) (k p : Nat) (b tail : Bool) (kd a to n : Int) (str : ByteArray) (o : Bool) (w : World)
    (HG : Hid (∀ W, Calls Tryd.prog 15 #[.string s, .int .i64 k] W fun e w' => e = skR p b true ∧ W = w'))
    (HO : Hid (∀ W, Calls Tryd.prog 19 #[.string s, .int .i64 p, .bool tail] W fun e w' => e = .returned (.tuple #[.agg #[.int .i64 kd, .int .i64 a, .int .i64 to, .int .i64 n, .string str, .bool false, .bool o], .int .i64 0]) ∧ Below W.heap.size W w')) :
    Calls Tryd.prog 14 #[.string s, .int .i64 k, .bool tail] w fun e w' => e = .returned (.tuple #[.agg #[.int .i64 kd, .int .i64 a, .int .i64 to, .int .i64 n, .string str, .bool b, .bool o], .int .i64 p, .int .i64 0]) ∧ Below w.heap.size w w' := by
  unfold skR at HG
  go_enter Tryd.func14, Tryd.ntmps14
  go_wp2_with fail
  refine (HG.out _).mono ?_
  rintro e w' ⟨rfl, rfl⟩
  go_wp2_with fail
  refine (HO.out _).mono ?_
  rintro e w1 ⟨rfl, hb⟩
  have hg := t_kept hb (by simp) (heap_alloc_new w _)
  have hl := t_lt hg
  have hB : Below w.heap.size w w1 := t_thr (t_bel1 w _) hb (by simp)
  have HGG := Lib.hid hg
  clear hb HG HO hg
  go_upto_region 5 with fail
  obtain ⟨W2, hW2⟩ : ∃ W2, W2 = w1.alloc (.cells #[.int .i64 kd, .int .i64 a, .int .i64 to, .int .i64 n, .string str, .bool false, .bool o] 43) := ⟨_, rfl⟩
  have hB2 : Below w.heap.size w W2 := by rw [hW2]; exact hB.alloc hB.size _
  have hg2 : W2.heap[w.heap.size]? = some (.cells #[.int .i64 0, .int .i64 0, .int .i64 0, .int .i64 0, .string ⟨#[]⟩, .bool false, .bool false] 43 (0, 0)) := by rw [hW2]; exact (heap_alloc_old w1 _ hl).trans HGG.out
  have hn : W2.heap[w1.heap.size]? = some (.cells #[.int .i64 kd, .int .i64 a, .int .i64 to, .int .i64 n, .string str, .bool false, .bool o] 43 (0, 0)) := by rw [hW2]; exact heap_alloc_new w1 _
  rw [← hW2]
  have hB1 : w.heap.size ≤ w1.heap.size := hB.size
  have hne : ¬ w1.heap.size = w.heap.size := by omega
  clear hW2 hB HGG
  obtain ⟨⟨r0, r1, r2, r3, r4, r5, r6⟩, ⟨x0, x1, x2, x3, x4, x5, x6⟩, hl2⟩ := t_seven hn
  have HN := Lib.hid hn
  have HGG := Lib.hid hg2
  clear hg2 hn
  go_upto_region 8 with fail
  obtain ⟨W3, hW3⟩ : ∃ W3, W3 = W2.setCell ⟨w1.heap.size, 5, none⟩ (.bool b) := ⟨_, rfl⟩
  have hB3 : Below w.heap.size w W3 := by rw [hW3]; exact t_set _ _ hB2 hB1
  have hg3 : W3.heap[w.heap.size]? = some (.cells #[.int .i64 0, .int .i64 0, .int .i64 0, .int .i64 0, .string ⟨#[]⟩, .bool false, .bool false] 43 (0, 0)) := by rw [hW3]; exact set_other HGG.out hne
  have hn3 : W3.heap[w1.heap.size]? = some (.cells #[.int .i64 kd, .int .i64 a, .int .i64 to, .int .i64 n, .string str, .bool b, .bool o] 43 (0, 0)) := by
    have h6 := t_one 5 (.bool b) HN.out
    simp only [List.setIfInBounds_toArray, List.set_cons_zero, List.set_cons_succ] at h6
    rw [hW3]
    exact h6
  rw [← hW3]
  clear hW3 hB2 HGG HN r0 r1 r2 r3 r4 r5 r6 x0 x1 x2 x3 x4 x5 x6 hl2
  obtain ⟨⟨q0, q1, q2, q3, q4, q5, q6⟩, ⟨f0, f1, f2, f3, f4, f5, f6⟩, hl2⟩ := t_seven hg3
  obtain ⟨⟨r0, r1, r2, r3, r4, r5, r6⟩, _, _⟩ := t_seven hn3
  clear hg3 hn3
  go_wp2
  refine bodyPost_ret (v := .tuple #[.agg #[.int .i64 kd, .int .i64 a, .int .i64 to, .int .i64 n, .string str, .bool b, .bool o], .int .i64 p, .int .i64 0]) (by simp [results, Tryd.results14, go_sem, q0, q1, q2, q3, q4, q5, q6]) rfl ?_
  exact ⟨rfl, t_st7 hB3 (Nat.le_refl _)⟩
end Go.Proofs.YtjbnobcnlmkbmaaDoor
