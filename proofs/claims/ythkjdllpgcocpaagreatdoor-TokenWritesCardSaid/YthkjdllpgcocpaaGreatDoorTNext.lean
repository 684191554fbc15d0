/-
  next and Next of package token at this translation.
-/
import Derived.Test.YthkjdllpgcocpaaGreatDoorTRead
import Derived.Test.YthkjdllpgcocpaaGreatDoorTNl
import Derived.Deep.Cut
namespace Go.Proofs.YthkjdllpgcocpaaGreatDoor
open Go.RowKit

theorem gap_bounds (s : ByteArray) : ∀ (n j : Nat), j ≤ s.size → j ≤ (gapV n (s.data.toList.drop j) j).1 ∧ (gapV n (s.data.toList.drop j) j).1 ≤ s.size := by
  intro n
  induction n with
  | zero => intro j hj; exact ⟨Nat.le_refl _, hj⟩
  | succ n ih =>
    intro j hj
    obtain ⟨k, hk⟩ : ∃ k, k = j + runLen blkB (s.data.toList.drop j) := ⟨_, rfl⟩
    rw [gap_step _ n j k hk]
    have h1 := run_le blkB (s.data.toList.drop j)
    have h2 : (s.data.toList.drop j).length = s.size - j := by simp
    have hks : k ≤ s.size := by omega
    split
    · have h3 := run_le inlB (s.data.toList.drop k)
      have h4 : (s.data.toList.drop k).length = s.size - k := by simp
      have := ih (k + runLen inlB (s.data.toList.drop k)) (by omega)
      omega
    · split
      · rename_i hp
        split
        · exact ⟨by omega, hks⟩
        · rename_i hz
          have h3 := pre_len hp
          have h4 : (s.data.toList.drop k).length = s.size - k := by simp
          have hr := Lib.index_room (s.data.toList.drop (k + 2)) [42, 47] (by omega)
          have h5 : (s.data.toList.drop (k + 2)).length = s.size - (k + 2) := by simp
          rw [h5] at hr
          simp at hr
          have := ih (k + ((Lib.index (s.data.toList.drop (k + 2)) [42, 47]).toNat + 4)) (by omega)
          omega
      · exact ⟨by omega, hks⟩

/-- a token, the offset of what is at fault, and the error's number -/
structure NT where
  kind : Int
  a : Int
  to : Int
  n : Int
  s : ByteArray
  line : Bool
  o : Bool
  fault : Int
  err : Int
def noN (f e : Int) : NT := ⟨0, 0, 0, 0, ⟨#[]⟩, false, false, f, e⟩
def ntR (r : NT) : Ending := .returned (.tuple #[.agg #[.int .i64 r.kind, .int .i64 r.a, .int .i64 r.to, .int .i64 r.n, .string r.s, .bool r.line, .bool r.o], .int .i64 r.fault, .int .i64 r.err])
def nxG (g : Nat × Int) (r : RT) (l : Bool) : NT :=
  if g.2 = 0 then (if r.err = 0 then ⟨r.kind, g.1, r.to, r.n, r.s, l, r.o, 0, 0⟩ else noN g.1 r.err) else noN g.1 g.2
def nxT (s : ByteArray) (a : Int) (tail : Bool) : NT :=
  if 65536 < s.size then noN 0 9
  else if a < 0 ∨ (s.size : Int) < a then noN 0 2
  else nxG (gapV (s.size + 1) (s.data.toList.drop a.toNat) a.toNat) (readT s (gapV (s.size + 1) (s.data.toList.drop a.toNat) a.toNat).1 tail)
    (nlL ((s.data.toList.drop a.toNat).take ((gapV (s.size + 1) (s.data.toList.drop a.toNat) a.toNat).1 - a.toNat)))
def zeroTok : Obj := .cells #[.int .i64 0, .int .i64 0, .int .i64 0, .int .i64 0, .string ⟨#[]⟩, .bool false, .bool false] 27 (0, 0)
theorem t_one {W : World} {b : Nat} {cs : Array Value} {T : TypeId} (i : Nat) (v : Value) (hW : W.heap[b]? = some (.cells cs T (0, 0))) : (W.setCell ⟨b, i, none⟩ v).heap[b]? = some (.cells (cs.setIfInBounds i v) T (0, 0)) := by
  show (W.heap.modify b _)[b]? = _
  rw [Array.getElem?_modify, if_pos rfl, hW]
  rfl
theorem t_set7 {w : World} {b : Nat} {x0 x1 x2 x3 x4 x5 x6 y0 y1 y2 y3 y4 y5 y6 : Value} {T : TypeId} (h : w.heap[b]? = some (.cells #[x0, x1, x2, x3, x4, x5, x6] T (0, 0))) :
    (((((((w.setCell ⟨b, 0, none⟩ y0).setCell ⟨b, 1, none⟩ y1).setCell ⟨b, 2, none⟩ y2).setCell ⟨b, 3, none⟩ y3).setCell ⟨b, 4, none⟩ y4).setCell ⟨b, 5, none⟩ y5).setCell ⟨b, 6, none⟩ y6).heap[b]? = some (.cells #[y0, y1, y2, y3, y4, y5, y6] T (0, 0)) := by
  have h6 := t_one 6 y6 (t_one 5 y5 (t_one 4 y4 (t_one 3 y3 (t_one 2 y2 (t_one 1 y1 (t_one 0 y0 h))))))
  simp only [List.setIfInBounds_toArray, List.set_cons_zero, List.set_cons_succ] at h6
  exact h6

set_option maxRecDepth 100000 in
set_option maxHeartbeats 1000000 in
theorem next_long (s : ByteArray) (a : Int) (tail : Bool) (w : World) (h : 65536 < s.size) :
    Calls Tryz.prog 28 #[.string s, .int .i64 a, .bool tail] w fun e w' => e = ntR (noN 0 9) ∧ Below w.heap.size w w' := by
  have h' : (65536 : Int) < s.size := by omega
  unfold ntR noN
  go_enter Tryz.func28, Tryz.ntmps28
  go_wp2
  go_returns
  exact ⟨rfl, by go_grown⟩
set_option maxRecDepth 100000 in
set_option maxHeartbeats 1000000 in
theorem next_out (s : ByteArray) (a : Int) (tail : Bool) (w : World) (h : ¬ 65536 < s.size) (ha : a < 0 ∨ (s.size : Int) < a) :
    Calls Tryz.prog 28 #[.string s, .int .i64 a, .bool tail] w fun e w' => e = ntR (noN 0 2) ∧ Below w.heap.size w w' := by
  have h' : ¬ (65536 : Int) < s.size := by omega
  unfold ntR noN
  by_cases h0 : a < 0
  · have g0 : decide (a < 0) = true := by simpa using h0
    clear ha
    go_enter Tryz.func28, Tryz.ntmps28
    go_wp2
    go_returns
    exact ⟨rfl, by go_grown⟩
  · have g0 : decide (a < 0) = false := by simpa using h0
    have h1 : (s.size : Int) < a := by omega
    have g1 : decide ((s.size : Int) < a) = true := by simpa using h1
    clear ha
    go_enter Tryz.func28, Tryz.ntmps28
    go_wp2
    go_returns
    exact ⟨rfl, by go_grown⟩
set_option linter.unusedVariables false in
set_option maxRecDepth 100000 in
set_option maxHeartbeats 1000000 in
theorem next_gap (s : ByteArray) (k f : Nat) (er : Int) (tail : Bool) (w : World) (h : ¬ 65536 < s.size) (hk : k ≤ s.size) (he : ¬ er = 0)
    (HG : Hid (∀ W, Below w.heap.size w W → Calls Tryz.prog 44 #[.string s, .int .i64 k] W fun e w' => e = gapR (f, er) ∧ W = w')) :
    Calls Tryz.prog 28 #[.string s, .int .i64 k, .bool tail] w fun e w' => e = ntR (noN f er) ∧ Below w.heap.size w w' := by
  have h' : ¬ (65536 : Int) < s.size := by omega
  have g0 : decide ((k : Int) < 0) = false := by simp
  have g1 : decide (s.size < k) = false := by simp; omega
  have e1 : (er == 0) = false := by simpa using he
  have e2 : (er != 0) = true := by simpa using he
  unfold gapR at HG
  unfold ntR noN
  go_enter Tryz.func28, Tryz.ntmps28
  go_wp2_with fail
  refine (HG.out _ (t_bel1 w _)).mono ?_
  rintro e w' ⟨rfl, rfl⟩
  go_wp2
  go_returns
  exact ⟨rfl, by go_grown⟩
set_option linter.unusedVariables false in
set_option maxRecDepth 100000 in
set_option maxHeartbeats 1000000 in
theorem next_bad (s : ByteArray) (k f : Nat) (r : RT) (tail : Bool) (w : World) (h : ¬ 65536 < s.size) (hk : k ≤ s.size) (he : ¬ r.err = 0)
    (HG : Hid (∀ W, Below w.heap.size w W → Calls Tryz.prog 44 #[.string s, .int .i64 k] W fun e w' => e = gapR (f, 0) ∧ W = w'))
    (HR : Hid (∀ W, Below w.heap.size w W → Calls Tryz.prog 45 #[.string s, .int .i64 f, .bool tail] W fun e w' => e = rtR r ∧ Below W.heap.size W w')) :
    Calls Tryz.prog 28 #[.string s, .int .i64 k, .bool tail] w fun e w' => e = ntR (noN f r.err) ∧ Below w.heap.size w w' := by
  obtain ⟨kd, to, n, str, o, er⟩ := r
  simp only at he HR ⊢
  have h' : ¬ (65536 : Int) < s.size := by omega
  have g0 : decide ((k : Int) < 0) = false := by simp
  have g1 : decide (s.size < k) = false := by simp; omega
  have e2 : (er != 0) = true := by simpa using he
  unfold gapR at HG
  unfold rtR at HR
  unfold ntR noN
  go_enter Tryz.func28, Tryz.ntmps28
  go_wp2_with fail
  refine (HG.out _ (t_bel1 w _)).mono ?_
  rintro e w' ⟨rfl, rfl⟩
  go_wp2_with fail
  refine (HR.out _ (t_bel1 w _)).mono ?_
  rintro e w1 ⟨rfl, hb⟩
  have hg := t_kept hb (by simp) (heap_alloc_new w _)
  obtain ⟨⟨q0, q1, q2, q3, q4, q5, q6⟩, ⟨f0, f1, f2, f3, f4, f5, f6⟩, hl⟩ := t_seven hg
  have hB : Below w.heap.size w w1 := t_thr (t_bel1 w _) hb (by simp)
  have HGG := Lib.hid hg
  clear hb HG HR hg
  go_upto_region 8 with fail
  obtain ⟨W2, hW2⟩ : ∃ W2, W2 = (((((((w1.setCell ⟨w.heap.size, 0, none⟩ (.int .i64 kd)).setCell ⟨w.heap.size, 1, none⟩ (.int .i64 0)).setCell ⟨w.heap.size, 2, none⟩ (.int .i64 to)).setCell ⟨w.heap.size, 3, none⟩ (.int .i64 n)).setCell ⟨w.heap.size, 4, none⟩ (.string str)).setCell ⟨w.heap.size, 5, none⟩ (.bool false)).setCell ⟨w.heap.size, 6, none⟩ (.bool o)) := ⟨_, rfl⟩
  have hB2 : Below w.heap.size w W2 := by rw [hW2]; exact t_st7 hB (Nat.le_refl _)
  have hg2 : W2.heap[w.heap.size]? = some (.cells #[.int .i64 kd, .int .i64 0, .int .i64 to, .int .i64 n, .string str, .bool false, .bool o] 27 (0, 0)) := by rw [hW2]; exact t_set7 HGG.out
  rw [← hW2]
  clear hW2 hB HGG q0 q1 q2 q3 q4 q5 q6 f0 f1 f2 f3 f4 f5 f6 hl
  obtain ⟨⟨q0, q1, q2, q3, q4, q5, q6⟩, ⟨f0, f1, f2, f3, f4, f5, f6⟩, hl⟩ := t_seven hg2
  clear hg2
  go_wp2
  refine bodyPost_ret (v := .tuple #[.agg #[.int .i64 0, .int .i64 0, .int .i64 0, .int .i64 0, .string ⟨#[]⟩, .bool false, .bool false], .int .i64 f, .int .i64 er]) (by simp [results, Tryz.results28, go_sem, q0, q1, q2, q3, q4, q5, q6]) rfl ?_
  exact ⟨rfl, t_st7 hB2 (Nat.le_refl _)⟩
set_option linter.unusedVariables false in
set_option maxRecDepth 100000 in
set_option maxHeartbeats 2000000 in
theorem next_good (s : ByteArray) (k f : Nat) (r : RT) (l : Bool) (tail : Bool) (w : World) (h : ¬ 65536 < s.size) (hk : k ≤ s.size) (hkf : k ≤ f) (hf : f ≤ s.size) (he : r.err = 0)
    (HG : Hid (∀ W, Below w.heap.size w W → Calls Tryz.prog 44 #[.string s, .int .i64 k] W fun e w' => e = gapR (f, 0) ∧ W = w'))
    (HR : Hid (∀ W, Below w.heap.size w W → Calls Tryz.prog 45 #[.string s, .int .i64 f, .bool tail] W fun e w' => e = rtR r ∧ Below W.heap.size W w'))
    (HC : Hid (∀ W, Calls Tryz.prog 46 #[.string (s.extract k f), .string ⟨#[10, 13]⟩] W fun e w' => e = .returned (.bool l) ∧ Below W.heap.size W w')) :
    Calls Tryz.prog 28 #[.string s, .int .i64 k, .bool tail] w fun e w' => e = ntR ⟨r.kind, f, r.to, r.n, r.s, l, r.o, 0, 0⟩ ∧ Below w.heap.size w w' := by
  obtain ⟨kd, to, n, str, o, er⟩ := r
  simp only at he HR ⊢
  subst he
  have h' : ¬ (65536 : Int) < s.size := by omega
  have g0 : decide ((k : Int) < 0) = false := by simp
  have g1 : decide (s.size < k) = false := by simp; omega
  have i1 : (k : Int) ≤ f := by omega
  have i2 : (f : Int) ≤ s.size := by omega
  unfold gapR at HG
  unfold rtR at HR
  unfold ntR
  go_enter Tryz.func28, Tryz.ntmps28
  go_wp2_with fail
  refine (HG.out _ (t_bel1 w _)).mono ?_
  rintro e w' ⟨rfl, rfl⟩
  go_wp2_with fail
  refine (HR.out _ (t_bel1 w _)).mono ?_
  rintro e w1 ⟨rfl, hb⟩
  have hg := t_kept hb (by simp) (heap_alloc_new w _)
  obtain ⟨⟨q0, q1, q2, q3, q4, q5, q6⟩, ⟨f0, f1, f2, f3, f4, f5, f6⟩, hl⟩ := t_seven hg
  have hB : Below w.heap.size w w1 := t_thr (t_bel1 w _) hb (by simp)
  have HGG := Lib.hid hg
  clear hb HG HR hg
  go_upto_region 8 with fail
  obtain ⟨W2, hW2⟩ : ∃ W2, W2 = (((((((w1.setCell ⟨w.heap.size, 0, none⟩ (.int .i64 kd)).setCell ⟨w.heap.size, 1, none⟩ (.int .i64 0)).setCell ⟨w.heap.size, 2, none⟩ (.int .i64 to)).setCell ⟨w.heap.size, 3, none⟩ (.int .i64 n)).setCell ⟨w.heap.size, 4, none⟩ (.string str)).setCell ⟨w.heap.size, 5, none⟩ (.bool false)).setCell ⟨w.heap.size, 6, none⟩ (.bool o)) := ⟨_, rfl⟩
  have hB2 : Below w.heap.size w W2 := by rw [hW2]; exact t_st7 hB (Nat.le_refl _)
  have hg2 : W2.heap[w.heap.size]? = some (.cells #[.int .i64 kd, .int .i64 0, .int .i64 to, .int .i64 n, .string str, .bool false, .bool o] 27 (0, 0)) := by rw [hW2]; exact t_set7 HGG.out
  rw [← hW2]
  clear hW2 hB HGG q0 q1 q2 q3 q4 q5 q6 f0 f1 f2 f3 f4 f5 f6 hl
  obtain ⟨⟨q0, q1, q2, q3, q4, q5, q6⟩, ⟨f0, f1, f2, f3, f4, f5, f6⟩, hl⟩ := t_seven hg2
  have HGG := Lib.hid hg2
  clear hg2
  go_upto_region 11 with fail
  obtain ⟨W3, hW3⟩ : ∃ W3, W3 = W2.setCell ⟨w.heap.size, 1, none⟩ (.int .i64 f) := ⟨_, rfl⟩
  have hB3 : Below w.heap.size w W3 := by rw [hW3]; exact t_set _ _ hB2 (Nat.le_refl _)
  have hg3 : W3.heap[w.heap.size]? = some (.cells #[.int .i64 kd, .int .i64 f, .int .i64 to, .int .i64 n, .string str, .bool false, .bool o] 27 (0, 0)) := by
    have h6 := t_one 1 (.int .i64 f) HGG.out
    simp only [List.setIfInBounds_toArray, List.set_cons_zero, List.set_cons_succ] at h6
    rw [hW3]
    exact h6
  rw [← hW3]
  clear hW3 hB2 HGG q0 q1 q2 q3 q4 q5 q6 f0 f1 f2 f3 f4 f5 f6 hl
  have HGG := Lib.hid hg3
  have hl3 := t_lt hg3
  clear hg3
  go_wp2_with fail
  refine (HC.out _).mono ?_
  rintro e W4 ⟨rfl, hb⟩
  have hg4 := t_kept hb hl3 HGG.out
  have hB4 : Below w.heap.size w W4 := t_thr hB3 hb hB3.size
  clear hb HC HGG hB3
  obtain ⟨⟨q0, q1, q2, q3, q4, q5, q6⟩, ⟨f0, f1, f2, f3, f4, f5, f6⟩, hl⟩ := t_seven hg4
  have HGG := Lib.hid hg4
  clear hg4
  go_upto_region 12 with fail
  obtain ⟨W5, hW5⟩ : ∃ W5, W5 = W4.setCell ⟨w.heap.size, 5, none⟩ (.bool l) := ⟨_, rfl⟩
  have hB5 : Below w.heap.size w W5 := by rw [hW5]; exact t_set _ _ hB4 (Nat.le_refl _)
  have hg5 : W5.heap[w.heap.size]? = some (.cells #[.int .i64 kd, .int .i64 f, .int .i64 to, .int .i64 n, .string str, .bool l, .bool o] 27 (0, 0)) := by
    have h6 := t_one 5 (.bool l) HGG.out
    simp only [List.setIfInBounds_toArray, List.set_cons_zero, List.set_cons_succ] at h6
    rw [hW5]
    exact h6
  rw [← hW5]
  clear hW5 hB4 HGG q0 q1 q2 q3 q4 q5 q6 f0 f1 f2 f3 f4 f5 f6 hl
  obtain ⟨⟨q0, q1, q2, q3, q4, q5, q6⟩, ⟨f0, f1, f2, f3, f4, f5, f6⟩, hl⟩ := t_seven hg5
  clear hg5
  go_wp2
  refine bodyPost_ret (v := .tuple #[.agg #[.int .i64 kd, .int .i64 f, .int .i64 to, .int .i64 n, .string str, .bool l, .bool o], .int .i64 0, .int .i64 0]) (by simp [results, Tryz.results28, go_sem, q0, q1, q2, q3, q4, q5, q6]) rfl ?_
  exact ⟨rfl, t_st7 hB5 (Nat.le_refl _)⟩

theorem next_any (s : ByteArray) (a : Int) (tail : Bool) (w : World) (ht : SgnT w) (hm : MaxL w) :
    Calls Tryz.prog 28 #[.string s, .int .i64 a, .bool tail] w fun e w' => e = ntR (nxT s a tail) ∧ Below w.heap.size w w' := by
  unfold nxT
  by_cases h1 : 65536 < s.size
  · rw [if_pos h1]
    exact next_long s a tail w h1
  · rw [if_neg h1]
    by_cases h2 : a < 0 ∨ (s.size : Int) < a
    · rw [if_pos h2]
      exact next_out s a tail w h1 h2
    · rw [if_neg h2]
      obtain ⟨k, rfl⟩ : ∃ k : Nat, a = k := ⟨a.toNat, by omega⟩
      rw [Int.toNat_natCast]
      have hs : s.size ≤ 4000000 := by omega
      have hk : k ≤ s.size := by omega
      have hb := gap_bounds s (s.size + 1) k hk
      have HG : ∀ W, Below w.heap.size w W → Calls Tryz.prog 44 #[.string s, .int .i64 k] W fun e w' => e = gapR (gapV (s.size + 1) (s.data.toList.drop k) k) ∧ W = w' := fun W hB => gap_any s k W hs hk (maxl_grown hm hB)
      generalize gapV (s.size + 1) (s.data.toList.drop k) k = g at hb HG ⊢
      obtain ⟨f, er⟩ := g
      simp only at hb ⊢
      unfold nxG
      simp only
      by_cases h3 : er = 0
      · rw [if_pos h3]
        subst h3
        have HR : ∀ W, Below w.heap.size w W → Calls Tryz.prog 45 #[.string s, .int .i64 f, .bool tail] W fun e w' => e = rtR (readT s f tail) ∧ Below W.heap.size W w' := fun W hB => tokRead_any s f tail W hs hb.2 (sgnt_grown ht hB)
        by_cases h4 : (readT s f tail).err = 0
        · rw [if_pos h4]
          have HC := fun W => containsNl_any (s.extract k f) W (by rw [ByteArray.size_extract]; omega)
          rw [Lib.extract_data] at HC
          exact next_good s k f _ _ tail w h1 hk hb.1 hb.2 h4 (Lib.hid HG) (Lib.hid HR) (Lib.hid HC)
        · rw [if_neg h4]
          exact next_bad s k f _ tail w h1 hk h4 (Lib.hid HG) (Lib.hid HR)
      · rw [if_neg h3]
        exact next_gap s k f er tail w h1 hk h3 (Lib.hid HG)
end Go.Proofs.YthkjdllpgcocpaaGreatDoor
