/-
  Next of the reference at this translation: for every text, offset and tail, what the program's Next answers.
-/
import Derived.Test.YtpcjfdijdllepaaDoorRReadR
namespace Go.Proofs.YtpcjfdijdllepaaDoor
open Go.RowKit

def rdE (x : NT) (p : Nat) : Ending := .returned (.tuple #[.agg #[.int .i64 x.kind, .int .i64 x.a, .int .i64 x.to, .int .i64 x.n, .string x.s, .bool x.line, .bool x.o], .int .i64 p, .int .i64 x.err])
def rdG (s : ByteArray) (k : Nat) : Nat × Int := gapV (s.size + 1) (s.data.toList.drop k) k
theorem rRead_any (s : ByteArray) (k : Nat) (tail : Bool) (w : World) (hs : s.size ≤ 65536) (hk : k ≤ s.size) :
    Calls Tryd.prog 36 #[.string s, .int .i64 k, .bool tail] w fun e w' => e = rdE (nxG (rdG s k) (readT s (rdG s k).1 tail) (nlL ((s.data.toList.drop k).take ((rdG s k).1 - k)))) (rdG s k).1 ∧ Below w.heap.size w w' := by
  have HS := fun W => rSkip_any s k W (by omega) hk (rdG s k) (Lib.hid rfl)
  have hE : (rdG s k).2 = 0 ∨ (rdG s k).2 = 8 := gap_err s (s.size + 1) k
  have hB : k ≤ (rdG s k).1 ∧ (rdG s k).1 ≤ s.size := gap_bounds s (s.size + 1) k hk
  generalize rdG s k = g at HS hE hB ⊢
  obtain ⟨p, er⟩ := g
  simp only at hE hB
  unfold nxG
  simp only
  rcases hE with he | he
  · subst he
    rw [if_pos rfl]
    have HG : ∀ W, Calls Tryd.prog 38 #[.string s, .int .i64 k] W fun e w' => e = skR p (nlL ((s.data.toList.drop k).take (p - k))) true ∧ W = w' := fun W => (HS W).mono (by
      rintro e w' ⟨⟨b, h1, h2⟩, rfl⟩
      refine ⟨?_, rfl⟩
      rw [h1, h2 rfl]
      rfl)
    have HO := fun W => rOne_any s p tail W hs hB.2
    generalize readT s p tail = r at HO ⊢
    obtain ⟨kd, to, n, str, o, er⟩ := r
    unfold oneT at HO
    simp only at HO ⊢
    by_cases he : er = 0
    · subst he
      rw [if_pos rfl]
      simp only [if_true] at HO
      exact rr_good s k p _ tail kd p to n str o w (Lib.hid HG) (Lib.hid HO)
    · rw [if_neg he]
      rw [if_neg he] at HO
      exact rr_bad s k p _ tail kd 0 to n er str o w he (Lib.hid HG) (Lib.hid HO)
  · subst he
    rw [if_neg (by omega)]
    exact rr_gap s k p tail w (Lib.hid (fun W => (HS W).mono (by
      rintro e w' ⟨⟨b, h1, _⟩, rfl⟩
      exact ⟨⟨b, h1⟩, rfl⟩)))
set_option linter.unusedVariables false in
set_option maxRecDepth 100000 in
set_option maxHeartbeats 1000000 in
theorem rn_long (s : ByteArray) (a : Int) (tail : Bool) (w : World) (h : 65536 < s.size) :
    Calls Tryd.prog 11 #[.string s, .int .i64 a, .bool tail] w fun e w' => e = ntR2 (noN 0 9) ∧ Below w.heap.size w w' := by
  have h' : (65536 : Int) < s.size := by omega
  unfold ntR2 noN
  go_enter Tryd.func11, Tryd.ntmps11
  go_wp2
  go_returns
  exact ⟨rfl, by go_grown⟩
set_option linter.unusedVariables false in
set_option maxRecDepth 100000 in
set_option maxHeartbeats 1000000 in
theorem rn_out (s : ByteArray) (a : Int) (tail : Bool) (w : World) (h : ¬ 65536 < s.size) (ha : a < 0 ∨ (s.size : Int) < a) :
    Calls Tryd.prog 11 #[.string s, .int .i64 a, .bool tail] w fun e w' => e = ntR2 (noN 0 2) ∧ Below w.heap.size w w' := by
  have h' : ¬ (65536 : Int) < s.size := by omega
  unfold ntR2 noN
  by_cases h0 : a < 0
  · have g0 : decide (a < 0) = true := by simpa using h0
    clear ha
    go_enter Tryd.func11, Tryd.ntmps11
    go_wp2
    go_returns
    exact ⟨rfl, by go_grown⟩
  · have g0 : decide (a < 0) = false := by simpa using h0
    have h1 : (s.size : Int) < a := by omega
    have g1 : decide ((s.size : Int) < a) = true := by simpa using h1
    clear ha
    go_enter Tryd.func11, Tryd.ntmps11
    go_wp2
    go_returns
    exact ⟨rfl, by go_grown⟩
set_option linter.unusedVariables false in
set_option maxRecDepth 100000 in
set_option maxHeartbeats 1000000 in
theorem rn_in (s : ByteArray) (k p : Nat) (tail : Bool) (x : NT) (w : World) (h : ¬ 65536 < s.size) (hk : k ≤ s.size)
    (HR : Hid (∀ W, Calls Tryd.prog 36 #[.string s, .int .i64 k, .bool tail] W fun e w' => e = rdE x p ∧ Below W.heap.size W w')) :
    Calls Tryd.prog 11 #[.string s, .int .i64 k, .bool tail] w fun e w' => e = ntR2 x ∧ Below w.heap.size w w' := by
  obtain ⟨kd, f, to, n, str, l, o, ft, er⟩ := x
  have h' : ¬ (65536 : Int) < s.size := by omega
  have g0 : decide ((k : Int) < 0) = false := by simp
  have g1 : decide (s.size < k) = false := by simp; omega
  unfold rdE at HR
  unfold ntR2
  simp only at HR ⊢
  go_enter Tryd.func11, Tryd.ntmps11
  go_wp2_with fail
  refine (HR.out _).mono ?_
  rintro e w1 ⟨rfl, hb⟩
  have hg := t_kept hb (by simp) (heap_alloc_new w _)
  have hl := t_lt hg
  have hB : Below w.heap.size w w1 := t_thr (t_bel1 w _) hb (by simp)
  clear hb HR
  have HG := Lib.hid hg
  clear hg
  go_upto_region 6 with fail
  obtain ⟨W2, hW2⟩ : ∃ W2, W2 = w1.alloc (.cells #[.int .i64 kd, .int .i64 f, .int .i64 to, .int .i64 n, .string str, .bool l, .bool o] 28) := ⟨_, rfl⟩
  have hB2 : Below w.heap.size w W2 := by rw [hW2]; exact hB.alloc hB.size _
  have hg2 : W2.heap[w.heap.size]? = some (.cells #[.int .i64 0, .int .i64 0, .int .i64 0, .int .i64 0, .string ⟨#[]⟩, .bool false, .bool false] 28 (0, 0)) := by rw [hW2]; exact (heap_alloc_old w1 _ hl).trans HG.out
  have hn : W2.heap[w1.heap.size]? = some (.cells #[.int .i64 kd, .int .i64 f, .int .i64 to, .int .i64 n, .string str, .bool l, .bool o] 28 (0, 0)) := by rw [hW2]; exact heap_alloc_new w1 _
  rw [← hW2]
  clear hW2 hB HG
  obtain ⟨⟨q0, q1, q2, q3, q4, q5, q6⟩, ⟨f0, f1, f2, f3, f4, f5, f6⟩, hl2⟩ := t_seven hg2
  obtain ⟨⟨r0, r1, r2, r3, r4, r5, r6⟩, _, _⟩ := t_seven hn
  clear hg2 hn
  go_wp2
  refine bodyPost_ret (v := .tuple #[.agg #[.int .i64 kd, .int .i64 f, .int .i64 to, .int .i64 n, .string str, .bool l, .bool o], .int .i64 er]) (by simp [results, Tryd.results11, go_sem, q0, q1, q2, q3, q4, q5, q6]) rfl ?_
  exact ⟨rfl, t_st7 hB2 (Nat.le_refl _)⟩
theorem rNext_any (s : ByteArray) (a : Int) (tail : Bool) (w : World) :
    Calls Tryd.prog 11 #[.string s, .int .i64 a, .bool tail] w fun e w' => e = ntR2 (nxT s a tail) ∧ Below w.heap.size w w' := by
  unfold nxT
  by_cases h : 65536 < s.size
  · rw [if_pos h]
    exact rn_long s a tail w h
  · rw [if_neg h]
    by_cases ha : a < 0 ∨ (s.size : Int) < a
    · rw [if_pos ha]
      exact rn_out s a tail w h ha
    · rw [if_neg ha]
      obtain ⟨k, rfl⟩ : ∃ k : Nat, a = k := ⟨a.toNat, by omega⟩
      rw [Int.toNat_natCast]
      have hk : k ≤ s.size := by omega
      exact rn_in s k (rdG s k).1 tail _ w h hk (Lib.hid (fun W => rRead_any s k tail W (by omega) hk))
end Go.Proofs.YtpcjfdijdllepaaDoor
