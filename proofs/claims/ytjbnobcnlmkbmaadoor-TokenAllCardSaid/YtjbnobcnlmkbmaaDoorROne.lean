/-
  one of the reference at this translation: the token whose first byte stands at an offset.
-/
import Derived.Test.YtjbnobcnlmkbmaaDoorRNumDec
import Derived.Test.YtjbnobcnlmkbmaaDoorRWord
import Derived.Test.YtjbnobcnlmkbmaaDoorRPiece
import Derived.Test.YtjbnobcnlmkbmaaDoorTRead
import Derived.Deep.Cut
namespace Go.Proofs.YtjbnobcnlmkbmaaDoor
open Go.RowKit

def zeroR : Obj := .cells #[.int .i64 0, .int .i64 0, .int .i64 0, .int .i64 0, .string ⟨#[]⟩, .bool false, .bool false] 43 (0, 0)
def oneT (k : Nat) (r : RT) : Ending := .returned (.tuple #[.agg #[.int .i64 r.kind, .int .i64 (if r.err = 0 then (k : Int) else 0), .int .i64 r.to, .int .i64 r.n, .string r.s, .bool false, .bool r.o], .int .i64 r.err])
set_option maxRecDepth 100000 in
set_option maxHeartbeats 1000000 in
theorem ro_end (s : ByteArray) (tail : Bool) (w : World) :
    Calls Tryd.prog 19 #[.string s, .int .i64 s.size, .bool tail] w fun e w' => e = .returned (.tuple #[.agg #[.int .i64 0, .int .i64 s.size, .int .i64 s.size, .int .i64 0, .string ⟨#[]⟩, .bool false, .bool false], .int .i64 0]) ∧ Below w.heap.size w w' := by
  go_enter Tryd.func19, Tryd.ntmps19
  go_wp2
  go_returns
  exact ⟨rfl, by go_grown⟩
set_option linter.unusedVariables false in
set_option maxRecDepth 100000 in
set_option maxHeartbeats 1000000 in
theorem ro_num1 (s : ByteArray) (k : Nat) (tail : Bool) (c : UInt8) (n to : Int) (w : World) (hs : s.size ≤ 65536) (hk : k < s.size) (hc : s[k] = c) (HL : Hid (LetR c false)) (HD : Hid (DigR c true)) (HT : Hid (∀ W, Calls Tryd.prog 37 #[.string s, .int .i64 k] W fun e w' => e = .returned (.tuple #[.int .i64 n, .int .i64 to, .int .i64 0]) ∧ Below W.heap.size W w')) :
    Calls Tryd.prog 19 #[.string s, .int .i64 k, .bool tail] w fun e w' => e = .returned (.tuple #[.agg #[.int .i64 3, .int .i64 k, .int .i64 to, .int .i64 n, .string ⟨#[]⟩, .bool false, .bool false], .int .i64 0]) ∧ Below w.heap.size w w' := by
  have g0 : ((k : Int) == (s.size : Int)) = false := by simp; omega
  go_enter Tryd.func19, Tryd.ntmps19
  go_wp2_with (first | (go_at_call 34; refine (HL.out _).mono ?_; rintro e w' ⟨rfl, rfl⟩) | (go_at_call 35; refine (HD.out _).mono ?_; rintro e w' ⟨rfl, rfl⟩))
  refine (HT.out _).mono ?_
  rintro e w1 ⟨rfl, hb⟩
  have hg := t_kept hb (by simp) (heap_alloc_new w _)
  obtain ⟨⟨q0, q1, q2, q3, q4, q5, q6⟩, ⟨f0, f1, f2, f3, f4, f5, f6⟩, hl⟩ := t_seven hg
  have hB : Below w.heap.size w w1 := t_thr (t_bel1 w _) hb (by simp)
  clear hb HT hg
  go_wp2
  refine bodyPost_ret (v := .tuple #[.agg #[.int .i64 3, .int .i64 k, .int .i64 to, .int .i64 n, .string ⟨#[]⟩, .bool false, .bool false], .int .i64 0]) (by simp [results, Tryd.results19, go_sem, q0, q1, q2, q3, q4, q5, q6]) rfl ?_
  exact ⟨rfl, t_st7 hB (Nat.le_refl _)⟩
set_option linter.unusedVariables false in
set_option maxRecDepth 100000 in
set_option maxHeartbeats 1000000 in
theorem ro_num0 (s : ByteArray) (k : Nat) (tail : Bool) (c : UInt8) (n to er : Int) (w : World) (hs : s.size ≤ 65536) (hk : k < s.size) (hc : s[k] = c) (HL : Hid (LetR c false)) (HD : Hid (DigR c true)) (he : ¬ er = 0) (HT : Hid (∀ W, Calls Tryd.prog 37 #[.string s, .int .i64 k] W fun e w' => e = .returned (.tuple #[.int .i64 n, .int .i64 to, .int .i64 er]) ∧ Below W.heap.size W w')) :
    Calls Tryd.prog 19 #[.string s, .int .i64 k, .bool tail] w fun e w' => e = .returned (.tuple #[.agg #[.int .i64 0, .int .i64 0, .int .i64 0, .int .i64 0, .string ⟨#[]⟩, .bool false, .bool false], .int .i64 er]) ∧ Below w.heap.size w w' := by
  have g0 : ((k : Int) == (s.size : Int)) = false := by simp; omega
  have e2 : (er != 0) = true := by simpa using he
  go_enter Tryd.func19, Tryd.ntmps19
  go_wp2_with (first | (go_at_call 34; refine (HL.out _).mono ?_; rintro e w' ⟨rfl, rfl⟩) | (go_at_call 35; refine (HD.out _).mono ?_; rintro e w' ⟨rfl, rfl⟩))
  refine (HT.out _).mono ?_
  rintro e w1 ⟨rfl, hb⟩
  have hg := t_kept hb (by simp) (heap_alloc_new w _)
  obtain ⟨⟨q0, q1, q2, q3, q4, q5, q6⟩, ⟨f0, f1, f2, f3, f4, f5, f6⟩, hl⟩ := t_seven hg
  have hB : Below w.heap.size w w1 := t_thr (t_bel1 w _) hb (by simp)
  clear hb HT hg
  go_wp2
  refine bodyPost_ret (v := .tuple #[.agg #[.int .i64 0, .int .i64 0, .int .i64 0, .int .i64 0, .string ⟨#[]⟩, .bool false, .bool false], .int .i64 er]) (by simp [results, Tryd.results19, go_sem, q0, q1, q2, q3, q4, q5, q6]) rfl ?_
  exact ⟨rfl, t_st7 hB (Nat.le_refl _)⟩
set_option linter.unusedVariables false in
set_option maxRecDepth 100000 in
set_option maxHeartbeats 1000000 in
theorem ro_text1a (s : ByteArray) (k : Nat) (tail : Bool) (c : UInt8) (to : Int) (str : ByteArray) (w : World) (hs : s.size ≤ 65536) (hk : k < s.size) (hc : s[k] = c) (HL : Hid (LetR c false)) (HD : Hid (DigR c false)) (b1 : ((c.toNat : Int) == 34) = true) (HT : Hid (∀ W, Calls Tryd.prog 38 #[.string s, .int .i64 ((k : Int) + 1), .int .u8 c.toNat] W fun e w' => e = .returned (.tuple #[.string str, .int .i64 to, .int .i64 0]) ∧ Below W.heap.size W w')) :
    Calls Tryd.prog 19 #[.string s, .int .i64 k, .bool tail] w fun e w' => e = .returned (.tuple #[.agg #[.int .i64 4, .int .i64 k, .int .i64 to, .int .i64 0, .string str, .bool false, .bool false], .int .i64 0]) ∧ Below w.heap.size w w' := by
  have g0 : ((k : Int) == (s.size : Int)) = false := by simp; omega
  go_enter Tryd.func19, Tryd.ntmps19
  go_wp2_with (first | (go_at_call 34; refine (HL.out _).mono ?_; rintro e w' ⟨rfl, rfl⟩) | (go_at_call 35; refine (HD.out _).mono ?_; rintro e w' ⟨rfl, rfl⟩))
  refine (HT.out _).mono ?_
  rintro e w1 ⟨rfl, hb⟩
  have hg := t_kept hb (by simp) (heap_alloc_new w _)
  obtain ⟨⟨q0, q1, q2, q3, q4, q5, q6⟩, ⟨f0, f1, f2, f3, f4, f5, f6⟩, hl⟩ := t_seven hg
  have hB : Below w.heap.size w w1 := t_thr (t_bel1 w _) hb (by simp)
  clear hb HT hg
  go_wp2
  refine bodyPost_ret (v := .tuple #[.agg #[.int .i64 4, .int .i64 k, .int .i64 to, .int .i64 0, .string str, .bool false, .bool false], .int .i64 0]) (by simp [results, Tryd.results19, go_sem, q0, q1, q2, q3, q4, q5, q6]) rfl ?_
  exact ⟨rfl, t_st7 hB (Nat.le_refl _)⟩
set_option linter.unusedVariables false in
set_option maxRecDepth 100000 in
set_option maxHeartbeats 1000000 in
theorem ro_text0a (s : ByteArray) (k : Nat) (tail : Bool) (c : UInt8) (to er : Int) (str : ByteArray) (w : World) (hs : s.size ≤ 65536) (hk : k < s.size) (hc : s[k] = c) (HL : Hid (LetR c false)) (HD : Hid (DigR c false)) (b1 : ((c.toNat : Int) == 34) = true) (he : ¬ er = 0) (HT : Hid (∀ W, Calls Tryd.prog 38 #[.string s, .int .i64 ((k : Int) + 1), .int .u8 c.toNat] W fun e w' => e = .returned (.tuple #[.string str, .int .i64 to, .int .i64 er]) ∧ Below W.heap.size W w')) :
    Calls Tryd.prog 19 #[.string s, .int .i64 k, .bool tail] w fun e w' => e = .returned (.tuple #[.agg #[.int .i64 0, .int .i64 0, .int .i64 0, .int .i64 0, .string ⟨#[]⟩, .bool false, .bool false], .int .i64 er]) ∧ Below w.heap.size w w' := by
  have g0 : ((k : Int) == (s.size : Int)) = false := by simp; omega
  have e2 : (er != 0) = true := by simpa using he
  go_enter Tryd.func19, Tryd.ntmps19
  go_wp2_with (first | (go_at_call 34; refine (HL.out _).mono ?_; rintro e w' ⟨rfl, rfl⟩) | (go_at_call 35; refine (HD.out _).mono ?_; rintro e w' ⟨rfl, rfl⟩))
  refine (HT.out _).mono ?_
  rintro e w1 ⟨rfl, hb⟩
  have hg := t_kept hb (by simp) (heap_alloc_new w _)
  obtain ⟨⟨q0, q1, q2, q3, q4, q5, q6⟩, ⟨f0, f1, f2, f3, f4, f5, f6⟩, hl⟩ := t_seven hg
  have hB : Below w.heap.size w w1 := t_thr (t_bel1 w _) hb (by simp)
  clear hb HT hg
  go_wp2
  refine bodyPost_ret (v := .tuple #[.agg #[.int .i64 0, .int .i64 0, .int .i64 0, .int .i64 0, .string ⟨#[]⟩, .bool false, .bool false], .int .i64 er]) (by simp [results, Tryd.results19, go_sem, q0, q1, q2, q3, q4, q5, q6]) rfl ?_
  exact ⟨rfl, t_st7 hB (Nat.le_refl _)⟩
set_option linter.unusedVariables false in
set_option maxRecDepth 100000 in
set_option maxHeartbeats 1000000 in
theorem ro_text1b (s : ByteArray) (k : Nat) (tail : Bool) (c : UInt8) (to : Int) (str : ByteArray) (w : World) (hs : s.size ≤ 65536) (hk : k < s.size) (hc : s[k] = c) (HL : Hid (LetR c false)) (HD : Hid (DigR c false)) (b1 : ((c.toNat : Int) == 34) = false) (b2 : ((c.toNat : Int) == 39) = true) (HT : Hid (∀ W, Calls Tryd.prog 38 #[.string s, .int .i64 ((k : Int) + 1), .int .u8 c.toNat] W fun e w' => e = .returned (.tuple #[.string str, .int .i64 to, .int .i64 0]) ∧ Below W.heap.size W w')) :
    Calls Tryd.prog 19 #[.string s, .int .i64 k, .bool tail] w fun e w' => e = .returned (.tuple #[.agg #[.int .i64 4, .int .i64 k, .int .i64 to, .int .i64 0, .string str, .bool false, .bool false], .int .i64 0]) ∧ Below w.heap.size w w' := by
  have g0 : ((k : Int) == (s.size : Int)) = false := by simp; omega
  go_enter Tryd.func19, Tryd.ntmps19
  go_wp2_with (first | (go_at_call 34; refine (HL.out _).mono ?_; rintro e w' ⟨rfl, rfl⟩) | (go_at_call 35; refine (HD.out _).mono ?_; rintro e w' ⟨rfl, rfl⟩))
  refine (HT.out _).mono ?_
  rintro e w1 ⟨rfl, hb⟩
  have hg := t_kept hb (by simp) (heap_alloc_new w _)
  obtain ⟨⟨q0, q1, q2, q3, q4, q5, q6⟩, ⟨f0, f1, f2, f3, f4, f5, f6⟩, hl⟩ := t_seven hg
  have hB : Below w.heap.size w w1 := t_thr (t_bel1 w _) hb (by simp)
  clear hb HT hg
  go_wp2
  refine bodyPost_ret (v := .tuple #[.agg #[.int .i64 4, .int .i64 k, .int .i64 to, .int .i64 0, .string str, .bool false, .bool false], .int .i64 0]) (by simp [results, Tryd.results19, go_sem, q0, q1, q2, q3, q4, q5, q6]) rfl ?_
  exact ⟨rfl, t_st7 hB (Nat.le_refl _)⟩
set_option linter.unusedVariables false in
set_option maxRecDepth 100000 in
set_option maxHeartbeats 1000000 in
theorem ro_text0b (s : ByteArray) (k : Nat) (tail : Bool) (c : UInt8) (to er : Int) (str : ByteArray) (w : World) (hs : s.size ≤ 65536) (hk : k < s.size) (hc : s[k] = c) (HL : Hid (LetR c false)) (HD : Hid (DigR c false)) (b1 : ((c.toNat : Int) == 34) = false) (b2 : ((c.toNat : Int) == 39) = true) (he : ¬ er = 0) (HT : Hid (∀ W, Calls Tryd.prog 38 #[.string s, .int .i64 ((k : Int) + 1), .int .u8 c.toNat] W fun e w' => e = .returned (.tuple #[.string str, .int .i64 to, .int .i64 er]) ∧ Below W.heap.size W w')) :
    Calls Tryd.prog 19 #[.string s, .int .i64 k, .bool tail] w fun e w' => e = .returned (.tuple #[.agg #[.int .i64 0, .int .i64 0, .int .i64 0, .int .i64 0, .string ⟨#[]⟩, .bool false, .bool false], .int .i64 er]) ∧ Below w.heap.size w w' := by
  have g0 : ((k : Int) == (s.size : Int)) = false := by simp; omega
  have e2 : (er != 0) = true := by simpa using he
  go_enter Tryd.func19, Tryd.ntmps19
  go_wp2_with (first | (go_at_call 34; refine (HL.out _).mono ?_; rintro e w' ⟨rfl, rfl⟩) | (go_at_call 35; refine (HD.out _).mono ?_; rintro e w' ⟨rfl, rfl⟩))
  refine (HT.out _).mono ?_
  rintro e w1 ⟨rfl, hb⟩
  have hg := t_kept hb (by simp) (heap_alloc_new w _)
  obtain ⟨⟨q0, q1, q2, q3, q4, q5, q6⟩, ⟨f0, f1, f2, f3, f4, f5, f6⟩, hl⟩ := t_seven hg
  have hB : Below w.heap.size w w1 := t_thr (t_bel1 w _) hb (by simp)
  clear hb HT hg
  go_wp2
  refine bodyPost_ret (v := .tuple #[.agg #[.int .i64 0, .int .i64 0, .int .i64 0, .int .i64 0, .string ⟨#[]⟩, .bool false, .bool false], .int .i64 er]) (by simp [results, Tryd.results19, go_sem, q0, q1, q2, q3, q4, q5, q6]) rfl ?_
  exact ⟨rfl, t_st7 hB (Nat.le_refl _)⟩
set_option linter.unusedVariables false in
set_option maxRecDepth 100000 in
set_option maxHeartbeats 1000000 in
theorem ro_piece1a (s : ByteArray) (k : Nat) (tail : Bool) (c : UInt8) (to : Int) (str : ByteArray) (o : Bool) (w : World) (hs : s.size ≤ 65536) (hk : k < s.size) (hc : s[k] = c) (HL : Hid (LetR c false)) (HD : Hid (DigR c false)) (b1 : ((c.toNat : Int) == 34) = false) (b2 : ((c.toNat : Int) == 39) = false) (b3 : ((c.toNat : Int) == 96) = true) (b4 : ((c.toNat : Int) == 125) = false) (HT : Hid (∀ W, Calls Tryd.prog 39 #[.string s, .int .i64 ((k : Int) + 1)] W fun e w' => e = .returned (.tuple #[.string str, .int .i64 to, .bool o, .int .i64 0]) ∧ Below W.heap.size W w')) :
    Calls Tryd.prog 19 #[.string s, .int .i64 k, .bool tail] w fun e w' => e = .returned (.tuple #[.agg #[.int .i64 6, .int .i64 k, .int .i64 to, .int .i64 0, .string str, .bool false, .bool o], .int .i64 0]) ∧ Below w.heap.size w w' := by
  have g0 : ((k : Int) == (s.size : Int)) = false := by simp; omega
  go_enter Tryd.func19, Tryd.ntmps19
  go_wp2_with (first | (go_at_call 34; refine (HL.out _).mono ?_; rintro e w' ⟨rfl, rfl⟩) | (go_at_call 35; refine (HD.out _).mono ?_; rintro e w' ⟨rfl, rfl⟩))
  refine (HT.out _).mono ?_
  rintro e w1 ⟨rfl, hb⟩
  have hg := t_kept hb (by simp) (heap_alloc_new w _)
  obtain ⟨⟨q0, q1, q2, q3, q4, q5, q6⟩, ⟨f0, f1, f2, f3, f4, f5, f6⟩, hl⟩ := t_seven hg
  have hB : Below w.heap.size w w1 := t_thr (t_bel1 w _) hb (by simp)
  clear hb HT hg
  go_wp2
  refine bodyPost_ret (v := .tuple #[.agg #[.int .i64 6, .int .i64 k, .int .i64 to, .int .i64 0, .string str, .bool false, .bool o], .int .i64 0]) (by simp [results, Tryd.results19, go_sem, q0, q1, q2, q3, q4, q5, q6]) rfl ?_
  exact ⟨rfl, t_st7 hB (Nat.le_refl _)⟩
set_option linter.unusedVariables false in
set_option maxRecDepth 100000 in
set_option maxHeartbeats 1000000 in
theorem ro_piece0a (s : ByteArray) (k : Nat) (tail : Bool) (c : UInt8) (to er : Int) (str : ByteArray) (o : Bool) (w : World) (hs : s.size ≤ 65536) (hk : k < s.size) (hc : s[k] = c) (HL : Hid (LetR c false)) (HD : Hid (DigR c false)) (b1 : ((c.toNat : Int) == 34) = false) (b2 : ((c.toNat : Int) == 39) = false) (b3 : ((c.toNat : Int) == 96) = true) (b4 : ((c.toNat : Int) == 125) = false) (he : ¬ er = 0) (HT : Hid (∀ W, Calls Tryd.prog 39 #[.string s, .int .i64 ((k : Int) + 1)] W fun e w' => e = .returned (.tuple #[.string str, .int .i64 to, .bool o, .int .i64 er]) ∧ Below W.heap.size W w')) :
    Calls Tryd.prog 19 #[.string s, .int .i64 k, .bool tail] w fun e w' => e = .returned (.tuple #[.agg #[.int .i64 0, .int .i64 0, .int .i64 0, .int .i64 0, .string ⟨#[]⟩, .bool false, .bool false], .int .i64 er]) ∧ Below w.heap.size w w' := by
  have g0 : ((k : Int) == (s.size : Int)) = false := by simp; omega
  have e2 : (er != 0) = true := by simpa using he
  go_enter Tryd.func19, Tryd.ntmps19
  go_wp2_with (first | (go_at_call 34; refine (HL.out _).mono ?_; rintro e w' ⟨rfl, rfl⟩) | (go_at_call 35; refine (HD.out _).mono ?_; rintro e w' ⟨rfl, rfl⟩))
  refine (HT.out _).mono ?_
  rintro e w1 ⟨rfl, hb⟩
  have hg := t_kept hb (by simp) (heap_alloc_new w _)
  obtain ⟨⟨q0, q1, q2, q3, q4, q5, q6⟩, ⟨f0, f1, f2, f3, f4, f5, f6⟩, hl⟩ := t_seven hg
  have hB : Below w.heap.size w w1 := t_thr (t_bel1 w _) hb (by simp)
  clear hb HT hg
  go_wp2
  refine bodyPost_ret (v := .tuple #[.agg #[.int .i64 0, .int .i64 0, .int .i64 0, .int .i64 0, .string ⟨#[]⟩, .bool false, .bool false], .int .i64 er]) (by simp [results, Tryd.results19, go_sem, q0, q1, q2, q3, q4, q5, q6]) rfl ?_
  exact ⟨rfl, t_st7 hB (Nat.le_refl _)⟩
set_option linter.unusedVariables false in
set_option maxRecDepth 100000 in
set_option maxHeartbeats 1000000 in
theorem ro_piece1b (s : ByteArray) (k : Nat) (c : UInt8) (to : Int) (str : ByteArray) (o : Bool) (w : World) (hs : s.size ≤ 65536) (hk : k < s.size) (hc : s[k] = c) (HL : Hid (LetR c false)) (HD : Hid (DigR c false)) (b1 : ((c.toNat : Int) == 34) = false) (b2 : ((c.toNat : Int) == 39) = false) (b3 : ((c.toNat : Int) == 96) = false) (b4 : ((c.toNat : Int) == 125) = true) (HT : Hid (∀ W, Calls Tryd.prog 39 #[.string s, .int .i64 ((k : Int) + 1)] W fun e w' => e = .returned (.tuple #[.string str, .int .i64 to, .bool o, .int .i64 0]) ∧ Below W.heap.size W w')) :
    Calls Tryd.prog 19 #[.string s, .int .i64 k, .bool true] w fun e w' => e = .returned (.tuple #[.agg #[.int .i64 6, .int .i64 k, .int .i64 to, .int .i64 1, .string str, .bool false, .bool o], .int .i64 0]) ∧ Below w.heap.size w w' := by
  have g0 : ((k : Int) == (s.size : Int)) = false := by simp; omega
  go_enter Tryd.func19, Tryd.ntmps19
  go_wp2_with (first | (go_at_call 34; refine (HL.out _).mono ?_; rintro e w' ⟨rfl, rfl⟩) | (go_at_call 35; refine (HD.out _).mono ?_; rintro e w' ⟨rfl, rfl⟩))
  refine (HT.out _).mono ?_
  rintro e w1 ⟨rfl, hb⟩
  have hg := t_kept hb (by simp) (heap_alloc_new w _)
  obtain ⟨⟨q0, q1, q2, q3, q4, q5, q6⟩, ⟨f0, f1, f2, f3, f4, f5, f6⟩, hl⟩ := t_seven hg
  have hB : Below w.heap.size w w1 := t_thr (t_bel1 w _) hb (by simp)
  clear hb HT hg
  go_wp2
  refine bodyPost_ret (v := .tuple #[.agg #[.int .i64 6, .int .i64 k, .int .i64 to, .int .i64 1, .string str, .bool false, .bool o], .int .i64 0]) (by simp [results, Tryd.results19, go_sem, q0, q1, q2, q3, q4, q5, q6]) rfl ?_
  exact ⟨rfl, t_st7 hB (Nat.le_refl _)⟩
set_option linter.unusedVariables false in
set_option maxRecDepth 100000 in
set_option maxHeartbeats 1000000 in
theorem ro_piece0b (s : ByteArray) (k : Nat) (c : UInt8) (to er : Int) (str : ByteArray) (o : Bool) (w : World) (hs : s.size ≤ 65536) (hk : k < s.size) (hc : s[k] = c) (HL : Hid (LetR c false)) (HD : Hid (DigR c false)) (b1 : ((c.toNat : Int) == 34) = false) (b2 : ((c.toNat : Int) == 39) = false) (b3 : ((c.toNat : Int) == 96) = false) (b4 : ((c.toNat : Int) == 125) = true) (he : ¬ er = 0) (HT : Hid (∀ W, Calls Tryd.prog 39 #[.string s, .int .i64 ((k : Int) + 1)] W fun e w' => e = .returned (.tuple #[.string str, .int .i64 to, .bool o, .int .i64 er]) ∧ Below W.heap.size W w')) :
    Calls Tryd.prog 19 #[.string s, .int .i64 k, .bool true] w fun e w' => e = .returned (.tuple #[.agg #[.int .i64 0, .int .i64 0, .int .i64 0, .int .i64 0, .string ⟨#[]⟩, .bool false, .bool false], .int .i64 er]) ∧ Below w.heap.size w w' := by
  have g0 : ((k : Int) == (s.size : Int)) = false := by simp; omega
  have e2 : (er != 0) = true := by simpa using he
  go_enter Tryd.func19, Tryd.ntmps19
  go_wp2_with (first | (go_at_call 34; refine (HL.out _).mono ?_; rintro e w' ⟨rfl, rfl⟩) | (go_at_call 35; refine (HD.out _).mono ?_; rintro e w' ⟨rfl, rfl⟩))
  refine (HT.out _).mono ?_
  rintro e w1 ⟨rfl, hb⟩
  have hg := t_kept hb (by simp) (heap_alloc_new w _)
  obtain ⟨⟨q0, q1, q2, q3, q4, q5, q6⟩, ⟨f0, f1, f2, f3, f4, f5, f6⟩, hl⟩ := t_seven hg
  have hB : Below w.heap.size w w1 := t_thr (t_bel1 w _) hb (by simp)
  clear hb HT hg
  go_wp2
  refine bodyPost_ret (v := .tuple #[.agg #[.int .i64 0, .int .i64 0, .int .i64 0, .int .i64 0, .string ⟨#[]⟩, .bool false, .bool false], .int .i64 er]) (by simp [results, Tryd.results19, go_sem, q0, q1, q2, q3, q4, q5, q6]) rfl ?_
  exact ⟨rfl, t_st7 hB (Nat.le_refl _)⟩
set_option linter.unusedVariables false in
set_option maxRecDepth 100000 in
set_option maxHeartbeats 1000000 in
theorem ro_sign1a (s : ByteArray) (k : Nat) (c : UInt8) (str : ByteArray) (w : World) (hs : s.size ≤ 65536) (hk : k < s.size) (hss : str.size ≤ 3) (hc : s[k] = c) (HL : Hid (LetR c false)) (HD : Hid (DigR c false)) (b1 : ((c.toNat : Int) == 34) = false) (b2 : ((c.toNat : Int) == 39) = false) (b3 : ((c.toNat : Int) == 96) = false) (b4 : ((c.toNat : Int) == 125) = false) (hne : str.toList.isEmpty = false) (hne2 : (str.toList == []) = false) (HT : Hid (∀ W, Calls Tryd.prog 40 #[.string s, .int .i64 k] W fun e w' => e = .returned (.string str) ∧ Below W.heap.size W w')) :
    Calls Tryd.prog 19 #[.string s, .int .i64 k, .bool true] w fun e w' => e = .returned (.tuple #[.agg #[.int .i64 5, .int .i64 k, .int .i64 ((k : Int) + str.size), .int .i64 0, .string str, .bool false, .bool false], .int .i64 0]) ∧ Below w.heap.size w w' := by
  have g0 : ((k : Int) == (s.size : Int)) = false := by simp; omega
  go_enter Tryd.func19, Tryd.ntmps19
  go_wp2_with (first | (go_at_call 34; refine (HL.out _).mono ?_; rintro e w' ⟨rfl, rfl⟩) | (go_at_call 35; refine (HD.out _).mono ?_; rintro e w' ⟨rfl, rfl⟩))
  refine (HT.out _).mono ?_
  rintro e w1 ⟨rfl, hb⟩
  have hg := t_kept hb (by simp) (heap_alloc_new w _)
  obtain ⟨⟨q0, q1, q2, q3, q4, q5, q6⟩, ⟨f0, f1, f2, f3, f4, f5, f6⟩, hl⟩ := t_seven hg
  have hB : Below w.heap.size w w1 := t_thr (t_bel1 w _) hb (by simp)
  clear hb HT hg
  go_wp2
  refine bodyPost_ret (v := .tuple #[.agg #[.int .i64 5, .int .i64 k, .int .i64 ((k : Int) + str.size), .int .i64 0, .string str, .bool false, .bool false], .int .i64 0]) (by simp [results, Tryd.results19, go_sem, q0, q1, q2, q3, q4, q5, q6]) rfl ?_
  exact ⟨rfl, t_st7 hB (Nat.le_refl _)⟩
set_option linter.unusedVariables false in
set_option maxRecDepth 100000 in
set_option maxHeartbeats 1000000 in
theorem ro_sign0a (s : ByteArray) (k : Nat) (c : UInt8)  (w : World) (hs : s.size ≤ 65536) (hk : k < s.size) (hc : s[k] = c) (HL : Hid (LetR c false)) (HD : Hid (DigR c false)) (b1 : ((c.toNat : Int) == 34) = false) (b2 : ((c.toNat : Int) == 39) = false) (b3 : ((c.toNat : Int) == 96) = false) (b4 : ((c.toNat : Int) == 125) = false) (HT : Hid (∀ W, Calls Tryd.prog 40 #[.string s, .int .i64 k] W fun e w' => e = .returned (.string ⟨#[]⟩) ∧ Below W.heap.size W w')) :
    Calls Tryd.prog 19 #[.string s, .int .i64 k, .bool true] w fun e w' => e = .returned (.tuple #[.agg #[.int .i64 0, .int .i64 0, .int .i64 0, .int .i64 0, .string ⟨#[]⟩, .bool false, .bool false], .int .i64 20]) ∧ Below w.heap.size w w' := by
  have g0 : ((k : Int) == (s.size : Int)) = false := by simp; omega
  go_enter Tryd.func19, Tryd.ntmps19
  go_wp2_with (first | (go_at_call 34; refine (HL.out _).mono ?_; rintro e w' ⟨rfl, rfl⟩) | (go_at_call 35; refine (HD.out _).mono ?_; rintro e w' ⟨rfl, rfl⟩))
  refine (HT.out _).mono ?_
  rintro e w1 ⟨rfl, hb⟩
  have hg := t_kept hb (by simp) (heap_alloc_new w _)
  obtain ⟨⟨q0, q1, q2, q3, q4, q5, q6⟩, ⟨f0, f1, f2, f3, f4, f5, f6⟩, hl⟩ := t_seven hg
  have hB : Below w.heap.size w w1 := t_thr (t_bel1 w _) hb (by simp)
  clear hb HT hg
  go_wp2
  refine bodyPost_ret (v := .tuple #[.agg #[.int .i64 0, .int .i64 0, .int .i64 0, .int .i64 0, .string ⟨#[]⟩, .bool false, .bool false], .int .i64 20]) (by simp [results, Tryd.results19, go_sem, q0, q1, q2, q3, q4, q5, q6]) rfl ?_
  exact ⟨rfl, t_st7 hB (Nat.le_refl _)⟩
set_option linter.unusedVariables false in
set_option maxRecDepth 100000 in
set_option maxHeartbeats 1000000 in
theorem ro_sign1b (s : ByteArray) (k : Nat) (c : UInt8) (str : ByteArray) (w : World) (hs : s.size ≤ 65536) (hk : k < s.size) (hss : str.size ≤ 3) (hc : s[k] = c) (HL : Hid (LetR c false)) (HD : Hid (DigR c false)) (b1 : ((c.toNat : Int) == 34) = false) (b2 : ((c.toNat : Int) == 39) = false) (b3 : ((c.toNat : Int) == 96) = false) (hne : str.toList.isEmpty = false) (hne2 : (str.toList == []) = false) (HT : Hid (∀ W, Calls Tryd.prog 40 #[.string s, .int .i64 k] W fun e w' => e = .returned (.string str) ∧ Below W.heap.size W w')) :
    Calls Tryd.prog 19 #[.string s, .int .i64 k, .bool false] w fun e w' => e = .returned (.tuple #[.agg #[.int .i64 5, .int .i64 k, .int .i64 ((k : Int) + str.size), .int .i64 0, .string str, .bool false, .bool false], .int .i64 0]) ∧ Below w.heap.size w w' := by
  have g0 : ((k : Int) == (s.size : Int)) = false := by simp; omega
  go_enter Tryd.func19, Tryd.ntmps19
  go_wp2_with (first | (go_at_call 34; refine (HL.out _).mono ?_; rintro e w' ⟨rfl, rfl⟩) | (go_at_call 35; refine (HD.out _).mono ?_; rintro e w' ⟨rfl, rfl⟩))
  refine (HT.out _).mono ?_
  rintro e w1 ⟨rfl, hb⟩
  have hg := t_kept hb (by simp) (heap_alloc_new w _)
  obtain ⟨⟨q0, q1, q2, q3, q4, q5, q6⟩, ⟨f0, f1, f2, f3, f4, f5, f6⟩, hl⟩ := t_seven hg
  have hB : Below w.heap.size w w1 := t_thr (t_bel1 w _) hb (by simp)
  clear hb HT hg
  go_wp2
  refine bodyPost_ret (v := .tuple #[.agg #[.int .i64 5, .int .i64 k, .int .i64 ((k : Int) + str.size), .int .i64 0, .string str, .bool false, .bool false], .int .i64 0]) (by simp [results, Tryd.results19, go_sem, q0, q1, q2, q3, q4, q5, q6]) rfl ?_
  exact ⟨rfl, t_st7 hB (Nat.le_refl _)⟩
set_option linter.unusedVariables false in
set_option maxRecDepth 100000 in
set_option maxHeartbeats 1000000 in
theorem ro_sign0b (s : ByteArray) (k : Nat) (c : UInt8)  (w : World) (hs : s.size ≤ 65536) (hk : k < s.size) (hc : s[k] = c) (HL : Hid (LetR c false)) (HD : Hid (DigR c false)) (b1 : ((c.toNat : Int) == 34) = false) (b2 : ((c.toNat : Int) == 39) = false) (b3 : ((c.toNat : Int) == 96) = false) (HT : Hid (∀ W, Calls Tryd.prog 40 #[.string s, .int .i64 k] W fun e w' => e = .returned (.string ⟨#[]⟩) ∧ Below W.heap.size W w')) :
    Calls Tryd.prog 19 #[.string s, .int .i64 k, .bool false] w fun e w' => e = .returned (.tuple #[.agg #[.int .i64 0, .int .i64 0, .int .i64 0, .int .i64 0, .string ⟨#[]⟩, .bool false, .bool false], .int .i64 20]) ∧ Below w.heap.size w w' := by
  have g0 : ((k : Int) == (s.size : Int)) = false := by simp; omega
  go_enter Tryd.func19, Tryd.ntmps19
  go_wp2_with (first | (go_at_call 34; refine (HL.out _).mono ?_; rintro e w' ⟨rfl, rfl⟩) | (go_at_call 35; refine (HD.out _).mono ?_; rintro e w' ⟨rfl, rfl⟩))
  refine (HT.out _).mono ?_
  rintro e w1 ⟨rfl, hb⟩
  have hg := t_kept hb (by simp) (heap_alloc_new w _)
  obtain ⟨⟨q0, q1, q2, q3, q4, q5, q6⟩, ⟨f0, f1, f2, f3, f4, f5, f6⟩, hl⟩ := t_seven hg
  have hB : Below w.heap.size w w1 := t_thr (t_bel1 w _) hb (by simp)
  clear hb HT hg
  go_wp2
  refine bodyPost_ret (v := .tuple #[.agg #[.int .i64 0, .int .i64 0, .int .i64 0, .int .i64 0, .string ⟨#[]⟩, .bool false, .bool false], .int .i64 20]) (by simp [results, Tryd.results19, go_sem, q0, q1, q2, q3, q4, q5, q6]) rfl ?_
  exact ⟨rfl, t_st7 hB (Nat.le_refl _)⟩
end Go.Proofs.YtjbnobcnlmkbmaaDoor
