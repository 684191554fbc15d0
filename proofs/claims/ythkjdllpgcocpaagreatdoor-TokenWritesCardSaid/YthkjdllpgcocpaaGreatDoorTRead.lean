/-
  read of package token at this translation: the token whose first byte stands at an offset.
-/
import Derived.Test.YthkjdllpgcocpaaGreatDoorTNum
import Derived.Test.YthkjdllpgcocpaaGreatDoorTSign
namespace Go.Proofs.YthkjdllpgcocpaaGreatDoor
open Go.RowKit

def readC (s : ByteArray) (k : Nat) (tail : Bool) (c : UInt8) : RT :=
  if letB c.toNat = true then nameT s k
  else if digB c.toNat = true then numT s k
  else if (c.toNat : Int) = 39 ∨ (c.toNat : Int) = 34 then textT s k c
  else if (c.toNat : Int) = 96 ∨ ((c.toNat : Int) = 125 ∧ tail = true) then pieceT s k c
  else signT s k
def readT (s : ByteArray) (k : Nat) (tail : Bool) : RT :=
  match s.data.toList.drop k with
  | [] => ⟨0, k, 0, ⟨#[]⟩, false, 0⟩
  | c :: _ => readC s k tail c
theorem readT_at (s : ByteArray) (k : Nat) (tail : Bool) (c : UInt8) (h : k < s.size) (hc : s[k] = c) : readT s k tail = readC s k tail c := by
  unfold readT
  rw [drop_cons s k h, hc]
theorem readT_end (s : ByteArray) (k : Nat) (tail : Bool) (h : s.size ≤ k) : readT s k tail = ⟨0, k, 0, ⟨#[]⟩, false, 0⟩ := by
  unfold readT
  rw [drop_none s k h]
def LetC (c : UInt8) (b : Bool) : Prop := ∀ W, Calls Tryz.prog 67 #[.int .u8 c.toNat] W fun e w' => e = .returned (.bool b) ∧ W = w'
def DigC (c : UInt8) (b : Bool) : Prop := ∀ W, Calls Tryz.prog 69 #[.int .u8 c.toNat] W fun e w' => e = .returned (.bool b) ∧ W = w'
theorem let_c (c : UInt8) (b : Bool) (h : letB c.toNat = b) : LetC c b := fun W => by
  have h0 : (0 : Int) ≤ c.toNat := by omega
  have h1 : (c.toNat : Int) ≤ 255 := by have := c.toNat_lt; omega
  have := tokLetter_any c.toNat W h0 h1
  rw [h] at this
  exact this
theorem dig_c (c : UInt8) (b : Bool) (h : digB c.toNat = b) : DigC c b := fun W => by
  have h0 : (0 : Int) ≤ c.toNat := by omega
  have h1 : (c.toNat : Int) ≤ 255 := by have := c.toNat_lt; omega
  have := tokDigit_any c.toNat W h0 h1
  rw [h] at this
  exact this

set_option linter.unusedVariables false in
set_option maxRecDepth 100000 in
set_option maxHeartbeats 1000000 in
theorem rd_name (s : ByteArray) (k : Nat) (tail : Bool) (c : UInt8) (kd to : Int) (str : ByteArray) (w : World) (hs : s.size ≤ 4000000) (hk : k < s.size) (hc : s[k] = c) (HL : Hid (LetC c true)) (HT : Hid (∀ W, W.heap.size = w.heap.size + 1 → Below w.heap.size w W → Calls Tryz.prog 68 #[.string s, .int .i64 k] W fun e w' => e = .returned (.agg #[.int .i64 kd, .int .i64 0, .int .i64 to, .int .i64 0, .string str, .bool false, .bool false]) ∧ Below W.heap.size W w')) :
    Calls Tryz.prog 45 #[.string s, .int .i64 k, .bool tail] w fun e w' => e = rtR ⟨kd, to, 0, str, false, 0⟩ ∧ Below w.heap.size w w' := by
  have c0 : (0 : Int) ≤ c.toNat := by omega
  have c1 : (c.toNat : Int) ≤ 255 := by have := c.toNat_lt; omega
  have hne : ((k : Int) == s.size) = false := by simp; omega
  unfold rtR
  go_enter Tryz.func45, Tryz.ntmps45
  go_wp2_with fail
  refine (HL.out _).mono ?_
  rintro e w' ⟨rfl, rfl⟩
  go_wp2_with fail
  refine (HT.out _ (by simp) (t_bel1 w _)).mono ?_
  rintro e w1 ⟨rfl, hb⟩
  obtain ⟨⟨q0, q1, q2, q3, q4, q5, q6⟩, ⟨f0, f1, f2, f3, f4, f5, f6⟩, hl⟩ := t_seven (t_kept hb (by simp) (heap_alloc_new w _))
  have hB : Below w.heap.size w w1 := t_thr (t_bel1 w _) hb (by simp)
  clear hb HT HL
  go_wp2
  refine bodyPost_ret (v := .tuple #[.agg #[.int .i64 kd, .int .i64 0, .int .i64 to, .int .i64 0, .string str, .bool false, .bool false], .int .i64 0]) (by simp [results, Tryz.results45, go_sem, q0, q1, q2, q3, q4, q5, q6]) rfl ?_
  exact ⟨rfl, t_st7 hB (Nat.le_refl _)⟩

set_option linter.unusedVariables false in
set_option maxRecDepth 100000 in
set_option maxHeartbeats 1000000 in
theorem rd_num (s : ByteArray) (k : Nat) (tail : Bool) (c : UInt8) (kd to n er : Int) (str : ByteArray) (o : Bool) (w : World) (hs : s.size ≤ 4000000) (hk : k < s.size) (hc : s[k] = c) (HL : Hid (LetC c false)) (HD : Hid (DigC c true)) (HT : Hid (∀ W, W.heap.size = w.heap.size + 1 → Below w.heap.size w W → Calls Tryz.prog 70 #[.string s, .int .i64 k] W fun e w' => e = .returned (.tuple #[.agg #[.int .i64 kd, .int .i64 0, .int .i64 to, .int .i64 n, .string str, .bool false, .bool o], .int .i64 er]) ∧ Below W.heap.size W w')) :
    Calls Tryz.prog 45 #[.string s, .int .i64 k, .bool tail] w fun e w' => e = rtR ⟨kd, to, n, str, o, er⟩ ∧ Below w.heap.size w w' := by
  have c0 : (0 : Int) ≤ c.toNat := by omega
  have c1 : (c.toNat : Int) ≤ 255 := by have := c.toNat_lt; omega
  have hne : ((k : Int) == s.size) = false := by simp; omega
  unfold rtR
  go_enter Tryz.func45, Tryz.ntmps45
  go_wp2_with fail
  refine (HL.out _).mono ?_
  rintro e w' ⟨rfl, rfl⟩
  go_wp2_with fail
  refine (HD.out _).mono ?_
  rintro e w' ⟨rfl, rfl⟩
  go_wp2_with fail
  refine (HT.out _ (by simp) (t_bel1 w _)).mono ?_
  rintro e w1 ⟨rfl, hb⟩
  obtain ⟨⟨q0, q1, q2, q3, q4, q5, q6⟩, ⟨f0, f1, f2, f3, f4, f5, f6⟩, hl⟩ := t_seven (t_kept hb (by simp) (heap_alloc_new w _))
  have hB : Below w.heap.size w w1 := t_thr (t_bel1 w _) hb (by simp)
  clear hb HT HL
  go_wp2
  refine bodyPost_ret (v := .tuple #[.agg #[.int .i64 kd, .int .i64 0, .int .i64 to, .int .i64 n, .string str, .bool false, .bool o], .int .i64 er]) (by simp [results, Tryz.results45, go_sem, q0, q1, q2, q3, q4, q5, q6]) rfl ?_
  exact ⟨rfl, t_st7 hB (Nat.le_refl _)⟩

set_option linter.unusedVariables false in
set_option maxRecDepth 100000 in
set_option maxHeartbeats 1000000 in
theorem rd_text1 (s : ByteArray) (k : Nat) (tail : Bool) (c : UInt8) (kd to n er : Int) (str : ByteArray) (o : Bool) (w : World) (hs : s.size ≤ 4000000) (hk : k < s.size) (hc : s[k] = c) (HL : Hid (LetC c false)) (HD : Hid (DigC c false)) (b1 : ((c.toNat : Int) == 39) = true) (HT : Hid (∀ W, W.heap.size = w.heap.size + 1 → Below w.heap.size w W → Calls Tryz.prog 71 #[.string s, .int .i64 k] W fun e w' => e = .returned (.tuple #[.agg #[.int .i64 kd, .int .i64 0, .int .i64 to, .int .i64 n, .string str, .bool false, .bool o], .int .i64 er]) ∧ Below W.heap.size W w')) :
    Calls Tryz.prog 45 #[.string s, .int .i64 k, .bool tail] w fun e w' => e = rtR ⟨kd, to, n, str, o, er⟩ ∧ Below w.heap.size w w' := by
  have c0 : (0 : Int) ≤ c.toNat := by omega
  have c1 : (c.toNat : Int) ≤ 255 := by have := c.toNat_lt; omega
  have hne : ((k : Int) == s.size) = false := by simp; omega
  unfold rtR
  go_enter Tryz.func45, Tryz.ntmps45
  go_wp2_with fail
  refine (HL.out _).mono ?_
  rintro e w' ⟨rfl, rfl⟩
  go_wp2_with fail
  refine (HD.out _).mono ?_
  rintro e w' ⟨rfl, rfl⟩
  go_wp2_with fail
  refine (HT.out _ (by simp) (t_bel1 w _)).mono ?_
  rintro e w1 ⟨rfl, hb⟩
  obtain ⟨⟨q0, q1, q2, q3, q4, q5, q6⟩, ⟨f0, f1, f2, f3, f4, f5, f6⟩, hl⟩ := t_seven (t_kept hb (by simp) (heap_alloc_new w _))
  have hB : Below w.heap.size w w1 := t_thr (t_bel1 w _) hb (by simp)
  clear hb HT HL
  go_wp2
  refine bodyPost_ret (v := .tuple #[.agg #[.int .i64 kd, .int .i64 0, .int .i64 to, .int .i64 n, .string str, .bool false, .bool o], .int .i64 er]) (by simp [results, Tryz.results45, go_sem, q0, q1, q2, q3, q4, q5, q6]) rfl ?_
  exact ⟨rfl, t_st7 hB (Nat.le_refl _)⟩

set_option linter.unusedVariables false in
set_option maxRecDepth 100000 in
set_option maxHeartbeats 1000000 in
theorem rd_text2 (s : ByteArray) (k : Nat) (tail : Bool) (c : UInt8) (kd to n er : Int) (str : ByteArray) (o : Bool) (w : World) (hs : s.size ≤ 4000000) (hk : k < s.size) (hc : s[k] = c) (HL : Hid (LetC c false)) (HD : Hid (DigC c false)) (b1 : ((c.toNat : Int) == 39) = false) (b2 : ((c.toNat : Int) == 34) = true) (HT : Hid (∀ W, W.heap.size = w.heap.size + 1 → Below w.heap.size w W → Calls Tryz.prog 71 #[.string s, .int .i64 k] W fun e w' => e = .returned (.tuple #[.agg #[.int .i64 kd, .int .i64 0, .int .i64 to, .int .i64 n, .string str, .bool false, .bool o], .int .i64 er]) ∧ Below W.heap.size W w')) :
    Calls Tryz.prog 45 #[.string s, .int .i64 k, .bool tail] w fun e w' => e = rtR ⟨kd, to, n, str, o, er⟩ ∧ Below w.heap.size w w' := by
  have c0 : (0 : Int) ≤ c.toNat := by omega
  have c1 : (c.toNat : Int) ≤ 255 := by have := c.toNat_lt; omega
  have hne : ((k : Int) == s.size) = false := by simp; omega
  unfold rtR
  go_enter Tryz.func45, Tryz.ntmps45
  go_wp2_with fail
  refine (HL.out _).mono ?_
  rintro e w' ⟨rfl, rfl⟩
  go_wp2_with fail
  refine (HD.out _).mono ?_
  rintro e w' ⟨rfl, rfl⟩
  go_wp2_with fail
  refine (HT.out _ (by simp) (t_bel1 w _)).mono ?_
  rintro e w1 ⟨rfl, hb⟩
  obtain ⟨⟨q0, q1, q2, q3, q4, q5, q6⟩, ⟨f0, f1, f2, f3, f4, f5, f6⟩, hl⟩ := t_seven (t_kept hb (by simp) (heap_alloc_new w _))
  have hB : Below w.heap.size w w1 := t_thr (t_bel1 w _) hb (by simp)
  clear hb HT HL
  go_wp2
  refine bodyPost_ret (v := .tuple #[.agg #[.int .i64 kd, .int .i64 0, .int .i64 to, .int .i64 n, .string str, .bool false, .bool o], .int .i64 er]) (by simp [results, Tryz.results45, go_sem, q0, q1, q2, q3, q4, q5, q6]) rfl ?_
  exact ⟨rfl, t_st7 hB (Nat.le_refl _)⟩

set_option linter.unusedVariables false in
set_option maxRecDepth 100000 in
set_option maxHeartbeats 1000000 in
theorem rd_piece1 (s : ByteArray) (k : Nat) (tail : Bool) (c : UInt8) (kd to n er : Int) (str : ByteArray) (o : Bool) (w : World) (hs : s.size ≤ 4000000) (hk : k < s.size) (hc : s[k] = c) (HL : Hid (LetC c false)) (HD : Hid (DigC c false)) (b1 : ((c.toNat : Int) == 39) = false) (b2 : ((c.toNat : Int) == 34) = false) (b3 : ((c.toNat : Int) == 96) = true) (HT : Hid (∀ W, W.heap.size = w.heap.size + 1 → Below w.heap.size w W → Calls Tryz.prog 72 #[.string s, .int .i64 k] W fun e w' => e = .returned (.tuple #[.agg #[.int .i64 kd, .int .i64 0, .int .i64 to, .int .i64 n, .string str, .bool false, .bool o], .int .i64 er]) ∧ Below W.heap.size W w')) :
    Calls Tryz.prog 45 #[.string s, .int .i64 k, .bool tail] w fun e w' => e = rtR ⟨kd, to, n, str, o, er⟩ ∧ Below w.heap.size w w' := by
  have c0 : (0 : Int) ≤ c.toNat := by omega
  have c1 : (c.toNat : Int) ≤ 255 := by have := c.toNat_lt; omega
  have hne : ((k : Int) == s.size) = false := by simp; omega
  unfold rtR
  go_enter Tryz.func45, Tryz.ntmps45
  go_wp2_with fail
  refine (HL.out _).mono ?_
  rintro e w' ⟨rfl, rfl⟩
  go_wp2_with fail
  refine (HD.out _).mono ?_
  rintro e w' ⟨rfl, rfl⟩
  go_wp2_with fail
  refine (HT.out _ (by simp) (t_bel1 w _)).mono ?_
  rintro e w1 ⟨rfl, hb⟩
  obtain ⟨⟨q0, q1, q2, q3, q4, q5, q6⟩, ⟨f0, f1, f2, f3, f4, f5, f6⟩, hl⟩ := t_seven (t_kept hb (by simp) (heap_alloc_new w _))
  have hB : Below w.heap.size w w1 := t_thr (t_bel1 w _) hb (by simp)
  clear hb HT HL
  go_wp2
  refine bodyPost_ret (v := .tuple #[.agg #[.int .i64 kd, .int .i64 0, .int .i64 to, .int .i64 n, .string str, .bool false, .bool o], .int .i64 er]) (by simp [results, Tryz.results45, go_sem, q0, q1, q2, q3, q4, q5, q6]) rfl ?_
  exact ⟨rfl, t_st7 hB (Nat.le_refl _)⟩

set_option linter.unusedVariables false in
set_option maxRecDepth 100000 in
set_option maxHeartbeats 1000000 in
theorem rd_piece2 (s : ByteArray) (k : Nat) (c : UInt8) (kd to n er : Int) (str : ByteArray) (o : Bool) (w : World) (hs : s.size ≤ 4000000) (hk : k < s.size) (hc : s[k] = c) (HL : Hid (LetC c false)) (HD : Hid (DigC c false)) (b1 : ((c.toNat : Int) == 39) = false) (b2 : ((c.toNat : Int) == 34) = false) (b3 : ((c.toNat : Int) == 96) = false) (b4 : ((c.toNat : Int) == 125) = true) (HT : Hid (∀ W, W.heap.size = w.heap.size + 1 → Below w.heap.size w W → Calls Tryz.prog 72 #[.string s, .int .i64 k] W fun e w' => e = .returned (.tuple #[.agg #[.int .i64 kd, .int .i64 0, .int .i64 to, .int .i64 n, .string str, .bool false, .bool o], .int .i64 er]) ∧ Below W.heap.size W w')) :
    Calls Tryz.prog 45 #[.string s, .int .i64 k, .bool true] w fun e w' => e = rtR ⟨kd, to, n, str, o, er⟩ ∧ Below w.heap.size w w' := by
  have c0 : (0 : Int) ≤ c.toNat := by omega
  have c1 : (c.toNat : Int) ≤ 255 := by have := c.toNat_lt; omega
  have hne : ((k : Int) == s.size) = false := by simp; omega
  unfold rtR
  go_enter Tryz.func45, Tryz.ntmps45
  go_wp2_with fail
  refine (HL.out _).mono ?_
  rintro e w' ⟨rfl, rfl⟩
  go_wp2_with fail
  refine (HD.out _).mono ?_
  rintro e w' ⟨rfl, rfl⟩
  go_wp2_with fail
  refine (HT.out _ (by simp) (t_bel1 w _)).mono ?_
  rintro e w1 ⟨rfl, hb⟩
  obtain ⟨⟨q0, q1, q2, q3, q4, q5, q6⟩, ⟨f0, f1, f2, f3, f4, f5, f6⟩, hl⟩ := t_seven (t_kept hb (by simp) (heap_alloc_new w _))
  have hB : Below w.heap.size w w1 := t_thr (t_bel1 w _) hb (by simp)
  clear hb HT HL
  go_wp2
  refine bodyPost_ret (v := .tuple #[.agg #[.int .i64 kd, .int .i64 0, .int .i64 to, .int .i64 n, .string str, .bool false, .bool o], .int .i64 er]) (by simp [results, Tryz.results45, go_sem, q0, q1, q2, q3, q4, q5, q6]) rfl ?_
  exact ⟨rfl, t_st7 hB (Nat.le_refl _)⟩

set_option linter.unusedVariables false in
set_option maxRecDepth 100000 in
set_option maxHeartbeats 1000000 in
theorem rd_sign1 (s : ByteArray) (k : Nat) (tail : Bool) (c : UInt8) (kd to n er : Int) (str : ByteArray) (o : Bool) (w : World) (hs : s.size ≤ 4000000) (hk : k < s.size) (hc : s[k] = c) (HL : Hid (LetC c false)) (HD : Hid (DigC c false)) (b1 : ((c.toNat : Int) == 39) = false) (b2 : ((c.toNat : Int) == 34) = false) (b3 : ((c.toNat : Int) == 96) = false) (b4 : ((c.toNat : Int) == 125) = false) (HT : Hid (∀ W, W.heap.size = w.heap.size + 1 → Below w.heap.size w W → Calls Tryz.prog 73 #[.string s, .int .i64 k] W fun e w' => e = .returned (.tuple #[.agg #[.int .i64 kd, .int .i64 0, .int .i64 to, .int .i64 n, .string str, .bool false, .bool o], .int .i64 er]) ∧ Below W.heap.size W w')) :
    Calls Tryz.prog 45 #[.string s, .int .i64 k, .bool tail] w fun e w' => e = rtR ⟨kd, to, n, str, o, er⟩ ∧ Below w.heap.size w w' := by
  have c0 : (0 : Int) ≤ c.toNat := by omega
  have c1 : (c.toNat : Int) ≤ 255 := by have := c.toNat_lt; omega
  have hne : ((k : Int) == s.size) = false := by simp; omega
  unfold rtR
  go_enter Tryz.func45, Tryz.ntmps45
  go_wp2_with fail
  refine (HL.out _).mono ?_
  rintro e w' ⟨rfl, rfl⟩
  go_wp2_with fail
  refine (HD.out _).mono ?_
  rintro e w' ⟨rfl, rfl⟩
  go_wp2_with fail
  refine (HT.out _ (by simp) (t_bel1 w _)).mono ?_
  rintro e w1 ⟨rfl, hb⟩
  obtain ⟨⟨q0, q1, q2, q3, q4, q5, q6⟩, ⟨f0, f1, f2, f3, f4, f5, f6⟩, hl⟩ := t_seven (t_kept hb (by simp) (heap_alloc_new w _))
  have hB : Below w.heap.size w w1 := t_thr (t_bel1 w _) hb (by simp)
  clear hb HT HL
  go_wp2
  refine bodyPost_ret (v := .tuple #[.agg #[.int .i64 kd, .int .i64 0, .int .i64 to, .int .i64 n, .string str, .bool false, .bool o], .int .i64 er]) (by simp [results, Tryz.results45, go_sem, q0, q1, q2, q3, q4, q5, q6]) rfl ?_
  exact ⟨rfl, t_st7 hB (Nat.le_refl _)⟩

set_option linter.unusedVariables false in
set_option maxRecDepth 100000 in
set_option maxHeartbeats 1000000 in
theorem rd_sign2 (s : ByteArray) (k : Nat) (c : UInt8) (kd to n er : Int) (str : ByteArray) (o : Bool) (w : World) (hs : s.size ≤ 4000000) (hk : k < s.size) (hc : s[k] = c) (HL : Hid (LetC c false)) (HD : Hid (DigC c false)) (b1 : ((c.toNat : Int) == 39) = false) (b2 : ((c.toNat : Int) == 34) = false) (b3 : ((c.toNat : Int) == 96) = false) (b4 : ((c.toNat : Int) == 125) = true) (HT : Hid (∀ W, W.heap.size = w.heap.size + 1 → Below w.heap.size w W → Calls Tryz.prog 73 #[.string s, .int .i64 k] W fun e w' => e = .returned (.tuple #[.agg #[.int .i64 kd, .int .i64 0, .int .i64 to, .int .i64 n, .string str, .bool false, .bool o], .int .i64 er]) ∧ Below W.heap.size W w')) :
    Calls Tryz.prog 45 #[.string s, .int .i64 k, .bool false] w fun e w' => e = rtR ⟨kd, to, n, str, o, er⟩ ∧ Below w.heap.size w w' := by
  have c0 : (0 : Int) ≤ c.toNat := by omega
  have c1 : (c.toNat : Int) ≤ 255 := by have := c.toNat_lt; omega
  have hne : ((k : Int) == s.size) = false := by simp; omega
  unfold rtR
  go_enter Tryz.func45, Tryz.ntmps45
  go_wp2_with fail
  refine (HL.out _).mono ?_
  rintro e w' ⟨rfl, rfl⟩
  go_wp2_with fail
  refine (HD.out _).mono ?_
  rintro e w' ⟨rfl, rfl⟩
  go_wp2_with fail
  refine (HT.out _ (by simp) (t_bel1 w _)).mono ?_
  rintro e w1 ⟨rfl, hb⟩
  obtain ⟨⟨q0, q1, q2, q3, q4, q5, q6⟩, ⟨f0, f1, f2, f3, f4, f5, f6⟩, hl⟩ := t_seven (t_kept hb (by simp) (heap_alloc_new w _))
  have hB : Below w.heap.size w w1 := t_thr (t_bel1 w _) hb (by simp)
  clear hb HT HL
  go_wp2
  refine bodyPost_ret (v := .tuple #[.agg #[.int .i64 kd, .int .i64 0, .int .i64 to, .int .i64 n, .string str, .bool false, .bool o], .int .i64 er]) (by simp [results, Tryz.results45, go_sem, q0, q1, q2, q3, q4, q5, q6]) rfl ?_
  exact ⟨rfl, t_st7 hB (Nat.le_refl _)⟩

set_option maxRecDepth 100000 in
set_option maxHeartbeats 1000000 in
theorem rd_end0 (s : ByteArray) (tail : Bool) (w : World) :
    Calls Tryz.prog 45 #[.string s, .int .i64 s.size, .bool tail] w fun e w' => e = rtR ⟨0, s.size, 0, ⟨#[]⟩, false, 0⟩ ∧ Below w.heap.size w w' := by
  unfold rtR
  go_enter Tryz.func45, Tryz.ntmps45
  go_wp2
  go_returns
  exact ⟨rfl, by go_grown⟩
theorem beq_yes {a b : Int} (h : a = b) : (a == b) = true := by simpa using h
theorem beq_not {a b : Int} (h : ¬ a = b) : (a == b) = false := by simpa using h

theorem tokRead_any (s : ByteArray) (k : Nat) (tail : Bool) (w : World) (hs : s.size ≤ 4000000) (hk : k ≤ s.size) (ht : SgnT w) :
    Calls Tryz.prog 45 #[.string s, .int .i64 k, .bool tail] w fun e w' => e = rtR (readT s k tail) ∧ Below w.heap.size w w' := by
  by_cases hks : k < s.size
  · rw [readT_at s k tail _ hks rfl]
    generalize hc : s[k] = c
    unfold readC
    cases hl : letB c.toNat with
    | true =>
      rw [if_pos rfl]
      exact rd_name s k tail c _ _ _ w hs hks hc (Lib.hid (let_c c _ hl)) (Lib.hid (fun W _ _ => tokName_any s k c W hs hks hc hl))
    | false =>
      rw [if_neg (by simp)]
      cases hd : digB c.toNat with
      | true =>
        rw [if_pos rfl]
        exact rd_num s k tail c _ _ _ _ _ _ w hs hks hc (Lib.hid (let_c c _ hl)) (Lib.hid (dig_c c _ hd)) (Lib.hid (fun W _ _ => tokNumber_any s k W hs hks))
      | false =>
        rw [if_neg (by simp)]
        by_cases h1 : (c.toNat : Int) = 39
        · rw [if_pos (.inl h1)]
          exact rd_text1 s k tail c _ _ _ _ _ _ w hs hks hc (Lib.hid (let_c c _ hl)) (Lib.hid (dig_c c _ hd)) (beq_yes h1) (Lib.hid (fun W _ _ => tokText_any s k c W hs hks hc (.inl h1)))
        · by_cases h2 : (c.toNat : Int) = 34
          · rw [if_pos (.inr h2)]
            exact rd_text2 s k tail c _ _ _ _ _ _ w hs hks hc (Lib.hid (let_c c _ hl)) (Lib.hid (dig_c c _ hd)) (beq_not h1) (beq_yes h2) (Lib.hid (fun W _ _ => tokText_any s k c W hs hks hc (.inr h2)))
          · rw [if_neg (by rintro (h | h); exact h1 h; exact h2 h)]
            by_cases h3 : (c.toNat : Int) = 96
            · rw [if_pos (.inl h3)]
              exact rd_piece1 s k tail c _ _ _ _ _ _ w hs hks hc (Lib.hid (let_c c _ hl)) (Lib.hid (dig_c c _ hd)) (beq_not h1) (beq_not h2) (beq_yes h3) (Lib.hid (fun W _ _ => tokPiece_any s k c W hs hks hc (.inl h3)))
            · by_cases h4 : (c.toNat : Int) = 125
              · cases tail with
                | true =>
                  rw [if_pos (.inr ⟨h4, rfl⟩)]
                  exact rd_piece2 s k c _ _ _ _ _ _ w hs hks hc (Lib.hid (let_c c _ hl)) (Lib.hid (dig_c c _ hd)) (beq_not h1) (beq_not h2) (beq_not h3) (beq_yes h4) (Lib.hid (fun W _ _ => tokPiece_any s k c W hs hks hc (.inr h4)))
                | false =>
                  rw [if_neg (by rintro (h | ⟨_, h⟩); exact h3 h; cases h)]
                  exact rd_sign2 s k c _ _ _ _ _ _ w hs hks hc (Lib.hid (let_c c _ hl)) (Lib.hid (dig_c c _ hd)) (beq_not h1) (beq_not h2) (beq_not h3) (beq_yes h4) (Lib.hid (fun W _ hB => tokSign_any s k W hs hks (sgnt_grown ht hB)))
              · rw [if_neg (by rintro (h | ⟨h, _⟩); exact h3 h; exact h4 h)]
                exact rd_sign1 s k tail c _ _ _ _ _ _ w hs hks hc (Lib.hid (let_c c _ hl)) (Lib.hid (dig_c c _ hd)) (beq_not h1) (beq_not h2) (beq_not h3) (beq_not h4) (Lib.hid (fun W _ hB => tokSign_any s k W hs hks (sgnt_grown ht hB)))
  · rw [readT_end s k tail (by omega)]
    obtain rfl : k = s.size := by omega
    exact rd_end0 s tail w
end Go.Proofs.YthkjdllpgcocpaaGreatDoor
