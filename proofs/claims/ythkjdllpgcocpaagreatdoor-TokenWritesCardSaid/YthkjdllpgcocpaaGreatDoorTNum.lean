/-
  number of package token at this translation.
-/
import Derived.Test.YthkjdllpgcocpaaGreatDoorTTok
import Derived.Test.YthkjdllpgcocpaaGreatDoorNRead
import Derived.Deep.Cut
namespace Go.Proofs.YthkjdllpgcocpaaGreatDoor
open Go.RowKit

/-- more than one byte, the first a 0 and the second no x -/
def strD : List UInt8 → Bool
  | c :: d :: _ => ((c.toNat : Int) == 48) && ((d.toNat : Int) != 120)
  | _ => false
def numE (s : ByteArray) (k : Nat) : Nat := k + runLen idcB (s.data.toList.drop k)
def numT (s : ByteArray) (k : Nat) : RT :=
  if strD (s.extract k (numE s k)).data.toList = true then noT 22
  else match num.rdS (s.extract k (numE s k)).data.toList with
    | some v => ⟨3, numE s k, v, ⟨#[]⟩, false, 0⟩
    | none => noT 22
def nmR (E : Nat) (b : Bool) (o : Option Int) : RT :=
  if b = true then noT 22
  else match o with
    | some v => ⟨3, E, v, ⟨#[]⟩, false, 0⟩
    | none => noT 22
theorem numT_eq (s : ByteArray) (k : Nat) : numT s k = nmR (numE s k) (strD (s.extract k (numE s k)).data.toList) (num.rdS (s.extract k (numE s k)).data.toList) := rfl
theorem str_two (D : ByteArray) (h : 1 < D.size) : strD D.data.toList = (((D[0].toNat : Int) == 48) && ((D[1].toNat : Int) != 120)) := by
  have e0 := drop_cons D 0 (by omega)
  have e1 := drop_cons D 1 h
  rw [List.drop_zero] at e0
  rw [e0, show 0 + 1 = 1 from rfl, e1]
  rfl
theorem str_one (D : ByteArray) (h : ¬ 1 < D.size) : strD D.data.toList = false := by
  have hl : D.data.toList.length ≤ 1 := by simp; omega
  match hm : D.data.toList with
  | [] => rfl
  | [_] => rfl
  | _ :: _ :: t => rw [hm] at hl; simp at hl
theorem three_n {w : World} {b : Nat} {x y z : Value} {T : TypeId} (h1 : w.heap[b]? = some (.cells #[x, y, z] T (0, 0))) :
    w.cell? ⟨b, 0, none⟩ = some x ∧ w.cell? ⟨b, 1, none⟩ = some y ∧ w.cell? ⟨b, 2, none⟩ = some z := by
  refine ⟨?_, ?_, ?_⟩ <;> simp [World.cell?, h1]

set_option linter.unusedVariables false in
set_option maxRecDepth 100000 in
set_option maxHeartbeats 1000000 in
theorem num_ones (s D : ByteArray) (k E : Nat) (w : World) (hs : s.size ≤ 4000000) (hk : k < s.size) (hE : E ≤ s.size) (hkE : k ≤ E) (hD : s.extract k E = D) (HS : Hid (∀ W, Calls Tryz.prog 62 #[.string s, .int .i64 k, .func (.func 100) #[] #[]] W fun e w' => e = .returned (.int .i64 E) ∧ W = w')) (v : Int) (HR : Hid (∀ W, Calls Tryz.prog 101 #[.string D] W fun e w' => e = .returned (.agg #[.int .i64 3, .int .i64 v, .string ⟨#[]⟩]) ∧ Below W.heap.size W w')) (h1 : ¬ 1 < D.size) :
    Calls Tryz.prog 70 #[.string s, .int .i64 k] w fun e w' => e = rtR ⟨3, E, v, ⟨#[]⟩, false, 0⟩ ∧ Below w.heap.size w w' := by
  have hle : (k : Int) ≤ E := by omega
  have hle2 : (E : Int) ≤ s.size := by omega
  unfold rtR
  go_enter Tryz.func70, Tryz.ntmps70
  go_wp2_with fail
  refine (HS.out _).mono ?_
  rintro e w' ⟨rfl, rfl⟩
  go_wp2_with fail
  refine (HR.out _).mono ?_
  rintro e w1 ⟨rfl, hb⟩
  have hg := t_kept hb (by simp) (heap_alloc_new w _)
  have hl := t_lt hg
  have hB : Below w.heap.size w w1 := t_thr (t_bel1 w _) hb (by simp)
  clear hb HR HS
  have HG := Lib.hid hg
  clear hg
  go_upto_region 7 with fail
  obtain ⟨W2, hW2⟩ : ∃ W2, W2 = w1.alloc (.cells #[.int .i64 3, .int .i64 v, .string ⟨#[]⟩] 107) := ⟨_, rfl⟩
  have hB2 : Below w.heap.size w W2 := by rw [hW2]; exact hB.alloc hB.size _
  have hg2 : W2.heap[w.heap.size]? = some (.cells #[.int .i64 0, .int .i64 0, .int .i64 0, .int .i64 0, .string ⟨#[]⟩, .bool false, .bool false] 27 (0, 0)) := by rw [hW2]; exact (heap_alloc_old w1 _ hl).trans HG.out
  have hn : W2.heap[w1.heap.size]? = some (.cells #[.int .i64 3, .int .i64 v, .string ⟨#[]⟩] 107 (0, 0)) := by rw [hW2]; exact heap_alloc_new w1 _
  rw [← hW2]
  clear hW2 hB HG
  obtain ⟨⟨q0, q1, q2, q3, q4, q5, q6⟩, ⟨f0, f1, f2, f3, f4, f5, f6⟩, hl2⟩ := t_seven hg2
  obtain ⟨r0, r1, r2⟩ := three_n hn
  clear hg2 hn
  go_wp2
  refine bodyPost_ret (v := .tuple #[.agg #[.int .i64 3, .int .i64 0, .int .i64 (E : Nat), .int .i64 v, .string ⟨#[]⟩, .bool false, .bool false], .int .i64 0]) (by simp [results, Tryz.results70, go_sem, q0, q1, q2, q3, q4, q5, q6]) rfl ?_
  exact ⟨rfl, t_st7 hB2 (Nat.le_refl _)⟩

set_option linter.unusedVariables false in
set_option maxRecDepth 100000 in
set_option maxHeartbeats 1000000 in
theorem num_onen (s D : ByteArray) (k E : Nat) (w : World) (hs : s.size ≤ 4000000) (hk : k < s.size) (hE : E ≤ s.size) (hkE : k ≤ E) (hD : s.extract k E = D) (HS : Hid (∀ W, Calls Tryz.prog 62 #[.string s, .int .i64 k, .func (.func 100) #[] #[]] W fun e w' => e = .returned (.int .i64 E) ∧ W = w')) (HR : Hid (∀ W, Calls Tryz.prog 101 #[.string D] W fun e w' => e = .returned (.agg #[.int .i64 4, .int .i64 0, .string ⟨#[]⟩]) ∧ Below W.heap.size W w')) (h1 : ¬ 1 < D.size) :
    Calls Tryz.prog 70 #[.string s, .int .i64 k] w fun e w' => e = rtR (noT 22) ∧ Below w.heap.size w w' := by
  have hle : (k : Int) ≤ E := by omega
  have hle2 : (E : Int) ≤ s.size := by omega
  unfold rtR noT
  go_enter Tryz.func70, Tryz.ntmps70
  go_wp2_with fail
  refine (HS.out _).mono ?_
  rintro e w' ⟨rfl, rfl⟩
  go_wp2_with fail
  refine (HR.out _).mono ?_
  rintro e w1 ⟨rfl, hb⟩
  have hg := t_kept hb (by simp) (heap_alloc_new w _)
  have hl := t_lt hg
  have hB : Below w.heap.size w w1 := t_thr (t_bel1 w _) hb (by simp)
  clear hb HR HS
  have HG := Lib.hid hg
  clear hg
  go_upto_region 6 with fail
  obtain ⟨W2, hW2⟩ : ∃ W2, W2 = w1.alloc (.cells #[.int .i64 4, .int .i64 0, .string ⟨#[]⟩] 107) := ⟨_, rfl⟩
  have hB2 : Below w.heap.size w W2 := by rw [hW2]; exact hB.alloc hB.size _
  have hg2 : W2.heap[w.heap.size]? = some (.cells #[.int .i64 0, .int .i64 0, .int .i64 0, .int .i64 0, .string ⟨#[]⟩, .bool false, .bool false] 27 (0, 0)) := by rw [hW2]; exact (heap_alloc_old w1 _ hl).trans HG.out
  have hn : W2.heap[w1.heap.size]? = some (.cells #[.int .i64 4, .int .i64 0, .string ⟨#[]⟩] 107 (0, 0)) := by rw [hW2]; exact heap_alloc_new w1 _
  rw [← hW2]
  clear hW2 hB HG
  obtain ⟨⟨q0, q1, q2, q3, q4, q5, q6⟩, ⟨f0, f1, f2, f3, f4, f5, f6⟩, hl2⟩ := t_seven hg2
  obtain ⟨r0, r1, r2⟩ := three_n hn
  clear hg2 hn
  go_wp2
  refine bodyPost_ret (v := .tuple #[.agg #[.int .i64 0, .int .i64 0, .int .i64 0, .int .i64 0, .string ⟨#[]⟩, .bool false, .bool false], .int .i64 22]) (by simp [results, Tryz.results70, go_sem, q0, q1, q2, q3, q4, q5, q6]) rfl ?_
  exact ⟨rfl, t_st7 hB2 (Nat.le_refl _)⟩

set_option linter.unusedVariables false in
set_option maxRecDepth 100000 in
set_option maxHeartbeats 1000000 in
theorem num_nzs (s D : ByteArray) (k E : Nat) (w : World) (hs : s.size ≤ 4000000) (hk : k < s.size) (hE : E ≤ s.size) (hkE : k ≤ E) (hD : s.extract k E = D) (HS : Hid (∀ W, Calls Tryz.prog 62 #[.string s, .int .i64 k, .func (.func 100) #[] #[]] W fun e w' => e = .returned (.int .i64 E) ∧ W = w')) (v : Int) (HR : Hid (∀ W, Calls Tryz.prog 101 #[.string D] W fun e w' => e = .returned (.agg #[.int .i64 3, .int .i64 v, .string ⟨#[]⟩]) ∧ Below W.heap.size W w')) (h1 : 1 < D.size) (c d : UInt8) (hc : D[0] = c) (hd : D[1] = d) (c0 : (0 : Int) ≤ c.toNat) (c1 : (c.toNat : Int) ≤ 255) (d0 : (0 : Int) ≤ d.toNat) (d1 : (d.toNat : Int) ≤ 255) (b0 : ((c.toNat : Int) == 48) = false) :
    Calls Tryz.prog 70 #[.string s, .int .i64 k] w fun e w' => e = rtR ⟨3, E, v, ⟨#[]⟩, false, 0⟩ ∧ Below w.heap.size w w' := by
  have hle : (k : Int) ≤ E := by omega
  have hle2 : (E : Int) ≤ s.size := by omega
  unfold rtR
  go_enter Tryz.func70, Tryz.ntmps70
  go_wp2_with fail
  refine (HS.out _).mono ?_
  rintro e w' ⟨rfl, rfl⟩
  go_wp2_with fail
  refine (HR.out _).mono ?_
  rintro e w1 ⟨rfl, hb⟩
  have hg := t_kept hb (by simp) (heap_alloc_new w _)
  have hl := t_lt hg
  have hB : Below w.heap.size w w1 := t_thr (t_bel1 w _) hb (by simp)
  clear hb HR HS
  have HG := Lib.hid hg
  clear hg
  go_upto_region 7 with fail
  obtain ⟨W2, hW2⟩ : ∃ W2, W2 = w1.alloc (.cells #[.int .i64 3, .int .i64 v, .string ⟨#[]⟩] 107) := ⟨_, rfl⟩
  have hB2 : Below w.heap.size w W2 := by rw [hW2]; exact hB.alloc hB.size _
  have hg2 : W2.heap[w.heap.size]? = some (.cells #[.int .i64 0, .int .i64 0, .int .i64 0, .int .i64 0, .string ⟨#[]⟩, .bool false, .bool false] 27 (0, 0)) := by rw [hW2]; exact (heap_alloc_old w1 _ hl).trans HG.out
  have hn : W2.heap[w1.heap.size]? = some (.cells #[.int .i64 3, .int .i64 v, .string ⟨#[]⟩] 107 (0, 0)) := by rw [hW2]; exact heap_alloc_new w1 _
  rw [← hW2]
  clear hW2 hB HG
  obtain ⟨⟨q0, q1, q2, q3, q4, q5, q6⟩, ⟨f0, f1, f2, f3, f4, f5, f6⟩, hl2⟩ := t_seven hg2
  obtain ⟨r0, r1, r2⟩ := three_n hn
  clear hg2 hn
  go_wp2
  refine bodyPost_ret (v := .tuple #[.agg #[.int .i64 3, .int .i64 0, .int .i64 (E : Nat), .int .i64 v, .string ⟨#[]⟩, .bool false, .bool false], .int .i64 0]) (by simp [results, Tryz.results70, go_sem, q0, q1, q2, q3, q4, q5, q6]) rfl ?_
  exact ⟨rfl, t_st7 hB2 (Nat.le_refl _)⟩

set_option linter.unusedVariables false in
set_option maxRecDepth 100000 in
set_option maxHeartbeats 1000000 in
theorem num_nzn (s D : ByteArray) (k E : Nat) (w : World) (hs : s.size ≤ 4000000) (hk : k < s.size) (hE : E ≤ s.size) (hkE : k ≤ E) (hD : s.extract k E = D) (HS : Hid (∀ W, Calls Tryz.prog 62 #[.string s, .int .i64 k, .func (.func 100) #[] #[]] W fun e w' => e = .returned (.int .i64 E) ∧ W = w')) (HR : Hid (∀ W, Calls Tryz.prog 101 #[.string D] W fun e w' => e = .returned (.agg #[.int .i64 4, .int .i64 0, .string ⟨#[]⟩]) ∧ Below W.heap.size W w')) (h1 : 1 < D.size) (c d : UInt8) (hc : D[0] = c) (hd : D[1] = d) (c0 : (0 : Int) ≤ c.toNat) (c1 : (c.toNat : Int) ≤ 255) (d0 : (0 : Int) ≤ d.toNat) (d1 : (d.toNat : Int) ≤ 255) (b0 : ((c.toNat : Int) == 48) = false) :
    Calls Tryz.prog 70 #[.string s, .int .i64 k] w fun e w' => e = rtR (noT 22) ∧ Below w.heap.size w w' := by
  have hle : (k : Int) ≤ E := by omega
  have hle2 : (E : Int) ≤ s.size := by omega
  unfold rtR noT
  go_enter Tryz.func70, Tryz.ntmps70
  go_wp2_with fail
  refine (HS.out _).mono ?_
  rintro e w' ⟨rfl, rfl⟩
  go_wp2_with fail
  refine (HR.out _).mono ?_
  rintro e w1 ⟨rfl, hb⟩
  have hg := t_kept hb (by simp) (heap_alloc_new w _)
  have hl := t_lt hg
  have hB : Below w.heap.size w w1 := t_thr (t_bel1 w _) hb (by simp)
  clear hb HR HS
  have HG := Lib.hid hg
  clear hg
  go_upto_region 6 with fail
  obtain ⟨W2, hW2⟩ : ∃ W2, W2 = w1.alloc (.cells #[.int .i64 4, .int .i64 0, .string ⟨#[]⟩] 107) := ⟨_, rfl⟩
  have hB2 : Below w.heap.size w W2 := by rw [hW2]; exact hB.alloc hB.size _
  have hg2 : W2.heap[w.heap.size]? = some (.cells #[.int .i64 0, .int .i64 0, .int .i64 0, .int .i64 0, .string ⟨#[]⟩, .bool false, .bool false] 27 (0, 0)) := by rw [hW2]; exact (heap_alloc_old w1 _ hl).trans HG.out
  have hn : W2.heap[w1.heap.size]? = some (.cells #[.int .i64 4, .int .i64 0, .string ⟨#[]⟩] 107 (0, 0)) := by rw [hW2]; exact heap_alloc_new w1 _
  rw [← hW2]
  clear hW2 hB HG
  obtain ⟨⟨q0, q1, q2, q3, q4, q5, q6⟩, ⟨f0, f1, f2, f3, f4, f5, f6⟩, hl2⟩ := t_seven hg2
  obtain ⟨r0, r1, r2⟩ := three_n hn
  clear hg2 hn
  go_wp2
  refine bodyPost_ret (v := .tuple #[.agg #[.int .i64 0, .int .i64 0, .int .i64 0, .int .i64 0, .string ⟨#[]⟩, .bool false, .bool false], .int .i64 22]) (by simp [results, Tryz.results70, go_sem, q0, q1, q2, q3, q4, q5, q6]) rfl ?_
  exact ⟨rfl, t_st7 hB2 (Nat.le_refl _)⟩

set_option linter.unusedVariables false in
set_option maxRecDepth 100000 in
set_option maxHeartbeats 1000000 in
theorem num_zxs (s D : ByteArray) (k E : Nat) (w : World) (hs : s.size ≤ 4000000) (hk : k < s.size) (hE : E ≤ s.size) (hkE : k ≤ E) (hD : s.extract k E = D) (HS : Hid (∀ W, Calls Tryz.prog 62 #[.string s, .int .i64 k, .func (.func 100) #[] #[]] W fun e w' => e = .returned (.int .i64 E) ∧ W = w')) (v : Int) (HR : Hid (∀ W, Calls Tryz.prog 101 #[.string D] W fun e w' => e = .returned (.agg #[.int .i64 3, .int .i64 v, .string ⟨#[]⟩]) ∧ Below W.heap.size W w')) (h1 : 1 < D.size) (c d : UInt8) (hc : D[0] = c) (hd : D[1] = d) (c0 : (0 : Int) ≤ c.toNat) (c1 : (c.toNat : Int) ≤ 255) (d0 : (0 : Int) ≤ d.toNat) (d1 : (d.toNat : Int) ≤ 255) (b0 : ((c.toNat : Int) == 48) = true) (b1 : ((d.toNat : Int) != 120) = false) :
    Calls Tryz.prog 70 #[.string s, .int .i64 k] w fun e w' => e = rtR ⟨3, E, v, ⟨#[]⟩, false, 0⟩ ∧ Below w.heap.size w w' := by
  have hle : (k : Int) ≤ E := by omega
  have hle2 : (E : Int) ≤ s.size := by omega
  unfold rtR
  go_enter Tryz.func70, Tryz.ntmps70
  go_wp2_with fail
  refine (HS.out _).mono ?_
  rintro e w' ⟨rfl, rfl⟩
  go_wp2_with fail
  refine (HR.out _).mono ?_
  rintro e w1 ⟨rfl, hb⟩
  have hg := t_kept hb (by simp) (heap_alloc_new w _)
  have hl := t_lt hg
  have hB : Below w.heap.size w w1 := t_thr (t_bel1 w _) hb (by simp)
  clear hb HR HS
  have HG := Lib.hid hg
  clear hg
  go_upto_region 7 with fail
  obtain ⟨W2, hW2⟩ : ∃ W2, W2 = w1.alloc (.cells #[.int .i64 3, .int .i64 v, .string ⟨#[]⟩] 107) := ⟨_, rfl⟩
  have hB2 : Below w.heap.size w W2 := by rw [hW2]; exact hB.alloc hB.size _
  have hg2 : W2.heap[w.heap.size]? = some (.cells #[.int .i64 0, .int .i64 0, .int .i64 0, .int .i64 0, .string ⟨#[]⟩, .bool false, .bool false] 27 (0, 0)) := by rw [hW2]; exact (heap_alloc_old w1 _ hl).trans HG.out
  have hn : W2.heap[w1.heap.size]? = some (.cells #[.int .i64 3, .int .i64 v, .string ⟨#[]⟩] 107 (0, 0)) := by rw [hW2]; exact heap_alloc_new w1 _
  rw [← hW2]
  clear hW2 hB HG
  obtain ⟨⟨q0, q1, q2, q3, q4, q5, q6⟩, ⟨f0, f1, f2, f3, f4, f5, f6⟩, hl2⟩ := t_seven hg2
  obtain ⟨r0, r1, r2⟩ := three_n hn
  clear hg2 hn
  go_wp2
  refine bodyPost_ret (v := .tuple #[.agg #[.int .i64 3, .int .i64 0, .int .i64 (E : Nat), .int .i64 v, .string ⟨#[]⟩, .bool false, .bool false], .int .i64 0]) (by simp [results, Tryz.results70, go_sem, q0, q1, q2, q3, q4, q5, q6]) rfl ?_
  exact ⟨rfl, t_st7 hB2 (Nat.le_refl _)⟩

set_option linter.unusedVariables false in
set_option maxRecDepth 100000 in
set_option maxHeartbeats 1000000 in
theorem num_zxn (s D : ByteArray) (k E : Nat) (w : World) (hs : s.size ≤ 4000000) (hk : k < s.size) (hE : E ≤ s.size) (hkE : k ≤ E) (hD : s.extract k E = D) (HS : Hid (∀ W, Calls Tryz.prog 62 #[.string s, .int .i64 k, .func (.func 100) #[] #[]] W fun e w' => e = .returned (.int .i64 E) ∧ W = w')) (HR : Hid (∀ W, Calls Tryz.prog 101 #[.string D] W fun e w' => e = .returned (.agg #[.int .i64 4, .int .i64 0, .string ⟨#[]⟩]) ∧ Below W.heap.size W w')) (h1 : 1 < D.size) (c d : UInt8) (hc : D[0] = c) (hd : D[1] = d) (c0 : (0 : Int) ≤ c.toNat) (c1 : (c.toNat : Int) ≤ 255) (d0 : (0 : Int) ≤ d.toNat) (d1 : (d.toNat : Int) ≤ 255) (b0 : ((c.toNat : Int) == 48) = true) (b1 : ((d.toNat : Int) != 120) = false) :
    Calls Tryz.prog 70 #[.string s, .int .i64 k] w fun e w' => e = rtR (noT 22) ∧ Below w.heap.size w w' := by
  have hle : (k : Int) ≤ E := by omega
  have hle2 : (E : Int) ≤ s.size := by omega
  unfold rtR noT
  go_enter Tryz.func70, Tryz.ntmps70
  go_wp2_with fail
  refine (HS.out _).mono ?_
  rintro e w' ⟨rfl, rfl⟩
  go_wp2_with fail
  refine (HR.out _).mono ?_
  rintro e w1 ⟨rfl, hb⟩
  have hg := t_kept hb (by simp) (heap_alloc_new w _)
  have hl := t_lt hg
  have hB : Below w.heap.size w w1 := t_thr (t_bel1 w _) hb (by simp)
  clear hb HR HS
  have HG := Lib.hid hg
  clear hg
  go_upto_region 6 with fail
  obtain ⟨W2, hW2⟩ : ∃ W2, W2 = w1.alloc (.cells #[.int .i64 4, .int .i64 0, .string ⟨#[]⟩] 107) := ⟨_, rfl⟩
  have hB2 : Below w.heap.size w W2 := by rw [hW2]; exact hB.alloc hB.size _
  have hg2 : W2.heap[w.heap.size]? = some (.cells #[.int .i64 0, .int .i64 0, .int .i64 0, .int .i64 0, .string ⟨#[]⟩, .bool false, .bool false] 27 (0, 0)) := by rw [hW2]; exact (heap_alloc_old w1 _ hl).trans HG.out
  have hn : W2.heap[w1.heap.size]? = some (.cells #[.int .i64 4, .int .i64 0, .string ⟨#[]⟩] 107 (0, 0)) := by rw [hW2]; exact heap_alloc_new w1 _
  rw [← hW2]
  clear hW2 hB HG
  obtain ⟨⟨q0, q1, q2, q3, q4, q5, q6⟩, ⟨f0, f1, f2, f3, f4, f5, f6⟩, hl2⟩ := t_seven hg2
  obtain ⟨r0, r1, r2⟩ := three_n hn
  clear hg2 hn
  go_wp2
  refine bodyPost_ret (v := .tuple #[.agg #[.int .i64 0, .int .i64 0, .int .i64 0, .int .i64 0, .string ⟨#[]⟩, .bool false, .bool false], .int .i64 22]) (by simp [results, Tryz.results70, go_sem, q0, q1, q2, q3, q4, q5, q6]) rfl ?_
  exact ⟨rfl, t_st7 hB2 (Nat.le_refl _)⟩

set_option linter.unusedVariables false in
set_option maxRecDepth 100000 in
set_option maxHeartbeats 1000000 in
theorem num_bads (s D : ByteArray) (k E : Nat) (w : World) (hs : s.size ≤ 4000000) (hk : k < s.size) (hE : E ≤ s.size) (hkE : k ≤ E) (hD : s.extract k E = D) (HS : Hid (∀ W, Calls Tryz.prog 62 #[.string s, .int .i64 k, .func (.func 100) #[] #[]] W fun e w' => e = .returned (.int .i64 E) ∧ W = w')) (v : Int) (HR : Hid (∀ W, Calls Tryz.prog 101 #[.string D] W fun e w' => e = .returned (.agg #[.int .i64 3, .int .i64 v, .string ⟨#[]⟩]) ∧ Below W.heap.size W w')) (h1 : 1 < D.size) (c d : UInt8) (hc : D[0] = c) (hd : D[1] = d) (c0 : (0 : Int) ≤ c.toNat) (c1 : (c.toNat : Int) ≤ 255) (d0 : (0 : Int) ≤ d.toNat) (d1 : (d.toNat : Int) ≤ 255) (b0 : ((c.toNat : Int) == 48) = true) (b1 : ((d.toNat : Int) != 120) = true) :
    Calls Tryz.prog 70 #[.string s, .int .i64 k] w fun e w' => e = rtR (noT 22) ∧ Below w.heap.size w w' := by
  have hle : (k : Int) ≤ E := by omega
  have hle2 : (E : Int) ≤ s.size := by omega
  unfold rtR noT
  go_enter Tryz.func70, Tryz.ntmps70
  go_wp2_with fail
  refine (HS.out _).mono ?_
  rintro e w' ⟨rfl, rfl⟩
  go_wp2_with fail
  refine (HR.out _).mono ?_
  rintro e w1 ⟨rfl, hb⟩
  have hg := t_kept hb (by simp) (heap_alloc_new w _)
  have hl := t_lt hg
  have hB : Below w.heap.size w w1 := t_thr (t_bel1 w _) hb (by simp)
  clear hb HR HS
  have HG := Lib.hid hg
  clear hg
  go_upto_region 6 with fail
  obtain ⟨W2, hW2⟩ : ∃ W2, W2 = w1.alloc (.cells #[.int .i64 3, .int .i64 v, .string ⟨#[]⟩] 107) := ⟨_, rfl⟩
  have hB2 : Below w.heap.size w W2 := by rw [hW2]; exact hB.alloc hB.size _
  have hg2 : W2.heap[w.heap.size]? = some (.cells #[.int .i64 0, .int .i64 0, .int .i64 0, .int .i64 0, .string ⟨#[]⟩, .bool false, .bool false] 27 (0, 0)) := by rw [hW2]; exact (heap_alloc_old w1 _ hl).trans HG.out
  have hn : W2.heap[w1.heap.size]? = some (.cells #[.int .i64 3, .int .i64 v, .string ⟨#[]⟩] 107 (0, 0)) := by rw [hW2]; exact heap_alloc_new w1 _
  rw [← hW2]
  clear hW2 hB HG
  obtain ⟨⟨q0, q1, q2, q3, q4, q5, q6⟩, ⟨f0, f1, f2, f3, f4, f5, f6⟩, hl2⟩ := t_seven hg2
  obtain ⟨r0, r1, r2⟩ := three_n hn
  clear hg2 hn
  go_wp2
  refine bodyPost_ret (v := .tuple #[.agg #[.int .i64 0, .int .i64 0, .int .i64 0, .int .i64 0, .string ⟨#[]⟩, .bool false, .bool false], .int .i64 22]) (by simp [results, Tryz.results70, go_sem, q0, q1, q2, q3, q4, q5, q6]) rfl ?_
  exact ⟨rfl, t_st7 hB2 (Nat.le_refl _)⟩

set_option linter.unusedVariables false in
set_option maxRecDepth 100000 in
set_option maxHeartbeats 1000000 in
theorem num_badn (s D : ByteArray) (k E : Nat) (w : World) (hs : s.size ≤ 4000000) (hk : k < s.size) (hE : E ≤ s.size) (hkE : k ≤ E) (hD : s.extract k E = D) (HS : Hid (∀ W, Calls Tryz.prog 62 #[.string s, .int .i64 k, .func (.func 100) #[] #[]] W fun e w' => e = .returned (.int .i64 E) ∧ W = w')) (HR : Hid (∀ W, Calls Tryz.prog 101 #[.string D] W fun e w' => e = .returned (.agg #[.int .i64 4, .int .i64 0, .string ⟨#[]⟩]) ∧ Below W.heap.size W w')) (h1 : 1 < D.size) (c d : UInt8) (hc : D[0] = c) (hd : D[1] = d) (c0 : (0 : Int) ≤ c.toNat) (c1 : (c.toNat : Int) ≤ 255) (d0 : (0 : Int) ≤ d.toNat) (d1 : (d.toNat : Int) ≤ 255) (b0 : ((c.toNat : Int) == 48) = true) (b1 : ((d.toNat : Int) != 120) = true) :
    Calls Tryz.prog 70 #[.string s, .int .i64 k] w fun e w' => e = rtR (noT 22) ∧ Below w.heap.size w w' := by
  have hle : (k : Int) ≤ E := by omega
  have hle2 : (E : Int) ≤ s.size := by omega
  unfold rtR noT
  go_enter Tryz.func70, Tryz.ntmps70
  go_wp2_with fail
  refine (HS.out _).mono ?_
  rintro e w' ⟨rfl, rfl⟩
  go_wp2_with fail
  refine (HR.out _).mono ?_
  rintro e w1 ⟨rfl, hb⟩
  have hg := t_kept hb (by simp) (heap_alloc_new w _)
  have hl := t_lt hg
  have hB : Below w.heap.size w w1 := t_thr (t_bel1 w _) hb (by simp)
  clear hb HR HS
  have HG := Lib.hid hg
  clear hg
  go_upto_region 6 with fail
  obtain ⟨W2, hW2⟩ : ∃ W2, W2 = w1.alloc (.cells #[.int .i64 4, .int .i64 0, .string ⟨#[]⟩] 107) := ⟨_, rfl⟩
  have hB2 : Below w.heap.size w W2 := by rw [hW2]; exact hB.alloc hB.size _
  have hg2 : W2.heap[w.heap.size]? = some (.cells #[.int .i64 0, .int .i64 0, .int .i64 0, .int .i64 0, .string ⟨#[]⟩, .bool false, .bool false] 27 (0, 0)) := by rw [hW2]; exact (heap_alloc_old w1 _ hl).trans HG.out
  have hn : W2.heap[w1.heap.size]? = some (.cells #[.int .i64 4, .int .i64 0, .string ⟨#[]⟩] 107 (0, 0)) := by rw [hW2]; exact heap_alloc_new w1 _
  rw [← hW2]
  clear hW2 hB HG
  obtain ⟨⟨q0, q1, q2, q3, q4, q5, q6⟩, ⟨f0, f1, f2, f3, f4, f5, f6⟩, hl2⟩ := t_seven hg2
  obtain ⟨r0, r1, r2⟩ := three_n hn
  clear hg2 hn
  go_wp2
  refine bodyPost_ret (v := .tuple #[.agg #[.int .i64 0, .int .i64 0, .int .i64 0, .int .i64 0, .string ⟨#[]⟩, .bool false, .bool false], .int .i64 22]) (by simp [results, Tryz.results70, go_sem, q0, q1, q2, q3, q4, q5, q6]) rfl ?_
  exact ⟨rfl, t_st7 hB2 (Nat.le_refl _)⟩

theorem tokNumber_any (s : ByteArray) (k : Nat) (w : World) (hs : s.size ≤ 4000000) (hk : k < s.size) :
    Calls Tryz.prog 70 #[.string s, .int .i64 k] w fun e w' => e = rtR (numT s k) ∧ Below w.heap.size w w' := by
  have HS := Lib.hid (fun W => skip_idc s k W hs (by omega))
  rw [numT_eq]
  have hEd : numE s k = k + runLen idcB (s.data.toList.drop k) := rfl
  rw [← hEd] at HS
  have hE : numE s k ≤ s.size := by
    have h1 := run_le idcB (s.data.toList.drop k)
    have h2 : (s.data.toList.drop k).length = s.size - k := by simp
    omega
  have hkE : k ≤ numE s k := by omega
  generalize numE s k = E at HS hE hkE ⊢
  obtain ⟨D, hD⟩ : ∃ D, s.extract k E = D := ⟨_, rfl⟩
  rw [hD]
  have hDs : D.size ≤ 9223372036854775807 := by rw [← hD, ByteArray.size_extract]; omega
  have HR := Lib.hid (fun W => num.read_any D W hDs)
  cases ho : num.rdS D.data.toList with
  | none =>
    rw [ho] at HR
    by_cases h1 : 1 < D.size
    · rw [str_two D h1]
      have hc0 : (0 : Int) ≤ (D[0]).toNat := by omega
      have hc1 : ((D[0]).toNat : Int) ≤ 255 := by have := (D[0]).toNat_lt; omega
      have hd0 : (0 : Int) ≤ (D[1]).toNat := by omega
      have hd1 : ((D[1]).toNat : Int) ≤ 255 := by have := (D[1]).toNat_lt; omega
      cases b0 : (((D[0]).toNat : Int) == 48) with
      | false => exact num_nzn s D k E w hs hk hE hkE hD HS HR h1 _ _ rfl rfl hc0 hc1 hd0 hd1 b0
      | true =>
        cases b1 : (((D[1]).toNat : Int) != 120) with
        | false => exact num_zxn s D k E w hs hk hE hkE hD HS HR h1 _ _ rfl rfl hc0 hc1 hd0 hd1 b0 b1
        | true => exact num_badn s D k E w hs hk hE hkE hD HS HR h1 _ _ rfl rfl hc0 hc1 hd0 hd1 b0 b1
    · rw [str_one D h1]
      exact num_onen s D k E w hs hk hE hkE hD HS HR h1
  | some v =>
    rw [ho] at HR
    by_cases h1 : 1 < D.size
    · rw [str_two D h1]
      have hc0 : (0 : Int) ≤ (D[0]).toNat := by omega
      have hc1 : ((D[0]).toNat : Int) ≤ 255 := by have := (D[0]).toNat_lt; omega
      have hd0 : (0 : Int) ≤ (D[1]).toNat := by omega
      have hd1 : ((D[1]).toNat : Int) ≤ 255 := by have := (D[1]).toNat_lt; omega
      cases b0 : (((D[0]).toNat : Int) == 48) with
      | false => exact num_nzs s D k E w hs hk hE hkE hD HS v HR h1 _ _ rfl rfl hc0 hc1 hd0 hd1 b0
      | true =>
        cases b1 : (((D[1]).toNat : Int) != 120) with
        | false => exact num_zxs s D k E w hs hk hE hkE hD HS v HR h1 _ _ rfl rfl hc0 hc1 hd0 hd1 b0 b1
        | true => exact num_bads s D k E w hs hk hE hkE hD HS v HR h1 _ _ rfl rfl hc0 hc1 hd0 hd1 b0 b1
    · rw [str_one D h1]
      exact num_ones s D k E w hs hk hE hkE hD HS v HR h1
end Go.Proofs.YthkjdllpgcocpaaGreatDoor
