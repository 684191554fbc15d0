/-
  Read of package num at this translation.
-/
import Derived.Test.YthkjdllpgcocpaaGreatDoorNDigits
import Derived.Test.YthkjdllpgcocpaaGreatDoorNNeg
import Derived.Test.YthkjdllpgcocpaaGreatDoorShelf
import Derived.Shelf.Strings.SlTrimAscii
import Derived.Lib.Strings
namespace Go.Proofs.YthkjdllpgcocpaaGreatDoor.num
open Go.RowKit Go.Shelf

def ngO : Option Int → Option Int
  | some n => some (0 - n)
  | none => none
def rdT : List UInt8 → Option Int
  | [] => some 0
  | c :: r => if Lib.hasPrefix (c :: r) [48, 120] = true ∨ Lib.hasPrefix (c :: r) [48, 88] = true then dgS 16 ((c :: r).drop 2) else if c = 43 then dgS 10 r else if c = 45 then ngO (dgS 10 r) else dgS 10 (c :: r)
theorem rdT_cons (c : UInt8) (r : List UInt8) : rdT (c :: r) = if Lib.hasPrefix (c :: r) [48, 120] = true ∨ Lib.hasPrefix (c :: r) [48, 88] = true then dgS 16 ((c :: r).drop 2) else if c = 43 then dgS 10 r else if c = 45 then ngO (dgS 10 r) else dgS 10 (c :: r) := rfl
def rdS (l : List UInt8) : Option Int := rdT (Lib.trimS l [9, 10, 13, 32])

theorem dgR_in (base : Int) : ∀ (l : List UInt8) (m n : Int), inB m = true → dgR base l m = some n → inB n = true
  | [], m, n, hm, h => by
    rw [dg_end] at h
    cases h
    exact hm
  | b :: l, m, n, hm, h => by
    by_cases hd : dgV (b.toNat : Int) < base
    · cases hi : inB (m * base + dgV (b.toNat : Int)) with
      | true => rw [dg_in hd hi] at h; exact dgR_in base l _ n hi h
      | false => rw [dg_out hd hi] at h; cases h
    · rw [dg_far hd] at h; cases h
theorem dgS_in (base : Int) (l : List UInt8) (n : Int) (h : dgS base l = some n) : inB n = true := by
  unfold dgS at h
  split at h
  · cases h
  · exact dgR_in base l 0 n (by kernel_rfl) h
theorem emp_e : (⟨#[]⟩ : ByteArray).toList.isEmpty = true := by rw [ByteArray.toList_eq]; rfl
theorem in_neg {n : Int} (h : inB n = true) : inB (0 - n) = true := by
  have := in_yes h
  unfold inB
  simp
  omega
theorem ng_ok (o : Option Int) (h : ∀ n, o = some n → inB n = true) : rsK (whK (vK o) (vN o) ⟨#[]⟩) (0 - whN (vK o) (vN o) ⟨#[]⟩) = vK (ngO o) ∧ rsN (whK (vK o) (vN o) ⟨#[]⟩) (0 - whN (vK o) (vN o) ⟨#[]⟩) = vN (ngO o) := by
  cases o with
  | none =>
    have e : whK (vK none) (vN none) ⟨#[]⟩ = false := by simp [whK, vK]
    rw [e]
    exact ⟨rfl, rfl⟩
  | some n =>
    have hn := h n rfl
    have e : whK (vK (some n)) (vN (some n)) ⟨#[]⟩ = true := by simp [whK, vK, vN, hn]
    have e2 : whN (vK (some n)) (vN (some n)) ⟨#[]⟩ = n := by unfold whN; rw [if_pos e]; rfl
    rw [e, e2]
    have := of_in (in_neg hn)
    exact ⟨this.1, this.2⟩
theorem sub_end (t : ByteArray) (k : Nat) : (t.extract k t.size).data.toList = t.data.toList.drop k := by
  rw [Lib.extract_data, List.take_of_length_le]
  rw [List.length_drop, Array.length_toList]
  exact Nat.le_refl _
theorem sub_size (t : ByteArray) (k : Nat) : (t.extract k t.size).size ≤ t.size := by
  rw [ByteArray.size_extract]
  omega
theorem trim_le (l cs : List UInt8) : (Lib.trimS l cs).length ≤ l.length := by
  have h1 : ∀ m : List UInt8, (m.dropWhile (cs.contains ·)).length ≤ m.length := fun m => (List.dropWhile_sublist _).length_le
  unfold Lib.trimS Lib.trimLeftS Lib.trimRightS
  refine Nat.le_trans (h1 _) ?_
  rw [List.length_reverse]
  refine Nat.le_trans (h1 _) ?_
  rw [List.length_reverse]
  exact Nat.le_refl _

set_option maxHeartbeats 1000000 in
theorem trim_any (s : ByteArray) (w : World) (hs : s.size ≤ 9223372036854775807) : Calls Tryz.prog 148 #[.string s, .string ⟨#[9, 10, 13, 32]⟩] w fun e w' => e = .returned (.string ⟨(Lib.trimS s.data.toList [9, 10, 13, 32]).toArray⟩) ∧ Below w.heap.size w w' := by
  have hcon := Any.strings_Trim_laid Tryz.lays160 (by kernel_rfl) s ⟨#[9, 10, 13, 32]⟩ w hs (by decide) (ascii_of_all (by decide))
  exact hcon

set_option maxRecDepth 100000 in
set_option maxHeartbeats 1000000 in
theorem read_nil (s t : ByteArray) (w : World) (_hts : t.size ≤ 9223372036854775807) (HT : Hid (∀ W, Calls Tryz.prog 148 #[.string s, .string ⟨#[9, 10, 13, 32]⟩] W fun e w' => e = .returned (.string t) ∧ Below W.heap.size W w')) (hE : t.toList.isEmpty = true) :
    Calls Tryz.prog 101 #[.string s] w fun e w' => e = .returned (.agg #[.int .i64 3, .int .i64 0, .string ⟨#[]⟩]) ∧ Below w.heap.size w w' := by
  have O := fun W => of_any 0 W
  have i0 : inB 0 = true := by kernel_rfl
  rw [(of_in i0).1, (of_in i0).2] at O
  have HO := Lib.hid O
  clear O i0
  go_enter Tryz.func101, Tryz.ntmps101
  go_wp2_with fail
  refine (HT.out _).mono ?_
  rintro e w1 ⟨rfl, hb⟩
  have h1 : Below w.heap.size w w1 := thr (bel1 w _) hb (by simp)
  have h2 := kept hb (by simp) (heap_alloc_new w _)
  have z1 := (tri h2).2.2.2.2.2.2
  clear hb
  go_wp2_with fail
  refine (HO.out _).mono ?_
  rintro e w2 ⟨rfl, hb⟩
  have g1 : Below w.heap.size w w2 := thr h1 hb (by omega)
  obtain ⟨q0, q1, q2, f0, f1, f2, hz⟩ := tri (kept hb z1 h2)
  go_wp2
  refine bodyPost_ret (v := .agg #[.int .i64 3, .int .i64 0, .string ⟨#[]⟩]) (by simp [results, Tryz.results101, go_sem, q0, q1, q2]) rfl ?_
  exact ⟨rfl, st3 g1 (Nat.le_refl _)⟩

set_option maxRecDepth 100000 in
set_option maxHeartbeats 1000000 in
theorem read_hex (s t : ByteArray) (w : World) (hts : t.size ≤ 9223372036854775807) (HT : Hid (∀ W, Calls Tryz.prog 148 #[.string s, .string ⟨#[9, 10, 13, 32]⟩] W fun e w' => e = .returned (.string t) ∧ Below W.heap.size W w')) (h2s : 2 ≤ t.size) (hE : t.toList.isEmpty = false) (p1 : Lib.hasPrefix t.data.toList [48, 120] = true) :
    Calls Tryz.prog 101 #[.string s] w fun e w' => e = .returned (.agg #[.int .i64 (vK (dgS 16 (t.data.toList.drop 2))), .int .i64 (vN (dgS 16 (t.data.toList.drop 2))), .string ⟨#[]⟩]) ∧ Below w.heap.size w w' := by
  have O := fun W => digits16_any (t.extract 2 t.size) W (Nat.le_trans (sub_size t 2) hts)
  simp only [sub_end] at O
  obtain ⟨u, hu⟩ : ∃ u, u = vK (dgS 16 (t.data.toList.drop 2)) := ⟨_, rfl⟩
  obtain ⟨v, hv⟩ : ∃ v, v = vN (dgS 16 (t.data.toList.drop 2)) := ⟨_, rfl⟩
  simp only [← hu, ← hv] at O ⊢
  clear hu hv
  have HO := Lib.hid O
  clear O
  go_enter Tryz.func101, Tryz.ntmps101
  go_wp2_with fail
  refine (HT.out _).mono ?_
  rintro e w1 ⟨rfl, hb⟩
  have h1 : Below w.heap.size w w1 := thr (bel1 w _) hb (by simp)
  have h2 := kept hb (by simp) (heap_alloc_new w _)
  have z1 := (tri h2).2.2.2.2.2.2
  clear hb
  go_wp2_with (go_at_call 64; refine (Tryz.strings_HasPrefix _ _ _).mono ?_; rintro e w' ⟨rfl, rfl⟩)
  refine (HO.out _).mono ?_
  rintro e w2 ⟨rfl, hb⟩
  have g1 : Below w.heap.size w w2 := thr h1 hb (by omega)
  obtain ⟨q0, q1, q2, f0, f1, f2, hz⟩ := tri (kept hb z1 h2)
  go_wp2
  refine bodyPost_ret (v := .agg #[.int .i64 u, .int .i64 v, .string ⟨#[]⟩]) (by simp [results, Tryz.results101, go_sem, q0, q1, q2]) rfl ?_
  exact ⟨rfl, st3 g1 (Nat.le_refl _)⟩

set_option maxRecDepth 100000 in
set_option maxHeartbeats 1000000 in
theorem read_heX (s t : ByteArray) (w : World) (hts : t.size ≤ 9223372036854775807) (HT : Hid (∀ W, Calls Tryz.prog 148 #[.string s, .string ⟨#[9, 10, 13, 32]⟩] W fun e w' => e = .returned (.string t) ∧ Below W.heap.size W w')) (h2s : 2 ≤ t.size) (hE : t.toList.isEmpty = false) (p1 : Lib.hasPrefix t.data.toList [48, 120] = false) (p2 : Lib.hasPrefix t.data.toList [48, 88] = true) :
    Calls Tryz.prog 101 #[.string s] w fun e w' => e = .returned (.agg #[.int .i64 (vK (dgS 16 (t.data.toList.drop 2))), .int .i64 (vN (dgS 16 (t.data.toList.drop 2))), .string ⟨#[]⟩]) ∧ Below w.heap.size w w' := by
  have O := fun W => digits16_any (t.extract 2 t.size) W (Nat.le_trans (sub_size t 2) hts)
  simp only [sub_end] at O
  obtain ⟨u, hu⟩ : ∃ u, u = vK (dgS 16 (t.data.toList.drop 2)) := ⟨_, rfl⟩
  obtain ⟨v, hv⟩ : ∃ v, v = vN (dgS 16 (t.data.toList.drop 2)) := ⟨_, rfl⟩
  simp only [← hu, ← hv] at O ⊢
  clear hu hv
  have HO := Lib.hid O
  clear O
  go_enter Tryz.func101, Tryz.ntmps101
  go_wp2_with fail
  refine (HT.out _).mono ?_
  rintro e w1 ⟨rfl, hb⟩
  have h1 : Below w.heap.size w w1 := thr (bel1 w _) hb (by simp)
  have h2 := kept hb (by simp) (heap_alloc_new w _)
  have z1 := (tri h2).2.2.2.2.2.2
  clear hb
  go_wp2_with (go_at_call 64; refine (Tryz.strings_HasPrefix _ _ _).mono ?_; rintro e w' ⟨rfl, rfl⟩)
  refine (HO.out _).mono ?_
  rintro e w2 ⟨rfl, hb⟩
  have g1 : Below w.heap.size w w2 := thr h1 hb (by omega)
  obtain ⟨q0, q1, q2, f0, f1, f2, hz⟩ := tri (kept hb z1 h2)
  go_wp2
  refine bodyPost_ret (v := .agg #[.int .i64 u, .int .i64 v, .string ⟨#[]⟩]) (by simp [results, Tryz.results101, go_sem, q0, q1, q2]) rfl ?_
  exact ⟨rfl, st3 g1 (Nat.le_refl _)⟩

set_option maxRecDepth 100000 in
set_option maxHeartbeats 1000000 in
theorem read_plus (s t : ByteArray) (w : World) (hts : t.size ≤ 9223372036854775807) (HT : Hid (∀ W, Calls Tryz.prog 148 #[.string s, .string ⟨#[9, 10, 13, 32]⟩] W fun e w' => e = .returned (.string t) ∧ Below W.heap.size W w')) (hE : t.toList.isEmpty = false) (p1 : Lib.hasPrefix t.data.toList [48, 120] = false) (p2 : Lib.hasPrefix t.data.toList [48, 88] = false) (c : UInt8) (hpos : 0 < t.size) (hc : t[0]'hpos = c) (b1 : (c.toNat : Int) = 43) :
    Calls Tryz.prog 101 #[.string s] w fun e w' => e = .returned (.agg #[.int .i64 (vK (dgS 10 (t.data.toList.drop 1))), .int .i64 (vN (dgS 10 (t.data.toList.drop 1))), .string ⟨#[]⟩]) ∧ Below w.heap.size w w' := by
  have O := fun W => digits10_any (t.extract 1 t.size) W (Nat.le_trans (sub_size t 1) hts)
  simp only [sub_end] at O
  obtain ⟨u, hu⟩ : ∃ u, u = vK (dgS 10 (t.data.toList.drop 1)) := ⟨_, rfl⟩
  obtain ⟨v, hv⟩ : ∃ v, v = vN (dgS 10 (t.data.toList.drop 1)) := ⟨_, rfl⟩
  simp only [← hu, ← hv] at O ⊢
  clear hu hv
  have HO := Lib.hid O
  clear O
  go_enter Tryz.func101, Tryz.ntmps101
  go_wp2_with fail
  refine (HT.out _).mono ?_
  rintro e w1 ⟨rfl, hb⟩
  have h1 : Below w.heap.size w w1 := thr (bel1 w _) hb (by simp)
  have h2 := kept hb (by simp) (heap_alloc_new w _)
  have z1 := (tri h2).2.2.2.2.2.2
  clear hb
  go_wp2_with (go_at_call 64; refine (Tryz.strings_HasPrefix _ _ _).mono ?_; rintro e w' ⟨rfl, rfl⟩)
  refine (HO.out _).mono ?_
  rintro e w2 ⟨rfl, hb⟩
  have g1 : Below w.heap.size w w2 := thr h1 hb (by omega)
  obtain ⟨q0, q1, q2, f0, f1, f2, hz⟩ := tri (kept hb z1 h2)
  go_wp2
  refine bodyPost_ret (v := .agg #[.int .i64 u, .int .i64 v, .string ⟨#[]⟩]) (by simp [results, Tryz.results101, go_sem, q0, q1, q2]) rfl ?_
  exact ⟨rfl, st3 g1 (Nat.le_refl _)⟩

set_option maxRecDepth 100000 in
set_option maxHeartbeats 1000000 in
theorem read_plain (s t : ByteArray) (w : World) (hts : t.size ≤ 9223372036854775807) (HT : Hid (∀ W, Calls Tryz.prog 148 #[.string s, .string ⟨#[9, 10, 13, 32]⟩] W fun e w' => e = .returned (.string t) ∧ Below W.heap.size W w')) (hE : t.toList.isEmpty = false) (p1 : Lib.hasPrefix t.data.toList [48, 120] = false) (p2 : Lib.hasPrefix t.data.toList [48, 88] = false) (c : UInt8) (hpos : 0 < t.size) (hc : t[0]'hpos = c) (b1 : ¬ (c.toNat : Int) = 43) (b2 : ¬ (c.toNat : Int) = 45) :
    Calls Tryz.prog 101 #[.string s] w fun e w' => e = .returned (.agg #[.int .i64 (vK (dgS 10 t.data.toList)), .int .i64 (vN (dgS 10 t.data.toList)), .string ⟨#[]⟩]) ∧ Below w.heap.size w w' := by
  have O := fun W => digits10_any t W hts
  obtain ⟨u, hu⟩ : ∃ u, u = vK (dgS 10 t.data.toList) := ⟨_, rfl⟩
  obtain ⟨v, hv⟩ : ∃ v, v = vN (dgS 10 t.data.toList) := ⟨_, rfl⟩
  simp only [← hu, ← hv] at O ⊢
  clear hu hv
  have HO := Lib.hid O
  clear O
  go_enter Tryz.func101, Tryz.ntmps101
  go_wp2_with fail
  refine (HT.out _).mono ?_
  rintro e w1 ⟨rfl, hb⟩
  have h1 : Below w.heap.size w w1 := thr (bel1 w _) hb (by simp)
  have h2 := kept hb (by simp) (heap_alloc_new w _)
  have z1 := (tri h2).2.2.2.2.2.2
  clear hb
  go_wp2_with (go_at_call 64; refine (Tryz.strings_HasPrefix _ _ _).mono ?_; rintro e w' ⟨rfl, rfl⟩)
  refine (HO.out _).mono ?_
  rintro e w2 ⟨rfl, hb⟩
  have g1 : Below w.heap.size w w2 := thr h1 hb (by omega)
  obtain ⟨q0, q1, q2, f0, f1, f2, hz⟩ := tri (kept hb z1 h2)
  go_wp2
  refine bodyPost_ret (v := .agg #[.int .i64 u, .int .i64 v, .string ⟨#[]⟩]) (by simp [results, Tryz.results101, go_sem, q0, q1, q2]) rfl ?_
  exact ⟨rfl, st3 g1 (Nat.le_refl _)⟩

set_option maxRecDepth 100000 in
set_option maxHeartbeats 1000000 in
theorem read_minus (s t : ByteArray) (w : World) (hts : t.size ≤ 9223372036854775807) (HT : Hid (∀ W, Calls Tryz.prog 148 #[.string s, .string ⟨#[9, 10, 13, 32]⟩] W fun e w' => e = .returned (.string t) ∧ Below W.heap.size W w')) (hE : t.toList.isEmpty = false) (p1 : Lib.hasPrefix t.data.toList [48, 120] = false) (p2 : Lib.hasPrefix t.data.toList [48, 88] = false) (c : UInt8) (hpos : 0 < t.size) (hc : t[0]'hpos = c) (_b1 : ¬ (c.toNat : Int) = 43) (b2 : (c.toNat : Int) = 45) :
    Calls Tryz.prog 101 #[.string s] w fun e w' => e = .returned (.agg #[.int .i64 (vK (ngO (dgS 10 (t.data.toList.drop 1)))), .int .i64 (vN (ngO (dgS 10 (t.data.toList.drop 1)))), .string ⟨#[]⟩]) ∧ Below w.heap.size w w' := by
  have NG := ng_ok (dgS 10 (t.data.toList.drop 1)) (fun n h => dgS_in _ _ n h)
  have N := fun W => neg_any (vK (dgS 10 (t.data.toList.drop 1))) (vN (dgS 10 (t.data.toList.drop 1))) ⟨#[]⟩ W
  rw [NG.1, NG.2] at N
  clear NG
  obtain ⟨x, hx⟩ : ∃ x, x = vK (ngO (dgS 10 (t.data.toList.drop 1))) := ⟨_, rfl⟩
  obtain ⟨y, hy⟩ : ∃ y, y = vN (ngO (dgS 10 (t.data.toList.drop 1))) := ⟨_, rfl⟩
  simp only [← hx, ← hy] at N ⊢
  clear hx hy
  have O := fun W => digits10_any (t.extract 1 t.size) W (Nat.le_trans (sub_size t 1) hts)
  simp only [sub_end] at O
  obtain ⟨u, hu⟩ : ∃ u, u = vK (dgS 10 (t.data.toList.drop 1)) := ⟨_, rfl⟩
  obtain ⟨v, hv⟩ : ∃ v, v = vN (dgS 10 (t.data.toList.drop 1)) := ⟨_, rfl⟩
  simp only [← hu, ← hv] at O N
  clear hu hv
  have HD := Lib.hid O
  clear O
  have HO := Lib.hid N
  clear N
  go_enter Tryz.func101, Tryz.ntmps101
  go_wp2_with fail
  refine (HT.out _).mono ?_
  rintro e w1 ⟨rfl, hb⟩
  have h1 : Below w.heap.size w w1 := thr (bel1 w _) hb (by simp)
  have h2 := kept hb (by simp) (heap_alloc_new w _)
  have z1 := (tri h2).2.2.2.2.2.2
  clear hb
  go_wp2_with (go_at_call 64; refine (Tryz.strings_HasPrefix _ _ _).mono ?_; rintro e w' ⟨rfl, rfl⟩)
  refine (HD.out _).mono ?_
  rintro e w1' ⟨rfl, hb⟩
  have h1' : Below w.heap.size w w1' := thr h1 hb (by omega)
  have h2' := kept hb z1 h2
  have z1' := (tri h2').2.2.2.2.2.2
  clear hb h1 h2 z1
  go_wp2_with fail
  refine (HO.out _).mono ?_
  rintro e w2 ⟨rfl, hb⟩
  have g1 : Below w.heap.size w w2 := thr h1' hb (by omega)
  obtain ⟨q0, q1, q2, f0, f1, f2, hz⟩ := tri (kept hb z1' h2')
  go_wp2
  refine bodyPost_ret (v := .agg #[.int .i64 x, .int .i64 y, .string ⟨#[]⟩]) (by simp [results, Tryz.results101, go_sem, q0, q1, q2]) rfl ?_
  exact ⟨rfl, st3 g1 (Nat.le_refl _)⟩

theorem pre_len {l p : List UInt8} (h : Lib.hasPrefix l p = true) : p.length ≤ l.length := (List.isPrefixOf_iff_prefix.1 h).length_le
theorem read_any (s : ByteArray) (w : World) (hs : s.size ≤ 9223372036854775807) : Calls Tryz.prog 101 #[.string s] w fun e w' => e = .returned (.agg #[.int .i64 (vK (rdS s.data.toList)), .int .i64 (vN (rdS s.data.toList)), .string ⟨#[]⟩]) ∧ Below w.heap.size w w' := by
  have T := fun W => trim_any s W hs
  have hts : (⟨(Lib.trimS s.data.toList [9, 10, 13, 32]).toArray⟩ : ByteArray).size ≤ 9223372036854775807 := by
    have := trim_le s.data.toList [9, 10, 13, 32]
    have e : (⟨(Lib.trimS s.data.toList [9, 10, 13, 32]).toArray⟩ : ByteArray).size = (Lib.trimS s.data.toList [9, 10, 13, 32]).length := by simp [ByteArray.size]
    have e2 : s.data.toList.length = s.size := by simp
    omega
  unfold rdS
  obtain ⟨t, ht⟩ : ∃ t : ByteArray, t = ⟨(Lib.trimS s.data.toList [9, 10, 13, 32]).toArray⟩ := ⟨_, rfl⟩
  simp only [← ht] at T hts
  have htl : t.data.toList = Lib.trimS s.data.toList [9, 10, 13, 32] := by rw [ht]
  rw [← htl]
  clear ht htl
  have HT := Lib.hid T
  clear T
  have hsz : t.data.toList.length = t.size := by simp
  cases hl : t.data.toList with
  | nil => exact read_nil s t w hts HT (by rw [ByteArray.toList_eq, hl]; rfl)
  | cons c r =>
    have hE : t.toList.isEmpty = false := by rw [ByteArray.toList_eq, hl]; rfl
    have hpos : 0 < t.size := by rw [← hsz, hl]; simp
    have hc : t[0]'hpos = c := by
      have h0 : t.data.toList[0]? = some c := by rw [hl]; rfl
      have : t.data.toList[0]'(by simpa using hpos) = c := by
        rw [List.getElem?_eq_getElem (by simpa using hpos)] at h0
        exact Option.some.inj h0
      rw [← this]
      simp [ByteArray.getElem_eq_getElem_data]
    have hr : t.data.toList.drop 1 = r := by rw [hl]; rfl
    rw [rdT_cons, ← hl]
    cases p1 : Lib.hasPrefix t.data.toList [48, 120] with
    | true =>
      rw [if_pos (Or.inl rfl)]
      have h := pre_len p1
      exact read_hex s t w hts HT (by rw [← hsz]; exact h) hE p1
    | false =>
      cases p2 : Lib.hasPrefix t.data.toList [48, 88] with
      | true =>
        rw [if_pos (Or.inr rfl)]
        have h := pre_len p2
        exact read_heX s t w hts HT (by rw [← hsz]; exact h) hE p1 p2
      | false =>
        rw [if_neg (by simp), ← hr]
        by_cases h43 : c = 43
        · rw [if_pos h43]
          exact read_plus s t w hts HT hE p1 p2 c hpos hc (by rw [h43]; rfl)
        · have b1 : ¬ (c.toNat : Int) = 43 := by
            intro h
            exact h43 (UInt8.toNat_inj.1 (by simp; omega))
          rw [if_neg h43]
          by_cases h45 : c = 45
          · rw [if_pos h45]
            exact read_minus s t w hts HT hE p1 p2 c hpos hc b1 (by rw [h45]; rfl)
          · rw [if_neg h45]
            exact read_plain s t w hts HT hE p1 p2 c hpos hc b1 (by
              intro h
              exact h45 (UInt8.toNat_inj.1 (by simp; omega)))
end Go.Proofs.YthkjdllpgcocpaaGreatDoor.num
