/-
  A token's seven cells, and the tokens that package token reads by package literal, at this translation.
-/
import Derived.Test.YthkjdllpgcocpaaGreatDoorTGap
import Derived.Test.YthkjdllpgcocpaaGreatDoorName
import Derived.Test.YthkjdllpgcocpaaGreatDoorPiece
import Derived.Handy
namespace Go.Proofs.YthkjdllpgcocpaaGreatDoor
open Go.RowKit

theorem t_kept {W w1 : World} {B b : Nat} {o : Obj} (hb : Below B W w1) (hB : b < B) (hW : W.heap[b]? = some o) : w1.heap[b]? = some o := (hb.block b hB).trans hW
theorem t_lt {w : World} {b : Nat} {o : Obj} (h : w.heap[b]? = some o) : b < w.heap.size := by
  rcases Nat.lt_or_ge b w.heap.size with h' | h'
  · exact h'
  · simp [Array.getElem?_eq_none h'] at h
theorem t_thr {B : Nat} {w w1 w2 : World} (h : Below B w w1) (h2 : Below w1.heap.size w1 w2) (hB : B ≤ w1.heap.size) : Below B w w2 := h.trans (h2.mono hB)
theorem t_bel1 (w : World) (o : Obj) : Below w.heap.size w (w.alloc o) := (Below.refl _ w).alloc (Nat.le_refl _) _
theorem t_seven {w : World} {b : Nat} {x0 x1 x2 x3 x4 x5 x6 : Value} {T : TypeId} (h : w.heap[b]? = some (.cells #[x0, x1, x2, x3, x4, x5, x6] T (0, 0))) :
    (w.cell? ⟨b, 0, none⟩ = some x0 ∧ w.cell? ⟨b, 1, none⟩ = some x1 ∧ w.cell? ⟨b, 2, none⟩ = some x2 ∧ w.cell? ⟨b, 3, none⟩ = some x3 ∧ w.cell? ⟨b, 4, none⟩ = some x4 ∧ w.cell? ⟨b, 5, none⟩ = some x5 ∧ w.cell? ⟨b, 6, none⟩ = some x6) ∧
    (w.frozen? ⟨b, 0, none⟩ = false ∧ w.frozen? ⟨b, 1, none⟩ = false ∧ w.frozen? ⟨b, 2, none⟩ = false ∧ w.frozen? ⟨b, 3, none⟩ = false ∧ w.frozen? ⟨b, 4, none⟩ = false ∧ w.frozen? ⟨b, 5, none⟩ = false ∧ w.frozen? ⟨b, 6, none⟩ = false) ∧ b < w.heap.size := by
  refine ⟨⟨?_, ?_, ?_, ?_, ?_, ?_, ?_⟩, ⟨?_, ?_, ?_, ?_, ?_, ?_, ?_⟩, t_lt h⟩
  all_goals first | simp [World.cell?, h] | simp [World.frozen?, h]
theorem t_set {B b : Nat} {w w1 : World} (i : Nat) (x : Value) (h : Below B w w1) (hB : B ≤ b) : Below B w (w1.setCell ⟨b, i, none⟩ x) := h.setCell (p := ⟨b, i, none⟩) hB _
theorem t_st7 {B b : Nat} {w w1 : World} {x0 x1 x2 x3 x4 x5 x6 : Value} (h : Below B w w1) (hB : B ≤ b) : Below B w (((((((w1.setCell ⟨b, 0, none⟩ x0).setCell ⟨b, 1, none⟩ x1).setCell ⟨b, 2, none⟩ x2).setCell ⟨b, 3, none⟩ x3).setCell ⟨b, 4, none⟩ x4).setCell ⟨b, 5, none⟩ x5).setCell ⟨b, 6, none⟩ x6) :=
  t_set _ _ (t_set _ _ (t_set _ _ (t_set _ _ (t_set _ _ (t_set _ _ (t_set _ _ h hB) hB) hB) hB) hB) hB) hB

/-- a token without its At and Line, and the error's number -/
structure RT where
  kind : Int
  to : Int
  n : Int
  s : ByteArray
  o : Bool
  err : Int
def noT (e : Int) : RT := ⟨0, 0, 0, ⟨#[]⟩, false, e⟩
def rtR (r : RT) : Ending := .returned (.tuple #[.agg #[.int .i64 r.kind, .int .i64 0, .int .i64 r.to, .int .i64 r.n, .string r.s, .bool false, .bool r.o], .int .i64 r.err])
def nameE (s : ByteArray) (k : Nat) : Nat := k + 1 + idLen (s.data.toList.drop (k + 1))
def nameT (s : ByteArray) (k : Nat) : RT := ⟨if wordI (s.extract k (nameE s k)).data.toList = 1 then 2 else 1, nameE s k, 0, s.extract k (nameE s k), false, 0⟩
def textT (s : ByteArray) (k : Nat) (q : UInt8) : RT :=
  if (rdV q s.size (s.data.toList.drop (k + 1)) (k + 1) []).2.2 = 0 then ⟨4, (rdV q s.size (s.data.toList.drop (k + 1)) (k + 1) []).2.1, 0, ⟨(rdV q s.size (s.data.toList.drop (k + 1)) (k + 1) []).1.toArray⟩, false, 0⟩
  else noT (rdV q s.size (s.data.toList.drop (k + 1)) (k + 1) []).2.2
def pieceT (s : ByteArray) (k : Nat) (q : UInt8) : RT :=
  if (pcV s.size (s.data.toList.drop (k + 1)) (k + 1) []).2.2.2 = 0 then ⟨6, (pcV s.size (s.data.toList.drop (k + 1)) (k + 1) []).2.1, if (q.toNat : Int) = 125 then 1 else 0, ⟨(pcV s.size (s.data.toList.drop (k + 1)) (k + 1) []).1.toArray⟩, (pcV s.size (s.data.toList.drop (k + 1)) (k + 1) []).2.2.1, 0⟩
  else noT (pcV s.size (s.data.toList.drop (k + 1)) (k + 1) []).2.2.2

set_option maxRecDepth 100000 in
set_option maxHeartbeats 1000000 in
theorem tokName_any (s : ByteArray) (k : Nat) (x : UInt8) (w : World) (hs : s.size ≤ 4000000) (hk : k < s.size) (hx : s[k] = x) (hl : letB x.toNat = true) :
    Calls Tryz.prog 68 #[.string s, .int .i64 k] w fun e w' => e = .returned (.agg #[.int .i64 (nameT s k).kind, .int .i64 0, .int .i64 (nameT s k).to, .int .i64 0, .string (nameT s k).s, .bool false, .bool false]) ∧ Below w.heap.size w w' := by
  have HN := Lib.hid (fun W => name_in s k x W hs hk hx hl)
  unfold nameR at HN
  have hE : nameE s k = k + 1 + idLen (s.data.toList.drop (k + 1)) := rfl
  rw [← hE] at HN
  unfold nameT
  obtain ⟨E, hE⟩ : ∃ E, E = nameE s k := ⟨_, rfl⟩
  rw [← hE] at HN ⊢
  clear hE
  obtain ⟨t, ht⟩ : ∃ t, t = s.extract k E := ⟨_, rfl⟩
  rw [← ht] at HN ⊢
  have HW := Lib.hid (fun W => word_any t W)
  obtain ⟨v, hv⟩ : ∃ v, v = wordI t.data.toList := ⟨_, rfl⟩
  rw [← hv] at HW ⊢
  clear hx hl hk hs ht hv
  by_cases h1 : v = 1
  · rw [if_pos h1]
    subst h1
    go_enter Tryz.func68, Tryz.ntmps68
    go_wp2_with fail
    refine (HN.out _).mono ?_
    rintro e w' ⟨rfl, rfl⟩
    go_wp2_with fail
    refine (HW.out _).mono ?_
    rintro e w' ⟨rfl, rfl⟩
    go_wp2
    go_returns
    exact ⟨rfl, by go_grown⟩
  · rw [if_neg h1]
    have hb : (v == 1) = false := by simpa using h1
    go_enter Tryz.func68, Tryz.ntmps68
    go_wp2_with fail
    refine (HN.out _).mono ?_
    rintro e w' ⟨rfl, rfl⟩
    go_wp2_with fail
    refine (HW.out _).mono ?_
    rintro e w' ⟨rfl, rfl⟩
    go_wp2
    go_returns
    exact ⟨rfl, by go_grown⟩

set_option maxRecDepth 100000 in
set_option maxHeartbeats 1000000 in
theorem tokText_any (s : ByteArray) (k : Nat) (q : UInt8) (w : World) (hs : s.size ≤ 4000000) (hk : k < s.size) (hx : s[k] = q) (hq : (q.toNat : Int) = 39 ∨ (q.toNat : Int) = 34) :
    Calls Tryz.prog 71 #[.string s, .int .i64 k] w fun e w' => e = rtR (textT s k q) ∧ Below w.heap.size w w' := by
  have HN := Lib.hid (fun W => read_in s k q W hs hk hx hq)
  unfold rdR at HN
  unfold textT
  generalize rdV q s.size (s.data.toList.drop (k + 1)) (k + 1) [] = r at HN ⊢
  obtain ⟨l, t, e⟩ := r
  simp only at HN ⊢
  clear hx hq hk hs
  by_cases h0 : e = 0
  · rw [if_pos h0]
    subst h0
    unfold rtR
    obtain ⟨v, hv⟩ : ∃ v : ByteArray, v = ⟨l.toArray⟩ := ⟨_, rfl⟩
    rw [← hv] at HN ⊢
    clear hv
    go_enter Tryz.func71, Tryz.ntmps71
    go_wp2_with fail
    refine (HN.out _).mono ?_
    rintro e w1 ⟨rfl, hb⟩
    obtain ⟨⟨q0, q1, q2, q3, q4, q5, q6⟩, ⟨f0, f1, f2, f3, f4, f5, f6⟩, hl⟩ := t_seven (t_kept hb (by simp) (heap_alloc_new w _))
    have hB : Below w.heap.size w w1 := t_thr (t_bel1 w _) hb (by simp)
    clear hb HN
    go_wp2
    refine bodyPost_ret (v := .tuple #[.agg #[.int .i64 4, .int .i64 0, .int .i64 (t : Nat), .int .i64 0, .string v, .bool false, .bool false], .int .i64 0]) (by simp [results, Tryz.results71, go_sem, q0, q1, q2, q3, q4, q5, q6]) rfl ?_
    exact ⟨rfl, t_st7 hB (Nat.le_refl _)⟩
  · rw [if_neg h0]
    have hb0 : (e != 0) = true := by simpa using h0
    have hb1 : (e == 0) = false := by simpa using h0
    unfold rtR noT
    obtain ⟨v, hv⟩ : ∃ v : ByteArray, v = ⟨l.toArray⟩ := ⟨_, rfl⟩
    rw [← hv] at HN
    clear hv
    go_enter Tryz.func71, Tryz.ntmps71
    go_wp2_with fail
    refine (HN.out _).mono ?_
    rintro e' w1 ⟨rfl, hb⟩
    obtain ⟨⟨q0, q1, q2, q3, q4, q5, q6⟩, ⟨f0, f1, f2, f3, f4, f5, f6⟩, hl⟩ := t_seven (t_kept hb (by simp) (heap_alloc_new w _))
    have hB : Below w.heap.size w w1 := t_thr (t_bel1 w _) hb (by simp)
    clear hb HN
    go_wp2
    refine bodyPost_ret (v := .tuple #[.agg #[.int .i64 0, .int .i64 0, .int .i64 0, .int .i64 0, .string ⟨#[]⟩, .bool false, .bool false], .int .i64 e]) (by simp [results, Tryz.results71, go_sem, q0, q1, q2, q3, q4, q5, q6]) rfl ?_
    exact ⟨rfl, t_st7 hB (Nat.le_refl _)⟩

set_option maxRecDepth 100000 in
set_option maxHeartbeats 1000000 in
theorem tokPiece_any (s : ByteArray) (k : Nat) (q : UInt8) (w : World) (hs : s.size ≤ 4000000) (hk : k < s.size) (hx : s[k] = q) (hq : (q.toNat : Int) = 96 ∨ (q.toNat : Int) = 125) :
    Calls Tryz.prog 72 #[.string s, .int .i64 k] w fun e w' => e = rtR (pieceT s k q) ∧ Below w.heap.size w w' := by
  have HN := Lib.hid (fun W => piece_in s k q W hs hk hx hq)
  unfold pcR at HN
  unfold pieceT
  generalize pcV s.size (s.data.toList.drop (k + 1)) (k + 1) [] = r at HN ⊢
  obtain ⟨l, t, o, e⟩ := r
  simp only at HN ⊢
  have z0 : (0 : Int) ≤ q.toNat := by omega
  have z1 : (q.toNat : Int) ≤ 255 := by have := q.toNat_lt; omega
  clear hs
  by_cases h0 : e = 0
  · rw [if_pos h0]
    subst h0
    unfold rtR
    obtain ⟨v, hv⟩ : ∃ v : ByteArray, v = ⟨l.toArray⟩ := ⟨_, rfl⟩
    rw [← hv] at HN ⊢
    clear hv
    rcases hq with h1 | h1
    · rw [if_neg (by omega)]
      have g1 : ((q.toNat : Int) == 125) = false := by rw [h1]; rfl
      clear h1
      go_enter Tryz.func72, Tryz.ntmps72
      go_wp2_with fail
      refine (HN.out _).mono ?_
      rintro e w1 ⟨rfl, hb⟩
      obtain ⟨⟨q0, q1, q2, q3, q4, q5, q6⟩, ⟨f0, f1, f2, f3, f4, f5, f6⟩, hl⟩ := t_seven (t_kept hb (by simp) (heap_alloc_new w _))
      have hB : Below w.heap.size w w1 := t_thr (t_bel1 w _) hb (by simp)
      clear hb HN
      go_wp2
      refine bodyPost_ret (v := .tuple #[.agg #[.int .i64 6, .int .i64 0, .int .i64 (t : Nat), .int .i64 0, .string v, .bool false, .bool o], .int .i64 0]) (by simp [results, Tryz.results72, go_sem, q0, q1, q2, q3, q4, q5, q6]) rfl ?_
      exact ⟨rfl, t_st7 hB (Nat.le_refl _)⟩
    · rw [if_pos h1]
      have g1 : ((q.toNat : Int) == 125) = true := by rw [h1]; rfl
      clear h1
      go_enter Tryz.func72, Tryz.ntmps72
      go_wp2_with fail
      refine (HN.out _).mono ?_
      rintro e w1 ⟨rfl, hb⟩
      obtain ⟨⟨q0, q1, q2, q3, q4, q5, q6⟩, ⟨f0, f1, f2, f3, f4, f5, f6⟩, hl⟩ := t_seven (t_kept hb (by simp) (heap_alloc_new w _))
      have hB : Below w.heap.size w w1 := t_thr (t_bel1 w _) hb (by simp)
      clear hb HN
      go_wp2
      refine bodyPost_ret (v := .tuple #[.agg #[.int .i64 6, .int .i64 0, .int .i64 (t : Nat), .int .i64 1, .string v, .bool false, .bool o], .int .i64 0]) (by simp [results, Tryz.results72, go_sem, q0, q1, q2, q3, q4, q5, q6]) rfl ?_
      exact ⟨rfl, t_st7 hB (Nat.le_refl _)⟩
  · rw [if_neg h0]
    have hb0 : (e != 0) = true := by simpa using h0
    have hb1 : (e == 0) = false := by simpa using h0
    unfold rtR noT
    obtain ⟨v, hv⟩ : ∃ v : ByteArray, v = ⟨l.toArray⟩ := ⟨_, rfl⟩
    rw [← hv] at HN
    clear hv hq
    go_enter Tryz.func72, Tryz.ntmps72
    go_wp2_with fail
    refine (HN.out _).mono ?_
    rintro e' w1 ⟨rfl, hb⟩
    obtain ⟨⟨q0, q1, q2, q3, q4, q5, q6⟩, ⟨f0, f1, f2, f3, f4, f5, f6⟩, hl⟩ := t_seven (t_kept hb (by simp) (heap_alloc_new w _))
    have hB : Below w.heap.size w w1 := t_thr (t_bel1 w _) hb (by simp)
    clear hb HN
    go_wp2
    refine bodyPost_ret (v := .tuple #[.agg #[.int .i64 0, .int .i64 0, .int .i64 0, .int .i64 0, .string ⟨#[]⟩, .bool false, .bool false], .int .i64 e]) (by simp [results, Tryz.results72, go_sem, q0, q1, q2, q3, q4, q5, q6]) rfl ?_
    exact ⟨rfl, t_st7 hB (Nat.le_refl _)⟩
end Go.Proofs.YthkjdllpgcocpaaGreatDoor
