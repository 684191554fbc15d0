/-
  The first functions of package num at this translation: In, nan, Of, whole, pair: for every int and every value.
-/
import Derived.Test.YthkjdllpgcocpaaGreatDoorRows
import Derived.WalkKit
import Derived.WalkSpells
import Derived.WalkLawsBesides
import Derived.Deep.QuietTactic
import Derived.BigQuiet
import Derived.Lib.Hide
import Derived.Handy
namespace Go.Proofs.YthkjdllpgcocpaaGreatDoor.num
open Go.RowKit

def inB (n : Int) : Bool := decide (-9007199254740992 ≤ n ∧ n ≤ 9007199254740992)
def whK (k n : Int) (s : ByteArray) : Bool := (k == 3) && s.toList.isEmpty && inB n
def whN (k n : Int) (s : ByteArray) : Int := if whK k n s = true then n else 0
def ofK (n : Int) : Int := if inB n = true then 3 else 4
def ofN (n : Int) : Int := if inB n = true then n else 0

theorem ret_b {a b : Bool} (h : a = b) : Ending.returned (.bool a) = .returned (.bool b) := by rw [h]
theorem ret_ib {a b : Int} {c d : Bool} (h : a = b) (h' : c = d) : Ending.returned (.tuple #[.int .i64 a, .bool c]) = .returned (.tuple #[.int .i64 b, .bool d]) := by rw [h, h']
theorem ret_v {a b c d : Int} (h : a = c) (h' : b = d) : Ending.returned (.agg #[.int .i64 a, .int .i64 b, .string ⟨#[]⟩]) = .returned (.agg #[.int .i64 c, .int .i64 d, .string ⟨#[]⟩]) := by rw [h, h']
theorem bcell {W w1 : World} (hb : Below W.heap.size W w1) : (∀ b o, b < W.heap.size → w1.cell? ⟨b, o, none⟩ = W.cell? ⟨b, o, none⟩) ∧ (∀ b o, b < W.heap.size → w1.frozen? ⟨b, o, none⟩ = W.frozen? ⟨b, o, none⟩) :=
  ⟨fun b o h => hb.cell (p := ⟨b, o, none⟩) h, fun b o h => hb.frozen (p := ⟨b, o, none⟩) h⟩
/-- what a block of three cells, laid ahead of a call, still is behind it -/
theorem three {W w1 : World} {B b : Nat} {x y z : Value} {T : TypeId} (hb : Below B W w1) (hB : b < B) (hW : W.heap[b]? = some (.cells #[x, y, z] T (0, 0))) :
    w1.cell? ⟨b, 0, none⟩ = some x ∧ w1.cell? ⟨b, 1, none⟩ = some y ∧ w1.cell? ⟨b, 2, none⟩ = some z ∧ w1.frozen? ⟨b, 0, none⟩ = false ∧ w1.frozen? ⟨b, 1, none⟩ = false ∧ w1.frozen? ⟨b, 2, none⟩ = false ∧ b < w1.heap.size := by
  have h1 : w1.heap[b]? = some (.cells #[x, y, z] T (0, 0)) := (hb.block b hB).trans hW
  refine ⟨?_, ?_, ?_, ?_, ?_, ?_, ?_⟩
  · simp [World.cell?, h1]
  · simp [World.cell?, h1]
  · simp [World.cell?, h1]
  · simp [World.frozen?, h1]
  · simp [World.frozen?, h1]
  · simp [World.frozen?, h1]
  · rcases Nat.lt_or_ge b w1.heap.size with h' | h'
    · exact h'
    · simp [Array.getElem?_eq_none h'] at h1
theorem kept {W w1 : World} {B b : Nat} {o : Obj} (hb : Below B W w1) (hB : b < B) (hW : W.heap[b]? = some o) : w1.heap[b]? = some o := (hb.block b hB).trans hW
/-- the cells of a block of three -/
theorem tri {w : World} {b : Nat} {x y z : Value} {T : TypeId} (h1 : w.heap[b]? = some (.cells #[x, y, z] T (0, 0))) :
    w.cell? ⟨b, 0, none⟩ = some x ∧ w.cell? ⟨b, 1, none⟩ = some y ∧ w.cell? ⟨b, 2, none⟩ = some z ∧ w.frozen? ⟨b, 0, none⟩ = false ∧ w.frozen? ⟨b, 1, none⟩ = false ∧ w.frozen? ⟨b, 2, none⟩ = false ∧ b < w.heap.size := by
  refine ⟨?_, ?_, ?_, ?_, ?_, ?_, ?_⟩
  · simp [World.cell?, h1]
  · simp [World.cell?, h1]
  · simp [World.cell?, h1]
  · simp [World.frozen?, h1]
  · simp [World.frozen?, h1]
  · simp [World.frozen?, h1]
  · rcases Nat.lt_or_ge b w.heap.size with h' | h'
    · exact h'
    · simp [Array.getElem?_eq_none h'] at h1
theorem size_al (w : World) (o : Obj) : (w.alloc o).heap.size = w.heap.size + 1 := by simp
theorem blk1 (w : World) (o p : Obj) : ((w.alloc o).alloc p).heap[w.heap.size + 1]? = some p := by
  have h := heap_alloc_new (w.alloc o) p
  rwa [size_al] at h
theorem blk2 (w : World) (o p q : Obj) : (((w.alloc o).alloc p).alloc q).heap[w.heap.size + 1 + 1]? = some q := by
  have h := heap_alloc_new ((w.alloc o).alloc p) q
  rwa [size_al, size_al] at h
theorem old1 (w : World) (o p : Obj) : ((w.alloc o).alloc p).heap[w.heap.size]? = some o := by
  rw [heap_alloc_old (w.alloc o) p (by rw [size_al]; omega)]
  exact heap_alloc_new w o
theorem old2 (w : World) (o p q : Obj) : (((w.alloc o).alloc p).alloc q).heap[w.heap.size]? = some o := by
  rw [heap_alloc_old ((w.alloc o).alloc p) q (by rw [size_al, size_al]; omega)]
  exact old1 w o p
theorem mid2 (w : World) (o p q : Obj) : (((w.alloc o).alloc p).alloc q).heap[w.heap.size + 1]? = some p := by
  rw [heap_alloc_old ((w.alloc o).alloc p) q (by rw [size_al, size_al]; omega)]
  exact blk1 w o p
theorem bel1 (w : World) (o : Obj) : Below w.heap.size w (w.alloc o) := (Below.refl _ w).alloc (Nat.le_refl _) _
theorem bel2 (w : World) (o p : Obj) : Below w.heap.size w ((w.alloc o).alloc p) := (bel1 w o).alloc (by rw [size_al]; omega) _
theorem bel3 (w : World) (o p q : Obj) : Below w.heap.size w (((w.alloc o).alloc p).alloc q) := (bel2 w o p).alloc (by rw [size_al, size_al]; omega) _
theorem thr {B : Nat} {w w1 w2 : World} (h : Below B w w1) (h2 : Below w1.heap.size w1 w2) (hB : B ≤ w1.heap.size) : Below B w w2 := h.trans (h2.mono hB)
theorem st3 {B b : Nat} {w w1 : World} {x y z : Value} (h : Below B w w1) (hB : B ≤ b) : Below B w (((w1.setCell ⟨b, 0, none⟩ x).setCell ⟨b, 1, none⟩ y).setCell ⟨b, 2, none⟩ z) :=
  ((h.setCell (p := ⟨b, 0, none⟩) hB _).setCell (p := ⟨b, 1, none⟩) hB _).setCell (p := ⟨b, 2, none⟩) hB _
theorem in_yes {n : Int} (h : inB n = true) : -9007199254740992 ≤ n ∧ n ≤ 9007199254740992 := by simpa [inB] using h
theorem in_no {n : Int} (h : inB n = false) : n < -9007199254740992 ∨ 9007199254740992 < n := by simp [inB] at h; omega
theorem whN_b (k n : Int) (s : ByteArray) : -9007199254740992 ≤ whN k n s ∧ whN k n s ≤ 9007199254740992 := by
  unfold whN
  by_cases h : whK k n s = true
  · rw [if_pos h]
    have : inB n = true := by unfold whK at h; simp at h; exact h.2
    exact in_yes this
  · rw [if_neg h]; omega

set_option maxHeartbeats 400000 in
theorem in_any (n : Int) (w : World) : Calls Tryz.prog 174 #[.int .i64 n] w fun e w' => e = .returned (.bool (inB n)) ∧ w = w' := by
  go_enter Tryz.func174, Tryz.ntmps174
  go_wp2
  all_goals
    go_ret
    exact ⟨ret_b (by unfold inB; rw [Bool.eq_iff_iff]; simp <;> omega), rfl⟩

set_option maxHeartbeats 400000 in
theorem nan_any (w : World) : Calls Tryz.prog 175 #[] w fun e w' => e = .returned (.agg #[.int .i64 4, .int .i64 0, .string ⟨#[]⟩]) ∧ Below w.heap.size w w' := by
  go_enter Tryz.func175, Tryz.ntmps175
  go_wp2
  go_returns
  exact ⟨rfl, by go_grown⟩

set_option maxHeartbeats 400000 in
theorem of_any (n : Int) (w : World) : Calls Tryz.prog 149 #[.int .i64 n] w fun e w' => e = .returned (.agg #[.int .i64 (ofK n), .int .i64 (ofN n), .string ⟨#[]⟩]) ∧ Below w.heap.size w w' := by
  cases h : inB n with
  | true =>
    have hk : ofK n = 3 := by simp [ofK, h]
    have hn : ofN n = n := by simp [ofN, h]
    rw [hk, hn]
    clear hk hn
    go_enter Tryz.func149, Tryz.ntmps149
    go_wp2_with (go_at_call 174; refine (in_any _ _).mono ?_; rintro e w' ⟨rfl, rfl⟩)
    go_returns
    exact ⟨rfl, by go_grown⟩
  | false =>
    have hk : ofK n = 4 := by simp [ofK, h]
    have hn : ofN n = 0 := by simp [ofN, h]
    rw [hk, hn]
    clear hk hn
    go_enter Tryz.func149, Tryz.ntmps149
    go_wp2_with (go_at_call 174; refine (in_any _ _).mono ?_; rintro e w' ⟨rfl, rfl⟩)
    refine (nan_any _).mono ?_
    rintro e w1 ⟨rfl, hb⟩
    obtain ⟨q0, q1, q2, f0, f1, f2, hz⟩ := three hb (by simp) (heap_alloc_new w _)
    have hB : Below w.heap.size w w1 := thr (bel1 w _) hb (by simp)
    go_wp2
    refine bodyPost_ret (v := .agg #[.int .i64 4, .int .i64 0, .string ⟨#[]⟩]) (by simp [results, Tryz.results149, go_sem, q0, q1, q2]) rfl ?_
    exact ⟨rfl, st3 hB (Nat.le_refl _)⟩

set_option maxHeartbeats 400000 in
theorem whole_any (k n : Int) (s : ByteArray) (w : World) : Calls Tryz.prog 191 #[.agg #[.int .i64 k, .int .i64 n, .string s]] w fun e w' => e = .returned (.tuple #[.int .i64 (whN k n s), .bool (whK k n s)]) ∧ Below w.heap.size w w' := by
  by_cases hk : k = 3 ∧ s.toList = [] ∧ inB n = true
  · obtain ⟨h1, h2, h3⟩ := hk
    have e1 : whK k n s = true := by simp [whK, h1, h2, h3]
    have e2 : whN k n s = n := by simp [whN, e1]
    rw [e1, e2]
    clear e1 e2
    subst h1
    go_enter Tryz.func191, Tryz.ntmps191
    go_wp2_with (go_at_call 174; refine (in_any _ _).mono ?_; rintro e w' ⟨rfl, rfl⟩)
    go_returns
    exact ⟨rfl, by go_grown⟩
  · have e1 : whK k n s = false := by
      cases h : whK k n s with
      | false => rfl
      | true => exfalso; apply hk; simpa [whK, and_assoc] using h
    have e2 : whN k n s = 0 := by simp [whN, e1]
    rw [e1, e2]
    clear e1 e2
    by_cases h1 : k = 3
    · by_cases h2 : s.toList = []
      · have h3 : inB n = false := by
          cases h : inB n with
          | false => rfl
          | true => exact absurd ⟨h1, h2, h⟩ hk
        clear hk
        subst h1
        go_enter Tryz.func191, Tryz.ntmps191
        go_wp2_with (go_at_call 174; refine (in_any _ _).mono ?_; rintro e w' ⟨rfl, rfl⟩)
        go_returns
        exact ⟨rfl, by go_grown⟩
      · clear hk
        subst h1
        have h2b : (s.toList == []) = false := by simpa using h2
        have h2c : s.toList.isEmpty = false := by simpa using h2
        go_enter Tryz.func191, Tryz.ntmps191
        go_wp2_with (go_at_call 174; refine (in_any _ _).mono ?_; rintro e w' ⟨rfl, rfl⟩)
        go_returns
        exact ⟨rfl, by go_grown⟩
    · clear hk
      have h1b : (k != 3) = true := by simpa using h1
      go_enter Tryz.func191, Tryz.ntmps191
      go_wp2_with (go_at_call 174; refine (in_any _ _).mono ?_; rintro e w' ⟨rfl, rfl⟩)
      go_returns
      exact ⟨rfl, by go_grown⟩
end Go.Proofs.YthkjdllpgcocpaaGreatDoor.num
