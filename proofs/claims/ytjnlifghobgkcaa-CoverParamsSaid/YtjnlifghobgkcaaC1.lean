/-
  The small tests of package cover at this translation.
-/
import Derived.Test.YtjnlifghobgkcaaSpec
import Derived.Deep.QuietTactic
import Derived.Handy
namespace Go.Proofs.Ytjnlifghobgkcaa
open Go.RowKit

def BPost (w : World) (b : Bool) : Ending → World → Prop := fun e w' => e = .returned (.bool b) ∧ Below w.heap.size w w'
theorem c_kept {W w1 : World} {B b : Nat} {o : Obj} (hb : Below B W w1) (hB : b < B) (hW : W.heap[b]? = some o) : w1.heap[b]? = some o := (hb.block b hB).trans hW
theorem c_lt {w : World} {b : Nat} {o : Obj} (h : w.heap[b]? = some o) : b < w.heap.size := by
  rcases Nat.lt_or_ge b w.heap.size with h' | h'
  · exact h'
  · simp [Array.getElem?_eq_none h'] at h
theorem c_thr {B : Nat} {w w1 w2 : World} (h : Below B w w1) (k : Below w1.heap.size w1 w2) (hB : B ≤ w1.heap.size) : Below B w w2 := h.trans (k.mono hB)
theorem c_draws (w : World) (n : Nat) : Below w.heap.size w (w.drewN n) := ⟨rfl, rfl, rfl, Nat.le_refl _, fun _ _ => rfl⟩
theorem c_box (w : World) (o : Obj) : Below w.heap.size w (w.alloc o) := (Below.refl _ w).alloc (Nat.le_refl _) _
theorem c_box2 (w : World) (o p : Obj) : Below w.heap.size w ((w.alloc o).alloc p) := (c_box w o).alloc (by simp) _
theorem c_six {w : World} {b : Nat} {x0 x1 x2 x3 x4 x5 : Value} {T : TypeId} (h : w.heap[b]? = some (.cells #[x0, x1, x2, x3, x4, x5] T (0, 0))) :
    (w.cell? ⟨b, 0, none⟩ = some x0 ∧ w.cell? ⟨b, 1, none⟩ = some x1 ∧ w.cell? ⟨b, 2, none⟩ = some x2 ∧ w.cell? ⟨b, 3, none⟩ = some x3 ∧ w.cell? ⟨b, 4, none⟩ = some x4 ∧ w.cell? ⟨b, 5, none⟩ = some x5) ∧
    (w.frozen? ⟨b, 0, none⟩ = false ∧ w.frozen? ⟨b, 1, none⟩ = false ∧ w.frozen? ⟨b, 2, none⟩ = false ∧ w.frozen? ⟨b, 3, none⟩ = false ∧ w.frozen? ⟨b, 4, none⟩ = false ∧ w.frozen? ⟨b, 5, none⟩ = false) ∧ b < w.heap.size := by
  refine ⟨⟨?_, ?_, ?_, ?_, ?_, ?_⟩, ⟨?_, ?_, ?_, ?_, ?_, ?_⟩, c_lt h⟩
  all_goals first | simp [World.cell?, h] | simp [World.frozen?, h]
theorem c_set {B b : Nat} {w w1 : World} (i : Nat) (x : Value) (h : Below B w w1) (hB : B ≤ b) : Below B w (w1.setCell ⟨b, i, none⟩ x) := h.setCell (p := ⟨b, i, none⟩) hB _
theorem c_st6 {B b : Nat} {w w1 : World} {x0 x1 x2 x3 x4 x5 : Value} (h : Below B w w1) (hB : B ≤ b) : Below B w ((((((w1.setCell ⟨b, 0, none⟩ x0).setCell ⟨b, 1, none⟩ x1).setCell ⟨b, 2, none⟩ x2).setCell ⟨b, 3, none⟩ x3).setCell ⟨b, 4, none⟩ x4).setCell ⟨b, 5, none⟩ x5) :=
  c_set _ _ (c_set _ _ (c_set _ _ (c_set _ _ (c_set _ _ (c_set _ _ h hB) hB) hB) hB) hB) hB
theorem c_new1 (w : World) (o p : Obj) : ((w.alloc o).alloc p).heap[w.heap.size]? = some o := (Below.heap_alloc (w.alloc o) p w.heap.size (by simp)).trans (heap_alloc_new w o)
theorem c_new2 (w : World) (o p : Obj) : ((w.alloc o).alloc p).heap[w.heap.size + 1]? = some p := by
  have h := heap_alloc_new (w.alloc o) p
  simpa using h
set_option linter.unusedVariables false in
set_option maxRecDepth 100000 in
set_option maxHeartbeats 1000000 in
theorem isMember_any (op a n m : Int) (s : ByteArray) (ao : Option Addr) (len cap : Nat) (w : World) :
    Calls Try.prog 25 #[.agg #[.int .i64 op, .int .i64 a, .int .i64 n, .int .i64 m, .string s, .slice ao len cap]] w (BPost w (op == 51 || op == 52)) := by
  cases h1 : (op == 51) <;> cases h2 : (op == 52)
  all_goals
    go_enter Try.func25, Try.ntmps25
    go_wp2
    go_ret
    exact ⟨rfl, c_box w _⟩
set_option linter.unusedVariables false in
set_option maxRecDepth 100000 in
set_option maxHeartbeats 1000000 in
theorem target_any (op a n m : Int) (s : ByteArray) (ao : Option Addr) (len cap : Nat) (w : World) :
    Calls Try.prog 14 #[.agg #[.int .i64 op, .int .i64 a, .int .i64 n, .int .i64 m, .string s, .slice ao len cap]] w (BPost w (op == 34 || ((op == 51 || op == 52) && n == 0))) := by
  have M := fun W => isMember_any op a n m s ao len cap W
  cases h1 : (op == 34)
  · cases hm : (op == 51 || op == 52)
    · rw [hm] at M
      have HM := Lib.hid M
      clear M hm
      go_enter Try.func14, Try.ntmps14
      go_wp2_with fail
      refine (HM.out _).mono ?_
      rintro e w1 ⟨rfl, hb⟩
      go_wp2
      go_ret
      exact ⟨rfl, c_thr (c_box w _) hb (by simp)⟩
    · rw [hm] at M
      have HM := Lib.hid M
      clear M hm
      cases h3 : (n == 0)
      all_goals
        go_enter Try.func14, Try.ntmps14
        go_wp2_with fail
        refine (HM.out _).mono ?_
        rintro e w1 ⟨rfl, hb⟩
        obtain ⟨⟨-, -, c2, -, -, -⟩, -, -⟩ := c_six (c_kept hb (by simp) (heap_alloc_new w _))
        go_wp2
        go_ret
        exact ⟨rfl, c_thr (c_box w _) hb (by simp)⟩
  · clear M
    go_enter Try.func14, Try.ntmps14
    go_wp2
    go_ret
    exact ⟨rfl, c_box w _⟩
set_option linter.unusedVariables false in
set_option maxRecDepth 100000 in
set_option maxHeartbeats 1000000 in
theorem isPattern_any (op a n m : Int) (s : ByteArray) (ao : Option Addr) (len cap : Nat) (w : World) :
    Calls Try.prog 34 #[.agg #[.int .i64 op, .int .i64 a, .int .i64 n, .int .i64 m, .string s, .slice ao len cap]] w (BPost w (op == 34 || ((op == 51 || op == 52) && n == 0) || op == 60 || op == 61)) := by
  have M := fun W => target_any op a n m s ao len cap W
  cases hm : (op == 34 || ((op == 51 || op == 52) && n == 0))
  · rw [hm] at M
    have HM := Lib.hid M
    clear M hm
    cases h1 : (op == 60) <;> cases h2 : (op == 61)
    all_goals
      go_enter Try.func34, Try.ntmps34
      go_wp2_with fail
      refine (HM.out _).mono ?_
      rintro e w1 ⟨rfl, hb⟩
      obtain ⟨⟨c0, -, -, -, -, -⟩, -, -⟩ := c_six (c_kept hb (by simp) (heap_alloc_new w _))
      go_wp2
      go_ret
      exact ⟨rfl, c_thr (c_box w _) hb (by simp)⟩
  · rw [hm] at M
    have HM := Lib.hid M
    clear M hm
    go_enter Try.func34, Try.ntmps34
    go_wp2_with fail
    refine (HM.out _).mono ?_
    rintro e w1 ⟨rfl, hb⟩
    go_wp2
    go_ret
    exact ⟨rfl, c_thr (c_box w _) hb (by simp)⟩
set_option linter.unusedVariables false in
set_option maxRecDepth 100000 in
set_option maxHeartbeats 1000000 in
theorem isText_any (op a n m : Int) (s : ByteArray) (ao : Option Addr) (len cap : Nat) (w : World) :
    Calls Try.prog 53 #[.agg #[.int .i64 op, .int .i64 a, .int .i64 n, .int .i64 m, .string s, .slice ao len cap]] w (BPost w (op == 31)) := by
  cases h1 : (op == 31)
  all_goals
    go_enter Try.func53, Try.ntmps53
    go_wp2
    go_ret
    exact ⟨rfl, c_box w _⟩
end Go.Proofs.Ytjnlifghobgkcaa
