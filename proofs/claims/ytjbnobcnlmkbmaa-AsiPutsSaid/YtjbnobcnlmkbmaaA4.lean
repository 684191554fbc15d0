/-
  Ends of package asi and of its reference at this translation.
-/
import Derived.Test.YtjbnobcnlmkbmaaA3
namespace Go.Proofs.Ytjbnobcnlmkbmaa
open Go.RowKit

structure Tk where
  kind : Int
  a : Int
  to : Int
  n : Int
  s : ByteArray
  line : Bool
  o : Bool
def tkC (t : Tk) : List Value := [.int .i64 t.kind, .int .i64 t.a, .int .i64 t.to, .int .i64 t.n, .string t.s, .bool t.line, .bool t.o]
def CellsAt (w : World) (b o : Nat) (t : Tk) : Prop := w.cell? ⟨b, o, none⟩ = some (.int .i64 t.kind) ∧ w.cell? ⟨b, o + 1, none⟩ = some (.int .i64 t.a) ∧ w.cell? ⟨b, o + 2, none⟩ = some (.int .i64 t.to) ∧ w.cell? ⟨b, o + 3, none⟩ = some (.int .i64 t.n) ∧ w.cell? ⟨b, o + 4, none⟩ = some (.string t.s) ∧ w.cell? ⟨b, o + 5, none⟩ = some (.bool t.line) ∧ w.cell? ⟨b, o + 6, none⟩ = some (.bool t.o)

theorem cells_kept {W w1 : World} {B b o : Nat} {t : Tk} (hB : Below B W w1) (hb : b < B) (h : CellsAt W b o t) : CellsAt w1 b o t := by
  obtain ⟨c0, c1, c2, c3, c4, c5, c6⟩ := h
  exact ⟨(hB.cell (p := ⟨b, _, none⟩) hb).trans c0, (hB.cell (p := ⟨b, _, none⟩) hb).trans c1, (hB.cell (p := ⟨b, _, none⟩) hb).trans c2, (hB.cell (p := ⟨b, _, none⟩) hb).trans c3, (hB.cell (p := ⟨b, _, none⟩) hb).trans c4, (hB.cell (p := ⟨b, _, none⟩) hb).trans c5, (hB.cell (p := ⟨b, _, none⟩) hb).trans c6⟩
def endsV (k : Nat) (t : Tk) : Int × Bool := if sgnB t.kind t.s [59] = true then (k + 1, true) else if mayB t.kind t.s t.line = true then (k, true) else (0, false)
def endsR (r : Int × Bool) : Ending := .returned (.tuple #[.int .i64 r.1, .bool r.2])

set_option linter.unusedVariables false in
theorem ends_out (f : Bool) (v : Option Addr) (len cap : Nat) (i : Int) (w : World) (hl : len ≤ 140737488351232) (h : i < 0 ∨ (len : Int) ≤ i) (hi : -9223372036854775808 ≤ i ∧ i ≤ 9223372036854775807) :
    Calls Try.prog (if f then 13 else 14) #[.slice v len cap, .int .i64 i] w fun e w' => e = endsR (0, false) ∧ Below w.heap.size w w' := by
  unfold endsR
  cases f with
  | true =>
    rw [if_pos rfl]
    by_cases h0 : i < 0
    · have g1 : decide (i < 0) = true := by simpa using h0
      go_enter Try.func13, Try.ntmps13
      go_wp2
      go_ret2
      exact ⟨rfl, by go_grown⟩
    · have g1 : decide (i < 0) = false := by simpa using h0
      have h1 : (len : Int) ≤ i := by omega
      have g2 : decide ((len : Int) ≤ i) = true := by simpa using h1
      go_enter Try.func13, Try.ntmps13
      go_wp2
      go_ret2
      exact ⟨rfl, by go_grown⟩
  | false =>
    rw [if_neg (by simp)]
    by_cases h0 : i < 0
    · have g1 : decide (i < 0) = true := by simpa using h0
      go_enter Try.func14, Try.ntmps14
      go_wp2
      go_ret2
      exact ⟨rfl, by go_grown⟩
    · have g1 : decide (i < 0) = false := by simpa using h0
      have h1 : (len : Int) ≤ i := by omega
      have g2 : decide ((len : Int) ≤ i) = true := by simpa using h1
      go_enter Try.func14, Try.ntmps14
      go_wp2
      go_ret2
      exact ⟨rfl, by go_grown⟩

set_option maxRecDepth 100000 in
theorem ends_in (b off len cap k : Nat) (t : Tk) (w : World) (hk : k < len) (hl : len ≤ 140737488351232) (hb : b < w.heap.size) (hc : CellsAt w b (off + k * 7) t) :
    Calls Try.prog 13 #[.slice (some ⟨b, off, none⟩) len cap, .int .i64 k] w fun e w' => e = endsR (endsV k t) ∧ Below w.heap.size w w' := by
  have HC := Lib.hid hc
  obtain ⟨kd, a, to, n, s, l, o⟩ := t
  obtain ⟨c0, c1, c2, c3, c4, c5, c6⟩ := hc
  simp only at c0 c1 c2 c3 c4 c5 c6
  have HS := Lib.hid (fun (W : World) (b c : Nat) hc hb => isSign_any kd a to n s l o zSemi b c W (by decide) hc hb)
  rw [has_semi] at HS
  have HM := Lib.hid (fun (W : World) => may_any kd a to n s l o W)
  have g1 : decide ((k : Int) < 0) = false := by simp
  have g2 : decide (len ≤ k) = false := by simpa using hk
  unfold endsV endsR
  simp only
  change Hid (∀ (W : World) (b c : Nat) _ _, Calls Try.prog 20 _ W fun e w' => e = .returned (.bool (sgnB kd s [59])) ∧ _) at HS
  generalize sgnB kd s [59] = r at HS ⊢
  generalize mayB kd s l = q at HM ⊢
  cases r with
  | true =>
    rw [if_pos rfl]
    clear HM HC
    go_enter Try.func13, Try.ntmps13
    go_wp2_with fail
    refine (HS.out _ _ _ (new_cells _ zSemi _ _ (by simp)) (by simp)).mono ?_
    rintro e w1 ⟨rfl, hB⟩
    have hB1 : Below w.heap.size w w1 := a_thr ((Below.refl _ w).alloc (Nat.le_refl _) _) hB (by simp)
    clear hB HS c0 c1 c2 c3 c4 c5 c6
    go_wp2
    go_ret2
    exact ⟨rfl, hB1⟩
  | false =>
    rw [if_neg (by simp)]
    cases q with
    | true =>
      rw [if_pos rfl]
      go_enter Try.func13, Try.ntmps13
      go_wp2_with fail
      refine (HS.out _ _ _ (new_cells _ zSemi _ _ (by simp)) (by simp)).mono ?_
      rintro e w1 ⟨rfl, hB⟩
      have hB1 : Below w.heap.size w w1 := a_thr ((Below.refl _ w).alloc (Nat.le_refl _) _) hB (by simp)
      clear hB HS c0 c1 c2 c3 c4 c5 c6
      obtain ⟨c0, c1, c2, c3, c4, c5, c6⟩ := cells_kept hB1 hb HC.out
      simp only at c0 c1 c2 c3 c4 c5 c6
      clear HC
      go_wp2_with fail
      refine (HM.out _).mono ?_
      rintro e w2 ⟨rfl, hB⟩
      have hB2 : Below w.heap.size w w2 := a_thr hB1 hB hB1.size
      clear hB HM hB1 c0 c1 c2 c3 c4 c5 c6
      go_wp2
      go_ret2
      exact ⟨rfl, hB2⟩
    | false =>
      rw [if_neg (by simp)]
      go_enter Try.func13, Try.ntmps13
      go_wp2_with fail
      refine (HS.out _ _ _ (new_cells _ zSemi _ _ (by simp)) (by simp)).mono ?_
      rintro e w1 ⟨rfl, hB⟩
      have hB1 : Below w.heap.size w w1 := a_thr ((Below.refl _ w).alloc (Nat.le_refl _) _) hB (by simp)
      clear hB HS c0 c1 c2 c3 c4 c5 c6
      obtain ⟨c0, c1, c2, c3, c4, c5, c6⟩ := cells_kept hB1 hb HC.out
      simp only at c0 c1 c2 c3 c4 c5 c6
      clear HC
      go_wp2_with fail
      refine (HM.out _).mono ?_
      rintro e w2 ⟨rfl, hB⟩
      have hB2 : Below w.heap.size w w2 := a_thr hB1 hB hB1.size
      clear hB HM hB1 c0 c1 c2 c3 c4 c5 c6
      go_wp2
      go_ret2
      exact ⟨rfl, hB2⟩

set_option maxRecDepth 100000 in
theorem rends_in (b off len cap k : Nat) (t : Tk) (w : World) (hk : k < len) (hl : len ≤ 140737488351232) (hb : b < w.heap.size) (hc : CellsAt w b (off + k * 7) t) :
    Calls Try.prog 14 #[.slice (some ⟨b, off, none⟩) len cap, .int .i64 k] w fun e w' => e = endsR (endsV k t) ∧ Below w.heap.size w w' := by
  have HC := Lib.hid hc
  obtain ⟨kd, a, to, n, s, l, o⟩ := t
  obtain ⟨c0, c1, c2, c3, c4, c5, c6⟩ := hc
  simp only at c0 c1 c2 c3 c4 c5 c6
  have HS := Lib.hid (fun (W : World) => sign_any kd a to n s l o ⟨#[59]⟩ W)
  rw [show (ByteArray.mk #[59]).toList = [59] by simp only [ByteArray.toList_eq]] at HS
  have HM := Lib.hid (fun (W : World) => rmay_any kd a to n s l o W)
  have g1 : decide ((k : Int) < 0) = false := by simp
  have g2 : decide (len ≤ k) = false := by simpa using hk
  unfold endsV endsR
  simp only
  generalize sgnB kd s [59] = r at HS ⊢
  generalize mayB kd s l = q at HM ⊢
  cases r with
  | true =>
    rw [if_pos rfl]
    clear HM HC
    go_enter Try.func14, Try.ntmps14
    go_wp2_with fail
    refine (HS.out _).mono ?_
    rintro e w1 ⟨rfl, hB⟩
    clear HS c0 c1 c2 c3 c4 c5 c6
    go_wp2
    go_ret2
    exact ⟨rfl, hB⟩
  | false =>
    rw [if_neg (by simp)]
    cases q with
    | true =>
      rw [if_pos rfl]
      go_enter Try.func14, Try.ntmps14
      go_wp2_with fail
      refine (HS.out _).mono ?_
      rintro e w1 ⟨rfl, hB1⟩
      clear HS c0 c1 c2 c3 c4 c5 c6
      obtain ⟨c0, c1, c2, c3, c4, c5, c6⟩ := cells_kept hB1 hb HC.out
      simp only at c0 c1 c2 c3 c4 c5 c6
      clear HC
      go_wp2_with fail
      refine (HM.out _).mono ?_
      rintro e w2 ⟨rfl, hB⟩
      have hB2 : Below w.heap.size w w2 := a_thr hB1 hB hB1.size
      clear hB HM hB1 c0 c1 c2 c3 c4 c5 c6
      go_wp2
      go_ret2
      exact ⟨rfl, hB2⟩
    | false =>
      rw [if_neg (by simp)]
      go_enter Try.func14, Try.ntmps14
      go_wp2_with fail
      refine (HS.out _).mono ?_
      rintro e w1 ⟨rfl, hB1⟩
      clear HS c0 c1 c2 c3 c4 c5 c6
      obtain ⟨c0, c1, c2, c3, c4, c5, c6⟩ := cells_kept hB1 hb HC.out
      simp only at c0 c1 c2 c3 c4 c5 c6
      clear HC
      go_wp2_with fail
      refine (HM.out _).mono ?_
      rintro e w2 ⟨rfl, hB⟩
      have hB2 : Below w.heap.size w w2 := a_thr hB1 hB hB1.size
      clear hB HM hB1 c0 c1 c2 c3 c4 c5 c6
      go_wp2
      go_ret2
      exact ⟨rfl, hB2⟩
end Go.Proofs.Ytjbnobcnlmkbmaa
