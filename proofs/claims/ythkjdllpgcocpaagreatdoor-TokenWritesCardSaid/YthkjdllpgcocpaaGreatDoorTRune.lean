/-
  strings.IndexRune at this translation: a code point above 127 is not among the two line terminators.
-/
import Derived.Test.YthkjdllpgcocpaaGreatDoorTDec
namespace Go.Proofs.YthkjdllpgcocpaaGreatDoor
open Go.RowKit

theorem indexByte_at (s : ByteArray) (c : Int) (z : Int) (W : World) (hz : Lib.indexByte s.data.toList c.toNat.toUInt8 = z) :
    Calls Tryz.prog 154 #[.string s, .int .u8 c] W fun e w' => e = .returned (.int .i64 z) ∧ W = w' := by
  refine (Tryz.strings_IndexByte s c W).mono ?_
  rintro e w' ⟨rfl, rfl⟩
  exact ⟨by rw [hz], rfl⟩
theorem validRune_at (r : Int) (b : Bool) (W : World) (hb : Lib.validRune r = b) :
    Calls Tryz.prog 155 #[.int .i32 r] W fun e w' => e = .returned (.bool b) ∧ W = w' := by
  refine (Tryz.utf8_ValidRune r W).mono ?_
  rintro e w' ⟨rfl, rfl⟩
  exact ⟨by rw [hb], rfl⟩

set_option maxRecDepth 100000 in
set_option maxHeartbeats 2000000 in
theorem rune_bad (r : Int) (w : World) (h0 : 128 ≤ r) (h1 : r ≤ 2147483647) (h2 : (r == 65533) = false) (hv : Lib.validRune r = false) :
    Calls Tryz.prog 104 #[.string ⟨#[10, 13]⟩, .int .i32 r] w fun e w' => e = .returned (.int .i64 (-1)) ∧ Below w.heap.size w w' := by
  have HV := Lib.hid (fun W => validRune_at r false W hv)
  clear hv
  have h3 : ¬ r < 128 := by omega
  go_enter Tryz.func104, Tryz.ntmps104
  go_wp2_with fail
  refine (HV.out _).mono ?_
  rintro e w' ⟨rfl, rfl⟩
  go_wp2
  go_ret
  exact ⟨rfl, Below.refl _ _⟩

set_option maxRecDepth 100000 in
set_option maxHeartbeats 2000000 in
theorem rune_fffd (w : World) :
    Calls Tryz.prog 104 #[.string ⟨#[10, 13]⟩, .int .i32 65533] w fun e w' => e = .returned (.int .i64 (-1)) ∧ Below w.heap.size w w' := by
  go_enter Tryz.func104, Tryz.ntmps104
  go_wp2
  go_loopg [5, 6] 2 (fun g _ _ wx => ∃ i : Nat, i + g = 2 ∧ wx = w.iter ⟨#[10, 13]⟩ i)
  case atStart => exact ⟨0, by omega, rfl⟩
  case round =>
    obtain ⟨i, hig, rfl⟩ := hrel
    cases gk with
    | zero =>
      obtain rfl : i = 2 := by omega
      have hnx := run_next_end (P := Tryz.prog) w ⟨#[10, 13]⟩ 2
      go_wp2
      go_ret
      exact ⟨rfl, (Below.refl _ w).alloc (Nat.le_refl _) _⟩
    | succ g =>
      have e : i = 0 ∨ i = 1 := by omega
      rcases e with rfl | rfl
      · have hnx := fun ty => run_next_ascii (P := Tryz.prog) w ⟨#[10, 13]⟩ 0 ty (by decide) (by decide)
        go_wp2
        go_roundg g
        case measure => omega
        case rel => exact ⟨1, by omega, rfl⟩
      · have hnx := fun ty => run_next_ascii (P := Tryz.prog) w ⟨#[10, 13]⟩ 1 ty (by decide) (by decide)
        go_wp2
        go_roundg g
        case measure => omega
        case rel => exact ⟨2, by omega, rfl⟩

set_option maxRecDepth 100000 in
set_option maxHeartbeats 4000000 in
theorem rune_more (r : Int) (w : World) (h0 : 2048 ≤ r) (h1 : r ≤ 2147483647) (h2 : (r == 65533) = false) (hv : Lib.validRune r = true) :
    Calls Tryz.prog 104 #[.string ⟨#[10, 13]⟩, .int .i32 r] w fun e w' => e = .returned (.int .i64 (-1)) ∧ Below w.heap.size w w' := by
  have HV := Lib.hid (fun W => validRune_at r true W hv)
  obtain ⟨z0, z1⟩ := enc_3 r h0 hv
  have HC : ∀ W, (convert 21 9 (.int .i32 r)).run Tryz.prog W = .ok (.string (Utf8.encode r)) W := fun W => run_convert_int_string W _ _ _ _ (by kernel_rfl) (by kernel_rfl)
  generalize Utf8.encode r = t at z0 z1 HC
  clear hv
  have h3 : ¬ r < 128 := by omega
  have z2 : (3 : Int) ≤ t.size := by omega
  go_enter Tryz.func104, Tryz.ntmps104
  go_wp2_with fail
  refine (HV.out _).mono ?_
  rintro e w' ⟨rfl, rfl⟩
  go_wp2
  go_step3
  go_wp2
  go_loop [9] (fun v => v = .int .i64 (t.size - 1)) (fun _ => 0)
  case atStart => rfl
  case round =>
    subst hrel
    have z3 : ¬ (t.size : Int) - 1 < 2 := by omega
    go_wp2
    go_ret
    exact ⟨rfl, Below.refl _ _⟩

set_option maxRecDepth 100000 in
set_option maxHeartbeats 4000000 in
theorem rune_two (r : Int) (w : World) (h0 : 128 ≤ r) (h1 : r < 2048) :
    Calls Tryz.prog 104 #[.string ⟨#[10, 13]⟩, .int .i32 r] w fun e w' => e = .returned (.int .i64 (-1)) ∧ Below w.heap.size w w' := by
  have hv : Lib.validRune r = true := by simp [Lib.validRune]; omega
  have h2 : (r == 65533) = false := by simp; omega
  have HV := Lib.hid (fun W => validRune_at r true W hv)
  obtain ⟨z0, z1⟩ := enc_2 r h0 h1
  have HC : ∀ W, (convert 21 9 (.int .i32 r)).run Tryz.prog W = .ok (.string (Utf8.encode r)) W := fun W => run_convert_int_string W _ _ _ _ (by kernel_rfl) (by kernel_rfl)
  generalize Utf8.encode r = t at z0 z1 HC
  have z4 := z1 (by omega)
  obtain ⟨x, hx⟩ : ∃ x : UInt8, t[1]'(by omega) = x := ⟨_, rfl⟩
  rw [hx] at z4
  clear hv z1
  have x0 : (0 : Int) ≤ x.toNat := by omega
  have x1 : (x.toNat : Int) ≤ 255 := by have := x.toNat_lt; omega
  have hne13 : ((13 : Int) != x.toNat) = true := by simp; omega
  have hne : ((((⟨#[10, 13]⟩ : ByteArray)[1]'(by decide)).toNat : Int) != (x.toNat : Int)) = true := hne13
  have h3 : ¬ r < 128 := by omega
  have HI := Lib.hid (fun W => indexByte_at ByteArray.empty (x.toNat : Int) (-1) W rfl)
  go_enter Tryz.func104, Tryz.ntmps104
  go_wp2_with fail
  refine (HV.out _).mono ?_
  rintro e w' ⟨rfl, rfl⟩
  go_wp2
  go_step3
  go_wp2
  go_loop [9] (fun v => v = .int .i64 1) (fun _ => 0)
  case atStart => rfl
  case round =>
    subst hrel
    go_wp2
    go_step3
    go_wp2
    go_quiet (fail)
    go_wp2
    have HB : Hid (Below w.heap.size w (w.drewN nq)) := Lib.hid ((Below.refl _ w).trans ⟨rfl, rfl, rfl, Nat.le_refl _, fun _ _ => rfl⟩)
    generalize w.drewN nq = w2 at HB ⊢
    have hw2 : IntKind.i64.wrap 2 = 2 := by decide
    have hx2 : (⟨#[10, 13]⟩ : ByteArray).extract 2 2 = ⟨#[]⟩ := by decide
    go_quiet ((go_at_call 154; exact Calls.quiet_of_same ((HI.out _).mono fun _ _ h => ⟨h.1, h.2.symm⟩)))
    go_wp2
    simp +zetaDelta only [Exit.noGoto, Exit.inBlock, Exit.then]
    go_ret
    exact ⟨rfl, HB.out.trans ⟨rfl, rfl, rfl, Nat.le_refl _, fun _ _ => rfl⟩⟩
end Go.Proofs.YthkjdllpgcocpaaGreatDoor
