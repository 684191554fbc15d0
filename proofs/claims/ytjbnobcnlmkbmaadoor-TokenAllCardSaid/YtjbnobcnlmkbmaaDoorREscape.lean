/-
  escape of the reference at this translation.
-/
import Derived.Test.YtjbnobcnlmkbmaaDoorRBytes
import Derived.Test.YtjbnobcnlmkbmaaDoorEsc
import Derived.Test.YtjbnobcnlmkbmaaDoorRead
namespace Go.Proofs.YtjbnobcnlmkbmaaDoor
open Go.RowKit

def frL : List Int := [110, 116, 114, 48, 92, 39, 34, 96, 36]
def NeL (i : Nat) (x : Int) : Prop := ∀ j, j < i → ¬ x = frL.getD j 0
theorem ne_step {i : Nat} {x : Int} (h : NeL i x) (hx : ¬ x = frL.getD i 0) : NeL (i + 1) x := by
  intro j hj
  by_cases hji : j = i
  · subst hji; exact hx
  · exact h j (by omega)
theorem ne_all {x : Int} (h : NeL 9 x) : esc1 x = none := by
  have h0 : ¬ x = 110 := h 0 (by omega)
  have h1 : ¬ x = 116 := h 1 (by omega)
  have h2 : ¬ x = 114 := h 2 (by omega)
  have h3 : ¬ x = 48 := h 3 (by omega)
  have h4 : ¬ x = 92 := h 4 (by omega)
  have h5 : ¬ x = 39 := h 5 (by omega)
  have h6 : ¬ x = 34 := h 6 (by omega)
  have h7 : ¬ x = 96 := h 7 (by omega)
  have h8 : ¬ x = 36 := h 8 (by omega)
  simp [esc1, h0, h1, h2, h3, h4, h5, h6, h7, h8]
theorem rEsc_one {x : UInt8} {c b : Int} {t : List UInt8} (k : Nat) (hc : (x.toNat : Int) = c) (h : esc1 c = some b) : escR (k + 1) (esc (x :: t)) = .returned (.tuple #[.int .u8 b, .int .i64 ((k : Int) + 2), .int .i64 0]) := by
  simp [escR, esc, hc, h]
  omega
theorem rEsc_bad {x : UInt8} {t : List UInt8} (k : Nat) (h1 : ¬ (x.toNat : Int) = 120) (h : esc1 x.toNat = none) : escR (k + 1) (esc (x :: t)) = .returned (.tuple #[.int .u8 0, .int .i64 0, .int .i64 21]) := by
  simp [escR, esc, h, h1]
theorem rEsc_hex {x : UInt8} {t : List UInt8} (k : Nat) (hc : (x.toNat : Int) = 120) : escR (k + 1) (esc (x :: t)) = escR (k + 1) (hex2 t) := by
  simp [escR, esc, hc, esc1]

set_option linter.unusedVariables false in
set_option maxRecDepth 100000 in
set_option maxHeartbeats 4000000 in
theorem rEsc_any (s : ByteArray) (k : Nat) (w : World) (hs : s.size ≤ 4000000) (hk : k < s.size) :
    Calls Tryd.prog 55 #[.string s, .int .i64 k] w fun e w' => e = escR (k + 1) (esc (s.data.toList.drop (k + 1))) ∧ Below w.heap.size w w' := by
  by_cases h0 : k + 1 = s.size
  · have g0 : ((k : Int) + 1 == (s.size : Int)) = true := by simp; omega
    have R : escR (k + 1) (esc (s.data.toList.drop (k + 1))) = .returned (.tuple #[.int .u8 0, .int .i64 0, .int .i64 8]) := by
      rw [drop_none s _ (by omega)]; rfl
    rw [R]
    clear R
    go_enter Tryd.func55, Tryd.ntmps55
    go_wp2
    go_ret3
    exact ⟨rfl, Below.refl _ w⟩
  · have hk1 : k + 1 < s.size := by omega
    have g0 : ((k : Int) + 1 == (s.size : Int)) = false := by simp; omega
    obtain ⟨x, hx⟩ : ∃ x : UInt8, s[k + 1] = x := ⟨_, rfl⟩
    have D := drop_cons s (k + 1) hk1
    rw [hx] at D
    obtain ⟨Q, hQ⟩ : ∃ Q, Q = escR (k + 1) (esc (s.data.toList.drop (k + 1))) := ⟨_, rfl⟩
    rw [← hQ]
    rw [D] at hQ
    have HQ := Lib.hid hQ
    clear hQ D
    go_enter Tryd.func55, Tryd.ntmps55
    go_wp2
    go_loopw [9] (fun v wr => ∃ i : Nat, v = .int .i64 i ∧ i ≤ 9 ∧ Hid (NeL i x.toNat) ∧ Below w.heap.size w wr) (fun v _ => 9 - (intOf v).toNat)
    case atStart => exact ⟨0, rfl, by omega, Lib.hid (fun j hj => absurd hj (by omega)), Below.refl _ w⟩
    case round =>
      obtain ⟨i, rfl, hi, HN, hbw⟩ := hrel
      match i, hi with
      | 0, _ =>
        by_cases hx0 : (x.toNat : Int) = 110
        · have hb : ((x.toNat : Int) == (((ByteArray.mk #[110, 116, 114, 48, 92, 39, 34, 96, 36])[0]'(by decide)).toNat : Int)) = true := by show ((x.toNat : Int) == 110) = true; simpa using hx0
          have hQ2 := HQ.out
          rw [rEsc_one (c := 110) (b := 10) k hx0 (by decide)] at hQ2
          clear HQ HN hx0
          go_wp2
          go_quiet (fail)
          go_wp2
          go_ret3
          exact ⟨hQ2.symm, below_drawn hbw _⟩
        · have hb : ((x.toNat : Int) == (((ByteArray.mk #[110, 116, 114, 48, 92, 39, 34, 96, 36])[0]'(by decide)).toNat : Int)) = false := by show ((x.toNat : Int) == 110) = false; simpa using hx0
          have HM := Lib.hid (ne_step HN.out hx0)
          clear HN hx0
          go_wp2
          go_quiet (fail)
          go_wp2
          go_roundw
          case rel => exact ⟨0+1, by go_num, by omega, HM, below_drawn hbw _⟩
          case measure => first | decide | simp [intOf]
      | 1, _ =>
        by_cases hx0 : (x.toNat : Int) = 116
        · have hb : ((x.toNat : Int) == (((ByteArray.mk #[110, 116, 114, 48, 92, 39, 34, 96, 36])[1]'(by decide)).toNat : Int)) = true := by show ((x.toNat : Int) == 116) = true; simpa using hx0
          have hQ2 := HQ.out
          rw [rEsc_one (c := 116) (b := 9) k hx0 (by decide)] at hQ2
          clear HQ HN hx0
          go_wp2
          go_quiet (fail)
          go_wp2
          go_ret3
          exact ⟨hQ2.symm, below_drawn hbw _⟩
        · have hb : ((x.toNat : Int) == (((ByteArray.mk #[110, 116, 114, 48, 92, 39, 34, 96, 36])[1]'(by decide)).toNat : Int)) = false := by show ((x.toNat : Int) == 116) = false; simpa using hx0
          have HM := Lib.hid (ne_step HN.out hx0)
          clear HN hx0
          go_wp2
          go_quiet (fail)
          go_wp2
          go_roundw
          case rel => exact ⟨1+1, by go_num, by omega, HM, below_drawn hbw _⟩
          case measure => first | decide | simp [intOf]
      | 2, _ =>
        by_cases hx0 : (x.toNat : Int) = 114
        · have hb : ((x.toNat : Int) == (((ByteArray.mk #[110, 116, 114, 48, 92, 39, 34, 96, 36])[2]'(by decide)).toNat : Int)) = true := by show ((x.toNat : Int) == 114) = true; simpa using hx0
          have hQ2 := HQ.out
          rw [rEsc_one (c := 114) (b := 13) k hx0 (by decide)] at hQ2
          clear HQ HN hx0
          go_wp2
          go_quiet (fail)
          go_wp2
          go_ret3
          exact ⟨hQ2.symm, below_drawn hbw _⟩
        · have hb : ((x.toNat : Int) == (((ByteArray.mk #[110, 116, 114, 48, 92, 39, 34, 96, 36])[2]'(by decide)).toNat : Int)) = false := by show ((x.toNat : Int) == 114) = false; simpa using hx0
          have HM := Lib.hid (ne_step HN.out hx0)
          clear HN hx0
          go_wp2
          go_quiet (fail)
          go_wp2
          go_roundw
          case rel => exact ⟨2+1, by go_num, by omega, HM, below_drawn hbw _⟩
          case measure => first | decide | simp [intOf]
      | 3, _ =>
        by_cases hx0 : (x.toNat : Int) = 48
        · have hb : ((x.toNat : Int) == (((ByteArray.mk #[110, 116, 114, 48, 92, 39, 34, 96, 36])[3]'(by decide)).toNat : Int)) = true := by show ((x.toNat : Int) == 48) = true; simpa using hx0
          have hQ2 := HQ.out
          rw [rEsc_one (c := 48) (b := 0) k hx0 (by decide)] at hQ2
          clear HQ HN hx0
          go_wp2
          go_quiet (fail)
          go_wp2
          go_ret3
          exact ⟨hQ2.symm, below_drawn hbw _⟩
        · have hb : ((x.toNat : Int) == (((ByteArray.mk #[110, 116, 114, 48, 92, 39, 34, 96, 36])[3]'(by decide)).toNat : Int)) = false := by show ((x.toNat : Int) == 48) = false; simpa using hx0
          have HM := Lib.hid (ne_step HN.out hx0)
          clear HN hx0
          go_wp2
          go_quiet (fail)
          go_wp2
          go_roundw
          case rel => exact ⟨3+1, by go_num, by omega, HM, below_drawn hbw _⟩
          case measure => first | decide | simp [intOf]
      | 4, _ =>
        by_cases hx0 : (x.toNat : Int) = 92
        · have hb : ((x.toNat : Int) == (((ByteArray.mk #[110, 116, 114, 48, 92, 39, 34, 96, 36])[4]'(by decide)).toNat : Int)) = true := by show ((x.toNat : Int) == 92) = true; simpa using hx0
          have hQ2 := HQ.out
          rw [rEsc_one (c := 92) (b := 92) k hx0 (by decide)] at hQ2
          clear HQ HN hx0
          go_wp2
          go_quiet (fail)
          go_wp2
          go_ret3
          exact ⟨hQ2.symm, below_drawn hbw _⟩
        · have hb : ((x.toNat : Int) == (((ByteArray.mk #[110, 116, 114, 48, 92, 39, 34, 96, 36])[4]'(by decide)).toNat : Int)) = false := by show ((x.toNat : Int) == 92) = false; simpa using hx0
          have HM := Lib.hid (ne_step HN.out hx0)
          clear HN hx0
          go_wp2
          go_quiet (fail)
          go_wp2
          go_roundw
          case rel => exact ⟨4+1, by go_num, by omega, HM, below_drawn hbw _⟩
          case measure => first | decide | simp [intOf]
      | 5, _ =>
        by_cases hx0 : (x.toNat : Int) = 39
        · have hb : ((x.toNat : Int) == (((ByteArray.mk #[110, 116, 114, 48, 92, 39, 34, 96, 36])[5]'(by decide)).toNat : Int)) = true := by show ((x.toNat : Int) == 39) = true; simpa using hx0
          have hQ2 := HQ.out
          rw [rEsc_one (c := 39) (b := 39) k hx0 (by decide)] at hQ2
          clear HQ HN hx0
          go_wp2
          go_quiet (fail)
          go_wp2
          go_ret3
          exact ⟨hQ2.symm, below_drawn hbw _⟩
        · have hb : ((x.toNat : Int) == (((ByteArray.mk #[110, 116, 114, 48, 92, 39, 34, 96, 36])[5]'(by decide)).toNat : Int)) = false := by show ((x.toNat : Int) == 39) = false; simpa using hx0
          have HM := Lib.hid (ne_step HN.out hx0)
          clear HN hx0
          go_wp2
          go_quiet (fail)
          go_wp2
          go_roundw
          case rel => exact ⟨5+1, by go_num, by omega, HM, below_drawn hbw _⟩
          case measure => first | decide | simp [intOf]
      | 6, _ =>
        by_cases hx0 : (x.toNat : Int) = 34
        · have hb : ((x.toNat : Int) == (((ByteArray.mk #[110, 116, 114, 48, 92, 39, 34, 96, 36])[6]'(by decide)).toNat : Int)) = true := by show ((x.toNat : Int) == 34) = true; simpa using hx0
          have hQ2 := HQ.out
          rw [rEsc_one (c := 34) (b := 34) k hx0 (by decide)] at hQ2
          clear HQ HN hx0
          go_wp2
          go_quiet (fail)
          go_wp2
          go_ret3
          exact ⟨hQ2.symm, below_drawn hbw _⟩
        · have hb : ((x.toNat : Int) == (((ByteArray.mk #[110, 116, 114, 48, 92, 39, 34, 96, 36])[6]'(by decide)).toNat : Int)) = false := by show ((x.toNat : Int) == 34) = false; simpa using hx0
          have HM := Lib.hid (ne_step HN.out hx0)
          clear HN hx0
          go_wp2
          go_quiet (fail)
          go_wp2
          go_roundw
          case rel => exact ⟨6+1, by go_num, by omega, HM, below_drawn hbw _⟩
          case measure => first | decide | simp [intOf]
      | 7, _ =>
        by_cases hx0 : (x.toNat : Int) = 96
        · have hb : ((x.toNat : Int) == (((ByteArray.mk #[110, 116, 114, 48, 92, 39, 34, 96, 36])[7]'(by decide)).toNat : Int)) = true := by show ((x.toNat : Int) == 96) = true; simpa using hx0
          have hQ2 := HQ.out
          rw [rEsc_one (c := 96) (b := 96) k hx0 (by decide)] at hQ2
          clear HQ HN hx0
          go_wp2
          go_quiet (fail)
          go_wp2
          go_ret3
          exact ⟨hQ2.symm, below_drawn hbw _⟩
        · have hb : ((x.toNat : Int) == (((ByteArray.mk #[110, 116, 114, 48, 92, 39, 34, 96, 36])[7]'(by decide)).toNat : Int)) = false := by show ((x.toNat : Int) == 96) = false; simpa using hx0
          have HM := Lib.hid (ne_step HN.out hx0)
          clear HN hx0
          go_wp2
          go_quiet (fail)
          go_wp2
          go_roundw
          case rel => exact ⟨7+1, by go_num, by omega, HM, below_drawn hbw _⟩
          case measure => first | decide | simp [intOf]
      | 8, _ =>
        by_cases hx0 : (x.toNat : Int) = 36
        · have hb : ((x.toNat : Int) == (((ByteArray.mk #[110, 116, 114, 48, 92, 39, 34, 96, 36])[8]'(by decide)).toNat : Int)) = true := by show ((x.toNat : Int) == 36) = true; simpa using hx0
          have hQ2 := HQ.out
          rw [rEsc_one (c := 36) (b := 36) k hx0 (by decide)] at hQ2
          clear HQ HN hx0
          go_wp2
          go_quiet (fail)
          go_wp2
          go_ret3
          exact ⟨hQ2.symm, below_drawn hbw _⟩
        · have hb : ((x.toNat : Int) == (((ByteArray.mk #[110, 116, 114, 48, 92, 39, 34, 96, 36])[8]'(by decide)).toNat : Int)) = false := by show ((x.toNat : Int) == 36) = false; simpa using hx0
          have HM := Lib.hid (ne_step HN.out hx0)
          clear HN hx0
          go_wp2
          go_quiet (fail)
          go_wp2
          go_roundw
          case rel => exact ⟨8+1, by go_num, by omega, HM, below_drawn hbw _⟩
          case measure => first | decide | simp [intOf]
      | 9, _ =>
        have hnone := ne_all HN.out
        clear HN
        by_cases h120 : (x.toNat : Int) = 120
        · have hb : ((x.toNat : Int) != 120) = false := by simpa using h120
          have hQ2 := HQ.out
          rw [rEsc_hex k h120] at hQ2
          have HR := Lib.hid hQ2
          clear hQ2 HQ hnone h120
          have e01 : ∀ c : UInt8, (0 : Int) ≤ c.toNat ∧ (c.toNat : Int) ≤ 255 := fun c => by have := c.toNat_lt; omega
          by_cases h1 : k + 2 = s.size
          · have g1 : ((k : Int) + 2 == (s.size : Int)) = true := by simp; omega
            have R : Q = .returned (.tuple #[.int .u8 0, .int .i64 0, .int .i64 8]) := by
              rw [HR.out, drop_none s _ (by omega)]; simp [hex2, escR]
            clear HR
            go_wp2
            refine wp_loop_rounds 1 ?_
            rw [rounds_succ]
            go_wp2
            go_ret3
            exact ⟨R.symm, hbw⟩
          · have g1 : ((k : Int) + 2 == (s.size : Int)) = false := by simp; omega
            have h1s : k + 2 < s.size := by omega
            obtain ⟨y, hy⟩ : ∃ y : UInt8, s[k + 2] = y := ⟨_, rfl⟩
            have HY := Lib.hid (fun W => rHex_any y.toNat W (e01 y).1 (e01 y).2)
            have D1 := drop_cons s (k + 2) h1s
            rw [hy] at D1
            have lo := hexV_lo y.toNat
            have a1 := hexV_hi y.toNat
            by_cases h2 : hexV y.toNat = -1
            · have R : Q = .returned (.tuple #[.int .u8 0, .int .i64 0, .int .i64 21]) := by
                rw [HR.out, D1]; simp [hex2, h2, escR]
              have gy : decide (hexV y.toNat < 0) = true := by rw [h2]; rfl
              clear HR D1
              go_wp2
              refine wp_loop_rounds 1 ?_
              rw [rounds_succ]
              go_wp2_with (go_at_call 54; refine (HY.out _).mono ?_; rintro e w' ⟨rfl, rfl⟩)
              go_ret3
              exact ⟨R.symm, hbw⟩
            · have a0 : 0 ≤ hexV y.toNat := by omega
              have gy : decide (hexV y.toNat < 0) = false := by simpa using a0
              by_cases h3 : k + 3 = s.size
              · have g3 : ((k : Int) + 3 == (s.size : Int)) = true := by simp; omega
                have R : Q = .returned (.tuple #[.int .u8 0, .int .i64 0, .int .i64 8]) := by
                  rw [HR.out, D1, drop_none s _ (by omega)]; simp [hex2, h2, escR]
                clear HR D1 h2 lo
                go_wp2
                refine wp_loop_rounds 2 ?_
                rw [rounds_succ]
                go_wp2_with (go_at_call 54; refine (HY.out _).mono ?_; rintro e w' ⟨rfl, rfl⟩)
                rw [rounds_succ]
                go_wp2
                go_ret3
                exact ⟨R.symm, hbw⟩
              · have g3 : ((k : Int) + 3 == (s.size : Int)) = false := by simp; omega
                have h3s : k + 3 < s.size := by omega
                obtain ⟨z, hz⟩ : ∃ z : UInt8, s[k + 3] = z := ⟨_, rfl⟩
                have HZ := Lib.hid (fun W => rHex_any z.toNat W (e01 z).1 (e01 z).2)
                have D2 := drop_cons s (k + 3) h3s
                rw [hz] at D2
                have lo2 := hexV_lo z.toNat
                have b1 := hexV_hi z.toNat
                by_cases h4 : hexV z.toNat = -1
                · have R : Q = .returned (.tuple #[.int .u8 0, .int .i64 0, .int .i64 21]) := by
                    rw [HR.out, D1, D2]; simp [hex2, h2, h4, escR]
                  have gz : decide (hexV z.toNat < 0) = true := by rw [h4]; rfl
                  clear HR D1 D2 h2 lo h4 lo2
                  go_wp2
                  refine wp_loop_rounds 2 ?_
                  rw [rounds_succ]
                  go_wp2_with (go_at_call 54; refine (HY.out _).mono ?_; rintro e w' ⟨rfl, rfl⟩)
                  rw [rounds_succ]
                  go_wp2_with (go_at_call 54; refine (HZ.out _).mono ?_; rintro e w' ⟨rfl, rfl⟩)
                  go_ret3
                  exact ⟨R.symm, hbw⟩
                · have b0 : 0 ≤ hexV z.toNat := by omega
                  have gz : decide (hexV z.toNat < 0) = false := by simpa using b0
                  have R : Q = .returned (.tuple #[.int .u8 (16 * hexV y.toNat + hexV z.toNat), .int .i64 ((k : Int) + 4), .int .i64 0]) := by
                    rw [HR.out, D1, D2]; simp [hex2, h2, h4, escR]; omega
                  clear HR D1 D2 h2 lo h4 lo2
                  go_wp2
                  refine wp_loop_rounds 3 ?_
                  rw [rounds_succ]
                  go_wp2_with (go_at_call 54; refine (HY.out _).mono ?_; rintro e w' ⟨rfl, rfl⟩)
                  rw [rounds_succ]
                  go_wp2_with (go_at_call 54; refine (HZ.out _).mono ?_; rintro e w' ⟨rfl, rfl⟩)
                  rw [rounds_succ]
                  go_wp2
                  go_ret3
                  exact ⟨R.symm, hbw⟩
        · have hb : ((x.toNat : Int) != 120) = true := by simpa using h120
          have hQ2 := HQ.out
          rw [rEsc_bad k h120 hnone] at hQ2
          clear HQ hnone h120
          go_wp2
          go_ret3
          exact ⟨hQ2.symm, hbw⟩
      | i + 10, h => exact absurd h (by omega)
end Go.Proofs.YtjbnobcnlmkbmaaDoor
