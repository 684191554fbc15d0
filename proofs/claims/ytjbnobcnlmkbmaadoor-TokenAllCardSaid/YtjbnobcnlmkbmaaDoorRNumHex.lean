/-
  number of the reference at this translation.
-/
import Derived.Test.YtjbnobcnlmkbmaaDoorRNum
import Derived.Deep.LoopGhost
namespace Go.Proofs.YtjbnobcnlmkbmaaDoor
open Go.RowKit

def nuR (E : Nat) (o : Option Int) : Ending :=
  match o with
  | some v => .returned (.tuple #[.int .i64 v, .int .i64 E, .int .i64 0])
  | none => .returned (.tuple #[.int .i64 0, .int .i64 0, .int .i64 22])
def LetR (c : UInt8) (b : Bool) : Prop := ∀ W, Calls Tryd.prog 34 #[.int .u8 c.toNat] W fun e w' => e = .returned (.bool b) ∧ W = w'
def DigR (c : UInt8) (b : Bool) : Prop := ∀ W, Calls Tryd.prog 35 #[.int .u8 c.toNat] W fun e w' => e = .returned (.bool b) ∧ W = w'
def HexR (c : UInt8) (v : Int) : Prop := ∀ W, Calls Tryd.prog 54 #[.int .u8 c.toNat] W fun e w' => e = .returned (.int .i64 v) ∧ W = w'
theorem c01 (c : UInt8) : (0 : Int) ≤ c.toNat ∧ (c.toNat : Int) ≤ 255 := by have := c.toNat_lt; omega
theorem let_r (c : UInt8) : LetR c (letB c.toNat) := fun W => rLetter_any c.toNat W (c01 c).1 (c01 c).2
theorem dig_r (c : UInt8) : DigR c (digB c.toNat) := fun W => rDigit_any c.toNat W (c01 c).1 (c01 c).2
theorem hex_r (c : UInt8) : HexR c (hexV c.toNat) := fun W => rHex_any c.toNat W (c01 c).1 (c01 c).2

set_option linter.unusedVariables false in
set_option maxRecDepth 100000 in
set_option maxHeartbeats 4000000 in
theorem rNum_hex (s : ByteArray) (k : Nat) (w : World) (hs : s.size ≤ 4000000) (hk : k < s.size) (hp : Lib.hasPrefix (s.data.toList.drop k) [48, 120] = true) :
    Calls Tryd.prog 37 #[.string s, .int .i64 k] w fun e w' => e = nuR (numE s k) (numO (s.data.toList.drop k)) ∧ w = w' := by
  obtain ⟨R, hR⟩ : ∃ R, R = numO (s.data.toList.drop k) := ⟨_, rfl⟩
  rw [← hR]
  rw [num_hex hp, List.drop_drop] at hR
  have hk2 : k + 2 ≤ s.size := by
    have := pre_len hp
    simp at this
    omega
  obtain ⟨E, hE⟩ : ∃ E, E = numE s k := ⟨_, rfl⟩
  rw [← hE]
  have hE2 : (k + 2) + runLen idcB (s.data.toList.drop (k + 2)) = E := by
    rw [hE]
    unfold numE
    obtain ⟨t, ht⟩ := pre2 hp
    have h2 : s.data.toList.drop (k + 2) = t := by rw [← List.drop_drop, ht]; rfl
    rw [ht, h2, run_yes (by decide), run_yes (by decide)]
    omega
  clear hE
  have HP := Lib.hid (fun W => begins_at s ⟨#[48, 120]⟩ k true W hs (by decide) (by omega) hp)
  have HR := Lib.hid hR
  have HE := Lib.hid hE2
  clear hR hE2 hp
  go_enter Tryd.func37, Tryd.ntmps37
  go_wp2_with fail
  refine (HP.out _).mono ?_
  rintro e w' ⟨rfl, rfl⟩
  clear HP
  go_wp2
  go_loopg [7, 8] (s.size - (k + 2)) (fun g v u wz => ∃ (j : Nat) (n : Int), u = .int .i64 j ∧ v = .int .i64 n ∧ j + g = s.size ∧ k + 2 ≤ j ∧ 0 ≤ n ∧ n ≤ 288230376151711744 ∧ (j = k + 2 → n = 0) ∧ Hid (j + runLen idcB (s.data.toList.drop j) = E) ∧ Hid (R = nuS 16 (j == k + 2) (idT (s.data.toList.drop j)) n) ∧ w = wz)
  case atStart => exact ⟨k + 2, 0, by go_num, rfl, by omega, by omega, by omega, by omega, fun _ => rfl, HE, Lib.hid (by rw [HR.out]; simp), rfl⟩
  case round =>
    obtain ⟨j, n, rfl, rfl, hjg, hkj, hn0, hn1, hnf, HI, HJ, rfl⟩ := hrel
    clear HR HE
    by_cases hjs : j < s.size
    · obtain ⟨c, hc⟩ : ∃ c : UInt8, s[j] = c := ⟨_, rfl⟩
      have hj1 : decide (j < s.size) = true := by simpa using hjs
      have hdr := drop_cons s j hjs
      rw [hc] at hdr
      have HX := Lib.hid (hex_r c)
      have HL := Lib.hid (let_r c)
      have HD := Lib.hid (dig_r c)
      have hI := HI.out
      have hJ := HJ.out
      rw [hdr] at hI hJ
      have hlo := hexV_lo c.toNat
      have hhi := hexV_hi c.toNat
      obtain ⟨hx1, hx2⟩ := hex_dg c.toNat
      obtain ⟨x, hx⟩ : ∃ x, x = hexV c.toNat := ⟨_, rfl⟩
      rw [← hx] at HX hlo hhi hx1 hx2
      by_cases hx0 : 0 ≤ x
      · obtain ⟨e1, e2, e3⟩ := hx1 hx0
        have gx : decide (x < 0) = false := by simpa using hx0
        have gx2 : decide (0 ≤ x) = true := by simpa using hx0
        rw [idT_yes e3] at hJ
        rw [run_yes e3] at hI
        by_cases hn : n ≤ 9007199254740992
        · have gn : decide (n ≤ 9007199254740992) = true := by simpa using hn
          rw [nu_step e2 hn hn0 (by omega), e1] at hJ
          have HI2 := Lib.hid (show j + 1 + runLen idcB (s.data.toList.drop (j + 1)) = E by omega)
          have hff : ((j + 1 == k + 2) : Bool) = false := by simp; omega
          rw [← hff] at hJ
          have HJ2 := Lib.hid (show R = nuS 16 (j + 1 == k + 2) (idT (s.data.toList.drop (j + 1))) (16 * n + x) by rw [hJ, Int.mul_comm])
          clear hI hJ hdr hx1 hx2 e1 e2 e3 hff HI HJ HL HD hx hnf
          go_wp2_with (go_at_call 54; refine (HX.out _).mono ?_; rintro e w' ⟨rfl, rfl⟩)
          go_roundg (s.size - (j + 1))
          case measure => omega
          case rel => exact ⟨j + 1, 16 * n + x, by go_num, rfl, by omega, by omega, by omega, by omega, fun h => by omega, HI2, HJ2, rfl⟩
        · have gn : decide (n ≤ 9007199254740992) = false := by simpa using hn
          have gn2 : decide (9007199254740992 < n) = true := by simp; omega
          have hjk : ¬ j = k + 2 := fun h => by have := hnf h; omega
          have gj : ((j : Int) == (k : Int) + 2) = false := by simp; omega
          rw [nu_over hn] at hJ
          have HN := Lib.hid hJ
          clear hI hJ hdr hx1 hx2 e1 e2 e3 HI HJ HL HD hx hnf
          go_wp2_with (go_at_call 54; refine (HX.out _).mono ?_; rintro e w' ⟨rfl, rfl⟩)
          go_ret3
          exact ⟨by rw [HN.out]; rfl, rfl⟩
      · have e2 := hx2 (by omega)
        have gx : decide (x < 0) = true := by simp; omega
        have gx2 : decide (0 ≤ x) = false := by simpa using hx0
        by_cases hjk : j = k + 2
        · subst hjk
          have hN : R = none := by
            rw [hJ]
            cases hi : idcB c.toNat with
            | true => rw [idT_yes hi]; exact nu_far e2
            | false => rw [idT_no hi, show ((k + 2 == k + 2) : Bool) = true from by simp]; exact nu_empty
          have HN := Lib.hid hN
          clear hI hJ hdr hx1 hx2 e2 HI HJ HL HD hx hnf hN
          go_wp2_with (go_at_call 54; refine (HX.out _).mono ?_; rintro e w' ⟨rfl, rfl⟩)
          go_ret3
          exact ⟨by rw [HN.out]; rfl, rfl⟩
        · have gj : ((j : Int) == (k : Int) + 2) = false := by simp; omega
          have hff : ((j == k + 2) : Bool) = false := by simpa using hjk
          rw [hff] at hJ
          by_cases hn : n ≤ 9007199254740992
          · have gn2 : decide (9007199254740992 < n) = false := by simpa using hn
            have hi0 : idcB c.toNat = (letB c.toNat || digB c.toNat) := rfl
            cases hl : letB c.toNat <;> cases hd : digB c.toNat
            case false.false =>
              rw [hl, hd] at hi0
              rw [idT_no hi0, nu_end hn] at hJ
              rw [run_no hi0] at hI
              have hjE : j = E := by omega
              subst hjE
              rw [hl] at HL
              rw [hd] at HD
              have HN := Lib.hid hJ
              clear hI hJ hdr hx1 hx2 e2 HI HJ hx hnf hi0
              go_wp2_with (first | (go_at_call 54; refine (HX.out _).mono ?_; rintro e w' ⟨rfl, rfl⟩) | (go_at_call 34; refine (HL.out _).mono ?_; rintro e w' ⟨rfl, rfl⟩) | (go_at_call 35; refine (HD.out _).mono ?_; rintro e w' ⟨rfl, rfl⟩))
              go_ret3
              exact ⟨by rw [HN.out]; rfl, rfl⟩
            all_goals
              rw [hl, hd] at hi0
              rw [idT_yes hi0, nu_far e2] at hJ
              rw [hl] at HL
              rw [hd] at HD
              have HN := Lib.hid hJ
              clear hI hJ hdr hx1 hx2 e2 HI HJ hx hnf hi0
              go_wp2_with (first | (go_at_call 54; refine (HX.out _).mono ?_; rintro e w' ⟨rfl, rfl⟩) | (go_at_call 34; refine (HL.out _).mono ?_; rintro e w' ⟨rfl, rfl⟩) | (go_at_call 35; refine (HD.out _).mono ?_; rintro e w' ⟨rfl, rfl⟩))
              go_ret3
              exact ⟨by rw [HN.out]; rfl, rfl⟩
          · have gn2 : decide (9007199254740992 < n) = true := by simp; omega
            rw [nu_over hn] at hJ
            have HN := Lib.hid hJ
            clear hI hJ hdr hx1 hx2 e2 HI HJ HL HD hx hnf
            go_wp2_with (go_at_call 54; refine (HX.out _).mono ?_; rintro e w' ⟨rfl, rfl⟩)
            go_ret3
            exact ⟨by rw [HN.out]; rfl, rfl⟩
    · have hje : j = s.size := by omega
      have hj1 : decide (j < s.size) = false := by simpa using hjs
      have hI := HI.out
      have hJ := HJ.out
      rw [drop_none s j (by omega)] at hI hJ
      rw [run_nil] at hI
      rw [idT_nil] at hJ
      by_cases hjk : j = k + 2
      · have gj : ((j : Int) == (k : Int) + 2) = true := by simp; omega
        rw [show ((j == k + 2) : Bool) = true from by simpa using hjk, nu_empty] at hJ
        have HN := Lib.hid hJ
        clear hI hJ HI HJ hnf
        go_wp2
        go_ret3
        exact ⟨by rw [HN.out]; rfl, rfl⟩
      · have gj : ((j : Int) == (k : Int) + 2) = false := by simp; omega
        rw [show ((j == k + 2) : Bool) = false from by simpa using hjk] at hJ
        by_cases hn : n ≤ 9007199254740992
        · have gn2 : decide (9007199254740992 < n) = false := by simpa using hn
          rw [nu_end hn] at hJ
          have hjE : j = E := by omega
          subst hjE
          have HN := Lib.hid hJ
          clear hI hJ HI HJ hnf
          go_wp2
          go_ret3
          exact ⟨by rw [HN.out]; rfl, rfl⟩
        · have gn2 : decide (9007199254740992 < n) = true := by simp; omega
          rw [nu_over hn] at hJ
          have HN := Lib.hid hJ
          clear hI hJ HI HJ hnf
          go_wp2
          go_ret3
          exact ⟨by rw [HN.out]; rfl, rfl⟩
end Go.Proofs.YtjbnobcnlmkbmaaDoor
