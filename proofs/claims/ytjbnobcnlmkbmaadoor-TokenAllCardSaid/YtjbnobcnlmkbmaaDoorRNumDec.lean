/-
  number of the reference at this translation: a decimal numeral; and both kinds.
-/
import Derived.Test.YtjbnobcnlmkbmaaDoorRNumHex
namespace Go.Proofs.YtjbnobcnlmkbmaaDoor
open Go.RowKit

theorem str_dig {c d : UInt8} {t : List UInt8} (hc : (c.toNat : Int) = 48) (hd : ¬ (d.toNat : Int) = 120) : strD (c :: d :: t) = true := by
  simp [strD, hc, hd]
theorem str_not {c : UInt8} {t : List UInt8} (hc : ¬ (c.toNat : Int) = 48) : strD (c :: t) = false := by
  match t with
  | [] => rfl
  | d :: t => simp [strD, hc]

set_option linter.unusedVariables false in
set_option maxRecDepth 100000 in
set_option maxHeartbeats 4000000 in
theorem rNum_dec (s : ByteArray) (k : Nat) (c0 : UInt8) (w : World) (hs : s.size ≤ 4000000) (hk : k < s.size) (hc0 : s[k] = c0) (hd0 : digB c0.toNat = true) (hp : Lib.hasPrefix (s.data.toList.drop k) [48, 120] = false) :
    Calls Tryd.prog 37 #[.string s, .int .i64 k] w fun e w' => e = nuR (numE s k) (numO (s.data.toList.drop k)) ∧ w = w' := by
  obtain ⟨R, hR⟩ : ∃ R, R = numO (s.data.toList.drop k) := ⟨_, rfl⟩
  rw [← hR]
  have HP := Lib.hid (fun W => begins_at s ⟨#[48, 120]⟩ k false W hs (by decide) (by omega) hp)
  have hdk := drop_cons s k hk
  rw [hc0] at hdk
  rw [hdk] at hp
  rw [hdk, num_dec hd0 hp] at hR
  obtain ⟨E, hE⟩ : ∃ E, E = numE s k := ⟨_, rfl⟩
  rw [← hE]
  unfold numE at hE
  obtain ⟨Z, hZ⟩ : ∃ Z, Z = strD (c0 :: idT (s.data.toList.drop (k + 1))) := ⟨_, rfl⟩
  rw [← hZ] at hR
  have hi0 := ((dig_dg c0.toNat).1 hd0).2.2
  obtain ⟨S, hS⟩ : ∃ S, S = nuS 10 false (c0 :: idT (s.data.toList.drop (k + 1))) 0 := ⟨_, rfl⟩
  rw [← hS] at hR
  have hS2 : S = nuS 10 false (idT (s.data.toList.drop k)) 0 := by rw [hdk, idT_yes hi0]; exact hS
  have HR := Lib.hid hR
  have HE := Lib.hid hE.symm
  have HZ := Lib.hid hZ
  have HS := Lib.hid hS2
  have HH := Lib.hid hp
  clear hR hE hZ hS hS2 hp hdk
  go_enter Tryd.func37, Tryd.ntmps37
  go_wp2_with fail
  refine (HP.out _).mono ?_
  rintro e w' ⟨rfl, rfl⟩
  clear HP
  go_wp2
  go_loopg [7, 8] (s.size - k) (fun g v u wz => ∃ (j : Nat) (n : Int), u = .int .i64 j ∧ v = .int .i64 n ∧ j + g = s.size ∧ k ≤ j ∧ 0 ≤ n ∧ n ≤ 288230376151711744 ∧ (j = k → n = 0) ∧ Hid (j + runLen idcB (s.data.toList.drop j) = E) ∧ Hid (S = nuS 10 false (idT (s.data.toList.drop j)) n) ∧ Hid ((c0.toNat : Int) = 48 → k + 1 < j → Z = true) ∧ w = wz)
  case atStart => exact ⟨k, 0, rfl, rfl, by omega, by omega, by omega, by omega, fun _ => rfl, HE, HS, Lib.hid (fun _ h => absurd h (by omega)), rfl⟩
  case round =>
    obtain ⟨j, n, rfl, rfl, hjg, hkj, hn0, hn1, hnf, HI, HJ, HK, rfl⟩ := hrel
    clear HS HE
    by_cases hjs : j < s.size
    · obtain ⟨c, hc⟩ : ∃ c : UInt8, s[j] = c := ⟨_, rfl⟩
      have hj1 : decide (j < s.size) = true := by simpa using hjs
      have hdr := drop_cons s j hjs
      rw [hc] at hdr
      have HL := Lib.hid (let_r c)
      have HD := Lib.hid (dig_r c)
      have hI := HI.out
      have hJ := HJ.out
      rw [hdr] at hI hJ
      obtain ⟨hx1, hx2⟩ := dig_dg c.toNat
      cases hd : digB c.toNat with
      | true =>
        obtain ⟨e1, e2, e3⟩ := hx1 hd
        rw [hd] at HD
        rw [idT_yes e3] at hJ
        rw [run_yes e3] at hI
        by_cases hn : n ≤ 9007199254740992
        · have gn : decide (n ≤ 9007199254740992) = true := by simpa using hn
          rw [nu_step e2 hn hn0 (by omega), e1] at hJ
          have hcb : 48 ≤ (c.toNat : Int) ∧ (c.toNat : Int) ≤ 57 := by simpa [digB] using hd
          have HI2 := Lib.hid (show j + 1 + runLen idcB (s.data.toList.drop (j + 1)) = E by omega)
          have HJ2 := Lib.hid (show S = nuS 10 false (idT (s.data.toList.drop (j + 1))) (10 * n + (c.toNat : Int) - 48) by rw [hJ]; congr 1; omega)
          have HK2 : Hid ((c0.toNat : Int) = 48 → k + 1 < j + 1 → Z = true) := Lib.hid (fun h48 h => by
            by_cases hjk : j = k + 1
            · subst hjk
              rw [HZ.out, hdr, idT_yes e3]
              exact str_dig h48 (by omega)
            · exact HK.out h48 (by omega))
          clear hI hJ hdr hx1 hx2 e1 e2 e3 HI HJ HL HK HZ HR HH hnf hd hi0 hd0
          go_wp2_with (go_at_call 35; refine (HD.out _).mono ?_; rintro e w' ⟨rfl, rfl⟩)
          go_roundg (s.size - (j + 1))
          case measure => omega
          case rel => exact ⟨j + 1, 10 * n + (c.toNat : Int) - 48, by go_num, rfl, by omega, by omega, by omega, by omega, fun h => by omega, HI2, HJ2, HK2, rfl⟩
        · have gn : decide (n ≤ 9007199254740992) = false := by simpa using hn
          have gn2 : decide (9007199254740992 < n) = true := by simp; omega
          rw [nu_over hn] at hJ
          have hN : R = none := by rw [HR.out, hJ]; split <;> rfl
          have HN := Lib.hid hN
          clear hI hJ hdr hx1 hx2 e1 e2 e3 HI HJ HL HK HZ HR HH hnf hN hd hi0 hd0
          by_cases g1 : k + 1 < j
          · have gk : decide (k + 1 < j) = true := by simpa using g1
            cases g48 : ((c0.toNat : Int) == 48)
            all_goals
              go_wp2_with (go_at_call 35; refine (HD.out _).mono ?_; rintro e w' ⟨rfl, rfl⟩)
              go_ret3
              exact ⟨by rw [HN.out]; rfl, rfl⟩
          · have gk : decide (k + 1 < j) = false := by simpa using g1
            go_wp2_with (go_at_call 35; refine (HD.out _).mono ?_; rintro e w' ⟨rfl, rfl⟩)
            go_ret3
            exact ⟨by rw [HN.out]; rfl, rfl⟩
      | false =>
        have e2 := hx2 hd
        have hkj1 : k < j := by
          rcases Nat.lt_or_ge k j with h | h
          · exact h
          · have : j = k := by omega
            subst this
            rw [hc0] at hc
            subst hc
            rw [hd0] at hd
            cases hd
        rw [hd] at HD
        have hic : idcB c.toNat = (letB c.toNat || digB c.toNat) := rfl
        rw [hd, Bool.or_false] at hic
        cases hl : letB c.toNat with
        | false =>
          rw [hl] at hic HL
          rw [idT_no hic] at hJ
          rw [run_no hic] at hI
          have hjE : j = E := by omega
          subst hjE
          have hD : idT (s.data.toList.drop j) = [] := by rw [hdr]; exact idT_no hic
          clear hx1 hx2 e2 hd hd0 hi0 hic
          have hz : ¬ (k + 1 < j ∧ (c0.toNat : Int) = 48) → Z = false := by
            intro hnot
            by_cases h48 : (c0.toNat : Int) = 48
            · have hjk : j = k + 1 := by
                by_cases h : k + 1 < j
                · exact absurd ⟨h, h48⟩ hnot
                · omega
              subst hjk
              rw [HZ.out, hD]
              rfl
            · rw [HZ.out]
              exact str_not h48
          by_cases hn : n ≤ 9007199254740992
          · have gn2 : decide (9007199254740992 < n) = false := by simpa using hn
            rw [nu_end hn] at hJ
            have hR := HR.out
            rw [hJ] at hR
            have HKz := HK.out
            clear hI hJ hdr HI HJ HK HZ HH hnf hD HR
            by_cases g1 : k + 1 < j
            · have gk : decide (k + 1 < j) = true := by simpa using g1
              cases g48 : ((c0.toNat : Int) == 48) with
              | true =>
                rw [HKz (by simpa using g48) g1, if_pos rfl] at hR
                have HN := Lib.hid hR
                clear hR hz HKz
                go_wp2_with (first | (go_at_call 34; refine (HL.out _).mono ?_; rintro e w' ⟨rfl, rfl⟩) | (go_at_call 35; refine (HD.out _).mono ?_; rintro e w' ⟨rfl, rfl⟩))
                go_ret3
                exact ⟨by rw [HN.out]; rfl, rfl⟩
              | false =>
                rw [hz (fun h => by have := h.2; simp at g48; omega), if_neg (by simp)] at hR
                have HN := Lib.hid hR
                clear hR hz HKz
                go_wp2_with (first | (go_at_call 34; refine (HL.out _).mono ?_; rintro e w' ⟨rfl, rfl⟩) | (go_at_call 35; refine (HD.out _).mono ?_; rintro e w' ⟨rfl, rfl⟩))
                go_ret3
                exact ⟨by rw [HN.out]; rfl, rfl⟩
            · have gk : decide (k + 1 < j) = false := by simpa using g1
              rw [hz (fun h => g1 h.1), if_neg (by simp)] at hR
              have HN := Lib.hid hR
              clear hR hz HKz
              go_wp2_with (first | (go_at_call 34; refine (HL.out _).mono ?_; rintro e w' ⟨rfl, rfl⟩) | (go_at_call 35; refine (HD.out _).mono ?_; rintro e w' ⟨rfl, rfl⟩))
              go_ret3
              exact ⟨by rw [HN.out]; rfl, rfl⟩
          · have gn2 : decide (9007199254740992 < n) = true := by simp; omega
            rw [nu_over hn] at hJ
            have hN : R = none := by rw [HR.out, hJ]; split <;> rfl
            have HN := Lib.hid hN
            clear hI hJ hdr HI HJ HK HZ HH hnf hD HR hN hz
            by_cases g1 : k + 1 < j
            · have gk : decide (k + 1 < j) = true := by simpa using g1
              cases g48 : ((c0.toNat : Int) == 48)
              all_goals
                go_wp2_with (first | (go_at_call 34; refine (HL.out _).mono ?_; rintro e w' ⟨rfl, rfl⟩) | (go_at_call 35; refine (HD.out _).mono ?_; rintro e w' ⟨rfl, rfl⟩))
                go_ret3
                exact ⟨by rw [HN.out]; rfl, rfl⟩
            · have gk : decide (k + 1 < j) = false := by simpa using g1
              go_wp2_with (first | (go_at_call 34; refine (HL.out _).mono ?_; rintro e w' ⟨rfl, rfl⟩) | (go_at_call 35; refine (HD.out _).mono ?_; rintro e w' ⟨rfl, rfl⟩))
              go_ret3
              exact ⟨by rw [HN.out]; rfl, rfl⟩

        | true =>
          rw [hl] at hic HL
          rw [idT_yes hic, nu_far e2] at hJ
          have hN : R = none := by rw [HR.out, hJ]; split <;> rfl
          have HN := Lib.hid hN
          clear hI hJ hdr hx1 hx2 e2 HI HJ HK HZ HR HH hnf hN hd hi0 hd0 hic
          cases gn2 : decide (9007199254740992 < n)
          all_goals
            by_cases g1 : k + 1 < j
            · have gk : decide (k + 1 < j) = true := by simpa using g1
              cases g48 : ((c0.toNat : Int) == 48)
              all_goals
                go_wp2_with (first | (go_at_call 34; refine (HL.out _).mono ?_; rintro e w' ⟨rfl, rfl⟩) | (go_at_call 35; refine (HD.out _).mono ?_; rintro e w' ⟨rfl, rfl⟩))
                go_ret3
                exact ⟨by rw [HN.out]; rfl, rfl⟩
            · have gk : decide (k + 1 < j) = false := by simpa using g1
              go_wp2_with (first | (go_at_call 34; refine (HL.out _).mono ?_; rintro e w' ⟨rfl, rfl⟩) | (go_at_call 35; refine (HD.out _).mono ?_; rintro e w' ⟨rfl, rfl⟩))
              go_ret3
              exact ⟨by rw [HN.out]; rfl, rfl⟩
    · have hje : j = s.size := by omega
      have hkj1 : k < j := by omega
      have hj1 : decide (j < s.size) = false := by simpa using hjs
      have hI := HI.out
      have hJ := HJ.out
      have hdr := drop_none s j (by omega)
      rw [hdr] at hI hJ
      rw [run_nil] at hI
      rw [idT_nil] at hJ
      have hjE : j = E := by omega
      subst hjE
      have hD : idT (s.data.toList.drop j) = [] := by rw [hdr]; rfl
      clear hd0 hi0 hje
      have hz : ¬ (k + 1 < j ∧ (c0.toNat : Int) = 48) → Z = false := by
        intro hnot
        by_cases h48 : (c0.toNat : Int) = 48
        · have hjk : j = k + 1 := by
            by_cases h : k + 1 < j
            · exact absurd ⟨h, h48⟩ hnot
            · omega
          subst hjk
          rw [HZ.out, hD]
          rfl
        · rw [HZ.out]
          exact str_not h48
      by_cases hn : n ≤ 9007199254740992
      · have gn2 : decide (9007199254740992 < n) = false := by simpa using hn
        rw [nu_end hn] at hJ
        have hR := HR.out
        rw [hJ] at hR
        have HKz := HK.out
        clear hI hJ hdr HI HJ HK HZ HH hnf hD HR
        by_cases g1 : k + 1 < j
        · have gk : decide (k + 1 < j) = true := by simpa using g1
          cases g48 : ((c0.toNat : Int) == 48) with
          | true =>
            rw [HKz (by simpa using g48) g1, if_pos rfl] at hR
            have HN := Lib.hid hR
            clear hR hz HKz
            go_wp2
            go_ret3
            exact ⟨by rw [HN.out]; rfl, rfl⟩
          | false =>
            rw [hz (fun h => by have := h.2; simp at g48; omega), if_neg (by simp)] at hR
            have HN := Lib.hid hR
            clear hR hz HKz
            go_wp2
            go_ret3
            exact ⟨by rw [HN.out]; rfl, rfl⟩
        · have gk : decide (k + 1 < j) = false := by simpa using g1
          rw [hz (fun h => g1 h.1), if_neg (by simp)] at hR
          have HN := Lib.hid hR
          clear hR hz HKz
          go_wp2
          go_ret3
          exact ⟨by rw [HN.out]; rfl, rfl⟩
      · have gn2 : decide (9007199254740992 < n) = true := by simp; omega
        rw [nu_over hn] at hJ
        have hN : R = none := by rw [HR.out, hJ]; split <;> rfl
        have HN := Lib.hid hN
        clear hI hJ hdr HI HJ HK HZ HH hnf hD HR hN hz
        by_cases g1 : k + 1 < j
        · have gk : decide (k + 1 < j) = true := by simpa using g1
          cases g48 : ((c0.toNat : Int) == 48)
          all_goals
            go_wp2
            go_ret3
            exact ⟨by rw [HN.out]; rfl, rfl⟩
        · have gk : decide (k + 1 < j) = false := by simpa using g1
          go_wp2
          go_ret3
          exact ⟨by rw [HN.out]; rfl, rfl⟩
theorem rNum_any (s : ByteArray) (k : Nat) (c0 : UInt8) (w : World) (hs : s.size ≤ 4000000) (hk : k < s.size) (hc0 : s[k] = c0) (hd0 : digB c0.toNat = true) :
    Calls Tryd.prog 37 #[.string s, .int .i64 k] w fun e w' => e = nuR (numE s k) (numO (s.data.toList.drop k)) ∧ w = w' := by
  cases hp : Lib.hasPrefix (s.data.toList.drop k) [48, 120] with
  | true => exact rNum_hex s k w hs hk hp
  | false => exact rNum_dec s k c0 w hs hk hc0 hd0 hp
end Go.Proofs.YtjbnobcnlmkbmaaDoor
