/-
  blank, worth and Count of the reference at this translation.
-/
import Derived.Test.YtokpmpmlbmpnmaaDoorDigits
import Derived.LoopTactic
namespace Go.Proofs.YtokpmpmlbmpnmaaDoor
open Go.RowKit

def blB (c : Int) : Bool := c == 9 || (c == 10 || (c == 13 || c == 32))
set_option maxHeartbeats 1000000 in
theorem blank_any (c : Int) (w : World) : Calls Tryd.prog 44 #[.int .u8 c] w fun e w' => e = .returned (.bool (blB c)) ∧ w = w' := by
  unfold blB
  cases h1 : (c == 9) <;> cases h2 : (c == 10) <;> cases h3 : (c == 13) <;> cases h4 : (c == 32) <;> (
    go_enter Tryd.func44, Tryd.ntmps44
    go_wp2
    go_ret
    exact ⟨rfl, rfl⟩)

def wtV (c base : Int) : Int := if dgV c < base then dgV c else -1

set_option maxHeartbeats 2000000 in
theorem worth10_any (c : Int) (w : World) (h0 : 0 ≤ c) (h1 : c ≤ 255) : Calls Tryd.prog 57 #[.int .u8 c, .int .i64 10] w fun e w' => e = .returned (.int .i64 (wtV c 10)) ∧ w = w' := by
  by_cases a : 48 ≤ c ∧ c ≤ 57
  · have e : wtV c 10 = c - 48 := by
      have : dgV c = c - 48 := by unfold dgV; rw [if_pos a]
      unfold wtV
      rw [this, if_pos (by omega)]
    rw [e]
    obtain ⟨a1, a2⟩ := a
    go_enter Tryd.func57, Tryd.ntmps57
    go_wp2
    go_ret
    exact ⟨rfl, rfl⟩
  · by_cases b : 97 ≤ c ∧ c ≤ 102
    · have e : wtV c 10 = -1 := by
        have : dgV c = c - 97 + 10 := by unfold dgV; rw [if_neg a, if_pos b]
        unfold wtV
        rw [this, if_neg (by omega)]
      rw [e]
      obtain ⟨a1, a2⟩ := b
      go_enter Tryd.func57, Tryd.ntmps57
      go_wp2
      go_ret
      exact ⟨rfl, rfl⟩
    · by_cases d : 65 ≤ c ∧ c ≤ 70
      · have e : wtV c 10 = -1 := by
          have : dgV c = c - 65 + 10 := by unfold dgV; rw [if_neg a, if_neg b, if_pos d]
          unfold wtV
          rw [this, if_neg (by omega)]
        rw [e]
        obtain ⟨a1, a2⟩ := d
        go_enter Tryd.func57, Tryd.ntmps57
        go_wp2
        go_ret
        exact ⟨rfl, rfl⟩
      · have e : wtV c 10 = -1 := by
          have : dgV c = 16 := by unfold dgV; rw [if_neg a, if_neg b, if_neg d]
          unfold wtV
          rw [this, if_neg (by omega)]
        rw [e]
        have a' : c < 48 ∨ 57 < c := by omega
        have b' : c < 97 ∨ 102 < c := by omega
        have d' : c < 65 ∨ 70 < c := by omega
        clear a b d e
        rcases a' with a | a <;> rcases b' with b | b <;> rcases d' with d | d <;> first | omega | (
          go_enter Tryd.func57, Tryd.ntmps57
          go_wp2
          go_ret
          exact ⟨rfl, rfl⟩)

set_option maxHeartbeats 2000000 in
theorem worth16_any (c : Int) (w : World) (h0 : 0 ≤ c) (h1 : c ≤ 255) : Calls Tryd.prog 57 #[.int .u8 c, .int .i64 16] w fun e w' => e = .returned (.int .i64 (wtV c 16)) ∧ w = w' := by
  by_cases a : 48 ≤ c ∧ c ≤ 57
  · have e : wtV c 16 = c - 48 := by
      have : dgV c = c - 48 := by unfold dgV; rw [if_pos a]
      unfold wtV
      rw [this, if_pos (by omega)]
    rw [e]
    obtain ⟨a1, a2⟩ := a
    go_enter Tryd.func57, Tryd.ntmps57
    go_wp2
    go_ret
    exact ⟨rfl, rfl⟩
  · by_cases b : 97 ≤ c ∧ c ≤ 102
    · have e : wtV c 16 = c - 97 + 10 := by
        have : dgV c = c - 97 + 10 := by unfold dgV; rw [if_neg a, if_pos b]
        unfold wtV
        rw [this, if_pos (by omega)]
      rw [e]
      obtain ⟨a1, a2⟩ := b
      go_enter Tryd.func57, Tryd.ntmps57
      go_wp2
      go_ret
      exact ⟨rfl, rfl⟩
    · by_cases d : 65 ≤ c ∧ c ≤ 70
      · have e : wtV c 16 = c - 65 + 10 := by
          have : dgV c = c - 65 + 10 := by unfold dgV; rw [if_neg a, if_neg b, if_pos d]
          unfold wtV
          rw [this, if_pos (by omega)]
        rw [e]
        obtain ⟨a1, a2⟩ := d
        go_enter Tryd.func57, Tryd.ntmps57
        go_wp2
        go_ret
        exact ⟨rfl, rfl⟩
      · have e : wtV c 16 = -1 := by
          have : dgV c = 16 := by unfold dgV; rw [if_neg a, if_neg b, if_neg d]
          unfold wtV
          rw [this, if_neg (by omega)]
        rw [e]
        have a' : c < 48 ∨ 57 < c := by omega
        have b' : c < 97 ∨ 102 < c := by omega
        have d' : c < 65 ∨ 70 < c := by omega
        clear a b d e
        rcases a' with a | a <;> rcases b' with b | b <;> rcases d' with d | d <;> first | omega | (
          go_enter Tryd.func57, Tryd.ntmps57
          go_wp2
          go_ret
          exact ⟨rfl, rfl⟩)

def CtR10 (l : List UInt8) (e : Ending) : Prop := ∃ (v : Int) (ok : Bool), e = .returned (.tuple #[.int .i64 v, .bool ok]) ∧ ((dgS 10 l = some v ∧ ok = true ∧ 0 ≤ v ∧ v ≤ 9007199254740992) ∨ (dgS 10 l = none ∧ (ok = false ∨ v = -1)))
set_option maxRecDepth 100000 in
set_option maxHeartbeats 4000000 in
theorem count10_any (s : ByteArray) (w : World) (hsz : s.size ≤ 9223372036854775807) : Calls Tryd.prog 45 #[.string s, .int .i64 10] w fun e w' => CtR10 s.data.toList e ∧ w = w' := by
  by_cases hs : s.data.toList = []
  · have e1 : dgS 10 s.data.toList = none := by unfold dgS; rw [if_pos hs]
    have hs' : s.toList.isEmpty = true := by rw [ByteArray.toList_eq, hs]; rfl
    have hz : s.size = 0 := by
      have := congrArg List.length hs
      simpa using this
    have H := Lib.hid e1
    clear e1 hs
    go_enter Tryd.func45, Tryd.ntmps45
    go_wp2_with fail
    go_loop [6, 7] (fun n i => n = .int .i64 0 ∧ i = .int .i64 0) (fun _ _ => 0)
    case atStart => exact ⟨rfl, rfl⟩
    case round =>
      obtain ⟨rfl, rfl⟩ := hrel
      go_wp2
      go_ret2
      exact ⟨⟨_, false, rfl, .inr ⟨H.out, .inl rfl⟩⟩, rfl⟩
  · have e1 : dgS 10 s.data.toList = dgR 10 (s.data.toList.drop 0) 0 := by unfold dgS; rw [if_neg hs]; rfl
    have hs' : s.toList.isEmpty = false := by rw [ByteArray.toList_eq]; simpa using hs
    obtain ⟨R, hR⟩ : ∃ R, R = dgR 10 (s.data.toList.drop 0) 0 := ⟨_, rfl⟩
    rw [← hR] at e1
    have HR := Lib.hid hR
    have HS := Lib.hid e1
    clear hR e1 hs
    go_enter Tryd.func45, Tryd.ntmps45
    go_wp2_with fail
    go_loop [6, 7] (fun n i => ∃ (m : Int) (j : Nat), n = .int .i64 m ∧ i = .int .i64 j ∧ j ≤ s.size ∧ ((0 ≤ m ∧ m ≤ 9007199254740992 ∧ R = dgR 10 (s.data.toList.drop j) m) ∨ (m = -1 ∧ R = none))) (fun _ i => s.size - (intOf i).toNat)
    case atStart => exact ⟨0, 0, by go_num, by go_num, by omega, .inl ⟨by omega, by omega, HR.out⟩⟩
    case round =>
      obtain ⟨m, j, rfl, rfl, hj, hcase⟩ := hrel
      clear HR
      by_cases hjs : j < s.size
      · obtain ⟨c, hc⟩ : ∃ c : UInt8, s[j] = c := ⟨_, rfl⟩
        have c0 : (0 : Int) ≤ c.toNat := by omega
        have c1 : (c.toNat : Int) ≤ 255 := by have := c.toNat_lt; omega
        have d0 := dgV_0 c.toNat
        have d1 := dgV_1 c.toNat
        by_cases hd : dgV (c.toNat : Int) < 10
        · have ew : wtV (c.toNat : Int) 10 = dgV (c.toNat : Int) := by unfold wtV; rw [if_pos hd]
          rcases hcase with ⟨m0, m1, hRj⟩ | ⟨rfl, hRn⟩
          · have HJ := Lib.hid hRj
            clear hRj
            by_cases hin : m * 10 + dgV (c.toNat : Int) ≤ 9007199254740992
            · go_wp2_with (go_at_call 57; refine (worth10_any _ _ c0 c1).mono ?_; rintro e w' ⟨rfl, rfl⟩)
              go_round
              case rel =>
                refine ⟨m * 10 + dgV (c.toNat : Int), j + 1, by go_num, by go_num, by omega, .inl ⟨by omega, by omega, ?_⟩⟩
                have h := HJ.out
                rw [drop_at s j hjs, hc, dg_in hd (by unfold inB; simp; omega)] at h
                exact h
              case measure => simp [intOf]; omega
            · have hE : R = none := by
                have h := HJ.out
                rw [drop_at s j hjs, hc, dg_out hd (by unfold inB; simp; omega)] at h
                exact h
              have HE := Lib.hid hE
              clear hE HJ
              go_wp2_with (go_at_call 57; refine (worth10_any _ _ c0 c1).mono ?_; rintro e w' ⟨rfl, rfl⟩)
              go_round
              case rel => exact ⟨-1, j + 1, by go_num, by go_num, by omega, .inr ⟨rfl, HE.out⟩⟩
              case measure => simp [intOf]; omega
          · have HE := Lib.hid hRn
            clear hRn
            go_wp2_with (go_at_call 57; refine (worth10_any _ _ c0 c1).mono ?_; rintro e w' ⟨rfl, rfl⟩)
            go_round
            case rel => exact ⟨-1, j + 1, by go_num, by go_num, by omega, .inr ⟨rfl, HE.out⟩⟩
            case measure => simp [intOf]; omega
        · have ew : wtV (c.toNat : Int) 10 = -1 := by unfold wtV; rw [if_neg hd]
          have hE : R = none := by
            rcases hcase with ⟨m0, m1, hRj⟩ | ⟨_, hRn⟩
            · rw [drop_at s j hjs, hc, dg_far hd] at hRj
              exact hRj
            · exact hRn
          have HE := Lib.hid hE
          clear hE hcase
          go_wp2_with (go_at_call 57; refine (worth10_any _ _ c0 c1).mono ?_; rintro e w' ⟨rfl, rfl⟩)
          go_ret2
          exact ⟨⟨_, false, rfl, .inr ⟨HS.out.trans HE.out, .inl rfl⟩⟩, rfl⟩
      · rcases hcase with ⟨m0, m1, hRj⟩ | ⟨rfl, hRn⟩
        · have hE : R = some m := by
            rw [drop_end s j (by omega)] at hRj
            exact hRj
          have HE := Lib.hid hE
          clear hE hRj
          go_wp2
          go_ret2
          exact ⟨⟨m, true, rfl, .inl ⟨HS.out.trans HE.out, rfl, m0, m1⟩⟩, rfl⟩
        · have HE := Lib.hid hRn
          clear hRn
          go_wp2
          go_ret2
          exact ⟨⟨-1, true, rfl, .inr ⟨HS.out.trans HE.out, .inr rfl⟩⟩, rfl⟩

def CtR16 (l : List UInt8) (e : Ending) : Prop := ∃ (v : Int) (ok : Bool), e = .returned (.tuple #[.int .i64 v, .bool ok]) ∧ ((dgS 16 l = some v ∧ ok = true ∧ 0 ≤ v ∧ v ≤ 9007199254740992) ∨ (dgS 16 l = none ∧ (ok = false ∨ v = -1)))
set_option maxRecDepth 100000 in
set_option maxHeartbeats 4000000 in
theorem count16_any (s : ByteArray) (w : World) (hsz : s.size ≤ 9223372036854775807) : Calls Tryd.prog 45 #[.string s, .int .i64 16] w fun e w' => CtR16 s.data.toList e ∧ w = w' := by
  by_cases hs : s.data.toList = []
  · have e1 : dgS 16 s.data.toList = none := by unfold dgS; rw [if_pos hs]
    have hs' : s.toList.isEmpty = true := by rw [ByteArray.toList_eq, hs]; rfl
    have hz : s.size = 0 := by
      have := congrArg List.length hs
      simpa using this
    have H := Lib.hid e1
    clear e1 hs
    go_enter Tryd.func45, Tryd.ntmps45
    go_wp2_with fail
    go_loop [6, 7] (fun n i => n = .int .i64 0 ∧ i = .int .i64 0) (fun _ _ => 0)
    case atStart => exact ⟨rfl, rfl⟩
    case round =>
      obtain ⟨rfl, rfl⟩ := hrel
      go_wp2
      go_ret2
      exact ⟨⟨_, false, rfl, .inr ⟨H.out, .inl rfl⟩⟩, rfl⟩
  · have e1 : dgS 16 s.data.toList = dgR 16 (s.data.toList.drop 0) 0 := by unfold dgS; rw [if_neg hs]; rfl
    have hs' : s.toList.isEmpty = false := by rw [ByteArray.toList_eq]; simpa using hs
    obtain ⟨R, hR⟩ : ∃ R, R = dgR 16 (s.data.toList.drop 0) 0 := ⟨_, rfl⟩
    rw [← hR] at e1
    have HR := Lib.hid hR
    have HS := Lib.hid e1
    clear hR e1 hs
    go_enter Tryd.func45, Tryd.ntmps45
    go_wp2_with fail
    go_loop [6, 7] (fun n i => ∃ (m : Int) (j : Nat), n = .int .i64 m ∧ i = .int .i64 j ∧ j ≤ s.size ∧ ((0 ≤ m ∧ m ≤ 9007199254740992 ∧ R = dgR 16 (s.data.toList.drop j) m) ∨ (m = -1 ∧ R = none))) (fun _ i => s.size - (intOf i).toNat)
    case atStart => exact ⟨0, 0, by go_num, by go_num, by omega, .inl ⟨by omega, by omega, HR.out⟩⟩
    case round =>
      obtain ⟨m, j, rfl, rfl, hj, hcase⟩ := hrel
      clear HR
      by_cases hjs : j < s.size
      · obtain ⟨c, hc⟩ : ∃ c : UInt8, s[j] = c := ⟨_, rfl⟩
        have c0 : (0 : Int) ≤ c.toNat := by omega
        have c1 : (c.toNat : Int) ≤ 255 := by have := c.toNat_lt; omega
        have d0 := dgV_0 c.toNat
        have d1 := dgV_1 c.toNat
        by_cases hd : dgV (c.toNat : Int) < 16
        · have ew : wtV (c.toNat : Int) 16 = dgV (c.toNat : Int) := by unfold wtV; rw [if_pos hd]
          rcases hcase with ⟨m0, m1, hRj⟩ | ⟨rfl, hRn⟩
          · have HJ := Lib.hid hRj
            clear hRj
            by_cases hin : m * 16 + dgV (c.toNat : Int) ≤ 9007199254740992
            · go_wp2_with (go_at_call 57; refine (worth16_any _ _ c0 c1).mono ?_; rintro e w' ⟨rfl, rfl⟩)
              go_round
              case rel =>
                refine ⟨m * 16 + dgV (c.toNat : Int), j + 1, by go_num, by go_num, by omega, .inl ⟨by omega, by omega, ?_⟩⟩
                have h := HJ.out
                rw [drop_at s j hjs, hc, dg_in hd (by unfold inB; simp; omega)] at h
                exact h
              case measure => simp [intOf]; omega
            · have hE : R = none := by
                have h := HJ.out
                rw [drop_at s j hjs, hc, dg_out hd (by unfold inB; simp; omega)] at h
                exact h
              have HE := Lib.hid hE
              clear hE HJ
              go_wp2_with (go_at_call 57; refine (worth16_any _ _ c0 c1).mono ?_; rintro e w' ⟨rfl, rfl⟩)
              go_round
              case rel => exact ⟨-1, j + 1, by go_num, by go_num, by omega, .inr ⟨rfl, HE.out⟩⟩
              case measure => simp [intOf]; omega
          · have HE := Lib.hid hRn
            clear hRn
            go_wp2_with (go_at_call 57; refine (worth16_any _ _ c0 c1).mono ?_; rintro e w' ⟨rfl, rfl⟩)
            go_round
            case rel => exact ⟨-1, j + 1, by go_num, by go_num, by omega, .inr ⟨rfl, HE.out⟩⟩
            case measure => simp [intOf]; omega
        · have ew : wtV (c.toNat : Int) 16 = -1 := by unfold wtV; rw [if_neg hd]
          have hE : R = none := by
            rcases hcase with ⟨m0, m1, hRj⟩ | ⟨_, hRn⟩
            · rw [drop_at s j hjs, hc, dg_far hd] at hRj
              exact hRj
            · exact hRn
          have HE := Lib.hid hE
          clear hE hcase
          go_wp2_with (go_at_call 57; refine (worth16_any _ _ c0 c1).mono ?_; rintro e w' ⟨rfl, rfl⟩)
          go_ret2
          exact ⟨⟨_, false, rfl, .inr ⟨HS.out.trans HE.out, .inl rfl⟩⟩, rfl⟩
      · rcases hcase with ⟨m0, m1, hRj⟩ | ⟨rfl, hRn⟩
        · have hE : R = some m := by
            rw [drop_end s j (by omega)] at hRj
            exact hRj
          have HE := Lib.hid hE
          clear hE hRj
          go_wp2
          go_ret2
          exact ⟨⟨m, true, rfl, .inl ⟨HS.out.trans HE.out, rfl, m0, m1⟩⟩, rfl⟩
        · have HE := Lib.hid hRn
          clear hRn
          go_wp2
          go_ret2
          exact ⟨⟨-1, true, rfl, .inr ⟨HS.out.trans HE.out, .inr rfl⟩⟩, rfl⟩
end Go.Proofs.YtokpmpmlbmpnmaaDoor
