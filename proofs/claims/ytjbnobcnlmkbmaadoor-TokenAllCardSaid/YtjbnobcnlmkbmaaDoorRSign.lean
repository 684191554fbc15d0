/-
  sign of the reference at this translation.
-/
import Derived.Test.YtjbnobcnlmkbmaaDoorTSign
import Derived.Test.YtjbnobcnlmkbmaaDoorRBytes
namespace Go.Proofs.YtjbnobcnlmkbmaaDoor
open Go.RowKit

theorem sgn_cell (j : Nat) (hj : j < 53) : ∃ q t, sgnL.drop j = q :: t ∧ sgnL.drop (j + 1) = t ∧ q.length ≤ 3 ∧ sgnC[j]? = some (.string ⟨q.toArray⟩) := by
  have hl : j < sgnL.length := hj
  refine ⟨sgnL[j], _, List.drop_eq_getElem_cons hl, rfl, ?_, ?_⟩
  · exact (by decide : ∀ q ∈ sgnL, q.length ≤ 3) _ (List.getElem_mem hl)
  · rw [show sgnC = (sgnL.map fun q => Value.string ⟨q.toArray⟩).toArray from rfl]
    simp [hl]
def sgB (r : Option (List UInt8)) : ByteArray :=
  match r with
  | some q => ⟨q.toArray⟩
  | none => ⟨#[]⟩

set_option linter.unusedVariables false in
set_option maxRecDepth 100000 in
set_option maxHeartbeats 4000000 in
theorem rSign_any (s : ByteArray) (k : Nat) (w : World) (hs : s.size ≤ 4000000) (hk : k < s.size) :
    Calls Tryd.prog 40 #[.string s, .int .i64 k] w fun e w' => e = .returned (.string (sgB (sgnL.find? (okS (s.data.toList.drop k))))) ∧ Below w.heap.size w w' := by
  obtain ⟨R, hR⟩ : ∃ R, R = sgnL.find? (okS (s.data.toList.drop k)) := ⟨_, rfl⟩
  rw [← hR]
  have HR := Lib.hid hR
  clear hR
  go_enter Tryd.func40, Tryd.ntmps40
  go_wp2
  obtain ⟨W1, hW1⟩ : ∃ W1, W1 = w.alloc (.cells sgnC 9) := ⟨_, rfl⟩
  have hG : W1.heap[w.heap.size]? = some (.cells sgnC 9 (0, 0)) := by rw [hW1]; exact heap_alloc_new w _
  have hB : Below w.heap.size w W1 := by rw [hW1]; exact (Below.refl _ w).alloc (Nat.le_refl _) _
  unfold sgnC at hW1
  rw [← hW1]
  have HG := Lib.hid hG
  have HB := Lib.hid hB
  clear hW1 hG hB
  obtain ⟨B, hBe⟩ : ∃ B, B = w.heap.size := ⟨_, rfl⟩
  rw [← hBe] at HG ⊢
  clear hBe
  go_loop [6] (fun v => ∃ j : Nat, v = .int .i64 j ∧ j ≤ 53 ∧ R = (sgnL.drop j).find? (okS (s.data.toList.drop k))) (fun v => 53 - (intOf v).toNat)
  case atStart => exact ⟨0, by go_num, by omega, HR.out⟩
  case round =>
    obtain ⟨j, rfl, hj, hRj⟩ := hrel
    clear HR
    by_cases hj5 : j < 53
    · obtain ⟨q, t, h1, h2, h3, hx⟩ := sgn_cell j hj5
      replace hx := (Lib.cell_of_heap HG.out j).trans hx
      rw [h1] at hRj
      obtain ⟨x, hxq⟩ : ∃ x : ByteArray, x = ⟨q.toArray⟩ := ⟨_, rfl⟩
      have hxs : x.size = q.length := by rw [hxq]; exact ba_sz q
      have hxl : x.toList = q := by rw [hxq]; exact ba_ls q
      have hxd : x.data.toList = q := by rw [hxq]
      rw [← hxq] at hx
      have HT := Lib.hid h2
      have HXQ := Lib.hid hxq
      have hsz : x.size ≤ 3 := by omega
      have HXS := Lib.hid hxs
      clear h1 h2 h3 hxq hxs
      cases hq : (x.toList == [63, 46]) with
      | false =>
        have hq' : (q == [63, 46]) = false := by rw [← hxl]; exact hq
        cases hp : Lib.hasPrefix (s.data.toList.drop k) q with
        | false =>
          have HP := Lib.hid (fun W => begins_at s x k false W hs (by omega) (by omega) (by rw [hxd, hp]))
          have ho := okS_of hp (show (q == [63, 46] && fracB (s.data.toList.drop k)) = false by rw [hq']; rfl)
          rw [List.find?_cons, ho] at hRj
          have HJ := Lib.hid hRj
          clear hRj ho hp hq' hxl hxd
          go_wp2_with fail
          refine (HP.out _).mono ?_
          rintro e w' ⟨rfl, rfl⟩
          go_wp2
          go_round
          case rel => exact ⟨j + 1, by go_num, by omega, by rw [HT.out]; exact HJ.out⟩
          case measure => simp [intOf]; omega
        | true =>
          have HP := Lib.hid (fun W => begins_at s x k true W hs (by omega) (by omega) (by rw [hxd, hp]))
          have ho := okS_of hp (show (q == [63, 46] && fracB (s.data.toList.drop k)) = false by rw [hq']; rfl)
          rw [List.find?_cons, ho] at hRj
          have HJ : Hid (R = some q) := Lib.hid hRj
          clear hRj ho hp hq' hxl hxd
          go_wp2_with fail
          refine (HP.out _).mono ?_
          rintro e w' ⟨rfl, rfl⟩
          go_wp2
          go_ret
          refine ⟨?_, HB.out⟩
          rw [HJ.out]
          unfold sgB
          simp only
          rw [← HXQ.out]
          rfl
      | true =>
        have hqe : q = [63, 46] := by
          have : x.toList = [63, 46] := by simpa using hq
          rw [← hxl]; exact this
        subst hqe
        have hxe : x = ⟨#[63, 46]⟩ := HXQ.out
        subst hxe
        clear hxl hxd hq hsz HXS HXQ
        by_cases h2 : k + 2 < s.size
        · obtain ⟨c, hc⟩ : ∃ c : UInt8, s[k + 2] = c := ⟨_, rfl⟩
          have c0 : (0 : Int) ≤ c.toNat := by omega
          have c1 : (c.toNat : Int) ≤ 255 := by have := c.toNat_lt; omega
          have HDG0 := Lib.hid (fun W => rDigit_any c.toNat W c0 c1)
          cases hd : digB c.toNat with
          | true =>
            have HDG := HDG0
            rw [hd] at HDG
            clear HDG0
            have hf : ([63, 46] == ([63, 46] : List UInt8) && fracB (s.data.toList.drop k)) = true := by rw [frac_yes s k h2, hc, hd]; rfl
            have ho : okS (s.data.toList.drop k) [63, 46] = false := by unfold okS; rw [hf]; simp
            rw [List.find?_cons, ho] at hRj
            have HJ := Lib.hid hRj
            clear hRj ho hf
            cases hp : Lib.hasPrefix (s.data.toList.drop k) [63, 46] <;> (
              have HP := Lib.hid (fun W => begins_at s ⟨#[63, 46]⟩ k _ W hs (by decide) (by omega) hp)
              clear hp
              go_wp2_with fail
              refine (HP.out _).mono ?_
              rintro e w' ⟨rfl, rfl⟩
              go_wp2_with (go_at_call 35; refine (HDG.out _).mono ?_; rintro e w' ⟨rfl, rfl⟩)
              go_round
              case rel => exact ⟨j + 1, by go_num, by omega, by rw [HT.out]; exact HJ.out⟩
              case measure => simp [intOf]; omega)
          | false =>
            have HDG := HDG0
            rw [hd] at HDG
            clear HDG0
            have hf : ([63, 46] == ([63, 46] : List UInt8) && fracB (s.data.toList.drop k)) = false := by rw [frac_yes s k h2, hc, hd]; rfl
            cases hp : Lib.hasPrefix (s.data.toList.drop k) [63, 46] with
            | true =>
              have HP := Lib.hid (fun W => begins_at s ⟨#[63, 46]⟩ k true W hs (by decide) (by omega) hp)
              have ho := okS_of hp hf
              rw [List.find?_cons, ho] at hRj
              have HJ : Hid (R = some [63, 46]) := Lib.hid hRj
              clear hRj ho hf hp
              go_wp2_with fail
              refine (HP.out _).mono ?_
              rintro e w' ⟨rfl, rfl⟩
              go_wp2_with (go_at_call 35; refine (HDG.out _).mono ?_; rintro e w' ⟨rfl, rfl⟩)
              go_ret
              exact ⟨by rw [HJ.out]; rfl, HB.out⟩
            | false =>
              have HP := Lib.hid (fun W => begins_at s ⟨#[63, 46]⟩ k false W hs (by decide) (by omega) hp)
              have ho := okS_of hp hf
              rw [List.find?_cons, ho] at hRj
              have HJ := Lib.hid hRj
              clear hRj ho hf hp
              go_wp2_with fail
              refine (HP.out _).mono ?_
              rintro e w' ⟨rfl, rfl⟩
              go_wp2_with (go_at_call 35; refine (HDG.out _).mono ?_; rintro e w' ⟨rfl, rfl⟩)
              go_round
              case rel => exact ⟨j + 1, by go_num, by omega, by rw [HT.out]; exact HJ.out⟩
              case measure => simp [intOf]; omega
        · have hf : ([63, 46] == ([63, 46] : List UInt8) && fracB (s.data.toList.drop k)) = false := by rw [frac_no s k h2]; rfl
          have h2' : ¬ (k : Int) + 2 < s.size := by omega
          cases hp : Lib.hasPrefix (s.data.toList.drop k) [63, 46] with
          | true =>
            have HP := Lib.hid (fun W => begins_at s ⟨#[63, 46]⟩ k true W hs (by decide) (by omega) hp)
            have ho := okS_of hp hf
            rw [List.find?_cons, ho] at hRj
            have HJ : Hid (R = some [63, 46]) := Lib.hid hRj
            clear hRj ho hf hp
            go_wp2_with fail
            refine (HP.out _).mono ?_
            rintro e w' ⟨rfl, rfl⟩
            go_wp2
            go_ret
            exact ⟨by rw [HJ.out]; rfl, HB.out⟩
          | false =>
            have HP := Lib.hid (fun W => begins_at s ⟨#[63, 46]⟩ k false W hs (by decide) (by omega) hp)
            have ho := okS_of hp hf
            rw [List.find?_cons, ho] at hRj
            have HJ := Lib.hid hRj
            clear hRj ho hf hp
            go_wp2_with fail
            refine (HP.out _).mono ?_
            rintro e w' ⟨rfl, rfl⟩
            go_wp2
            go_round
            case rel => exact ⟨j + 1, by go_num, by omega, by rw [HT.out]; exact HJ.out⟩
            case measure => simp [intOf]; omega
    · have hE : R = none := by
        rw [hRj, show j = 53 from by omega]
        rfl
      have HE := Lib.hid hE
      clear hE hRj
      go_wp2
      go_ret
      exact ⟨by rw [HE.out]; rfl, HB.out⟩
end Go.Proofs.YtjbnobcnlmkbmaaDoor
