/-
  piece of the reference at this translation.
-/
import Derived.Test.YtjbnobcnlmkbmaaDoorRText
namespace Go.Proofs.YtjbnobcnlmkbmaaDoor
open Go.RowKit

set_option linter.unusedVariables false in
set_option maxRecDepth 100000 in
set_option maxHeartbeats 8000000 in
theorem rPiece_any (s : ByteArray) (k : Nat) (w : World) (hs : s.size ≤ 65536) (h0 : 0 < k) (hk : k ≤ s.size) :
    Calls Tryd.prog 39 #[.string s, .int .i64 k] w fun e w' => e = pcR (pcV s.size (s.data.toList.drop k) k []) ∧ Below w.heap.size w w' := by
  obtain ⟨i0, hi, hz0, hz1, hz2⟩ := info_parts info5
  obtain ⟨R, hR⟩ : ∃ R, R = pcV s.size (s.data.toList.drop k) k [] := ⟨_, rfl⟩
  rw [← hR]
  have HR := Lib.hid hR
  clear hR
  have hs4 : s.size ≤ 4000000 := by omega
  go_enter Tryd.func39, Tryd.ntmps39
  go_wp2
  go_loopw [1, 8] (fun i v wr => ∃ (j n : Nat) (out : List UInt8), i = .int .i64 j ∧ j ≤ s.size ∧ s.size - j < n ∧ Hid (R = pcV n (s.data.toList.drop j) j out) ∧ out.length < j ∧ wr.ownsRow w.heap.size 5 1 v out.length (Lib.byteCells out) ∧ Below w.heap.size w wr) (fun i _ _ => s.size - (intOf i).toNat)
  case atStart =>
    exact ⟨k, s.size, [], rfl, by omega, by omega, HR, by simp; omega, World.ownsRow_lit w #[] 0 (Nat.le_refl _) (by unfold maxLen; omega) rfl, (Below.refl _ w).alloc (Nat.le_refl _) _⟩
  case round =>
    obtain ⟨j, n, out, rfl, hj, hn, HJ, ho, hown, hbw⟩ := hrel
    obtain ⟨ao, cap, rfl⟩ := own_form hown
    clear HR
    have hsz : w.heap.size ≤ wr.heap.size := hbw.size
    by_cases hjs : j < s.size
    · obtain ⟨c, hc⟩ : ∃ c : UInt8, s[j] = c := ⟨_, rfl⟩
      obtain ⟨m, rfl⟩ : ∃ m, n = m + 1 := ⟨n - 1, by omega⟩
      have hj1 : decide (j < s.size) = true := by simpa using hjs
      have ho2 : ¬ out.length = 65536 := by omega
      have DJ := drop_at s j hjs
      rw [hc] at DJ
      by_cases hcq : (c.toNat : Int) = 96
      · have hfin : R = (out, j + 1, false, 0) := by rw [HJ.out, DJ, pc_end hcq]
        have HF := Lib.hid hfin
        have h96 := beq_t hcq
        have hcv : (convert 83 9 (.slice ao out.length cap)).run Tryd.prog wr = .ok (.string ⟨out.toArray⟩) wr := conv_own hown
        clear hfin HJ DJ hcq
        go_wp2
        refine bodyPost_ret (v := .tuple #[.string ⟨out.toArray⟩, .int .i64 ((j : Int) + 1), .bool false, .int .i64 0]) (by simp [results, Tryd.results39, go_sem]) rfl ⟨?_, hbw⟩
        rw [HF.out]
        simp [pcR]
      · have hcb := beq_f hcq
        by_cases hdl : dol (c :: s.data.toList.drop (j + 1)) = true
        · have hfin : R = (out, j + 2, true, 0) := by rw [HJ.out, DJ, pc_open hcq hdl]
          have HF := Lib.hid hfin
          rw [← DJ] at hdl
          have HP := Lib.hid (fun W => begins_at s ⟨#[36, 123]⟩ j true W hs4 (by decide) (by omega) hdl)
          have hcv : (convert 83 9 (.slice ao out.length cap)).run Tryd.prog wr = .ok (.string ⟨out.toArray⟩) wr := conv_own hown
          clear hfin HJ DJ hcq hdl
          go_wp2_with fail
          refine (HP.out _).mono ?_
          rintro e w' ⟨rfl, rfl⟩
          go_wp2
          refine bodyPost_ret (v := .tuple #[.string ⟨out.toArray⟩, .int .i64 ((j : Int) + 2), .bool true, .int .i64 0]) (by simp [results, Tryd.results39, go_sem]) rfl ⟨?_, hbw⟩
          rw [HF.out]
          simp [pcR]
        · have hdf : Lib.hasPrefix (s.data.toList.drop j) [36, 123] = false := by
            rw [DJ]
            cases h : Lib.hasPrefix (c :: s.data.toList.drop (j + 1)) [36, 123] with
            | false => rfl
            | true => exact absurd h hdl
          have HP := Lib.hid (fun W => begins_at s ⟨#[36, 123]⟩ j false W hs4 (by decide) (by omega) hdf)
          clear hdf
          by_cases h92 : (c.toNat : Int) = 92
          · have h92b := beq_t h92
            have U := unit_esc (t := s.data.toList.drop (j + 1)) h92
            have A := fun W => rEsc_any s j W hs4 hjs
            by_cases he : (esc (s.data.toList.drop (j + 1))).2.2 = 0
            · rw [escR_ok2 he] at A
              have hu0 : (unitV (c :: s.data.toList.drop (j + 1))).2.2 = 0 := by rw [U]; exact he
              have hel := esc_len _ he
              rw [List.length_drop] at hel
              have hel2 : (esc (s.data.toList.drop (j + 1))).2.1 ≤ s.size - (j + 1) := by simpa using hel.1
              have ub := esc_b (s.data.toList.drop (j + 1))
              have hfin : R = pcV m (s.data.toList.drop (j + ((esc (s.data.toList.drop (j + 1))).2.1 + 1))) (j + ((esc (s.data.toList.drop (j + 1))).2.1 + 1)) (out ++ [byt (esc (s.data.toList.drop (j + 1))).1]) := by
                rw [HJ.out, ← List.drop_drop, DJ, pc_go hcq hdl hu0 ho2, U]
              have HF := Lib.hid hfin
              have hol : out.length < 65536 := by omega
              clear hfin HJ DJ hdl hcq U hu0 ho2 he h92
              obtain ⟨un, hun⟩ : ∃ un, un = j + ((esc (s.data.toList.drop (j + 1))).2.1 + 1) := ⟨_, rfl⟩
              have hun1 : j < un ∧ un ≤ s.size := by omega
              obtain ⟨uv, huv⟩ : ∃ uv, uv = (esc (s.data.toList.drop (j + 1))).1 := ⟨_, rfl⟩
              simp only [← hun, ← huv] at A ub HF
              clear hun huv hel hel2
              have HA := Lib.hid A
              clear A
              go_wp2_with fail
              refine (HP.out _).mono ?_
              rintro e w' ⟨rfl, rfl⟩
              go_wp2_with fail
              refine (HA.out _).mono ?_
              rintro e w1 ⟨rfl, hb1⟩
              have hown1 := own_below hown hb1
              have hbw1 := t_thr hbw hb1 hbw.size
              have hsz1 := hbw1.size
              clear hown hbw HA
              go_wp2_with (at_builtin; refine wpList_append_own _ rfl _ _ 83 rfl w.heap.size 5 i0 (.int .u8 0) 1 1 Tryd.underlying83 hi hz0 hz1 hz2 rfl (by decide) _ _ _ rfl (hown1.alloc _) ⟨_, 0, none⟩ 1 1 [.int .u8 uv] rfl rfl ?_ ?_ ?_ ?_ ?_ ?_; exact new_cell0 w1 _; exact one_u8 _; (unfold maxLen; omega); omega; (simp; omega))
              intro v' w2 hown' hgrow _
              have hown2 : w2.ownsRow w.heap.size 5 1 v' (out ++ [byt uv]).length (Lib.byteCells (out ++ [byt uv])) := by
                rw [bc_snoc _ _ ub.1 ub.2]
                simpa using hown'
              have hb2 : Below w.heap.size w w2 := ((hbw1).alloc (hbw1.size) _).grown hgrow (by have := hbw1.size; simp; omega) (fun k hk => (hown1.lt k hk).1)
              clear hown' hgrow hown1 hbw1
              go_wp2
              go_roundw
              case rel => exact ⟨un, m, out ++ [byt uv], rfl, by omega, by omega, HF, by simp; omega, hown2, hb2⟩
              case measure => simp [intOf]; omega
            · have hu0 : ¬ (unitV (c :: s.data.toList.drop (j + 1))).2.2 = 0 := by rw [U]; exact he
              rw [escR_err he] at A
              have hfin : R = ([], 0, false, (esc (s.data.toList.drop (j + 1))).2.2) := by rw [HJ.out, DJ, pc_err hcq hdl hu0, U]
              have HF := Lib.hid hfin
              clear hfin HJ DJ hdl hcq U hu0 h92
              obtain ⟨ue, hue⟩ : ∃ ue, ue = (esc (s.data.toList.drop (j + 1))).2.2 := ⟨_, rfl⟩
              obtain ⟨uv, huv⟩ : ∃ uv, uv = (esc (s.data.toList.drop (j + 1))).1 := ⟨_, rfl⟩
              simp only [← hue, ← huv] at A HF he
              clear hue huv
              have hne : (ue != 0) = true := by simpa using he
              clear he
              have HA := Lib.hid A
              clear A
              go_wp2_with fail
              refine (HP.out _).mono ?_
              rintro e w' ⟨rfl, rfl⟩
              go_wp2_with fail
              refine (HA.out _).mono ?_
              rintro e w1 ⟨rfl, hb1⟩
              have hbw1 := t_thr hbw hb1 hbw.size
              clear hown hbw HA
              go_wp2
              refine bodyPost_ret (v := .tuple #[.string ⟨#[]⟩, .int .i64 0, .bool false, .int .i64 ue]) (by simp [results, Tryd.results39, go_sem]) rfl ⟨?_, hbw1⟩
              rw [HF.out]
              rfl
          · have h92b := beq_f h92
            have U := unit_one (t := s.data.toList.drop (j + 1)) h92
            have hu0 : (unitV (c :: s.data.toList.drop (j + 1))).2.2 = 0 := by rw [U]
            have hfin : R = pcV m (s.data.toList.drop (j + 1)) (j + 1) (out ++ [byt (c.toNat : Int)]) := by
              rw [HJ.out, ← List.drop_drop, DJ, pc_go hcq hdl hu0 ho2, U]
            have HF := Lib.hid hfin
            have hol : out.length < 65536 := by omega
            have ub : (0 : Int) ≤ c.toNat ∧ (c.toNat : Int) ≤ 255 := by have := c.toNat_lt; omega
            clear hfin HJ DJ hdl hcq U hu0 ho2 h92
            go_wp2_with fail
            refine (HP.out _).mono ?_
            rintro e w' ⟨rfl, rfl⟩
            go_wp2_with (at_builtin; refine wpList_append_own _ rfl _ _ 83 rfl w.heap.size 5 i0 (.int .u8 0) 1 1 Tryd.underlying83 hi hz0 hz1 hz2 rfl (by decide) _ _ _ rfl (hown.alloc _) ⟨_, 0, none⟩ 1 1 [.int .u8 (c.toNat : Int)] rfl rfl ?_ ?_ ?_ ?_ ?_ ?_; exact new_cell0 wr _; exact one_u8 _; (unfold maxLen; omega); omega; (simp; omega))
            intro v' w2 hown' hgrow _
            have hown2 : w2.ownsRow w.heap.size 5 1 v' (out ++ [byt (c.toNat : Int)]).length (Lib.byteCells (out ++ [byt (c.toNat : Int)])) := by
              rw [bc_snoc _ _ ub.1 ub.2]
              simpa using hown'
            have hb2 : Below w.heap.size w w2 := ((hbw).alloc (hsz) _).grown hgrow (by simp; omega) (fun k hk => (hown.lt k hk).1)
            clear hown' hgrow hown hbw
            go_wp2
            go_roundw
            case rel => exact ⟨j + 1, m, out ++ [byt (c.toNat : Int)], by go_num, by omega, by omega, HF, by simp; omega, hown2, hb2⟩
            case measure => simp [intOf]; omega
    · have hfin : R = ([], 0, false, 8) := by rw [HJ.out, drop_out s j hjs, pc_nil]
      have HF := Lib.hid hfin
      have hj1 : decide (j < s.size) = false := by simpa using hjs
      clear hfin HJ
      go_wp2
      refine bodyPost_ret (v := .tuple #[.string ⟨#[]⟩, .int .i64 0, .bool false, .int .i64 8]) (by simp [results, Tryd.results39, go_sem]) rfl ⟨?_, hbw⟩
      rw [HF.out]
      rfl
end Go.Proofs.YtjbnobcnlmkbmaaDoor
