/-
  sign of package token at this translation: the longest punctuator at an offset.
-/
import Derived.Test.YthkjdllpgcocpaaGreatDoorTTok
import Derived.Laws.Rows
namespace Go.Proofs.YthkjdllpgcocpaaGreatDoor
open Go.RowKit

def sgnL : List (List UInt8) := [[46, 46, 46], [61, 61, 61], [33, 61, 61], [60, 60, 61], [62, 62, 61], [38, 38, 61], [124, 124, 61], [63, 63, 61], [60, 61], [62, 61], [61, 61], [33, 61], [43, 43], [45, 45], [38, 38], [124, 124], [63, 63], [63, 46], [43, 61], [45, 61], [42, 61], [47, 61], [37, 61], [38, 61], [124, 61], [94, 61], [60, 60], [62, 62], [61, 62], [123], [125], [40], [41], [91], [93], [46], [59], [44], [60], [62], [43], [45], [42], [47], [37], [38], [124], [94], [33], [126], [63], [58], [61]]
def sgnC : Array Value := #[.string ⟨#[46, 46, 46]⟩, .string ⟨#[61, 61, 61]⟩, .string ⟨#[33, 61, 61]⟩, .string ⟨#[60, 60, 61]⟩, .string ⟨#[62, 62, 61]⟩, .string ⟨#[38, 38, 61]⟩, .string ⟨#[124, 124, 61]⟩, .string ⟨#[63, 63, 61]⟩, .string ⟨#[60, 61]⟩, .string ⟨#[62, 61]⟩, .string ⟨#[61, 61]⟩, .string ⟨#[33, 61]⟩, .string ⟨#[43, 43]⟩, .string ⟨#[45, 45]⟩, .string ⟨#[38, 38]⟩, .string ⟨#[124, 124]⟩, .string ⟨#[63, 63]⟩, .string ⟨#[63, 46]⟩, .string ⟨#[43, 61]⟩, .string ⟨#[45, 61]⟩, .string ⟨#[42, 61]⟩, .string ⟨#[47, 61]⟩, .string ⟨#[37, 61]⟩, .string ⟨#[38, 61]⟩, .string ⟨#[124, 61]⟩, .string ⟨#[94, 61]⟩, .string ⟨#[60, 60]⟩, .string ⟨#[62, 62]⟩, .string ⟨#[61, 62]⟩, .string ⟨#[123]⟩, .string ⟨#[125]⟩, .string ⟨#[40]⟩, .string ⟨#[41]⟩, .string ⟨#[91]⟩, .string ⟨#[93]⟩, .string ⟨#[46]⟩, .string ⟨#[59]⟩, .string ⟨#[44]⟩, .string ⟨#[60]⟩, .string ⟨#[62]⟩, .string ⟨#[43]⟩, .string ⟨#[45]⟩, .string ⟨#[42]⟩, .string ⟨#[47]⟩, .string ⟨#[37]⟩, .string ⟨#[38]⟩, .string ⟨#[124]⟩, .string ⟨#[94]⟩, .string ⟨#[33]⟩, .string ⟨#[126]⟩, .string ⟨#[63]⟩, .string ⟨#[58]⟩, .string ⟨#[61]⟩]
def SgnT (w : World) : Prop := w.heap[1]? = some (.cells sgnC 113 (0, 0))
theorem sgnt_grown {w w' : World} (h : SgnT w) (hb : Below w.heap.size w w') : SgnT w' := t_kept hb (t_lt h) h
def fracB : List UInt8 → Bool
  | _ :: _ :: c :: _ => digB c.toNat
  | _ => false
def okS (l q : List UInt8) : Bool := Lib.hasPrefix l q && !(q == [63, 46] && fracB l)
def signT (s : ByteArray) (k : Nat) : RT :=
  match sgnL.find? (okS (s.data.toList.drop k)) with
  | some q => ⟨5, (k + q.length : Nat), 0, ⟨q.toArray⟩, false, 0⟩
  | none => noT 20
set_option maxRecDepth 100000 in
theorem sgn_index (j : Nat) (hj : j < 53) : ∃ q t, sgnL.drop j = q :: t ∧ sgnL.drop (j + 1) = t ∧ q.length ≤ 3 ∧ ∀ w, (Instr.index 113 (.agg sgnC) (.int .i64 j)).run Tryz.prog w = .ok (.string ⟨q.toArray⟩) w := by
  match j, hj with
  | 0, _ => exact ⟨[46, 46, 46], _, rfl, rfl, by decide, fun _ => by kernel_rfl⟩
  | 1, _ => exact ⟨[61, 61, 61], _, rfl, rfl, by decide, fun _ => by kernel_rfl⟩
  | 2, _ => exact ⟨[33, 61, 61], _, rfl, rfl, by decide, fun _ => by kernel_rfl⟩
  | 3, _ => exact ⟨[60, 60, 61], _, rfl, rfl, by decide, fun _ => by kernel_rfl⟩
  | 4, _ => exact ⟨[62, 62, 61], _, rfl, rfl, by decide, fun _ => by kernel_rfl⟩
  | 5, _ => exact ⟨[38, 38, 61], _, rfl, rfl, by decide, fun _ => by kernel_rfl⟩
  | 6, _ => exact ⟨[124, 124, 61], _, rfl, rfl, by decide, fun _ => by kernel_rfl⟩
  | 7, _ => exact ⟨[63, 63, 61], _, rfl, rfl, by decide, fun _ => by kernel_rfl⟩
  | 8, _ => exact ⟨[60, 61], _, rfl, rfl, by decide, fun _ => by kernel_rfl⟩
  | 9, _ => exact ⟨[62, 61], _, rfl, rfl, by decide, fun _ => by kernel_rfl⟩
  | 10, _ => exact ⟨[61, 61], _, rfl, rfl, by decide, fun _ => by kernel_rfl⟩
  | 11, _ => exact ⟨[33, 61], _, rfl, rfl, by decide, fun _ => by kernel_rfl⟩
  | 12, _ => exact ⟨[43, 43], _, rfl, rfl, by decide, fun _ => by kernel_rfl⟩
  | 13, _ => exact ⟨[45, 45], _, rfl, rfl, by decide, fun _ => by kernel_rfl⟩
  | 14, _ => exact ⟨[38, 38], _, rfl, rfl, by decide, fun _ => by kernel_rfl⟩
  | 15, _ => exact ⟨[124, 124], _, rfl, rfl, by decide, fun _ => by kernel_rfl⟩
  | 16, _ => exact ⟨[63, 63], _, rfl, rfl, by decide, fun _ => by kernel_rfl⟩
  | 17, _ => exact ⟨[63, 46], _, rfl, rfl, by decide, fun _ => by kernel_rfl⟩
  | 18, _ => exact ⟨[43, 61], _, rfl, rfl, by decide, fun _ => by kernel_rfl⟩
  | 19, _ => exact ⟨[45, 61], _, rfl, rfl, by decide, fun _ => by kernel_rfl⟩
  | 20, _ => exact ⟨[42, 61], _, rfl, rfl, by decide, fun _ => by kernel_rfl⟩
  | 21, _ => exact ⟨[47, 61], _, rfl, rfl, by decide, fun _ => by kernel_rfl⟩
  | 22, _ => exact ⟨[37, 61], _, rfl, rfl, by decide, fun _ => by kernel_rfl⟩
  | 23, _ => exact ⟨[38, 61], _, rfl, rfl, by decide, fun _ => by kernel_rfl⟩
  | 24, _ => exact ⟨[124, 61], _, rfl, rfl, by decide, fun _ => by kernel_rfl⟩
  | 25, _ => exact ⟨[94, 61], _, rfl, rfl, by decide, fun _ => by kernel_rfl⟩
  | 26, _ => exact ⟨[60, 60], _, rfl, rfl, by decide, fun _ => by kernel_rfl⟩
  | 27, _ => exact ⟨[62, 62], _, rfl, rfl, by decide, fun _ => by kernel_rfl⟩
  | 28, _ => exact ⟨[61, 62], _, rfl, rfl, by decide, fun _ => by kernel_rfl⟩
  | 29, _ => exact ⟨[123], _, rfl, rfl, by decide, fun _ => by kernel_rfl⟩
  | 30, _ => exact ⟨[125], _, rfl, rfl, by decide, fun _ => by kernel_rfl⟩
  | 31, _ => exact ⟨[40], _, rfl, rfl, by decide, fun _ => by kernel_rfl⟩
  | 32, _ => exact ⟨[41], _, rfl, rfl, by decide, fun _ => by kernel_rfl⟩
  | 33, _ => exact ⟨[91], _, rfl, rfl, by decide, fun _ => by kernel_rfl⟩
  | 34, _ => exact ⟨[93], _, rfl, rfl, by decide, fun _ => by kernel_rfl⟩
  | 35, _ => exact ⟨[46], _, rfl, rfl, by decide, fun _ => by kernel_rfl⟩
  | 36, _ => exact ⟨[59], _, rfl, rfl, by decide, fun _ => by kernel_rfl⟩
  | 37, _ => exact ⟨[44], _, rfl, rfl, by decide, fun _ => by kernel_rfl⟩
  | 38, _ => exact ⟨[60], _, rfl, rfl, by decide, fun _ => by kernel_rfl⟩
  | 39, _ => exact ⟨[62], _, rfl, rfl, by decide, fun _ => by kernel_rfl⟩
  | 40, _ => exact ⟨[43], _, rfl, rfl, by decide, fun _ => by kernel_rfl⟩
  | 41, _ => exact ⟨[45], _, rfl, rfl, by decide, fun _ => by kernel_rfl⟩
  | 42, _ => exact ⟨[42], _, rfl, rfl, by decide, fun _ => by kernel_rfl⟩
  | 43, _ => exact ⟨[47], _, rfl, rfl, by decide, fun _ => by kernel_rfl⟩
  | 44, _ => exact ⟨[37], _, rfl, rfl, by decide, fun _ => by kernel_rfl⟩
  | 45, _ => exact ⟨[38], _, rfl, rfl, by decide, fun _ => by kernel_rfl⟩
  | 46, _ => exact ⟨[124], _, rfl, rfl, by decide, fun _ => by kernel_rfl⟩
  | 47, _ => exact ⟨[94], _, rfl, rfl, by decide, fun _ => by kernel_rfl⟩
  | 48, _ => exact ⟨[33], _, rfl, rfl, by decide, fun _ => by kernel_rfl⟩
  | 49, _ => exact ⟨[126], _, rfl, rfl, by decide, fun _ => by kernel_rfl⟩
  | 50, _ => exact ⟨[63], _, rfl, rfl, by decide, fun _ => by kernel_rfl⟩
  | 51, _ => exact ⟨[58], _, rfl, rfl, by decide, fun _ => by kernel_rfl⟩
  | 52, _ => exact ⟨[61], _, rfl, rfl, by decide, fun _ => by kernel_rfl⟩
  | n + 53, h => exact absurd h (by omega)

theorem okS_of {l q : List UInt8} {a b : Bool} (ha : Lib.hasPrefix l q = a) (hb : (q == [63, 46] && fracB l) = b) : okS l q = (a && !b) := by unfold okS; rw [ha, hb]
def sgR (k : Nat) (r : Option (List UInt8)) : RT :=
  match r with
  | some q => ⟨5, (k + q.length : Nat), 0, ⟨q.toArray⟩, false, 0⟩
  | none => noT 20
theorem signT_eq (s : ByteArray) (k : Nat) : signT s k = sgR k (sgnL.find? (okS (s.data.toList.drop k))) := by
  unfold signT sgR
  rfl
theorem ba_sz (l : List UInt8) : (⟨l.toArray⟩ : ByteArray).size = l.length := by simp [ByteArray.size]
theorem ba_ls (l : List UInt8) : (⟨l.toArray⟩ : ByteArray).toList = l := by rw [ByteArray.toList_eq]
theorem frac_yes (s : ByteArray) (k : Nat) (h : k + 2 < s.size) : fracB (s.data.toList.drop k) = digB (s[k + 2]).toNat := by
  rw [drop_cons s k (by omega), drop_cons s (k + 1) (by omega), drop_cons s (k + 2) h]
  rfl
theorem frac_no (s : ByteArray) (k : Nat) (h : ¬ k + 2 < s.size) : fracB (s.data.toList.drop k) = false := by
  have hl : (s.data.toList.drop k).length ≤ 2 := by simp; omega
  match hm : s.data.toList.drop k with
  | [] => rfl
  | [_] => rfl
  | [_, _] => rfl
  | _ :: _ :: _ :: t => rw [hm] at hl; simp at hl

set_option maxRecDepth 100000 in
set_option maxHeartbeats 4000000 in
theorem tokSign_any (s : ByteArray) (k : Nat) (w : World) (hs : s.size ≤ 4000000) (hk : k < s.size) (ht : SgnT w) :
    Calls Tryz.prog 73 #[.string s, .int .i64 k] w fun e w' => e = rtR (signT s k) ∧ Below w.heap.size w w' := by
  rw [signT_eq]
  obtain ⟨R, hR⟩ : ∃ R, R = sgnL.find? (okS (s.data.toList.drop k)) := ⟨_, rfl⟩
  rw [← hR]
  have HR := Lib.hid hR
  clear hR
  have HG : Hid ((w.alloc (.cells #[.int .i64 0, .int .i64 0, .int .i64 0, .int .i64 0, .string ⟨#[]⟩, .bool false, .bool false] 27)).heap[1]? = some (.cells sgnC 113 (0, 0))) := Lib.hid ((heap_alloc_old w _ (t_lt ht)).trans ht)
  clear ht
  have HU : Hid (Tryz.prog.underlying 113 = some (.array 53 9)) := Lib.hid (by kernel_rfl)
  have HS : Hid ((Tryz.prog.info? 113).map (·.size) = some sgnC.size) := Lib.hid (by kernel_rfl)
  have HX := Lib.hid sgn_index
  go_enter Tryz.func73, Tryz.ntmps73
  go_wp2_with (with_reducible refine wpList_load_row rfl 113 (.global 1) rfl 1 rfl 113 sgnC (0, 0) (.array 53 9) HG.out HU.out rfl HS.out ?_)
  go_loop [11] (fun v => ∃ j : Nat, v = .int .i64 j ∧ j ≤ 53 ∧ R = (sgnL.drop j).find? (okS (s.data.toList.drop k))) (fun v => 53 - (intOf v).toNat)
  case atStart => exact ⟨0, by go_num, by omega, HR.out⟩
  case round =>
    obtain ⟨j, rfl, hj, hRj⟩ := hrel
    clear HR HU HS HG
    by_cases hj5 : j < 53
    · obtain ⟨q, t, h1, h2, h3, hx⟩ := HX.out j hj5
      rw [h1] at hRj
      obtain ⟨x, hxq⟩ : ∃ x : ByteArray, x = ⟨q.toArray⟩ := ⟨_, rfl⟩
      have hxs : x.size = q.length := by rw [hxq]; exact ba_sz q
      have hxl : x.toList = q := by rw [hxq]; exact ba_ls q
      have hxd : x.data.toList = q := by rw [hxq]
      rw [← hxq] at hx
      have HT := Lib.hid h2
      have HXQ := Lib.hid hxq
      have hsz : x.size ≤ 3 := by omega
      have HXS := Lib.hid hxs
      clear h1 h2 h3 hxq HX hxs
      cases hq : (x.toList == [63, 46]) with
      | false =>
        have hq' : (q == [63, 46]) = false := by rw [← hxl]; exact hq
        cases hp : Lib.hasPrefix (s.data.toList.drop k) q with
        | false =>
          have HP := Lib.hid (fun W => prefix_at s x k false (by rw [hxd, hp]) W)
          have ho := okS_of hp (show (q == [63, 46] && fracB (s.data.toList.drop k)) = false by rw [hq']; rfl)
          rw [List.find?_cons, ho] at hRj
          have HJ := Lib.hid hRj
          clear hRj ho hp hq' hxl hxd
          go_wp2_with fail
          refine (HP.out _).mono ?_
          rintro e w' ⟨rfl, rfl⟩
          go_wp2
          go_round
          case rel => exact ⟨j + 1, by go_num, by omega, by rw [HT.out]; exact HJ.out⟩
          case measure => simp [intOf]; omega
        | true =>
          have HP := Lib.hid (fun W => prefix_at s x k true (by rw [hxd, hp]) W)
          have ho := okS_of hp (show (q == [63, 46] && fracB (s.data.toList.drop k)) = false by rw [hq']; rfl)
          rw [List.find?_cons, ho] at hRj
          have HJ : Hid (R = some q) := Lib.hid hRj
          clear hRj ho hp hq' hxl hxd
          go_wp2_with fail
          refine (HP.out _).mono ?_
          rintro e w' ⟨rfl, rfl⟩
          go_wp2
          go_returns
          refine ⟨?_, by go_grown⟩
          rw [HJ.out]
          unfold sgR rtR
          simp only
          rw [← HXQ.out, ← HXS.out]
          rfl
      | true =>
        have hqe : q = [63, 46] := by
          have : x.toList = [63, 46] := by simpa using hq
          rw [← hxl]; exact this
        subst hqe
        have hxe : x = ⟨#[63, 46]⟩ := HXQ.out
        subst hxe
        clear hxl hxd hq hsz HXS HXQ
        by_cases h2 : k + 2 < s.size
        · obtain ⟨c, hc⟩ : ∃ c : UInt8, s[k + 2] = c := ⟨_, rfl⟩
          have c0 : (0 : Int) ≤ c.toNat := by omega
          have c1 : (c.toNat : Int) ≤ 255 := by have := c.toNat_lt; omega
          cases hd : digB c.toNat with
          | true =>
            have hf : ([63, 46] == ([63, 46] : List UInt8) && fracB (s.data.toList.drop k)) = true := by rw [frac_yes s k h2, hc, hd]; rfl
            have ho : okS (s.data.toList.drop k) [63, 46] = false := by unfold okS; rw [hf]; simp
            rw [List.find?_cons, ho] at hRj
            have HJ := Lib.hid hRj
            clear hRj ho hf
            cases hp : Lib.hasPrefix (s.data.toList.drop k) [63, 46] <;> (
              have HP := Lib.hid (fun W => prefix_at s ⟨#[63, 46]⟩ k _ hp W)
              clear hp
              go_wp2_with (first | (go_at_call 69; refine (tokDigit_any _ _ c0 c1).mono ?_; rintro e w' ⟨rfl, rfl⟩))
              refine (HP.out _).mono ?_
              rintro e w' ⟨rfl, rfl⟩
              go_wp2
              go_round
              case rel => exact ⟨j + 1, by go_num, by omega, by rw [HT.out]; exact HJ.out⟩
              case measure => simp [intOf]; omega)
          | false =>
            have hf : ([63, 46] == ([63, 46] : List UInt8) && fracB (s.data.toList.drop k)) = false := by rw [frac_yes s k h2, hc, hd]; rfl
            cases hp : Lib.hasPrefix (s.data.toList.drop k) [63, 46] with
            | true =>
              have HP := Lib.hid (fun W => prefix_at s ⟨#[63, 46]⟩ k true hp W)
              have ho := okS_of hp hf
              rw [List.find?_cons, ho] at hRj
              have HJ : Hid (R = some [63, 46]) := Lib.hid hRj
              clear hRj ho hf hp
              go_wp2_with (first | (go_at_call 69; refine (tokDigit_any _ _ c0 c1).mono ?_; rintro e w' ⟨rfl, rfl⟩))
              refine (HP.out _).mono ?_
              rintro e w' ⟨rfl, rfl⟩
              go_wp2
              go_returns
              exact ⟨by rw [HJ.out]; rfl, by go_grown⟩
            | false =>
              have HP := Lib.hid (fun W => prefix_at s ⟨#[63, 46]⟩ k false hp W)
              have ho := okS_of hp hf
              rw [List.find?_cons, ho] at hRj
              have HJ := Lib.hid hRj
              clear hRj ho hf hp
              go_wp2_with (first | (go_at_call 69; refine (tokDigit_any _ _ c0 c1).mono ?_; rintro e w' ⟨rfl, rfl⟩))
              refine (HP.out _).mono ?_
              rintro e w' ⟨rfl, rfl⟩
              go_wp2
              go_round
              case rel => exact ⟨j + 1, by go_num, by omega, by rw [HT.out]; exact HJ.out⟩
              case measure => simp [intOf]; omega
        · have hf : ([63, 46] == ([63, 46] : List UInt8) && fracB (s.data.toList.drop k)) = false := by rw [frac_no s k h2]; rfl
          have h2' : ¬ (k : Int) + 2 < s.size := by omega
          cases hp : Lib.hasPrefix (s.data.toList.drop k) [63, 46] with
          | true =>
            have HP := Lib.hid (fun W => prefix_at s ⟨#[63, 46]⟩ k true hp W)
            have ho := okS_of hp hf
            rw [List.find?_cons, ho] at hRj
            have HJ : Hid (R = some [63, 46]) := Lib.hid hRj
            clear hRj ho hf hp
            go_wp2_with fail
            refine (HP.out _).mono ?_
            rintro e w' ⟨rfl, rfl⟩
            go_wp2
            go_returns
            exact ⟨by rw [HJ.out]; rfl, by go_grown⟩
          | false =>
            have HP := Lib.hid (fun W => prefix_at s ⟨#[63, 46]⟩ k false hp W)
            have ho := okS_of hp hf
            rw [List.find?_cons, ho] at hRj
            have HJ := Lib.hid hRj
            clear hRj ho hf hp
            go_wp2_with fail
            refine (HP.out _).mono ?_
            rintro e w' ⟨rfl, rfl⟩
            go_wp2
            go_round
            case rel => exact ⟨j + 1, by go_num, by omega, by rw [HT.out]; exact HJ.out⟩
            case measure => simp [intOf]; omega
    · have hE : R = none := by
        rw [hRj, show j = 53 from by omega]
        rfl
      have HE := Lib.hid hE
      clear hE hRj HX
      go_wp2
      go_returns
      exact ⟨by rw [HE.out]; rfl, by go_grown⟩
end Go.Proofs.YthkjdllpgcocpaaGreatDoor
