/-
  isWord of the reference at this translation.
-/
import Derived.Test.YtjbnobcnlmkbmaaDoorRSign
import Derived.Test.YtjbnobcnlmkbmaaDoorWord
namespace Go.Proofs.YtjbnobcnlmkbmaaDoor
open Go.RowKit

def wdL : List (List UInt8) := [[98, 114, 101, 97, 107], [99, 97, 115, 101], [99, 97, 116, 99, 104], [99, 111, 110, 115, 116], [99, 111, 110, 116, 105, 110, 117, 101], [100, 101, 98, 117, 103, 103, 101, 114], [100, 101, 102, 97, 117, 108, 116], [100, 101, 108, 101, 116, 101], [100, 111], [101, 108, 115, 101], [102, 97, 108, 115, 101], [102, 105, 110, 97, 108, 108, 121], [102, 111, 114], [102, 117, 110, 99, 116, 105, 111, 110], [105, 102], [105, 110], [105, 110, 115, 116, 97, 110, 99, 101, 111, 102], [110, 101, 119], [110, 117, 108, 108], [114, 101, 116, 117, 114, 110], [115, 119, 105, 116, 99, 104], [116, 104, 105, 115], [116, 104, 114, 111, 119], [116, 114, 117, 101], [116, 114, 121], [116, 121, 112, 101, 111, 102], [118, 97, 114], [118, 111, 105, 100], [119, 104, 105, 108, 101], [119, 105, 116, 104], [99, 108, 97, 115, 115], [101, 110, 117, 109], [101, 120, 112, 111, 114, 116], [101, 120, 116, 101, 110, 100, 115], [105, 109, 112, 111, 114, 116], [115, 117, 112, 101, 114]]
def wdC : Array Value := #[.string ⟨#[98, 114, 101, 97, 107]⟩, .string ⟨#[99, 97, 115, 101]⟩, .string ⟨#[99, 97, 116, 99, 104]⟩, .string ⟨#[99, 111, 110, 115, 116]⟩, .string ⟨#[99, 111, 110, 116, 105, 110, 117, 101]⟩, .string ⟨#[100, 101, 98, 117, 103, 103, 101, 114]⟩, .string ⟨#[100, 101, 102, 97, 117, 108, 116]⟩, .string ⟨#[100, 101, 108, 101, 116, 101]⟩, .string ⟨#[100, 111]⟩, .string ⟨#[101, 108, 115, 101]⟩, .string ⟨#[102, 97, 108, 115, 101]⟩, .string ⟨#[102, 105, 110, 97, 108, 108, 121]⟩, .string ⟨#[102, 111, 114]⟩, .string ⟨#[102, 117, 110, 99, 116, 105, 111, 110]⟩, .string ⟨#[105, 102]⟩, .string ⟨#[105, 110]⟩, .string ⟨#[105, 110, 115, 116, 97, 110, 99, 101, 111, 102]⟩, .string ⟨#[110, 101, 119]⟩, .string ⟨#[110, 117, 108, 108]⟩, .string ⟨#[114, 101, 116, 117, 114, 110]⟩, .string ⟨#[115, 119, 105, 116, 99, 104]⟩, .string ⟨#[116, 104, 105, 115]⟩, .string ⟨#[116, 104, 114, 111, 119]⟩, .string ⟨#[116, 114, 117, 101]⟩, .string ⟨#[116, 114, 121]⟩, .string ⟨#[116, 121, 112, 101, 111, 102]⟩, .string ⟨#[118, 97, 114]⟩, .string ⟨#[118, 111, 105, 100]⟩, .string ⟨#[119, 104, 105, 108, 101]⟩, .string ⟨#[119, 105, 116, 104]⟩, .string ⟨#[99, 108, 97, 115, 115]⟩, .string ⟨#[101, 110, 117, 109]⟩, .string ⟨#[101, 120, 112, 111, 114, 116]⟩, .string ⟨#[101, 120, 116, 101, 110, 100, 115]⟩, .string ⟨#[105, 109, 112, 111, 114, 116]⟩, .string ⟨#[115, 117, 112, 101, 114]⟩]
theorem wd_cell (j : Nat) (hj : j < 36) : ∃ q t, wdL.drop j = q :: t ∧ wdL.drop (j + 1) = t ∧ wdC[j]? = some (.string ⟨q.toArray⟩) := by
  have hl : j < wdL.length := hj
  refine ⟨wdL[j], _, List.drop_eq_getElem_cons hl, rfl, ?_⟩
  rw [show wdC = (wdL.map fun q => Value.string ⟨q.toArray⟩).toArray from rfl]
  simp [hl]
theorem wd_any (l : List UInt8) : wdL.any (fun x => x == l) = decide (wordI l = 1) := by
  have e : wdL.any (fun x => x == l) = W1.any (fun x => x == l) := by
    rw [Bool.eq_iff_iff, List.any_eq_true, List.any_eq_true]
    constructor
    · rintro ⟨x, h, hx⟩
      exact ⟨x, (by decide : ∀ x ∈ wdL, x ∈ W1) x h, hx⟩
    · rintro ⟨x, h, hx⟩
      exact ⟨x, (by decide : ∀ x ∈ W1, x ∈ wdL) x h, hx⟩
  rw [e]
  unfold wordI
  cases h : W1.any (fun x => x == l) with
  | true => simp
  | false =>
    rw [if_neg (by simp)]
    symm
    rw [decide_eq_false_iff_not]
    split <;> simp

set_option maxRecDepth 100000 in
set_option maxHeartbeats 2000000 in
theorem words_any (w : World) : Calls Tryd.prog 53 #[] w fun e w' => e = .returned (.slice (some ⟨w.heap.size, 0, none⟩) 36 36) ∧ w' = w.alloc (.cells wdC 9) := by
  go_enter Tryd.func53, Tryd.ntmps53
  go_wp2
  go_ret
  exact ⟨rfl, rfl⟩

set_option linter.unusedVariables false in
set_option maxRecDepth 100000 in
set_option maxHeartbeats 2000000 in
theorem rWord_any (s : ByteArray) (w : World) :
    Calls Tryd.prog 36 #[.string s] w fun e w' => e = .returned (.bool (decide (wordI s.data.toList = 1))) ∧ Below w.heap.size w w' := by
  rw [← wd_any]
  obtain ⟨R, hR⟩ : ∃ R, R = wdL.any (fun x => x == s.data.toList) := ⟨_, rfl⟩
  rw [← hR]
  have HR := Lib.hid hR
  clear hR
  go_enter Tryd.func36, Tryd.ntmps36
  go_wp2_with fail
  refine (words_any _).mono ?_
  rintro e w' ⟨rfl, hw'⟩
  have hG : w'.heap[w.heap.size]? = some (.cells wdC 9 (0, 0)) := by rw [hw']; exact heap_alloc_new w _
  have hB : Below w.heap.size w w' := by rw [hw']; exact (Below.refl _ w).alloc (Nat.le_refl _) _
  have HG := Lib.hid hG
  have HB := Lib.hid hB
  clear hw' hG hB
  obtain ⟨B, hBe⟩ : ∃ B, B = w.heap.size := ⟨_, rfl⟩
  rw [← hBe] at HG ⊢
  clear hBe
  go_wp2
  go_loop [4] (fun v => ∃ j : Nat, v = .int .i64 j ∧ j ≤ 36 ∧ R = (wdL.drop j).any (fun x => x == s.data.toList)) (fun v => 36 - (intOf v).toNat)
  case atStart => exact ⟨0, by go_num, by omega, HR.out⟩
  case round =>
    obtain ⟨j, rfl, hj, hRj⟩ := hrel
    clear HR
    by_cases hj5 : j < 36
    · obtain ⟨q, t, h1, h2, hx⟩ := wd_cell j hj5
      replace hx := (Lib.cell_of_heap HG.out j).trans hx
      rw [h1, List.any_cons] at hRj
      obtain ⟨x, hxq⟩ : ∃ x : ByteArray, x = ⟨q.toArray⟩ := ⟨_, rfl⟩
      have hxl : x.toList = q := by rw [hxq]; exact ba_ls q
      rw [← hxq] at hx
      have HT := Lib.hid h2
      clear h1 h2 hxq
      cases hq : (x.toList == s.toList) with
      | false =>
        have hq' : (q == s.data.toList) = false := by rw [← hxl, ← Lib.toList_data]; exact hq
        rw [hq', Bool.false_or] at hRj
        have HJ := Lib.hid hRj
        clear hRj hq' hxl
        go_wp2
        go_round
        case rel => exact ⟨j + 1, by go_num, by omega, by rw [HT.out]; exact HJ.out⟩
        case measure => simp [intOf]; omega
      | true =>
        have hq' : (q == s.data.toList) = true := by rw [← hxl, ← Lib.toList_data]; exact hq
        rw [hq', Bool.true_or] at hRj
        subst hRj
        clear hq' hxl
        go_wp2
        go_ret
        exact ⟨rfl, HB.out⟩
    · have hE : R = false := by
        rw [hRj, show j = 36 from by omega]
        rfl
      subst hE
      clear hRj
      go_wp2
      go_ret
      exact ⟨rfl, HB.out⟩
end Go.Proofs.YtjbnobcnlmkbmaaDoor
