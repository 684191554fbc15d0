/-
  What a node or a text is by itself, as package tree asks: isLink, isSimple, isExpr, isName, among, operator.
-/
import Derived.Test.YtppliplalfpmaaaDoorRt1
namespace Go.Proofs.YtppliplalfpmaaaDoor
open Go.RowKit

theorem ret_b2 {a b : Bool} (h : a = b) : Ending.returned (.bool a) = .returned (.bool b) := by rw [h]
def linkV (t : Tr) : Bool := (t.op == 49) || ((t.op == 51) || (t.op == 52))
set_option linter.unusedVariables false in
set_option maxRecDepth 100000 in
set_option maxHeartbeats 2000000 in
theorem isLink_any (t : Tr) (k : Value) (w : World) : Calls Tryd.prog 43 #[.agg #[.int .i64 t.op, .int .i64 t.a, .int .i64 t.n, .int .i64 t.m, .string t.s, k]] w (RB (linkV t) w) := by
  obtain ⟨W1, hW1⟩ : ∃ W1, W1 = w.alloc (.cells #[.int .i64 t.op, .int .i64 t.a, .int .i64 t.n, .int .i64 t.m, .string t.s, k] 24) := ⟨_, rfl⟩
  have hB1 : Below w.heap.size w W1 := by rw [hW1]; exact c_box w _
  have hx1 : W1.heap[w.heap.size]? = some (.cells #[.int .i64 t.op, .int .i64 t.a, .int .i64 t.n, .int .i64 t.m, .string t.s, k] 24 (0, 0)) := by rw [hW1]; exact heap_alloc_new w _
  obtain ⟨⟨b0, b1, b2, b3, b4, b5⟩, -, hxl⟩ := c_six hx1
  have HW := Lib.hid hW1
  have HB := Lib.hid hB1
  clear hB1 hW1 hx1
  unfold linkV
  cases g1 : (t.op == 49) <;> cases g2 : (t.op == 51) <;> cases g3 : (t.op == 52) <;> (
    go_enter Tryd.func43, Tryd.ntmps43
    go_upto_region 1 with fail
    rw [← HW.out]
    go_wp2
    go_ret
    exact ⟨rfl, HB.out⟩)
def exprV (t : Tr) : Bool := (decide (30 ≤ t.op) && decide (t.op ≤ 38)) || (decide (42 ≤ t.op) && decide (t.op ≤ 54))
set_option linter.unusedVariables false in
set_option maxRecDepth 100000 in
set_option maxHeartbeats 2000000 in
theorem isExpr_nofn (t : Tr) (k : Value) (w : World) (g0 : (t.op == 4) = false) : Calls Tryd.prog 73 #[.agg #[.int .i64 t.op, .int .i64 t.a, .int .i64 t.n, .int .i64 t.m, .string t.s, k]] w (RB (exprV t) w) := by
  obtain ⟨W1, hW1⟩ : ∃ W1, W1 = w.alloc (.cells #[.int .i64 t.op, .int .i64 t.a, .int .i64 t.n, .int .i64 t.m, .string t.s, k] 24) := ⟨_, rfl⟩
  have hB1 : Below w.heap.size w W1 := by rw [hW1]; exact c_box w _
  have hx1 : W1.heap[w.heap.size]? = some (.cells #[.int .i64 t.op, .int .i64 t.a, .int .i64 t.n, .int .i64 t.m, .string t.s, k] 24 (0, 0)) := by rw [hW1]; exact heap_alloc_new w _
  obtain ⟨⟨b0, b1, b2, b3, b4, b5⟩, -, hxl⟩ := c_six hx1
  have HW := Lib.hid hW1
  have HB := Lib.hid hB1
  clear hB1 hW1 hx1
  unfold exprV
  cases g1 : decide (30 ≤ t.op) <;> cases g2 : decide (t.op ≤ 38) <;> cases g3 : decide (42 ≤ t.op) <;> cases g4 : decide (t.op ≤ 54) <;> (
    go_enter Tryd.func73, Tryd.ntmps73
    go_upto_region 1 with fail
    rw [← HW.out]
    go_wp2
    go_ret
    exact ⟨rfl, HB.out⟩)
def nameRest (l : List UInt8) : Bool := l.all fun c => letB c.toNat || digB c.toNat
def nameV : List UInt8 → Bool
  | [] => false
  | c :: r => letB c.toNat && nameRest r
def nmOk (k : Nat) (c : UInt8) : Bool := letB c.toNat || (!(k == 0) && digB c.toNat)
def nmAll : Nat → List UInt8 → Bool
  | _, [] => true
  | k, c :: r => nmOk k c && nmAll (k + 1) r
theorem nmAll_rest : ∀ (l : List UInt8) (k : Nat), 1 ≤ k → nmAll k l = nameRest l
  | [], _, _ => rfl
  | c :: r, k, h => by
    have hk : (k == 0) = false := by simp; omega
    simp only [nmAll, nmOk, hk, Bool.not_false, Bool.true_and, nmAll_rest r (k + 1) (by omega)]
    simp [nameRest]
theorem nameV_eq (l : List UInt8) : nameV l = (nmAll 0 l && !l.isEmpty) := by
  cases l with
  | nil => rfl
  | cons c r =>
    simp only [nameV, nmAll, nmOk, nmAll_rest r 1 (by omega)]
    simp
theorem drop_cons (s : ByteArray) (j : Nat) (h : j < s.size) : s.data.toList.drop j = s[j] :: s.data.toList.drop (j + 1) := by
  rw [List.drop_eq_getElem_cons (by simpa using h)]
  rfl
set_option linter.unusedVariables false in
set_option maxRecDepth 100000 in
set_option maxHeartbeats 2000000 in
theorem isName_any (s : ByteArray) (w : World) (hs : s.size ≤ 140737488355328) : Calls Tryd.prog 51 #[.string s] w fun e w' => e = .returned (.bool (nameV s.data.toList)) ∧ w = w' := by
  obtain ⟨R, hR⟩ : ∃ R, R = nameV s.data.toList := ⟨_, rfl⟩
  rw [← hR]
  rw [nameV_eq] at hR
  have HR := Lib.hid hR
  clear hR
  go_enter Tryd.func51, Tryd.ntmps51
  go_wp2
  go_loop [6] (fun i => ∃ k : Nat, i = .int .i64 k ∧ k ≤ s.size ∧ R = (nmAll k (s.data.toList.drop k) && !s.data.toList.isEmpty)) (fun i => s.size - natOf i)
  case atStart => exact ⟨0, rfl, Nat.zero_le _, HR.out⟩
  case round =>
    obtain ⟨k, rfl, hk, hRk⟩ := hrel
    have HRk := Lib.hid hRk
    clear hRk HR
    by_cases hks : k < s.size
    · have g1 : decide ((k : Int) < (s.size : Int)) = true := decide_eq_true (by omega)
      obtain ⟨c, hc⟩ : ∃ c : UInt8, s[k] = c := ⟨_, rfl⟩
      have c0 : (0 : Int) ≤ c.toNat := by omega
      have c1 : (c.toNat : Int) ≤ 255 := by have := c.toNat_lt; omega
      have hk1 : (k : Int) + 1 ≤ (s.size : Int) := by omega
      have hst : nmAll k (s.data.toList.drop k) = (nmOk k c && nmAll (k + 1) (s.data.toList.drop (k + 1))) := by rw [drop_cons s k hks, hc]; rfl
      have HST := Lib.hid hst
      clear hst
      cases hle : letB c.toNat with
      | true =>
        have hok : nmOk k c = true := by unfold nmOk; rw [hle]; rfl
        have HOK := Lib.hid hok
        clear hok
        go_wp2_with (first | (go_at_call 62; refine (isLetter_any _ _ c0 c1).mono ?_; rintro e w' ⟨rfl, rfl⟩) | (go_at_call 63; refine (isDigit_any _ _ c0 c1).mono ?_; rintro e w' ⟨rfl, rfl⟩))
        go_round
        case rel => exact ⟨k + 1, by go_num, by omega, by rw [HRk.out, HST.out, HOK.out, Bool.true_and]⟩
        case measure => simp [natOf]; omega
      | false =>
        cases hk0 : ((k : Int) == 0) with
        | true =>
          have hok : nmOk k c = false := by unfold nmOk; rw [hle, show (k == 0) = true from by simpa using hk0]; rfl
          have hF : R = false := by rw [HRk.out, HST.out, hok]; rfl
          have HOK := Lib.hid hF
          clear hok hF
          go_wp2_with (first | (go_at_call 62; refine (isLetter_any _ _ c0 c1).mono ?_; rintro e w' ⟨rfl, rfl⟩) | (go_at_call 63; refine (isDigit_any _ _ c0 c1).mono ?_; rintro e w' ⟨rfl, rfl⟩))
          go_ret
          exact ⟨ret_b2 HOK.out.symm, rfl⟩
        | false =>
          have hk0' : (k == 0) = false := by simp at hk0 ⊢; omega
          cases hdi : digB c.toNat with
          | true =>
            have hok : nmOk k c = true := by unfold nmOk; rw [hle, hk0', hdi]; rfl
            have HOK := Lib.hid hok
            clear hok hk0'
            go_wp2_with (first | (go_at_call 62; refine (isLetter_any _ _ c0 c1).mono ?_; rintro e w' ⟨rfl, rfl⟩) | (go_at_call 63; refine (isDigit_any _ _ c0 c1).mono ?_; rintro e w' ⟨rfl, rfl⟩))
            go_round
            case rel => exact ⟨k + 1, by go_num, by omega, by rw [HRk.out, HST.out, HOK.out, Bool.true_and]⟩
            case measure => simp [natOf]; omega
          | false =>
            have hok : nmOk k c = false := by unfold nmOk; rw [hle, hk0', hdi]; rfl
            have hF : R = false := by rw [HRk.out, HST.out, hok]; rfl
            have HOK := Lib.hid hF
            clear hok hF hk0'
            go_wp2_with (first | (go_at_call 62; refine (isLetter_any _ _ c0 c1).mono ?_; rintro e w' ⟨rfl, rfl⟩) | (go_at_call 63; refine (isDigit_any _ _ c0 c1).mono ?_; rintro e w' ⟨rfl, rfl⟩))
            go_ret
            exact ⟨ret_b2 HOK.out.symm, rfl⟩
    · have g1 : decide ((k : Int) < (s.size : Int)) = false := decide_eq_false (by omega)
      have hd : s.data.toList.drop k = [] := List.drop_of_length_le (by rw [Array.length_toList]; have h2 : s.data.size = s.size := rfl; omega)
      have hF : R = !s.toList.isEmpty := by rw [HRk.out, hd, ByteArray.toList_eq]; rfl
      have HF := Lib.hid hF
      clear hd hF
      cases he : s.toList.isEmpty <;> (
        go_wp2
        go_ret
        exact ⟨ret_b2 (by rw [HF.out, he]; rfl), rfl⟩)
theorem strs_cell {W : World} {b : Nat} {zs : List ByteArray} {T : TypeId} (h : W.heap[b]? = some (.cells (zs.map Value.string).toArray T (0, 0))) : ∀ j, j < zs.length → W.cell? ⟨b, 0 + j, none⟩ = some (.string (zs.getD j ByteArray.empty)) := by
  intro j hj
  rw [Nat.zero_add]
  refine (Lib.cell_of_heap h j).trans ?_
  simp [List.getD, hj]
set_option linter.unusedVariables false in
set_option maxRecDepth 100000 in
set_option maxHeartbeats 2000000 in
theorem among_any (x : ByteArray) (b n : Nat) (zs : List ByteArray) (w : World) (hn : zs.length = n) (hbig : n ≤ 1000) (hc : ∀ j, j < zs.length → w.cell? ⟨b, 0 + j, none⟩ = some (.string (zs.getD j ByteArray.empty))) : Calls Tryd.prog 65 #[.string x, .slice (some ⟨b, 0, none⟩) n n] w fun e w' => e = .returned (.bool (Lib.containsS zs x)) ∧ w = w' := by
  have HC := Lib.hid (Tryd.slices_Contains_string b 0 n n zs x w (by omega) (by omega) hc)
  have ht : zs.take n = zs := List.take_of_length_le (by omega)
  rw [ht] at HC
  clear hc ht hn
  go_enter Tryd.func65, Tryd.ntmps65
  go_wp2_with fail
  refine HC.out.mono ?_
  rintro e w1 ⟨rfl, rfl⟩
  go_wp2
  go_ret
  exact ⟨rfl, rfl⟩
def opL42 : List ByteArray := [⟨#[100, 101, 108, 101, 116, 101]⟩, ⟨#[118, 111, 105, 100]⟩, ⟨#[116, 121, 112, 101, 111, 102]⟩, ⟨#[43]⟩, ⟨#[45]⟩, ⟨#[33]⟩, ⟨#[126]⟩]
def opL43 : List ByteArray := [⟨#[43, 43]⟩, ⟨#[45, 45]⟩]
def opL44 : List ByteArray := [⟨#[124]⟩, ⟨#[94]⟩, ⟨#[38]⟩, ⟨#[61, 61]⟩, ⟨#[33, 61]⟩, ⟨#[61, 61, 61]⟩, ⟨#[33, 61, 61]⟩, ⟨#[60]⟩, ⟨#[62]⟩, ⟨#[60, 61]⟩, ⟨#[62, 61]⟩, ⟨#[105, 110, 115, 116, 97, 110, 99, 101, 111, 102]⟩, ⟨#[105, 110]⟩, ⟨#[60, 60]⟩, ⟨#[62, 62]⟩, ⟨#[43]⟩, ⟨#[45]⟩, ⟨#[42]⟩, ⟨#[47]⟩, ⟨#[37]⟩]
def opL45 : List ByteArray := [⟨#[38, 38]⟩, ⟨#[124, 124]⟩, ⟨#[63, 63]⟩]
def opL0 : List ByteArray := [⟨#[61]⟩, ⟨#[43, 61]⟩, ⟨#[45, 61]⟩, ⟨#[42, 61]⟩, ⟨#[47, 61]⟩, ⟨#[37, 61]⟩, ⟨#[38, 61]⟩, ⟨#[124, 61]⟩, ⟨#[94, 61]⟩, ⟨#[60, 60, 61]⟩, ⟨#[62, 62, 61]⟩, ⟨#[38, 38, 61]⟩, ⟨#[124, 124, 61]⟩, ⟨#[63, 63, 61]⟩]
def operV (op : Int) (s : ByteArray) : Bool := if op = 42 then Lib.containsS opL42 s else if op = 43 then Lib.containsS opL43 s else if op = 44 then Lib.containsS opL44 s else if op = 45 then Lib.containsS opL45 s else Lib.containsS opL0 s
set_option linter.unusedVariables false in
set_option maxRecDepth 100000 in
set_option maxHeartbeats 2000000 in
theorem operator_any (op : Int) (s : ByteArray) (w : World) : Calls Tryd.prog 53 #[.int .i64 op, .string s] w (RB (operV op s) w) := by
  unfold operV
  by_cases h42 : op = 42
  · subst h42
    rw [if_pos rfl]
    go_enter Tryd.func53, Tryd.ntmps53
    go_wp2_with fail
    have hx := heap_alloc_new w (.cells #[.string ⟨#[100, 101, 108, 101, 116, 101]⟩, .string ⟨#[118, 111, 105, 100]⟩, .string ⟨#[116, 121, 112, 101, 111, 102]⟩, .string ⟨#[43]⟩, .string ⟨#[45]⟩, .string ⟨#[33]⟩, .string ⟨#[126]⟩] 9)
    refine (among_any s w.heap.size 7 opL42 _ rfl (by omega) (strs_cell (T := 9) hx)).mono ?_
    rintro e w1 ⟨rfl, rfl⟩
    go_wp2
    go_ret
    exact ⟨rfl, c_box w _⟩
  · rw [if_neg h42]
    replace h42 : (op == 42) = false := by simpa using h42
    by_cases h43 : op = 43
    · subst h43
      rw [if_pos rfl]
      go_enter Tryd.func53, Tryd.ntmps53
      go_wp2_with fail
      have hx := heap_alloc_new w (.cells #[.string ⟨#[43, 43]⟩, .string ⟨#[45, 45]⟩] 9)
      refine (among_any s w.heap.size 2 opL43 _ rfl (by omega) (strs_cell (T := 9) hx)).mono ?_
      rintro e w1 ⟨rfl, rfl⟩
      go_wp2
      go_ret
      exact ⟨rfl, c_box w _⟩
    · rw [if_neg h43]
      replace h43 : (op == 43) = false := by simpa using h43
      by_cases h44 : op = 44
      · subst h44
        rw [if_pos rfl]
        go_enter Tryd.func53, Tryd.ntmps53
        go_wp2_with fail
        have hx := heap_alloc_new w (.cells #[.string ⟨#[124]⟩, .string ⟨#[94]⟩, .string ⟨#[38]⟩, .string ⟨#[61, 61]⟩, .string ⟨#[33, 61]⟩, .string ⟨#[61, 61, 61]⟩, .string ⟨#[33, 61, 61]⟩, .string ⟨#[60]⟩, .string ⟨#[62]⟩, .string ⟨#[60, 61]⟩, .string ⟨#[62, 61]⟩, .string ⟨#[105, 110, 115, 116, 97, 110, 99, 101, 111, 102]⟩, .string ⟨#[105, 110]⟩, .string ⟨#[60, 60]⟩, .string ⟨#[62, 62]⟩, .string ⟨#[43]⟩, .string ⟨#[45]⟩, .string ⟨#[42]⟩, .string ⟨#[47]⟩, .string ⟨#[37]⟩] 9)
        refine (among_any s w.heap.size 20 opL44 _ rfl (by omega) (strs_cell (T := 9) hx)).mono ?_
        rintro e w1 ⟨rfl, rfl⟩
        go_wp2
        go_ret
        exact ⟨rfl, c_box w _⟩
      · rw [if_neg h44]
        replace h44 : (op == 44) = false := by simpa using h44
        by_cases h45 : op = 45
        · subst h45
          rw [if_pos rfl]
          go_enter Tryd.func53, Tryd.ntmps53
          go_wp2_with fail
          have hx := heap_alloc_new w (.cells #[.string ⟨#[38, 38]⟩, .string ⟨#[124, 124]⟩, .string ⟨#[63, 63]⟩] 9)
          refine (among_any s w.heap.size 3 opL45 _ rfl (by omega) (strs_cell (T := 9) hx)).mono ?_
          rintro e w1 ⟨rfl, rfl⟩
          go_wp2
          go_ret
          exact ⟨rfl, c_box w _⟩
        · rw [if_neg h45]
          replace h45 : (op == 45) = false := by simpa using h45
          go_enter Tryd.func53, Tryd.ntmps53
          go_wp2_with fail
          have hx := heap_alloc_new w (.cells #[.string ⟨#[61]⟩, .string ⟨#[43, 61]⟩, .string ⟨#[45, 61]⟩, .string ⟨#[42, 61]⟩, .string ⟨#[47, 61]⟩, .string ⟨#[37, 61]⟩, .string ⟨#[38, 61]⟩, .string ⟨#[124, 61]⟩, .string ⟨#[94, 61]⟩, .string ⟨#[60, 60, 61]⟩, .string ⟨#[62, 62, 61]⟩, .string ⟨#[38, 38, 61]⟩, .string ⟨#[124, 124, 61]⟩, .string ⟨#[63, 63, 61]⟩] 9)
          refine (among_any s w.heap.size 14 opL0 _ rfl (by omega) (strs_cell (T := 9) hx)).mono ?_
          rintro e w1 ⟨rfl, rfl⟩
          go_wp2
          go_ret
          exact ⟨rfl, c_box w _⟩
end Go.Proofs.YtppliplalfpmaaaDoor
