/-
  Join of package token at this translation.
-/
import Derived.Test.YthkjdllpgcocpaaGreatDoorWBuild
namespace Go.Proofs.YthkjdllpgcocpaaGreatDoor
open Go.RowKit

theorem sep_len (k : Nat) (t : NT) : (sepV k t).length ≤ 1 := by unfold sepV; split <;> (try split) <;> simp
theorem join_len {l : List NT} (hk : ∀ t ∈ l, okT t) : ∀ k, k ≤ l.length → (joinK l k).length ≤ k * 80040
  | 0, _ => by simp [joinK]
  | k + 1, h => by
    have ih := join_len hk k (by omega)
    have ht : l[k]? = some (l[k]'(by omega)) := List.getElem?_eq_getElem (by omega)
    rw [join_step ht]
    have ho := hk _ (List.mem_of_getElem? ht)
    have h1 : (txT (l[k]'(by omega))).length ≤ 4 * (l[k]'(by omega)).s.size + 30 := tkV_len _ _ _ _ ho.2.1 ho.2.2
    have h2 := ho.1
    have h3 : (sepV k (l[k]'(by omega))).length ≤ 1 := by unfold sepV; split <;> (try split) <;> simp
    simp only [List.length_append]
    omega
set_option linter.unusedVariables false in
set_option maxRecDepth 100000 in
set_option maxHeartbeats 4000000 in
theorem join_any (l : List NT) (v : Value) (w : World) (hl : l.length ≤ 1000) (hk : ∀ t ∈ l, okT t) (h : TokIn w v l) (htab : Tab w) :
    Calls Tryz.prog 9 #[v] w fun e w' => e = .returned (.string ⟨(joinK l l.length).toArray⟩) ∧ Below w.heap.size w w' := by
  obtain ⟨ao, cap, rfl, hcap, hmax, hin⟩ := h
  have HI := Lib.hid hin
  have HK := Lib.hid hk
  have HTB := Lib.hid htab
  have HJL := Lib.hid (join_len hk)
  obtain ⟨len, hlen⟩ : ∃ len, len = l.length := ⟨_, rfl⟩
  rw [← hlen] at hl ⊢
  have HL := Lib.hid hlen
  have HV : Hid (Lib.IsBuilder 53 5 w.heap.size w.heap.size (Lib.byteCells (joinK l 0)) (w.alloc (.cells #[.pointer none, .slice none 0 0] 53)) ∧ Below w.heap.size w (w.alloc (.cells #[.pointer none, .slice none 0 0] 53)) ∧ w.heap.size < (w.alloc (.cells #[.pointer none, .slice none 0 0] 53)).heap.size) := Lib.hid ⟨Lib.fresh_isBuilder _ _ w, box_new w _, by simp⟩
  clear hin hk hlen hcap hmax htab
  go_enter Tryz.func9, Tryz.ntmps9
  go_wp2
  go_loopw [8] (fun i wr => ∃ k : Nat, i = .int .i64 k ∧ k ≤ len ∧ Lib.IsBuilder 53 5 w.heap.size w.heap.size (Lib.byteCells (joinK l k)) wr ∧ Below w.heap.size w wr ∧ w.heap.size < wr.heap.size) (fun i _ => len - natOf i)
  case atStart => exact ⟨0, rfl, Nat.zero_le _, HV.out.1, HV.out.2.1, HV.out.2.2⟩
  case round =>
    obtain ⟨k, rfl, hkl, hI, hb, hzw⟩ := hrel
    clear HV
    have hbl := HJL.out k (by rw [← HL.out]; exact hkl)
    have hzk : k * 80040 ≤ 80040000 := by omega
    have HBL := Lib.hid (show (Lib.byteCells (joinK l k)).length ≤ 80040000 from by rw [Lib.byteCells_length]; omega)
    clear hbl hzk
    by_cases hlt : k < len
    · have g1 : decide ((k : Int) < (len : Int)) = true := decide_eq_true (by omega)
      have g2 : (k : Int) < (len : Int) := by omega
      obtain ⟨t, ht⟩ : ∃ t, l[k]? = some t := ⟨_, List.getElem?_eq_getElem (by rw [← HL.out]; exact hlt)⟩
      obtain ⟨b, off, rfl, hbb, hc⟩ := HI.out k t ht
      obtain ⟨c0, c1, c2, c3, c4, c5, c6⟩ := cellsT_kept hb hbb hc
      have hbw : b < wr.heap.size := by have := hb.size; omega
      have hok := HK.out t (List.mem_of_getElem? ht)
      have HT : Hid (∀ W, Tab W → Calls Tryz.prog 7 #[.agg #[.int .i64 t.kind, .int .i64 t.a, .int .i64 t.to, .int .i64 t.n, .string t.s, .bool t.line, .bool t.o]] W fun e w' => e = .returned (.string ⟨(txT t).toArray⟩) ∧ Below W.heap.size W w') := Lib.hid (fun W hW => text1_any t.kind t.a t.to t.n t.s t.line t.o W (by have := hok.1; omega) hok.2.1 hok.2.2 hW)
      have hpz := txT_size hok
      obtain ⟨p, hp⟩ : ∃ p : ByteArray, p = ⟨(txT t).toArray⟩ := ⟨_, rfl⟩
      rw [← hp] at HT hpz
      have HPZ := Lib.hid hpz
      have HS := Lib.hid (And.intro (join_step ht) hp)
      have HB := Lib.hid (And.intro hb hzw)
      have HII := Lib.hid hI
      clear ht hc hok hp hpz hb hI
      cases hli : t.line with
      | true =>
        rw [hli] at c5 HT
        have HLI := Lib.hid hli
        clear hli
        obtain ⟨W2, hW2⟩ : ∃ W2, W2 = wr.alloc (.cells #[.int .i64 t.kind, .int .i64 t.a, .int .i64 t.to, .int .i64 t.n, .string t.s, .bool true, .bool t.o] 27) := ⟨_, rfl⟩
        have hx2 : W2.heap[wr.heap.size]? = some (.cells #[.int .i64 t.kind, .int .i64 t.a, .int .i64 t.to, .int .i64 t.n, .string t.s, .bool true, .bool t.o] 27 (0, 0)) := by rw [hW2]; exact heap_alloc_new wr _
        have hb2 : Below wr.heap.size wr W2 := by rw [hW2]; exact box_new wr _
        have hI2 := isB_kept HII.out hb2
        have hB2 : Below w.heap.size w W2 := HB.out.1.trans (hb2.mono (by omega))
        have hz2 : w.heap.size < W2.heap.size := by have := hb2.size; omega
        have k0 := Lib.cell_of_heap hx2 0
        have k1 := Lib.cell_of_heap hx2 1
        have k2 := Lib.cell_of_heap hx2 2
        have k3 := Lib.cell_of_heap hx2 3
        have k4 := Lib.cell_of_heap hx2 4
        have k5 := Lib.cell_of_heap hx2 5
        have k6 := Lib.cell_of_heap hx2 6
        simp at k0 k1 k2 k3 k4 k5 k6
        have H2 := Lib.hid (And.intro hx2 (And.intro hI2 (And.intro hB2 hz2)))
        have HW2 := Lib.hid hW2
        clear hW2 hx2 hb2 hI2 hB2 hz2
        go_upto_region 5 with fail
        rw [← HW2.out]
        go_wp2_with fail
        refine (writeByte_k w.heap.size w.heap.size _ 10 _ H2.out.2.1 (by have := HBL.out; omega) (by have := H2.out.2.2.2; omega)).mono ?_
        rintro e w3 ⟨rfl, hA3, hb3, ho3⟩
        have hx3 := ho3 _ _ H2.out.1 (by intro e; have e2 := Option.some.inj e; omega) (by intro c fz e; cases e)
        have hI3 : Lib.IsBuilder 53 5 w.heap.size w.heap.size (Lib.byteCells (joinK l k ++ sepV k t)) w3 := isB_eq (Or.inr hA3) (by rw [Lib.byteCells_append]; unfold sepV; rw [HLI.out, if_pos rfl]; rfl)
        have hB3 := H2.out.2.2.1.trans hb3
        have hz3 : w.heap.size < w3.heap.size := by have := hb3.size; have := H2.out.2.2.2; omega
        have H3 := Lib.hid (And.intro hI3 (And.intro hB3 (And.intro hz3 (tab_grown HTB.out hB3))))
        clear k0 k1 k2 k3 k4 k5 k6
        have k0 := Lib.cell_of_heap hx3 0
        have k1 := Lib.cell_of_heap hx3 1
        have k2 := Lib.cell_of_heap hx3 2
        have k3 := Lib.cell_of_heap hx3 3
        have k4 := Lib.cell_of_heap hx3 4
        have k5 := Lib.cell_of_heap hx3 5
        have k6 := Lib.cell_of_heap hx3 6
        simp at k0 k1 k2 k3 k4 k5 k6
        clear hx3 hI3 hB3 hz3 hA3 hb3 ho3
        go_wp2_with fail
        refine (HT.out _ H3.out.2.2.2).mono ?_
        rintro e w4 ⟨rfl, hb4⟩
        have hI4 := isB_kept H3.out.1 hb4
        have hB4 : Below w.heap.size w w4 := H3.out.2.1.trans (hb4.mono (by have := H3.out.2.2.1; omega))
        have hz4 : w.heap.size < w4.heap.size := by have := hb4.size; have := H3.out.2.2.1; omega
        have H4 := Lib.hid (And.intro hB4 hz4)
        clear hb4 hB4 hz4
        go_wp2_with fail
        refine (writeString_any w.heap.size w.heap.size _ p _ hI4 (by have h1 := HPZ.out; have h2 := HBL.out; rw [Lib.byteCells_length] at h2 ⊢; have h3 : (sepV k t).length ≤ 1 := sep_len k t; rw [List.length_append]; omega) (by have := H4.out.2; omega)).mono ?_
        rintro e w5 ⟨rfl, hA5, hb5⟩
        have hI5 : Lib.IsBuilder 53 5 w.heap.size w.heap.size (Lib.byteCells (joinK l (k + 1))) w5 := isB_eq (Or.inr hA5) (by rw [HS.out.1, Lib.byteCells_append (joinK l k ++ sepV k t), HS.out.2]; rfl)
        have H5 := Lib.hid (And.intro hI5 (And.intro (H4.out.1.trans hb5) (show w.heap.size < w5.heap.size from by have := hb5.size; have := H4.out.2; omega)))
        clear hI5 hA5 hb5 hI4
        go_wp2
        go_roundw
        case rel => exact ⟨k + 1, by go_num, by omega, H5.out.1, H5.out.2.1, H5.out.2.2⟩
        case measure => simp [natOf]; omega
      | false =>
        rw [hli] at c5 HT
        have HLI := Lib.hid hli
        clear hli
        by_cases hk0 : 0 < k
        · have g3 : decide ((0 : Int) < (k : Int)) = true := decide_eq_true (by omega)
          obtain ⟨W2, hW2⟩ : ∃ W2, W2 = wr.alloc (.cells #[.int .i64 t.kind, .int .i64 t.a, .int .i64 t.to, .int .i64 t.n, .string t.s, .bool false, .bool t.o] 27) := ⟨_, rfl⟩
          have hx2 : W2.heap[wr.heap.size]? = some (.cells #[.int .i64 t.kind, .int .i64 t.a, .int .i64 t.to, .int .i64 t.n, .string t.s, .bool false, .bool t.o] 27 (0, 0)) := by rw [hW2]; exact heap_alloc_new wr _
          have hb2 : Below wr.heap.size wr W2 := by rw [hW2]; exact box_new wr _
          have hI2 := isB_kept HII.out hb2
          have hB2 : Below w.heap.size w W2 := HB.out.1.trans (hb2.mono (by omega))
          have hz2 : w.heap.size < W2.heap.size := by have := hb2.size; omega
          have k0 := Lib.cell_of_heap hx2 0
          have k1 := Lib.cell_of_heap hx2 1
          have k2 := Lib.cell_of_heap hx2 2
          have k3 := Lib.cell_of_heap hx2 3
          have k4 := Lib.cell_of_heap hx2 4
          have k5 := Lib.cell_of_heap hx2 5
          have k6 := Lib.cell_of_heap hx2 6
          simp at k0 k1 k2 k3 k4 k5 k6
          have H2 := Lib.hid (And.intro hx2 (And.intro hI2 (And.intro hB2 hz2)))
          have HW2 := Lib.hid hW2
          clear hW2 hx2 hb2 hI2 hB2 hz2
          go_upto_region 5 with fail
          rw [← HW2.out]
          go_wp2_with fail
          refine (writeByte_k w.heap.size w.heap.size _ 32 _ H2.out.2.1 (by have := HBL.out; omega) (by have := H2.out.2.2.2; omega)).mono ?_
          rintro e w3 ⟨rfl, hA3, hb3, ho3⟩
          have hx3 := ho3 _ _ H2.out.1 (by intro e; have e2 := Option.some.inj e; omega) (by intro c fz e; cases e)
          have hI3 : Lib.IsBuilder 53 5 w.heap.size w.heap.size (Lib.byteCells (joinK l k ++ sepV k t)) w3 := isB_eq (Or.inr hA3) (by rw [Lib.byteCells_append]; unfold sepV; rw [HLI.out, if_neg (by decide), if_pos hk0]; rfl)
          have hB3 := H2.out.2.2.1.trans hb3
          have hz3 : w.heap.size < w3.heap.size := by have := hb3.size; have := H2.out.2.2.2; omega
          have H3 := Lib.hid (And.intro hI3 (And.intro hB3 (And.intro hz3 (tab_grown HTB.out hB3))))
          clear k0 k1 k2 k3 k4 k5 k6
          have k0 := Lib.cell_of_heap hx3 0
          have k1 := Lib.cell_of_heap hx3 1
          have k2 := Lib.cell_of_heap hx3 2
          have k3 := Lib.cell_of_heap hx3 3
          have k4 := Lib.cell_of_heap hx3 4
          have k5 := Lib.cell_of_heap hx3 5
          have k6 := Lib.cell_of_heap hx3 6
          simp at k0 k1 k2 k3 k4 k5 k6
          clear hx3 hI3 hB3 hz3 hA3 hb3 ho3
          go_wp2_with fail
          refine (HT.out _ H3.out.2.2.2).mono ?_
          rintro e w4 ⟨rfl, hb4⟩
          have hI4 := isB_kept H3.out.1 hb4
          have hB4 : Below w.heap.size w w4 := H3.out.2.1.trans (hb4.mono (by have := H3.out.2.2.1; omega))
          have hz4 : w.heap.size < w4.heap.size := by have := hb4.size; have := H3.out.2.2.1; omega
          have H4 := Lib.hid (And.intro hB4 hz4)
          clear hb4 hB4 hz4
          go_wp2_with fail
          refine (writeString_any w.heap.size w.heap.size _ p _ hI4 (by have h1 := HPZ.out; have h2 := HBL.out; rw [Lib.byteCells_length] at h2 ⊢; have h3 : (sepV k t).length ≤ 1 := sep_len k t; rw [List.length_append]; omega) (by have := H4.out.2; omega)).mono ?_
          rintro e w5 ⟨rfl, hA5, hb5⟩
          have hI5 : Lib.IsBuilder 53 5 w.heap.size w.heap.size (Lib.byteCells (joinK l (k + 1))) w5 := isB_eq (Or.inr hA5) (by rw [HS.out.1, Lib.byteCells_append (joinK l k ++ sepV k t), HS.out.2]; rfl)
          have H5 := Lib.hid (And.intro hI5 (And.intro (H4.out.1.trans hb5) (show w.heap.size < w5.heap.size from by have := hb5.size; have := H4.out.2; omega)))
          clear hI5 hA5 hb5 hI4
          go_wp2
          go_roundw
          case rel => exact ⟨k + 1, by go_num, by omega, H5.out.1, H5.out.2.1, H5.out.2.2⟩
          case measure => simp [natOf]; omega
        · have g3 : decide ((0 : Int) < (k : Int)) = false := decide_eq_false (by omega)
          obtain ⟨W2, hW2⟩ : ∃ W2, W2 = wr.alloc (.cells #[.int .i64 t.kind, .int .i64 t.a, .int .i64 t.to, .int .i64 t.n, .string t.s, .bool false, .bool t.o] 27) := ⟨_, rfl⟩
          have hx2 : W2.heap[wr.heap.size]? = some (.cells #[.int .i64 t.kind, .int .i64 t.a, .int .i64 t.to, .int .i64 t.n, .string t.s, .bool false, .bool t.o] 27 (0, 0)) := by rw [hW2]; exact heap_alloc_new wr _
          have hb2 : Below wr.heap.size wr W2 := by rw [hW2]; exact box_new wr _
          have hI2 := isB_kept HII.out hb2
          have hB2 : Below w.heap.size w W2 := HB.out.1.trans (hb2.mono (by omega))
          have hz2 : w.heap.size < W2.heap.size := by have := hb2.size; omega
          have k0 := Lib.cell_of_heap hx2 0
          have k1 := Lib.cell_of_heap hx2 1
          have k2 := Lib.cell_of_heap hx2 2
          have k3 := Lib.cell_of_heap hx2 3
          have k4 := Lib.cell_of_heap hx2 4
          have k5 := Lib.cell_of_heap hx2 5
          have k6 := Lib.cell_of_heap hx2 6
          simp at k0 k1 k2 k3 k4 k5 k6
          have H2 := Lib.hid (And.intro hx2 (And.intro hI2 (And.intro hB2 hz2)))
          have HW2 := Lib.hid hW2
          clear hW2 hx2 hb2 hI2 hB2 hz2
          go_upto_region 5 with fail
          rw [← HW2.out]
          obtain ⟨w3, hw3⟩ : ∃ w3, w3 = W2 := ⟨_, rfl⟩
          rw [← hw3] at H2 k0 k1 k2 k3 k4 k5 k6 ⊢
          clear hw3
          have hx3 := H2.out.1
          have hI3 : Lib.IsBuilder 53 5 w.heap.size w.heap.size (Lib.byteCells (joinK l k ++ sepV k t)) w3 := isB_eq H2.out.2.1 (by unfold sepV; rw [HLI.out, if_neg (by decide), if_neg hk0]; simp)
          have hB3 := H2.out.2.2.1
          have hz3 := H2.out.2.2.2
          have H3 := Lib.hid (And.intro hI3 (And.intro hB3 (And.intro hz3 (tab_grown HTB.out hB3))))
          clear k0 k1 k2 k3 k4 k5 k6
          have k0 := Lib.cell_of_heap hx3 0
          have k1 := Lib.cell_of_heap hx3 1
          have k2 := Lib.cell_of_heap hx3 2
          have k3 := Lib.cell_of_heap hx3 3
          have k4 := Lib.cell_of_heap hx3 4
          have k5 := Lib.cell_of_heap hx3 5
          have k6 := Lib.cell_of_heap hx3 6
          simp at k0 k1 k2 k3 k4 k5 k6
          clear hx3 hI3 hB3 hz3
          go_wp2_with fail
          refine (HT.out _ H3.out.2.2.2).mono ?_
          rintro e w4 ⟨rfl, hb4⟩
          have hI4 := isB_kept H3.out.1 hb4
          have hB4 : Below w.heap.size w w4 := H3.out.2.1.trans (hb4.mono (by have := H3.out.2.2.1; omega))
          have hz4 : w.heap.size < w4.heap.size := by have := hb4.size; have := H3.out.2.2.1; omega
          have H4 := Lib.hid (And.intro hB4 hz4)
          clear hb4 hB4 hz4
          go_wp2_with fail
          refine (writeString_any w.heap.size w.heap.size _ p _ hI4 (by have h1 := HPZ.out; have h2 := HBL.out; rw [Lib.byteCells_length] at h2 ⊢; have h3 : (sepV k t).length ≤ 1 := sep_len k t; rw [List.length_append]; omega) (by have := H4.out.2; omega)).mono ?_
          rintro e w5 ⟨rfl, hA5, hb5⟩
          have hI5 : Lib.IsBuilder 53 5 w.heap.size w.heap.size (Lib.byteCells (joinK l (k + 1))) w5 := isB_eq (Or.inr hA5) (by rw [HS.out.1, Lib.byteCells_append (joinK l k ++ sepV k t), HS.out.2]; rfl)
          have H5 := Lib.hid (And.intro hI5 (And.intro (H4.out.1.trans hb5) (show w.heap.size < w5.heap.size from by have := hb5.size; have := H4.out.2; omega)))
          clear hI5 hA5 hb5 hI4
          go_wp2
          go_roundw
          case rel => exact ⟨k + 1, by go_num, by omega, H5.out.1, H5.out.2.1, H5.out.2.2⟩
          case measure => simp [natOf]; omega
    · have g1 : decide ((k : Int) < (len : Int)) = false := decide_eq_false (by omega)
      obtain rfl : k = len := by omega
      have HB := Lib.hid hb
      clear hb
      go_wp2_with fail
      refine (Tryz.Builder_String_any w.heap.size w.heap.size _ _ hI (by omega)).mono ?_
      rintro e w4 ⟨rfl, hb4⟩
      have HB4 := Lib.hid (HB.out.trans hb4)
      clear hb4
      go_wp2
      go_ret
      exact ⟨rfl, HB4.out⟩
end Go.Proofs.YthkjdllpgcocpaaGreatDoor
