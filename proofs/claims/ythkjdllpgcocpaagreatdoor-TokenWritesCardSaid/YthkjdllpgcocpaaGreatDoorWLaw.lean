/-
  The law TokenWrites at this translation: true, whatever the token and the tokens.
-/
import Derived.Test.YthkjdllpgcocpaaGreatDoorWTo
import Derived.Deep.RegionHeld3
import Derived.BigRegion
import Derived.ChangeAlike
namespace Go.Proofs.YthkjdllpgcocpaaGreatDoor
open Go.RowKit

theorem box7 {w : World} {b : Nat} {x0 x1 x2 x3 x4 x5 x6 : Value} {T : TypeId} (h : w.heap[b]? = some (.cells #[x0, x1, x2, x3, x4, x5, x6] T (0, 0))) : w.cell? ⟨b, 0, none⟩ = some x0 ∧ w.cell? ⟨b, 1, none⟩ = some x1 ∧ w.cell? ⟨b, 2, none⟩ = some x2 ∧ w.cell? ⟨b, 3, none⟩ = some x3 ∧ w.cell? ⟨b, 4, none⟩ = some x4 ∧ w.cell? ⟨b, 5, none⟩ = some x5 ∧ w.cell? ⟨b, 6, none⟩ = some x6 := by
  refine ⟨?_, ?_, ?_, ?_, ?_, ?_, ?_⟩ <;> (rw [Lib.cell_of_heap h]; rfl)
def numN (t : NT) : Prop := -9223372036854775808 ≤ t.n ∧ t.n ≤ 9223372036854775807
def TrueP (w : World) : Ending → World → Prop := fun e w' => e = .returned (.bool true) ∧ Below w.heap.size w w'
set_option linter.unusedVariables false in
set_option maxRecDepth 100000 in
set_option maxHeartbeats 4000000 in
theorem writes_walk (t : NT) (l : List NT) (v : Value) (w : World) (hn : numN t) (hnl : ∀ x ∈ l, numN x) (hlm : l.length ≤ 140737488355328) (hz : t.s.size ≤ 140737488355328) (hzl : ∀ x ∈ l, x.s.size ≤ 140737488355328) (h : TokIn w v l) (hs : SgnT w) (hm : MaxL w) (htab : Tab w) :
    Calls Tryz.prog 3 #[.agg #[.int .i64 t.kind, .int .i64 t.a, .int .i64 t.to, .int .i64 t.n, .string t.s, .bool t.line, .bool t.o], v] w (TrueP w) := by
  have HTI := Lib.hid h
  obtain ⟨ao, cap, rfl, hcap, hmax, hin⟩ := h
  obtain ⟨len, hlen⟩ : ∃ len, len = l.length := ⟨_, rfl⟩
  have HL := Lib.hid hlen
  have HI := Lib.hid (And.intro hin (And.intro hn (And.intro hnl hzl)))
  rw [← hlen] at hlm ⊢
  obtain ⟨W1, hW1⟩ : ∃ W1, W1 = w.alloc (.cells #[.int .i64 t.kind, .int .i64 t.a, .int .i64 t.to, .int .i64 t.n, .string t.s, .bool t.line, .bool t.o] 23) := ⟨_, rfl⟩
  have hB1 : Below w.heap.size w W1 := by rw [hW1]; exact box_new w _
  have hx1 : W1.heap[w.heap.size]? = some (.cells #[.int .i64 t.kind, .int .i64 t.a, .int .i64 t.to, .int .i64 t.n, .string t.s, .bool t.line, .bool t.o] 23 (0, 0)) := by rw [hW1]; exact heap_alloc_new w _
  have HX := Lib.hid (And.intro hx1 (lt_heap hx1))
  have HB := Lib.hid hB1
  have HE := Lib.hid (And.intro (sgnt_grown hs hB1) (And.intro (maxl_grown hm hB1) (tab_grown htab hB1)))
  have HG := Lib.hid (fun (W : World) (hW : Below W1.heap.size W1 W) => goes_any W (sgnt_grown HE.out.1 hW) (maxl_grown HE.out.2.1 hW))
  obtain ⟨k0, k1, k2, k3, k4, k5, k6⟩ := box7 hx1
  have HW := Lib.hid hW1
  clear hW1 hB1 hx1 hs hm htab hin hn hnl hzl hcap hmax hlen
  go_enter Tryz.func3, Tryz.ntmps3
  go_upto_region 1 with fail
  rw [← HW.out]
  go_wp2
  go_loopw [5, 12] (fun nv iv wr => ∃ k m : Nat, nv = .int .i64 m ∧ iv = .int .i64 k ∧ k ≤ len ∧ m ≤ 140737488355328 ∧ (0 < k → m ≤ 20000) ∧ t.s.size ≤ m ∧ Hid (∀ i x, i < k → l[i]? = some x → x.s.size ≤ m) ∧ W1 = wr) (fun _ iv _ => len - natOf iv)
  case atStart => exact ⟨0, t.s.size, rfl, rfl, Nat.zero_le _, by omega, by omega, Nat.le_refl _, Lib.hid (fun i x h _ => by omega), rfl⟩
  case round =>
    obtain ⟨k, m, rfl, rfl, hk, hm1, hm2, hm3, HM, rfl⟩ := hrel
    by_cases hlt : k < len
    · have g1 : decide ((k : Int) < (len : Int)) = true := decide_eq_true (by omega)
      have g2 : (k : Int) < (len : Int) := by omega
      obtain ⟨x, hx⟩ : ∃ x, l[k]? = some x := ⟨_, List.getElem?_eq_getElem (by rw [← HL.out]; exact hlt)⟩
      obtain ⟨b, off, rfl, hbb, hc⟩ := HI.out.1 k x hx
      obtain ⟨c0, c1, c2, c3, c4, c5, c6⟩ := cellsT_kept HB.out hbb hc
      have hxz := HI.out.2.2.2 x (List.mem_of_getElem? hx)
      have HXX := Lib.hid (And.intro hx hxz)
      have hsum : (m : Int) + (x.s.size : Int) ≤ 281474976710656 := by omega
      by_cases hbig : 20000 < m + x.s.size
      · have g3 : decide ((20000 : Int) < (m : Int) + (x.s.size : Int)) = true := decide_eq_true (by omega)
        clear hx hc hbig
        go_wp2_with fail
        refine (HG.out _ (Below.refl _ _)).mono ?_
        rintro e w5 ⟨rfl, hb5⟩
        have HB5 := Lib.hid (t_thr HB.out hb5 HB.out.size)
        clear hb5
        go_wp2
        go_ret
        exact ⟨rfl, HB5.out⟩
      · have g3 : decide ((20000 : Int) < (m : Int) + (x.s.size : Int)) = false := decide_eq_false (by omega)
        have hbig2 : m + x.s.size ≤ 20000 := by omega
        clear hx hc hbig
        go_wp2
        go_roundw
        case rel =>
          refine ⟨k + 1, m + x.s.size, by go_num, by go_num, by omega, by omega, fun _ => hbig2, by omega, Lib.hid (fun i y hi hy => ?_), (by first | trivial | rfl)⟩
          by_cases hik : i < k
          · have := HM.out i y hik hy; omega
          · obtain rfl : i = k := by omega
            have e := HXX.out.1.symm.trans hy
            obtain rfl := Option.some.inj e
            omega
        case measure => simp [natOf]; omega
    · have g1 : decide ((k : Int) < (len : Int)) = false := decide_eq_false (by omega)
      obtain rfl : k = len := by omega
      by_cases hk1 : 1000 < k
      · have g3 : decide ((1000 : Int) < (k : Int)) = true := decide_eq_true (by omega)
        go_wp2_with fail
        refine (HG.out _ (Below.refl _ _)).mono ?_
        rintro e w5 ⟨rfl, hb5⟩
        have HB5 := Lib.hid (t_thr HB.out hb5 HB.out.size)
        clear hb5
        go_wp2
        go_ret
        exact ⟨rfl, HB5.out⟩
      have g3 : decide ((1000 : Int) < (k : Int)) = false := decide_eq_false (by omega)
      by_cases hm4 : 20000 < m
      · have g4 : decide ((20000 : Int) < (m : Int)) = true := decide_eq_true (by omega)
        go_wp2_with fail
        refine (HG.out _ (Below.refl _ _)).mono ?_
        rintro e w5 ⟨rfl, hb5⟩
        have HB5 := Lib.hid (t_thr HB.out hb5 HB.out.size)
        clear hb5
        go_wp2
        go_ret
        exact ⟨rfl, HB5.out⟩
      have g4 : decide ((20000 : Int) < (m : Int)) = false := decide_eq_false (by omega)
      have hkl : l.length ≤ 1000 := by rw [← HL.out]; omega
      have hok : ∀ x ∈ l, okT x := by
        intro x hx
        obtain ⟨i, hi⟩ := List.getElem?_of_mem hx
        have hil : i < k := by rw [HL.out]; exact (List.getElem?_eq_some_iff.1 hi).1
        have := HM.out i x hil hi
        exact ⟨by omega, (HI.out.2.2.1 x hx).1, (HI.out.2.2.1 x hx).2⟩
      have hzt : t.s.size ≤ 1000000 := by omega
      obtain ⟨p, hp⟩ : ∃ p : ByteArray, p = ⟨(tkV t.kind t.n t.s t.o).toArray⟩ := ⟨_, rfl⟩
      have H7 : Hid (∀ W, Below W1.heap.size W1 W → Calls Tryz.prog 7 #[.agg #[.int .i64 t.kind, .int .i64 t.a, .int .i64 t.to, .int .i64 t.n, .string t.s, .bool t.line, .bool t.o]] W fun e w' => e = .returned (.string p) ∧ Below W.heap.size W w') := Lib.hid (fun W hW => by rw [hp]; exact text1_any t.kind t.a t.to t.n t.s t.line t.o W hzt HI.out.2.1.1 HI.out.2.1.2 (tab_grown HE.out.2.2 hW))
      have H8 : Hid (∀ W, Calls Tryz.prog 8 #[.agg #[.int .i64 t.kind, .int .i64 t.a, .int .i64 t.to, .int .i64 t.n, .string t.s, .bool t.line, .bool t.o]] W fun e w' => e = .returned (.string p) ∧ Below W.heap.size W w') := Lib.hid (fun W => by rw [hp]; exact rtext1_any t.kind t.a t.to t.n t.s t.line t.o W hzt HI.out.2.1.1 HI.out.2.1.2)
      obtain ⟨q, hq⟩ : ∃ q : ByteArray, q = ⟨(joinK l l.length).toArray⟩ := ⟨_, rfl⟩
      have htk : ∀ W, Below W1.heap.size W1 W → TokIn W (.slice ao k cap) l := fun W hW => by
        have h1 := HTI.out
        rw [← HL.out] at h1
        exact tks_kept (t_thr HB.out hW HB.out.size) h1
      have H10 : Hid (∀ W, Below W1.heap.size W1 W → Calls Tryz.prog 10 #[.slice ao k cap] W fun e w' => ∃ v', e = .returned v' ∧ TokIn w' v' l ∧ Below W.heap.size W w') := Lib.hid (fun W hW => (to_any l _ W (by omega) (htk W hW)).mono fun e w' ⟨v', he, hqa, hb⟩ => ⟨v', he, tks_of hqa, hb⟩)
      have H9 : Hid (∀ W v', Below W1.heap.size W1 W → TokIn W v' l → Calls Tryz.prog 9 #[v'] W fun e w' => e = .returned (.string q) ∧ Below W.heap.size W w') := Lib.hid (fun W v' hW hv => by rw [hq]; exact join_any l v' W hkl hok hv (tab_grown HE.out.2.2 hW))
      have H11 : Hid (∀ W, Below W1.heap.size W1 W → Calls Tryz.prog 11 #[.slice ao k cap] W fun e w' => e = .returned (.string q) ∧ Below W.heap.size W w') := Lib.hid (fun W hW => by rw [hq]; exact rjoin_any l _ W hkl hok (htk W hW))
      have gp : (p.toList == p.toList) = true := by simp
      have gq : (q.toList == q.toList) = true := by simp
      clear htk hok hp hq hkl hzt hlt hk1 hm4
      go_upto_region 11 with fail
      have hS0 : W1.drew.cell? ⟨w.heap.size, 0, none⟩ = some (.int .i64 t.kind) ∧ W1.drew.cell? ⟨w.heap.size, 1, none⟩ = some (.int .i64 t.a) ∧ W1.drew.cell? ⟨w.heap.size, 2, none⟩ = some (.int .i64 t.to) ∧ W1.drew.cell? ⟨w.heap.size, 3, none⟩ = some (.int .i64 t.n) ∧ W1.drew.cell? ⟨w.heap.size, 4, none⟩ = some (.string t.s) ∧ W1.drew.cell? ⟨w.heap.size, 5, none⟩ = some (.bool t.line) ∧ W1.drew.cell? ⟨w.heap.size, 6, none⟩ = some (.bool t.o) := box7 (w := W1.drew) HX.out.1
      go_region_held3 (fun w' => w'.cell? ⟨w.heap.size, 0, none⟩ = some (.int .i64 t.kind) ∧ w'.cell? ⟨w.heap.size, 1, none⟩ = some (.int .i64 t.a) ∧ w'.cell? ⟨w.heap.size, 2, none⟩ = some (.int .i64 t.to) ∧ w'.cell? ⟨w.heap.size, 3, none⟩ = some (.int .i64 t.n) ∧ w'.cell? ⟨w.heap.size, 4, none⟩ = some (.string t.s) ∧ w'.cell? ⟨w.heap.size, 5, none⟩ = some (.bool t.line) ∧ w'.cell? ⟨w.heap.size, 6, none⟩ = some (.bool t.o)) (first | with_reducible assumption) (first
        | (go_at_call 7; refine (H7.out _ (show Below W1.heap.size W1 W1.drew from (Below.refl _ W1).drew)).mono ?_; rintro e x1 ⟨rfl, hbx⟩; have hB9 : Below W1.heap.size W1 x1 := t_thr (show Below W1.heap.size W1 W1.drew from (Below.refl _ W1).drew) hbx (show Below W1.heap.size W1 W1.drew from (Below.refl _ W1).drew).size; have hSx1 : x1.cell? ⟨w.heap.size, 0, none⟩ = some (.int .i64 t.kind) ∧ x1.cell? ⟨w.heap.size, 1, none⟩ = some (.int .i64 t.a) ∧ x1.cell? ⟨w.heap.size, 2, none⟩ = some (.int .i64 t.to) ∧ x1.cell? ⟨w.heap.size, 3, none⟩ = some (.int .i64 t.n) ∧ x1.cell? ⟨w.heap.size, 4, none⟩ = some (.string t.s) ∧ x1.cell? ⟨w.heap.size, 5, none⟩ = some (.bool t.line) ∧ x1.cell? ⟨w.heap.size, 6, none⟩ = some (.bool t.o) := box7 ((hB9.block _ HX.out.2).trans HX.out.1); have HBx1 := Lib.hid hB9; clear hB9 hbx)
        | (go_at_call 8; refine (H8.out _).mono ?_; rintro e x2 ⟨rfl, hbx⟩; have hB9 : Below W1.heap.size W1 x2 := t_thr HBx1.out hbx HBx1.out.size; have hSx2 : x2.cell? ⟨w.heap.size, 0, none⟩ = some (.int .i64 t.kind) ∧ x2.cell? ⟨w.heap.size, 1, none⟩ = some (.int .i64 t.a) ∧ x2.cell? ⟨w.heap.size, 2, none⟩ = some (.int .i64 t.to) ∧ x2.cell? ⟨w.heap.size, 3, none⟩ = some (.int .i64 t.n) ∧ x2.cell? ⟨w.heap.size, 4, none⟩ = some (.string t.s) ∧ x2.cell? ⟨w.heap.size, 5, none⟩ = some (.bool t.line) ∧ x2.cell? ⟨w.heap.size, 6, none⟩ = some (.bool t.o) := box7 ((hB9.block _ HX.out.2).trans HX.out.1); have HBx2 := Lib.hid hB9; clear hB9 hbx)
        | (go_at_call 10; refine (H10.out _ HBx2.out).mono ?_; rintro e x3 ⟨v', rfl, hti, hbx⟩; have hB9 : Below W1.heap.size W1 x3 := t_thr HBx2.out hbx HBx2.out.size; have hSx3 : x3.cell? ⟨w.heap.size, 0, none⟩ = some (.int .i64 t.kind) ∧ x3.cell? ⟨w.heap.size, 1, none⟩ = some (.int .i64 t.a) ∧ x3.cell? ⟨w.heap.size, 2, none⟩ = some (.int .i64 t.to) ∧ x3.cell? ⟨w.heap.size, 3, none⟩ = some (.int .i64 t.n) ∧ x3.cell? ⟨w.heap.size, 4, none⟩ = some (.string t.s) ∧ x3.cell? ⟨w.heap.size, 5, none⟩ = some (.bool t.line) ∧ x3.cell? ⟨w.heap.size, 6, none⟩ = some (.bool t.o) := box7 ((hB9.block _ HX.out.2).trans HX.out.1); have HBx3 := Lib.hid hB9; have HTV := Lib.hid hti; clear hti; clear hB9 hbx)
        | (go_at_call 9; refine (H9.out _ v' HBx3.out HTV.out).mono ?_; rintro e x4 ⟨rfl, hbx⟩; have hB9 : Below W1.heap.size W1 x4 := t_thr HBx3.out hbx HBx3.out.size; have hSx4 : x4.cell? ⟨w.heap.size, 0, none⟩ = some (.int .i64 t.kind) ∧ x4.cell? ⟨w.heap.size, 1, none⟩ = some (.int .i64 t.a) ∧ x4.cell? ⟨w.heap.size, 2, none⟩ = some (.int .i64 t.to) ∧ x4.cell? ⟨w.heap.size, 3, none⟩ = some (.int .i64 t.n) ∧ x4.cell? ⟨w.heap.size, 4, none⟩ = some (.string t.s) ∧ x4.cell? ⟨w.heap.size, 5, none⟩ = some (.bool t.line) ∧ x4.cell? ⟨w.heap.size, 6, none⟩ = some (.bool t.o) := box7 ((hB9.block _ HX.out.2).trans HX.out.1); have HBx4 := Lib.hid hB9; clear hB9 hbx)
        | (go_at_call 11; refine (H11.out _ HBx4.out).mono ?_; rintro e x5 ⟨rfl, hbx⟩; have hB9 : Below W1.heap.size W1 x5 := t_thr HBx4.out hbx HBx4.out.size; have hSx5 : x5.cell? ⟨w.heap.size, 0, none⟩ = some (.int .i64 t.kind) ∧ x5.cell? ⟨w.heap.size, 1, none⟩ = some (.int .i64 t.a) ∧ x5.cell? ⟨w.heap.size, 2, none⟩ = some (.int .i64 t.to) ∧ x5.cell? ⟨w.heap.size, 3, none⟩ = some (.int .i64 t.n) ∧ x5.cell? ⟨w.heap.size, 4, none⟩ = some (.string t.s) ∧ x5.cell? ⟨w.heap.size, 5, none⟩ = some (.bool t.line) ∧ x5.cell? ⟨w.heap.size, 6, none⟩ = some (.bool t.o) := box7 ((hB9.block _ HX.out.2).trans HX.out.1); have HBx5 := Lib.hid hB9; clear hB9 hbx)
        | (go_at_call 6; refine (HG.out _ HBx5.out).mono ?_; rintro e x6 ⟨rfl, hbx⟩; have hB9 : Below W1.heap.size W1 x6 := t_thr HBx5.out hbx HBx5.out.size; have hSx6 : x6.cell? ⟨w.heap.size, 0, none⟩ = some (.int .i64 t.kind) ∧ x6.cell? ⟨w.heap.size, 1, none⟩ = some (.int .i64 t.a) ∧ x6.cell? ⟨w.heap.size, 2, none⟩ = some (.int .i64 t.to) ∧ x6.cell? ⟨w.heap.size, 3, none⟩ = some (.int .i64 t.n) ∧ x6.cell? ⟨w.heap.size, 4, none⟩ = some (.string t.s) ∧ x6.cell? ⟨w.heap.size, 5, none⟩ = some (.bool t.line) ∧ x6.cell? ⟨w.heap.size, 6, none⟩ = some (.bool t.o) := box7 ((hB9.block _ HX.out.2).trans HX.out.1); have HBx6 := Lib.hid hB9; clear hB9 hbx))
      go_wp2
      go_ret
      exact ⟨rfl, t_thr HB.out HBx6.out HB.out.size⟩
end Go.Proofs.YthkjdllpgcocpaaGreatDoor
