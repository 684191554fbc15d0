/-
  All of package token at this translation: the loop.
-/
import Derived.Test.YthkjdllpgcocpaaGreatDoorTAllV
import Derived.OwnWalk
import Derived.Deep.LoopGhost
namespace Go.Proofs.YthkjdllpgcocpaaGreatDoor
open Go.RowKit

def tkC (t : NT) : List Value := [.int .i64 t.kind, .int .i64 t.a, .int .i64 t.to, .int .i64 t.n, .string t.s, .bool t.line, .bool t.o]
def TokAt (w : World) (B : Nat) (v : Value) (l : List NT) : Prop := w.ownsRow B 27 7 v l.length (l.flatMap tkC)
theorem tok_info : (Tryz.prog.info? 27).map (fun i => (i.zero, i.size, i.bytes)) = some (some (.agg #[.int .i64 0, .int .i64 0, .int .i64 0, .int .i64 0, .string ⟨#[]⟩, .bool false, .bool false]), 7, 56) := by kernel_rfl
theorem tok_one (t : NT) : ∀ u ∈ tkC t, u.oneCell' = true := by
  intro u hu
  simp [tkC] at hu
  rcases hu with rfl | rfl | rfl | rfl | rfl | rfl | rfl <;> rfl
theorem tok_cells (w : World) (t : NT) (b : Nat) (hb : b = w.heap.size) : ∀ j u, (tkC t)[j]? = some u → (w.alloc (.cells #[.int .i64 t.kind, .int .i64 t.a, .int .i64 t.to, .int .i64 t.n, .string t.s, .bool t.line, .bool t.o] 27)).cell? ((⟨b, 0, none⟩ : Addr).add j) = some u := by
  subst hb
  intro j u h
  have e := heap_alloc_new w (.cells #[.int .i64 t.kind, .int .i64 t.a, .int .i64 t.to, .int .i64 t.n, .string t.s, .bool t.line, .bool t.o] 27)
  have hadd : (⟨w.heap.size, 0, none⟩ : Addr).add j = ⟨w.heap.size, j, none⟩ := by unfold Addr.add; split <;> simp_all
  rw [hadd]
  exact (Lib.cell_of_heap e j).trans (by rw [List.getElem?_toArray]; exact h)
theorem grown_below {w w' : World} (h : Below w.heap.size w w') (r : Option Nat) : w.grownBy w' r :=
  ⟨h.os, h.tape, h.output, h.size, fun k hk _ => h.block k hk⟩
theorem tok_kept {w w' : World} {B : Nat} {v : Value} {l : List NT} (h : TokAt w B v l) (hb : Below w.heap.size w w') : TokAt w' B v l :=
  World.ownsRow.kept h (grown_below hb none) (by cases hv : v.ownBlock <;> simp)
theorem stk_kept {w w' : World} {B : Nat} {u : Value} {st : List Int} (h : StkAt w B u st) (hb : Below w.heap.size w w') : StkAt w' B u st :=
  World.ownsRow.kept h (grown_below hb none) (by cases hv : u.ownBlock <;> simp)
/-- a row of tokens and a row of counts are never one block -/
theorem own_apart {w : World} {B : Nat} {v u : Value} {l : List NT} {st : List Int} (h : TokAt w B v l) (k : StkAt w B u st) : v.ownBlock = none ∨ v.ownBlock ≠ u.ownBlock := by
  rcases h.2 with ⟨rfl, _⟩ | ⟨g, cap, cur, rfl, _, hg, _⟩
  · exact .inl rfl
  · right
    rcases k.2 with ⟨rfl, _⟩ | ⟨g', cap', cur', rfl, _, hg', _⟩
    · simp [Value.ownBlock]
    · intro e
      simp [Value.ownBlock] at e
      subst e
      rw [hg] at hg'
      simp at hg'
theorem own_lt {w : World} {B : Nat} {e : TypeId} {z : Nat} {v : Value} {n : Nat} {xs : List Value} (h : w.ownsRow B e z v n xs) (k : Nat) (hk : w.heap.size ≤ k) : some k ≠ v.ownBlock := by
  intro e
  have := (h.lt k e.symm).2
  omega
def AllPost (w : World) (R : List NT × Int × Int) : Ending → World → Prop := fun e w' => ∃ v, e = .returned (.tuple #[v, .int .i64 R.2.1, .int .i64 R.2.2]) ∧ TokAt w' w.heap.size v R.1 ∧ Below w.heap.size w w'
def RelAll (s : ByteArray) (w : World) (N : Nat) (R : List NT × Int × Int) (g : Nat) (v u q : Value) (wz : World) : Prop :=
  ∃ (p : Int) (st : List Int) (acc : List NT) (wx : World) (v0 u0 : Value), wx = wz ∧ v0 = v ∧ u0 = u ∧ q = .int .i64 p ∧ g ≤ N ∧ acc.length + g = N ∧ Bnd acc.length st ∧ TokAt wx w.heap.size v0 acc ∧ StkAt wx w.heap.size u0 st ∧ Below w.heap.size w wx ∧ allV s g p st acc = some R

set_option linter.unusedVariables false in
set_option maxRecDepth 100000 in
set_option maxHeartbeats 4000000 in
theorem All_any (s : ByteArray) (N : Nat) (R : List NT × Int × Int) (w : World) (hN : N ≤ 100000) (h : allV s N 0 [] [] = some R) (ht : SgnT w) (hm : MaxL w) :
    Calls Tryz.prog 12 #[.string s] w (AllPost w R) := by
  have HNX := Lib.hid (fun (W : World) (p : Int) (b : Bool) (hB : Below w.heap.size w W) => next_any s p b W (sgnt_grown ht hB) (maxl_grown hm hB))
  have HV : Hid (RelAll s w N R N (.slice none 0 0) (.slice none 0 0) (.int .i64 0) w) := Lib.hid ⟨0, [], [], w, _, _, rfl, rfl, rfl, rfl, Nat.le_refl _, by simp, bnd_nil, World.ownsRow_nil _ _ _ _, World.ownsRow_nil _ _ _ _, Below.refl _ _, h⟩
  obtain ⟨i0, hi, hz0, hz1, hz2⟩ := info_parts tok_info
  have hT : Tryz.prog.underlying 30 = some (.slice 27) := by kernel_rfl
  clear ht hm h
  go_enter Tryz.func12, Tryz.ntmps12
  go_wp2_with fail
  go_loopg [2, 5, 6] N (fun g v u q wz => RelAll s w N R g v u q wz)
  case atStart => exact HV.out
  case round =>
    obtain ⟨p, st, acc, wx, v, u, hwx, hv, hu, rfl, hg, hgN, hbd, htk, hst, hB, hR⟩ := hrel
    subst hwx hv hu
    clear HV
    cases gk with
    | zero => simp [allV] at hR
    | succ g =>
      unfold allV at hR
      have HX := Lib.hid (HNX.out wx p (tailV st) hB)
      obtain ⟨t, htt⟩ : ∃ t, t = nxT s p (tailV st) := ⟨_, rfl⟩
      rw [← htt] at hR HX
      clear htt
      obtain ⟨kd, a, to, n, str, l, o, fa, er⟩ := t
      unfold ntR at HX
      simp only at hR HX
      by_cases hne : st = []
      · subst hne
        obtain ⟨ad, cap, rfl, _⟩ := stk_shape hst
        replace hst : StkAt wx w.heap.size (.slice ad 0 cap) [] := hst
        rw [show tailV [] = false from rfl] at HX
        go_wp2_with fail
        refine HX.out.mono ?_
        rintro e w1 ⟨rfl, hb⟩
        have htk1 := tok_kept htk hb
        have hst1 := stk_kept hst hb
        have hB1 := t_thr hB hb hB.size
        have hgw := hB1.size
        clear hb HX
        have HK1 := Lib.hid htk1
        have HS1 := Lib.hid hst1
        have HB1 := Lib.hid hB1
        clear htk1 hst1 hB1 htk hst hB
        go_upto_region 5 with fail
        obtain ⟨W2, hW2⟩ : ∃ W2, W2 = w1.alloc (.cells #[.int .i64 kd, .int .i64 a, .int .i64 to, .int .i64 n, .string str, .bool l, .bool o] 27) := ⟨_, rfl⟩
        have hB2 : Below w.heap.size w W2 := by rw [hW2]; exact HB1.out.alloc hgw _
        have htk2 : TokAt W2 w.heap.size v acc := by rw [hW2]; exact World.ownsRow.alloc HK1.out _
        have hst2 : StkAt W2 w.heap.size (.slice ad 0 cap) [] := by rw [hW2]; exact World.ownsRow.alloc HS1.out _
        have hg2 : W2.heap[w1.heap.size]? = some (.cells #[.int .i64 kd, .int .i64 a, .int .i64 to, .int .i64 n, .string str, .bool l, .bool o] 27 (0, 0)) := by rw [hW2]; exact heap_alloc_new w1 _
        have hov := own_lt HK1.out w1.heap.size (Nat.le_refl _)
        have hou := own_lt HS1.out w1.heap.size (Nat.le_refl _)
        rw [← hW2]
        clear hW2 HK1 HS1 HB1
        obtain ⟨b8, hb8⟩ : ∃ b8, b8 = w1.heap.size := ⟨_, rfl⟩
        rw [← hb8] at hg2 hov hou hgw ⊢
        clear hb8
        have hl2 := t_lt hg2
        have HG2 := Lib.hid hg2
        have HK2 := Lib.hid htk2
        have HS2 := Lib.hid hst2
        have HB2 := Lib.hid hB2
        have HOV := Lib.hid hov
        have HOU := Lib.hid hou
        obtain ⟨⟨q0, q1, q2, q3, q4, q5, q6⟩, _, _⟩ := t_seven hg2
        clear hg2 htk2 hst2 hB2 hov hou
        by_cases he : er = 0
        · subst he
          rw [if_pos rfl] at hR
          by_cases hk : kd = 0
          · subst hk
            rw [if_pos rfl] at hR
            have HR : Hid (R = (acc ++ [⟨0, a, to, n, str, l, o, fa, 0⟩], 0, 0)) := Lib.hid (Option.some.inj hR).symm
            clear hR
            have hown : World.ownsRow W2 w.heap.size 27 7 v acc.length (acc.flatMap tkC) := HK2.out
            go_wp2_with (at_builtin; refine wpList_append_own _ rfl _ _ 30 rfl w.heap.size 27 i0 (.agg #[.int .i64 0, .int .i64 0, .int .i64 0, .int .i64 0, .string ⟨#[]⟩, .bool false, .bool false]) 7 56 hT hi hz0 hz1 hz2 rfl (by decide) _ _ _ rfl (hown.alloc _) ⟨_, 0, none⟩ 1 1 (tkC ⟨0, a, to, n, str, l, o, fa, 0⟩) rfl rfl ?_ ?_ ?_ ?_ ?_ ?_; exact tok_cells _ _ _ rfl; exact tok_one _; (unfold maxLen; omega); omega; (simp; omega); intro v' w4 hown' hgrow _; obtain ⟨⟨r0, r1, r2, r3, r4, r5, r6⟩, _, _⟩ := t_seven ((hgrow.block b8 (by simp; omega) HOV.out).trans ((heap_alloc_old W2 _ hl2).trans HG2.out)))
            go_ret3
            refine ⟨v', by rw [HR.out]; rfl, ?_, ?_⟩
            · rw [HR.out]
              unfold TokAt
              simpa using hown'
            · exact (HB2.out.alloc HB2.out.size _).grown hgrow (by simp; omega) (fun k hk => (HK2.out.lt k hk).1)
          · rw [if_neg hk] at hR
            have hkb : (kd == 0) = false := by simpa using hk
            cases hnest : nestV [] ⟨kd, a, to, n, str, l, o, fa, 0⟩ with
            | none => rw [hnest] at hR; cases hR
            | some st' =>
              rw [hnest] at hR
              have HR : Hid (allV s g to st' (acc ++ [⟨kd, a, to, n, str, l, o, fa, 0⟩]) = some R) := Lib.hid hR
              have HBD := Lib.hid (bnd_more hbd hnest)
              have HNE := Lib.hid (fun (W : World) (hBw : w.heap.size ≤ W.heap.size) (hs : StkAt W w.heap.size (.slice ad 0 cap) []) => nest_any w.heap.size acc.length (.slice ad 0 cap) [] st' ⟨kd, a, to, n, str, l, o, fa, 0⟩ W hBw hs hbd (by omega) hnest)
              clear hR hnest hbd
              have hown : World.ownsRow W2 w.heap.size 27 7 v acc.length (acc.flatMap tkC) := HK2.out
              go_wp2_with (at_builtin; refine wpList_append_own _ rfl _ _ 30 rfl w.heap.size 27 i0 (.agg #[.int .i64 0, .int .i64 0, .int .i64 0, .int .i64 0, .string ⟨#[]⟩, .bool false, .bool false]) 7 56 hT hi hz0 hz1 hz2 rfl (by decide) _ _ _ rfl (hown.alloc _) ⟨_, 0, none⟩ 1 1 (tkC ⟨kd, a, to, n, str, l, o, fa, 0⟩) rfl rfl ?_ ?_ ?_ ?_ ?_ ?_; exact tok_cells _ _ _ rfl; exact tok_one _; (unfold maxLen; omega); omega; (simp; omega); intro v' w4 hown' hgrow _; have hg4 := (hgrow.block b8 (by simp; omega) HOV.out).trans ((heap_alloc_old W2 _ hl2).trans HG2.out); obtain ⟨⟨r0, r1, r2, r3, r4, r5, r6⟩, _, _⟩ := t_seven hg4)
              have hB4 : Below w.heap.size w w4 := (HB2.out.alloc HB2.out.size _).grown hgrow (by simp; omega) (fun k hk => (HK2.out.lt k hk).1)
              have hgr4 : World.grownBy _ w4 v.ownBlock := hgrow
              have hst4 : StkAt w4 w.heap.size (.slice ad 0 cap) [] := World.ownsRow.kept (World.ownsRow.alloc HS2.out _) hgr4 (by
                rcases own_apart HK2.out HS2.out with e | e
                · rw [e]; cases hu : Value.ownBlock (.slice ad 0 cap) <;> simp
                · exact .inr (fun e2 => e e2.symm))
              refine (HNE.out w4 hB4.size hst4).mono ?_
              rintro e w5 ⟨u', rfl, hst5, hgr5⟩
              have htk4 : TokAt w4 w.heap.size v' (acc ++ [⟨kd, a, to, n, str, l, o, fa, 0⟩]) := by
                unfold TokAt
                simpa using hown'
              have htk5 : TokAt w5 w.heap.size v' (acc ++ [⟨kd, a, to, n, str, l, o, fa, 0⟩]) := World.ownsRow.kept htk4 hgr5 (own_apart htk4 hst4)
              have hB5 : Below w.heap.size w w5 := hB4.grown hgr5 hB4.size (fun k hk => (hst4.lt k hk).1)
              have hg5 := (hgr5.block b8 (t_lt hg4) HOU.out).trans hg4
              have HK5 := Lib.hid htk5
              have HS5 := Lib.hid hst5
              have HB5 := Lib.hid hB5
              clear hgr4 r0 r1 r2 r3 r4 r5 r6 q0 q1 q2 q3 q4 q5 q6 hg4 hB4 hst4 hst5 hgr5 htk4 htk5 hB5 hown hown' hgrow HNE HK2 HS2 HB2 HG2 HOV HOU
              obtain ⟨⟨r0, r1, r2, r3, r4, r5, r6⟩, _, _⟩ := t_seven hg5
              clear hg5
              go_wp2
              go_roundg g
              case measure => omega
              case rel => exact ⟨to, st', _, w5, _, _, rfl, rfl, rfl, rfl, by omega, by simp; omega, by simpa using HBD.out, HK5.out, HS5.out, HB5.out, HR.out⟩
        · rw [if_neg he] at hR
          have heb : (er != 0) = true := by simpa using he
          have HR : Hid (R = ([], fa, er)) := Lib.hid (Option.some.inj hR).symm
          clear hR
          go_wp2
          go_ret3
          exact ⟨.slice none 0 0, by rw [HR.out]; rfl, by rw [HR.out]; exact World.ownsRow_nil _ _ _ _, HB2.out⟩
      · have hsp := last_split st hne
        obtain ⟨x, hx⟩ : ∃ x, x = st.getLastD 0 := ⟨_, rfl⟩
        obtain ⟨st0, hst0⟩ : ∃ st0, st0 = st.dropLast := ⟨_, rfl⟩
        rw [← hx, ← hst0] at hsp
        clear hx hst0 hne
        have htl : tailV st = (x == 0) := by
          rw [hsp]
          simp [tailV]
        rw [htl] at HX
        clear htl
        have hst' := hst
        rw [hsp] at hst'
        obtain ⟨gg, cap, rfl, hc1, hc2, hcell, _, _, hgl, _, _⟩ := stk_top hst'
        unfold maxLen at hc2
        obtain ⟨m, hm⟩ : ∃ m, m = st0.length := ⟨_, rfl⟩
        have hmb : m ≤ 100000 := by
          have h1 := hbd.1
          have h2 := congrArg List.length hsp
          simp at h2
          omega
        rw [← hm] at hc1 hcell hst ⊢
        clear hst' hsp hm
        obtain ⟨bb, hbb⟩ : ∃ bb, (x == 0) = bb := ⟨_, rfl⟩
        rw [hbb] at HX
        go_wp2_with fail
        refine HX.out.mono ?_
        rintro e w1 ⟨rfl, hb⟩
        have htk1 := tok_kept htk hb
        have hst1 := stk_kept hst hb
        have hB1 := t_thr hB hb hB.size
        have hgw := hB1.size
        clear hb HX
        have HK1 := Lib.hid htk1
        have HS1 := Lib.hid hst1
        have HB1 := Lib.hid hB1
        clear htk1 hst1 hB1 htk hst hB
        go_upto_region 5 with fail
        obtain ⟨W2, hW2⟩ : ∃ W2, W2 = w1.alloc (.cells #[.int .i64 kd, .int .i64 a, .int .i64 to, .int .i64 n, .string str, .bool l, .bool o] 27) := ⟨_, rfl⟩
        have hB2 : Below w.heap.size w W2 := by rw [hW2]; exact HB1.out.alloc hgw _
        have htk2 : TokAt W2 w.heap.size v acc := by rw [hW2]; exact World.ownsRow.alloc HK1.out _
        have hst2 : StkAt W2 w.heap.size (.slice (some ⟨gg, 0, none⟩) (m + 1) cap) st := by rw [hW2]; exact World.ownsRow.alloc HS1.out _
        have hg2 : W2.heap[w1.heap.size]? = some (.cells #[.int .i64 kd, .int .i64 a, .int .i64 to, .int .i64 n, .string str, .bool l, .bool o] 27 (0, 0)) := by rw [hW2]; exact heap_alloc_new w1 _
        have hov := own_lt HK1.out w1.heap.size (Nat.le_refl _)
        have hou := own_lt HS1.out w1.heap.size (Nat.le_refl _)
        rw [← hW2]
        clear hW2 HK1 HS1 HB1
        obtain ⟨b8, hb8⟩ : ∃ b8, b8 = w1.heap.size := ⟨_, rfl⟩
        rw [← hb8] at hg2 hov hou hgw ⊢
        clear hb8
        have hl2 := t_lt hg2
        have HG2 := Lib.hid hg2
        have HK2 := Lib.hid htk2
        have HS2 := Lib.hid hst2
        have HB2 := Lib.hid hB2
        have HOV := Lib.hid hov
        have HOU := Lib.hid hou
        obtain ⟨⟨q0, q1, q2, q3, q4, q5, q6⟩, _, _⟩ := t_seven hg2
        clear hg2 htk2 hst2 hB2 hov hou
        by_cases he : er = 0
        · subst he
          rw [if_pos rfl] at hR
          by_cases hk : kd = 0
          · subst hk
            rw [if_pos rfl] at hR
            have HR : Hid (R = (acc ++ [⟨0, a, to, n, str, l, o, fa, 0⟩], 0, 0)) := Lib.hid (Option.some.inj hR).symm
            clear hR
            have hown : World.ownsRow W2 w.heap.size 27 7 v acc.length (acc.flatMap tkC) := HK2.out
            go_wp2_with (at_builtin; refine wpList_append_own _ rfl _ _ 30 rfl w.heap.size 27 i0 (.agg #[.int .i64 0, .int .i64 0, .int .i64 0, .int .i64 0, .string ⟨#[]⟩, .bool false, .bool false]) 7 56 hT hi hz0 hz1 hz2 rfl (by decide) _ _ _ rfl (hown.alloc _) ⟨_, 0, none⟩ 1 1 (tkC ⟨0, a, to, n, str, l, o, fa, 0⟩) rfl rfl ?_ ?_ ?_ ?_ ?_ ?_; exact tok_cells _ _ _ rfl; exact tok_one _; (unfold maxLen; omega); omega; (simp; omega); intro v' w4 hown' hgrow _; obtain ⟨⟨r0, r1, r2, r3, r4, r5, r6⟩, _, _⟩ := t_seven ((hgrow.block b8 (by simp; omega) HOV.out).trans ((heap_alloc_old W2 _ hl2).trans HG2.out)))
            go_ret3
            refine ⟨v', by rw [HR.out]; rfl, ?_, ?_⟩
            · rw [HR.out]
              unfold TokAt
              simpa using hown'
            · exact (HB2.out.alloc HB2.out.size _).grown hgrow (by simp; omega) (fun k hk => (HK2.out.lt k hk).1)
          · rw [if_neg hk] at hR
            have hkb : (kd == 0) = false := by simpa using hk
            cases hnest : nestV st ⟨kd, a, to, n, str, l, o, fa, 0⟩ with
            | none => rw [hnest] at hR; cases hR
            | some st' =>
              rw [hnest] at hR
              have HR : Hid (allV s g to st' (acc ++ [⟨kd, a, to, n, str, l, o, fa, 0⟩]) = some R) := Lib.hid hR
              have HBD := Lib.hid (bnd_more hbd hnest)
              have HNE := Lib.hid (fun (W : World) (hBw : w.heap.size ≤ W.heap.size) (hs : StkAt W w.heap.size (.slice (some ⟨gg, 0, none⟩) (m + 1) cap) st) => nest_any w.heap.size acc.length (.slice (some ⟨gg, 0, none⟩) (m + 1) cap) st st' ⟨kd, a, to, n, str, l, o, fa, 0⟩ W hBw hs hbd (by omega) hnest)
              clear hR hnest hbd
              have hown : World.ownsRow W2 w.heap.size 27 7 v acc.length (acc.flatMap tkC) := HK2.out
              go_wp2_with (at_builtin; refine wpList_append_own _ rfl _ _ 30 rfl w.heap.size 27 i0 (.agg #[.int .i64 0, .int .i64 0, .int .i64 0, .int .i64 0, .string ⟨#[]⟩, .bool false, .bool false]) 7 56 hT hi hz0 hz1 hz2 rfl (by decide) _ _ _ rfl (hown.alloc _) ⟨_, 0, none⟩ 1 1 (tkC ⟨kd, a, to, n, str, l, o, fa, 0⟩) rfl rfl ?_ ?_ ?_ ?_ ?_ ?_; exact tok_cells _ _ _ rfl; exact tok_one _; (unfold maxLen; omega); omega; (simp; omega); intro v' w4 hown' hgrow _; have hg4 := (hgrow.block b8 (by simp; omega) HOV.out).trans ((heap_alloc_old W2 _ hl2).trans HG2.out); obtain ⟨⟨r0, r1, r2, r3, r4, r5, r6⟩, _, _⟩ := t_seven hg4)
              have hB4 : Below w.heap.size w w4 := (HB2.out.alloc HB2.out.size _).grown hgrow (by simp; omega) (fun k hk => (HK2.out.lt k hk).1)
              have hgr4 : World.grownBy _ w4 v.ownBlock := hgrow
              have hst4 : StkAt w4 w.heap.size (.slice (some ⟨gg, 0, none⟩) (m + 1) cap) st := World.ownsRow.kept (World.ownsRow.alloc HS2.out _) hgr4 (by
                rcases own_apart HK2.out HS2.out with e | e
                · rw [e]; cases hu : Value.ownBlock (.slice (some ⟨gg, 0, none⟩) (m + 1) cap) <;> simp
                · exact .inr (fun e2 => e e2.symm))
              refine (HNE.out w4 hB4.size hst4).mono ?_
              rintro e w5 ⟨u', rfl, hst5, hgr5⟩
              have htk4 : TokAt w4 w.heap.size v' (acc ++ [⟨kd, a, to, n, str, l, o, fa, 0⟩]) := by
                unfold TokAt
                simpa using hown'
              have htk5 : TokAt w5 w.heap.size v' (acc ++ [⟨kd, a, to, n, str, l, o, fa, 0⟩]) := World.ownsRow.kept htk4 hgr5 (own_apart htk4 hst4)
              have hB5 : Below w.heap.size w w5 := hB4.grown hgr5 hB4.size (fun k hk => (hst4.lt k hk).1)
              have hg5 := (hgr5.block b8 (t_lt hg4) HOU.out).trans hg4
              have HK5 := Lib.hid htk5
              have HS5 := Lib.hid hst5
              have HB5 := Lib.hid hB5
              clear hgr4 r0 r1 r2 r3 r4 r5 r6 q0 q1 q2 q3 q4 q5 q6 hg4 hB4 hst4 hst5 hgr5 htk4 htk5 hB5 hown hown' hgrow HNE HK2 HS2 HB2 HG2 HOV HOU
              obtain ⟨⟨r0, r1, r2, r3, r4, r5, r6⟩, _, _⟩ := t_seven hg5
              clear hg5
              go_wp2
              go_roundg g
              case measure => omega
              case rel => exact ⟨to, st', _, w5, _, _, rfl, rfl, rfl, rfl, by omega, by simp; omega, by simpa using HBD.out, HK5.out, HS5.out, HB5.out, HR.out⟩
        · rw [if_neg he] at hR
          have heb : (er != 0) = true := by simpa using he
          have HR : Hid (R = ([], fa, er)) := Lib.hid (Option.some.inj hR).symm
          clear hR
          go_wp2
          go_ret3
          exact ⟨.slice none 0 0, by rw [HR.out]; rfl, by rw [HR.out]; exact World.ownsRow_nil _ _ _ _, HB2.out⟩
end Go.Proofs.YthkjdllpgcocpaaGreatDoor
