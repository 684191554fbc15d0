/-
  All of the reference at this translation: it answers what the program's All answers, as far as a count of rounds reaches.
-/
import Derived.Test.YtjbnobcnlmkbmaaDoorTStk2
import Derived.Test.YtjbnobcnlmkbmaaDoorRReadA
import Derived.Test.YtjbnobcnlmkbmaaDoorTAll
namespace Go.Proofs.YtjbnobcnlmkbmaaDoor
open Go.RowKit

def QAt (w : World) (B T : Nat) (v : Value) (l : List NT) : Prop := w.ownsRow B T 7 v l.length (l.flatMap tkC)
def BoolAt (w : World) (B : Nat) (u : Value) (ob : List Bool) : Prop := w.ownsRow B 4 1 u ob.length (ob.map Value.bool)
theorem rtok_info : (Tryd.prog.info? 43).map (fun i => (i.zero, i.size, i.bytes)) = some (some (.agg #[.int .i64 0, .int .i64 0, .int .i64 0, .int .i64 0, .string ⟨#[]⟩, .bool false, .bool false]), 7, 56) := by kernel_rfl
theorem bool_info : (Tryd.prog.info? 4).map (fun i => (i.zero, i.size, i.bytes)) = some (some (.bool false), 1, 1) := by kernel_rfl
theorem rtok_cells (w : World) (t : NT) (b : Nat) (hb : b = w.heap.size) : ∀ j u, (tkC t)[j]? = some u → (w.alloc (.cells #[.int .i64 t.kind, .int .i64 t.a, .int .i64 t.to, .int .i64 t.n, .string t.s, .bool t.line, .bool t.o] 43)).cell? ((⟨b, 0, none⟩ : Addr).add j) = some u := by
  subst hb
  intro j u h
  have e := heap_alloc_new w (.cells #[.int .i64 t.kind, .int .i64 t.a, .int .i64 t.to, .int .i64 t.n, .string t.s, .bool t.line, .bool t.o] 43)
  have hadd : (⟨w.heap.size, 0, none⟩ : Addr).add j = ⟨w.heap.size, j, none⟩ := by unfold Addr.add; split <;> simp_all
  rw [hadd]
  exact (Lib.cell_of_heap e j).trans (by rw [List.getElem?_toArray]; exact h)
theorem q_kept {w w' : World} {B T : Nat} {v : Value} {l : List NT} (h : QAt w B T v l) (hb : Below w.heap.size w w') : QAt w' B T v l :=
  World.ownsRow.kept h (grown_below hb none) (by cases hv : v.ownBlock <;> simp)
theorem bool_kept {w w' : World} {B : Nat} {u : Value} {ob : List Bool} (h : BoolAt w B u ob) (hb : Below w.heap.size w w') : BoolAt w' B u ob :=
  World.ownsRow.kept h (grown_below hb none) (by cases hv : u.ownBlock <;> simp)
theorem bool_one (b : Bool) : ∀ u ∈ ([.bool b] : List Value), u.oneCell' = true := by
  intro u hu
  simp at hu
  subst hu
  rfl
/-- a row of tokens and a row of bools are never one block -/
theorem q_apart {w : World} {B : Nat} {v u : Value} {l : List NT} {ob : List Bool} (h : QAt w B 43 v l) (k : BoolAt w B u ob) : v.ownBlock = none ∨ v.ownBlock ≠ u.ownBlock := by
  rcases h.2 with ⟨rfl, _⟩ | ⟨g, cap, cur, rfl, _, hg, _⟩
  · exact .inl rfl
  · right
    rcases k.2 with ⟨rfl, _⟩ | ⟨g', cap', cur', rfl, _, hg', _⟩
    · simp [Value.ownBlock]
    · intro e
      simp [Value.ownBlock] at e
      subst e
      rw [hg] at hg'
      simp at hg'
theorem q_apart2 {w : World} {B : Nat} {v u : Value} {l : List NT} {ob : List Bool} (h : QAt w B 43 v l) (k : BoolAt w B u ob) : u.ownBlock = none ∨ u.ownBlock ≠ v.ownBlock := by
  rcases q_apart h k with e | e
  · rw [e]
    cases u.ownBlock <;> simp
  · exact .inr (fun e2 => e e2.symm)
theorem q_grown {w w' : World} {B : Nat} {v u : Value} {l : List NT} {ob : List Bool} (h : QAt w B 43 v l) (k : BoolAt w B u ob) (o : Obj) (hg : (w.alloc o).grownBy w' u.ownBlock) : QAt w' B 43 v l :=
  World.ownsRow.kept (World.ownsRow.alloc h o) hg (q_apart h k)
theorem bool_top {w : World} {B : Nat} {u : Value} {ob : List Bool} {x : Bool} (h : BoolAt w B u (ob ++ [x])) :
    ∃ g cap, u = .slice (some ⟨g, 0, none⟩) (ob.length + 1) cap ∧ ob.length + 1 ≤ cap ∧ cap ≤ maxLen ∧ w.cell? ⟨g, ob.length, none⟩ = some (.bool x) ∧ B ≤ g ∧ g < w.heap.size ∧
      (∀ W : World, BoolAt W B (.slice (some ⟨g, 0, none⟩) (ob.length + 1) cap) (ob ++ [x]) → BoolAt W B (.slice (some ⟨g, 0, none⟩) ob.length cap) ob) := by
  obtain ⟨h1, h2⟩ := h
  rcases h2 with ⟨_, h2⟩ | ⟨g, cap, cur, rfl, hb, hg, hn, hm, hs, ht⟩
  · simp at h2
  · have el : (ob ++ [x]).length = ob.length + 1 := by simp
    rw [el] at hn
    have ht' : cur.toList.take (ob.length + 1) = ob.map Value.bool ++ [.bool x] := by
      have := ht
      rw [el, Nat.mul_one] at this
      simpa using this
    have hcur : cur[ob.length]? = some (.bool x) := by
      have e : (cur.toList.take (ob.length + 1))[ob.length]? = some (.bool x) := by rw [ht']; simp
      rw [List.getElem?_take, if_pos (by omega)] at e
      simpa using e
    refine ⟨g, cap, by rw [el], hn, hm, ?_, hb, t_lt hg, ?_⟩
    · simp [World.cell?, hg, hcur]
    · intro W hW
      rcases hW.2 with ⟨hv, _⟩ | ⟨g', cap', cur', hv, hb', hg', hn', hm', hs', ht'⟩
      · cases hv
      · rw [el] at hv
        cases hv
        refine ⟨by simp, .inr ⟨g, cap, cur', rfl, hb', hg', by omega, hm', hs', ?_⟩⟩
        rw [el, Nat.mul_one] at ht'
        have := congrArg (List.take ob.length) ht'
        rw [List.take_take, Nat.min_eq_left (by omega)] at this
        rw [Nat.mul_one, this, List.map_append, List.take_append_of_le_length (by simp), List.take_of_length_le (by simp)]
theorem bool_shape {w : World} {B : Nat} {u : Value} {ob : List Bool} (h : BoolAt w B u ob) : ∃ ad cap, u = .slice ad ob.length cap ∧ ob.length ≤ maxLen := by
  rcases h.2 with ⟨rfl, h2⟩ | ⟨g, cap, cur, rfl, _, _, hn, hm, _, _⟩
  · exact ⟨none, 0, by rw [h2], by omega⟩
  · exact ⟨_, cap, rfl, by omega⟩
theorem bool_push {w : World} {B : Nat} {u : Value} {ob : List Bool} {x : Bool} {m : Nat} (hm : m = ob.length) (h : w.ownsRow B 4 1 u (m + 1) (ob.map Value.bool ++ [.bool x])) : BoolAt w B u (ob ++ [x]) := by
  unfold BoolAt
  rw [hm] at h
  simpa using h
theorem tailR_snoc (ob : List Bool) (x : Bool) : tailR (ob ++ [x]) = x := by
  unfold tailR
  rw [List.getLast?_concat]
  cases x <;> rfl
theorem obs_split (ob : List Bool) (h : ¬ ob = []) : ob = ob.dropLast ++ [ob.getLastD false] := by
  have e := List.dropLast_concat_getLast h
  cases ob with
  | nil => exact absurd rfl h
  | cons x t => exact e.symm
/-- read of the reference answers Next's token, and the place of a fault -/
theorem rRead_nx (s : ByteArray) (k : Nat) (tail : Bool) (w : World) (hs : s.size ≤ 65536) (hk : k ≤ s.size) :
    Calls Tryd.prog 14 #[.string s, .int .i64 k, .bool tail] w fun e w' => e = rdE (nxT s k tail) (rdG s k).1 ∧ Below w.heap.size w w' := by
  have e : nxT s k tail = nxG (rdG s k) (readT s (rdG s k).1 tail) (nlL ((s.data.toList.drop k).take ((rdG s k).1 - k))) := by
    unfold nxT rdG
    rw [if_neg (by omega), if_neg (by omega), Int.toNat_natCast]
  rw [e]
  exact rRead_any s k tail w hs hk
theorem nx_fault (s : ByteArray) (k : Nat) (tail : Bool) (hs : s.size ≤ 65536) (hk : k ≤ s.size) (he : ¬ (nxT s k tail).err = 0) : (nxT s k tail).fault = (rdG s k).1 := by
  have e : nxT s k tail = nxG (rdG s k) (readT s (rdG s k).1 tail) (nlL ((s.data.toList.drop k).take ((rdG s k).1 - k))) := by
    unfold nxT rdG
    rw [if_neg (by omega), if_neg (by omega), Int.toNat_natCast]
  rw [e] at he ⊢
  unfold nxG at he ⊢
  split
  · rename_i h0
    rw [if_pos h0] at he
    split
    · rename_i h1
      rw [if_pos h1] at he
      exact absurd rfl he
    · rfl
  · rfl
def RAllPost (w : World) (R : List NT × Int × Int) : Ending → World → Prop := fun e w' => ∃ v, e = .returned (.tuple #[v, .int .i64 R.2.1, .int .i64 R.2.2]) ∧ QAt w' w.heap.size 43 v R.1 ∧ Below w.heap.size w w'
def RelRA (s : ByteArray) (w : World) (N : Nat) (R : List NT × Int × Int) (g : Nat) (v u q : Value) (wz : World) : Prop :=
  ∃ (p : Nat) (st : List Int) (ob : List Bool) (acc : List NT) (wx : World) (v0 u0 : Value), wx = wz ∧ v0 = v ∧ u0 = u ∧ q = .int .i64 p ∧ g ≤ N ∧ acc.length + g = N ∧ ob.length ≤ acc.length ∧ RelS st ob ∧ p ≤ s.size ∧ QAt wx w.heap.size 43 v0 acc ∧ BoolAt wx w.heap.size u0 ob ∧ Below w.heap.size w wx ∧ allV s g p st acc = some R
/-- how a token steps the list of bools -/
def Step (ob ob' : List Bool) (t : NT) : Prop := ob' = opR ob t

set_option linter.unusedVariables false in
set_option maxRecDepth 100000 in
set_option maxHeartbeats 16000000 in
theorem rAll_any (s : ByteArray) (N : Nat) (R : List NT × Int × Int) (w : World) (hs : s.size ≤ 65536) (hN : N ≤ 100000) (h : allV s N 0 [] [] = some R) :
    Calls Tryd.prog 7 #[.string s] w (RAllPost w R) := by
  have HNX := Lib.hid (fun (W : World) (p : Nat) (b : Bool) (hp : p ≤ s.size) => rRead_nx s p b W hs hp)
  have HV : Hid (RelRA s w N R N (.slice (some ⟨w.heap.size, 0, none⟩) 0 0) (.slice (some ⟨w.heap.size + 1, 0, none⟩) 0 0) (.int .i64 0) ((w.alloc (.cells #[] 43)).alloc (.cells #[] 4))) := Lib.hid ⟨0, [], [], [], _, _, _, rfl, rfl, rfl, rfl, Nat.le_refl _, by simp, by simp, rel_nil, by omega, World.ownsRow.alloc (World.ownsRow_made w #[] 0 (Nat.le_refl _) (by unfold maxLen; omega) rfl) _, (by
    have h := World.ownsRow_made (w.alloc (.cells #[] 43)) (base := w.heap.size) (e := 4) (size := 1) #[] 0 (by simp) (by unfold maxLen; omega) rfl
    have e : (w.alloc (.cells #[] 43)).heap.size = w.heap.size + 1 := by simp
    rw [e] at h
    exact h), ((Below.refl _ w).alloc (Nat.le_refl _) _).alloc (by simp) _, h⟩
  have gs1 : decide ((65536 : Int) < (s.size : Int)) = false := decide_eq_false (by omega)
  obtain ⟨i0, hi, hz0, hz1, hz2⟩ := info_parts rtok_info
  obtain ⟨j0, hj, hy0, hy1, hy2⟩ := info_parts bool_info
  have hT : Tryd.prog.underlying 27 = some (.slice 43) := by kernel_rfl
  have hU : Tryd.prog.underlying 42 = some (.slice 4) := by kernel_rfl
  have HS := Lib.hid hs
  clear h hs
  go_enter Tryd.func7, Tryd.ntmps7
  go_wp2_with fail
  go_loopg [5, 6, 7] N (fun g v u q wz => RelRA s w N R g v u q wz)
  case atStart => exact HV.out
  case round =>
    obtain ⟨p, st, ob, acc, wx, v, u, hwx, hv, hu, rfl, hg, hgN, hbl, hrs, hps, htk, hst, hB, hR⟩ := hrel
    subst hwx hv hu
    clear HV
    cases gk with
    | zero => simp [allV] at hR
    | succ g =>
      unfold allV at hR
      have htl := rel_tail hrs
      have HX := Lib.hid (HNX.out wx p (tailV st) hps)
      have F1 := Lib.hid (fun he hk => nx_in s p (tailV st) HS.out hps he hk)
      have F2 := Lib.hid (fun he hk st' hn => rel_next (st' := st') HS.out hps hrs he hk hn)
      have F3 := Lib.hid (nx_fault s p (tailV st) HS.out hps)
      obtain ⟨pl, hpl⟩ : ∃ pl, pl = (rdG s p).1 := ⟨_, rfl⟩
      rw [← hpl] at HX F3
      clear hpl
      have htl2 := Lib.hid htl
      rw [← htl] at HX
      have F4 : Hid ((nxT s p (tailV st)).err = 0 → ¬ (nxT s p (tailV st)).kind = 0 → (nxT s p (tailV st)).kind = 6 → (nxT s p (tailV st)).n = 1 → tailR ob = true) := Lib.hid (fun he hk h6 h1 => htl2.out.trans ((F1.out he hk).2.2 h6 h1))
      rw [← htl2.out] at hR F1 F2 F3 F4
      obtain ⟨t, htt⟩ : ∃ t, t = nxT s p (tailR ob) := ⟨_, rfl⟩
      rw [← htt] at hR HX F1 F2 F3 F4
      clear htt htl htl2 hrs
      obtain ⟨kd, a, to, n, str, l, o, fa, er⟩ := t
      unfold rdE at HX
      simp only at hR HX
      by_cases hne : ob = []
      · subst hne
        obtain ⟨ad, cap, rfl, _⟩ := bool_shape hst
        replace hst : BoolAt wx w.heap.size (.slice ad 0 cap) [] := hst
        rw [show tailR [] = false from rfl] at HX
        obtain ⟨x, hx⟩ : ∃ x : Bool, x = false := ⟨_, rfl⟩
        have HNIL : Hid (([] : List Bool).length = 0) := Lib.hid rfl
        go_wp2_with fail
        refine HX.out.mono ?_
        rintro e w1 ⟨rfl, hb⟩
        have htk1 := q_kept htk hb
        have hst1 := bool_kept hst hb
        have hB1 := t_thr hB hb hB.size
        have hgw := hB1.size
        clear hb HX
        have HK1 := Lib.hid htk1
        have HS1 := Lib.hid hst1
        have HB1 := Lib.hid hB1
        clear htk1 hst1 hB1 htk hst hB
        go_upto_region 8 with fail
        obtain ⟨W2, hW2⟩ : ∃ W2, W2 = w1.alloc (.cells #[.int .i64 kd, .int .i64 a, .int .i64 to, .int .i64 n, .string str, .bool l, .bool o] 43) := ⟨_, rfl⟩
        have hB2 : Below w.heap.size w W2 := by rw [hW2]; exact HB1.out.alloc hgw _
        have htk2 : QAt W2 w.heap.size 43 v acc := by rw [hW2]; exact World.ownsRow.alloc HK1.out _
        have hst2 : BoolAt W2 w.heap.size (.slice ad 0 cap) [] := by rw [hW2]; exact World.ownsRow.alloc HS1.out _
        have hg2 : W2.heap[w1.heap.size]? = some (.cells #[.int .i64 kd, .int .i64 a, .int .i64 to, .int .i64 n, .string str, .bool l, .bool o] 43 (0, 0)) := by rw [hW2]; exact heap_alloc_new w1 _
        have hov := own_lt HK1.out w1.heap.size (Nat.le_refl _)
        have hou := own_lt HS1.out w1.heap.size (Nat.le_refl _)
        rw [← hW2]
        clear hW2 HK1 HS1 HB1
        obtain ⟨b8, hb8⟩ : ∃ b8, b8 = w1.heap.size := ⟨_, rfl⟩
        rw [← hb8] at hg2 hov hou hgw ⊢
        clear hb8
        have hl2 := t_lt hg2
        have HG2 := Lib.hid hg2
        have HK2 := Lib.hid htk2
        have HS2 := Lib.hid hst2
        have HB2 := Lib.hid hB2
        have HOV := Lib.hid hov
        have HOU := Lib.hid hou
        obtain ⟨⟨q0, q1, q2, q3, q4, q5, q6⟩, _, _⟩ := t_seven hg2
        clear hg2 htk2 hst2 hB2 hov hou
        by_cases he : er = 0
        · subst he
          rw [if_pos rfl] at hR
          have hown : World.ownsRow W2 w.heap.size 43 7 v acc.length (acc.flatMap tkC) := HK2.out
          by_cases hk : kd = 0
          · subst hk
            rw [if_pos rfl] at hR
            have HR : Hid (R = (acc ++ [⟨0, a, to, n, str, l, o, fa, 0⟩], 0, 0)) := Lib.hid (Option.some.inj hR).symm
            clear hR
            go_wp2_with (at_builtin; refine wpList_append_own _ rfl _ _ 27 rfl w.heap.size 43 i0 (.agg #[.int .i64 0, .int .i64 0, .int .i64 0, .int .i64 0, .string ⟨#[]⟩, .bool false, .bool false]) 7 56 hT hi hz0 hz1 hz2 rfl (by decide) _ _ _ rfl (hown.alloc _) ⟨_, 0, none⟩ 1 1 (tkC ⟨0, a, to, n, str, l, o, fa, 0⟩) rfl rfl ?_ ?_ ?_ ?_ ?_ ?_; exact rtok_cells _ _ _ rfl; exact tok_one _; (unfold maxLen; omega); omega; (simp; omega); intro v' w4 hown' hgrow _; obtain ⟨⟨r0, r1, r2, r3, r4, r5, r6⟩, _, _⟩ := t_seven ((hgrow.block b8 (by simp; omega) HOV.out).trans ((heap_alloc_old W2 _ hl2).trans HG2.out)))
            go_ret3
            refine ⟨v', by rw [HR.out]; rfl, ?_, ?_⟩
            · rw [HR.out]
              unfold QAt
              simpa using hown'
            · exact (HB2.out.alloc HB2.out.size _).grown hgrow (by simp; omega) (fun k hk => (HK2.out.lt k hk).1)
          · rw [if_neg hk] at hR
            have hkb : (kd == 0) = false := by simpa using hk
            cases hnest : nestV st ⟨kd, a, to, n, str, l, o, fa, 0⟩ with
            | none => rw [hnest] at hR; cases hR
            | some st' =>
              rw [hnest] at hR
              have HR : Hid (allV s g to st' (acc ++ [⟨kd, a, to, n, str, l, o, fa, 0⟩]) = some R) := Lib.hid hR
              have HREL := Lib.hid (F2.out rfl hk st' hnest)
              have hto := (F1.out rfl hk)
              have ht1 := hto.1
              have ht2 := hto.2.1
              have HF4 := Lib.hid (F4.out rfl hk)
              clear hR hnest F1 F2 F3 F4 hto
              go_upto_region 13 with (at_builtin; refine wpList_append_own _ rfl _ _ 27 rfl w.heap.size 43 i0 (.agg #[.int .i64 0, .int .i64 0, .int .i64 0, .int .i64 0, .string ⟨#[]⟩, .bool false, .bool false]) 7 56 hT hi hz0 hz1 hz2 rfl (by decide) _ _ _ rfl (hown.alloc _) ⟨_, 0, none⟩ 1 1 (tkC ⟨kd, a, to, n, str, l, o, fa, 0⟩) rfl rfl ?_ ?_ ?_ ?_ ?_ ?_; exact rtok_cells _ _ _ rfl; exact tok_one _; (unfold maxLen; omega); omega; (simp; omega); intro v' w4 hown' hgrow _; have hg4 := (hgrow.block b8 (by simp; omega) HOV.out).trans ((heap_alloc_old W2 _ hl2).trans HG2.out); obtain ⟨⟨r0, r1, r2, r3, r4, r5, r6⟩, _, _⟩ := t_seven hg4)
              have hB4 : Below w.heap.size w w4 := (HB2.out.alloc HB2.out.size _).grown hgrow (by simp; omega) (fun k hk => (HK2.out.lt k hk).1)
              have hgr4 : World.grownBy _ w4 v.ownBlock := hgrow
              have hst4 : BoolAt w4 w.heap.size (.slice ad 0 cap) [] := World.ownsRow.kept (World.ownsRow.alloc HS2.out _) hgr4 (q_apart2 HK2.out HS2.out)
              have htk4 : QAt w4 w.heap.size 43 v' (acc ++ [⟨kd, a, to, n, str, l, o, fa, 0⟩]) := by
                unfold QAt
                simpa using hown'
              have HK4 := Lib.hid htk4
              have HS4 := Lib.hid hst4
              have HB4 := Lib.hid hB4
              have HG4 := Lib.hid hg4
              clear hgr4 q0 q1 q2 q3 q4 q5 q6 hg4 hB4 hst4 htk4 hown hown' hgrow HK2 HS2 HB2 HG2 HOV
              by_cases h6 : kd = 6
              · have b6 : (kd == 6) = true := by simpa using h6
                have b5 : (kd == 5) = false := by rw [h6]; rfl
                by_cases h1 : n = 1
                · have := HF4.out h6 h1
                  simp [tailR] at this
                · have z1 : (n == 1) = false := by simpa using h1
                  cases o with
                  | true =>
                    have HOU5 := HOU.out
                    clear HOU
                    have hown2 : World.ownsRow w4 w.heap.size 4 1 (.slice ad 0 cap) (0) (List.map Value.bool []) := HS4.out
                    go_wp2_with (at_builtin; refine wpList_append_own _ rfl _ _ 42 rfl w.heap.size 4 j0 (.bool false) 1 1 hU hj hy0 hy1 hy2 rfl (by decide) _ _ _ rfl (hown2.alloc _) ⟨w4.heap.size, 0, none⟩ 1 1 [.bool true] rfl rfl ?_ ?_ ?_ ?_ ?_ ?_; exact t_newcellb _ _ _ _ rfl; exact bool_one _; (unfold maxLen; omega); omega; (have := HB4.out.size; simp; omega); intro u' w5 hown5 hgrow5 _; obtain ⟨⟨r0, r1, r2, r3, r4, r5, r6⟩, _, _⟩ := t_seven ((hgrow5.block b8 (by simp; have := t_lt HG4.out; omega) HOU5).trans ((heap_alloc_old w4 _ (t_lt HG4.out)).trans HG4.out)))
                    have hst5 : BoolAt w5 w.heap.size u' ([] ++ [true]) := bool_push (by first | rfl | exact HM.out | (rw [HM.out]; simp) | simp) hown5
                    have htk5 := q_grown HK4.out (HS4.out) _ hgrow5
                    have hB5 : Below w.heap.size w w5 := (HB4.out.alloc HB4.out.size _).grown hgrow5 (by simp; have := HB4.out.size; omega) (fun k hk => (hown2.lt k hk).1)
                    have HK5 := Lib.hid htk5
                    have HS5 := Lib.hid hst5
                    have HB5 := Lib.hid hB5
                    clear hown2 hown5 hgrow5 hst5 htk5 hB5 HK4 HS4 HB4 HG4
                    go_wp2
                    go_roundg g
                    case measure => omega
                    case rel => exact ⟨to.toNat, st', [] ++ [true], _, w5, _, _, rfl, rfl, rfl, by rw [Int.toNat_of_nonneg (by omega)], by omega, by simp; omega, by first | omega | (simp; done) | (simp; omega) | (simp at hbl ⊢; omega), (by have h := HREL.out; unfold opR at h; rw [if_pos h6, if_neg h1, if_pos rfl] at h; exact h), by omega, HK5.out, HS5.out, HB5.out, by rw [Int.toNat_of_nonneg (by omega)]; exact HR.out⟩
                  | false =>
                    have HOU5 := HOU.out
                    clear HOU
                    go_wp2
                    go_roundg g
                    case measure => omega
                    case rel => exact ⟨to.toNat, st', [], _, w4, _, _, rfl, rfl, rfl, by rw [Int.toNat_of_nonneg (by omega)], by omega, by simp; omega, by first | omega | (simp; done) | (simp; omega) | (simp at hbl ⊢; omega), (by have h := HREL.out; unfold opR at h; rw [if_pos h6, if_neg h1, if_neg (by simp)] at h; exact h), by omega, HK4.out, HS4.out, HB4.out, by rw [Int.toNat_of_nonneg (by omega)]; exact HR.out⟩
              · have b6 : (kd == 6) = false := by simpa using h6
                by_cases h5 : kd = 5
                · have b5 : (kd == 5) = true := by simpa using h5
                  by_cases s1 : str.toList = [123]
                  · have y1 : (str.toList == [123]) = true := by simpa using s1
                    have y2 : (str.toList == [125]) = false := by rw [s1]; rfl
                    have Y1 := Lib.hid s1
                    clear s1
                    have HOU5 := HOU.out
                    clear HOU
                    have hown2 : World.ownsRow w4 w.heap.size 4 1 (.slice ad 0 cap) (0) (List.map Value.bool []) := HS4.out
                    go_wp2_with (at_builtin; refine wpList_append_own _ rfl _ _ 42 rfl w.heap.size 4 j0 (.bool false) 1 1 hU hj hy0 hy1 hy2 rfl (by decide) _ _ _ rfl (hown2.alloc _) ⟨w4.heap.size, 0, none⟩ 1 1 [.bool false] rfl rfl ?_ ?_ ?_ ?_ ?_ ?_; exact t_newcellb _ _ _ _ rfl; exact bool_one _; (unfold maxLen; omega); omega; (have := HB4.out.size; simp; omega); intro u' w5 hown5 hgrow5 _; obtain ⟨⟨r0, r1, r2, r3, r4, r5, r6⟩, _, _⟩ := t_seven ((hgrow5.block b8 (by simp; have := t_lt HG4.out; omega) HOU5).trans ((heap_alloc_old w4 _ (t_lt HG4.out)).trans HG4.out)))
                    have hst5 : BoolAt w5 w.heap.size u' ([] ++ [false]) := bool_push (by first | rfl | exact HM.out | (rw [HM.out]; simp) | simp) hown5
                    have htk5 := q_grown HK4.out (HS4.out) _ hgrow5
                    have hB5 : Below w.heap.size w w5 := (HB4.out.alloc HB4.out.size _).grown hgrow5 (by simp; have := HB4.out.size; omega) (fun k hk => (hown2.lt k hk).1)
                    have HK5 := Lib.hid htk5
                    have HS5 := Lib.hid hst5
                    have HB5 := Lib.hid hB5
                    clear hown2 hown5 hgrow5 hst5 htk5 hB5 HK4 HS4 HB4 HG4
                    go_wp2
                    go_roundg g
                    case measure => omega
                    case rel => exact ⟨to.toNat, st', [] ++ [false], _, w5, _, _, rfl, rfl, rfl, by rw [Int.toNat_of_nonneg (by omega)], by omega, by simp; omega, by first | omega | (simp; done) | (simp; omega) | (simp at hbl ⊢; omega), (by have h := HREL.out; unfold opR at h; rw [if_neg h6, if_pos h5, if_pos Y1.out] at h; exact h), by omega, HK5.out, HS5.out, HB5.out, by rw [Int.toNat_of_nonneg (by omega)]; exact HR.out⟩
                  · have y1 : (str.toList == [123]) = false := by simpa using s1
                    by_cases s2 : str.toList = [125]
                    · have y2 : (str.toList == [125]) = true := by simpa using s2
                      have Y2 := Lib.hid s2
                      clear s2
                      have HOU5 := HOU.out
                      clear HOU
                      go_wp2
                      go_roundg g
                      case measure => omega
                      case rel => exact ⟨to.toNat, st', [], _, w4, _, _, rfl, rfl, rfl, by rw [Int.toNat_of_nonneg (by omega)], by omega, by simp; omega, by first | omega | (simp; done) | (simp; omega) | (simp at hbl ⊢; omega), (by have h := HREL.out; unfold opR at h; rw [if_neg h6, if_pos h5, if_neg s1, if_pos Y2.out] at h; exact h), by omega, HK4.out, HS4.out, HB4.out, by rw [Int.toNat_of_nonneg (by omega)]; exact HR.out⟩
                    · have y2 : (str.toList == [125]) = false := by simpa using s2
                      have HOU5 := HOU.out
                      clear HOU
                      go_wp2
                      go_roundg g
                      case measure => omega
                      case rel => exact ⟨to.toNat, st', [], _, w4, _, _, rfl, rfl, rfl, by rw [Int.toNat_of_nonneg (by omega)], by omega, by simp; omega, by first | omega | (simp; done) | (simp; omega) | (simp at hbl ⊢; omega), (by have h := HREL.out; unfold opR at h; rw [if_neg h6, if_pos h5, if_neg s1, if_neg s2] at h; exact h), by omega, HK4.out, HS4.out, HB4.out, by rw [Int.toNat_of_nonneg (by omega)]; exact HR.out⟩
                · have b5 : (kd == 5) = false := by simpa using h5
                  have HOU5 := HOU.out
                  clear HOU
                  go_wp2
                  go_roundg g
                  case measure => omega
                  case rel => exact ⟨to.toNat, st', [], _, w4, _, _, rfl, rfl, rfl, by rw [Int.toNat_of_nonneg (by omega)], by omega, by simp; omega, by first | omega | (simp; done) | (simp; omega) | (simp at hbl ⊢; omega), (by have h := HREL.out; unfold opR at h; rw [if_neg h6, if_neg h5] at h; exact h), by omega, HK4.out, HS4.out, HB4.out, by rw [Int.toNat_of_nonneg (by omega)]; exact HR.out⟩
        · rw [if_neg he] at hR
          have heb : (er != 0) = true := by simpa using he
          have hfa := F3.out he
          have HR : Hid (R = ([], (pl : Int), er)) := Lib.hid (by rw [← hfa]; exact (Option.some.inj hR).symm)
          clear hR hfa
          go_wp2
          go_ret3
          exact ⟨.slice none 0 0, by rw [HR.out]; rfl, by rw [HR.out]; exact World.ownsRow_nil _ _ _ _, HB2.out⟩
      · have hsp := obs_split ob hne
        obtain ⟨x, hx⟩ : ∃ x, x = ob.getLastD false := ⟨_, rfl⟩
        obtain ⟨ob0, hob0⟩ : ∃ ob0, ob0 = ob.dropLast := ⟨_, rfl⟩
        rw [← hx, ← hob0] at hsp
        clear hx hob0 hne
        subst hsp
        rw [tailR_snoc] at HX F4
        obtain ⟨gg, cap, rfl, hc1, hc2, hcell, _, hgl, hdown⟩ := bool_top hst
        unfold maxLen at hc2
        obtain ⟨m, hm⟩ : ∃ m, m = ob0.length := ⟨_, rfl⟩
        have hmb : m ≤ 100000 := by simp at hbl; omega
        rw [← hm] at hc1 hcell hst hdown ⊢
        have HM := Lib.hid hm
        have HDOWN := Lib.hid hdown
        clear hm hdown
        go_wp2_with fail
        refine HX.out.mono ?_
        rintro e w1 ⟨rfl, hb⟩
        have htk1 := q_kept htk hb
        have hst1 := bool_kept hst hb
        have hB1 := t_thr hB hb hB.size
        have hgw := hB1.size
        clear hb HX
        have HK1 := Lib.hid htk1
        have HS1 := Lib.hid hst1
        have HB1 := Lib.hid hB1
        clear htk1 hst1 hB1 htk hst hB
        go_upto_region 8 with fail
        obtain ⟨W2, hW2⟩ : ∃ W2, W2 = w1.alloc (.cells #[.int .i64 kd, .int .i64 a, .int .i64 to, .int .i64 n, .string str, .bool l, .bool o] 43) := ⟨_, rfl⟩
        have hB2 : Below w.heap.size w W2 := by rw [hW2]; exact HB1.out.alloc hgw _
        have htk2 : QAt W2 w.heap.size 43 v acc := by rw [hW2]; exact World.ownsRow.alloc HK1.out _
        have hst2 : BoolAt W2 w.heap.size (.slice (some ⟨gg, 0, none⟩) (m + 1) cap) (ob0 ++ [x]) := by rw [hW2]; exact World.ownsRow.alloc HS1.out _
        have hg2 : W2.heap[w1.heap.size]? = some (.cells #[.int .i64 kd, .int .i64 a, .int .i64 to, .int .i64 n, .string str, .bool l, .bool o] 43 (0, 0)) := by rw [hW2]; exact heap_alloc_new w1 _
        have hov := own_lt HK1.out w1.heap.size (Nat.le_refl _)
        have hou := own_lt HS1.out w1.heap.size (Nat.le_refl _)
        rw [← hW2]
        clear hW2 HK1 HS1 HB1
        obtain ⟨b8, hb8⟩ : ∃ b8, b8 = w1.heap.size := ⟨_, rfl⟩
        rw [← hb8] at hg2 hov hou hgw ⊢
        clear hb8
        have hl2 := t_lt hg2
        have HG2 := Lib.hid hg2
        have HK2 := Lib.hid htk2
        have HS2 := Lib.hid hst2
        have HB2 := Lib.hid hB2
        have HOV := Lib.hid hov
        have HOU := Lib.hid hou
        obtain ⟨⟨q0, q1, q2, q3, q4, q5, q6⟩, _, _⟩ := t_seven hg2
        clear hg2 htk2 hst2 hB2 hov hou
        by_cases he : er = 0
        · subst he
          rw [if_pos rfl] at hR
          have hown : World.ownsRow W2 w.heap.size 43 7 v acc.length (acc.flatMap tkC) := HK2.out
          by_cases hk : kd = 0
          · subst hk
            rw [if_pos rfl] at hR
            have HR : Hid (R = (acc ++ [⟨0, a, to, n, str, l, o, fa, 0⟩], 0, 0)) := Lib.hid (Option.some.inj hR).symm
            clear hR
            go_wp2_with (at_builtin; refine wpList_append_own _ rfl _ _ 27 rfl w.heap.size 43 i0 (.agg #[.int .i64 0, .int .i64 0, .int .i64 0, .int .i64 0, .string ⟨#[]⟩, .bool false, .bool false]) 7 56 hT hi hz0 hz1 hz2 rfl (by decide) _ _ _ rfl (hown.alloc _) ⟨_, 0, none⟩ 1 1 (tkC ⟨0, a, to, n, str, l, o, fa, 0⟩) rfl rfl ?_ ?_ ?_ ?_ ?_ ?_; exact rtok_cells _ _ _ rfl; exact tok_one _; (unfold maxLen; omega); omega; (simp; omega); intro v' w4 hown' hgrow _; obtain ⟨⟨r0, r1, r2, r3, r4, r5, r6⟩, _, _⟩ := t_seven ((hgrow.block b8 (by simp; omega) HOV.out).trans ((heap_alloc_old W2 _ hl2).trans HG2.out)))
            go_ret3
            refine ⟨v', by rw [HR.out]; rfl, ?_, ?_⟩
            · rw [HR.out]
              unfold QAt
              simpa using hown'
            · exact (HB2.out.alloc HB2.out.size _).grown hgrow (by simp; omega) (fun k hk => (HK2.out.lt k hk).1)
          · rw [if_neg hk] at hR
            have hkb : (kd == 0) = false := by simpa using hk
            cases hnest : nestV st ⟨kd, a, to, n, str, l, o, fa, 0⟩ with
            | none => rw [hnest] at hR; cases hR
            | some st' =>
              rw [hnest] at hR
              have HR : Hid (allV s g to st' (acc ++ [⟨kd, a, to, n, str, l, o, fa, 0⟩]) = some R) := Lib.hid hR
              have HREL := Lib.hid (F2.out rfl hk st' hnest)
              have hto := (F1.out rfl hk)
              have ht1 := hto.1
              have ht2 := hto.2.1
              have HF4 := Lib.hid (F4.out rfl hk)
              clear hR hnest F1 F2 F3 F4 hto
              go_upto_region 13 with (at_builtin; refine wpList_append_own _ rfl _ _ 27 rfl w.heap.size 43 i0 (.agg #[.int .i64 0, .int .i64 0, .int .i64 0, .int .i64 0, .string ⟨#[]⟩, .bool false, .bool false]) 7 56 hT hi hz0 hz1 hz2 rfl (by decide) _ _ _ rfl (hown.alloc _) ⟨_, 0, none⟩ 1 1 (tkC ⟨kd, a, to, n, str, l, o, fa, 0⟩) rfl rfl ?_ ?_ ?_ ?_ ?_ ?_; exact rtok_cells _ _ _ rfl; exact tok_one _; (unfold maxLen; omega); omega; (simp; omega); intro v' w4 hown' hgrow _; have hg4 := (hgrow.block b8 (by simp; omega) HOV.out).trans ((heap_alloc_old W2 _ hl2).trans HG2.out); obtain ⟨⟨r0, r1, r2, r3, r4, r5, r6⟩, _, _⟩ := t_seven hg4)
              have hB4 : Below w.heap.size w w4 := (HB2.out.alloc HB2.out.size _).grown hgrow (by simp; omega) (fun k hk => (HK2.out.lt k hk).1)
              have hgr4 : World.grownBy _ w4 v.ownBlock := hgrow
              have hst4 : BoolAt w4 w.heap.size (.slice (some ⟨gg, 0, none⟩) (m + 1) cap) (ob0 ++ [x]) := World.ownsRow.kept (World.ownsRow.alloc HS2.out _) hgr4 (q_apart2 HK2.out HS2.out)
              have htk4 : QAt w4 w.heap.size 43 v' (acc ++ [⟨kd, a, to, n, str, l, o, fa, 0⟩]) := by
                unfold QAt
                simpa using hown'
              have HK4 := Lib.hid htk4
              have HS4 := Lib.hid hst4
              have HB4 := Lib.hid hB4
              have HG4 := Lib.hid hg4
              clear hgr4 q0 q1 q2 q3 q4 q5 q6 hg4 hB4 hst4 htk4 hown hown' hgrow HK2 HS2 HB2 HG2 HOV
              by_cases h6 : kd = 6
              · have b6 : (kd == 6) = true := by simpa using h6
                have b5 : (kd == 5) = false := by rw [h6]; rfl
                by_cases h1 : n = 1
                · have z1 : (n == 1) = true := by simpa using h1
                  have hxt := HF4.out h6 h1
                  cases o with
                  | true =>
                    have HOU5 := HOU.out
                    clear HOU
                    have hown2 : World.ownsRow w4 w.heap.size 4 1 (.slice (some ⟨gg, 0, none⟩) m cap) (m) (List.map Value.bool ob0) := (by have := HDOWN.out _ HS4.out; unfold BoolAt at this; rw [← HM.out] at this; exact this)
                    go_wp2_with (at_builtin; refine wpList_append_own _ rfl _ _ 42 rfl w.heap.size 4 j0 (.bool false) 1 1 hU hj hy0 hy1 hy2 rfl (by decide) _ _ _ rfl (hown2.alloc _) ⟨w4.heap.size, 0, none⟩ 1 1 [.bool true] rfl rfl ?_ ?_ ?_ ?_ ?_ ?_; exact t_newcellb _ _ _ _ rfl; exact bool_one _; (unfold maxLen; omega); omega; (have := HB4.out.size; simp; omega); intro u' w5 hown5 hgrow5 _; obtain ⟨⟨r0, r1, r2, r3, r4, r5, r6⟩, _, _⟩ := t_seven ((hgrow5.block b8 (by simp; have := t_lt HG4.out; omega) HOU5).trans ((heap_alloc_old w4 _ (t_lt HG4.out)).trans HG4.out)))
                    have hst5 : BoolAt w5 w.heap.size u' (ob0 ++ [true]) := bool_push (by first | rfl | exact HM.out | (rw [HM.out]; simp) | simp) hown5
                    have htk5 := q_grown HK4.out (HDOWN.out _ HS4.out) _ hgrow5
                    have hB5 : Below w.heap.size w w5 := (HB4.out.alloc HB4.out.size _).grown hgrow5 (by simp; have := HB4.out.size; omega) (fun k hk => (hown2.lt k hk).1)
                    have HK5 := Lib.hid htk5
                    have HS5 := Lib.hid hst5
                    have HB5 := Lib.hid hB5
                    clear hown2 hown5 hgrow5 hst5 htk5 hB5 HK4 HS4 HB4 HG4
                    go_wp2
                    go_roundg g
                    case measure => omega
                    case rel => exact ⟨to.toNat, st', ob0 ++ [true], _, w5, _, _, rfl, rfl, rfl, by rw [Int.toNat_of_nonneg (by omega)], by omega, by simp; omega, by first | omega | (simp; done) | (simp; omega) | (simp at hbl ⊢; omega), (by have h := HREL.out; unfold opR at h; rw [if_pos h6, if_pos h1, if_pos rfl, List.dropLast_concat] at h; exact h), by omega, HK5.out, HS5.out, HB5.out, by rw [Int.toNat_of_nonneg (by omega)]; exact HR.out⟩
                  | false =>
                    have HOU5 := HOU.out
                    clear HOU
                    go_wp2
                    go_roundg g
                    case measure => omega
                    case rel => exact ⟨to.toNat, st', ob0, _, w4, _, _, rfl, rfl, rfl, by rw [Int.toNat_of_nonneg (by omega)], by omega, by simp; omega, by first | omega | (simp; done) | (simp; omega) | (simp at hbl ⊢; omega), (by have h := HREL.out; unfold opR at h; rw [if_pos h6, if_pos h1, if_neg (by simp), List.dropLast_concat] at h; exact h), by omega, HK4.out, HDOWN.out _ HS4.out, HB4.out, by rw [Int.toNat_of_nonneg (by omega)]; exact HR.out⟩
                · have z1 : (n == 1) = false := by simpa using h1
                  cases o with
                  | true =>
                    have HOU5 := HOU.out
                    clear HOU
                    have hown2 : World.ownsRow w4 w.heap.size 4 1 (.slice (some ⟨gg, 0, none⟩) (m + 1) cap) (m + 1) (List.map Value.bool (ob0 ++ [x])) := (by have := HS4.out; unfold BoolAt at this; simpa [HM.out] using this)
                    go_wp2_with (at_builtin; refine wpList_append_own _ rfl _ _ 42 rfl w.heap.size 4 j0 (.bool false) 1 1 hU hj hy0 hy1 hy2 rfl (by decide) _ _ _ rfl (hown2.alloc _) ⟨w4.heap.size, 0, none⟩ 1 1 [.bool true] rfl rfl ?_ ?_ ?_ ?_ ?_ ?_; exact t_newcellb _ _ _ _ rfl; exact bool_one _; (unfold maxLen; omega); omega; (have := HB4.out.size; simp; omega); intro u' w5 hown5 hgrow5 _; obtain ⟨⟨r0, r1, r2, r3, r4, r5, r6⟩, _, _⟩ := t_seven ((hgrow5.block b8 (by simp; have := t_lt HG4.out; omega) HOU5).trans ((heap_alloc_old w4 _ (t_lt HG4.out)).trans HG4.out)))
                    have hst5 : BoolAt w5 w.heap.size u' ((ob0 ++ [x]) ++ [true]) := bool_push (by first | rfl | exact HM.out | (rw [HM.out]; simp) | simp) hown5
                    have htk5 := q_grown HK4.out (HS4.out) _ hgrow5
                    have hB5 : Below w.heap.size w w5 := (HB4.out.alloc HB4.out.size _).grown hgrow5 (by simp; have := HB4.out.size; omega) (fun k hk => (hown2.lt k hk).1)
                    have HK5 := Lib.hid htk5
                    have HS5 := Lib.hid hst5
                    have HB5 := Lib.hid hB5
                    clear hown2 hown5 hgrow5 hst5 htk5 hB5 HK4 HS4 HB4 HG4
                    go_wp2
                    go_roundg g
                    case measure => omega
                    case rel => exact ⟨to.toNat, st', (ob0 ++ [x]) ++ [true], _, w5, _, _, rfl, rfl, rfl, by rw [Int.toNat_of_nonneg (by omega)], by omega, by simp; omega, by first | omega | (simp; done) | (simp; omega) | (simp at hbl ⊢; omega), (by have h := HREL.out; unfold opR at h; rw [if_pos h6, if_neg h1, if_pos rfl] at h; exact h), by omega, HK5.out, HS5.out, HB5.out, by rw [Int.toNat_of_nonneg (by omega)]; exact HR.out⟩
                  | false =>
                    have HOU5 := HOU.out
                    clear HOU
                    go_wp2
                    go_roundg g
                    case measure => omega
                    case rel => exact ⟨to.toNat, st', ob0 ++ [x], _, w4, _, _, rfl, rfl, rfl, by rw [Int.toNat_of_nonneg (by omega)], by omega, by simp; omega, by first | omega | (simp; done) | (simp; omega) | (simp at hbl ⊢; omega), (by have h := HREL.out; unfold opR at h; rw [if_pos h6, if_neg h1, if_neg (by simp)] at h; exact h), by omega, HK4.out, HS4.out, HB4.out, by rw [Int.toNat_of_nonneg (by omega)]; exact HR.out⟩
              · have b6 : (kd == 6) = false := by simpa using h6
                by_cases h5 : kd = 5
                · have b5 : (kd == 5) = true := by simpa using h5
                  by_cases s1 : str.toList = [123]
                  · have y1 : (str.toList == [123]) = true := by simpa using s1
                    have y2 : (str.toList == [125]) = false := by rw [s1]; rfl
                    have Y1 := Lib.hid s1
                    clear s1
                    have HOU5 := HOU.out
                    clear HOU
                    have hown2 : World.ownsRow w4 w.heap.size 4 1 (.slice (some ⟨gg, 0, none⟩) (m + 1) cap) (m + 1) (List.map Value.bool (ob0 ++ [x])) := (by have := HS4.out; unfold BoolAt at this; simpa [HM.out] using this)
                    go_wp2_with (at_builtin; refine wpList_append_own _ rfl _ _ 42 rfl w.heap.size 4 j0 (.bool false) 1 1 hU hj hy0 hy1 hy2 rfl (by decide) _ _ _ rfl (hown2.alloc _) ⟨w4.heap.size, 0, none⟩ 1 1 [.bool false] rfl rfl ?_ ?_ ?_ ?_ ?_ ?_; exact t_newcellb _ _ _ _ rfl; exact bool_one _; (unfold maxLen; omega); omega; (have := HB4.out.size; simp; omega); intro u' w5 hown5 hgrow5 _; obtain ⟨⟨r0, r1, r2, r3, r4, r5, r6⟩, _, _⟩ := t_seven ((hgrow5.block b8 (by simp; have := t_lt HG4.out; omega) HOU5).trans ((heap_alloc_old w4 _ (t_lt HG4.out)).trans HG4.out)))
                    have hst5 : BoolAt w5 w.heap.size u' ((ob0 ++ [x]) ++ [false]) := bool_push (by first | rfl | exact HM.out | (rw [HM.out]; simp) | simp) hown5
                    have htk5 := q_grown HK4.out (HS4.out) _ hgrow5
                    have hB5 : Below w.heap.size w w5 := (HB4.out.alloc HB4.out.size _).grown hgrow5 (by simp; have := HB4.out.size; omega) (fun k hk => (hown2.lt k hk).1)
                    have HK5 := Lib.hid htk5
                    have HS5 := Lib.hid hst5
                    have HB5 := Lib.hid hB5
                    clear hown2 hown5 hgrow5 hst5 htk5 hB5 HK4 HS4 HB4 HG4
                    go_wp2
                    go_roundg g
                    case measure => omega
                    case rel => exact ⟨to.toNat, st', (ob0 ++ [x]) ++ [false], _, w5, _, _, rfl, rfl, rfl, by rw [Int.toNat_of_nonneg (by omega)], by omega, by simp; omega, by first | omega | (simp; done) | (simp; omega) | (simp at hbl ⊢; omega), (by have h := HREL.out; unfold opR at h; rw [if_neg h6, if_pos h5, if_pos Y1.out] at h; exact h), by omega, HK5.out, HS5.out, HB5.out, by rw [Int.toNat_of_nonneg (by omega)]; exact HR.out⟩
                  · have y1 : (str.toList == [123]) = false := by simpa using s1
                    by_cases s2 : str.toList = [125]
                    · have y2 : (str.toList == [125]) = true := by simpa using s2
                      have Y2 := Lib.hid s2
                      clear s2
                      have HOU5 := HOU.out
                      clear HOU
                      go_wp2
                      go_roundg g
                      case measure => omega
                      case rel => exact ⟨to.toNat, st', ob0, _, w4, _, _, rfl, rfl, rfl, by rw [Int.toNat_of_nonneg (by omega)], by omega, by simp; omega, by first | omega | (simp; done) | (simp; omega) | (simp at hbl ⊢; omega), (by have h := HREL.out; unfold opR at h; rw [if_neg h6, if_pos h5, if_neg s1, if_pos Y2.out, List.dropLast_concat] at h; exact h), by omega, HK4.out, HDOWN.out _ HS4.out, HB4.out, by rw [Int.toNat_of_nonneg (by omega)]; exact HR.out⟩
                    · have y2 : (str.toList == [125]) = false := by simpa using s2
                      have HOU5 := HOU.out
                      clear HOU
                      go_wp2
                      go_roundg g
                      case measure => omega
                      case rel => exact ⟨to.toNat, st', ob0 ++ [x], _, w4, _, _, rfl, rfl, rfl, by rw [Int.toNat_of_nonneg (by omega)], by omega, by simp; omega, by first | omega | (simp; done) | (simp; omega) | (simp at hbl ⊢; omega), (by have h := HREL.out; unfold opR at h; rw [if_neg h6, if_pos h5, if_neg s1, if_neg s2] at h; exact h), by omega, HK4.out, HS4.out, HB4.out, by rw [Int.toNat_of_nonneg (by omega)]; exact HR.out⟩
                · have b5 : (kd == 5) = false := by simpa using h5
                  have HOU5 := HOU.out
                  clear HOU
                  go_wp2
                  go_roundg g
                  case measure => omega
                  case rel => exact ⟨to.toNat, st', ob0 ++ [x], _, w4, _, _, rfl, rfl, rfl, by rw [Int.toNat_of_nonneg (by omega)], by omega, by simp; omega, by first | omega | (simp; done) | (simp; omega) | (simp at hbl ⊢; omega), (by have h := HREL.out; unfold opR at h; rw [if_neg h6, if_neg h5] at h; exact h), by omega, HK4.out, HS4.out, HB4.out, by rw [Int.toNat_of_nonneg (by omega)]; exact HR.out⟩
        · rw [if_neg he] at hR
          have heb : (er != 0) = true := by simpa using he
          have hfa := F3.out he
          have HR : Hid (R = ([], (pl : Int), er)) := Lib.hid (by rw [← hfa]; exact (Option.some.inj hR).symm)
          clear hR hfa
          go_wp2
          go_ret3
          exact ⟨.slice none 0 0, by rw [HR.out]; rfl, by rw [HR.out]; exact World.ownsRow_nil _ _ _ _, HB2.out⟩
end Go.Proofs.YtjbnobcnlmkbmaaDoor
