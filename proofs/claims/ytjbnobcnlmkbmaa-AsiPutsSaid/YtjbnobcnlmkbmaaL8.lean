/-
  The law AsiPuts at this translation: true, for every slice of tokens and index.
-/
import Derived.Test.YtjbnobcnlmkbmaaL7
namespace Go.Proofs.Ytjbnobcnlmkbmaa
open Go.RowKit

theorem ends_at (b len cap k : Nat) (t : Tk) (r : Int × Bool) (w : World) (hk : k < len) (hl : len ≤ 140737488351232) (hb : b < w.heap.size) (hc : CellsAt w b (0 + k * 7) t) (hr : endsV k t = r) :
    Calls Try.prog 13 #[.slice (some ⟨b, 0, none⟩) len cap, .int .i64 k] w fun e w' => e = .returned (.tuple #[.int .i64 r.1, .bool r.2]) ∧ Below w.heap.size w w' := by
  subst hr
  exact ends_in b 0 len cap k t w hk hl hb hc

def put7 (W : World) (b o : Nat) (t : Tk) : World := ((((((W.setCell ⟨b, o, none⟩ (.int .i64 t.kind)).setCell ⟨b, o + 1, none⟩ (.int .i64 t.a)).setCell ⟨b, o + 2, none⟩ (.int .i64 t.to)).setCell ⟨b, o + 3, none⟩ (.int .i64 t.n)).setCell ⟨b, o + 4, none⟩ (.string t.s)).setCell ⟨b, o + 5, none⟩ (.bool t.line)).setCell ⟨b, o + 6, none⟩ (.bool t.o)
theorem put7_cells {W : World} {b o : Nat} {cs : Array Value} {T : TypeId} (t : Tk) (h : W.heap[b]? = some (.cells cs T (0, 0))) (hs : o + 6 < cs.size) : CellsAt (put7 W b o t) b o t ∧ b < (put7 W b o t).heap.size := by
  have e := set_one (o + 6) (.bool t.o) (set_one (o + 5) (.bool t.line) (set_one (o + 4) (.string t.s) (set_one (o + 3) (.int .i64 t.n) (set_one (o + 2) (.int .i64 t.to) (set_one (o + 1) (.int .i64 t.a) (set_one o (.int .i64 t.kind) h))))))
  refine ⟨⟨(Lib.cell_of_heap e _).trans ?_, (Lib.cell_of_heap e _).trans ?_, (Lib.cell_of_heap e _).trans ?_, (Lib.cell_of_heap e _).trans ?_, (Lib.cell_of_heap e _).trans ?_, (Lib.cell_of_heap e _).trans ?_, (Lib.cell_of_heap e _).trans ?_⟩, lt_of_heap e⟩
  all_goals simp [Array.getElem?_setIfInBounds]
  all_goals omega
theorem put7_below {w W : World} {B b o : Nat} (t : Tk) (h : Below B w W) (hb : B ≤ b) : Below B w (put7 W b o t) :=
  ((((((h.setCell (p := ⟨b, o, none⟩) hb _).setCell (p := ⟨b, o + 1, none⟩) hb _).setCell (p := ⟨b, o + 2, none⟩) hb _).setCell (p := ⟨b, o + 3, none⟩) hb _).setCell (p := ⟨b, o + 4, none⟩) hb _).setCell (p := ⟨b, o + 5, none⟩) hb _).setCell (p := ⟨b, o + 6, none⟩) hb _

set_option linter.unusedVariables false in
set_option maxRecDepth 100000 in
set_option maxHeartbeats 4000000 in
theorem asiPuts_yes (l : List Tk) (v0 : Value) (k : Nat) (t : Tk) (m : Int) (w : World) (h : TksIn w v0 l) (hsm : l.length ≤ 2000) (ht : l[k]? = some t) (he : endsG l k = (m, true)) (hm : m = (k : Int) + 1 ∨ m = k) (hev : endsV k t = (m, true)) :
    Calls Try.prog 5 #[v0, .int .i64 k] w fun e w' => e = .returned (.bool true) ∧ Below w.heap.size w w' := by
  have hl : l.length ≤ 100000 := by omega
  have hkl : k < l.length := (List.getElem?_eq_some_iff.1 ht).1
  have H1 := Lib.hid (to_any l v0 w hl h)
  have H2 := Lib.hid (fun (W : World) (v : Value) (hv : TksIn W v l) => ends_all l v k W hl hv (by omega))
  rw [he] at H2
  unfold endsR at H2
  simp only at H2
  obtain ⟨ao, cap, rfl, hlc, hcm, -⟩ := h
  unfold maxLen at hcm
  have g1 : decide ((2000 : Int) < (l.length : Int)) = false := decide_eq_false (by omega)
  have g2 : decide ((k : Int) < 0) = false := decide_eq_false (by omega)
  have g3 : decide (l.length ≤ k) = false := decide_eq_false (by omega)
  obtain ⟨i0, hi, hz0, hz1, hz2⟩ := info_parts info24
  have hT : Try.prog.underlying 31 = some (.slice 24) := Try.underlying31
  clear he
  have HEV := Lib.hid hev
  clear hev
  obtain ⟨n, hn⟩ : ∃ n, n = l.length := ⟨_, rfl⟩
  rw [← hn] at hsm hl hkl hlc g1 g3 ⊢
  have HN := Lib.hid hn
  rw [← hn] at H1
  have HM := Lib.hid hm
  have HT := Lib.hid ht
  clear hn ht
  go_enter Try.func5, Try.ntmps5
  go_wp2_with fail
  refine H1.out.mono ?_
  rintro e w1 ⟨v1, rfl, hown, hB1⟩
  have hne : ∃ g gcap, v1 = .slice (some ⟨g, 0, none⟩) n gcap := by
    rcases hown.2 with ⟨_, h0⟩ | ⟨g, gcap, cur, hv, _⟩
    · have := HN.out; omega
    · exact ⟨g, gcap, by rw [hv, ← HN.out]⟩
  obtain ⟨g, gcap, rfl⟩ := hne
  obtain ⟨cur, hg, hs, hf, -, hc, hmx, hgb⟩ := own_tks hown
  have hg1 := lt_of_heap hg
  have ht1 := Lib.hid (tks_of hown)
  clear hown H1
  rcases hm with rfl | rfl
  · have g4 : ((k : Int) + 1 != k) = true := by simp; omega
    go_wp2_with fail
    with_reducible refine (H2.out _ _ ht1.out).mono ?_
    rintro e w2 ⟨rfl, hB⟩
    unfold maxLen at hmx
    go_upto_region 9 with fail
    have hkg : k ≤ gcap := by have := HN.out; omega
    have hkg2 : ¬ gcap = k := by have := HN.out; omega
    have hkn : k ≤ n := by omega
    have hngc : n ≤ gcap := by have := HN.out; omega
    have hB2 := a_thr hB1 hB hB1.size
    have HB2 := Lib.hid hB2
    have HT2 := Lib.hid (tks_kept hB ht1.out)
    have HG2 : Hid (w2.heap[g]? = some (.cells cur 24 (0, 0))) := Lib.hid ((hB.block g hg1).trans hg)
    have HF := Lib.hid hf
    have HLT : Hid (((l.take k).flatMap tkC).length = k * 7) := Lib.hid (by rw [flat_len, len_take HN.out hkn])
    have HLD : Hid (((l.drop k).flatMap tkC).length = (n - k) * 7) := Lib.hid (by rw [flat_len, List.length_drop, ← HN.out])
    clear hB1 hB hB2 ht1 hg hf hs hg1 H2 hgb
    go_region_law (first
      | (refine step_append_own rfl (.tmp 51) (.tmp 54) 31 rfl w2.heap.size 24 i0 (.agg #[.int .i64 0, .int .i64 0, .int .i64 0, .int .i64 0, .string ⟨#[]⟩, .bool false, .bool false]) 7 56 hT hi hz0 hz1 hz2 rfl (by decide) _ 0 [] rfl (po_a w2) ⟨g, 0, none⟩ k gcap ((l.take k).flatMap tkC) rfl HLT.out (src_take HG2.out HF.out (pb_one w2 _) k) (flat_one _) (by unfold maxLen; omega) (by omega) (by simp; try omega) ?_; intro v4 w4 hown4 hgrow4 hnil; clear hnil; have HB4 := Lib.hid (Below.grown (pb_one w2 _) hgrow4 (by simp; try omega) (fun q hq => by cases hq; simp)); have HO4 := Lib.hid hown4; have HG4 := Lib.hid hgrow4; clear hown4 hgrow4)
      | (refine step_append_own rfl (.tmp 51) (.tmp 54) 31 rfl w2.heap.size 24 i0 (.agg #[.int .i64 0, .int .i64 0, .int .i64 0, .int .i64 0, .string ⟨#[]⟩, .bool false, .bool false]) 7 56 hT hi hz0 hz1 hz2 rfl (by decide) _ 0 [] rfl (po_b w2 _) ⟨g, 0, none⟩ k gcap ((l.take k).flatMap tkC) rfl HLT.out (src_take HG2.out HF.out (pb_two w2 _ _) k) (flat_one _) (by unfold maxLen; omega) (by omega) (by simp; try omega) ?_; intro v4 w4 hown4 hgrow4 hnil; clear hnil; have HB4 := Lib.hid (Below.grown (pb_two w2 _ _) hgrow4 (by simp; try omega) (fun q hq => by cases hq; simp)); have HO4 := Lib.hid hown4; have HG4 := Lib.hid hgrow4; clear hown4 hgrow4)
      | (refine step_append_own rfl (.tmp 51) (.tmp 54) 31 rfl w2.heap.size 24 i0 (.agg #[.int .i64 0, .int .i64 0, .int .i64 0, .int .i64 0, .string ⟨#[]⟩, .bool false, .bool false]) 7 56 hT hi hz0 hz1 hz2 rfl (by decide) _ 0 [] rfl (po_c w2 _) ⟨g, 0, none⟩ k gcap ((l.take k).flatMap tkC) rfl HLT.out (src_take HG2.out HF.out (pb_two w2 _ _) k) (flat_one _) (by unfold maxLen; omega) (by omega) (by simp; try omega) ?_; intro v4 w4 hown4 hgrow4 hnil; clear hnil; have HB4 := Lib.hid (Below.grown (pb_two w2 _ _) hgrow4 (by simp; try omega) (fun q hq => by cases hq; simp)); have HO4 := Lib.hid hown4; have HG4 := Lib.hid hgrow4; clear hown4 hgrow4)
      | (refine step_append_own rfl (.tmp 55) (.tmp 57) 31 rfl w2.heap.size 24 i0 (.agg #[.int .i64 0, .int .i64 0, .int .i64 0, .int .i64 0, .string ⟨#[]⟩, .bool false, .bool false]) 7 56 hT hi hz0 hz1 hz2 rfl (by decide) _ (0 + k) ([] ++ (l.take k).flatMap tkC) rfl (World.ownsRow.alloc HO4.out _) _ 1 1 (tkC semi) rfl rfl (ps_a w4 semi) (tok_one _) (by unfold maxLen; omega) (by omega) (by have := HB4.out.size; simp; try omega) ?_; intro v7 w7 hown7 hgrow7 hnil; clear hnil; have HB7 := Lib.hid (Below.grown (Below.alloc HB4.out HB4.out.size _) hgrow7 (by have := HB4.out.size; simp; try omega) (fun q hq => (HO4.out.lt q hq).1)); have HO7 := Lib.hid hown7; clear hown7 hgrow7 HG4)
      | (refine step_append_own rfl (.tmp 55) (.tmp 57) 31 rfl w2.heap.size 24 i0 (.agg #[.int .i64 0, .int .i64 0, .int .i64 0, .int .i64 0, .string ⟨#[]⟩, .bool false, .bool false]) 7 56 hT hi hz0 hz1 hz2 rfl (by decide) _ (0 + k) ([] ++ (l.take k).flatMap tkC) rfl HO4.out _ 1 1 (tkC semi) rfl rfl (ps_b (t := semi) HG4.out) (tok_one _) (by unfold maxLen; omega) (by omega) (by have := HB4.out.size; simp; try omega) ?_; intro v7 w7 hown7 hgrow7 hnil; clear hnil; have HB7 := Lib.hid (Below.grown HB4.out hgrow7 (by have := HB4.out.size; simp; try omega) (fun q hq => (HO4.out.lt q hq).1)); have HO7 := Lib.hid hown7; clear hown7 hgrow7 HG4)
      | (refine step_append_own rfl (.tmp 55) (.tmp 57) 31 rfl w2.heap.size 24 i0 (.agg #[.int .i64 0, .int .i64 0, .int .i64 0, .int .i64 0, .string ⟨#[]⟩, .bool false, .bool false]) 7 56 hT hi hz0 hz1 hz2 rfl (by decide) _ (0 + k) ([] ++ (l.take k).flatMap tkC) rfl HO4.out _ 1 1 (tkC semi) rfl rfl (ps_c (t := semi) HG4.out) (tok_one _) (by unfold maxLen; omega) (by omega) (by have := HB4.out.size; simp; try omega) ?_; intro v7 w7 hown7 hgrow7 hnil; clear hnil; have HB7 := Lib.hid (Below.grown HB4.out hgrow7 (by have := HB4.out.size; simp; try omega) (fun q hq => (HO4.out.lt q hq).1)); have HO7 := Lib.hid hown7; clear hown7 hgrow7 HG4)
      | (refine step_append_own rfl (.tmp 58) (.tmp 61) 31 rfl w2.heap.size 24 i0 (.agg #[.int .i64 0, .int .i64 0, .int .i64 0, .int .i64 0, .string ⟨#[]⟩, .bool false, .bool false]) 7 56 hT hi hz0 hz1 hz2 rfl (by decide) _ (0 + k + 1) ([] ++ (l.take k).flatMap tkC ++ tkC semi) rfl HO7.out ⟨g, k * 7, none⟩ (n - k) (gcap - k) ((l.drop k).flatMap tkC) rfl HLD.out (src_drop HG2.out HF.out HB7.out k) (flat_one _) (by unfold maxLen; omega) (by omega) HB7.out.size ?_; intro v11 w11 hown11 hgrow11 hnil; clear hnil; have HB11 := Lib.hid (Below.grown HB7.out hgrow11 HB7.out.size (fun q hq => (HO7.out.lt q hq).1)); have HO11 := Lib.hid hown11; clear hown11 hgrow11 HO7 HB7 HO4 HB4))
    all_goals (obtain ⟨g8, cap8, cur8, rfl, hg8, hh8, hs8, hc8, hm8, hf8⟩ := tk_row (put_at HN.out hkn HO11.out) (put_len HN.out hkn) (by omega))
    all_goals (have HC8 := Lib.hid (flat_cells hh8 hf8 (put_get HN.out hkn)))
    all_goals (have HH8 := Lib.hid hh8; have HF8 := Lib.hid hf8; clear hh8 hf8 HO11 HLT HLD; unfold maxLen at hm8)
    all_goals (
      go_wp2_with fail
      refine (ends_at g8 (n + 1) cap8 k semi _ w11 (by omega) (by omega) (lt_of_heap HH8.out) HC8.out (semi_ends k)).mono ?_
      rintro e w12 ⟨rfl, hB⟩
      have HH12 := Lib.hid ((hB.block g8 (lt_of_heap HH8.out)).trans HH8.out)
      have HT12 := Lib.hid (tks_kept hB (tks_kept HB11.out HT2.out))
      have HB12 := Lib.hid (a_thr HB11.out hB HB11.out.size)
      have hx := cells_kept hB (lt_of_heap HH8.out) HC8.out
      rw [Nat.zero_add] at hx
      clear HH8 HC8 hB HB11 HT2
      obtain ⟨d0, d1, d2, d3, d4, d5, d6⟩ := hx
      obtain ⟨c0, c1, c2, c3, c4, c5, c6⟩ := cells_at0 HT12.out HT.out
      have fz : ∀ i, w12.frozen? ⟨g8, i, none⟩ = false := fun i => by simp [World.frozen?, HH12.out]
      have f0 := fz (k * 7)
      have f1 := fz (k * 7 + 1)
      have f2 := fz (k * 7 + 2)
      have f3 := fz (k * 7 + 3)
      have f4 := fz (k * 7 + 4)
      have f5 := fz (k * 7 + 5)
      have f6 := fz (k * 7 + 6)
      clear fz
      go_upto_region 12 with fail)
    all_goals (
      have hp := put7_cells t HH12.out (o := k * 7) (by omega)
      have HCP := Lib.hid hp.1
      have HLP := hp.2
      have HBP := Lib.hid (put7_below (o := k * 7) t (a_thr HB2.out HB12.out HB2.out.size) (Nat.le_trans HB2.out.size hg8))
      clear hp d0 d1 d2 d3 d4 d5 d6 c0 c1 c2 c3 c4 c5 c6 f0 f1 f2 f3 f4 f5 f6 HH12 HT12 HB12 HB2 hg8
      change Code.wp _ _ _ _ (put7 w12 g8 (k * 7) t)
      generalize put7 w12 g8 (k * 7) t = W13 at HCP HLP HBP ⊢
      go_wp2_with fail
      refine (ends_at g8 (n + 1) cap8 k t _ W13 (by omega) (by omega) HLP (by rw [Nat.zero_add]; exact HCP.out) HEV.out).mono ?_
      rintro e w14 ⟨rfl, hB⟩
      have HB14 := Lib.hid (a_thr HBP.out hB HBP.out.size)
      clear hB HCP HLP HBP
      go_wp2_with fail
      refine (goes_any _).mono ?_
      rintro e w15 ⟨rfl, hB⟩
      have HB15 := Lib.hid (a_thr HB14.out hB HB14.out.size)
      clear hB HB14
      go_wp2
      go_ret
      exact ⟨rfl, HB15.out⟩)
  · go_wp2_with fail
    with_reducible refine (H2.out _ _ ht1.out).mono ?_
    rintro e w2 ⟨rfl, hB⟩
    unfold maxLen at hmx
    go_upto_region 9 with fail
    have hkg : k ≤ gcap := by have := HN.out; omega
    have hkg2 : ¬ gcap = k := by have := HN.out; omega
    have hkn : k ≤ n := by omega
    have hngc : n ≤ gcap := by have := HN.out; omega
    have hB2 := a_thr hB1 hB hB1.size
    have HB2 := Lib.hid hB2
    have HT2 := Lib.hid (tks_kept hB ht1.out)
    have HG2 : Hid (w2.heap[g]? = some (.cells cur 24 (0, 0))) := Lib.hid ((hB.block g hg1).trans hg)
    have HF := Lib.hid hf
    have HLT : Hid (((l.take k).flatMap tkC).length = k * 7) := Lib.hid (by rw [flat_len, len_take HN.out hkn])
    have HLD : Hid (((l.drop k).flatMap tkC).length = (n - k) * 7) := Lib.hid (by rw [flat_len, List.length_drop, ← HN.out])
    clear hB1 hB hB2 ht1 hg hf hs hg1 H2 hgb
    go_region_law (first
      | (refine step_append_own rfl (.tmp 51) (.tmp 54) 31 rfl w2.heap.size 24 i0 (.agg #[.int .i64 0, .int .i64 0, .int .i64 0, .int .i64 0, .string ⟨#[]⟩, .bool false, .bool false]) 7 56 hT hi hz0 hz1 hz2 rfl (by decide) _ 0 [] rfl (po_a w2) ⟨g, 0, none⟩ k gcap ((l.take k).flatMap tkC) rfl HLT.out (src_take HG2.out HF.out (pb_one w2 _) k) (flat_one _) (by unfold maxLen; omega) (by omega) (by simp; try omega) ?_; intro v4 w4 hown4 hgrow4 hnil; clear hnil; have HB4 := Lib.hid (Below.grown (pb_one w2 _) hgrow4 (by simp; try omega) (fun q hq => by cases hq; simp)); have HO4 := Lib.hid hown4; have HG4 := Lib.hid hgrow4; clear hown4 hgrow4)
      | (refine step_append_own rfl (.tmp 51) (.tmp 54) 31 rfl w2.heap.size 24 i0 (.agg #[.int .i64 0, .int .i64 0, .int .i64 0, .int .i64 0, .string ⟨#[]⟩, .bool false, .bool false]) 7 56 hT hi hz0 hz1 hz2 rfl (by decide) _ 0 [] rfl (po_b w2 _) ⟨g, 0, none⟩ k gcap ((l.take k).flatMap tkC) rfl HLT.out (src_take HG2.out HF.out (pb_two w2 _ _) k) (flat_one _) (by unfold maxLen; omega) (by omega) (by simp; try omega) ?_; intro v4 w4 hown4 hgrow4 hnil; clear hnil; have HB4 := Lib.hid (Below.grown (pb_two w2 _ _) hgrow4 (by simp; try omega) (fun q hq => by cases hq; simp)); have HO4 := Lib.hid hown4; have HG4 := Lib.hid hgrow4; clear hown4 hgrow4)
      | (refine step_append_own rfl (.tmp 51) (.tmp 54) 31 rfl w2.heap.size 24 i0 (.agg #[.int .i64 0, .int .i64 0, .int .i64 0, .int .i64 0, .string ⟨#[]⟩, .bool false, .bool false]) 7 56 hT hi hz0 hz1 hz2 rfl (by decide) _ 0 [] rfl (po_c w2 _) ⟨g, 0, none⟩ k gcap ((l.take k).flatMap tkC) rfl HLT.out (src_take HG2.out HF.out (pb_two w2 _ _) k) (flat_one _) (by unfold maxLen; omega) (by omega) (by simp; try omega) ?_; intro v4 w4 hown4 hgrow4 hnil; clear hnil; have HB4 := Lib.hid (Below.grown (pb_two w2 _ _) hgrow4 (by simp; try omega) (fun q hq => by cases hq; simp)); have HO4 := Lib.hid hown4; have HG4 := Lib.hid hgrow4; clear hown4 hgrow4)
      | (refine step_append_own rfl (.tmp 55) (.tmp 57) 31 rfl w2.heap.size 24 i0 (.agg #[.int .i64 0, .int .i64 0, .int .i64 0, .int .i64 0, .string ⟨#[]⟩, .bool false, .bool false]) 7 56 hT hi hz0 hz1 hz2 rfl (by decide) _ (0 + k) ([] ++ (l.take k).flatMap tkC) rfl (World.ownsRow.alloc HO4.out _) _ 1 1 (tkC semi) rfl rfl (ps_a w4 semi) (tok_one _) (by unfold maxLen; omega) (by omega) (by have := HB4.out.size; simp; try omega) ?_; intro v7 w7 hown7 hgrow7 hnil; clear hnil; have HB7 := Lib.hid (Below.grown (Below.alloc HB4.out HB4.out.size _) hgrow7 (by have := HB4.out.size; simp; try omega) (fun q hq => (HO4.out.lt q hq).1)); have HO7 := Lib.hid hown7; clear hown7 hgrow7 HG4)
      | (refine step_append_own rfl (.tmp 55) (.tmp 57) 31 rfl w2.heap.size 24 i0 (.agg #[.int .i64 0, .int .i64 0, .int .i64 0, .int .i64 0, .string ⟨#[]⟩, .bool false, .bool false]) 7 56 hT hi hz0 hz1 hz2 rfl (by decide) _ (0 + k) ([] ++ (l.take k).flatMap tkC) rfl HO4.out _ 1 1 (tkC semi) rfl rfl (ps_b (t := semi) HG4.out) (tok_one _) (by unfold maxLen; omega) (by omega) (by have := HB4.out.size; simp; try omega) ?_; intro v7 w7 hown7 hgrow7 hnil; clear hnil; have HB7 := Lib.hid (Below.grown HB4.out hgrow7 (by have := HB4.out.size; simp; try omega) (fun q hq => (HO4.out.lt q hq).1)); have HO7 := Lib.hid hown7; clear hown7 hgrow7 HG4)
      | (refine step_append_own rfl (.tmp 55) (.tmp 57) 31 rfl w2.heap.size 24 i0 (.agg #[.int .i64 0, .int .i64 0, .int .i64 0, .int .i64 0, .string ⟨#[]⟩, .bool false, .bool false]) 7 56 hT hi hz0 hz1 hz2 rfl (by decide) _ (0 + k) ([] ++ (l.take k).flatMap tkC) rfl HO4.out _ 1 1 (tkC semi) rfl rfl (ps_c (t := semi) HG4.out) (tok_one _) (by unfold maxLen; omega) (by omega) (by have := HB4.out.size; simp; try omega) ?_; intro v7 w7 hown7 hgrow7 hnil; clear hnil; have HB7 := Lib.hid (Below.grown HB4.out hgrow7 (by have := HB4.out.size; simp; try omega) (fun q hq => (HO4.out.lt q hq).1)); have HO7 := Lib.hid hown7; clear hown7 hgrow7 HG4)
      | (refine step_append_own rfl (.tmp 58) (.tmp 61) 31 rfl w2.heap.size 24 i0 (.agg #[.int .i64 0, .int .i64 0, .int .i64 0, .int .i64 0, .string ⟨#[]⟩, .bool false, .bool false]) 7 56 hT hi hz0 hz1 hz2 rfl (by decide) _ (0 + k + 1) ([] ++ (l.take k).flatMap tkC ++ tkC semi) rfl HO7.out ⟨g, k * 7, none⟩ (n - k) (gcap - k) ((l.drop k).flatMap tkC) rfl HLD.out (src_drop HG2.out HF.out HB7.out k) (flat_one _) (by unfold maxLen; omega) (by omega) HB7.out.size ?_; intro v11 w11 hown11 hgrow11 hnil; clear hnil; have HB11 := Lib.hid (Below.grown HB7.out hgrow11 HB7.out.size (fun q hq => (HO7.out.lt q hq).1)); have HO11 := Lib.hid hown11; clear hown11 hgrow11 HO7 HB7 HO4 HB4))
    all_goals (obtain ⟨g8, cap8, cur8, rfl, hg8, hh8, hs8, hc8, hm8, hf8⟩ := tk_row (put_at HN.out hkn HO11.out) (put_len HN.out hkn) (by omega))
    all_goals (have HC8 := Lib.hid (flat_cells hh8 hf8 (put_get HN.out hkn)))
    all_goals (have HH8 := Lib.hid hh8; have HF8 := Lib.hid hf8; clear hh8 hf8 HO11 HLT HLD; unfold maxLen at hm8)
    all_goals (
      go_wp2_with fail
      refine (ends_at g8 (n + 1) cap8 k semi _ w11 (by omega) (by omega) (lt_of_heap HH8.out) HC8.out (semi_ends k)).mono ?_
      rintro e w12 ⟨rfl, hB⟩
      have HH12 := Lib.hid ((hB.block g8 (lt_of_heap HH8.out)).trans HH8.out)
      have HT12 := Lib.hid (tks_kept hB (tks_kept HB11.out HT2.out))
      have HB12 := Lib.hid (a_thr HB11.out hB HB11.out.size)
      have hx := cells_kept hB (lt_of_heap HH8.out) HC8.out
      rw [Nat.zero_add] at hx
      clear HH8 HC8 hB HB11 HT2
      obtain ⟨d0, d1, d2, d3, d4, d5, d6⟩ := hx
      obtain ⟨c0, c1, c2, c3, c4, c5, c6⟩ := cells_at0 HT12.out HT.out
      have fz : ∀ i, w12.frozen? ⟨g8, i, none⟩ = false := fun i => by simp [World.frozen?, HH12.out]
      have f0 := fz (k * 7)
      have f1 := fz (k * 7 + 1)
      have f2 := fz (k * 7 + 2)
      have f3 := fz (k * 7 + 3)
      have f4 := fz (k * 7 + 4)
      have f5 := fz (k * 7 + 5)
      have f6 := fz (k * 7 + 6)
      clear fz
      go_upto_region 12 with fail)
    all_goals (
      have hp := put7_cells t HH12.out (o := k * 7) (by omega)
      have HCP := Lib.hid hp.1
      have HLP := hp.2
      have HBP := Lib.hid (put7_below (o := k * 7) t (a_thr HB2.out HB12.out HB2.out.size) (Nat.le_trans HB2.out.size hg8))
      clear hp d0 d1 d2 d3 d4 d5 d6 c0 c1 c2 c3 c4 c5 c6 f0 f1 f2 f3 f4 f5 f6 HH12 HT12 HB12 HB2 hg8
      change Code.wp _ _ _ _ (put7 w12 g8 (k * 7) t)
      generalize put7 w12 g8 (k * 7) t = W13 at HCP HLP HBP ⊢
      go_wp2_with fail
      refine (ends_at g8 (n + 1) cap8 k t _ W13 (by omega) (by omega) HLP (by rw [Nat.zero_add]; exact HCP.out) HEV.out).mono ?_
      rintro e w14 ⟨rfl, hB⟩
      have HB14 := Lib.hid (a_thr HBP.out hB HBP.out.size)
      clear hB HCP HLP HBP
      go_wp2_with fail
      refine (goes_any _).mono ?_
      rintro e w15 ⟨rfl, hB⟩
      have HB15 := Lib.hid (a_thr HB14.out hB HB14.out.size)
      clear hB HB14
      go_wp2
      go_ret
      exact ⟨rfl, HB15.out⟩)
theorem asiPuts_any (l : List Tk) (v0 : Value) (i : Int) (w : World) (h : TksIn w v0 l) (hi : -9223372036854775808 ≤ i ∧ i ≤ 9223372036854775807) :
    Calls Try.prog 5 #[v0, .int .i64 i] w fun e w' => e = .returned (.bool true) ∧ Below w.heap.size w w' := by
  by_cases hs : l.length ≤ 2000
  · cases h2 : (endsG l i).2 with
    | false => exact asiPuts_no l v0 i w h hs hi h2
    | true =>
      obtain ⟨k, t, rfl, ht, hm, hev⟩ := endsG_yes h2
      rcases hm with hm | hm
      · exact asiPuts_yes l v0 k t _ w h hs ht hm (.inl rfl) (hev.trans hm)
      · exact asiPuts_yes l v0 k t _ w h hs ht hm (.inr rfl) (hev.trans hm)
  · exact asiPuts_big l v0 i w h (by omega)
end Go.Proofs.Ytjbnobcnlmkbmaa
