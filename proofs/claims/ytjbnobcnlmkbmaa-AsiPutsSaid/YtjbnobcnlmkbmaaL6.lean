/-
  The law AsiPlain at this translation: true, for every slice of tokens.
-/
import Derived.Test.YtjbnobcnlmkbmaaL5
namespace Go.Proofs.Ytjbnobcnlmkbmaa
open Go.RowKit

theorem ret_bars (k : Int) (s : ByteArray) : barsB ⟨#[114, 101, 116, 117, 114, 110]⟩ k s false = false := by simp [barsB]
theorem own_tks {W : World} {B g n cap : Nat} {l : List Tk} (h : TkAt W B 24 (.slice (some ⟨g, 0, none⟩) n cap) l) : ∃ cur, W.heap[g]? = some (.cells cur 24 (0, 0)) ∧ cur.size = cap * 7 ∧ FlatIn cur l ∧ n = l.length ∧ n ≤ cap ∧ cap ≤ maxLen ∧ B ≤ g := by
  rcases h.2 with ⟨hv, _⟩ | ⟨g', cap', cur, hv, hb, hg, hn, hm, hs, ht⟩
  · cases hv
  · cases hv
    refine ⟨cur, hg, hs, fun i t hi j u hu => ?_, rfl, hn, hm, hb⟩
    have h1 := flat_at hi hu
    rw [← ht, List.getElem?_take] at h1
    split at h1
    · simpa using h1
    · cases h1
theorem cells_at0 {w : World} {g n cap k : Nat} {l : List Tk} {t : Tk} (h : TksIn w (.slice (some ⟨g, 0, none⟩) n cap) l) (ht : l[k]? = some t) : CellsAt w g (k * 7) t := by
  obtain ⟨ao, cap', hv, _, _, hin⟩ := h
  obtain ⟨b, off, hao, _, hc⟩ := hin k t ht
  subst hao
  cases hv
  rw [Nat.zero_add] at hc
  exact hc
def RelI (W : World) (n : Nat) (i : Value) (wr : World) : Prop := ∃ k : Nat, k ≤ n ∧ i = .int .i64 k ∧ Below W.heap.size W wr

set_option linter.unusedVariables false in
set_option maxRecDepth 100000 in
set_option maxHeartbeats 4000000 in
theorem asiPlain_big (l : List Tk) (v0 : Value) (w : World) (h : TksIn w v0 l) (hbig : 500 < l.length) :
    Calls Try.prog 6 #[v0] w fun e w' => e = .returned (.bool true) ∧ Below w.heap.size w w' := by
  obtain ⟨ao, cap, rfl, hlc, hcm, _⟩ := h
  unfold maxLen at hcm
  have g1 : decide ((500 : Int) < (l.length : Int)) = true := decide_eq_true (by omega)
  have HG := Lib.hid (goes_any w)
  generalize l.length = len at hlc hcm hbig g1 ⊢
  go_enter Try.func6, Try.ntmps6
  go_wp2_with fail
  refine HG.out.mono ?_
  rintro e w1 ⟨rfl, hB⟩
  go_wp2
  go_ret
  exact ⟨rfl, hB⟩

set_option linter.unusedVariables false in
set_option maxRecDepth 100000 in
set_option maxHeartbeats 4000000 in
theorem asiPlain_walk (l : List Tk) (v0 : Value) (w : World) (h : TksIn w v0 l) (hsm : l.length ≤ 500) :
    Calls Try.prog 6 #[v0] w fun e w' => e = .returned (.bool true) ∧ Below w.heap.size w w' := by
  have hl : l.length ≤ 100000 := by omega
  have H1 := Lib.hid (to_any l v0 w hl h)
  have H2 := Lib.hid (fun (W : World) (v : Value) (k : Nat) (hk : k ≤ 500) (hv : TksIn W v (l.map unl)) => ends_all (l.map unl) v k W (by simpa using hl) hv (by omega))
  have H3 := Lib.hid (fun (W : World) (v : Value) (k : Nat) (hk : k ≤ 500) (hv : TksIn W v l) => ends_all l v k W hl hv (by omega))
  have H4 := Lib.hid (fun (W : World) (v : Value) (hv : TksIn W v (l.map unl)) => lines_any (l.map unl) v W (by simpa using hl) hv)
  obtain ⟨ao, cap, rfl, hlc, hcm, _⟩ := h
  unfold maxLen at hcm
  have g1 : decide ((500 : Int) < (l.length : Int)) = false := decide_eq_false (by omega)
  obtain ⟨i0, hi, hz0, hz1, hz2⟩ := info_parts info24
  have hT : Try.prog.underlying 31 = some (.slice 24) := Try.underlying31
  go_enter Try.func6, Try.ntmps6
  go_wp2_with fail
  refine H1.out.mono ?_
  rintro e w1 ⟨v1, rfl, hown, hB1⟩
  clear H1
  rcases hown.2 with ⟨rfl, h0⟩ | ⟨g, gcap, cur, rfl, hg, hgg, hnc, hgm, hgs, ht⟩
  · have hmade := Lib.hid (World.ownsRow_made w1 (base := w1.heap.size) (e := 24) (size := 7) #[] 0 (Nat.le_refl _) (by unfold maxLen; omega) rfl)
    have hle : l = [] := List.eq_nil_of_length_eq_zero h0
    subst hle
    have HB1 := Lib.hid (hB1.alloc hB1.size (.cells #[] 24))
    have ht4 : Hid (TksIn (w1.alloc (.cells #[] 24)) (.slice (some ⟨w1.heap.size, 0, none⟩) 0 0) ([].map unl)) := Lib.hid ⟨_, 0, rfl, Nat.le_refl _, by unfold maxLen; omega, by simp⟩
    obtain ⟨W, hW⟩ : ∃ W, W = w1.alloc (.cells #[] 24) := ⟨_, rfl⟩
    have HV0 : Hid (RelZero W (.int .i64 0) W) := Lib.hid ⟨rfl, Below.refl _ _⟩
    clear hown hB1 h0
    go_upto_region 5 with (at_builtin; refine wpList_append_own_none rfl _ _ 31 rfl w1.heap.size 24 i0 7 hT hi _ _ _ rfl hmade.out rfl ?_)
    rw [← hW] at HB1 ht4 ⊢
    clear hW hmade
    go_wp2_with fail
    go_loopw [22] (fun i wr => RelZero W i wr) (fun _ _ => 0)
    case atStart => exact HV0.out
    case round =>
      obtain ⟨rfl, hBr⟩ := hrel
      have ht5 := Lib.hid (tks_kept hBr ht4.out)
      have HB2 := Lib.hid (a_thr HB1.out hBr HB1.out.size)
      clear HV0 hBr ht4 HB1
      go_wp2_with fail
      with_reducible refine (H4.out _ _ ht5.out).mono ?_
      rintro e w5 ⟨v5, rfl, hi5, hB⟩
      rw [unl_line] at hi5
      obtain ⟨ao5, cap5, hv5, _⟩ := ints_of hi5
      simp only [List.length_nil] at hv5
      subst hv5
      have HB3 := Lib.hid (a_thr HB2.out hB HB2.out.size)
      have HV0 : Hid (RelZero w5 (.int .i64 0) w5) := Lib.hid ⟨rfl, Below.refl _ _⟩
      clear hB hi5 ht5 HB2 H4
      go_wp2_with fail
      go_loopw [36] (fun i wr => RelZero w5 i wr) (fun _ _ => 0)
      case atStart => exact HV0.out
      case round =>
        obtain ⟨rfl, hBr⟩ := hrel
        have HB4 := Lib.hid (a_thr HB3.out hBr HB3.out.size)
        clear HV0 hBr HB3
        go_wp2_with fail
        refine (goes_any _).mono ?_
        rintro e w9 ⟨rfl, hB⟩
        have hB9 := a_thr HB4.out hB HB4.out.size
        clear hB HB4
        go_wp2
        go_ret
        exact ⟨rfl, hB9⟩
  · have hsrc := fun j u (hj : (l.flatMap tkC)[j]? = some u) => World.ownsRow.cells (World.ownsRow.alloc hown (.cells #[] 24)) rfl j u hj
    have HSRC := Lib.hid hsrc
    have hfl : (l.flatMap tkC).length = l.length * 7 := hown.1
    have HFL := Lib.hid hfl
    have h1c : ∀ u ∈ l.flatMap tkC, u.oneCell' = true := by
      intro u hu
      obtain ⟨t, _, hu'⟩ := List.mem_flatMap.1 hu
      exact tok_one t u hu'
    have HONE := Lib.hid h1c
    have hmade := Lib.hid (World.ownsRow_made w1 (base := w1.heap.size) (e := 24) (size := 7) #[] 0 (Nat.le_refl _) (by unfold maxLen; omega) rfl)
    have HB1 := Lib.hid hB1
    obtain ⟨n, hn⟩ : ∃ n, n = l.length := ⟨_, rfl⟩
    rw [← hn] at hsm hlc g1 hnc ⊢
    have HN := Lib.hid hn
    have ht1 : Hid (TksIn w1 (.slice (some ⟨g, 0, none⟩) n gcap) l) := Lib.hid (by rw [hn]; exact tks_of hown)
    have hnm : n ≤ 500 := by omega
    have hfl2 : (l.flatMap tkC).length = n * 7 := by rw [hfl, hn]
    have HFL2 := Lib.hid hfl2
    clear hsrc hfl h1c hB1 hn hown hgg hgs ht HFL hfl2 hl
    unfold maxLen at hgm
    go_upto_region 5 with (at_builtin; refine wpList_append_own _ rfl _ _ 31 rfl w1.heap.size 24 i0 (.agg #[.int .i64 0, .int .i64 0, .int .i64 0, .int .i64 0, .string ⟨#[]⟩, .bool false, .bool false]) 7 56 hT hi hz0 hz1 hz2 rfl (by decide) _ _ _ rfl hmade.out ⟨g, 0, none⟩ n gcap (l.flatMap tkC) rfl HFL2.out HSRC.out HONE.out ?_ ?_ ?_ ?_; (unfold maxLen; omega); omega; (simp); intro v' w2 hown' hgrow hnil)
    have hB2 : Below w1.heap.size w1 w2 := ((Below.refl _ w1).alloc (Nat.le_refl _) _).grown hgrow (by simp) (fun k hk => by cases hk; exact Nat.le_refl _)
    have hown2 : TkAt w2 w1.heap.size 24 v' l := by unfold TkAt; rw [← HN.out]; simpa using hown'
    have hne : ¬ v' = .slice none 0 0 := fun e => by cases (hnil.1 e).1
    obtain ⟨g2, cap2, rfl⟩ : ∃ g2 cap2, v' = .slice (some ⟨g2, 0, none⟩) n cap2 := by
      rcases hown2.2 with ⟨e, _⟩ | ⟨g', cap', cur, hv, _⟩
      · exact absurd e hne
      · exact ⟨g', cap', by rw [hv, ← HN.out]⟩
    obtain ⟨cur2, hg2, hs2, hf2, -, hc2, hm2, hb2⟩ := own_tks hown2
    have hbg := lt_of_heap hg2
    have HV : Hid (RelFlat w1 l g2 cap2 n (.int .i64 0) w2) := Lib.hid ⟨0, cur2, by omega, rfl, hg2, hs2, by rw [mix_none]; exact hf2, hB2⟩
    clear hown2 hown' hgrow hnil hne hg2 hs2 hf2 hB2 HSRC HFL2 HONE hmade hbg
    unfold maxLen at hm2
    go_wp2_with fail
    go_loopw [22] (fun i wr => RelFlat w1 l g2 cap2 n i wr) (fun i _ => n - (intOf i).toNat)
    case atStart => exact HV.out
    case round =>
      obtain ⟨k, cur3, hk, rfl, hg3, hs3, hf3, hB3⟩ := hrel
      clear HV
      by_cases hlt : k < n
      · have c0 : wr.cell? ⟨g2, k * 7 + 5, none⟩ = some (cur3[k * 7 + 5]'(by omega)) := (Lib.cell_of_heap hg3 _).trans (Array.getElem?_eq_getElem (by omega))
        have f0 : wr.frozen? ⟨g2, k * 7 + 5, none⟩ = false := by simp [World.frozen?, hg3]
        have HG3 := Lib.hid (set_one (k * 7 + 5) (.bool false) hg3)
        have HF3 := Lib.hid (flat_step hf3 (by rw [← HN.out]; exact hlt) (by omega))
        have HB3 := Lib.hid (hB3.setCell (p := ⟨g2, k * 7 + 5, none⟩) hb2 (.bool false))
        have g2' : decide ((k : Int) < (n : Int)) = true := by simpa using hlt
        clear hg3 hf3 hB3
        go_wp2
        go_roundw
        case rel => exact ⟨k + 1, _, by omega, by go_num, HG3.out, by simp; omega, HF3.out, HB3.out⟩
        case measure => simp [intOf]; omega
      · have hke : k = n := by omega
        have g2' : decide ((k : Int) < (n : Int)) = false := by simpa using hlt
        have ht4 := Lib.hid (flat_tks hg3 (by rw [hke, HN.out, mix_all] at hf3; exact hf3) (by rw [HN.out]; simp) (by omega) (by unfold maxLen; omega) : TksIn wr (.slice (some ⟨g2, 0, none⟩) n cap2) (l.map unl))
        have ht1' := Lib.hid (tks_kept hB3 ht1.out)
        have hB3' := Lib.hid (a_thr HB1.out hB3 HB1.out.size)
        have hke' := Lib.hid hke
        clear hg3 hf3 hB3 ht1 HB1 hke
        go_wp2_with fail
        with_reducible refine (H4.out _ _ ht4.out).mono ?_
        rintro e w5 ⟨v5, rfl, hi5, hB⟩
        rw [unl_line] at hi5
        obtain ⟨ao5, cap5, hv5, _⟩ := ints_of hi5
        simp only [List.length_nil] at hv5
        subst hv5
        have ht5 := Lib.hid (tks_kept hB ht4.out)
        have ht1 := Lib.hid (tks_kept hB ht1'.out)
        have hB5 := Lib.hid (a_thr hB3'.out hB hB3'.out.size)
        clear hB hi5 ht1' ht4 hB3' H4
        have HV : Hid (RelI w5 n (.int .i64 0) w5) := Lib.hid ⟨0, by omega, rfl, Below.refl _ _⟩
        go_wp2_with fail
        go_loopw [36] (fun i wr => RelI w5 n i wr) (fun i _ => n - (intOf i).toNat)
        case atStart => exact HV.out
        case round =>
          obtain ⟨k, hk, rfl, hB6⟩ := hrel
          clear HV
          by_cases hlt : k < n
          · obtain ⟨t, ht⟩ : ∃ t, l[k]? = some t := ⟨l[k]'(by rw [← HN.out]; exact hlt), List.getElem?_eq_getElem _⟩
            have htm : (l.map unl)[k]? = some (unl t) := by rw [List.getElem?_map, ht]; rfl
            have g2'' : decide ((k : Int) < (n : Int)) = true := by simpa using hlt
            have HE2 := Lib.hid (H2.out _ _ k (by omega) (tks_kept hB6 ht5.out))
            rw [endsG_in htm] at HE2
            rcases plain_ways k t with ⟨m, EQ1, EQ2⟩ | ⟨EQ1, EQ2, EQ3⟩ | ⟨EQ1, EQ2⟩
            · rw [EQ2] at HE2
              unfold endsR at HE2
              simp only at HE2
              clear EQ2
              go_wp2_with fail
              with_reducible refine HE2.out.mono ?_
              rintro e w7 ⟨rfl, hB⟩
              have ht7 := Lib.hid (tks_kept hB (tks_kept hB6 ht5.out))
              have ht8 := Lib.hid (tks_kept hB (tks_kept hB6 ht1.out))
              have hB7 := a_thr hB6 hB hB6.size
              have HE := Lib.hid (H3.out w7 _ k (by omega) ht8.out)
              rw [endsG_in ht, EQ1] at HE
              clear EQ1
              unfold endsR at HE
              simp only at HE
              clear hB hB6 HE2
              go_wp2_with fail
              with_reducible refine HE.out.mono ?_
              rintro e w8 ⟨rfl, hB⟩
              have hB8 := a_thr hB7 hB hB7.size
              obtain ⟨c0, c1, c2, c3, c4, c5, c6⟩ := cells_at0 (tks_kept hB ht7.out) htm
              obtain ⟨-, -, -, -, -, d5, -⟩ := cells_at0 (tks_kept hB ht8.out) ht
              have HBA := Lib.hid (fun (W : World) => bars_any ⟨#[114, 101, 116, 117, 114, 110]⟩ t.kind t.a t.to t.n t.s false t.o W)
              rw [ret_bars] at HBA
              unfold unl at c0 c1 c2 c3 c4 c5 c6
              simp only at c0 c1 c2 c3 c4 c5 c6
              have HB8 := Lib.hid hB8
              clear hB HE hB7 hB8 ht7 ht8 ht htm
              go_wp2_with fail
              with_reducible refine (HBA.out _).mono ?_
              rintro e w9 ⟨rfl, hB⟩
              have HB9 := Lib.hid (a_thr HB8.out hB HB8.out.size)
              clear hB HB8 HBA c0 c1 c2 c3 c4 c5 c6 d5
              go_wp2
              go_roundw
              case rel => exact ⟨k + 1, by omega, by go_num, HB9.out⟩
              case measure => simp [intOf]; omega
            · rw [EQ2] at HE2
              unfold endsR at HE2
              simp only at HE2
              clear EQ2
              go_wp2_with fail
              with_reducible refine HE2.out.mono ?_
              rintro e w7 ⟨rfl, hB⟩
              have ht7 := Lib.hid (tks_kept hB (tks_kept hB6 ht5.out))
              have ht8 := Lib.hid (tks_kept hB (tks_kept hB6 ht1.out))
              have hB7 := a_thr hB6 hB hB6.size
              have HE := Lib.hid (H3.out w7 _ k (by omega) ht8.out)
              rw [endsG_in ht, EQ1] at HE
              clear EQ1
              unfold endsR at HE
              simp only at HE
              clear hB hB6 HE2
              go_wp2_with fail
              with_reducible refine HE.out.mono ?_
              rintro e w8 ⟨rfl, hB⟩
              have hB8 := a_thr hB7 hB hB7.size
              obtain ⟨c0, c1, c2, c3, c4, c5, c6⟩ := cells_at0 (tks_kept hB ht7.out) htm
              obtain ⟨-, -, -, -, -, d5, -⟩ := cells_at0 (tks_kept hB ht8.out) ht
              have HBA := Lib.hid (fun (W : World) => bars_any ⟨#[114, 101, 116, 117, 114, 110]⟩ t.kind t.a t.to t.n t.s false t.o W)
              rw [ret_bars] at HBA
              unfold unl at c0 c1 c2 c3 c4 c5 c6
              simp only at c0 c1 c2 c3 c4 c5 c6
              rw [EQ3] at d5
              clear EQ3
              have HB8 := Lib.hid hB8
              clear hB HE hB7 hB8 ht7 ht8 ht htm
              go_wp2_with fail
              with_reducible refine (HBA.out _).mono ?_
              rintro e w9 ⟨rfl, hB⟩
              have HB9 := Lib.hid (a_thr HB8.out hB HB8.out.size)
              clear hB HB8 HBA c0 c1 c2 c3 c4 c5 c6 d5
              go_wp2
              go_roundw
              case rel => exact ⟨k + 1, by omega, by go_num, HB9.out⟩
              case measure => simp [intOf]; omega
            · rw [EQ2] at HE2
              unfold endsR at HE2
              simp only at HE2
              clear EQ2
              go_wp2_with fail
              with_reducible refine HE2.out.mono ?_
              rintro e w7 ⟨rfl, hB⟩
              have ht7 := Lib.hid (tks_kept hB (tks_kept hB6 ht5.out))
              have ht8 := Lib.hid (tks_kept hB (tks_kept hB6 ht1.out))
              have hB7 := a_thr hB6 hB hB6.size
              have HE := Lib.hid (H3.out w7 _ k (by omega) ht8.out)
              rw [endsG_in ht, EQ1] at HE
              clear EQ1
              unfold endsR at HE
              simp only at HE
              clear hB hB6 HE2
              go_wp2_with fail
              with_reducible refine HE.out.mono ?_
              rintro e w8 ⟨rfl, hB⟩
              have hB8 := a_thr hB7 hB hB7.size
              obtain ⟨c0, c1, c2, c3, c4, c5, c6⟩ := cells_at0 (tks_kept hB ht7.out) htm
              obtain ⟨-, -, -, -, -, d5, -⟩ := cells_at0 (tks_kept hB ht8.out) ht
              have HBA := Lib.hid (fun (W : World) => bars_any ⟨#[114, 101, 116, 117, 114, 110]⟩ t.kind t.a t.to t.n t.s false t.o W)
              rw [ret_bars] at HBA
              unfold unl at c0 c1 c2 c3 c4 c5 c6
              simp only at c0 c1 c2 c3 c4 c5 c6
              have HB8 := Lib.hid hB8
              clear hB HE hB7 hB8 ht7 ht8 ht htm
              go_wp2_with fail
              with_reducible refine (HBA.out _).mono ?_
              rintro e w9 ⟨rfl, hB⟩
              have HB9 := Lib.hid (a_thr HB8.out hB HB8.out.size)
              clear hB HB8 HBA c0 c1 c2 c3 c4 c5 c6 d5
              go_wp2
              go_roundw
              case rel => exact ⟨k + 1, by omega, by go_num, HB9.out⟩
              case measure => simp [intOf]; omega
          · have g2'' : decide ((k : Int) < (n : Int)) = false := by simpa using hlt
            have hB6' := Lib.hid (a_thr hB5.out hB6 hB5.out.size)
            clear hB6
            go_wp2_with fail
            refine (goes_any _).mono ?_
            rintro e w9 ⟨rfl, hB⟩
            have hB9 := a_thr hB6'.out hB hB6'.out.size
            clear hB hB6'
            go_wp2
            go_ret
            exact ⟨rfl, hB9⟩
theorem asiPlain_any (l : List Tk) (v0 : Value) (w : World) (h : TksIn w v0 l) :
    Calls Try.prog 6 #[v0] w fun e w' => e = .returned (.bool true) ∧ Below w.heap.size w w' := by
  by_cases hs : l.length ≤ 500
  · exact asiPlain_walk l v0 w h hs
  · exact asiPlain_big l v0 w h (by omega)
end Go.Proofs.Ytjbnobcnlmkbmaa
