/-
  Ends of package asi and of its reference over a whole slice at this translation; the law AsiEnds.
-/
import Derived.Test.YtjbnobcnlmkbmaaL3
import Derived.Deep.Cut
namespace Go.Proofs.Ytjbnobcnlmkbmaa
open Go.RowKit

def endsG (l : List Tk) (i : Int) : Int × Bool := if i < 0 then (0, false) else match l[i.toNat]? with | some t => endsV i.toNat t | none => (0, false)
theorem endsG_out {l : List Tk} {i : Int} (h : i < 0 ∨ (l.length : Int) ≤ i) : endsG l i = (0, false) := by
  unfold endsG
  by_cases h0 : i < 0
  · rw [if_pos h0]
  · rw [if_neg h0, List.getElem?_eq_none (by omega)]
theorem endsG_in {l : List Tk} {k : Nat} {t : Tk} (h : l[k]? = some t) : endsG l k = endsV k t := by
  unfold endsG
  rw [if_neg (by omega), Int.toNat_natCast, h]
theorem ends_all (l : List Tk) (v : Value) (i : Int) (w : World) (hl : l.length ≤ 100000) (h : TksIn w v l) (hi : -9223372036854775808 ≤ i ∧ i ≤ 9223372036854775807) :
    Calls Try.prog 13 #[v, .int .i64 i] w fun e w' => e = endsR (endsG l i) ∧ Below w.heap.size w w' := by
  obtain ⟨ao, cap, rfl, _, _, hin⟩ := h
  by_cases ho : i < 0 ∨ (l.length : Int) ≤ i
  · rw [endsG_out ho]
    exact ends_out true ao l.length cap i w (by omega) ho hi
  · obtain ⟨k, rfl⟩ : ∃ k : Nat, i = k := ⟨i.toNat, by omega⟩
    have hk : k < l.length := by omega
    have ht : l[k]? = some l[k] := List.getElem?_eq_getElem hk
    obtain ⟨b, off, rfl, hb, hc⟩ := hin k _ ht
    rw [endsG_in ht]
    exact ends_in b off l.length cap k l[k] w hk (by omega) hb hc
theorem rends_all (l : List Tk) (v : Value) (i : Int) (w : World) (hl : l.length ≤ 100000) (h : TksIn w v l) (hi : -9223372036854775808 ≤ i ∧ i ≤ 9223372036854775807) :
    Calls Try.prog 14 #[v, .int .i64 i] w fun e w' => e = endsR (endsG l i) ∧ Below w.heap.size w w' := by
  obtain ⟨ao, cap, rfl, _, _, hin⟩ := h
  by_cases ho : i < 0 ∨ (l.length : Int) ≤ i
  · rw [endsG_out ho]
    exact ends_out false ao l.length cap i w (by omega) ho hi
  · obtain ⟨k, rfl⟩ : ∃ k : Nat, i = k := ⟨i.toNat, by omega⟩
    have hk : k < l.length := by omega
    have ht : l[k]? = some l[k] := List.getElem?_eq_getElem hk
    obtain ⟨b, off, rfl, hb, hc⟩ := hin k _ ht
    rw [endsG_in ht]
    exact rends_in b off l.length cap k l[k] w hk (by omega) hb hc
theorem set_one {W : World} {b : Nat} {cs : Array Value} {T : TypeId} (i : Nat) (v : Value) (hW : W.heap[b]? = some (.cells cs T (0, 0))) : (W.setCell ⟨b, i, none⟩ v).heap[b]? = some (.cells (cs.setIfInBounds i v) T (0, 0)) := by
  show (W.heap.modify b _)[b]? = _
  rw [Array.getElem?_modify, if_pos rfl, hW]
  rfl
theorem a_grown {w w' : World} (h : Below w.heap.size w w') (r : Option Nat) : w.grownBy w' r :=
  ⟨h.os, h.tape, h.output, h.size, fun k hk _ => h.block k hk⟩
theorem intsAt_kept {w w' : World} {B : Nat} {v : Value} {l : List Int} (h : IntsAt w B v l) (hb : Below w.heap.size w w') : IntsAt w' B v l :=
  World.ownsRow.kept h (a_grown hb none) (by cases hv : v.ownBlock <;> simp)
theorem tkAt_kept {w w' : World} {B T : Nat} {v : Value} {l : List Tk} (h : TkAt w B T v l) (hb : Below w.heap.size w w') : TkAt w' B T v l :=
  World.ownsRow.kept h (a_grown hb none) (by cases hv : v.ownBlock <;> simp)
def RelNeg (W : World) (g cap n : Nat) (i : Value) (wr : World) : Prop := ∃ (k : Nat) (cur : Array Value), k ≤ n ∧ i = .int .i64 k ∧ wr.heap[g]? = some (.cells cur 3 (0, 0)) ∧ cur.size = cap ∧ Below W.heap.size W wr

def RelZero (W : World) (i : Value) (wr : World) : Prop := i = .int .i64 0 ∧ Below W.heap.size W wr

set_option linter.unusedVariables false in
set_option maxRecDepth 100000 in
set_option maxHeartbeats 4000000 in
theorem asiEnds_walk (l : List Tk) (v0 : Value) (i : Int) (w : World) (h : TksIn w v0 l) (hi : -9223372036854775808 ≤ i ∧ i ≤ 9223372036854775807) :
    Calls Try.prog 4 #[v0, .int .i64 i] w fun e w' => e = .returned (.bool true) ∧ Below w.heap.size w w' := by
  have hv := h
  obtain ⟨ao, cap, hv0, hlc, hcm, _⟩ := hv
  unfold maxLen at hcm
  by_cases hbig : 5000 < l.length
  · subst hv0
    have g1 : decide ((5000 : Int) < (l.length : Int)) = true := decide_eq_true (by omega)
    have HG := Lib.hid (goes_any w)
    clear h hi
    generalize l.length = len at hlc hcm hbig g1 ⊢
    go_enter Try.func4, Try.ntmps4
    go_wp2_with fail
    refine HG.out.mono ?_
    rintro e w1 ⟨rfl, hB⟩
    go_wp2
    go_ret
    exact ⟨rfl, hB⟩
  · have g1 : decide ((5000 : Int) < (l.length : Int)) = false := decide_eq_false (by omega)
    have hl : l.length ≤ 100000 := by omega
    have H1 := Lib.hid (to_any l v0 w hl h)
    have H2 := Lib.hid (fun (W : World) (v : Value) (hv : TksIn W v l) => ends_all l v i W hl hv hi)
    have H3 := Lib.hid (fun (W : World) (hB : Below w.heap.size w W) => rends_all l v0 i W hl (tks_kept hB h) hi)
    have H4 := Lib.hid (fun (W : World) (v : Value) (hv : TksIn W v l) => lines_any l v W hl hv)
    have H5 := Lib.hid (fun (W : World) (hB : Below w.heap.size w W) => rlines_any l v0 W hl (tks_kept hB h))
    have H6 := Lib.hid (fun (W : World) (u v : Value) (hu : IntsIn W u (lineL l l.length)) (hv : IntsIn W v (lineL l l.length)) => ints_any (lineL l l.length) u v W (by have := lineL_len l l.length; omega) hu hv)
    have H7 := Lib.hid (fun (W : World) (v : Value) (hv : TksIn W v l) => as_any l v W hl hv)
    have H8 := Lib.hid (fun (W : World) (v : Value) (hv : TksIn W v l) (hB : Below w.heap.size w W) => same_any l v v0 W hl hv (tks_kept hB h))
    have HLL := Lib.hid (lineL_len l l.length)
    subst hv0
    generalize endsG l i = r at H2 H3
    obtain ⟨m, c⟩ := r
    unfold endsR at H2 H3
    simp only at H2 H3
    clear h hi
    go_enter Try.func4, Try.ntmps4
    go_wp2_with fail
    refine H1.out.mono ?_
    rintro e w1 ⟨v1, rfl, hown, hB1⟩
    have ht1 := Lib.hid (tks_of hown)
    clear hown H1
    go_wp2_with fail
    refine (H2.out _ _ ht1.out).mono ?_
    rintro e w2 ⟨rfl, hB⟩
    have ht2 := Lib.hid (tks_kept hB ht1.out)
    have hB2 := a_thr hB1 hB hB1.size
    clear hB1 hB ht1 H2
    go_wp2_with fail
    refine (H3.out _ hB2).mono ?_
    rintro e w3 ⟨rfl, hB⟩
    have ht3 := Lib.hid (tks_kept hB ht2.out)
    have hB3 := a_thr hB2 hB hB2.size
    clear hB2 hB ht2 H3
    go_wp2_with fail
    refine (H4.out _ _ ht3.out).mono ?_
    rintro e w4 ⟨v4, rfl, hi4, hB4⟩
    clear H4
    go_wp2_with fail
    refine (H5.out _ (a_thr hB3 hB4 hB3.size)).mono ?_
    rintro e w5 ⟨v5, rfl, hi5, hB⟩
    have hin4 := Lib.hid (ints_kept hB (ints_of hi4))
    have hin5 := Lib.hid (ints_of hi5)
    have hi4' : IntsAt w5 w3.heap.size v4 (lineL l l.length) := intsAt_kept hi4 hB
    have hB5 := a_thr hB4 hB hB4.size
    have HI4 := Lib.hid hi4'
    clear hB hi4 hi5 hi4' hB4 H5
    go_wp2_with fail
    refine (H6.out _ _ _ hin4.out hin5.out).mono ?_
    rintro e w6 ⟨rfl, hB⟩
    have hi6 : IntsAt w6 w3.heap.size v4 (lineL l l.length) := intsAt_kept HI4.out hB
    have hB6 := a_thr hB5 hB hB5.size
    clear hB HI4 hin4 hin5 hB5 H6
    have hL := HLL.out
    obtain ⟨n, hn⟩ : ∃ n, n = (lineL l l.length).length := ⟨_, rfl⟩
    rw [← hn] at hL
    rcases hi6.2 with ⟨rfl, h0⟩ | ⟨g, gcap, cur, rfl, hg, hgg, hnc, hgm, hgs, _⟩
    · have HV : Hid (RelZero w3 (.int .i64 0) w6) := Lib.hid ⟨rfl, hB6⟩
      clear hi6 HLL h0
      go_wp2_with fail
      go_loopw [49] (fun i wr => RelZero w3 i wr) (fun _ _ => 0)
      case atStart => exact HV.out
      case round =>
        obtain ⟨rfl, hBr⟩ := hrel
        have hBr2 := Lib.hid hBr
        clear HV hBr
        go_wp2_with fail
        refine (H7.out _ _ (tks_kept hBr2.out ht3.out)).mono ?_
        rintro e w7 ⟨v7, rfl, hown, hB⟩
        have hB7 : Below w.heap.size w w7 := a_thr (a_thr hB3 hBr2.out hB3.size) hB (Nat.le_trans hB3.size hBr2.out.size)
        have ht7 := Lib.hid (tks_of hown)
        clear hown hB H7
        go_wp2_with fail
        refine (H8.out _ _ ht7.out hB7).mono ?_
        rintro e w8 ⟨rfl, hB⟩
        have hB8 := a_thr hB7 hB hB7.size
        clear hB hB7 H8
        go_wp2_with fail
        refine (goes_any _).mono ?_
        rintro e w9 ⟨rfl, hB⟩
        have hB9 := a_thr hB8 hB hB8.size
        clear hB hB8
        go_wp2
        go_ret
        exact ⟨rfl, hB9⟩
    · rw [← hn] at hnc
      have HNN := Lib.hid hn
      have HV : Hid (RelNeg w3 g gcap n (.int .i64 0) w6) := Lib.hid ⟨0, cur, by omega, rfl, hgg, by omega, hB6⟩
      rw [← hn]
      clear hn hi6 hgg hgs HLL
      unfold maxLen at hgm
      go_wp2_with fail
      go_loopw [49] (fun i wr => RelNeg w3 g gcap n i wr) (fun i _ => n - (intOf i).toNat)
      case atStart => exact HV.out
      case round =>
        obtain ⟨k, cur2, hk, rfl, hg2, hs2, hBr⟩ := hrel
        clear HV
        by_cases hlt : k < n
        · have c0 : wr.cell? ⟨g, k, none⟩ = some (cur2[k]'(by omega)) := (Lib.cell_of_heap hg2 k).trans (Array.getElem?_eq_getElem (by omega))
          have f0 : wr.frozen? ⟨g, k, none⟩ = false := by simp [World.frozen?, hg2]
          have HG2 := Lib.hid (set_one k (.int .i64 (-7)) hg2)
          have HBR := Lib.hid (hBr.setCell (p := ⟨g, k, none⟩) hg (.int .i64 (-7)))
          have g2 : decide ((k : Int) < (n : Int)) = true := by simpa using hlt
          clear hg2 hBr
          go_wp2
          go_roundw
          case rel => exact ⟨k + 1, _, by omega, by go_num, HG2.out, by simp; omega, HBR.out⟩
          case measure => simp [intOf]; omega
        · have g2 : decide ((k : Int) < (n : Int)) = false := by simpa using hlt
          have hBr2 := Lib.hid hBr
          clear hg2 hBr
          go_wp2_with fail
          refine (H7.out _ _ (tks_kept hBr2.out ht3.out)).mono ?_
          rintro e w7 ⟨v7, rfl, hown, hB⟩
          have hB7 : Below w.heap.size w w7 := a_thr (a_thr hB3 hBr2.out hB3.size) hB (Nat.le_trans hB3.size hBr2.out.size)
          have ht7 := Lib.hid (tks_of hown)
          clear hown hB H7
          go_wp2_with fail
          refine (H8.out _ _ ht7.out hB7).mono ?_
          rintro e w8 ⟨rfl, hB⟩
          have hB8 := a_thr hB7 hB hB7.size
          clear hB hB7 H8
          go_wp2_with fail
          refine (goes_any _).mono ?_
          rintro e w9 ⟨rfl, hB⟩
          have hB9 := a_thr hB8 hB hB8.size
          clear hB hB8
          go_wp2
          go_ret
          exact ⟨rfl, hB9⟩
end Go.Proofs.Ytjbnobcnlmkbmaa
