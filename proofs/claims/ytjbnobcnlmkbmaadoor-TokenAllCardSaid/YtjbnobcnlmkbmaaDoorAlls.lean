/-
  The law TokenAll at this translation: true, for every text.
-/
import Derived.Test.YtjbnobcnlmkbmaaDoorRAll
import Derived.Laws.StructEq
import Derived.Deep.QuietTactic
import Derived.BigQuiet
import Derived.Test.YtjbnobcnlmkbmaaDoorTGoes
namespace Go.Proofs.YtjbnobcnlmkbmaaDoor
open Go.RowKit

def CellsAt (w : World) (b o : Nat) (t : NT) : Prop := w.cell? ⟨b, o, none⟩ = some (.int .i64 t.kind) ∧ w.cell? ⟨b, o + 1, none⟩ = some (.int .i64 t.a) ∧ w.cell? ⟨b, o + 2, none⟩ = some (.int .i64 t.to) ∧ w.cell? ⟨b, o + 3, none⟩ = some (.int .i64 t.n) ∧ w.cell? ⟨b, o + 4, none⟩ = some (.string t.s) ∧ w.cell? ⟨b, o + 5, none⟩ = some (.bool t.line) ∧ w.cell? ⟨b, o + 6, none⟩ = some (.bool t.o)

theorem cells_kept {W w1 : World} {B b o : Nat} {t : NT} (hB : Below B W w1) (hb : b < B) (h : CellsAt W b o t) : CellsAt w1 b o t := by
  obtain ⟨c0, c1, c2, c3, c4, c5, c6⟩ := h
  exact ⟨(hB.cell (p := ⟨b, _, none⟩) hb).trans c0, (hB.cell (p := ⟨b, _, none⟩) hb).trans c1, (hB.cell (p := ⟨b, _, none⟩) hb).trans c2, (hB.cell (p := ⟨b, _, none⟩) hb).trans c3, (hB.cell (p := ⟨b, _, none⟩) hb).trans c4, (hB.cell (p := ⟨b, _, none⟩) hb).trans c5, (hB.cell (p := ⟨b, _, none⟩) hb).trans c6⟩
def TksIn (w : World) (v : Value) (l : List NT) : Prop := ∃ (ao : Option Addr) (cap : Nat), v = .slice ao l.length cap ∧ l.length ≤ cap ∧ cap ≤ maxLen ∧ ∀ i t, l[i]? = some t → ∃ b off, ao = some ⟨b, off, none⟩ ∧ b < w.heap.size ∧ CellsAt w b (off + i * 7) t
def CopyPost (T : Nat) (w : World) (l : List NT) : Ending → World → Prop := fun e w' => ∃ v, e = .returned v ∧ QAt w' w.heap.size T v l ∧ Below w.heap.size w w'
def RelCopy (T : Nat) (w : World) (l : List NT) (v i : Value) (wr : World) : Prop := ∃ k : Nat, k ≤ l.length ∧ i = .int .i64 k ∧ QAt wr w.heap.size T v (l.take k) ∧ Below w.heap.size w wr
theorem len_take {α : Type} {l : List α} {len k : Nat} (h : len = l.length) (hk : k ≤ len) : (l.take k).length = k := by simp; omega
theorem take_more (T : Nat) {l : List NT} {k B : Nat} {t : NT} (ht : l[k]? = some t) : ∀ (v' : Value) (w' : World), w'.ownsRow B T 7 v' ((l.take k).length + 1) ((l.take k).flatMap tkC ++ tkC t) → QAt w' B T v' (l.take (k + 1)) := by
  intro v' w' hown
  have hk := (List.getElem?_eq_some_iff.1 ht).1
  have e : l.take (k + 1) = l.take k ++ [t] := by
    rw [List.take_add_one, ht]
    rfl
  unfold QAt
  rw [e]
  simpa using hown

set_option linter.unusedVariables false in
set_option maxRecDepth 100000 in
set_option maxHeartbeats 1000000 in
theorem as_any (l : List NT) (v0 : Value) (w : World) (hl : l.length ≤ 100000) (h : TksIn w v0 l) :
    Calls Tryd.prog 9 #[v0] w (CopyPost 43 w l) := by
  obtain ⟨ao, cap, rfl, _, _, hin⟩ := h
  have HIN := Lib.hid hin
  obtain ⟨i0, hi, hz0, hz1, hz2⟩ := info_parts rtok_info
  have hT : Tryd.prog.underlying 27 = some (.slice 43) := by kernel_rfl
  have HV : Hid (RelCopy 43 w l (.slice (some ⟨w.heap.size, 0, none⟩) 0 0) (.int .i64 0) (w.alloc (.cells #[] 43))) := Lib.hid ⟨0, by omega, rfl, World.ownsRow_made w #[] 0 (Nat.le_refl _) (by unfold maxLen; omega) rfl, (Below.refl _ w).alloc (Nat.le_refl _) _⟩
  obtain ⟨len, hlen⟩ : ∃ len, len = l.length := ⟨_, rfl⟩
  rw [← hlen]
  have HL := Lib.hid hlen
  have hl2 : len ≤ 100000 := by omega
  clear hin hlen hl
  go_enter Tryd.func9, Tryd.ntmps9
  go_wp2
  go_loopw [3, 8] (fun v i wr => RelCopy 43 w l v i wr) (fun _ i _ => len - (intOf i).toNat)
  case atStart => exact HV.out
  case round =>
    obtain ⟨k, hk, rfl, hown, hB⟩ := hrel
    rw [← HL.out] at hk
    clear HV
    by_cases hlt : k < len
    · obtain ⟨t, ht⟩ : ∃ t, l[k]? = some t := ⟨l[k]'(by rw [← HL.out]; exact hlt), List.getElem?_eq_getElem _⟩
      obtain ⟨b, off, rfl, hb, hc⟩ := HIN.out k t ht
      have HX := Lib.hid (take_more (B := w.heap.size) 43 ht)
      have hown0 := hown
      obtain ⟨c0, c1, c2, c3, c4, c5, c6⟩ := cells_kept hB hb hc
      clear HIN hc ht
      have HBW := Lib.hid hB
      have hsz := hB.size
      clear hB
      have hbw : b < wr.heap.size := by omega
      have g1 : decide ((k : Int) < (len : Int)) = true := by simpa using hlt
      obtain ⟨kd, a, to, n, s, li, o, fa, er⟩ := t
      simp only at c0 c1 c2 c3 c4 c5 c6
      unfold QAt at hown
      rw [len_take HL.out hk] at hown
      go_wp2_with (at_builtin; refine wpList_append_own _ rfl _ _ 27 rfl w.heap.size 43 i0 (.agg #[.int .i64 0, .int .i64 0, .int .i64 0, .int .i64 0, .string ⟨#[]⟩, .bool false, .bool false]) 7 56 hT hi hz0 hz1 hz2 rfl (by decide) _ _ _ rfl (hown.alloc _) ⟨wr.heap.size, 0, none⟩ 1 1 (tkC ⟨kd, a, to, n, s, li, o, fa, er⟩) rfl rfl ?_ ?_ ?_ ?_ ?_ ?_; exact rtok_cells _ _ _ rfl; exact tok_one _; (unfold maxLen; omega); omega; (simp; omega); intro v' w4 hown' hgrow _)
      have HB4 := Lib.hid ((HBW.out.alloc HBW.out.size _).grown hgrow (by simp; omega) (fun k hk => (hown0.lt k hk).1))
      have HN := Lib.hid (HX.out v' w4 (by unfold tkC at hown' ⊢; rw [len_take HL.out hk]; exact hown'))
      clear hown hown0 hown' hgrow c0 c1 c2 c3 c4 c5 c6 g1 HX HBW
      go_wp2
      go_roundw
      case rel => exact ⟨k + 1, by rw [← HL.out]; omega, by go_num, HN.out, HB4.out⟩
      case measure => simp [intOf]; omega
    · have hke : k = len := by omega
      have g1 : decide ((k : Int) < (len : Int)) = false := by simpa using hlt
      have HN := Lib.hid hown
      have HBW := Lib.hid hB
      have HK := Lib.hid hke
      clear HIN hown hB hke
      go_wp2
      go_ret
      refine ⟨_, rfl, ?_, HBW.out⟩
      have := HN.out
      rw [HK.out, HL.out, List.take_length] at this
      exact this
theorem flat_at {l : List NT} : ∀ {i j : Nat} {t : NT} {u : Value}, l[i]? = some t → (tkC t)[j]? = some u → (l.flatMap tkC)[i * 7 + j]? = some u := by
  have h7 : ∀ t, (tkC t).length = 7 := fun t => rfl
  induction l with
  | nil => intro i j t u h; simp at h
  | cons x r ih =>
    intro i j t u h hu
    have hj : j < 7 := by
      have := (List.getElem?_eq_some_iff.1 hu).1
      rw [h7] at this
      exact this
    rw [List.flatMap_cons]
    cases i with
    | zero =>
      simp at h
      subst h
      rw [List.getElem?_append_left (by rw [h7]; omega)]
      simpa using hu
    | succ i =>
      rw [List.getElem?_append_right (by rw [h7]; omega), h7]
      have e : (i + 1) * 7 + j - 7 = i * 7 + j := by omega
      rw [e]
      exact ih (by simpa using h) hu
theorem tks_of {w : World} {B T : Nat} {v : Value} {l : List NT} (h : QAt w B T v l) : TksIn w v l := by
  rcases h.2 with ⟨rfl, h0⟩ | ⟨g, cap, cur, rfl, hb, hg, hn, hm, hs, ht⟩
  · have : l = [] := List.eq_nil_of_length_eq_zero h0
    subst this
    exact ⟨none, 0, rfl, Nat.le_refl _, by unfold maxLen; omega, by simp⟩
  · refine ⟨some ⟨g, 0, none⟩, cap, rfl, hn, hm, fun i t hi => ⟨g, 0, rfl, t_lt hg, ?_⟩⟩
    have key : ∀ j u, (tkC t)[j]? = some u → w.cell? ⟨g, 0 + i * 7 + j, none⟩ = some u := by
      intro j u hu
      have h1 := flat_at hi hu
      rw [← ht, List.getElem?_take] at h1
      split at h1
      · rw [Nat.zero_add]
        exact (Lib.cell_of_heap hg _).trans (by simpa using h1)
      · cases h1
    exact ⟨key 0 _ rfl, key 1 _ rfl, key 2 _ rfl, key 3 _ rfl, key 4 _ rfl, key 5 _ rfl, key 6 _ rfl⟩
theorem tks_kept {W w1 : World} {v : Value} {l : List NT} (hB : Below W.heap.size W w1) (h : TksIn W v l) : TksIn w1 v l := by
  obtain ⟨ao, cap, hv, h1, h2, h3⟩ := h
  refine ⟨ao, cap, hv, h1, h2, fun i t ht => ?_⟩
  obtain ⟨b, off, ha, hb, hc⟩ := h3 i t ht
  exact ⟨b, off, ha, Nat.lt_of_lt_of_le hb hB.size, cells_kept hB hb hc⟩
theorem a_draws (w : World) (n : Nat) : Below w.heap.size w (w.drewN n) := ⟨rfl, rfl, rfl, Nat.le_refl _, fun _ _ => rfl⟩
def TruePost (w : World) : Ending → World → Prop := fun e w' => e = .returned (.bool true) ∧ Below w.heap.size w w'
def RelSame (w : World) (len : Nat) (i : Value) (wr : World) : Prop := ∃ k : Nat, k ≤ len ∧ i = .int .i64 k ∧ Below w.heap.size w wr

set_option linter.unusedVariables false in
set_option maxRecDepth 100000 in
set_option maxHeartbeats 1000000 in
theorem same_any (l : List NT) (v0 v1 : Value) (w : World) (hl : l.length ≤ 100000) (h0 : TksIn w v0 l) (h1 : TksIn w v1 l) :
    Calls Tryd.prog 8 #[v0, v1] w (TruePost w) := by
  obtain ⟨a0, cap0, rfl, _, _, hin0⟩ := h0
  obtain ⟨a1, cap1, rfl, _, _, hin1⟩ := h1
  have HI0 := Lib.hid hin0
  have HI1 := Lib.hid hin1
  obtain ⟨len, hlen⟩ : ∃ len, len = l.length := ⟨_, rfl⟩
  rw [← hlen]
  have HL := Lib.hid hlen
  have hl2 : len ≤ 100000 := by omega
  have HV : Hid (RelSame w len (.int .i64 0) w) := Lib.hid ⟨0, by omega, rfl, Below.refl _ _⟩
  clear hin0 hin1 hlen hl
  go_enter Tryd.func8, Tryd.ntmps8
  go_wp2
  go_loopw [5] (fun i wr => RelSame w len i wr) (fun i _ => len - (intOf i).toNat)
  case atStart => exact HV.out
  case round =>
    obtain ⟨k, hk, rfl, hB⟩ := hrel
    clear HV
    by_cases hlt : k < len
    · obtain ⟨t, ht⟩ : ∃ t, l[k]? = some t := ⟨l[k]'(by rw [← HL.out]; exact hlt), List.getElem?_eq_getElem _⟩
      obtain ⟨b, off, rfl, hb, hc⟩ := HI0.out k t ht
      obtain ⟨b', off', rfl, hb', hc'⟩ := HI1.out k t ht
      obtain ⟨c0, c1, c2, c3, c4, c5, c6⟩ := cells_kept hB hb hc
      obtain ⟨d0, d1, d2, d3, d4, d5, d6⟩ := cells_kept hB hb' hc'
      clear HI0 HI1 hc hc' ht
      have HBW := Lib.hid hB
      clear hB
      have g1 : decide (k < len) = true := by simpa using hlt
      obtain ⟨kd, a, to, n, s, li, o, fa, er⟩ := t
      simp only at c0 c1 c2 c3 c4 c5 c6 d0 d1 d2 d3 d4 d5 d6
      go_wp2
      go_quiet (fail)
      go_wp2
      go_roundw
      case rel => exact ⟨k + 1, by omega, by go_num, t_thr HBW.out (a_draws _ _) HBW.out.size⟩
      case measure => simp [intOf]; omega
    · have g1 : decide (k < len) = false := by simpa using hlt
      have HBW := Lib.hid hB
      clear HI0 HI1 hB
      go_wp2
      go_ret
      exact ⟨rfl, HBW.out⟩
end Go.Proofs.YtjbnobcnlmkbmaaDoor

namespace Go.Proofs.YtjbnobcnlmkbmaaDoor
open Go.RowKit

theorem allV_len (s : ByteArray) : ∀ (n : Nat) (p : Int) (st : List Int) (acc : List NT) (R : List NT × Int × Int), allV s n p st acc = some R → R.1.length ≤ acc.length + n := by
  intro n
  induction n with
  | zero => intro p st acc R h; simp [allV] at h
  | succ n ih =>
    intro p st acc R h
    unfold allV at h
    split at h
    · split at h
      · cases h; simp
      · split at h
        · cases h
        · have := ih _ _ _ _ h
          simp at this
          omega
    · cases h; simp
theorem allV_long (s : ByteArray) (h : 65536 < s.size) : allV s 1 0 [] [] = some ([], 0, 9) := by
  have e : nxT s 0 false = noN 0 9 := by unfold nxT; rw [if_pos h]
  unfold allV
  rw [show tailV [] = false from rfl, e]
  rfl
set_option maxRecDepth 100000 in
theorem rAll_long (s : ByteArray) (w : World) (h : 65536 < s.size) :
    Calls Tryd.prog 7 #[.string s] w (RAllPost w ([], 0, 9)) := by
  have gs1 : decide ((65536 : Int) < (s.size : Int)) = true := decide_eq_true (by omega)
  clear h
  go_enter Tryd.func7, Tryd.ntmps7
  go_wp2
  go_ret3
  exact ⟨.slice none 0 0, rfl, World.ownsRow_nil _ _ _ _, Below.refl _ _⟩
theorem tokAt_q {w : World} {B : Nat} {v : Value} {l : List NT} (h : TokAt w B v l) : QAt w B 33 v l := h
theorem q_lt {w : World} {B T : Nat} {v : Value} {l : List NT} (h : QAt w B T v l) : ∀ g, v.ownBlock = some g → B ≤ g ∧ g < w.heap.size := World.ownsRow.lt h
def RelNegT (W : World) (g cap n : Nat) (i : Value) (wr : World) : Prop := ∃ (k : Nat) (cur : Array Value), k ≤ n ∧ i = .int .i64 k ∧ wr.heap[g]? = some (.cells cur 33 (0, 0)) ∧ cur.size = cap * 7 ∧ W.grownBy wr (some g)
def RelNilT (W : World) (i : Value) (wr : World) : Prop := i = .int .i64 0 ∧ W.grownBy wr none

set_option linter.unusedVariables false in
set_option maxRecDepth 100000 in
set_option maxHeartbeats 1000000 in
theorem alls_mid (s : ByteArray) (w : World) (h1 : 3000 < s.size) (h2 : s.size ≤ 65536) (ht : SgnT w) (hm : MaxL w) :
    Calls Tryd.prog 3 #[.string s] w fun e w' => e = .returned (.bool true) ∧ Below w.heap.size w w' := by
  have g1 : decide ((3000 : Int) < (s.size : Int)) = true := decide_eq_true (by omega)
  have g2 : decide ((s.size : Int) ≤ 65536) = true := decide_eq_true (by omega)
  have HG := Lib.hid (goes_any w ht hm)
  clear ht hm h1 h2
  go_enter Tryd.func3, Tryd.ntmps3
  go_wp2_with fail
  refine HG.out.mono ?_
  rintro e w' ⟨rfl, hb⟩
  go_wp2
  go_ret
  exact ⟨rfl, hb⟩

set_option linter.unusedVariables false in
set_option maxRecDepth 100000 in
set_option maxHeartbeats 4000000 in
theorem alls_walk (s : ByteArray) (w : World) (h : s.size ≤ 3000 ∨ 65536 < s.size) (R : List NT × Int × Int) (hl : R.1.length ≤ 100000)
    (HP : Hid (∀ W : World, Below w.heap.size w W → Calls Tryd.prog 6 #[.string s] W (AllPost W R)))
    (HR : Hid (∀ W : World, Calls Tryd.prog 7 #[.string s] W (RAllPost W R)))
    (ht : SgnT w) (hm : MaxL w) :
    Calls Tryd.prog 3 #[.string s] w fun e w' => e = .returned (.bool true) ∧ Below w.heap.size w w' := by
  obtain ⟨L, x, y⟩ := R
  simp only at hl
  have HA := Lib.hid (fun (W : World) (v : Value) (hv : TksIn W v L) => as_any L v W hl hv)
  have HS := Lib.hid (fun (W : World) (u v : Value) (hu : TksIn W u L) (hv : TksIn W v L) => same_any L u v W hl hu hv)
  have HG := Lib.hid (fun (W : World) (hB : Below w.heap.size w W) => goes_any W (sgnt_grown ht hB) (maxl_grown hm hB))
  clear ht hm
  have key : Code.skip = Code.skip → Calls Tryd.prog 3 #[.string s] w fun e w' => e = .returned (.bool true) ∧ Below w.heap.size w w' := by
    intro _
    have hcond : (decide ((3000 : Int) < (s.size : Int)) = false) ∨ (decide ((3000 : Int) < (s.size : Int)) = true ∧ decide ((s.size : Int) ≤ 65536) = false) := by
      rcases h with h | h
      · exact .inl (decide_eq_false (by omega))
      · exact .inr ⟨decide_eq_true (by omega), decide_eq_false (by omega)⟩
    clear h
    rcases hcond with g1 | ⟨g1, g2⟩
    · go_enter Tryd.func3, Tryd.ntmps3
      go_wp2_with fail
      refine (HP.out _ (Below.refl _ _)).mono ?_
      rintro e w1 ⟨v1, rfl, htk1, hB1⟩
      have HK1 := Lib.hid htk1
      have HB1 := Lib.hid hB1
      clear htk1 hB1
      go_wp2_with fail
      refine (HR.out _).mono ?_
      rintro e w2 ⟨v2, rfl, hq2, hB⟩
      have HK2 := Lib.hid (q_kept (tokAt_q HK1.out) hB)
      have HLT := Lib.hid (fun g hg => (q_lt (tokAt_q HK1.out) g hg))
      have HQ2 := Lib.hid hq2
      have HQL := Lib.hid (q_lt hq2)
      have HB2 := Lib.hid (t_thr HB1.out hB HB1.out.size)
      clear hq2 hB HB1 HK1 HR
      go_wp2_with fail
      refine (HA.out _ _ (tks_of HK2.out)).mono ?_
      rintro e w3 ⟨v3, rfl, hq3, hB⟩
      have HT3 := Lib.hid (tks_of hq3)
      have HK3 := Lib.hid (q_kept HK2.out hB)
      have HQ3 := Lib.hid (q_kept HQ2.out hB)
      have HB3 := Lib.hid (t_thr HB2.out hB HB2.out.size)
      clear hq3 hB HB2 HK2 HQ2
      go_wp2_with fail
      refine (HS.out _ _ _ HT3.out (tks_of HQ3.out)).mono ?_
      rintro e w4 ⟨rfl, hB⟩
      have hk4 : QAt w4 w.heap.size 33 v1 L := q_kept HK3.out hB
      have HQ4 := Lib.hid (q_kept HQ3.out hB)
      have HB4 := Lib.hid (t_thr HB3.out hB HB3.out.size)
      clear hB HB3 HK3 HQ3 HT3
      rcases hk4.2 with ⟨rfl, h0⟩ | ⟨g, gcap, cur, rfl, hg, hgg, hnc, hgm, hgs, -⟩
      · clear hk4 h0 HLT
        go_wp2_with fail
        go_loopw [51] (fun i wr => RelNilT w4 i wr) (fun _ _ => 0)
        case atStart => exact ⟨rfl, World.grownBy.refl _ _⟩
        case round =>
          obtain ⟨rfl, hgr⟩ := hrel
          have HBR := Lib.hid (Below.grown HB4.out hgr HB4.out.size (fun k hk => by cases hk))
          have HMR := Lib.hid (World.ownsRow.kept HQ4.out hgr (by cases v2.ownBlock <;> simp))
          clear hgr HB4 HQ4
          go_wp2_with fail
          refine (HP.out _ HBR.out).mono ?_
          rintro e w8 ⟨v8, rfl, htk8, hB⟩
          have HT8 := Lib.hid (tks_of (tokAt_q htk8))
          have HM8 := Lib.hid (q_kept HMR.out hB)
          have HB8 := Lib.hid (t_thr HBR.out hB HBR.out.size)
          clear htk8 hB HBR HMR HP
          go_wp2_with fail
          refine (HA.out _ _ HT8.out).mono ?_
          rintro e w9 ⟨v9, rfl, hq9, hB⟩
          have HT9 := Lib.hid (tks_of hq9)
          have HM9 := Lib.hid (q_kept HM8.out hB)
          have HB9 := Lib.hid (t_thr HB8.out hB HB8.out.size)
          clear hq9 hB HB8 HM8 HT8 HA
          go_wp2_with fail
          refine (HS.out _ _ _ HT9.out (tks_of HM9.out)).mono ?_
          rintro e w10 ⟨rfl, hB⟩
          have HB10 := Lib.hid (t_thr HB9.out hB HB9.out.size)
          clear hB HB9 HM9 HT9 HS
          go_wp2_with fail
          refine (HG.out _ HB10.out).mono ?_
          rintro e w11 ⟨rfl, hB⟩
          have HB11 := Lib.hid (t_thr HB10.out hB HB10.out.size)
          clear hB HB10 HG
          go_wp2
          go_ret
          exact ⟨rfl, HB11.out⟩
      · have hgl := (HLT.out g rfl).2
        have hmne : v2.ownBlock = none ∨ v2.ownBlock ≠ some g := by
          cases hv : v2.ownBlock with
          | none => exact .inl rfl
          | some q =>
            have := (HQL.out q hv).1
            exact .inr (fun e => by cases e; omega)
        have HNE := Lib.hid hmne
        have HV : Hid (RelNegT w4 g gcap L.length (.int .i64 0) w4) := Lib.hid ⟨0, cur, by omega, rfl, hgg, hgs, World.grownBy.refl _ _⟩
        obtain ⟨n, hn⟩ : ∃ n, n = L.length := ⟨_, rfl⟩
        rw [← hn] at hnc HV hl ⊢
        clear hk4 hgg hgs hmne hgl HLT HQL hn
        unfold maxLen at hgm
        go_wp2_with fail
        go_loopw [51] (fun i wr => RelNegT w4 g gcap n i wr) (fun i _ => n - (intOf i).toNat)
        case atStart => exact HV.out
        case round =>
          obtain ⟨k, cur2, hk, rfl, hg2, hs2, hgr⟩ := hrel
          clear HV
          by_cases hlt : k < n
          · have c0 : wr.cell? ⟨g, k * 7 + 1, none⟩ = some (cur2[k * 7 + 1]'(by omega)) := (Lib.cell_of_heap hg2 _).trans (Array.getElem?_eq_getElem (by omega))
            have f0 : wr.frozen? ⟨g, k * 7 + 1, none⟩ = false := by simp [World.frozen?, hg2]
            have HG2 := Lib.hid (t_one (k * 7 + 1) (.int .i64 (-7)) hg2)
            have HBR := Lib.hid (grown_set (i := k * 7 + 1) hgr rfl (.int .i64 (-7)))
            have g3 : decide ((k : Int) < (n : Int)) = true := by simpa using hlt
            clear hg2 hgr
            go_wp2
            go_roundw
            case rel => exact ⟨k + 1, _, by omega, by go_num, HG2.out, by simp; omega, HBR.out⟩
            case measure => simp [intOf]; omega
          · have g3 : decide ((k : Int) < (n : Int)) = false := by simpa using hlt
            have HBR := Lib.hid (Below.grown HB4.out hgr HB4.out.size (fun k hk => by cases hk; exact hg))
            have HMR := Lib.hid (World.ownsRow.kept HQ4.out hgr HNE.out)
            clear hg2 hgr HB4 HQ4 HNE
            go_wp2_with fail
            refine (HP.out _ HBR.out).mono ?_
            rintro e w8 ⟨v8, rfl, htk8, hB⟩
            have HT8 := Lib.hid (tks_of (tokAt_q htk8))
            have HM8 := Lib.hid (q_kept HMR.out hB)
            have HB8 := Lib.hid (t_thr HBR.out hB HBR.out.size)
            clear htk8 hB HBR HMR HP
            go_wp2_with fail
            refine (HA.out _ _ HT8.out).mono ?_
            rintro e w9 ⟨v9, rfl, hq9, hB⟩
            have HT9 := Lib.hid (tks_of hq9)
            have HM9 := Lib.hid (q_kept HM8.out hB)
            have HB9 := Lib.hid (t_thr HB8.out hB HB8.out.size)
            clear hq9 hB HB8 HM8 HT8 HA
            go_wp2_with fail
            refine (HS.out _ _ _ HT9.out (tks_of HM9.out)).mono ?_
            rintro e w10 ⟨rfl, hB⟩
            have HB10 := Lib.hid (t_thr HB9.out hB HB9.out.size)
            clear hB HB9 HM9 HT9 HS
            go_wp2_with fail
            refine (HG.out _ HB10.out).mono ?_
            rintro e w11 ⟨rfl, hB⟩
            have HB11 := Lib.hid (t_thr HB10.out hB HB10.out.size)
            clear hB HB10 HG
            go_wp2
            go_ret
            exact ⟨rfl, HB11.out⟩
    · go_enter Tryd.func3, Tryd.ntmps3
      go_wp2_with fail
      refine (HP.out _ (Below.refl _ _)).mono ?_
      rintro e w1 ⟨v1, rfl, htk1, hB1⟩
      have HK1 := Lib.hid htk1
      have HB1 := Lib.hid hB1
      clear htk1 hB1
      go_wp2_with fail
      refine (HR.out _).mono ?_
      rintro e w2 ⟨v2, rfl, hq2, hB⟩
      have HK2 := Lib.hid (q_kept (tokAt_q HK1.out) hB)
      have HLT := Lib.hid (fun g hg => (q_lt (tokAt_q HK1.out) g hg))
      have HQ2 := Lib.hid hq2
      have HQL := Lib.hid (q_lt hq2)
      have HB2 := Lib.hid (t_thr HB1.out hB HB1.out.size)
      clear hq2 hB HB1 HK1 HR
      go_wp2_with fail
      refine (HA.out _ _ (tks_of HK2.out)).mono ?_
      rintro e w3 ⟨v3, rfl, hq3, hB⟩
      have HT3 := Lib.hid (tks_of hq3)
      have HK3 := Lib.hid (q_kept HK2.out hB)
      have HQ3 := Lib.hid (q_kept HQ2.out hB)
      have HB3 := Lib.hid (t_thr HB2.out hB HB2.out.size)
      clear hq3 hB HB2 HK2 HQ2
      go_wp2_with fail
      refine (HS.out _ _ _ HT3.out (tks_of HQ3.out)).mono ?_
      rintro e w4 ⟨rfl, hB⟩
      have hk4 : QAt w4 w.heap.size 33 v1 L := q_kept HK3.out hB
      have HQ4 := Lib.hid (q_kept HQ3.out hB)
      have HB4 := Lib.hid (t_thr HB3.out hB HB3.out.size)
      clear hB HB3 HK3 HQ3 HT3
      rcases hk4.2 with ⟨rfl, h0⟩ | ⟨g, gcap, cur, rfl, hg, hgg, hnc, hgm, hgs, -⟩
      · clear hk4 h0 HLT
        go_wp2_with fail
        go_loopw [51] (fun i wr => RelNilT w4 i wr) (fun _ _ => 0)
        case atStart => exact ⟨rfl, World.grownBy.refl _ _⟩
        case round =>
          obtain ⟨rfl, hgr⟩ := hrel
          have HBR := Lib.hid (Below.grown HB4.out hgr HB4.out.size (fun k hk => by cases hk))
          have HMR := Lib.hid (World.ownsRow.kept HQ4.out hgr (by cases v2.ownBlock <;> simp))
          clear hgr HB4 HQ4
          go_wp2_with fail
          refine (HP.out _ HBR.out).mono ?_
          rintro e w8 ⟨v8, rfl, htk8, hB⟩
          have HT8 := Lib.hid (tks_of (tokAt_q htk8))
          have HM8 := Lib.hid (q_kept HMR.out hB)
          have HB8 := Lib.hid (t_thr HBR.out hB HBR.out.size)
          clear htk8 hB HBR HMR HP
          go_wp2_with fail
          refine (HA.out _ _ HT8.out).mono ?_
          rintro e w9 ⟨v9, rfl, hq9, hB⟩
          have HT9 := Lib.hid (tks_of hq9)
          have HM9 := Lib.hid (q_kept HM8.out hB)
          have HB9 := Lib.hid (t_thr HB8.out hB HB8.out.size)
          clear hq9 hB HB8 HM8 HT8 HA
          go_wp2_with fail
          refine (HS.out _ _ _ HT9.out (tks_of HM9.out)).mono ?_
          rintro e w10 ⟨rfl, hB⟩
          have HB10 := Lib.hid (t_thr HB9.out hB HB9.out.size)
          clear hB HB9 HM9 HT9 HS
          go_wp2_with fail
          refine (HG.out _ HB10.out).mono ?_
          rintro e w11 ⟨rfl, hB⟩
          have HB11 := Lib.hid (t_thr HB10.out hB HB10.out.size)
          clear hB HB10 HG
          go_wp2
          go_ret
          exact ⟨rfl, HB11.out⟩
      · have hgl := (HLT.out g rfl).2
        have hmne : v2.ownBlock = none ∨ v2.ownBlock ≠ some g := by
          cases hv : v2.ownBlock with
          | none => exact .inl rfl
          | some q =>
            have := (HQL.out q hv).1
            exact .inr (fun e => by cases e; omega)
        have HNE := Lib.hid hmne
        have HV : Hid (RelNegT w4 g gcap L.length (.int .i64 0) w4) := Lib.hid ⟨0, cur, by omega, rfl, hgg, hgs, World.grownBy.refl _ _⟩
        obtain ⟨n, hn⟩ : ∃ n, n = L.length := ⟨_, rfl⟩
        rw [← hn] at hnc HV hl ⊢
        clear hk4 hgg hgs hmne hgl HLT HQL hn
        unfold maxLen at hgm
        go_wp2_with fail
        go_loopw [51] (fun i wr => RelNegT w4 g gcap n i wr) (fun i _ => n - (intOf i).toNat)
        case atStart => exact HV.out
        case round =>
          obtain ⟨k, cur2, hk, rfl, hg2, hs2, hgr⟩ := hrel
          clear HV
          by_cases hlt : k < n
          · have c0 : wr.cell? ⟨g, k * 7 + 1, none⟩ = some (cur2[k * 7 + 1]'(by omega)) := (Lib.cell_of_heap hg2 _).trans (Array.getElem?_eq_getElem (by omega))
            have f0 : wr.frozen? ⟨g, k * 7 + 1, none⟩ = false := by simp [World.frozen?, hg2]
            have HG2 := Lib.hid (t_one (k * 7 + 1) (.int .i64 (-7)) hg2)
            have HBR := Lib.hid (grown_set (i := k * 7 + 1) hgr rfl (.int .i64 (-7)))
            have g3 : decide ((k : Int) < (n : Int)) = true := by simpa using hlt
            clear hg2 hgr
            go_wp2
            go_roundw
            case rel => exact ⟨k + 1, _, by omega, by go_num, HG2.out, by simp; omega, HBR.out⟩
            case measure => simp [intOf]; omega
          · have g3 : decide ((k : Int) < (n : Int)) = false := by simpa using hlt
            have HBR := Lib.hid (Below.grown HB4.out hgr HB4.out.size (fun k hk => by cases hk; exact hg))
            have HMR := Lib.hid (World.ownsRow.kept HQ4.out hgr HNE.out)
            clear hg2 hgr HB4 HQ4 HNE
            go_wp2_with fail
            refine (HP.out _ HBR.out).mono ?_
            rintro e w8 ⟨v8, rfl, htk8, hB⟩
            have HT8 := Lib.hid (tks_of (tokAt_q htk8))
            have HM8 := Lib.hid (q_kept HMR.out hB)
            have HB8 := Lib.hid (t_thr HBR.out hB HBR.out.size)
            clear htk8 hB HBR HMR HP
            go_wp2_with fail
            refine (HA.out _ _ HT8.out).mono ?_
            rintro e w9 ⟨v9, rfl, hq9, hB⟩
            have HT9 := Lib.hid (tks_of hq9)
            have HM9 := Lib.hid (q_kept HM8.out hB)
            have HB9 := Lib.hid (t_thr HB8.out hB HB8.out.size)
            clear hq9 hB HB8 HM8 HT8 HA
            go_wp2_with fail
            refine (HS.out _ _ _ HT9.out (tks_of HM9.out)).mono ?_
            rintro e w10 ⟨rfl, hB⟩
            have HB10 := Lib.hid (t_thr HB9.out hB HB9.out.size)
            clear hB HB9 HM9 HT9 HS
            go_wp2_with fail
            refine (HG.out _ HB10.out).mono ?_
            rintro e w11 ⟨rfl, hB⟩
            have HB11 := Lib.hid (t_thr HB10.out hB HB10.out.size)
            clear hB HB10 HG
            go_wp2
            go_ret
            exact ⟨rfl, HB11.out⟩
  exact key rfl
theorem alls_any (s : ByteArray) (w : World) (ht : SgnT w) (hm : MaxL w) :
    Calls Tryd.prog 3 #[.string s] w fun e w' => e = .returned (.bool true) ∧ Below w.heap.size w w' := by
  by_cases h : 65536 < s.size
  · exact alls_walk s w (.inr h) ([], 0, 9) (by simp) (Lib.hid fun W hB => All_any s 1 _ W (by omega) (allV_long s h) (sgnt_grown ht hB) (maxl_grown hm hB)) (Lib.hid fun W => rAll_long s W h) ht hm
  · by_cases h2 : s.size ≤ 3000
    · obtain ⟨R, hR⟩ := all_some s (by omega) (s.size + 1) 0 [] [] (by omega) (by omega)
      have hR' : allV s (s.size + 1) 0 [] [] = some R := hR
      have hlen := allV_len s _ _ _ _ _ hR'
      simp only [List.length_nil] at hlen
      exact alls_walk s w (.inl h2) R (by omega) (Lib.hid fun W hB => All_any s _ R W (by omega) hR' (sgnt_grown ht hB) (maxl_grown hm hB)) (Lib.hid fun W => rAll_any s _ R W (by omega) (by omega) hR') ht hm
    · exact alls_mid s w (by omega) (by omega) ht hm
end Go.Proofs.YtjbnobcnlmkbmaaDoor
