/-
  The law TokenNothing at this translation: true, for every text.
-/
import Derived.Test.YtjbnobcnlmkbmaaDoorGapR
import Derived.Test.YtjbnobcnlmkbmaaDoorTGoes
import Derived.Laws.StructEq
import Derived.Deep.RegionHeld3
import Derived.RegionTactic
import Derived.Deep.QuietTactic
import Derived.BigQuiet
namespace Go.Proofs.YtjbnobcnlmkbmaaDoor
open Go.RowKit

theorem flat_idx {l : List NT} : ∀ {i j : Nat} {t : NT} {u : Value}, l[i]? = some t → (tkC t)[j]? = some u → (l.flatMap tkC)[i * 7 + j]? = some u := by
  have h7 : ∀ t, (tkC t).length = 7 := fun t => rfl
  induction l with
  | nil => intro i j t u h; simp at h
  | cons x r ih =>
    intro i j t u h hu
    have hj : j < 7 := by
      have := (List.getElem?_eq_some_iff.1 hu).1
      rw [h7] at this
      exact this
    rw [List.flatMap_cons]
    cases i with
    | zero =>
      simp at h
      subst h
      rw [List.getElem?_append_left (by rw [h7]; omega)]
      simpa using hu
    | succ i =>
      rw [List.getElem?_append_right (by rw [h7]; omega), h7]
      have e : (i + 1) * 7 + j - 7 = i * 7 + j := by omega
      rw [e]
      exact ih (by simpa using h) hu
theorem chain_some {s : ByteArray} {q : Nat} {M : List NT} (h : Chain s q M) : 0 < M.length := by
  cases M with
  | nil => exact absurd h (by simp [Chain])
  | cons x r => simp
theorem chain_last {s : ByteArray} : ∀ {M : List NT} {q : Nat}, Chain s q M → ∀ (j : Nat) (u : NT), M.length = j + 1 → M[j]? = some u → u.to = s.size := by
  intro M
  induction M with
  | nil => intro q h; exact absurd h (by simp [Chain])
  | cons x r ih =>
    intro q h j u hl hu
    obtain ⟨f, e, hs, hc⟩ := h
    rcases hc with ⟨h1, rfl⟩ | ⟨h1, h2⟩
    · simp at hl
      subst hl
      simp at hu
      subst hu
      rw [hs.to_, hs.last h1]
    · have hp := chain_some h2
      obtain ⟨i, rfl⟩ : ∃ i, j = i + 1 := ⟨j - 1, by simp at hl; omega⟩
      exact ih h2 i u (by simpa using hl) (by simpa using hu)
theorem own_call (s : ByteArray) (f e : Nat) (t x : NT) (b : Bool) (W : World) (hb : b = pieceB t) (hown : nxT (s.extract f e) 0 (pieceB t) = x)
    (h : Calls Tryd.prog 11 #[.string (s.extract f e), .int .i64 0, .bool b] W fun en w' => en = ntR2 (nxT (s.extract f e) 0 b) ∧ Below W.heap.size W w') :
    Calls Tryd.prog 11 #[.string (s.extract f e), .int .i64 0, .bool b] W fun en w' => en = ntR2 x ∧ Below W.heap.size W w' := by
  subst hb
  rw [hown] at h
  exact h
theorem pb_zero (W : World) : Below W.heap.size W W.drew := (Below.refl _ W).drew
theorem pb_first (W : World) (o : Obj) : Below W.heap.size W (W.alloc o).drew := ((Below.refl _ W).alloc (Nat.le_refl _) o).drew
theorem nx_kept {W w' : World} {cs : Array Value} {T : TypeId} (hB : Below (W.alloc (.cells cs T)).drew.heap.size (W.alloc (.cells cs T)).drew w') : w'.heap[W.heap.size]? = some (.cells cs T (0, 0)) :=
  (hB.block W.heap.size (by show W.heap.size < (W.alloc (.cells cs T)).heap.size; simp)).trans (heap_alloc_new W _)
theorem a_draws2 (B : Nat) (w : World) (n : Nat) : Below B w (w.drewN n) := ⟨rfl, rfl, rfl, Nat.le_refl _, fun _ _ => rfl⟩
theorem s_of {W4 X : World} {g k : Nat} {kd f e n0 : Int} {str : ByteArray} {l o : Bool} (hb : Below W4.heap.size W4 X) (hg : g < W4.heap.size) (hS : (W4.cell? ⟨g, k * 7, none⟩ = some (.int .i64 kd) ∧ W4.cell? ⟨g, k * 7 + 1, none⟩ = some (.int .i64 f) ∧ W4.cell? ⟨g, k * 7 + 2, none⟩ = some (.int .i64 e) ∧ W4.cell? ⟨g, k * 7 + 3, none⟩ = some (.int .i64 n0) ∧ W4.cell? ⟨g, k * 7 + 4, none⟩ = some (.string str) ∧ W4.cell? ⟨g, k * 7 + 5, none⟩ = some (.bool l) ∧ W4.cell? ⟨g, k * 7 + 6, none⟩ = some (.bool o))) : (X.cell? ⟨g, k * 7, none⟩ = some (.int .i64 kd) ∧ X.cell? ⟨g, k * 7 + 1, none⟩ = some (.int .i64 f) ∧ X.cell? ⟨g, k * 7 + 2, none⟩ = some (.int .i64 e) ∧ X.cell? ⟨g, k * 7 + 3, none⟩ = some (.int .i64 n0) ∧ X.cell? ⟨g, k * 7 + 4, none⟩ = some (.string str) ∧ X.cell? ⟨g, k * 7 + 5, none⟩ = some (.bool l) ∧ X.cell? ⟨g, k * 7 + 6, none⟩ = some (.bool o)) := by
  obtain ⟨c0, c1, c2, c3, c4, c5, c6⟩ := hS
  have k1 : ∀ i, X.cell? ⟨g, i, none⟩ = W4.cell? ⟨g, i, none⟩ := fun i => hb.cell (p := ⟨g, i, none⟩) hg
  exact ⟨(k1 _).trans c0, (k1 _).trans c1, (k1 _).trans c2, (k1 _).trans c3, (k1 _).trans c4, (k1 _).trans c5, (k1 _).trans c6⟩
theorem nx_on {W4 X : World} {g k : Nat} {kd f e n0 : Int} {str : ByteArray} {l o : Bool} {r : Ending} {args : Array Value} (hS : (X.cell? ⟨g, k * 7, none⟩ = some (.int .i64 kd) ∧ X.cell? ⟨g, k * 7 + 1, none⟩ = some (.int .i64 f) ∧ X.cell? ⟨g, k * 7 + 2, none⟩ = some (.int .i64 e) ∧ X.cell? ⟨g, k * 7 + 3, none⟩ = some (.int .i64 n0) ∧ X.cell? ⟨g, k * 7 + 4, none⟩ = some (.string str) ∧ X.cell? ⟨g, k * 7 + 5, none⟩ = some (.bool l) ∧ X.cell? ⟨g, k * 7 + 6, none⟩ = some (.bool o)) ∧ Below W4.heap.size W4 X) (hg : g < W4.heap.size)
    (h : Calls Tryd.prog 11 args X fun en w' => en = r ∧ Below X.heap.size X w') :
    Calls Tryd.prog 11 args X fun en w' => en = r ∧ ((w'.cell? ⟨g, k * 7, none⟩ = some (.int .i64 kd) ∧ w'.cell? ⟨g, k * 7 + 1, none⟩ = some (.int .i64 f) ∧ w'.cell? ⟨g, k * 7 + 2, none⟩ = some (.int .i64 e) ∧ w'.cell? ⟨g, k * 7 + 3, none⟩ = some (.int .i64 n0) ∧ w'.cell? ⟨g, k * 7 + 4, none⟩ = some (.string str) ∧ w'.cell? ⟨g, k * 7 + 5, none⟩ = some (.bool l) ∧ w'.cell? ⟨g, k * 7 + 6, none⟩ = some (.bool o)) ∧ Below W4.heap.size W4 w') ∧ Below X.heap.size X w' := by
  refine h.mono ?_
  rintro en w' ⟨he, hB⟩
  obtain ⟨⟨c0, c1, c2, c3, c4, c5, c6⟩, hb⟩ := hS
  have k1 : ∀ i, w'.cell? ⟨g, i, none⟩ = X.cell? ⟨g, i, none⟩ := fun i => hB.cell (p := ⟨g, i, none⟩) (Nat.lt_of_lt_of_le hg hb.size)
  exact ⟨he, ⟨⟨(k1 _).trans c0, (k1 _).trans c1, (k1 _).trans c2, (k1 _).trans c3, (k1 _).trans c4, (k1 _).trans c5, (k1 _).trans c6⟩, t_thr hb hB hb.size⟩, hB⟩
def RelNot (L : List NT) (w1 : World) (n : Nat) (q i : Value) (wr : World) : Prop :=
  ∃ k p : Nat, k ≤ n ∧ i = .int .i64 k ∧ q = .int .i64 p ∧ (k = 0 → p = 0) ∧ (∀ j u, k = j + 1 → L[j]? = some u → u.to = p) ∧ Below w1.heap.size w1 wr

set_option linter.unusedVariables false in
set_option maxRecDepth 100000 in
set_option maxHeartbeats 1000000 in
theorem not_big (s : ByteArray) (w : World) (h : 3000 < s.size) (ht : SgnT w) (hm : MaxL w) :
    Calls Tryd.prog 4 #[.string s] w fun e w' => e = .returned (.bool true) ∧ Below w.heap.size w w' := by
  have g1 : decide ((3000 : Int) < (s.size : Int)) = true := decide_eq_true (by omega)
  have HG := Lib.hid (goes_any w ht hm)
  clear ht hm h
  go_enter Tryd.func4, Tryd.ntmps4
  go_wp2_with fail
  refine HG.out.mono ?_
  rintro e w' ⟨rfl, hb⟩
  go_wp2
  go_ret
  exact ⟨rfl, hb⟩

set_option linter.unusedVariables false in
set_option maxRecDepth 100000 in
set_option maxHeartbeats 1000000 in
theorem not_err (s : ByteArray) (w : World) (h : s.size ≤ 3000) (x y : Int) (hy : ¬ y = 0) (hall : allV s (s.size + 1) 0 [] [] = some ([], x, y)) (ht : SgnT w) (hm : MaxL w) :
    Calls Tryd.prog 4 #[.string s] w fun e w' => e = .returned (.bool true) ∧ Below w.heap.size w w' := by
  have g1 : decide ((3000 : Int) < (s.size : Int)) = false := decide_eq_false (by omega)
  have hyb : (y != 0) = true := by simpa using hy
  have HP := Lib.hid (All_any s _ _ w (by omega) hall ht hm)
  have HG := Lib.hid (fun (W : World) (hB : Below w.heap.size w W) => goes_any W (sgnt_grown ht hB) (maxl_grown hm hB))
  clear ht hm h hall hy
  go_enter Tryd.func4, Tryd.ntmps4
  go_wp2_with fail
  refine HP.out.mono ?_
  rintro e w1 ⟨v1, rfl, htk, hB⟩
  have hv : ∃ ad cap, v1 = .slice ad 0 cap := by
    rcases htk.2 with ⟨rfl, _⟩ | ⟨g, cap, cur, rfl, _⟩
    · exact ⟨_, _, rfl⟩
    · exact ⟨_, _, rfl⟩
  obtain ⟨ad, cap, rfl⟩ := hv
  have HB := Lib.hid hB
  clear htk hB HP
  go_wp2_with fail
  refine (HG.out _ HB.out).mono ?_
  rintro e w2 ⟨rfl, hB⟩
  have HB2 := Lib.hid (t_thr HB.out hB HB.out.size)
  clear hB HB HG
  go_wp2
  go_ret
  exact ⟨rfl, HB2.out⟩

set_option linter.unusedVariables false in
set_option maxRecDepth 100000 in
set_option maxHeartbeats 64000000 in
theorem not_walk (s : ByteArray) (w : World) (h : s.size ≤ 3000) (L : List NT) (x : Int) (hall : allV s (s.size + 1) 0 [] [] = some (L, x, 0)) (hlen : L.length ≤ 100000) (ht : SgnT w) (hm : MaxL w) :
    Calls Tryd.prog 4 #[.string s] w fun e w' => e = .returned (.bool true) ∧ Below w.heap.size w w' := by
  have g1 : decide ((3000 : Int) < (s.size : Int)) = false := decide_eq_false (by omega)
  obtain ⟨M, hM, hC0⟩ := all_chain s (by omega) (s.size + 1) 0 [] [] L x (by omega) hall
  have hC : Chain s 0 L := by rw [hM]; simpa using hC0
  clear hM hC0
  have HC := Lib.hid hC
  have hpos := chain_some hC
  have HP := Lib.hid (All_any s _ _ w (by omega) hall ht hm)
  have HG := Lib.hid (fun (W : World) (hB : Below w.heap.size w W) => goes_any W (sgnt_grown ht hB) (maxl_grown hm hB))
  have HNX := Lib.hid (fun (W : World) (f e : Nat) (b : Bool) (hB : Below w.heap.size w W) => Next_any (s.extract f e) 0 b W (sgnt_grown ht hB) (maxl_grown hm hB))
  have HGP := Lib.hid (fun (W : World) (p f : Nat) hp hf hg => gapR_any s p f W (by omega) hp hf hg)
  clear ht hm hall hC
  go_enter Tryd.func4, Tryd.ntmps4
  go_wp2_with fail
  refine HP.out.mono ?_
  rintro e w1 ⟨v1, rfl, htk, hB1⟩
  obtain ⟨g, cap, rfl, hnc, hmx, hgl, hcells⟩ := tok_row htk (by simp only; omega)
  simp only at hnc hcells ⊢
  unfold maxLen at hmx
  have HCL := Lib.hid hcells
  have HB1 := Lib.hid hB1
  obtain ⟨n, hn⟩ : ∃ n, n = L.length := ⟨_, rfl⟩
  rw [← hn] at hnc hlen hpos ⊢
  have HN := Lib.hid hn
  have HV : Hid (RelNot L w1 n (.int .i64 0) (.int .i64 0) w1) := Lib.hid ⟨0, 0, by omega, rfl, rfl, fun _ => rfl, fun j u hj => by omega, Below.refl _ _⟩
  clear hn hcells hB1 htk HP
  go_wp2_with fail
  go_loopw [6, 30] (fun q i wr => RelNot L w1 n q i wr) (fun _ i _ => n - (intOf i).toNat)
  case atStart => exact HV.out
  case round =>
    obtain ⟨k, p, hk, rfl, rfl, h0, hj, hBr⟩ := hrel
    clear HV
    by_cases hlt : k < n
    · obtain ⟨t, htk⟩ : ∃ t, L[k]? = some t := ⟨L[k]'(by rw [← HN.out]; exact hlt), List.getElem?_eq_getElem _⟩
      obtain ⟨f, e, hself, hlast⟩ := chain_at HC.out htk h0 hj
      have hcc : ∀ j u, (tkC t)[j]? = some u → wr.cell? ⟨g, k * 7 + j, none⟩ = some u := fun j u hu => (hBr.cell (p := ⟨g, k * 7 + j, none⟩) hgl).trans (HCL.out _ _ (flat_idx htk hu))
      have HTK := Lib.hid htk
      have hlast' : (t.kind == 0) = ((k : Int) == (n : Int) - 1) := by
        rw [Bool.eq_iff_iff, beq_iff_eq, beq_iff_eq, hlast, ← HN.out]
        omega
      obtain ⟨kd, a, to, n0, str, l, o, fa, er⟩ := t
      obtain ⟨ha, hto, hlo, hmid, hhi, hgap, hown, -⟩ := hself
      simp only at ha hto hown hlast'
      subst ha hto
      have c0 := hcc 0 _ rfl
      have c1 := hcc 1 _ rfl
      have c2 := hcc 2 _ rfl
      have c3 := hcc 3 _ rfl
      have c4 := hcc 4 _ rfl
      have c5 := hcc 5 _ rfl
      have c6 := hcc 6 _ rfl
      rw [Nat.add_zero] at c0
      simp only at c0 c1 c2 c3 c4 c5 c6
      have HGAP := Lib.hid (fun (W : World) => HGP.out W p f hlo (by omega) hgap)
      have HOWN := Lib.hid (fun (W : World) (b : Bool) (hb : b = pieceB ⟨kd, f, e, n0, str, l, o, fa, er⟩) (hB : Below w.heap.size w W) => own_call s f e _ _ b W hb hown (HNX.out W f e b hB))
      unfold ntR2 at HOWN
      simp only at HOWN
      have g3 : decide ((k : Int) < (n : Int)) = true := by simpa using hlt
      have g4 : decide (e < f) = false := decide_eq_false (by omega)
      have g5 : decide (s.size < e) = false := decide_eq_false (by omega)
      have g6 : decide (k < n) = true := by simpa using hlt
      have HBR := Lib.hid hBr
      clear hgap hown hcc htk hj h0 hlast hBr
      obtain ⟨lb, hlb⟩ : ∃ lb, lb = (kd == 0) := ⟨_, rfl⟩
      have g7 : (kd == 0) = lb := hlb.symm
      have g8 : ((k : Int) == (n : Int) - 1) = lb := by rw [← hlast']; exact g7
      have g9 : (lb != lb) = false := by simp
      clear hlb hlast'
      clear g6 HG HNX HGP
      have gw : IntKind.i64.wrap ((n : Int) - 1) = (n : Int) - 1 := IntWalk.i64_in _ (by omega)
      go_upto_region 10 with fail
      have hS0 : (wr.drew.cell? ⟨g, k * 7, none⟩ = some (.int .i64 kd) ∧ wr.drew.cell? ⟨g, k * 7 + 1, none⟩ = some (.int .i64 f) ∧ wr.drew.cell? ⟨g, k * 7 + 2, none⟩ = some (.int .i64 e) ∧ wr.drew.cell? ⟨g, k * 7 + 3, none⟩ = some (.int .i64 n0) ∧ wr.drew.cell? ⟨g, k * 7 + 4, none⟩ = some (.string str) ∧ wr.drew.cell? ⟨g, k * 7 + 5, none⟩ = some (.bool l) ∧ wr.drew.cell? ⟨g, k * 7 + 6, none⟩ = some (.bool o)) ∧ Below wr.heap.size wr wr.drew := ⟨⟨c0, c1, c2, c3, c4, c5, c6⟩, (Below.refl _ _).drew⟩
      go_region_held3 (fun w' => (w'.cell? ⟨g, k * 7, none⟩ = some (.int .i64 kd) ∧ w'.cell? ⟨g, k * 7 + 1, none⟩ = some (.int .i64 f) ∧ w'.cell? ⟨g, k * 7 + 2, none⟩ = some (.int .i64 e) ∧ w'.cell? ⟨g, k * 7 + 3, none⟩ = some (.int .i64 n0) ∧ w'.cell? ⟨g, k * 7 + 4, none⟩ = some (.string str) ∧ w'.cell? ⟨g, k * 7 + 5, none⟩ = some (.bool l) ∧ w'.cell? ⟨g, k * 7 + 6, none⟩ = some (.bool o)) ∧ Below wr.heap.size wr w') (first | (with_reducible assumption) | go_keep) (first | (go_at_call 10; refine (HGAP.out _).mono ?_; rintro en w' ⟨rfl, rfl⟩))
      clear c0 c1 c2 c3 c4 c5 c6 HGAP
      have HB4 : Hid (Below w1.heap.size w1 wr.drew) := Lib.hid HBR.out.drew
      obtain ⟨W4, hW4⟩ : ∃ W4, W4 = wr.drew := ⟨_, rfl⟩
      have hc4 := hS0.1
      rw [← hW4] at hc4 HB4 ⊢
      clear hW4 hS0 HBR
      have hwl : w.heap.size ≤ W4.heap.size := Nat.le_trans HB1.out.size HB4.out.size
      have HB0 : Hid (Below w.heap.size w W4) := Lib.hid (t_thr HB1.out HB4.out HB1.out.size)
      have HOWN4 := Lib.hid (fun (X : World) (b : Bool) (hb : b = pieceB ⟨kd, f, e, n0, str, l, o, fa, er⟩) (hS : (X.cell? ⟨g, k * 7, none⟩ = some (.int .i64 kd) ∧ X.cell? ⟨g, k * 7 + 1, none⟩ = some (.int .i64 f) ∧ X.cell? ⟨g, k * 7 + 2, none⟩ = some (.int .i64 e) ∧ X.cell? ⟨g, k * 7 + 3, none⟩ = some (.int .i64 n0) ∧ X.cell? ⟨g, k * 7 + 4, none⟩ = some (.string str) ∧ X.cell? ⟨g, k * 7 + 5, none⟩ = some (.bool l) ∧ X.cell? ⟨g, k * 7 + 6, none⟩ = some (.bool o)) ∧ Below W4.heap.size W4 X) => nx_on (W4 := W4) hS (Nat.lt_of_lt_of_le hgl HB4.out.size) (HOWN.out X b hb (t_thr HB0.out hS.2 hwl)))
      clear HOWN
      have HC4 := Lib.hid hc4
      obtain ⟨c0, c1, c2, c3, c4, c5, c6⟩ := hc4
      go_upto_region 12 with fail
      obtain ⟨b6, hb6⟩ : ∃ b6, b6 = (kd == 6) := ⟨_, rfl⟩
      obtain ⟨b1, hb1⟩ : ∃ b1, b1 = (n0 == 1) := ⟨_, rfl⟩
      have hpb : (b6 && b1) = pieceB ⟨kd, f, e, n0, str, l, o, fa, er⟩ := by rw [hb6, hb1]; rfl
      have HX := Lib.hid (fun X hS hB => HOWN4.out X (b6 && b1) hpb ⟨hS, hB⟩)
      have q6 : (kd == 6) = b6 := hb6.symm
      have q1 : (n0 == 1) = b1 := hb1.symm
      clear hb6 hb1 hpb HOWN4
      have hS0 : (W4.drew.cell? ⟨g, k * 7, none⟩ = some (.int .i64 kd) ∧ W4.drew.cell? ⟨g, k * 7 + 1, none⟩ = some (.int .i64 f) ∧ W4.drew.cell? ⟨g, k * 7 + 2, none⟩ = some (.int .i64 e) ∧ W4.drew.cell? ⟨g, k * 7 + 3, none⟩ = some (.int .i64 n0) ∧ W4.drew.cell? ⟨g, k * 7 + 4, none⟩ = some (.string str) ∧ W4.drew.cell? ⟨g, k * 7 + 5, none⟩ = some (.bool l) ∧ W4.drew.cell? ⟨g, k * 7 + 6, none⟩ = some (.bool o)) := ⟨c0, c1, c2, c3, c4, c5, c6⟩
      have hs3 : s.size ≤ 3000 := h
      have hg4 : g < W4.heap.size := Nat.lt_of_lt_of_le hgl HB4.out.size
      have hne1 : ¬ g = W4.heap.size := by omega
      have hne2 : ¬ W4.heap.size = g := by omega
      cases b6 with
      | true =>
        rw [Bool.true_and] at HX
        cases b1 with
        | true =>
          go_region_held3 (fun w' => (w'.cell? ⟨g, k * 7, none⟩ = some (.int .i64 kd) ∧ w'.cell? ⟨g, k * 7 + 1, none⟩ = some (.int .i64 f) ∧ w'.cell? ⟨g, k * 7 + 2, none⟩ = some (.int .i64 e) ∧ w'.cell? ⟨g, k * 7 + 3, none⟩ = some (.int .i64 n0) ∧ w'.cell? ⟨g, k * 7 + 4, none⟩ = some (.string str) ∧ w'.cell? ⟨g, k * 7 + 5, none⟩ = some (.bool l) ∧ w'.cell? ⟨g, k * 7 + 6, none⟩ = some (.bool o))) (first | (with_reducible assumption) | go_keep) (first | (go_at_call 11; refine (HX.out _ ?_ ?_).mono ?_; with_reducible assumption; with_reducible exact pb_zero W4; rintro en w' ⟨rfl, hS2, hB⟩; have hS3 := hS2.1; have hx1 : ¬ g = w'.heap.size := (by have := hS2.2.size; omega); have hx2 : ¬ w'.heap.size = g := (by omega)) | (go_at_call 11; refine (HX.out _ ?_ ?_).mono ?_; with_reducible assumption; with_reducible exact pb_first W4 _; rintro en w' ⟨rfl, hS2, hB⟩; have hS3 := hS2.1; obtain ⟨⟨z0, z1, z2, z3, z4, z5, z6⟩, ⟨y0, y1, y2, y3, y4, y5, y6⟩, _⟩ := t_seven (nx_kept (W := W4) hB)))
          all_goals first
            | (have hh8 := heap_alloc_new w' (.cells #[.int .i64 kd, .int .i64 0, .int .i64 ((e - f : Nat) : Int), .int .i64 n0, .string str, .bool false, .bool o] 33)
               have hb5 : Below W4.heap.size W4 (w'.alloc (.cells #[.int .i64 kd, .int .i64 0, .int .i64 ((e - f : Nat) : Int), .int .i64 n0, .string str, .bool false, .bool o] 33)) := hS2.2.alloc hS2.2.size _
               have hlo : W4.heap.size ≤ w'.heap.size := hS2.2.size
               obtain ⟨W5, hW5⟩ : ∃ W5, W5 = w'.alloc (.cells #[.int .i64 kd, .int .i64 0, .int .i64 ((e - f : Nat) : Int), .int .i64 n0, .string str, .bool false, .bool o] 33) := ⟨_, rfl⟩
               obtain ⟨b8, hb8⟩ : ∃ b8, b8 = w'.heap.size := ⟨_, rfl⟩
               rw [← hW5, ← hb8] at hh8
               rw [← hW5] at hb5
               rw [← hb8] at hlo
               rw [← hW5, ← hb8]
               clear hW5 hb8 hS2 hS3 hB hx1 hx2)
            | (have hh8 := t_set7 (y0 := .int .i64 kd) (y1 := .int .i64 0) (y2 := .int .i64 ((e - f : Nat) : Int)) (y3 := .int .i64 n0) (y4 := .string str) (y5 := .bool false) (y6 := .bool o) (nx_kept (W := W4) hB)
               have hb5 := t_st7 (x0 := .int .i64 kd) (x1 := .int .i64 0) (x2 := .int .i64 ((e - f : Nat) : Int)) (x3 := .int .i64 n0) (x4 := .string str) (x5 := .bool false) (x6 := .bool o) hS2.2 (Nat.le_refl W4.heap.size)
               have hlo : W4.heap.size ≤ W4.heap.size := Nat.le_refl _
               generalize (((((((w'.setCell ⟨W4.heap.size, 0, none⟩ (.int .i64 kd)).setCell ⟨W4.heap.size, 1, none⟩ (.int .i64 0)).setCell ⟨W4.heap.size, 2, none⟩ (.int .i64 ((e - f : Nat) : Int))).setCell ⟨W4.heap.size, 3, none⟩ (.int .i64 n0)).setCell ⟨W4.heap.size, 4, none⟩ (.string str)).setCell ⟨W4.heap.size, 5, none⟩ (.bool false)).setCell ⟨W4.heap.size, 6, none⟩ (.bool o)) = W5 at hh8 hb5 ⊢
               obtain ⟨b8, hb8⟩ : ∃ b8, b8 = W4.heap.size := ⟨_, rfl⟩
               rw [← hb8] at hh8
               rw [← hb8]
               replace hlo : W4.heap.size ≤ b8 := by omega
               clear hb8 hS2 hS3 hB z0 z1 z2 z3 z4 z5 z6 y0 y1 y2 y3 y4 y5 y6)
          all_goals (
            clear c0 c1 c2 c3 c4 c5 c6 hne1 hne2
            have hn1 : ¬ g = b8 := by omega
            have hn2 : ¬ b8 = g := by omega
            obtain ⟨c0, c1, c2, c3, c4, c5, c6⟩ := s_of hb5 hg4 HC4.out
            obtain ⟨⟨r0, r1, r2, r3, r4, r5, r6⟩, ⟨y0, y1, y2, y3, y4, y5, y6⟩, _⟩ := t_seven hh8
            have HH8 := Lib.hid hh8
            have HB5 := Lib.hid hb5
            clear hh8 hb5
            go_upto_region 14 with fail
            have hh9 := t_one 1 (.int .i64 (f : Int)) HH8.out
            simp only [List.setIfInBounds_toArray, List.set_cons_zero, List.set_cons_succ] at hh9
            have hb9 := t_set 1 (.int .i64 (f : Int)) HB5.out hlo
            generalize W5.setCell ⟨b8, 1, none⟩ (.int .i64 (f : Int)) = W6 at hh9 hb9 ⊢
            clear r0 r1 r2 r3 r4 r5 r6 y0 y1 y2 y3 y4 y5 y6 c0 c1 c2 c3 c4 c5 c6 HH8 HB5
            obtain ⟨c0, c1, c2, c3, c4, c5, c6⟩ := s_of hb9 hg4 HC4.out
            obtain ⟨⟨r0, r1, r2, r3, r4, r5, r6⟩, ⟨y0, y1, y2, y3, y4, y5, y6⟩, _⟩ := t_seven hh9
            have HH9 := Lib.hid hh9
            have HB9 := Lib.hid hb9
            clear hh9 hb9
            have gw2 : IntKind.i64.wrap (((e - f : Nat) : Int) + (f : Int)) = (e : Int) := by rw [IntWalk.i64_in _ (by omega)]; omega
            go_region
            go_upto_region 16 with fail
            have hh7 := t_one 5 (.bool l) (t_one 2 (.int .i64 (e : Int)) HH9.out)
            simp only [List.setIfInBounds_toArray, List.set_cons_zero, List.set_cons_succ] at hh7
            have hb7 := t_set 5 (.bool l) (t_set 2 (.int .i64 (e : Int)) HB9.out hlo) hlo
            have hh8 : ((W6.setCell ⟨b8, 2, none⟩ (.int .i64 (e : Int))).setCell ⟨b8, 5, none⟩ (.bool l)).drew.heap[b8]? = _ := hh7
            have hb8 : Below W4.heap.size W4 ((W6.setCell ⟨b8, 2, none⟩ (.int .i64 (e : Int))).setCell ⟨b8, 5, none⟩ (.bool l)).drew := hb7.drew
            generalize ((W6.setCell ⟨b8, 2, none⟩ (.int .i64 (e : Int))).setCell ⟨b8, 5, none⟩ (.bool l)).drew = W7 at hh8 hb8 ⊢
            clear r0 r1 r2 r3 r4 r5 r6 y0 y1 y2 y3 y4 y5 y6 c0 c1 c2 c3 c4 c5 c6 HH9 HB9 hh7 hb7
            obtain ⟨c0, c1, c2, c3, c4, c5, c6⟩ := s_of hb8 hg4 HC4.out
            obtain ⟨⟨r0, r1, r2, r3, r4, r5, r6⟩, _, _⟩ := t_seven hh8
            have HB8 := Lib.hid hb8
            clear hh8 hb8 hn1 hn2
            go_wp2
            go_quiet (fail)
            go_wp2
            go_roundw
            case rel => exact ⟨k + 1, e, by omega, by go_num, rfl, fun hk0 => by omega, fun j u hj hu => (by
              have : j = k := by omega
              subst this
              have h9 := HTK.out.symm.trans hu
              cases h9
              rfl), t_thr HB4.out (HB8.out.trans (a_draws2 _ _ _)) HB4.out.size⟩
            case measure => simp [intOf]; omega)
        | false =>
          go_region_held3 (fun w' => (w'.cell? ⟨g, k * 7, none⟩ = some (.int .i64 kd) ∧ w'.cell? ⟨g, k * 7 + 1, none⟩ = some (.int .i64 f) ∧ w'.cell? ⟨g, k * 7 + 2, none⟩ = some (.int .i64 e) ∧ w'.cell? ⟨g, k * 7 + 3, none⟩ = some (.int .i64 n0) ∧ w'.cell? ⟨g, k * 7 + 4, none⟩ = some (.string str) ∧ w'.cell? ⟨g, k * 7 + 5, none⟩ = some (.bool l) ∧ w'.cell? ⟨g, k * 7 + 6, none⟩ = some (.bool o))) (first | (with_reducible assumption) | go_keep) (first | (go_at_call 11; refine (HX.out _ ?_ ?_).mono ?_; with_reducible assumption; with_reducible exact pb_zero W4; rintro en w' ⟨rfl, hS2, hB⟩; have hS3 := hS2.1; have hx1 : ¬ g = w'.heap.size := (by have := hS2.2.size; omega); have hx2 : ¬ w'.heap.size = g := (by omega)) | (go_at_call 11; refine (HX.out _ ?_ ?_).mono ?_; with_reducible assumption; with_reducible exact pb_first W4 _; rintro en w' ⟨rfl, hS2, hB⟩; have hS3 := hS2.1; obtain ⟨⟨z0, z1, z2, z3, z4, z5, z6⟩, ⟨y0, y1, y2, y3, y4, y5, y6⟩, _⟩ := t_seven (nx_kept (W := W4) hB)))
          all_goals first
            | (have hh8 := heap_alloc_new w' (.cells #[.int .i64 kd, .int .i64 0, .int .i64 ((e - f : Nat) : Int), .int .i64 n0, .string str, .bool false, .bool o] 33)
               have hb5 : Below W4.heap.size W4 (w'.alloc (.cells #[.int .i64 kd, .int .i64 0, .int .i64 ((e - f : Nat) : Int), .int .i64 n0, .string str, .bool false, .bool o] 33)) := hS2.2.alloc hS2.2.size _
               have hlo : W4.heap.size ≤ w'.heap.size := hS2.2.size
               obtain ⟨W5, hW5⟩ : ∃ W5, W5 = w'.alloc (.cells #[.int .i64 kd, .int .i64 0, .int .i64 ((e - f : Nat) : Int), .int .i64 n0, .string str, .bool false, .bool o] 33) := ⟨_, rfl⟩
               obtain ⟨b8, hb8⟩ : ∃ b8, b8 = w'.heap.size := ⟨_, rfl⟩
               rw [← hW5, ← hb8] at hh8
               rw [← hW5] at hb5
               rw [← hb8] at hlo
               rw [← hW5, ← hb8]
               clear hW5 hb8 hS2 hS3 hB hx1 hx2)
            | (have hh8 := t_set7 (y0 := .int .i64 kd) (y1 := .int .i64 0) (y2 := .int .i64 ((e - f : Nat) : Int)) (y3 := .int .i64 n0) (y4 := .string str) (y5 := .bool false) (y6 := .bool o) (nx_kept (W := W4) hB)
               have hb5 := t_st7 (x0 := .int .i64 kd) (x1 := .int .i64 0) (x2 := .int .i64 ((e - f : Nat) : Int)) (x3 := .int .i64 n0) (x4 := .string str) (x5 := .bool false) (x6 := .bool o) hS2.2 (Nat.le_refl W4.heap.size)
               have hlo : W4.heap.size ≤ W4.heap.size := Nat.le_refl _
               generalize (((((((w'.setCell ⟨W4.heap.size, 0, none⟩ (.int .i64 kd)).setCell ⟨W4.heap.size, 1, none⟩ (.int .i64 0)).setCell ⟨W4.heap.size, 2, none⟩ (.int .i64 ((e - f : Nat) : Int))).setCell ⟨W4.heap.size, 3, none⟩ (.int .i64 n0)).setCell ⟨W4.heap.size, 4, none⟩ (.string str)).setCell ⟨W4.heap.size, 5, none⟩ (.bool false)).setCell ⟨W4.heap.size, 6, none⟩ (.bool o)) = W5 at hh8 hb5 ⊢
               obtain ⟨b8, hb8⟩ : ∃ b8, b8 = W4.heap.size := ⟨_, rfl⟩
               rw [← hb8] at hh8
               rw [← hb8]
               replace hlo : W4.heap.size ≤ b8 := by omega
               clear hb8 hS2 hS3 hB z0 z1 z2 z3 z4 z5 z6 y0 y1 y2 y3 y4 y5 y6)
          all_goals (
            clear c0 c1 c2 c3 c4 c5 c6 hne1 hne2
            have hn1 : ¬ g = b8 := by omega
            have hn2 : ¬ b8 = g := by omega
            obtain ⟨c0, c1, c2, c3, c4, c5, c6⟩ := s_of hb5 hg4 HC4.out
            obtain ⟨⟨r0, r1, r2, r3, r4, r5, r6⟩, ⟨y0, y1, y2, y3, y4, y5, y6⟩, _⟩ := t_seven hh8
            have HH8 := Lib.hid hh8
            have HB5 := Lib.hid hb5
            clear hh8 hb5
            go_upto_region 14 with fail
            have hh9 := t_one 1 (.int .i64 (f : Int)) HH8.out
            simp only [List.setIfInBounds_toArray, List.set_cons_zero, List.set_cons_succ] at hh9
            have hb9 := t_set 1 (.int .i64 (f : Int)) HB5.out hlo
            generalize W5.setCell ⟨b8, 1, none⟩ (.int .i64 (f : Int)) = W6 at hh9 hb9 ⊢
            clear r0 r1 r2 r3 r4 r5 r6 y0 y1 y2 y3 y4 y5 y6 c0 c1 c2 c3 c4 c5 c6 HH8 HB5
            obtain ⟨c0, c1, c2, c3, c4, c5, c6⟩ := s_of hb9 hg4 HC4.out
            obtain ⟨⟨r0, r1, r2, r3, r4, r5, r6⟩, ⟨y0, y1, y2, y3, y4, y5, y6⟩, _⟩ := t_seven hh9
            have HH9 := Lib.hid hh9
            have HB9 := Lib.hid hb9
            clear hh9 hb9
            have gw2 : IntKind.i64.wrap (((e - f : Nat) : Int) + (f : Int)) = (e : Int) := by rw [IntWalk.i64_in _ (by omega)]; omega
            go_region
            go_upto_region 16 with fail
            have hh7 := t_one 5 (.bool l) (t_one 2 (.int .i64 (e : Int)) HH9.out)
            simp only [List.setIfInBounds_toArray, List.set_cons_zero, List.set_cons_succ] at hh7
            have hb7 := t_set 5 (.bool l) (t_set 2 (.int .i64 (e : Int)) HB9.out hlo) hlo
            have hh8 : ((W6.setCell ⟨b8, 2, none⟩ (.int .i64 (e : Int))).setCell ⟨b8, 5, none⟩ (.bool l)).drew.heap[b8]? = _ := hh7
            have hb8 : Below W4.heap.size W4 ((W6.setCell ⟨b8, 2, none⟩ (.int .i64 (e : Int))).setCell ⟨b8, 5, none⟩ (.bool l)).drew := hb7.drew
            generalize ((W6.setCell ⟨b8, 2, none⟩ (.int .i64 (e : Int))).setCell ⟨b8, 5, none⟩ (.bool l)).drew = W7 at hh8 hb8 ⊢
            clear r0 r1 r2 r3 r4 r5 r6 y0 y1 y2 y3 y4 y5 y6 c0 c1 c2 c3 c4 c5 c6 HH9 HB9 hh7 hb7
            obtain ⟨c0, c1, c2, c3, c4, c5, c6⟩ := s_of hb8 hg4 HC4.out
            obtain ⟨⟨r0, r1, r2, r3, r4, r5, r6⟩, _, _⟩ := t_seven hh8
            have HB8 := Lib.hid hb8
            clear hh8 hb8 hn1 hn2
            go_wp2
            go_quiet (fail)
            go_wp2
            go_roundw
            case rel => exact ⟨k + 1, e, by omega, by go_num, rfl, fun hk0 => by omega, fun j u hj hu => (by
              have : j = k := by omega
              subst this
              have h9 := HTK.out.symm.trans hu
              cases h9
              rfl), t_thr HB4.out (HB8.out.trans (a_draws2 _ _ _)) HB4.out.size⟩
            case measure => simp [intOf]; omega)
      | false =>
        rw [Bool.false_and] at HX
        refine wp_region_noPanic ?_
        refine wp_region_held_drew (S := fun w' => (w'.cell? ⟨g, k * 7, none⟩ = some (.int .i64 kd) ∧ w'.cell? ⟨g, k * 7 + 1, none⟩ = some (.int .i64 f) ∧ w'.cell? ⟨g, k * 7 + 2, none⟩ = some (.int .i64 e) ∧ w'.cell? ⟨g, k * 7 + 3, none⟩ = some (.int .i64 n0) ∧ w'.cell? ⟨g, k * 7 + 4, none⟩ = some (.string str) ∧ w'.cell? ⟨g, k * 7 + 5, none⟩ = some (.bool l) ∧ w'.cell? ⟨g, k * 7 + 6, none⟩ = some (.bool o))) (by kernel_rfl) (by exact hS0) (fun hHeld => ?_)
        refine wpAnyH_take (i := 0) (v := ?_) rfl (by kernel_rfl) (by kernel_rfl) (by kernel_rfl) (fun _ _ _ h => h) (Or.inl ⟨by rfl, ?_⟩) hHeld ?_
        rotate_left
        · intro w hSw
          try dsimp only at hSw
          go_simp
          try with_reducible rfl
        try simp only [Act.put, List.setIfInBounds_toArray, List.set_cons_zero, List.set_cons_succ]
        refine wpAnyH_take (i := 1) (v := ?_) rfl (by kernel_rfl) (by kernel_rfl) (by kernel_rfl) (fun _ _ _ h => h) (Or.inl ⟨by rfl, ?_⟩) hHeld ?_
        rotate_left
        · intro w hSw
          try dsimp only at hSw
          go_simp
          try with_reducible rfl
        try simp only [Act.put, List.setIfInBounds_toArray, List.set_cons_zero, List.set_cons_succ]
        refine wpAnyH_take (i := 2) (v := ?_) rfl (by kernel_rfl) (by kernel_rfl) (by kernel_rfl) (fun _ _ _ h => h) (Or.inl ⟨by rfl, ?_⟩) hHeld ?_
        rotate_left
        · intro w hSw
          try dsimp only at hSw
          go_simp
          try with_reducible rfl
        try simp only [Act.put, List.setIfInBounds_toArray, List.set_cons_zero, List.set_cons_succ]
        refine wpAnyH_take (i := 3) (v := ?_) rfl (by kernel_rfl) (by kernel_rfl) (by kernel_rfl) (fun _ _ _ h => h) (Or.inl ⟨by rfl, ?_⟩) hHeld ?_
        rotate_left
        · intro w hSw
          try dsimp only at hSw
          go_simp
          try with_reducible rfl
        try simp only [Act.put, List.setIfInBounds_toArray, List.set_cons_zero, List.set_cons_succ]
        refine wpAnyH_take (i := 4) (v := ?_) rfl (by kernel_rfl) (by kernel_rfl) (by kernel_rfl) (fun _ _ _ h => h) (Or.inl ⟨by rfl, ?_⟩) hHeld ?_
        rotate_left
        · intro w hSw
          try dsimp only at hSw
          go_simp
          try with_reducible rfl
        try simp only [Act.put, List.setIfInBounds_toArray, List.set_cons_zero, List.set_cons_succ]
        refine wpAnyH_take (i := 5) (v := ?_) rfl (by kernel_rfl) (by kernel_rfl) (by kernel_rfl) (fun _ _ _ h => h) (Or.inl ⟨by rfl, ?_⟩) hHeld ?_
        rotate_left
        · intro w hSw
          try dsimp only at hSw
          go_simp
          try with_reducible rfl
        try simp only [Act.put, List.setIfInBounds_toArray, List.set_cons_zero, List.set_cons_succ]
        refine wpAnyH_take (i := 6) (v := ?_) rfl (by kernel_rfl) (by kernel_rfl) (by kernel_rfl) (fun _ _ _ h => h) (Or.inl ⟨by rfl, ?_⟩) hHeld ?_
        rotate_left
        · intro w hSw
          try dsimp only at hSw
          go_simp
          try with_reducible rfl
        try simp only [Act.put, List.setIfInBounds_toArray, List.set_cons_zero, List.set_cons_succ]
        refine wpAnyH_take (i := 7) (v := ?_) rfl (by kernel_rfl) (by kernel_rfl) (by kernel_rfl) (fun _ _ _ h => h) (Or.inl ⟨by rfl, ?_⟩) hHeld ?_
        rotate_left
        · intro w hSw
          try dsimp only at hSw
          go_simp
          try with_reducible rfl
        try simp only [Act.put, List.setIfInBounds_toArray, List.set_cons_zero, List.set_cons_succ]
        refine wpAnyH_take (i := 8) (v := ?_) rfl (by kernel_rfl) (by kernel_rfl) (by kernel_rfl) (fun _ _ _ h => h) (Or.inl ⟨by rfl, ?_⟩) hHeld ?_
        rotate_left
        · intro w hSw
          try dsimp only at hSw
          go_simp
          try with_reducible rfl
        try simp only [Act.put, List.setIfInBounds_toArray, List.set_cons_zero, List.set_cons_succ]
        refine wpAnyH_take (i := 9) (v := ?_) rfl (by kernel_rfl) (by kernel_rfl) (by kernel_rfl) (fun _ _ _ h => h) (Or.inl ⟨by rfl, ?_⟩) hHeld ?_
        rotate_left
        · intro w hSw
          try dsimp only at hSw
          go_simp
          try with_reducible rfl
        try simp only [Act.put, List.setIfInBounds_toArray, List.set_cons_zero, List.set_cons_succ]
        refine wpAnyH_take (i := 10) (v := ?_) rfl (by kernel_rfl) (by kernel_rfl) (by kernel_rfl) (fun _ _ _ h => h) (Or.inl ⟨by rfl, ?_⟩) hHeld ?_
        rotate_left
        · intro w hSw
          try dsimp only at hSw
          go_simp
          try with_reducible rfl
        try simp only [Act.put, List.setIfInBounds_toArray, List.set_cons_zero, List.set_cons_succ]
        refine wpAnyH_take (i := 11) (v := ?_) rfl (by kernel_rfl) (by kernel_rfl) (by kernel_rfl) (fun _ _ _ h => h) (Or.inl ⟨by rfl, ?_⟩) hHeld ?_
        rotate_left
        · intro w hSw
          try dsimp only at hSw
          go_simp
          try with_reducible rfl
        try simp only [Act.put, List.setIfInBounds_toArray, List.set_cons_zero, List.set_cons_succ]
        refine wpAnyH_take (i := 12) (v := ?_) rfl (by kernel_rfl) (by kernel_rfl) (by kernel_rfl) (fun _ _ _ h => h) (Or.inl ⟨by rfl, ?_⟩) hHeld ?_
        rotate_left
        · intro w hSw
          try dsimp only at hSw
          go_simp
          try with_reducible rfl
        try simp only [Act.put, List.setIfInBounds_toArray, List.set_cons_zero, List.set_cons_succ]
        refine wpAnyH_take (i := 13) (v := ?_) rfl (by kernel_rfl) (by kernel_rfl) (by kernel_rfl) (fun _ _ _ h => h) (Or.inl ⟨by rfl, ?_⟩) hHeld ?_
        rotate_left
        · intro w hSw
          try dsimp only at hSw
          go_simp
          try with_reducible rfl
        try simp only [Act.put, List.setIfInBounds_toArray, List.set_cons_zero, List.set_cons_succ]
        refine wpAnyH_take (i := 14) (v := ?_) rfl (by kernel_rfl) (by kernel_rfl) (by kernel_rfl) (fun _ _ _ h => h) (Or.inl ⟨by rfl, ?_⟩) hHeld ?_
        rotate_left
        · intro w hSw
          try dsimp only at hSw
          go_simp
          try with_reducible rfl
        try simp only [Act.put, List.setIfInBounds_toArray, List.set_cons_zero, List.set_cons_succ]
        refine wpAnyH_take (i := 15) (v := ?_) rfl (by kernel_rfl) (by kernel_rfl) (by kernel_rfl) (fun _ _ _ h => h) (Or.inl ⟨by rfl, ?_⟩) hHeld ?_
        rotate_left
        · intro w hSw
          try dsimp only at hSw
          go_simp
          try with_reducible rfl
        try simp only [Act.put, List.setIfInBounds_toArray, List.set_cons_zero, List.set_cons_succ]
        refine wpAnyH_take (i := 16) (v := ?_) rfl (by kernel_rfl) (by kernel_rfl) (by kernel_rfl) (fun _ _ _ h => h) (Or.inl ⟨by rfl, ?_⟩) hHeld ?_
        rotate_left
        · intro w hSw
          try dsimp only at hSw
          go_simp
          try with_reducible rfl
        try simp only [Act.put, List.setIfInBounds_toArray, List.set_cons_zero, List.set_cons_succ]
        refine wpAnyH_take (i := 17) (v := .bool false) rfl (by kernel_rfl) (by kernel_rfl) (by kernel_rfl) (fun _ _ _ h => h) (Or.inl ⟨by rfl, ?_⟩) hHeld ?_
        · intro w hSw
          try dsimp only at hSw
          go_simp
          try with_reducible rfl
        try simp only [Act.put, List.setIfInBounds_toArray, List.set_cons_zero, List.set_cons_succ]
        refine wpAnyH_take (i := 18) (v := .bool false) rfl (by kernel_rfl) (by kernel_rfl) (by kernel_rfl) (fun _ _ _ h => h) (Or.inl ⟨by rfl, ?_⟩) hHeld ?_
        · intro w hSw
          try dsimp only at hSw
          go_simp
          try with_reducible rfl
        try simp only [Act.put, List.setIfInBounds_toArray, List.set_cons_zero, List.set_cons_succ]
        refine wpAnyH_take (i := 19) (v := undef) rfl (by kernel_rfl) (by kernel_rfl) (by kernel_rfl) (fun _ _ _ h => h) (Or.inr ⟨by kernel_rfl, rfl⟩) hHeld ?_
        try simp only [Act.put, List.setIfInBounds_toArray, List.set_cons_zero, List.set_cons_succ]
        refine wpAnyH_take (i := 20) (v := undef) rfl (by kernel_rfl) (by kernel_rfl) (by kernel_rfl) (fun _ _ _ h => h) (Or.inr ⟨by kernel_rfl, rfl⟩) hHeld ?_
        try simp only [Act.put, List.setIfInBounds_toArray, List.set_cons_zero, List.set_cons_succ]
        refine wpAnyH_take (i := 21) (v := undef) rfl (by kernel_rfl) (by kernel_rfl) (by kernel_rfl) (fun _ _ _ h => h) (Or.inr ⟨by kernel_rfl, rfl⟩) hHeld ?_
        try simp only [Act.put, List.setIfInBounds_toArray, List.set_cons_zero, List.set_cons_succ]
        refine wpAnyH_take (i := 22) (v := undef) rfl (by kernel_rfl) (by kernel_rfl) (by kernel_rfl) (fun _ _ _ h => h) (Or.inr ⟨by kernel_rfl, rfl⟩) hHeld ?_
        try simp only [Act.put, List.setIfInBounds_toArray, List.set_cons_zero, List.set_cons_succ]
        refine wpAnyH_take (i := 23) (v := undef) rfl (by kernel_rfl) (by kernel_rfl) (by kernel_rfl) (fun _ _ _ h => h) (Or.inr ⟨by kernel_rfl, rfl⟩) hHeld ?_
        try simp only [Act.put, List.setIfInBounds_toArray, List.set_cons_zero, List.set_cons_succ]
        refine wpAnyH_take (i := 24) (v := undef) rfl (by kernel_rfl) (by kernel_rfl) (by kernel_rfl) (fun _ _ _ h => h) (Or.inr ⟨by kernel_rfl, rfl⟩) hHeld ?_
        try simp only [Act.put, List.setIfInBounds_toArray, List.set_cons_zero, List.set_cons_succ]
        refine wpAnyH_take (i := 25) (v := ?_) rfl (by kernel_rfl) (by kernel_rfl) (by kernel_rfl) (fun _ _ _ h => h) (Or.inl ⟨by rfl, ?_⟩) hHeld ?_
        rotate_left
        · intro w hSw
          try dsimp only at hSw
          go_simp
          try with_reducible rfl
        try simp only [Act.put, List.setIfInBounds_toArray, List.set_cons_zero, List.set_cons_succ]
        refine wpAnyH_ready (rs := [26, 30]) (by kernel_rfl) (by simp) ?_
        refine AllReadyH.cons rfl (fun K hK => ?_) (AllReadyH.cons rfl (fun K hK => ?_) AllReadyH.nil)
        · go_simp
          go_at_call 11
          refine (HX.out _ ?_ ?_).mono ?_
          with_reducible assumption
          with_reducible exact pb_zero W4
          rintro en w' ⟨rfl, hS2, hB⟩
          have hS3 := hS2.1
          have hx1 : ¬ g = w'.heap.size := (by have := hS2.2.size; omega)
          have hx2 : ¬ w'.heap.size = g := (by omega)
          try go_wp2_with fail
          refine hK.out _ _ ?_ (fun hHeld => ?_)
          · exact hS3
          clear hK K
          try simp only [Act.put, List.setIfInBounds_toArray, List.set_cons_zero, List.set_cons_succ]
          refine wpAnyH_take (i := 27) (v := ?_) rfl (by kernel_rfl) (by kernel_rfl) (by kernel_rfl) (fun _ _ _ h => h) (Or.inl ⟨by rfl, ?_⟩) hHeld ?_
          rotate_left
          · intro w hSw
            try dsimp only at hSw
            go_simp
            try with_reducible rfl
          try simp only [Act.put, List.setIfInBounds_toArray, List.set_cons_zero, List.set_cons_succ]
          refine wpAnyH_take (i := 28) (v := ?_) rfl (by kernel_rfl) (by kernel_rfl) (by kernel_rfl) (fun _ _ _ h => h) (Or.inl ⟨by rfl, ?_⟩) hHeld ?_
          rotate_left
          · intro w hSw
            try dsimp only at hSw
            go_simp
            try with_reducible rfl
          try simp only [Act.put, List.setIfInBounds_toArray, List.set_cons_zero, List.set_cons_succ]
          refine wpAnyH_take (i := 29) (v := ?_) rfl (by kernel_rfl) (by kernel_rfl) (by kernel_rfl) (fun _ _ _ h => h) (Or.inl ⟨by rfl, ?_⟩) hHeld ?_
          rotate_left
          · intro w hSw
            try dsimp only at hSw
            go_simp
            try with_reducible rfl
          try simp only [Act.put, List.setIfInBounds_toArray, List.set_cons_zero, List.set_cons_succ]
          refine wpAnyH_ready (rs := [30]) (by kernel_rfl) (by simp) ?_
          refine AllReadyH.cons rfl (fun K hK => ?_) AllReadyH.nil
          go_simp
          refine hK.out _ _ ?_ (fun hHeld => ?_)
          · go_keep
          clear hK K
          try simp only [Act.put, List.setIfInBounds_toArray, List.set_cons_zero, List.set_cons_succ]
          refine wpAnyH_ready (rs := [31]) (by kernel_rfl) (by simp) ?_
          refine AllReadyH.cons rfl (fun K hK => ?_) AllReadyH.nil
          go_simp
          refine hK.out _ _ ?_ (fun hHeld => ?_)
          · go_keep
          clear hK K
          try simp only [Act.put, List.setIfInBounds_toArray, List.set_cons_zero, List.set_cons_succ]
          refine wpAnyH_take (i := 32) (v := ?_) rfl (by kernel_rfl) (by kernel_rfl) (by kernel_rfl) (fun _ _ _ h => h) (Or.inl ⟨by rfl, ?_⟩) hHeld ?_
          rotate_left
          · intro w hSw
            try dsimp only at hSw
            go_simp
            try with_reducible rfl
          try simp only [Act.put, List.setIfInBounds_toArray, List.set_cons_zero, List.set_cons_succ]
          refine wpAnyH_done (by kernel_rfl) ?_ _
          refine NoPanic.normal ?_
          have hh8 := heap_alloc_new w' (.cells #[.int .i64 kd, .int .i64 0, .int .i64 ((e - f : Nat) : Int), .int .i64 n0, .string str, .bool false, .bool o] 33)
          have hb5 : Below W4.heap.size W4 (w'.alloc (.cells #[.int .i64 kd, .int .i64 0, .int .i64 ((e - f : Nat) : Int), .int .i64 n0, .string str, .bool false, .bool o] 33)) := hS2.2.alloc hS2.2.size _
          have hlo : W4.heap.size ≤ w'.heap.size := hS2.2.size
          obtain ⟨W5, hW5⟩ : ∃ W5, W5 = w'.alloc (.cells #[.int .i64 kd, .int .i64 0, .int .i64 ((e - f : Nat) : Int), .int .i64 n0, .string str, .bool false, .bool o] 33) := ⟨_, rfl⟩
          obtain ⟨b8, hb8⟩ : ∃ b8, b8 = w'.heap.size := ⟨_, rfl⟩
          rw [← hW5, ← hb8] at hh8
          rw [← hW5] at hb5
          rw [← hb8] at hlo
          rw [← hW5, ← hb8]
          clear hW5 hb8 hS2 hS3 hB hx1 hx2
          clear c0 c1 c2 c3 c4 c5 c6 hne1 hne2
          have hn1 : ¬ g = b8 := by omega
          have hn2 : ¬ b8 = g := by omega
          obtain ⟨c0, c1, c2, c3, c4, c5, c6⟩ := s_of hb5 hg4 HC4.out
          obtain ⟨⟨r0, r1, r2, r3, r4, r5, r6⟩, ⟨y0, y1, y2, y3, y4, y5, y6⟩, _⟩ := t_seven hh8
          have HH8 := Lib.hid hh8
          have HB5 := Lib.hid hb5
          clear hh8 hb5
          go_upto_region 14 with fail
          have hh9 := t_one 1 (.int .i64 (f : Int)) HH8.out
          simp only [List.setIfInBounds_toArray, List.set_cons_zero, List.set_cons_succ] at hh9
          have hb9 := t_set 1 (.int .i64 (f : Int)) HB5.out hlo
          generalize W5.setCell ⟨b8, 1, none⟩ (.int .i64 (f : Int)) = W6 at hh9 hb9 ⊢
          clear r0 r1 r2 r3 r4 r5 r6 y0 y1 y2 y3 y4 y5 y6 c0 c1 c2 c3 c4 c5 c6 HH8 HB5
          obtain ⟨c0, c1, c2, c3, c4, c5, c6⟩ := s_of hb9 hg4 HC4.out
          obtain ⟨⟨r0, r1, r2, r3, r4, r5, r6⟩, ⟨y0, y1, y2, y3, y4, y5, y6⟩, _⟩ := t_seven hh9
          have HH9 := Lib.hid hh9
          have HB9 := Lib.hid hb9
          clear hh9 hb9
          have gw2 : IntKind.i64.wrap (((e - f : Nat) : Int) + (f : Int)) = (e : Int) := by rw [IntWalk.i64_in _ (by omega)]; omega
          go_region
          go_upto_region 16 with fail
          have hh7 := t_one 5 (.bool l) (t_one 2 (.int .i64 (e : Int)) HH9.out)
          simp only [List.setIfInBounds_toArray, List.set_cons_zero, List.set_cons_succ] at hh7
          have hb7 := t_set 5 (.bool l) (t_set 2 (.int .i64 (e : Int)) HB9.out hlo) hlo
          have hh8 : ((W6.setCell ⟨b8, 2, none⟩ (.int .i64 (e : Int))).setCell ⟨b8, 5, none⟩ (.bool l)).drew.heap[b8]? = _ := hh7
          have hb8 : Below W4.heap.size W4 ((W6.setCell ⟨b8, 2, none⟩ (.int .i64 (e : Int))).setCell ⟨b8, 5, none⟩ (.bool l)).drew := hb7.drew
          generalize ((W6.setCell ⟨b8, 2, none⟩ (.int .i64 (e : Int))).setCell ⟨b8, 5, none⟩ (.bool l)).drew = W7 at hh8 hb8 ⊢
          clear r0 r1 r2 r3 r4 r5 r6 y0 y1 y2 y3 y4 y5 y6 c0 c1 c2 c3 c4 c5 c6 HH9 HB9 hh7 hb7
          obtain ⟨c0, c1, c2, c3, c4, c5, c6⟩ := s_of hb8 hg4 HC4.out
          obtain ⟨⟨r0, r1, r2, r3, r4, r5, r6⟩, _, _⟩ := t_seven hh8
          have HB8 := Lib.hid hb8
          clear hh8 hb8 hn1 hn2
          go_wp2
          go_quiet (fail)
          go_wp2
          go_roundw
          case rel => exact ⟨k + 1, e, by omega, by go_num, rfl, fun hk0 => by omega, fun j u hj hu => (by
            have : j = k := by omega
            subst this
            have h9 := HTK.out.symm.trans hu
            cases h9
            rfl), t_thr HB4.out (HB8.out.trans (a_draws2 _ _ _)) HB4.out.size⟩
          case measure => simp [intOf]; omega
        · go_simp
          refine hK.out _ _ ?_ (fun hHeld => ?_)
          · go_keep
          clear hK K
          try simp only [Act.put, List.setIfInBounds_toArray, List.set_cons_zero, List.set_cons_succ]
          refine wpAnyH_ready (rs := [26]) (by kernel_rfl) (by simp) ?_
          refine AllReadyH.cons rfl (fun K hK => ?_) AllReadyH.nil
          go_simp
          go_at_call 11
          refine (HX.out _ ?_ ?_).mono ?_
          with_reducible assumption
          with_reducible exact pb_first W4 _
          rintro en w' ⟨rfl, hS2, hB⟩
          have hS3 := hS2.1
          obtain ⟨⟨z0, z1, z2, z3, z4, z5, z6⟩, ⟨y0, y1, y2, y3, y4, y5, y6⟩, _⟩ := t_seven (nx_kept (W := W4) hB)
          try go_wp2_with fail
          refine hK.out _ _ ?_ (fun hHeld => ?_)
          · exact hS3
          clear hK K
          try simp only [Act.put, List.setIfInBounds_toArray, List.set_cons_zero, List.set_cons_succ]
          refine wpAnyH_take (i := 27) (v := ?_) rfl (by kernel_rfl) (by kernel_rfl) (by kernel_rfl) (fun _ _ _ h => h) (Or.inl ⟨by rfl, ?_⟩) hHeld ?_
          rotate_left
          · intro w hSw
            try dsimp only at hSw
            go_simp
            try with_reducible rfl
          try simp only [Act.put, List.setIfInBounds_toArray, List.set_cons_zero, List.set_cons_succ]
          refine wpAnyH_take (i := 28) (v := ?_) rfl (by kernel_rfl) (by kernel_rfl) (by kernel_rfl) (fun _ _ _ h => h) (Or.inl ⟨by rfl, ?_⟩) hHeld ?_
          rotate_left
          · intro w hSw
            try dsimp only at hSw
            go_simp
            try with_reducible rfl
          try simp only [Act.put, List.setIfInBounds_toArray, List.set_cons_zero, List.set_cons_succ]
          refine wpAnyH_take (i := 29) (v := ?_) rfl (by kernel_rfl) (by kernel_rfl) (by kernel_rfl) (fun _ _ _ h => h) (Or.inl ⟨by rfl, ?_⟩) hHeld ?_
          rotate_left
          · intro w hSw
            try dsimp only at hSw
            go_simp
            try with_reducible rfl
          try simp only [Act.put, List.setIfInBounds_toArray, List.set_cons_zero, List.set_cons_succ]
          refine wpAnyH_ready (rs := [31]) (by kernel_rfl) (by simp) ?_
          refine AllReadyH.cons rfl (fun K hK => ?_) AllReadyH.nil
          go_simp
          refine hK.out _ _ ?_ (fun hHeld => ?_)
          · go_keep
          clear hK K
          try simp only [Act.put, List.setIfInBounds_toArray, List.set_cons_zero, List.set_cons_succ]
          refine wpAnyH_take (i := 32) (v := ?_) rfl (by kernel_rfl) (by kernel_rfl) (by kernel_rfl) (fun _ _ _ h => h) (Or.inl ⟨by rfl, ?_⟩) hHeld ?_
          rotate_left
          · intro w hSw
            try dsimp only at hSw
            go_simp
            try with_reducible rfl
          try simp only [Act.put, List.setIfInBounds_toArray, List.set_cons_zero, List.set_cons_succ]
          refine wpAnyH_done (by kernel_rfl) ?_ _
          refine NoPanic.normal ?_
          have hh8 := t_set7 (y0 := .int .i64 kd) (y1 := .int .i64 0) (y2 := .int .i64 ((e - f : Nat) : Int)) (y3 := .int .i64 n0) (y4 := .string str) (y5 := .bool false) (y6 := .bool o) (nx_kept (W := W4) hB)
          have hb5 := t_st7 (x0 := .int .i64 kd) (x1 := .int .i64 0) (x2 := .int .i64 ((e - f : Nat) : Int)) (x3 := .int .i64 n0) (x4 := .string str) (x5 := .bool false) (x6 := .bool o) hS2.2 (Nat.le_refl W4.heap.size)
          have hlo : W4.heap.size ≤ W4.heap.size := Nat.le_refl _
          generalize (((((((w'.setCell ⟨W4.heap.size, 0, none⟩ (.int .i64 kd)).setCell ⟨W4.heap.size, 1, none⟩ (.int .i64 0)).setCell ⟨W4.heap.size, 2, none⟩ (.int .i64 ((e - f : Nat) : Int))).setCell ⟨W4.heap.size, 3, none⟩ (.int .i64 n0)).setCell ⟨W4.heap.size, 4, none⟩ (.string str)).setCell ⟨W4.heap.size, 5, none⟩ (.bool false)).setCell ⟨W4.heap.size, 6, none⟩ (.bool o)) = W5 at hh8 hb5 ⊢
          obtain ⟨b8, hb8⟩ : ∃ b8, b8 = W4.heap.size := ⟨_, rfl⟩
          rw [← hb8] at hh8
          rw [← hb8]
          replace hlo : W4.heap.size ≤ b8 := by omega
          clear hb8 hS2 hS3 hB z0 z1 z2 z3 z4 z5 z6 y0 y1 y2 y3 y4 y5 y6
          clear c0 c1 c2 c3 c4 c5 c6 hne1 hne2
          have hn1 : ¬ g = b8 := by omega
          have hn2 : ¬ b8 = g := by omega
          obtain ⟨c0, c1, c2, c3, c4, c5, c6⟩ := s_of hb5 hg4 HC4.out
          obtain ⟨⟨r0, r1, r2, r3, r4, r5, r6⟩, ⟨y0, y1, y2, y3, y4, y5, y6⟩, _⟩ := t_seven hh8
          have HH8 := Lib.hid hh8
          have HB5 := Lib.hid hb5
          clear hh8 hb5
          go_upto_region 14 with fail
          have hh9 := t_one 1 (.int .i64 (f : Int)) HH8.out
          simp only [List.setIfInBounds_toArray, List.set_cons_zero, List.set_cons_succ] at hh9
          have hb9 := t_set 1 (.int .i64 (f : Int)) HB5.out hlo
          generalize W5.setCell ⟨b8, 1, none⟩ (.int .i64 (f : Int)) = W6 at hh9 hb9 ⊢
          clear r0 r1 r2 r3 r4 r5 r6 y0 y1 y2 y3 y4 y5 y6 c0 c1 c2 c3 c4 c5 c6 HH8 HB5
          obtain ⟨c0, c1, c2, c3, c4, c5, c6⟩ := s_of hb9 hg4 HC4.out
          obtain ⟨⟨r0, r1, r2, r3, r4, r5, r6⟩, ⟨y0, y1, y2, y3, y4, y5, y6⟩, _⟩ := t_seven hh9
          have HH9 := Lib.hid hh9
          have HB9 := Lib.hid hb9
          clear hh9 hb9
          have gw2 : IntKind.i64.wrap (((e - f : Nat) : Int) + (f : Int)) = (e : Int) := by rw [IntWalk.i64_in _ (by omega)]; omega
          go_region
          go_upto_region 16 with fail
          have hh7 := t_one 5 (.bool l) (t_one 2 (.int .i64 (e : Int)) HH9.out)
          simp only [List.setIfInBounds_toArray, List.set_cons_zero, List.set_cons_succ] at hh7
          have hb7 := t_set 5 (.bool l) (t_set 2 (.int .i64 (e : Int)) HB9.out hlo) hlo
          have hh8 : ((W6.setCell ⟨b8, 2, none⟩ (.int .i64 (e : Int))).setCell ⟨b8, 5, none⟩ (.bool l)).drew.heap[b8]? = _ := hh7
          have hb8 : Below W4.heap.size W4 ((W6.setCell ⟨b8, 2, none⟩ (.int .i64 (e : Int))).setCell ⟨b8, 5, none⟩ (.bool l)).drew := hb7.drew
          generalize ((W6.setCell ⟨b8, 2, none⟩ (.int .i64 (e : Int))).setCell ⟨b8, 5, none⟩ (.bool l)).drew = W7 at hh8 hb8 ⊢
          clear r0 r1 r2 r3 r4 r5 r6 y0 y1 y2 y3 y4 y5 y6 c0 c1 c2 c3 c4 c5 c6 HH9 HB9 hh7 hb7
          obtain ⟨c0, c1, c2, c3, c4, c5, c6⟩ := s_of hb8 hg4 HC4.out
          obtain ⟨⟨r0, r1, r2, r3, r4, r5, r6⟩, _, _⟩ := t_seven hh8
          have HB8 := Lib.hid hb8
          clear hh8 hb8 hn1 hn2
          go_wp2
          go_quiet (fail)
          go_wp2
          go_roundw
          case rel => exact ⟨k + 1, e, by omega, by go_num, rfl, fun hk0 => by omega, fun j u hj hu => (by
            have : j = k := by omega
            subst this
            have h9 := HTK.out.symm.trans hu
            cases h9
            rfl), t_thr HB4.out (HB8.out.trans (a_draws2 _ _ _)) HB4.out.size⟩
          case measure => simp [intOf]; omega
    · have hke : k = n := by omega
      have hps : p = s.size := by
        obtain ⟨j, hj2⟩ : ∃ j, n = j + 1 := ⟨n - 1, by omega⟩
        have hlj : L.length = j + 1 := by rw [← HN.out]; exact hj2
        have hu : L[j]? = some (L[j]'(by omega)) := List.getElem?_eq_getElem _
        have h1 := hj j _ (by omega) hu
        have h2 := chain_last HC.out j _ hlj hu
        omega
      subst hps
      have g3 : decide ((k : Int) < (n : Int)) = false := by simpa using hlt
      have g4 : decide ((0 : Int) < (n : Int)) = true := decide_eq_true (by omega)
      have g5 : decide (0 < n) = true := decide_eq_true (by omega)
      have HBF := Lib.hid (t_thr HB1.out hBr HB1.out.size)
      clear hj h0 hke hBr HNX HGP
      go_wp2_with fail
      refine (HG.out _ HBF.out).mono ?_
      rintro en w9 ⟨rfl, hB⟩
      have HB9 := Lib.hid (t_thr HBF.out hB HBF.out.size)
      clear hB HBF HG
      go_wp2
      go_ret
      exact ⟨rfl, HB9.out⟩
theorem allV_err (s : ByteArray) : ∀ (n : Nat) (p : Int) (st : List Int) (acc : List NT) (L : List NT) (x y : Int), allV s n p st acc = some (L, x, y) → ¬ y = 0 → L = [] := by
  intro n
  induction n with
  | zero => intro p st acc L x y h; simp [allV] at h
  | succ n ih =>
    intro p st acc L x y h hy
    unfold allV at h
    split at h
    · split at h
      · simp only [Option.some.injEq, Prod.mk.injEq] at h
        exact absurd h.2.2.symm hy
      · split at h
        · cases h
        · exact ih _ _ _ _ _ _ h hy
    · simp only [Option.some.injEq, Prod.mk.injEq] at h
      exact h.1.symm
theorem allV_many (s : ByteArray) : ∀ (n : Nat) (p : Int) (st : List Int) (acc : List NT) (R : List NT × Int × Int), allV s n p st acc = some R → R.1.length ≤ acc.length + n := by
  intro n
  induction n with
  | zero => intro p st acc R h; simp [allV] at h
  | succ n ih =>
    intro p st acc R h
    unfold allV at h
    split at h
    · split at h
      · cases h; simp
      · split at h
        · cases h
        · have := ih _ _ _ _ h
          simp at this
          omega
    · cases h; simp
theorem not_any (s : ByteArray) (w : World) (ht : SgnT w) (hm : MaxL w) :
    Calls Tryd.prog 4 #[.string s] w fun e w' => e = .returned (.bool true) ∧ Below w.heap.size w w' := by
  by_cases h : s.size ≤ 3000
  · obtain ⟨R, hR⟩ := all_some s (by omega) (s.size + 1) 0 [] [] (by omega) (by omega)
    obtain ⟨L, x, y⟩ := R
    have hR' : allV s (s.size + 1) 0 [] [] = some (L, x, y) := hR
    have hlen := allV_many s _ _ _ _ _ hR'
    simp only [List.length_nil] at hlen
    by_cases hy : y = 0
    · subst hy
      exact not_walk s w h L x hR' (by omega) ht hm
    · have hL := allV_err s _ _ _ _ _ _ _ hR' hy
      subst hL
      exact not_err s w h x y hy hR' ht hm
  · exact not_big s w (by omega) ht hm
end Go.Proofs.YtjbnobcnlmkbmaaDoor
