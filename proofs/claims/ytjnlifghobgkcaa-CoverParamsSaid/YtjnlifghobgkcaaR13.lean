/-
  prop of the reference at this translation: the whole.
-/
import Derived.Test.YtjnlifghobgkcaaR12
namespace Go.Proofs.Ytjnlifghobgkcaa
open Go.RowKit

theorem two_list {l : List Tr} (h : l.length = 2) : ∃ x z, l = [x, z] := by
  match l, h with
  | [x, z], _ => exact ⟨x, z, rfl⟩
theorem pat_tgt {N : Nat} (hN : 1 ≤ N) {t : Tr} (h : patB t = true) (d : Nat) (l : Bool) : patF N t d l = .ok t := by
  obtain ⟨M, rfl⟩ : ∃ M, N = M + 1 := ⟨N - 1, by omega⟩
  unfold patF
  rw [if_pos h]
theorem tgt_pat {t : Tr} (h : tgtB t = true) : patB t = true := by unfold patB; rw [h]; rfl
theorem nm_pat (x : Tr) : patB (.mk 34 x.a 0 0 x.s []) = true := by rfl
theorem propG_pair {t x z : Tr} (h39 : t.op = 39) (h0 : t.n = 0) (hk : t.ks = [x, z]) (N d : Nat) (l : Bool) : propG (patF N) t d l = valR t.a t.m x (withinV (eleG (patF N)) z (d + 1) true) := by
  unfold propG
  rw [if_neg (by omega), if_pos ⟨h0, by rw [hk]; rfl⟩, hk, made_two]
  unfold keepV valR
  cases withinV (eleG (patF N)) z (d + 1) true <;> rfl
theorem propG_one {t x : Tr} (h39 : t.op = 39) (h3 : t.n = 3) (hk : t.ks = [x]) {N : Nat} (hN : 1 ≤ N) (d : Nat) (l : Bool) : propG (patF N) t d l = if txtB x then (if 200 < d + 1 then .error 10 else .ok (.mk 62 t.a 0 t.m noS [x, .mk 34 x.a 0 0 x.s []])) else .error 24 := by
  unfold propG
  rw [if_neg (by omega), if_neg (by omega), if_pos ⟨h3, .inl (by rw [hk]; rfl)⟩, hk]
  unfold writtenV
  rw [made_two]
  unfold onlyV
  cases hx : txtB x with
  | false => rfl
  | true =>
    rw [if_pos rfl, if_pos rfl]
    unfold withinV
    by_cases h : 200 < d + 1
    · rw [if_pos h, if_pos h]
    · rw [if_neg h, if_neg h]
      have : eleG (patF N) (.mk 34 x.a 0 0 x.s []) (d + 1) true = .ok (.mk 34 x.a 0 0 x.s []) := by
        unfold eleG
        rw [if_pos (by show ¬ (34 : Int) = 46; decide)]
        exact pat_tgt hN (nm_pat x) _ _
      rw [this]
theorem propG_two {t x z : Tr} (h39 : t.op = 39) (h3 : t.n = 3) (hk : t.ks = [x, z]) {N : Nat} (d : Nat) (l : Bool) : propG (patF N) t d l = if txtB x then (if 200 < d + 2 then .error 10 else .ok (.mk 62 t.a 0 t.m noS [x, .mk 63 x.a 0 0 noS [.mk 34 x.a 0 0 x.s [], z]])) else .error 24 := by
  unfold propG
  rw [if_neg (by omega), if_neg (by omega), if_pos ⟨h3, .inr (by rw [hk]; rfl)⟩, hk]
  unfold writtenV
  rw [made_two]
  unfold onlyV
  cases hx : txtB x with
  | false => rfl
  | true =>
    rw [if_pos rfl, if_pos rfl]
    unfold withinV
    by_cases h : 200 < d + 1
    · rw [if_pos h, if_pos (by omega)]
    · rw [if_neg h]
      have : eleG (patF N) (.mk 46 x.a 0 0 eqS [.mk 34 x.a 0 0 x.s [], z]) (d + 1) true = if 200 < d + 2 then .error 10 else .ok (.mk 63 x.a 0 0 noS [.mk 34 x.a 0 0 x.s [], z]) := by
        unfold eleG
        rw [if_neg (by show ¬ (46 : Int) ≠ 46; decide), if_pos ⟨rfl, rfl⟩]
        show madeV 63 x.a 0 [.mk 34 x.a 0 0 x.s [], z] (d + 1) (pairV (withinV (onlyV patB)) keepV) = _
        rw [made_two]
        unfold withinV onlyV keepV
        by_cases h2 : 200 < d + 2
        · rw [if_pos (show 200 < d + 1 + 1 from h2), if_pos h2]
        · rw [if_neg (show ¬ 200 < d + 1 + 1 from h2), if_neg h2, if_pos (nm_pat x)]
      rw [this]
      by_cases h2 : 200 < d + 2
      · rw [if_pos h2, if_pos h2]
      · rw [if_neg h2, if_neg h2]
theorem rprop_any {N : Nat} (hE : EleAt N) (hN : N ≤ 100000) (tl y : Tr) (lo : Option Addr) (lc i d B : Nat) (w : World) (hB : B ≤ w.heap.size) (ht : TIn w (fun b => b < B) tl (.slice lo tl.ks.length lc)) (hy : tl.ks[i]? = some y) (hyc : y.cnt ≤ N) (hlen : tl.ks.length ≤ 100000) (hd : d ≤ 900) :
    Calls Try.prog 40 #[.slice lo tl.ks.length lc, .int .i64 i, .int .i64 d] w (QPost w (Sha B w) (withinV (propG (patF N)) y d (decide (i + 1 = tl.ks.length)))) := by
  obtain ⟨bb, oo, yo, yl, yc, rfl, hbb, hbS, hcc, hyt⟩ := kidS ht hy
  obtain rfl := tin_len hyt
  have hi : i < tl.ks.length := (List.getElem?_eq_some_iff.1 hy).1
  have hks := ks_le hyc hN
  have hN1 : 1 ≤ N := Nat.le_trans (cnt_pos y) hyc
  by_cases hr : y.op = 39 ∧ y.n = 4
  · rw [rest_prop hr.1 hr.2 d _ (patF N) (fun _ ht d l => pat_tgt hN1 (tgt_pat ht) d l)]
    refine prop_rest bb oo _ lc i y yo yc d B w hB hbb hcc hyt hlen hi hd hks (by simpa using hr.1) (by simpa using hr.2) (firstT y) (Lib.hid fun W hW => first_any _ y yo yc W hks (tin_kept hyt hW)) _ (Lib.hid fun W fo fl fc hW hf => ?_)
    obtain rfl := tin_len hf
    have hz := hW.size
    exact rest_any hE bb oo _ lc i y.a (firstT y) fo fc y.ks.length d B true W (by omega) (by omega) ((hW.cell (p := ⟨bb, oo + i * 6 + 1, none⟩) hbb).trans hcc.2.1) (Nat.le_trans (first_cnt y) hyc) hf hlen hi hks hd
  by_cases h200 : 200 < d
  · have e10 : withinV (propG (patF N)) y d (decide (i + 1 = tl.ks.length)) = .error 10 := by unfold withinV; rw [if_pos h200]
    rw [e10]
    by_cases h39 : y.op = 39
    · exact prop_deep2 bb oo _ lc i y yo yc d B w hB hbb hcc hyt hlen hi hd hks (by simpa using h39) (by simpa using fun e => hr ⟨h39, e⟩) h200
    · exact prop_deep1 bb oo _ lc i y yo yc d B w hB hbb hcc hyt hlen hi hd hks (by simpa using h39) h200
  have ep : withinV (propG (patF N)) y d (decide (i + 1 = tl.ks.length)) = propG (patF N) y d (decide (i + 1 = tl.ks.length)) := by unfold withinV; rw [if_neg h200]
  rw [ep]
  clear ep
  by_cases h39 : ¬ y.op = 39
  · have e24 : propG (patF N) y d (decide (i + 1 = tl.ks.length)) = .error 24 := by unfold propG; rw [if_pos h39]
    rw [e24]
    exact prop_bad1 bb oo _ lc i y yo yc d B w hB hbb hcc hyt hlen hi hd hks (by simpa using h39) (by simpa using h39) h200
  have h39 := Decidable.not_not.1 h39
  have g39 : (y.op == 39) = true := by simpa using h39
  have g39n : (y.op != 39) = false := by simpa using h39
  have h4 : ¬ y.n = 4 := fun e => hr ⟨h39, e⟩
  have g4 : (y.n == 4) = false := by simpa using h4
  by_cases h0 : y.n = 0
  · have g0 : (y.n == 0) = true := by simpa using h0
    by_cases hl : y.ks.length = 2
    · obtain ⟨x, z, hk⟩ := two_list hl
      rw [propG_pair h39 h0 hk]
      have hx : y.ks[0]? = some x := by rw [hk]; rfl
      have hz : y.ks[1]? = some z := by rw [hk]; rfl
      obtain ⟨kb, ko, xo, xl, xc, rfl, hkb, -, hkc, hxt⟩ := kidS hyt hx
      obtain ⟨kb2, ko2, zo, zl, zc, ez, -, -, hkz, hzt⟩ := kidS hyt hz
      obtain ⟨rfl, rfl⟩ : kb = kb2 ∧ ko = ko2 := by simpa using ez
      obtain rfl := tin_len hzt
      simp only [Nat.zero_mul, Nat.add_zero, Nat.one_mul] at hkc hkz
      refine prop_pair bb oo _ lc i y kb ko yc d B w hB hbb hcc hyt hlen hi hd hks x xo xl xc hkb hkc z zo zc (by omega) hkz hxt _ (Lib.hid fun W hW => ?_) g39 g39n g4 g0 (by rw [hl]; rfl) h200
      have H := hE z zo zc (d + 1) true B W (Nat.le_trans (Nat.le_of_lt (cnt_kid hz)) hyc) (by omega) (Nat.le_trans hB hW.size) (tin_kept hzt hW)
      rw [show (((d + 1 : Nat)) : Int) = (d : Int) + 1 from by omega] at H
      exact H
    · have e24 : propG (patF N) y d (decide (i + 1 = tl.ks.length)) = .error 24 := by
        unfold propG
        rw [if_neg (by omega), if_neg (fun e => hl e.2), if_neg (by omega), if_neg (by omega)]
      rw [e24]
      exact prop_bad3 bb oo _ lc i y yo yc d B w hB hbb hcc hyt hlen hi hd hks g39 g39n g4 g0 (by simp [h0]) (by simp only [beq_eq_false_iff_ne]; omega) h200
  have g0 : (y.n == 0) = false := by simpa using h0
  by_cases h3 : ¬ y.n = 3
  · have e24 : propG (patF N) y d (decide (i + 1 = tl.ks.length)) = .error 24 := by
      unfold propG
      rw [if_neg (by omega), if_neg (by omega), if_neg (by omega), if_neg (by omega)]
    rw [e24]
    exact prop_bad2 bb oo _ lc i y yo yc d B w hB hbb hcc hyt hlen hi hd hks g39 g39n g4 g0 (by simpa using h3) h200
  have h3 := Decidable.not_not.1 h3
  have g3 : (y.n != 3) = false := by simpa using h3
  by_cases hl0 : y.ks.length < 1
  · have e24 : propG (patF N) y d (decide (i + 1 = tl.ks.length)) = .error 24 := by
      unfold propG
      rw [if_neg (by omega), if_neg (by omega), if_neg (by omega), if_neg (by omega)]
    rw [e24]
    exact prop_bad4 bb oo _ lc i y yo yc d B w hB hbb hcc hyt hlen hi hd hks g39 g39n g4 g0 g3 (decide_eq_true (by omega)) h200
  have gl : decide ((y.ks.length : Int) < 1) = false := decide_eq_false (by omega)
  by_cases hl2 : 2 < y.ks.length
  · have e24 : propG (patF N) y d (decide (i + 1 = tl.ks.length)) = .error 24 := by
      unfold propG
      rw [if_neg (by omega), if_neg (by omega), if_neg (by omega), if_neg (by omega)]
    rw [e24]
    exact prop_bad5 bb oo _ lc i y yo yc d B w hB hbb hcc hyt hlen hi hd hks g39 g39n g4 g0 g3 gl (decide_eq_true (by omega)) h200
  have gl2 : decide ((2 : Int) < (y.ks.length : Int)) = false := decide_eq_false (by omega)
  by_cases hl : y.ks.length = 2
  · obtain ⟨x, z, hk⟩ := two_list hl
    rw [propG_two h39 h3 hk]
    have hx : y.ks[0]? = some x := by rw [hk]; rfl
    have hz : y.ks[1]? = some z := by rw [hk]; rfl
    obtain ⟨kb, ko, xo, xl, xc, rfl, hkb, -, hkc, hxt⟩ := kidS hyt hx
    obtain ⟨kb2, ko2, zo, zl, zc, ez, -, -, hkz, hzt⟩ := kidS hyt hz
    obtain ⟨rfl, rfl⟩ : kb = kb2 ∧ ko = ko2 := by simpa using ez
    simp only [Nat.zero_mul, Nat.add_zero, Nat.one_mul] at hkc hkz
    cases hxx : txtB x with
    | false =>
      have gx : (x.op != 31) = true := by unfold txtB at hxx; simpa using hxx
      exact prop_key bb oo _ lc i y kb ko yc d B w hB hbb hcc hyt hlen hi hd hks x xo xl xc hkb hkc g39 g39n g4 g0 g3 gl gl2 (by omega) gx h200
    | true =>
      have gx : (x.op != 31) = false := by unfold txtB at hxx; simpa using hxx
      rw [if_pos rfl]
      by_cases h201 : 200 < d + 2
      · rw [if_pos h201]
        exact prop_twod bb oo _ lc i y kb ko yc d B w hB hbb hcc hyt hlen hi hd hks x xo xl xc hkb hkc z zo zl zc (by omega) hkz g39 g39n g4 g0 g3 gl gl2 (by omega) gx (by rw [hl]; rfl) h200 h201
      · rw [if_neg h201]
        exact prop_two bb oo _ lc i y kb ko yc d B w hB hbb hcc hyt hlen hi hd hks x xo xl xc hkb hkc z zo zl zc (by omega) hkz g39 g39n g4 g0 g3 gl gl2 (by omega) gx (by rw [hl]; rfl) h200 hxt hzt h201
  · obtain ⟨x, hk⟩ := List.length_eq_one_iff.1 (show y.ks.length = 1 by omega)
    rw [propG_one h39 h3 hk hN1]
    have hx : y.ks[0]? = some x := by rw [hk]; rfl
    obtain ⟨kb, ko, xo, xl, xc, rfl, hkb, -, hkc, hxt⟩ := kidS hyt hx
    simp only [Nat.zero_mul, Nat.add_zero] at hkc
    have gn2 : ((y.ks.length : Int) == 2) = false := by simp only [beq_eq_false_iff_ne]; omega
    cases hxx : txtB x with
    | false =>
      have gx : (x.op != 31) = true := by unfold txtB at hxx; simpa using hxx
      exact prop_key bb oo _ lc i y kb ko yc d B w hB hbb hcc hyt hlen hi hd hks x xo xl xc hkb hkc g39 g39n g4 g0 g3 gl gl2 (by omega) gx h200
    | true =>
      have gx : (x.op != 31) = false := by unfold txtB at hxx; simpa using hxx
      rw [if_pos rfl]
      by_cases h201 : 200 < d + 1
      · rw [if_pos h201]
        exact prop_oned bb oo _ lc i y kb ko yc d B w hB hbb hcc hyt hlen hi hd hks x xo xl xc hkb hkc g39 g39n g4 g0 g3 gl gl2 (by omega) gx gn2 h200 h201
      · rw [if_neg h201]
        exact prop_one bb oo _ lc i y kb ko yc d B w hB hbb hcc hyt hlen hi hd hks x xo xl xc hkb hkc g39 g39n g4 g0 g3 gl gl2 (by omega) gx gn2 h200 hxt h201
end Go.Proofs.Ytjnlifghobgkcaa
