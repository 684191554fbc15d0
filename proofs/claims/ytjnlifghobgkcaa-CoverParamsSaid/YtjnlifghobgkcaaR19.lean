/-
  element of the reference at this translation: the whole.
-/
import Derived.Test.YtjnlifghobgkcaaR17
import Derived.Test.YtjnlifghobgkcaaR18
namespace Go.Proofs.Ytjnlifghobgkcaa
open Go.RowKit

theorem pat_not46 {t : Tr} (h : patB t = true) : ¬ t.op = 46 := by
  intro e
  unfold patB tgtB memB at h
  rw [e] at h
  simp at h
theorem patF_not {N : Nat} {t : Tr} (hp : patB t = false) (d : Nat) (l : Bool) : patF (N + 1) t d l = if t.op = 37 then madeV 60 t.a 0 t.ks d (itemG (patF N)) else if t.op = 38 then madeV 61 t.a 0 t.ks d (withinV (propG (patF N))) else .error 24 := by
  show (if patB t = true then _ else _) = _
  rw [if_neg (by rw [hp]; decide)]
theorem ele_at : ∀ (N : Nat), N ≤ 100000 → EleAt N
  | 0, _ => fun x _ _ _ _ _ _ hc _ _ _ => absurd hc (by have := cnt_pos x; omega)
  | N + 1, hN => by
    have ih := ele_at N (by omega)
    intro x xo xc d may B W hc hd hB ht
    have hks := ks_le hc hN
    by_cases h200 : 200 < d
    · have e10 : withinV (if may then eleG (patF (N + 1)) else patF (N + 1)) x d true = .error 10 := by unfold withinV; rw [if_pos h200]
      rw [e10]
      exact elem_deep x xo xc d B W hB ht hks hd may h200
    have e0 : withinV (if may then eleG (patF (N + 1)) else patF (N + 1)) x d true = (if may then eleG (patF (N + 1)) else patF (N + 1)) x d true := by unfold withinV; rw [if_neg h200]
    rw [e0]
    clear e0
    by_cases hp : patB x = true
    · have e1 : (if may then eleG (patF (N + 1)) else patF (N + 1)) x d true = .ok x := by
        cases may with
        | false => exact pat_tgt (by omega) hp d true
        | true =>
          show eleG (patF (N + 1)) x d true = _
          unfold eleG
          rw [if_pos (pat_not46 hp)]
          exact pat_tgt (by omega) hp d true
      rw [e1]
      exact elem_pat x xo xc d B W hB ht hks hd may h200 hp
    have hp : patB x = false := by simpa using hp
    by_cases h46 : x.op = 46
    · have g46 : (x.op == 46) = true := by simpa using h46
      have g37 : (x.op != 37) = true := by rw [h46]; rfl
      have g38 : (x.op != 38) = true := by rw [h46]; rfl
      cases may with
      | false =>
        have e1 : (if false = true then eleG (patF (N + 1)) else patF (N + 1)) x d true = .error 24 := by
          show patF (N + 1) x d true = _
          rw [patF_not hp, if_neg (by omega), if_neg (by omega)]
        rw [e1]
        exact elem_bad2 x xo xc d B W hB ht hks hd g46 g37 g38 h200 hp
      | true =>
        have e1 : (if true = true then eleG (patF (N + 1)) else patF (N + 1)) x d true = if x.s = eqS ∧ x.ks.length = 2 then madeV 63 x.a 0 x.ks d (pairV (withinV (onlyV patB)) keepV) else .error 24 := by
          show eleG (patF (N + 1)) x d true = _
          unfold eleG
          rw [if_neg (fun h => h h46)]
        rw [e1]
        by_cases hs : x.s = eqS
        · have gs : x.s.toList = [61] := by rw [hs]; simp [eqS, ByteArray.toList_eq]
          by_cases hl : x.ks.length = 2
          · rw [if_pos ⟨hs, hl⟩]
            obtain ⟨p, z, hk⟩ := two_list hl
            have hx0 : x.ks[0]? = some p := by rw [hk]; rfl
            have hz0 : x.ks[1]? = some z := by rw [hk]; rfl
            obtain ⟨kb, ko, po, pl, pc, rfl, hkb, -, hkc, hpt⟩ := kidS ht hx0
            obtain ⟨kb2, ko2, zo, zl, zc, ez, -, -, hkz, hzt⟩ := kidS ht hz0
            obtain ⟨rfl, rfl⟩ : kb = kb2 ∧ ko = ko2 := by simpa using ez
            obtain rfl := tin_len hpt
            simp only [Nat.zero_mul, Nat.add_zero, Nat.one_mul] at hkc hkz
            have e2 : madeV 63 x.a 0 x.ks d (pairV (withinV (onlyV patB)) keepV) = if 200 < d + 1 then .error 10 else if patB p = true then .ok (.mk 63 x.a 0 0 noS [p, z]) else .error 24 := by
              rw [hk, made_two]
              unfold withinV onlyV keepV
              by_cases h2 : 200 < d + 1
              · rw [if_pos h2, if_pos h2]
              · rw [if_neg h2, if_neg h2]
                cases patB p <;> rfl
            rw [e2]
            by_cases h201 : 200 < d + 1
            · rw [if_pos h201]
              exact elem_adeep x kb ko xc d B W hB ht hks hd p po pc hkb hkc hl g46 gs h200 hp h201
            rw [if_neg h201]
            cases hpp : patB p with
            | false =>
              rw [if_neg (by decide)]
              exact elem_atgt x kb ko xc d B W hB ht hks hd p po pc hkb hkc hl g46 gs h200 hp h201 hpp
            | true =>
              rw [if_pos rfl]
              exact elem_asg x kb ko xc d B W hB ht hks hd p po pc hkb hkc hl g46 gs h200 hp h201 hpp z zo zl zc hkz hpt hzt
          · rw [if_neg (fun e => hl e.2)]
            exact elem_bad4 x xo xc d B W hB ht hks hd g46 gs (by simp only [beq_eq_false_iff_ne]; omega) g37 g38 h200 hp
        · rw [if_neg (fun e => hs e.1)]
          exact elem_bad3 x xo xc d B W hB ht hks hd g46 (fun h => hs (ba_ext (h.trans (by simp [eqS, ByteArray.toList_eq])))) g37 g38 h200 hp
    have g46 : (x.op == 46) = false := by simpa using h46
    have e1 : (if may then eleG (patF (N + 1)) else patF (N + 1)) x d true = if x.op = 37 then madeV 60 x.a 0 x.ks d (itemG (patF N)) else if x.op = 38 then madeV 61 x.a 0 x.ks d (withinV (propG (patF N))) else .error 24 := by
      rw [← patF_not hp d true]
      cases may with
      | false => rfl
      | true =>
        show eleG (patF (N + 1)) x d true = _
        unfold eleG
        rw [if_pos h46]
    rw [e1]
    clear e1
    by_cases h37 : x.op = 37
    · rw [if_pos h37]
      refine elem_arr x xo xc d B W hB ht hks hd may g46 (by simpa using h37) (by simpa using h37) (by rw [h37]; rfl) _ (Lib.hid fun k z W2 hz hW => ?_) h200 hp
      have H := array_any ih (by omega) x z xo xc k (d + 1) B W2 (Nat.le_trans hB hW.size) (tin_kept ht hW) hz (by have := cnt_kid hz; omega) hks (by omega)
      rw [show (((d + 1 : Nat)) : Int) = (d : Int) + 1 from by omega] at H
      exact H
    rw [if_neg h37]
    by_cases h38 : x.op = 38
    · rw [if_pos h38]
      refine elem_obj x xo xc d B W hB ht hks hd may g46 (by rw [h38]; rfl) (by rw [h38]; rfl) (by simpa using h38) (by simpa using h38) _ (Lib.hid fun k z W2 hz hW => ?_) h200 hp
      have H := rprop_any ih (by omega) x z xo xc k (d + 1) B W2 (Nat.le_trans hB hW.size) (tin_kept ht hW) hz (by have := cnt_kid hz; omega) hks (by omega)
      rw [show (((d + 1 : Nat)) : Int) = (d : Int) + 1 from by omega] at H
      exact H
    rw [if_neg h38]
    exact elem_bad1 x xo xc d B W hB ht hks hd may g46 (by simpa using h37) (by simpa using h38) h200 hp
end Go.Proofs.Ytjnlifghobgkcaa
