/-
  The law CoverDeep at this translation: true, whatever the number.
-/
import Derived.Test.YtjnlifghobgkcaaC16
namespace Go.Proofs.Ytjnlifghobgkcaa
open Go.RowKit

def chainT : Nat → Tr
  | 0 => aT
  | k + 1 => .mk 37 0 0 0 noS [chainT k]
def chainP : Nat → Tr
  | 0 => aT
  | k + 1 => .mk 60 0 0 0 noS [chainP k]
theorem chain_cnt (k : Nat) : (chainT k).cnt = k + 1 := by
  induction k with
  | zero => rfl
  | succ k ih => simp only [chainT, Tr.cnt, cntL, ih]; omega
theorem chainP_cnt (k : Nat) : (chainP k).cnt = k + 1 := by
  induction k with
  | zero => rfl
  | succ k ih => simp only [chainP, Tr.cnt, cntL, ih]; omega
theorem chain_op (k : Nat) : (chainT k).op ≠ 40 ∧ (chainT k).op ≠ 41 ∧ (chainT k).op ≠ 46 := by
  cases k with
  | zero => decide
  | succ k => exact ⟨by show (37 : Int) ≠ 40; decide, by show (37 : Int) ≠ 41; decide, by show (37 : Int) ≠ 46; decide⟩
theorem chain_pat : ∀ (k f d : Nat) (l : Bool), k + 1 ≤ f → d ≤ 200 → patF f (chainT k) d l = if d + k ≤ 200 then .ok (chainP k) else .error 10 := by
  intro k
  induction k with
  | zero =>
    intro f d l hf hd
    obtain ⟨f, rfl⟩ : ∃ g, f = g + 1 := ⟨f - 1, by omega⟩
    rw [if_pos (by omega)]
    unfold patF
    rw [show patB (chainT 0) = true from rfl]
    rfl
  | succ k ih =>
    intro f d l hf hd
    obtain ⟨f, rfl⟩ : ∃ g, f = g + 1 := ⟨f - 1, by omega⟩
    unfold patF
    rw [show patB (chainT (k + 1)) = false from rfl]
    simp only [Bool.false_eq_true, if_false]
    rw [if_pos (show (chainT (k + 1)).op = 37 from rfl)]
    obtain ⟨n0, n1, n2⟩ := chain_op k
    have hm : madeL (itemG (patF f)) (d + 1) [chainT k] = if d + (k + 1) ≤ 200 then .ok [chainP k] else .error 10 := by
      unfold madeL
      have hi : itemG (patF f) (chainT k) (d + 1) true = if d + (k + 1) ≤ 200 then .ok (chainP k) else .error 10 := by
        unfold itemG
        rw [if_neg n0]
        unfold withinV
        by_cases h : 200 < d + 1
        · rw [if_pos h, if_neg (by omega)]
        · rw [if_neg h]
          unfold lisG
          rw [if_pos n1]
          unfold eleG
          rw [if_pos n2, ih f (d + 1) true (by omega) (by omega)]
          have e : d + 1 + k = d + (k + 1) := by omega
          rw [e]
      rw [show ([] : List Tr).isEmpty = true from rfl, hi]
      by_cases h : d + (k + 1) ≤ 200
      · rw [if_pos h, if_pos h]; rfl
      · rw [if_neg h, if_neg h]
    unfold madeV
    rw [show (chainT (k + 1)).ks = [chainT k] from rfl, hm]
    by_cases h : d + (k + 1) ≤ 200
    · rw [if_pos h, if_pos h]; rfl
    · rw [if_neg h, if_neg h]
theorem chain_of (k : Nat) : patOf (chainT k) = if k + 1 ≤ 200 then .ok (chainP k) else .error 10 := by
  unfold patOf
  rw [chain_pat k _ 1 true (by rw [chain_cnt]; omega) (by omega)]
  have e : 1 + k = k + 1 := by omega
  rw [e]
theorem chain_names : ∀ (k f : Nat), k + 1 ≤ f → namesG f (chainP k) = [⟨#[97]⟩] := by
  intro k
  induction k with
  | zero =>
    intro f hf
    obtain ⟨f, rfl⟩ : ∃ g, f = g + 1 := ⟨f - 1, by omega⟩
    rfl
  | succ k ih =>
    intro f hf
    obtain ⟨f, rfl⟩ : ∃ g, f = g + 1 := ⟨f - 1, by omega⟩
    unfold namesG
    rw [if_neg (show ¬ (chainP (k + 1)).op = 34 by show ¬ (60 : Int) = 34; decide)]
    rw [show tgtL (chainP (k + 1)) = [chainP k] from rfl]
    simp [ih f (by omega)]
theorem chain_namesOf (k : Nat) : namesOf (chainP k) = [⟨#[97]⟩] := chain_names k _ (by rw [chainP_cnt]; omega)
theorem and_mask (n : Int) : 0 ≤ bits .and .i64 n 511 ∧ bits .and .i64 n 511 ≤ 511 := by
  have h511 : (BitVec.ofInt 64 511).toNat = 2 ^ 9 - 1 := by decide
  have key : (BitVec.ofInt 64 n &&& BitVec.ofInt 64 511).toNat = (n % ((2 ^ 64 : Nat) : Int)).toNat % 2 ^ 9 := by
    rw [BitVec.toNat_and, BitVec.toNat_ofInt, h511, Nat.and_two_pow_sub_one_eq_mod]
  have e : bits .and .i64 n 511 = n % 512 := by
    show IntKind.i64.wrap ((BitVec.ofInt 64 n &&& BitVec.ofInt 64 511).toNat : Nat) = n % 512
    rw [key, IntKind.wrap_i64]
    omega
  rw [e]
  omega
/-- the chain as it is built -/
structure RelDeep (w : World) (m : Nat) (i : Value) (wr : World) : Prop where
  ex : ∃ (k : Nat) (so : Option Addr) (sl sc : Nat), i = .int .i64 k ∧ k ≤ m ∧ wr.heap[w.heap.size]? = some (.cells #[.int .i64 (chainT k).op, .int .i64 0, .int .i64 0, .int .i64 0, .string (chainT k).s, .slice so sl sc] 27 (0, 0)) ∧ TIn wr (fun b => b ≠ w.heap.size) (chainT k) (.slice so sl sc)
  bel : Below w.heap.size w wr
theorem deep_step {w wr : World} {m k : Nat} {so : Option Addr} {sc : Nat} (hbox : wr.heap[w.heap.size]? = some (.cells #[.int .i64 (chainT k).op, .int .i64 0, .int .i64 0, .int .i64 0, .string (chainT k).s, .slice so (chainT k).ks.length sc] 27 (0, 0))) (hkt : TIn wr (fun b => b ≠ w.heap.size) (chainT k) (.slice so (chainT k).ks.length sc)) (hB : Below w.heap.size w wr) (hk : k < m) :
    RelDeep w m (.int .i64 ((k : Int) + 1)) (((((((wr.setCell ⟨w.heap.size, 0, none⟩ (.int .i64 37)).setCell ⟨w.heap.size, 1, none⟩ (.int .i64 0)).setCell ⟨w.heap.size, 2, none⟩ (.int .i64 0)).setCell ⟨w.heap.size, 3, none⟩ (.int .i64 0)).setCell ⟨w.heap.size, 4, none⟩ (.string ⟨#[]⟩)).setCell ⟨w.heap.size, 5, none⟩ (.slice (some ⟨wr.heap.size, 0, none⟩) 1 1)).alloc (.cells #[.int .i64 (chainT k).op, .int .i64 0, .int .i64 0, .int .i64 0, .string (chainT k).s, .slice so (chainT k).ks.length sc] 27)) := by
  have h6 := c_set6 (.int .i64 37) (.int .i64 0) (.int .i64 0) (.int .i64 0) (.string ⟨#[]⟩) (.slice (some ⟨wr.heap.size, 0, none⟩) 1 1) hbox
  obtain ⟨W6, hW6⟩ : ∃ W6, W6 = (((((wr.setCell ⟨w.heap.size, 0, none⟩ (.int .i64 37)).setCell ⟨w.heap.size, 1, none⟩ (.int .i64 0)).setCell ⟨w.heap.size, 2, none⟩ (.int .i64 0)).setCell ⟨w.heap.size, 3, none⟩ (.int .i64 0)).setCell ⟨w.heap.size, 4, none⟩ (.string ⟨#[]⟩)).setCell ⟨w.heap.size, 5, none⟩ (.slice (some ⟨wr.heap.size, 0, none⟩) 1 1) := ⟨_, rfl⟩
  have hz : W6.heap.size = wr.heap.size := by rw [hW6]; exact st6_size wr w.heap.size 0 _ _ _ _ _ _
  have hh : ∀ b, b ≠ w.heap.size → W6.heap[b]? = wr.heap[b]? := fun b hb => by rw [hW6]; exact st6_heap wr w.heap.size 0 _ _ _ _ _ _ b hb
  have hB6 : Below w.heap.size w W6 := by rw [hW6]; exact c_st6 hB (Nat.le_refl _)
  rw [← hW6] at h6 ⊢
  have hlt := c_lt hbox
  have hA := c_box W6 (.cells #[.int .i64 (chainT k).op, .int .i64 0, .int .i64 0, .int .i64 0, .string (chainT k).s, .slice so (chainT k).ks.length sc] 27)
  have hn := heap_alloc_new W6 (.cells #[.int .i64 (chainT k).op, .int .i64 0, .int .i64 0, .int .i64 0, .string (chainT k).s, .slice so (chainT k).ks.length sc] 27)
  rw [hz] at hn
  have hkt6 : TIn W6 (fun b => b ≠ w.heap.size) (chainT k) (.slice so (chainT k).ks.length sc) := tin_imp (fun b _ hs => ⟨hs, hh b hs⟩) (by omega) _ _ hkt
  have hc : (chainT k).a = 0 ∧ (chainT k).n = 0 ∧ (chainT k).m = 0 := by cases k <;> exact ⟨rfl, rfl, rfl⟩
  refine ⟨⟨k + 1, some ⟨wr.heap.size, 0, none⟩, 1, 1, by simp, hk, c_kept hA (c_lt h6) h6, ?_⟩, c_thr hB6 hA hB6.size⟩
  refine tin_close (t := chainT (k + 1)) (by simp [Tr.ks, chainT]) (by unfold maxLen; omega) (.inr ⟨wr.heap.size, 0, rfl, by simp; omega, by show wr.heap.size ≠ w.heap.size; omega, fun i z hi => ?_⟩)
  match i, hi with
  | 0, hi =>
    obtain rfl : chainT k = z := by simpa [Tr.ks, chainT] using hi
    refine ⟨_, ncell_of hn rfl ?_ ?_ ?_ rfl rfl, tin_kept hkt6 hA⟩
    · rw [hc.1]; rfl
    · rw [hc.2.1]; rfl
    · rw [hc.2.2]; rfl
  | i + 1, hi => simp [Tr.ks, chainT] at hi
set_option linter.unusedVariables false in
set_option maxRecDepth 100000 in
set_option maxHeartbeats 1000000 in
theorem deep_walk (n : Int) (w : World) : Calls Try.prog 7 #[.int .i64 n] w (BPost w true) := by
  go_enter Try.func7, Try.ntmps7
  go_upto_region 3 with fail
  obtain ⟨b0, b1⟩ := and_mask n
  obtain ⟨m, hm⟩ : ∃ m : Nat, (m : Int) = bits .and .i64 n 511 := ⟨(bits .and .i64 n 511).toNat, by omega⟩
  rw [← hm] at b0 b1 ⊢
  clear hm
  have HV : Hid (RelDeep w m (.int .i64 0) (w.alloc (.cells #[.int .i64 34, .int .i64 0, .int .i64 0, .int .i64 0, .string ⟨#[97]⟩, .slice none 0 0] 27))) := Lib.hid ⟨⟨0, none, 0, 0, rfl, Nat.zero_le _, heap_alloc_new w _, tin_leaf⟩, c_box w _⟩
  go_wp2
  go_loopw [4] (fun i wr => RelDeep w m i wr) (fun i _ => m - (intOf i).toNat)
  case atStart => exact HV.out
  case round =>
    clear HV
    obtain ⟨⟨k, so, sl, sc, rfl, hk, hbox, hkt⟩, hB⟩ := hrel
    obtain rfl := tin_len hkt
    obtain ⟨⟨x0, x1, x2, x3, x4, x5⟩, ⟨q0, q1, q2, q3, q4, q5⟩, hxl⟩ := c_six hbox
    by_cases hkm : k < m
    · have g1 : decide ((k : Int) < (m : Int)) = true := decide_eq_true (by omega)
      have HH := Lib.hid (And.intro hbox (And.intro hkt hB))
      clear hbox hkt hB
      have HST := Lib.hid (deep_step (m := m) HH.out.1 HH.out.2.1 HH.out.2.2 hkm)
      go_wp2
      go_roundw
      case rel => exact HST.out
      case measure => simp [intOf]; omega
    · have g1 : decide ((k : Int) < (m : Int)) = false := decide_eq_false (by omega)
      obtain rfl : k = m := by omega
      have hca : (chainT k).a = 0 ∧ (chainT k).n = 0 ∧ (chainT k).m = 0 := by cases k <;> exact ⟨rfl, rfl, rfl⟩
      have HP := Lib.hid (fun (W : World) (hW : Below wr.heap.size wr W) => pattern_top (chainT k) so (chainT k).ks.length sc W (by rw [chain_cnt]; omega) (tin_mono (tin_kept hkt hW) (fun b _ _ => (trivial : All b))))
      rw [hca.1, hca.2.1, hca.2.2, chain_of] at HP
      have HBB := Lib.hid hB
      clear hkt hB hbox hca
      by_cases h200 : k + 1 ≤ 200
      · rw [if_pos h200] at HP
        have g2 : decide ((200 : Int) < (k : Int) + 1) = false := decide_eq_false (by omega)
        have hcp : (chainP k).a = 0 ∧ (chainP k).n = 0 ∧ (chainP k).m = 0 := by cases k <;> exact ⟨rfl, rfl, rfl⟩
        go_wp2_with fail
        refine (HP.out _ (Below.refl _ _)).mono ?_
        rintro e w1 ⟨yo, yl, yc, rfl, htp, hB1⟩
        have HT := Lib.hid (And.intro htp hB1)
        obtain rfl := tin_len htp
        clear htp hB1 hcp x0 x1 x2 x3 x4 x5 q0 q1 q2 q3 q4 q5 hkm hk hxl g1
        go_upto_region 8 with fail
        obtain ⟨W2, hW2⟩ : ∃ W2, W2 = w1.alloc (.cells #[.int .i64 (chainP k).op, .int .i64 (chainP k).a, .int .i64 (chainP k).n, .int .i64 (chainP k).m, .string (chainP k).s, .slice yo (chainP k).ks.length yc] 27) := ⟨_, rfl⟩
        have hBx : Below w1.heap.size w1 W2 := by rw [hW2]; exact c_box w1 _
        have hpk : W2.heap[w1.heap.size]? = some (.cells #[.int .i64 (chainP k).op, .int .i64 (chainP k).a, .int .i64 (chainP k).n, .int .i64 (chainP k).m, .string (chainP k).s, .slice yo (chainP k).ks.length yc] 27 (0, 0)) := by rw [hW2]; exact heap_alloc_new w1 _
        rw [← hW2]
        obtain ⟨⟨a0, a1, a2, a3, a4, a5⟩, -, hal⟩ := c_six hpk
        have HN := Lib.hid (names_any (chainP k) yo yc W2 (by rw [chainP_cnt]; omega) (tin_mono (tin_kept HT.out.1 hBx) (fun b _ _ => (trivial : All b))))
        rw [chain_namesOf] at HN
        have HB2 := Lib.hid (c_thr (c_thr HBB.out HT.out.2 HBB.out.size) hBx (by have := HBB.out.size; have := HT.out.2.size; omega))
        clear hW2 hBx hpk HT
        go_wp2_with fail
        refine HN.out.mono ?_
        rintro e w5 ⟨v, rfl, hsv, hB5⟩
        have HV := Lib.hid (And.intro hsv hB5)
        clear hsv hB5 a0 a1 a2 a3 a4 a5
        go_wp2_with fail
        have hsx : StrIn (w5.alloc (.cells #[.string ⟨#[97]⟩] 9)) (.slice (some ⟨w5.heap.size, 0, none⟩) 1 1) [⟨#[97]⟩] := by
          refine ⟨_, 1, rfl, fun i s hi => ⟨w5.heap.size, 0, rfl, by simp, ?_⟩⟩
          have hc := fun j => c_cell (heap_alloc_new w5 (.cells #[.string ⟨#[97]⟩] 9)) j
          match i, hi with
          | 0, hi =>
            obtain rfl : (⟨#[97]⟩ : ByteArray) = s := by simpa using hi
            exact (hc _).trans rfl
          | i + 1, hi => simp at hi
        have hsv2 : StrIn (w5.alloc (.cells #[.string ⟨#[97]⟩] 9)) v [⟨#[97]⟩] := str_kept HV.out.1 (c_box w5 _)
        refine (texts_any [⟨#[97]⟩] v _ _ (by simp) hsv2 hsx).mono ?_
        rintro e w6 ⟨rfl, hB6⟩
        have hB7 := c_thr HB2.out (c_thr (c_thr HV.out.2 (c_box w5 _) HV.out.2.size) hB6 (by have := HV.out.2.size; simp; omega)) HB2.out.size
        have HZ := Lib.hid hB7
        clear hsx hsv2 hB6 hB7
        go_wp2_with fail
        refine (lives_any w6).mono ?_
        rintro e w7 ⟨rfl, hB8⟩
        have HY := Lib.hid (c_thr HZ.out hB8 HZ.out.size)
        clear hB8
        go_wp2
        go_ret
        exact ⟨rfl, HY.out⟩
      · rw [if_neg h200] at HP
        have g2 : decide ((200 : Int) < (k : Int) + 1) = true := decide_eq_true (by omega)
        go_wp2_with fail
        refine (HP.out _ (Below.refl _ _)).mono ?_
        rintro e w1 ⟨-, rfl, hB1⟩
        have HT := Lib.hid hB1
        clear hB1 x0 x1 x2 x3 x4 x5 q0 q1 q2 q3 q4 q5 hkm hk hxl g1
        go_upto_region 8 with fail
        obtain ⟨W2, hW2⟩ : ∃ W2, W2 = w1.alloc (.cells #[.int .i64 0, .int .i64 0, .int .i64 0, .int .i64 0, .string ⟨#[]⟩, .slice none 0 0] 27) := ⟨_, rfl⟩
        have hBx : Below w1.heap.size w1 W2 := by rw [hW2]; exact c_box w1 _
        have hpk : W2.heap[w1.heap.size]? = some (.cells #[.int .i64 0, .int .i64 0, .int .i64 0, .int .i64 0, .string ⟨#[]⟩, .slice none 0 0] 27 (0, 0)) := by rw [hW2]; exact heap_alloc_new w1 _
        rw [← hW2]
        obtain ⟨⟨a0, a1, a2, a3, a4, a5⟩, -, hal⟩ := c_six hpk
        have HB2 := Lib.hid (c_thr (c_thr HBB.out HT.out HBB.out.size) hBx (by have := HBB.out.size; have := HT.out.size; omega))
        have HS := Lib.hid (fun W => same_any 1 zeroT none none 0 0 W (by decide) (by omega) tin_leaf tin_leaf)
        have HS2 : Hid (∀ W : World, Calls Try.prog 13 #[.agg #[.int .i64 0, .int .i64 0, .int .i64 0, .int .i64 0, .string ⟨#[]⟩, .slice none 0 0], .agg #[.int .i64 0, .int .i64 0, .int .i64 0, .int .i64 0, .string ⟨#[]⟩, .slice none 0 0]] W (BPost W true)) := HS
        clear hW2 hBx hpk HT HS
        go_wp2_with fail
        refine (HS2.out _).mono ?_
        rintro e w5 ⟨rfl, hB5⟩
        have HZ := Lib.hid (c_thr HB2.out hB5 HB2.out.size)
        clear hB5 a0 a1 a2 a3 a4 a5
        go_wp2_with fail
        refine (lives_any w5).mono ?_
        rintro e w7 ⟨rfl, hB8⟩
        have HY := Lib.hid (c_thr HZ.out hB8 HZ.out.size)
        clear hB8
        go_wp2
        go_ret
        exact ⟨rfl, HY.out⟩
end Go.Proofs.Ytjnlifghobgkcaa
