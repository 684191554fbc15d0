/-
  The law NumRests of package num at this translation: the walk.
-/
import Derived.Test.YtokpmpmlbmpnmaaDoorRestsS
namespace Go.Proofs.YtokpmpmlbmpnmaaDoor
open Go.RowKit

theorem mod_b (x : Int) : inB (x.tmod 9007199254740993) = true := by
  have h : (x.tmod 9007199254740993).natAbs < 9007199254740993 := by
    rw [Int.natAbs_tmod]
    exact Nat.mod_lt _ (by decide)
  exact in_of (by omega) (by omega)

set_option maxRecDepth 100000 in
set_option maxHeartbeats 40000000 in
theorem rests_go (x y p q dk dn rk rn : Int) (w : World) (ht : Tab w) (hp : x.tmod 9007199254740993 = p) (hq : y.tmod 9007199254740993 = q) (ip : inB p = true) (iq : inB q = true)
    (HD : Hid (∀ W, Calls Tryd.prog 20 #[.agg #[.int .i64 3, .int .i64 p, .string ⟨#[]⟩], .agg #[.int .i64 3, .int .i64 q, .string ⟨#[]⟩]] W fun e w' => e = .returned (.agg #[.int .i64 dk, .int .i64 dn, .string ⟨#[]⟩]) ∧ Below W.heap.size W w'))
    (HM : Hid (∀ W, Calls Tryd.prog 21 #[.agg #[.int .i64 3, .int .i64 p, .string ⟨#[]⟩], .agg #[.int .i64 3, .int .i64 q, .string ⟨#[]⟩]] W fun e w' => e = .returned (.agg #[.int .i64 rk, .int .i64 rn, .string ⟨#[]⟩]) ∧ Below W.heap.size W w'))
    (hz : q = 0 → dk = 4 ∧ rk = 4)
    (HS : Hid (¬ q = 0 → dk = 3 ∧ rk = 3 ∧ ∃ m, inB m = true ∧
      (∀ W, Calls Tryd.prog 19 #[.agg #[.int .i64 3, .int .i64 q, .string ⟨#[]⟩], .agg #[.int .i64 3, .int .i64 dn, .string ⟨#[]⟩]] W fun e w' => e = .returned (.agg #[.int .i64 3, .int .i64 m, .string ⟨#[]⟩]) ∧ Below W.heap.size W w') ∧
      (∀ W, Calls Tryd.prog 16 #[.agg #[.int .i64 3, .int .i64 m, .string ⟨#[]⟩], .agg #[.int .i64 3, .int .i64 rn, .string ⟨#[]⟩]] W fun e w' => e = .returned (.agg #[.int .i64 3, .int .i64 p, .string ⟨#[]⟩]) ∧ Below W.heap.size W w') ∧
      (∀ W, Calls Tryd.prog 18 #[.agg #[.int .i64 3, .int .i64 p, .string ⟨#[]⟩], .agg #[.int .i64 3, .int .i64 rn, .string ⟨#[]⟩]] W fun e w' => e = .returned (.agg #[.int .i64 3, .int .i64 m, .string ⟨#[]⟩]) ∧ Below W.heap.size W w') ∧
      (∀ W, Calls Tryd.prog 19 #[.agg #[.int .i64 3, .int .i64 dn, .string ⟨#[]⟩], .agg #[.int .i64 3, .int .i64 q, .string ⟨#[]⟩]] W fun e w' => e = .returned (.agg #[.int .i64 3, .int .i64 m, .string ⟨#[]⟩]) ∧ Below W.heap.size W w') ∧
      -9007199254740992 ≤ rn ∧ rn ≤ 9007199254740992 ∧ (rn = 0 ∨ (decide (rn < 0) = decide (p < 0) ∧ rn < q.natAbs ∧ -rn < q.natAbs)))) :
    Calls Tryd.prog 5 #[.int .i64 x, .int .i64 y] w fun e w' => e = .returned (.bool true) ∧ Below w.heap.size w w' := by
  have OP := fun W => of_num p ip W
  have OQ := fun W => of_num q iq W
  have HP := Lib.hid OP
  have HQ := Lib.hid OQ
  clear OP OQ
  go_enter Tryd.func5, Tryd.ntmps5
  go_wp2_with fail
  refine (awake_any w ht).mono ?_
  rintro e w1 ⟨rfl, b1⟩
  go_wp2_with fail
  refine (HP.out _).mono ?_
  rintro e w2 ⟨rfl, hb⟩
  have b2 : Below w.heap.size w w2 := thr b1 hb b1.size
  clear hb
  go_wp2_with fail
  refine (HQ.out _).mono ?_
  rintro e w3 ⟨rfl, hb⟩
  have b3 : Below w.heap.size w w3 := thr b2 hb b2.size
  clear hb b1 b2
  go_wp2_with fail
  obtain ⟨W, hW, hB, hsz, ha, hr⟩ := twoB w3 (V3 3 p) (V3 3 q)
  have BW : Below w.heap.size w W.drew := (b3.trans (hB.mono b3.size)).drew
  have f5W : W.drew.heap[w3.heap.size]? = _ := ha
  have f6W : W.drew.heap[w3.heap.size + 1]? = _ := hr
  clear hB ha hr hsz
  obtain ⟨b5, h5⟩ : ∃ b5, b5 = w3.heap.size := ⟨_, rfl⟩
  try simp only [hp, hq]
  rw [← hW]
  simp only [← h5] at f5W f6W ⊢
  obtain ⟨b6, h6⟩ : ∃ b6, b6 = b5 + 1 := ⟨_, rfl⟩
  simp only [← h6] at f6W ⊢
  have n56 : b5 ≠ b6 := by omega
  clear h5 h6 hW b3 w3 w2 w1
  refine cutQ (R4 x y p q dk dn rk rn w b5 b6) ?_ (fun hR => start4 _ x y p q dk dn rk rn w b5 b6 (Lib.hid hR) HD HM (fun _ _ _ _ _ h => h) W BW f5W f6W)
  rintro a V ⟨b7, b8, rfl, BV, f5, f6, f7, f8⟩
  clear BW f5W f6W HP HQ HD HM n56
  obtain ⟨p0, p1, p2, _, _, _, _⟩ := tri f5
  obtain ⟨q0, q1, q2, _, _, _, _⟩ := tri f6
  obtain ⟨d0, d1, d2, _, _, _, _⟩ := tri f7
  obtain ⟨r0, r1, r2, _, _, _, _⟩ := tri f8
  by_cases hq0 : q = 0
  · obtain ⟨k1, k2⟩ := hz hq0
    subst hq0
    subst k1
    subst k2
    go_wp2
    go_ret
    exact ⟨rfl, BV⟩
  · obtain ⟨k1, k2, m, im, C1, C2, C3, C4, rb0, rb1, hsign⟩ := HS.out hq0
    subst k1
    subst k2
    have HC1 := Lib.hid C1
    have HC2 := Lib.hid C2
    have HC3 := Lib.hid C3
    have HC4 := Lib.hid C4
    have hqb : (q == 0) = false := by simpa using hq0
    obtain ⟨iq0, iq1⟩ := in_yes iq
    clear C1 C2 C3 C4 hz HS
    go_wp2_with fail
    refine cutQ (fin_rests7 x y p q dn rn m w b5 b6 b7 b8) ?_ (fun hR => reg_rests7 _ (fun _ _ _ _ _ h => h) x y p q dn rn m w b5 b6 b7 b8 (Lib.hid hR) HC1 HC2 HC3 HC4 V (keep0 BV f5 f6 f7 f8))
    rintro a U ⟨rfl, hU⟩
    clear HC1 HC2 HC3 HC4 p0 p1 p2 q0 q1 q2 d0 d1 d2 r0 r1 r2 f5 f6 f7 f8 BV
    obtain ⟨BU, _, p0, p1, p2, q0, q1, q2, d0, d1, d2, r0, r1, r2⟩ := hU
    rcases hsign with h0 | ⟨h1, h2, h3⟩
    · subst h0
      go_wp2
      go_ret
      exact ⟨rfl, BU⟩
    · by_cases hr0 : rn = 0
      · subst hr0
        go_wp2
        go_ret
        exact ⟨rfl, BU⟩
      · have hrb : (rn == 0) = false := by simpa using hr0
        by_cases hrn : rn < 0
        · have hpn : p < 0 := by simpa [hrn] using h1
          rcases Int.lt_or_le q 0 with hqn | hqn
          · have e1 : max rn (-rn) = -rn := by omega
            have e2 : max q (-q) = -q := by omega
            have e3 : -rn < -q := by omega
            go_wp2
            go_ret
            exact ⟨rfl, BU⟩
          · have e1 : max rn (-rn) = -rn := by omega
            have e2 : max q (-q) = q := by omega
            have e3 : -rn < q := by omega
            go_wp2
            go_ret
            exact ⟨rfl, BU⟩
        · have hpn : ¬ p < 0 := by simpa [hrn] using h1
          rcases Int.lt_or_le q 0 with hqn | hqn
          · have e1 : max rn (-rn) = rn := by omega
            have e2 : max q (-q) = -q := by omega
            have e3 : rn < -q := by omega
            go_wp2
            go_ret
            exact ⟨rfl, BU⟩
          · have e1 : max rn (-rn) = rn := by omega
            have e2 : max q (-q) = q := by omega
            have e3 : rn < q := by omega
            go_wp2
            go_ret
            exact ⟨rfl, BU⟩

set_option maxHeartbeats 1000000 in
theorem rests_any (x y : Int) (w : World) (ht : Tab w) : Calls Tryd.prog 5 #[.int .i64 x, .int .i64 y] w fun e w' => e = .returned (.bool true) ∧ Below w.heap.size w w' := by
  obtain ⟨p, hp⟩ : ∃ p, p = x.tmod 9007199254740993 := ⟨_, rfl⟩
  obtain ⟨q, hq⟩ : ∃ q, q = y.tmod 9007199254740993 := ⟨_, rfl⟩
  have ip : inB p = true := by rw [hp]; exact mod_b x
  have iq : inB q = true := by rw [hq]; exact mod_b y
  obtain ⟨wp1, wp2⟩ := wh3 p ip
  obtain ⟨wq1, wq2⟩ := wh3 q iq
  obtain ⟨ip0, ip1⟩ := in_yes ip
  obtain ⟨iq0, iq1⟩ := in_yes iq
  have D := fun W => div_any 3 p 3 q ⟨#[]⟩ ⟨#[]⟩ W
  have M := fun W => rem_any 3 p 3 q ⟨#[]⟩ ⟨#[]⟩ W
  simp only [wp1, wp2, wq1, wq2, Bool.and_self, Bool.true_and] at D M
  by_cases hq0 : q = 0
  · subst hq0
    exact rests_go x y p 0 4 0 4 0 w ht hp.symm hq.symm ip iq (Lib.hid D) (Lib.hid M) (fun _ => ⟨rfl, rfl⟩) (Lib.hid (fun h => absurd rfl h))
  · have hqb : (q != 0) = true := by simpa using hq0
    have db := tdiv_b p q ip0 ip1 hq0
    have mb := tmod_b p q ip0 ip1 hq0
    obtain ⟨d, hd⟩ : ∃ d, d = p.tdiv q := ⟨_, rfl⟩
    obtain ⟨r, hr⟩ : ∃ r, r = p.tmod q := ⟨_, rfl⟩
    have hsum : q * d + r = p := by rw [hd, hr]; exact Int.mul_tdiv_add_tmod p q
    have habs : r.natAbs = p.natAbs % q.natAbs := by rw [hr]; exact Int.natAbs_tmod p q
    have hlt : r.natAbs < q.natAbs := by rw [habs]; exact Nat.mod_lt _ (by omega)
    have hsg : r = 0 ∨ decide (r < 0) = decide (p < 0) := by
      by_cases hp0 : 0 ≤ p
      · have : 0 ≤ r := by rw [hr]; exact Int.tmod_nonneg q hp0
        right
        have h1 : ¬ r < 0 := by omega
        have h2 : ¬ p < 0 := by omega
        simp [h1, h2]
      · have h1 : r ≤ 0 := by
          have h2 : (-p).tmod q = -(p.tmod q) := Int.neg_tmod p q
          have h3 : 0 ≤ (-p).tmod q := Int.tmod_nonneg q (by omega)
          omega
        by_cases h0 : r = 0
        · exact .inl h0
        · right
          have h2 : r < 0 := by omega
          have h3 : p < 0 := by omega
          simp [h2, h3]
    simp only [hqb, ← hd, ← hr] at D M db mb
    have id : inB d = true := in_of db.1 db.2
    have ir : inB r = true := in_of mb.1 mb.2
    obtain ⟨wd1, wd2⟩ := wh3 d id
    obtain ⟨wr1, wr2⟩ := wh3 r ir
    simp only [(rs_in id).1, (rs_in id).2] at D
    simp only [(rs_in ir).1, (rs_in ir).2] at M
    have hm : inB (q * d) = true := by
      have h1 : (q * d).natAbs ≤ p.natAbs := by
        rw [Int.natAbs_mul, hd, Int.natAbs_tdiv]
        exact Nat.mul_div_le _ _
      exact in_of (by omega) (by omega)
    obtain ⟨wm1, wm2⟩ := wh3 (q * d) hm
    refine rests_go x y p q 3 d 3 r w ht hp.symm hq.symm ip iq (Lib.hid D) (Lib.hid M) (fun h => absurd h hq0) (Lib.hid (fun _ => ⟨rfl, rfl, q * d, hm, ?_, ?_, ?_, ?_, mb.1, mb.2, ?_⟩))
    · intro W
      have h := mul_any 3 q 3 d ⟨#[]⟩ ⟨#[]⟩ W
      simp only [wq1, wq2, wd1, wd2, Bool.and_self, (rs_in hm).1, (rs_in hm).2] at h
      exact h
    · intro W
      have h := add_any 3 (q * d) 3 r ⟨#[]⟩ ⟨#[]⟩ W
      simp only [wm1, wm2, wr1, wr2, Bool.and_self, hsum, (rs_in ip).1, (rs_in ip).2] at h
      exact h
    · intro W
      have h := sub_any 3 p 3 r ⟨#[]⟩ ⟨#[]⟩ W
      have e : p - r = q * d := by omega
      simp only [wp1, wp2, wr1, wr2, Bool.and_self, e, (rs_in hm).1, (rs_in hm).2] at h
      exact h
    · intro W
      have h := mul_any 3 d 3 q ⟨#[]⟩ ⟨#[]⟩ W
      have e : d * q = q * d := Int.mul_comm d q
      simp only [wq1, wq2, wd1, wd2, Bool.and_self, e, (rs_in hm).1, (rs_in hm).2] at h
      exact h
    · rcases hsg with h0 | h1
      · exact .inl h0
      · exact .inr ⟨h1, by omega, by omega⟩
end Go.Proofs.YtokpmpmlbmpnmaaDoor
