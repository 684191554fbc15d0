/-
  Reading a canonical literal gives back what was quoted, whatever surrounds it: on the plain functions.
-/
import Derived.Test.YtokpmpmlbmpnmabLives
namespace Go.Proofs.Ytokpmpmlbmpnmab
open Go.RowKit

theorem byt_id (c : UInt8) : byt (c.toNat : Int) = c := by
  apply UInt8.toNat_inj.1
  have := byt_val (c.toNat : Int) (by omega) (by have := c.toNat_lt; omega)
  omega
theorem esc_sht (c : Int) (h : ¬ shtV c = 0) : esc1 (shtV c) = some c := by
  unfold shtV at h ⊢
  repeat' split at h
  all_goals first | (exfalso; exact h rfl) | (subst_vars; simp [esc1])
theorem sht_z (c : Int) (h : shtV c = 0) : ¬ c = 34 ∧ ¬ c = 10 ∧ ¬ c = 13 ∧ ¬ c = 92 := by
  refine ⟨?_, ?_, ?_, ?_⟩ <;> (intro e; subst e; simp [shtV] at h)
theorem hex_hexD (n : Int) (h0 : 0 ≤ n) (h1 : n < 16) : hexV (hexD n) = n := by
  unfold hexV hexD
  repeat' split
  all_goals omega

theorem unit_q (c : UInt8) (t : List UInt8) : ∃ h r, (qI c.toNat).map byt ++ t = h :: r ∧ ¬ h = 34 ∧ ¬ ((h.toNat : Int) = 10 ∨ (h.toNat : Int) = 13) ∧ unitV (h :: r) = ((c.toNat : Int), (qI c.toNat).length, 0) := by
  have c0 : (0 : Int) ≤ c.toNat := by omega
  have c1 : (c.toNat : Int) ≤ 255 := by have := c.toNat_lt; omega
  by_cases hs : shtV c.toNat = 0
  · by_cases hp : 32 ≤ (c.toNat : Int) ∧ (c.toNat : Int) ≤ 126
    · have hq : qI c.toNat = [(c.toNat : Int)] := by unfold qI; rw [if_neg (by simpa using hs), if_pos hp]
      obtain ⟨z1, z2, z3, z4⟩ := sht_z _ hs
      refine ⟨c, t, by rw [hq]; simp [byt_id], ?_, by omega, ?_⟩
      · intro e; subst e; exact z1 rfl
      · rw [unit_one z4, hq]; rfl
    · have hq : qI c.toNat = [92, 120, hexD (c.toNat / 16), hexD (c.toNat % 16)] := by unfold qI; rw [if_neg (by simpa using hs), if_neg hp]
      have a1 := hexD_b ((c.toNat : Int) / 16) (by omega) (by omega)
      have a2 := hexD_b ((c.toNat : Int) % 16) (by omega) (by omega)
      refine ⟨92, byt 120 :: byt (hexD (c.toNat / 16)) :: byt (hexD (c.toNat % 16)) :: t, by rw [hq]; rfl, by decide, by decide, ?_⟩
      have e1 : hexV (byt (hexD (c.toNat / 16))).toNat = c.toNat / 16 := by rw [byt_val _ a1.1 a1.2]; exact hex_hexD _ (by omega) (by omega)
      have e2 : hexV (byt (hexD (c.toNat % 16))).toNat = c.toNat % 16 := by rw [byt_val _ a2.1 a2.2]; exact hex_hexD _ (by omega) (by omega)
      have e3 : hex2 (byt (hexD (c.toNat / 16)) :: byt (hexD (c.toNat % 16)) :: t) = ((c.toNat : Int), 3, 0) := by
        show (if hexV (byt (hexD (c.toNat / 16))).toNat = -1 then _ else if hexV (byt (hexD (c.toNat % 16))).toNat = -1 then _ else (16 * hexV (byt (hexD (c.toNat / 16))).toNat + hexV (byt (hexD (c.toNat % 16))).toNat, 3, 0)) = _
        rw [e1, e2, if_neg (by omega), if_neg (by omega)]
        exact Prod.ext (by show 16 * ((c.toNat : Int) / 16) + (c.toNat : Int) % 16 = c.toNat; omega) rfl
      rw [unit_esc (by decide), esc_hex (by decide), e3, hq]
      rfl
  · have hq : qI c.toNat = [92, shtV c.toNat] := by unfold qI; rw [if_pos hs]
    have a1 := shtV_b c.toNat
    refine ⟨92, byt (shtV c.toNat) :: t, by rw [hq]; rfl, by decide, by decide, ?_⟩
    rw [unit_esc (by decide), esc_some (b := (c.toNat : Int)) (by rw [byt_val _ a1.1 a1.2]; exact esc_sht _ hs), hq]
    rfl

theorem qL_cons (c : UInt8) (l : List UInt8) : qL (c :: l) = (qI c.toNat).map byt ++ qL l := by simp [qL]

theorem rd_q (b : List UInt8) : ∀ (l : List UInt8) (n i : Nat) (out : List UInt8), (qL l ++ 34 :: b).length < n → out.length + l.length ≤ 65536 → rdV 34 n (qL l ++ 34 :: b) i out = (out ++ l, i + (qL l).length + 1, 0) := by
  intro l
  induction l with
  | nil =>
    intro n i out hn _
    obtain ⟨m, rfl⟩ : ∃ m, n = m + 1 := ⟨n - 1, by omega⟩
    simp [qL, rd_end]
  | cons c l ih =>
    intro n i out hn ho
    obtain ⟨m, rfl⟩ : ∃ m, n = m + 1 := ⟨n - 1, by omega⟩
    obtain ⟨h, r, hu, h34, hln, hun⟩ := unit_q c (qL l ++ 34 :: b)
    have hlen : (qI c.toNat).length = ((qI c.toNat).map byt).length := by simp
    have hq : 1 ≤ (qI c.toNat).length := by
      have := unit_len (h :: r) (by rw [hun])
      rw [hun] at this
      exact this.2
    rw [qL_cons, List.append_assoc] at hn ⊢
    rw [List.length_append, ← hlen] at hn
    rw [hu, rd_go h34 hln (by rw [hun]) (by simp at ho; omega), hun, ← hu]
    simp only
    rw [hlen, List.drop_left, ih m _ _ (by omega) (by simp at ho ⊢; omega), byt_id]
    simp
    omega

theorem rd_qlong (b : List UInt8) : ∀ (l : List UInt8) (n i : Nat) (out : List UInt8), (qL l ++ 34 :: b).length < n → out.length ≤ 65536 → 65536 < out.length + l.length → rdV 34 n (qL l ++ 34 :: b) i out = ([], 0, 9) := by
  intro l
  induction l with
  | nil => intro n i out hn h1 h2; simp at h2; omega
  | cons c l ih =>
    intro n i out hn h1 h2
    obtain ⟨m, rfl⟩ : ∃ m, n = m + 1 := ⟨n - 1, by omega⟩
    obtain ⟨h, r, hu, h34, hln, hun⟩ := unit_q c (qL l ++ 34 :: b)
    have hlen : (qI c.toNat).length = ((qI c.toNat).map byt).length := by simp
    have hq : 1 ≤ (qI c.toNat).length := by
      have := unit_len (h :: r) (by rw [hun])
      rw [hun] at this
      exact this.2
    rw [qL_cons, List.append_assoc] at hn ⊢
    rw [List.length_append, ← hlen] at hn
    by_cases ho : out.length = 65536
    · rw [hu, rd_long h34 hln (by rw [hun]) ho]
    · rw [hu, rd_go h34 hln (by rw [hun]) ho, hun, ← hu]
      simp only
      rw [hlen, List.drop_left, ih m _ _ (by omega) (by simp; omega) (by simp at h2 ⊢; omega)]

theorem quote_len (l : List UInt8) : (quoteL l).length ≤ 4 * l.length + 2 := by
  have := qL_len l
  simp only [quoteL, List.length_cons, List.length_append, List.length_nil]
  omega
theorem quote_len2 (l : List UInt8) : (quoteL l).length = (qL l).length + 2 := by
  simp only [quoteL, List.length_cons, List.length_append, List.length_nil]

theorem back_core (a s b : ByteArray) (w : World) (ha : a.size ≤ 500) (hs : s.size ≤ 500) (hb : b.size ≤ 500) :
    Calls Try.prog 8 #[.string (a ++ ⟨(quoteL s.data.toList).toArray⟩ ++ b), .int .i64 a.size] w fun e w' => e = .returned (.tuple #[.string s, .int .i64 ((a.size : Int) + (quoteL s.data.toList).length), .int .i64 0]) ∧ Below w.heap.size w w' := by
  obtain ⟨t, ht⟩ : ∃ t : ByteArray, t = a ++ ⟨(quoteL s.data.toList).toArray⟩ ++ b := ⟨_, rfl⟩
  have hdat : t.data.toList = a.data.toList ++ (quoteL s.data.toList ++ b.data.toList) := by rw [ht]; simp
  have hql := quote_len s.data.toList
  have hq2 := quote_len2 s.data.toList
  have hsl : s.data.toList.length = s.size := by simp
  have hal : a.data.toList.length = a.size := by simp
  have htl : t.size = a.size + (quoteL s.data.toList).length + b.size := by
    have : t.data.toList.length = t.size := by simp
    rw [← this, hdat]
    simp
    omega
  have hk : a.size < t.size := by omega
  have hdrop : t.data.toList.drop a.size = 34 :: (qL s.data.toList ++ 34 :: b.data.toList) := by
    rw [hdat, ← hal, List.drop_left]
    simp [quoteL]
  have hcons := drop_at t a.size hk
  rw [hdrop] at hcons
  have h := read_in t a.size 34 w (by omega) hk (List.cons.inj hcons).1.symm (by decide)
  have hd : t.data.toList.drop (a.size + 1) = qL s.data.toList ++ 34 :: b.data.toList := (List.cons.inj hcons).2.symm
  rw [hd, rd_q _ _ _ _ _ (by simp; simp at hsl; omega) (by simp; omega)] at h
  have e1 : (⟨([] ++ s.data.toList).toArray⟩ : ByteArray) = s := by simp
  have e2 : ((a.size + 1 + (qL s.data.toList).length + 1 : Nat) : Int) = (a.size : Int) + (quoteL s.data.toList).length := by omega
  unfold rdR at h
  simp only [e1, e2] at h
  rw [← ht]
  exact h

set_option maxHeartbeats 1000000 in
set_option maxRecDepth 100000 in
theorem litBack_walk (a s b : ByteArray) (ha : a.size ≤ maxLen) (hs : s.size ≤ maxLen) (hb : b.size ≤ maxLen) (w : World) :
    Calls Try.prog 6 #[.string a, .string s, .string b] w fun e w' => e = .returned (.bool true) ∧ Below w.heap.size w w' := by
  unfold maxLen at ha hs hb
  by_cases d1 : 500 < a.size
  · have d1b : decide (500 < a.size) = true := by simpa using d1
    go_enter Try.func6, Try.ntmps6
    go_wp2_with (go_at_call 10; refine (lives_any _).mono ?_; rintro e w3 ⟨rfl, hb3⟩)
    go_ret
    exact ⟨rfl, hb3⟩
  · have d1b : decide (500 < a.size) = false := by simpa using d1
    by_cases d2 : 500 < s.size
    · have d2b : decide (500 < s.size) = true := by simpa using d2
      go_enter Try.func6, Try.ntmps6
      go_wp2_with (go_at_call 10; refine (lives_any _).mono ?_; rintro e w3 ⟨rfl, hb3⟩)
      go_ret
      exact ⟨rfl, hb3⟩
    · have d2b : decide (500 < s.size) = false := by simpa using d2
      by_cases d3 : 500 < b.size
      · have d3b : decide (500 < b.size) = true := by simpa using d3
        go_enter Try.func6, Try.ntmps6
        go_wp2_with (go_at_call 10; refine (lives_any _).mono ?_; rintro e w3 ⟨rfl, hb3⟩)
        go_ret
        exact ⟨rfl, hb3⟩
      · have d3b : decide (500 < b.size) = false := by simpa using d3
        have hql : (quoteL s.data.toList).length ≤ 2002 := by
          have h := quote_len s.data.toList
          have hsl : s.data.toList.length = s.size := by simp
          omega
        have C := fun W => back_core a s b W (by omega) (by omega) (by omega)
        have HC := Lib.hid C
        clear C
        go_enter Try.func6, Try.ntmps6
        go_wp2_with (first | (go_at_call 19; refine (quote_any s _ (by omega)).mono ?_; rintro e w1 ⟨rfl, hb1⟩) | (go_at_call 8; refine (HC.out _).mono ?_; rintro e w2 ⟨rfl, hb2⟩) | (go_at_call 10; refine (lives_any _).mono ?_; rintro e w3 ⟨rfl, hb3⟩))
        go_ret
        exact ⟨rfl, (hb1.trans (hb2.mono hb1.size)).trans (hb3.mono (Nat.le_trans hb1.size hb2.size))⟩
end Go.Proofs.Ytokpmpmlbmpnmab
