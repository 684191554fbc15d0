/-
  A token's own bytes read as the token: the functions that say what is read look no further than what they read.
-/
import Derived.Test.YtjbnobcnlmkbmaaDoorTOff
import Derived.Lib.IndexMore
import Derived.Lib.IndexLaws
namespace Go.Proofs.YtjbnobcnlmkbmaaDoor
open Go.RowKit

theorem run_rest (p : Int → Bool) (l : List UInt8) : runLen p (l.drop (runLen p l)) = 0 := by
  induction l with
  | nil => rfl
  | cons a t ih =>
    by_cases h : p a.toNat = true
    · rw [run_yes h, List.drop_succ_cons]
      exact ih
    · have e : runLen p (a :: t) = 0 := by simp [runLen, h]
      rw [e, List.drop_zero, e]
theorem tw_take {p : UInt8 → Bool} : ∀ (l : List UInt8) (m : Nat), (l.takeWhile p).length ≤ m → (l.take m).takeWhile p = l.takeWhile p := by
  intro l
  induction l with
  | nil => intro m _; simp
  | cons a t ih =>
    intro m h
    rw [List.takeWhile_cons] at h ⊢
    by_cases ha : p a = true
    · rw [if_pos ha] at h ⊢
      simp only [List.length_cons] at h
      obtain ⟨k, rfl⟩ : ∃ k, m = k + 1 := ⟨m - 1, by omega⟩
      rw [List.take_succ_cons, List.takeWhile_cons, if_pos ha, ih k (by omega)]
    · rw [if_neg ha]
      cases m with
      | zero => simp
      | succ k => rw [List.take_succ_cons, List.takeWhile_cons, if_neg ha]
theorem run_take (p : Int → Bool) (l : List UInt8) (m : Nat) (h : runLen p l ≤ m) : runLen p (l.take m) = runLen p l := by
  unfold runLen at h ⊢
  rw [tw_take l m h]
theorem idl_take (l : List UInt8) (m : Nat) (h : idLen l ≤ m) : idLen (l.take m) = idLen l := by
  unfold idLen at h ⊢
  rw [tw_take l m h]
theorem hex2_take (l : List UInt8) (h : (hex2 l).2.2 = 0) (m : Nat) (hm : 2 ≤ m) : hex2 (l.take m) = hex2 l := by
  match l with
  | [] => simp
  | [a] => rw [List.take_of_length_le (by simp; omega)]
  | a :: b :: t =>
    obtain ⟨k, rfl⟩ : ∃ k, m = k + 1 + 1 := ⟨m - 2, by omega⟩
    rw [List.take_succ_cons, List.take_succ_cons]
    rfl
theorem esc_take (l : List UInt8) (h : (esc l).2.2 = 0) (m : Nat) (hm : (esc l).2.1 ≤ m) : esc (l.take m) = esc l := by
  match l with
  | [] => simp
  | c :: t =>
    have hl := (esc_len (c :: t) h).2
    obtain ⟨k, rfl⟩ : ∃ k, m = k + 1 := ⟨m - 1, by omega⟩
    rw [List.take_succ_cons]
    cases hb : esc1 c.toNat with
    | some b => simp [esc, hb]
    | none =>
      by_cases h1 : (c.toNat : Int) = 120
      · have e : esc (c :: t) = hex2 t := esc_hex h1
        have e2 : esc (c :: t.take k) = hex2 (t.take k) := esc_hex h1
        rw [e] at h hm ⊢
        rw [e2]
        have := hex2_w t h
        exact hex2_take t h k (by omega)
      · simp [esc, hb, h1] at h
theorem unit_take (l : List UInt8) (h : (unitV l).2.2 = 0) (m : Nat) (hm : (unitV l).2.1 ≤ m) : unitV (l.take m) = unitV l := by
  match l with
  | [] => simp
  | c :: t =>
    by_cases h92 : (c.toNat : Int) = 92
    · rw [unit_esc h92] at h hm ⊢
      simp only at h hm
      obtain ⟨k, rfl⟩ : ∃ k, m = k + 1 := ⟨m - 1, by omega⟩
      rw [List.take_succ_cons, unit_esc h92, esc_take t h k (by omega)]
    · rw [unit_one h92] at hm ⊢
      simp only at hm
      obtain ⟨k, rfl⟩ : ∃ k, m = k + 1 := ⟨m - 1, by omega⟩
      rw [List.take_succ_cons, unit_one h92]
theorem take_c {c : UInt8} {t : List UInt8} {m : Nat} (h : 1 ≤ m) : (c :: t).take m = c :: t.take (m - 1) := by
  obtain ⟨k, rfl⟩ : ∃ k, m = k + 1 := ⟨m - 1, by omega⟩
  rw [List.take_succ_cons]
  rfl
theorem rd_take (q : UInt8) : ∀ (n : Nat) (l : List UInt8) (i : Nat) (out : List UInt8), (rdV q n l i out).2.2 = 0 → ∀ (n' i' m : Nat), m = (rdV q n l i out).2.1 - i → m ≤ n' →
    rdV q n' (l.take m) i' out = ((rdV q n l i out).1, i' + m, 0) := by
  intro n
  induction n with
  | zero => intro l i out h; simp [rdV] at h
  | succ n ih =>
    intro l i out h n' i' m hm hn
    cases l with
    | nil => simp [rdV] at h
    | cons c t =>
      have ho := rd_off q (n + 1) (c :: t) i out h
      obtain ⟨k, rfl⟩ : ∃ k, n' = k + 1 := ⟨n' - 1, by omega⟩
      rw [take_c (by omega)]
      by_cases h1 : c = q
      · subst h1
        rw [rd_end] at hm ⊢
        rw [rd_end]
        simp only at hm ⊢
        have : m = 1 := by omega
        rw [this]
      · by_cases h2 : (c.toNat : Int) = 10 ∨ (c.toNat : Int) = 13
        · rw [rd_line h1 h2] at h; simp at h
        · by_cases h3 : (unitV (c :: t)).2.2 = 0
          · by_cases h4 : out.length = 65536
            · rw [rd_long h1 h2 h3 h4] at h; simp at h
            · rw [rd_go h1 h2 h3 h4] at h hm ho ⊢
              have hu := unit_off c t h3
              have ho2 := rd_off q _ _ _ _ h
              have hut : unitV (c :: t.take (m - 1)) = unitV (c :: t) := by
                have := unit_take (c :: t) h3 m (by omega)
                rwa [take_c (by omega)] at this
              rw [rd_go h1 h2 (by rw [hut]; exact h3) h4, hut]
              have hd : (c :: t.take (m - 1)).drop (unitV (c :: t)).2.1 = ((c :: t).drop (unitV (c :: t)).2.1).take (m - (unitV (c :: t)).2.1) := by
                have e : c :: t.take (m - 1) = (c :: t).take m := (take_c (by omega)).symm
                rw [e, List.drop_take]
              rw [hd, ih _ _ _ h k (i' + (unitV (c :: t)).2.1) (m - (unitV (c :: t)).2.1) (by omega) (by omega)]
              have : i' + (unitV (c :: t)).2.1 + (m - (unitV (c :: t)).2.1) = i' + m := by omega
              rw [this]
          · rw [rd_err h1 h2 h3] at h
            exact absurd h h3
theorem pre_take {l p : List UInt8} {m : Nat} (h : Lib.hasPrefix (l.take m) p = true) : Lib.hasPrefix l p = true := by
  have h1 : p <+: l.take m := by simpa [Lib.hasPrefix] using h
  have h2 : p <+: l := h1.trans (List.take_prefix m l)
  simpa [Lib.hasPrefix] using h2
theorem pre_keep {l p : List UInt8} {m : Nat} (h : Lib.hasPrefix l p = true) (hm : p.length ≤ m) : Lib.hasPrefix (l.take m) p = true := by
  have h1 : p <+: l := by simpa [Lib.hasPrefix] using h
  have h2 : p <+: l.take m := by
    rw [List.prefix_iff_eq_take] at h1 ⊢
    rw [List.take_take, Nat.min_eq_left hm]
    exact h1
  simpa [Lib.hasPrefix] using h2
theorem pc_take : ∀ (n : Nat) (l : List UInt8) (i : Nat) (out : List UInt8), (pcV n l i out).2.2.2 = 0 → ∀ (n' i' m : Nat), m = (pcV n l i out).2.1 - i → m ≤ n' →
    pcV n' (l.take m) i' out = ((pcV n l i out).1, i' + m, (pcV n l i out).2.2.1, 0) := by
  intro n
  induction n with
  | zero => intro l i out h; simp [pcV] at h
  | succ n ih =>
    intro l i out h n' i' m hm hn
    cases l with
    | nil => simp [pcV] at h
    | cons c t =>
      have ho := pc_off (n + 1) (c :: t) i out h
      obtain ⟨k, rfl⟩ : ∃ k, n' = k + 1 := ⟨n' - 1, by omega⟩
      have et : c :: t.take (m - 1) = (c :: t).take m := (take_c (by omega)).symm
      rw [take_c (by omega)]
      by_cases h1 : (c.toNat : Int) = 96
      · rw [pc_end h1] at hm ⊢
        rw [pc_end h1]
        simp only at hm ⊢
        have : m = 1 := by omega
        rw [this]
      · by_cases h2 : dol (c :: t) = true
        · rw [pc_open h1 h2] at hm ⊢
          simp only at hm
          have h2' : dol (c :: t.take (m - 1)) = true := by
            unfold dol at h2 ⊢
            rw [et]
            exact pre_keep h2 (by simp; omega)
          rw [pc_open h1 h2']
          have : m = 2 := by omega
          rw [this]
        · have h2' : ¬ dol (c :: t.take (m - 1)) = true := by
            intro hd
            apply h2
            unfold dol at hd ⊢
            rw [et] at hd
            exact pre_take hd
          by_cases h3 : (unitV (c :: t)).2.2 = 0
          · by_cases h4 : out.length = 65536
            · rw [pc_long h1 h2 h3 h4] at h; simp at h
            · rw [pc_go h1 h2 h3 h4] at h hm ho ⊢
              have hu := unit_off c t h3
              have ho2 := pc_off _ _ _ _ h
              have hut : unitV (c :: t.take (m - 1)) = unitV (c :: t) := by
                have := unit_take (c :: t) h3 m (by omega)
                rwa [take_c (by omega)] at this
              rw [pc_go h1 h2' (by rw [hut]; exact h3) h4, hut]
              have hd : (c :: t.take (m - 1)).drop (unitV (c :: t)).2.1 = ((c :: t).drop (unitV (c :: t)).2.1).take (m - (unitV (c :: t)).2.1) := by
                rw [et, List.drop_take]
              rw [hd, ih _ _ _ h k (i' + (unitV (c :: t)).2.1) (m - (unitV (c :: t)).2.1) (by omega) (by omega)]
              have : i' + (unitV (c :: t)).2.1 + (m - (unitV (c :: t)).2.1) = i' + m := by omega
              rw [this]
          · rw [pc_err h1 h2 h3] at h
            exact absurd h h3
theorem sgn_self : ∀ q ∈ sgnL, sgnL.find? (okS q) = some q := by decide
theorem idx_take {l p : List UInt8} {m i : Nat} (h : Lib.index l p = i) (hm : i + p.length ≤ m) : Lib.index (l.take m) p = i := by
  have hr := Lib.index_room l p (by omega)
  rcases Lib.index_spec l p with ⟨h1, _⟩ | ⟨j, h1, h2, h3, h4⟩
  · omega
  · have hij : j = i := by omega
    subst hij
    refine Lib.index_hit ?_ (by simp; omega) ?_
    · intro k hk
      have := h4 k hk
      cases hc : Lib.occAt (l.take m) p k with
      | false => rfl
      | true =>
        unfold Lib.occAt at hc this
        rw [List.drop_take] at hc
        have h5 : Lib.hasPrefix (l.drop k) p = true := pre_take hc
        have h6 : Lib.hasPrefix (l.drop k) p = false := this
        rw [h5] at h6
        cases h6
    · unfold Lib.occAt at h3 ⊢
      rw [List.drop_take]
      exact pre_keep h3 (by omega)
theorem gap_span : ∀ (n : Nat) (l : List UInt8) (i : Nat), i ≤ (gapV n l i).1 ∧ (gapV n l i).1 ≤ i + l.length := by
  intro n
  induction n with
  | zero => intro l i; simp [gapV]
  | succ n ih =>
    intro l i
    unfold gapV
    have h1 := run_le blkB l
    split
    · rename_i hp
      have h2 := run_le inlB (l.drop (runLen blkB l))
      have := ih ((l.drop (runLen blkB l)).drop (runLen inlB (l.drop (runLen blkB l)))) (i + runLen blkB l + runLen inlB (l.drop (runLen blkB l)))
      simp only [List.length_drop] at this h2
      omega
    · split
      · split
        · simp only; omega
        · rename_i hp hx
          have h3 := Lib.index_room ((l.drop (runLen blkB l)).drop 2) [42, 47] (by omega)
          have := ih ((l.drop (runLen blkB l)).drop ((Lib.index ((l.drop (runLen blkB l)).drop 2) [42, 47]).toNat + 4)) (i + runLen blkB l + ((Lib.index ((l.drop (runLen blkB l)).drop 2) [42, 47]).toNat + 4))
          simp only [List.length_drop, List.length_cons, List.length_nil] at this h3
          omega
      · simp only; omega
theorem no_pre {a b : UInt8} : ¬ Lib.hasPrefix [] [a, b] = true := by simp [Lib.hasPrefix, List.isPrefixOf]
/-- a gap's own bytes read as the gap -/
theorem gap_cutE : ∀ (n : Nat) (l : List UInt8) (i f : Nat), gapV n l i = (f, 0) → ∀ (n' i' m : Nat), m = f - i → m < n' → gapV n' (l.take m) i' = (i' + m, 0) := by
  intro n
  induction n with
  | zero =>
    intro l i f h n' i' m hm hn
    simp only [gapV, Prod.mk.injEq] at h
    have h0 : m = 0 := by omega
    subst h0
    obtain ⟨k, rfl⟩ : ∃ k, n' = k + 1 := ⟨n' - 1, by omega⟩
    rw [List.take_zero]
    unfold gapV
    rw [show runLen blkB [] = 0 from rfl, List.drop_nil, if_neg no_pre, if_neg no_pre]
  | succ n ih =>
    intro l i f h n' i' m hm hn
    obtain ⟨k, rfl⟩ : ∃ k, n' = k + 1 := ⟨n' - 1, by omega⟩
    have hge := gap_span (n + 1) l i
    rw [h] at hge
    simp only at hge
    obtain ⟨b, hb⟩ : ∃ b, b = runLen blkB l := ⟨_, rfl⟩
    unfold gapV at h ⊢
    rw [← hb] at h
    by_cases h1 : Lib.hasPrefix (l.drop b) [47, 47] = true
    · rw [if_pos h1] at h
      obtain ⟨c, hc⟩ : ∃ c, c = runLen inlB (l.drop b) := ⟨_, rfl⟩
      rw [← hc] at h
      have hc2 := inl_two h1
      rw [← hc] at hc2
      have hg2 := gap_span n ((l.drop b).drop c) (i + b + c)
      rw [h] at hg2
      simp only at hg2
      have hbt : runLen blkB (l.take m) = b := by rw [run_take blkB l m (by omega)]; exact hb.symm
      rw [hbt, List.drop_take, if_pos (pre_keep h1 (by simp; omega))]
      have hct : runLen inlB ((l.drop b).take (m - b)) = c := by rw [run_take inlB (l.drop b) (m - b) (by omega)]; exact hc.symm
      rw [hct, List.drop_take, ih _ _ _ h k (i' + b + c) (m - b - c) (by omega) (by omega)]
      have : i' + b + c + (m - b - c) = i' + m := by omega
      rw [this]
    · rw [if_neg h1] at h
      by_cases h2 : Lib.hasPrefix (l.drop b) [47, 42] = true
      · rw [if_pos h2] at h
        by_cases h3 : Lib.index ((l.drop b).drop 2) [42, 47] < 0
        · rw [if_pos h3] at h
          simp at h
        · rw [if_neg h3] at h
          obtain ⟨x, hx⟩ : ∃ x : Nat, Lib.index ((l.drop b).drop 2) [42, 47] = x := ⟨(Lib.index ((l.drop b).drop 2) [42, 47]).toNat, by omega⟩
          rw [hx, Int.toNat_natCast] at h
          have hg2 := gap_span n ((l.drop b).drop (x + 4)) (i + b + (x + 4))
          rw [h] at hg2
          simp only at hg2
          have hbt : runLen blkB (l.take m) = b := by rw [run_take blkB l m (by omega)]; exact hb.symm
          have hxt : Lib.index (((l.drop b).take (m - b)).drop 2) [42, 47] = x := by
            rw [List.drop_take]
            exact idx_take hx (by simp; omega)
          rw [hbt, List.drop_take, if_neg (fun hp => h1 (pre_take hp)), if_pos (pre_keep h2 (by simp; omega)), hxt, if_neg (by omega), Int.toNat_natCast, List.drop_take,
            ih _ _ _ h k (i' + b + (x + 4)) (m - b - (x + 4)) (by omega) (by omega)]
          have : i' + b + (x + 4) + (m - b - (x + 4)) = i' + m := by omega
          rw [this]
      · rw [if_neg h2] at h
        simp only [Prod.mk.injEq, and_true] at h
        have hmb : m = b := by omega
        subst hmb
        have hbt : runLen blkB (l.take m) = m := by rw [run_take blkB l m (by omega)]; exact hb.symm
        rw [hbt, List.drop_take, Nat.sub_self, List.take_zero, if_neg no_pre, if_neg no_pre]
/-- what stands behind a gap begins no gap -/
theorem gap_stop : ∀ (n : Nat) (l : List UInt8) (i f : Nat), gapV n l i = (f, 0) → l.length < n → runLen blkB (l.drop (f - i)) = 0 ∧ ¬ Lib.hasPrefix (l.drop (f - i)) [47, 47] = true ∧ ¬ Lib.hasPrefix (l.drop (f - i)) [47, 42] = true := by
  intro n
  induction n with
  | zero => intro l i f _ h; omega
  | succ n ih =>
    intro l i f h hn
    have hbl := run_le blkB l
    obtain ⟨b, hb⟩ : ∃ b, b = runLen blkB l := ⟨_, rfl⟩
    unfold gapV at h
    rw [← hb] at h hbl
    by_cases h1 : Lib.hasPrefix (l.drop b) [47, 47] = true
    · rw [if_pos h1] at h
      have hc2 := inl_two h1
      have hcl := run_le inlB (l.drop b)
      obtain ⟨c, hc⟩ : ∃ c, c = runLen inlB (l.drop b) := ⟨_, rfl⟩
      rw [← hc] at h hc2 hcl
      have hg := gap_span n ((l.drop b).drop c) (i + b + c)
      rw [h] at hg
      simp only at hg
      rw [List.length_drop] at hcl
      have := ih _ _ _ h (by simp only [List.length_drop]; omega)
      simp only [List.drop_drop] at this
      have e : b + (c + (f - (i + b + c))) = f - i := by omega
      have e2 : b + c + (f - (i + b + c)) = f - i := by omega
      first
        | rwa [e] at this
        | rwa [e2] at this
    · rw [if_neg h1] at h
      by_cases h2 : Lib.hasPrefix (l.drop b) [47, 42] = true
      · rw [if_pos h2] at h
        by_cases h3 : Lib.index ((l.drop b).drop 2) [42, 47] < 0
        · rw [if_pos h3] at h
          simp at h
        · rw [if_neg h3] at h
          obtain ⟨x, hx⟩ : ∃ x : Nat, Lib.index ((l.drop b).drop 2) [42, 47] = x := ⟨(Lib.index ((l.drop b).drop 2) [42, 47]).toNat, by omega⟩
          have hr := Lib.index_room ((l.drop b).drop 2) [42, 47] (by omega)
          rw [hx, Int.toNat_natCast] at h
          rw [hx] at hr
          have hg := gap_span n ((l.drop b).drop (x + 4)) (i + b + (x + 4))
          rw [h] at hg
          simp only [List.length_drop, List.length_cons, List.length_nil] at hg hr
          have := ih _ _ _ h (by simp only [List.length_drop]; omega)
          simp only [List.drop_drop] at this
          have e : b + (x + 4 + (f - (i + b + (x + 4)))) = f - i := by omega
          have e2 : b + (x + 4) + (f - (i + b + (x + 4))) = f - i := by omega
          first
            | rwa [e] at this
            | rwa [e2] at this
      · rw [if_neg h2] at h
        simp only [Prod.mk.injEq, and_true] at h
        have e : f - i = b := by omega
        rw [e]
        refine ⟨?_, h1, h2⟩
        rw [hb]
        exact run_rest blkB l
end Go.Proofs.YtjbnobcnlmkbmaaDoor
