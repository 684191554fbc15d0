/-
  Each token behind its first byte ends behind it, and within the text.
-/
import Derived.Test.YtjbnobcnlmkbmaaDoorTAllV
namespace Go.Proofs.YtjbnobcnlmkbmaaDoor
open Go.RowKit

theorem unit_off (c : UInt8) (t : List UInt8) (h : (unitV (c :: t)).2.2 = 0) : 1 ≤ (unitV (c :: t)).2.1 ∧ (unitV (c :: t)).2.1 ≤ (c :: t).length := by
  by_cases h92 : (c.toNat : Int) = 92
  · rw [unit_esc h92] at h ⊢
    have := esc_len t h
    simp only [List.length_cons]
    omega
  · rw [unit_one h92]
    simp
theorem rd_off (q : UInt8) : ∀ (n : Nat) (l : List UInt8) (i : Nat) (out : List UInt8), (rdV q n l i out).2.2 = 0 → i < (rdV q n l i out).2.1 ∧ (rdV q n l i out).2.1 ≤ i + l.length := by
  intro n
  induction n with
  | zero => intro l i out h; simp [rdV] at h
  | succ n ih =>
    intro l i out h
    cases l with
    | nil => simp [rdV] at h
    | cons c t =>
      by_cases h1 : c = q
      · subst h1
        rw [rd_end]
        simp only [List.length_cons]
        omega
      · by_cases h2 : (c.toNat : Int) = 10 ∨ (c.toNat : Int) = 13
        · rw [rd_line h1 h2] at h; simp at h
        · by_cases h3 : (unitV (c :: t)).2.2 = 0
          · by_cases h4 : out.length = 65536
            · rw [rd_long h1 h2 h3 h4] at h; simp at h
            · rw [rd_go h1 h2 h3 h4] at h ⊢
              have hu := unit_off c t h3
              have := ih _ _ _ h
              rw [List.length_drop] at this
              omega
          · rw [rd_err h1 h2 h3] at h
            exact absurd h h3
theorem pc_off : ∀ (n : Nat) (l : List UInt8) (i : Nat) (out : List UInt8), (pcV n l i out).2.2.2 = 0 → i < (pcV n l i out).2.1 ∧ (pcV n l i out).2.1 ≤ i + l.length := by
  intro n
  induction n with
  | zero => intro l i out h; simp [pcV] at h
  | succ n ih =>
    intro l i out h
    cases l with
    | nil => simp [pcV] at h
    | cons c t =>
      by_cases h1 : (c.toNat : Int) = 96
      · rw [pc_end h1]
        simp only [List.length_cons]
        omega
      · by_cases h2 : dol (c :: t) = true
        · rw [pc_open h1 h2]
          have := pre_len h2
          simp only
          omega
        · by_cases h3 : (unitV (c :: t)).2.2 = 0
          · by_cases h4 : out.length = 65536
            · rw [pc_long h1 h2 h3 h4] at h; simp at h
            · rw [pc_go h1 h2 h3 h4] at h ⊢
              have hu := unit_off c t h3
              have := ih _ _ _ h
              rw [List.length_drop] at this
              omega
          · rw [pc_err h1 h2 h3] at h
            exact absurd h h3
theorem sg_len : ∀ q ∈ sgnL, 1 ≤ q.length := by decide
theorem pre_le {l q : List UInt8} (h : Lib.hasPrefix l q = true) : q.length ≤ l.length := by
  have : q <+: l := by simpa [Lib.hasPrefix] using h
  exact this.length_le
theorem read_to (s : ByteArray) (k : Nat) (tail : Bool) (hk : k < s.size) (h : (readT s k tail).err = 0) : (k : Int) < (readT s k tail).to ∧ (readT s k tail).to ≤ s.size ∧ ¬ (readT s k tail).kind = 0 := by
  obtain ⟨c, hc⟩ : ∃ c : UInt8, s[k] = c := ⟨_, rfl⟩
  rw [readT_at s k tail c hk hc] at h ⊢
  unfold readC at h ⊢
  have hdl : (s.data.toList.drop (k + 1)).length = s.size - (k + 1) := by simp
  by_cases h1 : letB c.toNat = true
  · rw [if_pos h1]
    unfold nameT nameE
    have := id_le (s.data.toList.drop (k + 1))
    refine ⟨?_, ?_, ?_⟩
    · simp only; omega
    · simp only; omega
    · simp only; split <;> simp
  · rw [if_neg h1] at h ⊢
    by_cases h2 : digB c.toNat = true
    · rw [if_pos h2] at h ⊢
      rw [numT_eq] at h ⊢
      unfold nmR at h ⊢
      have hr : numE s k = k + 1 + runLen idcB (s.data.toList.drop (k + 1)) := by
        unfold numE
        rw [drop_cons s k hk, hc, run_yes (by unfold idcB; rw [h2]; simp)]
        omega
      have hl := run_le idcB (s.data.toList.drop (k + 1))
      split at h
      · simp [noT] at h
      · rename_i hz
        rw [if_neg hz]
        split at h
        · rename_i v hv
          simp only
          refine ⟨by omega, by omega, by simp⟩
        · simp [noT] at h
    · rw [if_neg h2] at h ⊢
      by_cases h3 : (c.toNat : Int) = 39 ∨ (c.toNat : Int) = 34
      · rw [if_pos h3] at h ⊢
        unfold textT at h ⊢
        by_cases he : (rdV c s.size (s.data.toList.drop (k + 1)) (k + 1) []).2.2 = 0
        · rw [if_pos he]
          have := rd_off c _ _ _ _ he
          refine ⟨by simp only; omega, by simp only; omega, by simp⟩
        · rw [if_neg he] at h
          exact absurd h he
      · rw [if_neg h3] at h ⊢
        by_cases h4 : (c.toNat : Int) = 96 ∨ ((c.toNat : Int) = 125 ∧ tail = true)
        · rw [if_pos h4] at h ⊢
          unfold pieceT at h ⊢
          by_cases he : (pcV s.size (s.data.toList.drop (k + 1)) (k + 1) []).2.2.2 = 0
          · rw [if_pos he]
            have := pc_off _ _ _ _ he
            refine ⟨by simp only; omega, by simp only; omega, by simp⟩
          · rw [if_neg he] at h
            exact absurd h he
        · rw [if_neg h4, signT_eq] at h ⊢
          cases hf : sgnL.find? (okS (s.data.toList.drop k)) with
          | none => rw [hf] at h; simp [sgR, noT] at h
          | some q =>
            have h5 := sg_len q (List.mem_of_find?_eq_some hf)
            have h6 := List.find?_some hf
            have h7 : Lib.hasPrefix (s.data.toList.drop k) q = true := by
              unfold okS at h6
              simp only [Bool.and_eq_true] at h6
              exact h6.1
            have h8 := pre_le h7
            have h9 : (s.data.toList.drop k).length = s.size - k := by simp
            refine ⟨by simp only [sgR]; omega, by simp only [sgR]; omega, by simp [sgR]⟩
theorem read_tail (s : ByteArray) (k : Nat) (tail : Bool) (hk : k < s.size) (h : (readT s k tail).kind = 6) (hn : (readT s k tail).n = 1) : tail = true := by
  obtain ⟨c, hc⟩ : ∃ c : UInt8, s[k] = c := ⟨_, rfl⟩
  rw [readT_at s k tail c hk hc] at h hn
  unfold readC at h hn
  by_cases h1 : letB c.toNat = true
  · rw [if_pos h1] at h
    unfold nameT at h
    simp only at h
    split at h <;> simp at h
  · rw [if_neg h1] at h hn
    by_cases h2 : digB c.toNat = true
    · rw [if_pos h2, numT_eq] at h
      unfold nmR at h
      split at h
      · simp [noT] at h
      · split at h
        · simp at h
        · simp [noT] at h
    · rw [if_neg h2] at h hn
      by_cases h3 : (c.toNat : Int) = 39 ∨ (c.toNat : Int) = 34
      · rw [if_pos h3] at h
        unfold textT at h
        split at h <;> simp [noT] at h
      · rw [if_neg h3] at h hn
        by_cases h4 : (c.toNat : Int) = 96 ∨ ((c.toNat : Int) = 125 ∧ tail = true)
        · rcases h4 with h4 | h4
          · rw [if_pos (Or.inl h4)] at h hn
            unfold pieceT at h hn
            split at h
            · rename_i he
              rw [if_pos he, if_neg (by omega)] at hn
              simp at hn
            · simp [noT] at h
          · exact h4.2
        · rw [if_neg h4, signT_eq] at h
          cases hf : sgnL.find? (okS (s.data.toList.drop k)) with
          | none => rw [hf] at h; simp [sgR, noT] at h
          | some q => rw [hf] at h; simp [sgR] at h
/-- what a token without error says, within the text -/
theorem nx_in (s : ByteArray) (p : Nat) (tail : Bool) (hs : s.size ≤ 65536) (hp : p ≤ s.size) (he : (nxT s p tail).err = 0) (hk : ¬ (nxT s p tail).kind = 0) :
    (p : Int) < (nxT s p tail).to ∧ (nxT s p tail).to ≤ s.size ∧ ((nxT s p tail).kind = 6 → (nxT s p tail).n = 1 → tail = true) := by
  have hb := gap_bounds s (s.size + 1) p hp
  unfold nxT at he hk ⊢
  rw [if_neg (by omega), if_neg (by omega), Int.toNat_natCast] at he hk ⊢
  generalize gapV (s.size + 1) (s.data.toList.drop p) p = g at hb he hk ⊢
  obtain ⟨f, er⟩ := g
  unfold nxG at he hk ⊢
  simp only at hb he hk ⊢
  by_cases h0 : er = 0
  · rw [if_pos h0] at he hk ⊢
    by_cases h1 : (readT s f tail).err = 0
    · rw [if_pos h1] at hk ⊢
      simp only at hk ⊢
      by_cases hf : f < s.size
      · have h2 := read_to s f tail hf h1
        exact ⟨by omega, h2.2.1, read_tail s f tail hf⟩
      · rw [readT_end s f tail (by omega)] at hk
        simp at hk
    · rw [if_neg h1] at hk
      simp [noN] at hk
  · rw [if_neg h0] at hk
    simp [noN] at hk
theorem nest_some {st : List Int} {t : NT} (h : t.kind = 6 → t.n = 1 → ¬ st = []) : ∃ st', nestV st t = some st' := by
  unfold nestV
  by_cases h1 : t.kind = 6
  · rw [if_pos h1]
    by_cases h2 : t.n = 0
    · rw [if_pos h2]; split <;> exact ⟨_, rfl⟩
    · rw [if_neg h2]
      by_cases h3 : t.n = 1
      · rw [if_pos h3, if_neg (h h1 h3)]; split <;> exact ⟨_, rfl⟩
      · rw [if_neg h3]; exact ⟨_, rfl⟩
  · rw [if_neg h1]
    repeat' split
    all_goals exact ⟨_, rfl⟩
theorem all_some (s : ByteArray) (hs : s.size ≤ 65536) : ∀ (n p : Nat) (st : List Int) (acc : List NT), p ≤ s.size → s.size < p + n → ∃ R, allV s n p st acc = some R := by
  intro n
  induction n with
  | zero => intro p st acc hp hn; omega
  | succ n ih =>
    intro p st acc hp hn
    unfold allV
    by_cases h1 : (nxT s p (tailV st)).err = 0
    · rw [if_pos h1]
      by_cases h2 : (nxT s p (tailV st)).kind = 0
      · rw [if_pos h2]; exact ⟨_, rfl⟩
      · rw [if_neg h2]
        obtain ⟨h3, h4, h5⟩ := nx_in s p (tailV st) hs hp h1 h2
        obtain ⟨st', h6⟩ := nest_some (st := st) (t := nxT s p (tailV st)) (fun a b => by
          have := h5 a b
          rintro rfl
          simp [tailV] at this)
        rw [h6]
        obtain ⟨q, hq⟩ : ∃ q : Nat, (nxT s p (tailV st)).to = q := ⟨(nxT s p (tailV st)).to.toNat, by omega⟩
        simp only
        rw [hq]
        exact ih q st' _ (by omega) (by omega)
    · rw [if_neg h1]; exact ⟨_, rfl⟩
end Go.Proofs.YtjbnobcnlmkbmaaDoor
