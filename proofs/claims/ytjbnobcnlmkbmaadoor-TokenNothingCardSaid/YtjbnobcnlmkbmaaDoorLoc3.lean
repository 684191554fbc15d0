/-
  What every token of a text says of itself: the gap ahead, its place, its own bytes; the tokens of a text, one behind the other.
-/
import Derived.Test.YtjbnobcnlmkbmaaDoorLoc2
import Derived.Test.YtjbnobcnlmkbmaaDoorTAllV
namespace Go.Proofs.YtjbnobcnlmkbmaaDoor
open Go.RowKit

def pieceB (t : NT) : Bool := (t.kind == 6) && (t.n == 1)
/-- what a token t says that was read from offset p on -/
structure Self (s : ByteArray) (p : Nat) (t : NT) (f e : Nat) : Prop where
  at_ : t.a = f
  to_ : t.to = e
  lo : p ≤ f
  mid : f ≤ e
  hi : e ≤ s.size
  gap : gapV (f + 1) ((s.data.toList.take f).drop p) p = (f, 0)
  own : nxT (s.extract f e) 0 (pieceB t) = ⟨t.kind, 0, ((e - f : Nat) : Int), t.n, t.s, false, t.o, 0, 0⟩
  last : t.kind = 0 → e = s.size
theorem nx_none : nxT ⟨#[]⟩ 0 false = ⟨0, 0, 0, 0, ⟨#[]⟩, false, false, 0, 0⟩ := by kernel_rfl
theorem nx_self (s : ByteArray) (p : Nat) (tail : Bool) (hs : s.size ≤ 65536) (hp : p ≤ s.size) (he : (nxT s p tail).err = 0) : ∃ f e, Self s p (nxT s p tail) f e := by
  have hgb := gap_bounds s (s.size + 1) p hp
  obtain ⟨g, hg⟩ : ∃ g, g = gapV (s.size + 1) (s.data.toList.drop p) p := ⟨_, rfl⟩
  have hnx : nxT s p tail = nxG g (readT s g.1 tail) (nlL ((s.data.toList.drop p).take (g.1 - p))) := by
    unfold nxT
    rw [if_neg (by omega), if_neg (by omega), Int.toNat_natCast, ← hg]
  rw [← hg] at hgb
  obtain ⟨f, er⟩ := g
  rw [hnx] at he ⊢
  unfold nxG at he ⊢
  simp only at hgb he ⊢
  by_cases h0 : er = 0
  · subst h0
    rw [if_pos rfl] at he ⊢
    by_cases h1 : (readT s f tail).err = 0
    · rw [if_pos h1]
      have hgap : gapV (f + 1) ((s.data.toList.take f).drop p) p = (f, 0) := by
        rw [List.drop_take]
        have h2 := gap_cutE (s.size + 1) (s.data.toList.drop p) p f hg.symm (f + 1) p (f - p) rfl (by omega)
        rw [h2]
        have : p + (f - p) = f := by omega
        rw [this]
      by_cases hf : f < s.size
      · obtain ⟨e, h3, h4, h5, h6⟩ := read_self s f tail hf h1
        refine ⟨f, e, rfl, h3, hgb.1, by omega, h5, hgap, ?_, fun h => absurd h (read_to s f tail hf h1).2.2⟩
        have hend := gap_stop (s.size + 1) (s.data.toList.drop p) p f hg.symm (by simp; omega)
        simp only [List.drop_drop] at hend
        have epf : p + (f - p) = f := by omega
        rw [epf] at hend
        obtain ⟨e1, e2, e3⟩ := hend
        have hl := ex_list s f e
        have hsz := ex_size s f e h5
        have g0 : gapV ((s.extract f e).size + 1) ((s.extract f e).data.toList.drop 0) 0 = (0, 0) := by
          rw [List.drop_zero, hl]
          unfold gapV
          have hr : runLen blkB ((s.data.toList.drop f).take (e - f)) = 0 := by rw [run_take _ _ _ (by omega), e1]
          rw [hr, List.drop_zero, if_neg (fun hp => e2 (pre_take hp)), if_neg (fun hp => e3 (pre_take hp))]
        unfold nxT
        rw [if_neg (by omega), if_neg (by omega)]
        rw [show Int.toNat 0 = 0 from rfl, g0]
        unfold nxG
        simp only [if_true]
        unfold pieceB
        simp only
        rw [h6]
        simp [nlL, Lib.indexAny]
      · have hf2 : f = s.size := by omega
        rw [readT_end s f tail (by omega)]
        refine ⟨f, f, rfl, rfl, hgb.1, Nat.le_refl _, hgb.2, hgap, ?_, fun _ => hf2⟩
        have hz : s.extract f f = ⟨#[]⟩ := by
          apply ByteArray.ext
          apply Array.eq_empty_of_size_eq_zero
          have := ex_size s f f hgb.2
          simp
        rw [hz]
        have : f - f = 0 := by omega
        rw [this]
        exact nx_none
    · rw [if_neg h1] at he
      simp [noN] at he
      exact absurd he h1
  · rw [if_neg h0] at he
    simp [noN] at he
    exact absurd he h0
/-- the tokens from offset p on, each read behind the one before, the last the end -/
def Chain (s : ByteArray) : Nat → List NT → Prop
  | _, [] => False
  | p, t :: r => ∃ f e, Self s p t f e ∧ ((t.kind = 0 ∧ r = []) ∨ (¬ t.kind = 0 ∧ Chain s e r))
theorem all_chain (s : ByteArray) (hs : s.size ≤ 65536) : ∀ (n p : Nat) (st : List Int) (acc : List NT) (L : List NT) (x : Int), p ≤ s.size → allV s n p st acc = some (L, x, 0) → ∃ M, L = acc ++ M ∧ Chain s p M := by
  intro n
  induction n with
  | zero => intro p st acc L x _ h; simp [allV] at h
  | succ n ih =>
    intro p st acc L x hp h
    unfold allV at h
    by_cases h1 : (nxT s p (tailV st)).err = 0
    · rw [if_pos h1] at h
      obtain ⟨f, e, hself⟩ := nx_self s p (tailV st) hs hp h1
      by_cases h2 : (nxT s p (tailV st)).kind = 0
      · rw [if_pos h2] at h
        simp only [Option.some.injEq, Prod.mk.injEq] at h
        exact ⟨[nxT s p (tailV st)], h.1.symm, f, e, hself, .inl ⟨h2, rfl⟩⟩
      · rw [if_neg h2] at h
        cases hn : nestV st (nxT s p (tailV st)) with
        | none => rw [hn] at h; cases h
        | some st' =>
          rw [hn] at h
          simp only at h
          rw [hself.to_] at h
          obtain ⟨M, hM, hC⟩ := ih e st' _ L x hself.hi h
          exact ⟨nxT s p (tailV st) :: M, by rw [hM]; simp, f, e, hself, .inr ⟨h2, hC⟩⟩
    · rw [if_neg h1] at h
      simp only [Option.some.injEq, Prod.mk.injEq] at h
      exact absurd h.2.2 h1
/-- the chain at its i-th token, read from offset p -/
theorem chain_at {s : ByteArray} : ∀ {M : List NT} {q i p : Nat} {t : NT}, Chain s q M → M[i]? = some t → (i = 0 → p = q) → (∀ j u, i = j + 1 → M[j]? = some u → u.to = p) →
    ∃ f e, Self s p t f e ∧ (t.kind = 0 ↔ i + 1 = M.length) := by
  intro M
  induction M with
  | nil => intro q i p t h; exact absurd h (by simp [Chain])
  | cons x r ih =>
    intro q i p t h ht h0 hj
    obtain ⟨f, e, hs, hc⟩ := h
    cases i with
    | zero =>
      simp at ht
      subst ht
      have : p = q := h0 rfl
      subst this
      refine ⟨f, e, hs, ?_⟩
      rcases hc with ⟨h1, rfl⟩ | ⟨h1, h2⟩
      · simp [h1]
      · constructor
        · intro h; exact absurd h h1
        · intro h
          have : r = [] := by
            simp at h
            exact h
          subst this
          exact absurd h2 (by simp [Chain])
    | succ i =>
      rcases hc with ⟨h1, rfl⟩ | ⟨h1, h2⟩
      · simp at ht
      · have ht' : r[i]? = some t := by simpa using ht
        have := ih (q := e) (i := i) (p := p) h2 ht' (fun hi => by
          subst hi
          have h3 := hj 0 x rfl rfl
          rw [hs.to_] at h3
          omega) (fun j u hj' hu => hj (j + 1) u (by omega) (by simpa using hu))
        obtain ⟨f', e', h4, h5⟩ := this
        exact ⟨f', e', h4, by rw [h5]; simp⟩
end Go.Proofs.YtjbnobcnlmkbmaaDoor
