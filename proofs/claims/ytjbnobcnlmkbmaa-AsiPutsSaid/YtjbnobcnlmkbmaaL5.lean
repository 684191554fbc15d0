/-
  The law AsiPlain at this translation.
-/
import Derived.Test.YtjbnobcnlmkbmaaL4
import Derived.Laws.AppendOwnNone
namespace Go.Proofs.Ytjbnobcnlmkbmaa
open Go.RowKit

def unl (t : Tk) : Tk := { t with line := false }
def mixL (l : List Tk) (k : Nat) : List Tk := (l.take k).map unl ++ l.drop k
theorem mix_get (l : List Tk) (k i : Nat) (hk : k ≤ l.length) : (mixL l k)[i]? = if i < k then l[i]?.map unl else l[i]? := by
  have hl : ((l.take k).map unl).length = k := by simp; omega
  unfold mixL
  by_cases h : i < k
  · rw [if_pos h, List.getElem?_append_left (by omega), List.getElem?_map, List.getElem?_take, if_pos h]
  · rw [if_neg h, List.getElem?_append_right (by omega), hl, List.getElem?_drop]
    congr 1
    omega
theorem mix_all (l : List Tk) : mixL l l.length = l.map unl := by simp [mixL]
theorem mix_none (l : List Tk) : mixL l 0 = l := by simp [mixL]
def FlatIn (cur : Array Value) (m : List Tk) : Prop := ∀ (i : Nat) (t : Tk), m[i]? = some t → ∀ (j : Nat) (u : Value), (tkC t)[j]? = some u → cur[i * 7 + j]? = some u
theorem tkC_lt {t : Tk} {j : Nat} {u : Value} (h : (tkC t)[j]? = some u) : j < 7 := (List.getElem?_eq_some_iff.1 h).1
theorem flat_step {cur : Array Value} {l : List Tk} {k : Nat} (h : FlatIn cur (mixL l k)) (hk : k < l.length) (hs : k * 7 + 5 < cur.size) : FlatIn (cur.setIfInBounds (k * 7 + 5) (.bool false)) (mixL l (k + 1)) := by
  intro i t ht j u hu
  have hj := tkC_lt hu
  rw [mix_get l (k + 1) i (by omega)] at ht
  have h0 := h i
  rw [mix_get l k i (by omega)] at h0
  rw [Array.getElem?_setIfInBounds]
  by_cases hi : i = k
  · subst hi
    rw [if_pos (by omega)] at ht
    rw [if_neg (by omega)] at h0
    cases hl : l[i]? with
    | none => rw [hl] at ht; cases ht
    | some x =>
      rw [hl] at ht
      simp at ht
      subst ht
      by_cases h5 : j = 5
      · subst h5
        rw [if_pos rfl, if_pos hs]
        simpa [tkC, unl] using hu
      · rw [if_neg (by omega)]
        refine h0 x hl j u ?_
        match j, h5, hu with
        | 0, _, hu => exact hu
        | 1, _, hu => exact hu
        | 2, _, hu => exact hu
        | 3, _, hu => exact hu
        | 4, _, hu => exact hu
        | 6, _, hu => exact hu
  · rw [if_neg (by omega)]
    refine h0 t ?_ j u hu
    rw [← ht]
    by_cases h1 : i < k
    · rw [if_pos h1, if_pos (by omega)]
    · rw [if_neg h1, if_neg (by omega)]
theorem flat_cells {W : World} {g : Nat} {cur : Array Value} {m : List Tk} {i : Nat} {t : Tk} (hg : W.heap[g]? = some (.cells cur 24 (0, 0))) (h : FlatIn cur m) (ht : m[i]? = some t) : CellsAt W g (0 + i * 7) t := by
  have key : ∀ j u, (tkC t)[j]? = some u → W.cell? ⟨g, 0 + i * 7 + j, none⟩ = some u := by
    intro j u hu
    rw [Nat.zero_add]
    exact (Lib.cell_of_heap hg _).trans (h i t ht j u hu)
  exact ⟨key 0 _ rfl, key 1 _ rfl, key 2 _ rfl, key 3 _ rfl, key 4 _ rfl, key 5 _ rfl, key 6 _ rfl⟩
theorem flat_tks {W : World} {g cap n : Nat} {cur : Array Value} {m : List Tk} (hg : W.heap[g]? = some (.cells cur 24 (0, 0))) (h : FlatIn cur m) (hn : n = m.length) (hc : n ≤ cap) (hm : cap ≤ maxLen) : TksIn W (.slice (some ⟨g, 0, none⟩) n cap) m :=
  ⟨some ⟨g, 0, none⟩, cap, by rw [hn], by omega, hm, fun i t ht => ⟨g, 0, rfl, lt_of_heap hg, flat_cells hg h ht⟩⟩
theorem unl_line (l : List Tk) : ∀ k, lineL (l.map unl) k = [] := by
  intro k
  induction k with
  | zero => rfl
  | succ k ih =>
    unfold lineL
    rw [List.getElem?_map]
    cases l[k]? with
    | none => exact ih
    | some t => simpa [unl] using ih
def RelFlat (W : World) (l : List Tk) (g cap n : Nat) (i : Value) (wr : World) : Prop := ∃ (k : Nat) (cur : Array Value), k ≤ n ∧ i = .int .i64 k ∧ wr.heap[g]? = some (.cells cur 24 (0, 0)) ∧ cur.size = cap * 7 ∧ FlatIn cur (mixL l k) ∧ Below W.heap.size W wr
/-- how a token ends a statement with its Line and without -/
theorem plain_ways (k : Nat) (t : Tk) : (∃ m, endsV k t = (m, true) ∧ endsV k (unl t) = (m, true)) ∨ (endsV k t = ((k : Int), true) ∧ endsV k (unl t) = (0, false) ∧ t.line = true) ∨ (endsV k t = (0, false) ∧ endsV k (unl t) = (0, false)) := by
  unfold endsV unl mayB
  simp only
  by_cases h1 : sgnB t.kind t.s [59] = true
  · left
    exact ⟨k + 1, by rw [if_pos h1], by rw [if_pos h1]⟩
  · rw [if_neg h1, if_neg h1]
    cases hl : t.line with
    | true =>
      cases hq : ((t.kind == 0) || sgnB t.kind t.s [125]) with
      | true => left; exact ⟨k, by simp, by simp⟩
      | false => right; left; simp
    | false =>
      cases hq : ((t.kind == 0) || sgnB t.kind t.s [125]) with
      | true => left; exact ⟨k, by simp, by simp⟩
      | false => right; right; simp
end Go.Proofs.Ytjbnobcnlmkbmaa
