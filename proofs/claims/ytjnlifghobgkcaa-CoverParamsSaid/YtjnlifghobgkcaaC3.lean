/-
  copied of package cover at this translation: a tree like the one that came in, in blocks of its own.
-/
import Derived.Test.YtjnlifghobgkcaaC2
namespace Go.Proofs.Ytjnlifghobgkcaa
open Go.RowKit

theorem c_one {W : World} {b : Nat} {cs : Array Value} {T : TypeId} (i : Nat) (v : Value) (hW : W.heap[b]? = some (.cells cs T (0, 0))) : (W.setCell ⟨b, i, none⟩ v).heap[b]? = some (.cells (cs.setIfInBounds i v) T (0, 0)) := by
  show (W.heap.modify b _)[b]? = _
  rw [Array.getElem?_modify, if_pos rfl, hW]
  rfl
theorem c_gset {w w' : World} {g i : Nat} {r : Option Nat} (h : w.grownBy w' r) (hg : r = some g) (v : Value) : w.grownBy (w'.setCell ⟨g, i, none⟩ v) r := by
  refine ⟨h.os, h.tape, h.output, ?_, ?_⟩
  · have e : (w'.setCell ⟨g, i, none⟩ v).heap.size = w'.heap.size := by simp [World.setCell]
    rw [e]
    exact h.size
  · intro k hk hne
    have e : (w'.setCell ⟨g, i, none⟩ v).heap[k]? = w'.heap[k]? := Below.heap_setCell w' ⟨g, i, none⟩ v k (fun e => hne (by rw [hg, e]))
    rw [e]
    exact h.block k hk hne
/-- a node stored at an offset of a row -/
def st6 (w : World) (g o : Nat) (x0 x1 x2 x3 x4 x5 : Value) : World := (((((w.setCell ⟨g, o, none⟩ x0).setCell ⟨g, o + 1, none⟩ x1).setCell ⟨g, o + 2, none⟩ x2).setCell ⟨g, o + 3, none⟩ x3).setCell ⟨g, o + 4, none⟩ x4).setCell ⟨g, o + 5, none⟩ x5
theorem st6_grown (w : World) (g o : Nat) (x0 x1 x2 x3 x4 x5 : Value) : w.grownBy (st6 w g o x0 x1 x2 x3 x4 x5) (some g) :=
  c_gset (c_gset (c_gset (c_gset (c_gset (c_gset ⟨rfl, rfl, rfl, Nat.le_refl _, fun _ _ _ => rfl⟩ rfl _) rfl _) rfl _) rfl _) rfl _) rfl _
theorem flat_set : ∀ {L : List TV} {k : Nat} {x : TV} (y : TV), L[k]? = some x → ((((((L.flatMap pC).set (k * 6) (.int .i64 y.1.op)).set (k * 6 + 1) (.int .i64 y.1.a)).set (k * 6 + 2) (.int .i64 y.1.n)).set (k * 6 + 3) (.int .i64 y.1.m)).set (k * 6 + 4) (.string y.1.s)).set (k * 6 + 5) y.2 = (L.set k y).flatMap pC := by
  intro L
  induction L with
  | nil => intro k x y h; simp at h
  | cons z r ih =>
    intro k x y h
    cases k with
    | zero => simp [pC, ndC]
    | succ k =>
      have h2 := ih y (by simpa using h)
      have e0 : (k + 1) * 6 = k * 6 + 6 := by omega
      simp only [List.flatMap_cons, List.set_cons_succ]
      rw [← h2]
      simp only [pC, ndC, List.cons_append, List.nil_append, e0]
      rfl
theorem prow_set {w : World} {B T : Nat} {v : Value} {L : List TV} {g k : Nat} {x : TV} (h : PRow w B T v L) (hg : v.ownBlock = some g) (hx : L[k]? = some x) (y : TV) : PRow (st6 w g (k * 6) (.int .i64 y.1.op) (.int .i64 y.1.a) (.int .i64 y.1.n) (.int .i64 y.1.m) (.string y.1.s) y.2) B T v (L.set k y) := by
  rcases h.2 with ⟨rfl, h0⟩ | ⟨g', cap, cur, rfl, hb, hgg, hn, hm, hs, ht⟩
  · simp [Value.ownBlock] at hg
  · simp [Value.ownBlock] at hg
    subst hg
    have H := c_one (k * 6 + 5) y.2 (c_one (k * 6 + 4) (.string y.1.s) (c_one (k * 6 + 3) (.int .i64 y.1.m) (c_one (k * 6 + 2) (.int .i64 y.1.n) (c_one (k * 6 + 1) (.int .i64 y.1.a) (c_one (k * 6) (.int .i64 y.1.op) hgg)))))
    unfold PRow
    have hl : (L.set k y).length = L.length := by simp
    rw [hl]
    refine ⟨by rw [pC_flat_len, hl], .inr ⟨g', cap, _, rfl, hb, H, hn, hm, by simpa using hs, ?_⟩⟩
    rw [← flat_set y hx, ← ht]
    simp only [Array.toList_setIfInBounds, List.take_set]
theorem c_st6' {B : Nat} {w w1 : World} {g o : Nat} {x0 x1 x2 x3 x4 x5 : Value} (h : Below B w w1) (hB : B ≤ g) : Below B w (st6 w1 g o x0 x1 x2 x3 x4 x5) :=
  c_set _ _ (c_set _ _ (c_set _ _ (c_set _ _ (c_set _ _ (c_set _ _ h hB) hB) hB) hB) hB) hB
theorem st6_heap (w : World) (g o : Nat) (x0 x1 x2 x3 x4 x5 : Value) (i : Nat) (h : i ≠ g) : (st6 w g o x0 x1 x2 x3 x4 x5).heap[i]? = w.heap[i]? := by
  unfold st6
  rw [Below.heap_setCell _ _ _ _ h, Below.heap_setCell _ _ _ _ h, Below.heap_setCell _ _ _ _ h, Below.heap_setCell _ _ _ _ h, Below.heap_setCell _ _ _ _ h, Below.heap_setCell _ _ _ _ h]
theorem st6_size (w : World) (g o : Nat) (x0 x1 x2 x3 x4 x5 : Value) : (st6 w g o x0 x1 x2 x3 x4 x5).heap.size = w.heap.size := by simp [st6, World.setCell]

/-- a node comes back, in blocks of S -/
def NPost (w : World) (S : Nat → Prop) (t : Tr) : Ending → World → Prop := fun e w' => ∃ ao len cap, e = .returned (.agg #[.int .i64 t.op, .int .i64 t.a, .int .i64 t.n, .int .i64 t.m, .string t.s, .slice ao len cap]) ∧ TIn w' S t (.slice ao len cap) ∧ Below w.heap.size w w'
def zero6 : Array Value := #[.int .i64 0, .int .i64 0, .int .i64 0, .int .i64 0, .string ⟨#[]⟩, .slice none 0 0]
theorem tin_all {w w2 U : World} {S : Nat → Prop} {t : Tr} {k : Value} (h : TIn w S t k) (hb : Below w.heap.size w w2) (he : U.heap = w2.heap) : TIn U (fun _ => True) t k :=
  tin_imp (fun b hb' _ => ⟨trivial, by rw [he]; exact hb.block b hb'⟩) (by rw [he]; exact hb.size) t k h
theorem prow_frozen {w : World} {B T : Nat} {v : Value} {L : List TV} {g : Nat} (h : PRow w B T v L) (hg : v.ownBlock = some g) (j : Nat) : w.frozen? ⟨g, j, none⟩ = false := by
  rcases h.2 with ⟨rfl, h0⟩ | ⟨g', cap, cur, rfl, hb, hgg, hn, hm, hs, ht⟩
  · simp [Value.ownBlock] at hg
  · simp [Value.ownBlock] at hg
    subst hg
    simp [World.frozen?, hgg]
/-- an own row behind a call -/
theorem prow_walk {w w2 U w' : World} {B T : Nat} {v : Value} {L : List TV} {g k : Nat} {x : TV} (h : PRow w B T v L) (hb : Below w.heap.size w w2) (he : U.heap = w2.heap) (hB : Below U.heap.size U w') (hg : v.ownBlock = some g) (hx : L[k]? = some x) :
    PRow w' B T v L ∧ NCells w' g (k * 6) x.1 x.2 ∧ w'.frozen? ⟨g, k * 6, none⟩ = false ∧ w'.frozen? ⟨g, k * 6 + 1, none⟩ = false ∧ w'.frozen? ⟨g, k * 6 + 2, none⟩ = false ∧ w'.frozen? ⟨g, k * 6 + 3, none⟩ = false ∧ w'.frozen? ⟨g, k * 6 + 4, none⟩ = false ∧ w'.frozen? ⟨g, k * 6 + 5, none⟩ = false := by
  have h2 : PRow w2 B T v L := prow_kept h hb
  have h3 : PRow w' B T v L := by
    refine ⟨h2.1, ?_⟩
    rcases h2.2 with h4 | ⟨g', cap, cur, e, h5, h6, h7⟩
    · exact .inl h4
    · have hlt : g' < U.heap.size := by rw [he]; exact c_lt h6
      exact .inr ⟨g', cap, cur, e, h5, (hB.block g' hlt).trans (by rw [he]; exact h6), h7⟩
  exact ⟨h3, prow_cells h3 hg hx, prow_frozen h3 hg _, prow_frozen h3 hg _, prow_frozen h3 hg _, prow_frozen h3 hg _, prow_frozen h3 hg _, prow_frozen h3 hg _⟩
theorem nsev {w : World} {b g : Nat} {T U : TypeId} {x0 x1 x2 x3 x4 x5 y0 y1 y2 y3 y4 y5 : Value} (h : w.heap[b]? = some (.cells #[x0, x1, x2, x3, x4, x5] T (0, 0))) (k : w.heap[g]? = some (.cells #[y0, y1, y2, y3, y4, y5] U (0, 0))) :
    w.cell? ⟨b, 5, none⟩ = some x5 ∧ w.cell? ⟨g, 0, none⟩ = some y0 ∧ w.cell? ⟨g, 1, none⟩ = some y1 ∧ w.cell? ⟨g, 2, none⟩ = some y2 ∧ w.cell? ⟨g, 3, none⟩ = some y3 ∧ w.cell? ⟨g, 4, none⟩ = some y4 ∧ w.cell? ⟨g, 5, none⟩ = some y5 :=
  ⟨(c_six h).1.2.2.2.2.2, (c_six k).1⟩
theorem st6_cell (w : World) (g o : Nat) (x0 x1 x2 x3 x4 x5 : Value) (b j : Nat) (h : ¬ b = g) : ((((((w.setCell ⟨g, o, none⟩ x0).setCell ⟨g, o + 1, none⟩ x1).setCell ⟨g, o + 2, none⟩ x2).setCell ⟨g, o + 3, none⟩ x3).setCell ⟨g, o + 4, none⟩ x4).setCell ⟨g, o + 5, none⟩ x5).cell? ⟨b, j, none⟩ = w.cell? ⟨b, j, none⟩ :=
  World.cell?_of_block (a := ⟨b, j, none⟩) (st6_heap w g o x0 x1 x2 x3 x4 x5 b h)
theorem sev_st6 {w : World} {g o : Nat} {x0 x1 x2 x3 x4 x5 : Value} {b c : Nat} {y5 z0 z1 z2 z3 z4 z5 : Value} (h : w.cell? ⟨b, 5, none⟩ = some y5 ∧ w.cell? ⟨c, 0, none⟩ = some z0 ∧ w.cell? ⟨c, 1, none⟩ = some z1 ∧ w.cell? ⟨c, 2, none⟩ = some z2 ∧ w.cell? ⟨c, 3, none⟩ = some z3 ∧ w.cell? ⟨c, 4, none⟩ = some z4 ∧ w.cell? ⟨c, 5, none⟩ = some z5) (hb : ¬ b = g) (hc : ¬ c = g) :
    ((((((w.setCell ⟨g, o, none⟩ x0).setCell ⟨g, o + 1, none⟩ x1).setCell ⟨g, o + 2, none⟩ x2).setCell ⟨g, o + 3, none⟩ x3).setCell ⟨g, o + 4, none⟩ x4).setCell ⟨g, o + 5, none⟩ x5).cell? ⟨b, 5, none⟩ = some y5 ∧ ((((((w.setCell ⟨g, o, none⟩ x0).setCell ⟨g, o + 1, none⟩ x1).setCell ⟨g, o + 2, none⟩ x2).setCell ⟨g, o + 3, none⟩ x3).setCell ⟨g, o + 4, none⟩ x4).setCell ⟨g, o + 5, none⟩ x5).cell? ⟨c, 0, none⟩ = some z0 ∧ ((((((w.setCell ⟨g, o, none⟩ x0).setCell ⟨g, o + 1, none⟩ x1).setCell ⟨g, o + 2, none⟩ x2).setCell ⟨g, o + 3, none⟩ x3).setCell ⟨g, o + 4, none⟩ x4).setCell ⟨g, o + 5, none⟩ x5).cell? ⟨c, 1, none⟩ = some z1 ∧ ((((((w.setCell ⟨g, o, none⟩ x0).setCell ⟨g, o + 1, none⟩ x1).setCell ⟨g, o + 2, none⟩ x2).setCell ⟨g, o + 3, none⟩ x3).setCell ⟨g, o + 4, none⟩ x4).setCell ⟨g, o + 5, none⟩ x5).cell? ⟨c, 2, none⟩ = some z2 ∧ ((((((w.setCell ⟨g, o, none⟩ x0).setCell ⟨g, o + 1, none⟩ x1).setCell ⟨g, o + 2, none⟩ x2).setCell ⟨g, o + 3, none⟩ x3).setCell ⟨g, o + 4, none⟩ x4).setCell ⟨g, o + 5, none⟩ x5).cell? ⟨c, 3, none⟩ = some z3 ∧ ((((((w.setCell ⟨g, o, none⟩ x0).setCell ⟨g, o + 1, none⟩ x1).setCell ⟨g, o + 2, none⟩ x2).setCell ⟨g, o + 3, none⟩ x3).setCell ⟨g, o + 4, none⟩ x4).setCell ⟨g, o + 5, none⟩ x5).cell? ⟨c, 4, none⟩ = some z4 ∧ ((((((w.setCell ⟨g, o, none⟩ x0).setCell ⟨g, o + 1, none⟩ x1).setCell ⟨g, o + 2, none⟩ x2).setCell ⟨g, o + 3, none⟩ x3).setCell ⟨g, o + 4, none⟩ x4).setCell ⟨g, o + 5, none⟩ x5).cell? ⟨c, 5, none⟩ = some z5 := by
  obtain ⟨h0, h1, h2, h3, h4, h5, h6⟩ := h
  exact ⟨(st6_cell w g o x0 x1 x2 x3 x4 x5 b 5 hb).trans h0, (st6_cell w g o x0 x1 x2 x3 x4 x5 c 0 hc).trans h1, (st6_cell w g o x0 x1 x2 x3 x4 x5 c 1 hc).trans h2, (st6_cell w g o x0 x1 x2 x3 x4 x5 c 2 hc).trans h3, (st6_cell w g o x0 x1 x2 x3 x4 x5 c 3 hc).trans h4, (st6_cell w g o x0 x1 x2 x3 x4 x5 c 4 hc).trans h5, (st6_cell w g o x0 x1 x2 x3 x4 x5 c 5 hc).trans h6⟩
structure RelCopied (w : World) (t : Tr) (v : Value) (i : Value) (wr : World) : Prop where
  ex : ∃ (k : Nat) (L : List TV), i = .int .i64 k ∧ k ≤ t.ks.length ∧ L.map (·.1) = t.ks ∧ PRow wr (w.heap.size + 2) 27 v L ∧ (∀ j x, j < k → L[j]? = some x → TIn wr (fun b => w.heap.size + 2 ≤ b ∧ some b ≠ v.ownBlock) x.1 x.2) ∧ (∀ j x, k ≤ j → L[j]? = some x → TIn wr (fun b => b < w.heap.size) x.1 x.2)
  box : wr.heap[w.heap.size]? = some (.cells #[.int .i64 t.op, .int .i64 t.a, .int .i64 t.n, .int .i64 t.m, .string t.s, v] 27 (0, 0))
  res : wr.heap[w.heap.size + 1]? = some (.cells #[.int .i64 0, .int .i64 0, .int .i64 0, .int .i64 0, .string ⟨#[]⟩, .slice none 0 0] 27 (0, 0))
  bel : Below w.heap.size w wr
theorem map_set_same {L : List TV} {k : Nat} {x : Tr} {u v : Value} (h : L[k]? = some (x, u)) : (L.set k (x, v)).map (·.1) = L.map (·.1) := by
  apply List.ext_getElem?
  intro i
  simp only [List.getElem?_map, List.getElem?_set]
  by_cases hi : k = i
  · subst hi
    obtain ⟨hk, h2⟩ := List.getElem?_eq_some_iff.1 h
    simp [hk, h2]
  · simp [hi]
theorem copied_step {w wr w2 U w' : World} {t x : Tr} {g len scap k : Nat} {L : List TV} {xk yk : Value}
    (h : PRow wr (w.heap.size + 2) 27 (.slice (some ⟨g, 0, none⟩) len scap) L ∧ (∀ j y, j < k → L[j]? = some y → TIn wr (fun b => w.heap.size + 2 ≤ b ∧ some b ≠ (Value.slice (some ⟨g, 0, none⟩) len scap).ownBlock) y.1 y.2) ∧ (∀ j y, k ≤ j → L[j]? = some y → TIn wr (fun b => b < w.heap.size) y.1 y.2) ∧ L[k]? = some (x, xk) ∧ L.map (·.1) = t.ks ∧ wr.heap[w.heap.size]? = some (.cells #[.int .i64 t.op, .int .i64 t.a, .int .i64 t.n, .int .i64 t.m, .string t.s, .slice (some ⟨g, 0, none⟩) len scap] 27 (0, 0)) ∧ wr.heap[w.heap.size + 1]? = some (.cells #[.int .i64 0, .int .i64 0, .int .i64 0, .int .i64 0, .string ⟨#[]⟩, .slice none 0 0] 27 (0, 0)) ∧ Below w.heap.size w wr)
    (hb : Below wr.heap.size wr w2) (hz : w2.heap.size = wr.heap.size + 1) (he : U.heap = w2.heap) (hk : k < t.ks.length) (hgB : w.heap.size + 2 ≤ g) (hgz : g < wr.heap.size)
    (hrow : PRow w' (w.heap.size + 2) 27 (.slice (some ⟨g, 0, none⟩) len scap) L) (htin : TIn w' (fun b => U.heap.size ≤ b) x yk) (hB : Below U.heap.size U w') (hww : w'.os = w.os ∧ w'.tape = w.tape ∧ w'.output = w.output) :
    RelCopied w t (.slice (some ⟨g, 0, none⟩) len scap) (.int .i64 ((k : Int) + 1)) (st6 w' g (k * 6) (.int .i64 x.op) (.int .i64 x.a) (.int .i64 x.n) (.int .i64 x.m) (.string x.s) yk) := by
  obtain ⟨h1, h2, h3, h4, h5, h6, h7, h8⟩ := h
  have hU : U.heap.size = wr.heap.size + 1 := by rw [he, hz]
  have hw' : ∀ b, b < wr.heap.size → w'.heap[b]? = wr.heap[b]? := fun b hb' => (hB.block b (by omega)).trans (by rw [he]; exact hb.block b hb')
  have hsz : wr.heap.size ≤ w'.heap.size := by have := hB.size; omega
  have h0 := h8.size
  have hst := st6_grown w' g (k * 6) (.int .i64 x.op) (.int .i64 x.a) (.int .i64 x.n) (.int .i64 x.m) (.string x.s) yk
  have old : ∀ (S : Nat → Prop) (y : TV), TIn wr S y.1 y.2 → (∀ b, S b → b ≠ g) → TIn (st6 w' g (k * 6) (.int .i64 x.op) (.int .i64 x.a) (.int .i64 x.n) (.int .i64 x.m) (.string x.s) yk) S y.1 y.2 := by
    intro S y hy hS
    have := tin_imp (w' := w') (S' := S) (fun b hb' hs => ⟨hs, hw' b hb'⟩) hsz _ _ hy
    exact tin_grown this hst (fun b _ hs e => hS b hs (by simpa using e))
  refine ⟨⟨k + 1, L.set k (x, yk), by simp, by omega, by rw [map_set_same h4]; exact h5, prow_set hrow rfl h4 (x, yk), ?_, ?_⟩, ?_, ?_, ?_⟩
  · intro j y hj hy
    rw [List.getElem?_set] at hy
    by_cases hjk : k = j
    · rw [if_pos hjk] at hy
      split at hy
      · cases hy
        have := tin_grown htin hst (fun b _ hs e => by simp at e; omega)
        exact tin_mono this (fun b _ hs => ⟨by omega, fun e => by simp [Value.ownBlock] at e; omega⟩)
      · cases hy
    · rw [if_neg hjk] at hy
      exact old _ y (h2 j y (by omega) hy) (fun b hs e => hs.2 (by simp [Value.ownBlock, e]))
  · intro j y hj hy
    rw [List.getElem?_set, if_neg (by omega)] at hy
    exact old _ y (h3 j y (by omega) hy) (fun b hs e => by omega)
  · rw [st6_heap _ _ _ _ _ _ _ _ _ _ (by omega), hw' _ (by omega)]
    exact h6
  · rw [st6_heap _ _ _ _ _ _ _ _ _ _ (by omega), hw' _ (by omega)]
    exact h7
  · refine c_st6' (h8.trans ⟨?_, ?_, ?_, hsz, fun b hb' => hw' b (by omega)⟩) (by omega)
    · rw [hww.1, h8.os]
    · rw [hww.2.1, h8.tape]
    · rw [hww.2.2, h8.output]
theorem tv_slice {w : World} {S : Nat → Prop} {L : List TV} (h : ∀ x ∈ L, TIn w S x.1 x.2) : ∀ x ∈ L, ∃ ao len cap, x.2 = .slice ao len cap := fun x hx => tin_slice (h x hx)
set_option linter.unusedVariables false in
set_option maxRecDepth 100000 in
set_option maxHeartbeats 1000000 in
theorem copied_any : ∀ (N : Nat) (t : Tr) (k : Value) (w : World), t.cnt ≤ N → N ≤ 100000 → TIn w (fun _ => True) t k →
    Calls Try.prog 35 #[ndV t k] w (NPost w (fun b => w.heap.size ≤ b) t) := by
  intro N
  induction N with
  | zero => intro t k w h; have := cnt_pos t; omega
  | succ N ih =>
    intro t k w hN hN2 ht
    have hkid : ∀ (j : Nat) (x : Tr), t.ks[j]? = some x → x.cnt ≤ N := fun j x hx => by have := cnt_kid hx; omega
    have hlen : t.ks.length ≤ 100000 := by
      have := cntL_len t.ks
      obtain ⟨op, a, n, m, s, ks⟩ := t
      have : ks.length ≤ cntL ks := cntL_len ks
      unfold Tr.cnt at hN
      show ks.length ≤ 100000
      omega
    obtain ⟨ao, cap, L, rfl, hL1, hL2, hmap, hin, hcell⟩ := kids_pairs ht
    have hll : L.length = t.ks.length := by rw [← hmap]; simp
    have HI := Lib.hid (fun (x : Tr) (kx : Value) (W : World) (hx : x.cnt ≤ N) (hk : TIn W (fun _ => True) x kx) => ih x kx W hx (by omega) hk)
    clear ih
    have HK := Lib.hid hkid
    have HC := Lib.hid (fun (W : World) (hB : Below w.heap.size w W) => clone_any L ao cap W (by omega) hL1 hL2 (tv_slice hin) (by
      rcases hcell with h | ⟨b, o, ea, hb, _, hc⟩
      · exact .inl h
      · exact .inr ⟨b, o, ea, fun i x hi => ncells_kept (hB.block b hb) (hc i x hi)⟩))
    have HIN := Lib.hid hin
    have HM := Lib.hid hmap
    unfold ndV
    obtain ⟨len, hlen2⟩ : ∃ len, len = L.length := ⟨_, rfl⟩
    rw [← hlen2] at HC ⊢
    have HLL := Lib.hid hll
    have HE := Lib.hid hlen2
    have hl2 : len ≤ 100000 := by omega
    clear hkid ht hcell hin hmap hL1 hL2 hll hlen2
    go_enter Try.func35, Try.ntmps35
    go_wp2_with fail
    refine (HC.out _ (c_box2 w _ _)).mono ?_
    rintro e w1 ⟨v, rfl, hrow, hb1⟩
    have hb1s : w.heap.size + 2 ≤ w1.heap.size := by have := hb1.size; simp at this; omega
    have hbox := c_kept hb1 (by simp; omega) (c_new1 w _ _)
    have hres := c_kept hb1 (by simp) (c_new2 w _ _)
    obtain ⟨⟨b0, b1, b2, b3, b4, b5⟩, ⟨-, -, -, -, -, f5⟩, -⟩ := c_six hbox
    obtain ⟨so, scap, hv, -, -, hor⟩ := prow_slice hrow
    rw [← HE.out] at hv
    subst hv
    have hbox2 := c_one 5 (.slice so len scap) hbox
    have HV : Hid (RelCopied w t (.slice so len scap) (.int .i64 0) (w1.setCell ⟨w.heap.size, 5, none⟩ (.slice so len scap))) := by
      have hg : w1.grownBy (w1.setCell ⟨w.heap.size, 5, none⟩ (.slice so len scap)) (some w.heap.size) := c_gset ⟨rfl, rfl, rfl, Nat.le_refl _, fun _ _ _ => rfl⟩ rfl _
      have hwb : Below w.heap.size w w1 := c_thr (c_box2 w _ _) hb1 (by simp; omega)
      have hne : Value.ownBlock (.slice so len scap) = none ∨ Value.ownBlock (.slice so len scap) ≠ some w.heap.size := by
        cases hso : Value.ownBlock (.slice so len scap) with
        | none => exact .inl rfl
        | some g =>
          have := (World.ownsRow.lt hrow g hso).1
          simp at this
          exact .inr (fun e => by cases e; omega)
      refine Lib.hid ⟨⟨0, L, rfl, Nat.zero_le _, HM.out, ?_, fun j x hj => absurd hj (Nat.not_lt_zero j), fun j x _ hx => ?_⟩, hbox2, ?_, c_set _ _ hwb (Nat.le_refl _)⟩
      · have := World.ownsRow.kept hrow hg hne
        simpa [PRow] using this
      · have h1 := HIN.out x (List.mem_of_getElem? hx)
        have h2 : TIn w (fun b => b < w.heap.size) x.1 x.2 := tin_mono h1 (fun b hb _ => hb)
        exact tin_below h2 (c_set _ _ hwb (Nat.le_refl _)) (fun b _ hb => hb)
      · exact (Below.heap_setCell _ _ _ _ (by simp)).trans hres
    clear hbox hres hbox2 hrow hor HIN hb1
    go_wp2
    go_loopw [12] (fun i wr => RelCopied w t (.slice so len scap) i wr) (fun i _ => len - (intOf i).toNat)
    case atStart => exact HV.out
    case round =>
      clear HV
      obtain ⟨⟨k, L', rfl, hk, hm', hrow, hdone, htodo⟩, hbox, hres, hB⟩ := hrel
      have hlt : len = t.ks.length := HE.out.trans HLL.out
      have hl' : L'.length = len := by rw [hlt, ← hm']; simp
      have HLT := Lib.hid hlt
      clear hlt
      rw [← HLT.out] at hk
      by_cases hkl : k < len
      · have g1 : decide ((k : Int) < (len : Int)) = true := by simpa using hkl
        obtain ⟨ao', cap', e1, -, -, hor⟩ := prow_slice hrow
        obtain ⟨g, hg, hgo, hgB, hgz⟩ : ∃ g, so = some ⟨g, 0, none⟩ ∧ Value.ownBlock (.slice so len scap) = some g ∧ w.heap.size + 2 ≤ g ∧ g < wr.heap.size := by
          obtain ⟨rfl, -, -⟩ : so = ao' ∧ len = L'.length ∧ scap = cap' := by simpa using e1
          rcases hor with h | ⟨g, h1, h2, h3, h4⟩
          · have : len = 0 := by rw [← hl', h]; rfl
            omega
          · exact ⟨g, h1, h2, h3, h4⟩
        clear hor e1
        subst hg
        obtain ⟨⟨x, kx⟩, hx⟩ : ∃ x, L'[k]? = some x := ⟨_, List.getElem?_eq_getElem (by omega)⟩
        have htx := htodo k _ (Nat.le_refl _) hx
        obtain ⟨xo, xl, xc, hkx⟩ := tin_slice htx
        simp only at hkx
        subst hkx
        obtain ⟨c0, c1, c2, c3, c4, c5⟩ := prow_cells hrow hgo hx
        have hxc : x.cnt ≤ N := HK.out k x (by rw [← hm', List.getElem?_map, hx]; rfl)
        obtain ⟨⟨-, -, -, -, -, b5⟩, -, hwz⟩ := c_six hbox
        have HHI := Lib.hid (And.intro hrow (And.intro hdone (And.intro htodo (And.intro hx (And.intro hm' (And.intro hbox (And.intro hres hB)))))))
        clear hrow hdone htodo hx hm' hbox hres hB
        go_wp2
        obtain ⟨W2, hW2⟩ : ∃ W2, W2 = wr.alloc (.cells #[.int .i64 x.op, .int .i64 x.a, .int .i64 x.n, .int .i64 x.m, .string x.s, .slice xo xl xc] 27) := ⟨_, rfl⟩
        rw [← hW2]
        have hB2 : Below wr.heap.size wr W2 := by rw [hW2]; exact c_box wr _
        have hz2 : W2.heap.size = wr.heap.size + 1 := by rw [hW2]; simp
        have hn2 : W2.heap[wr.heap.size]? = some (.cells #[.int .i64 x.op, .int .i64 x.a, .int .i64 x.n, .int .i64 x.m, .string x.s, .slice xo xl xc] 27 (0, 0)) := by rw [hW2]; exact heap_alloc_new wr _
        have hbox2 := c_kept hB2 hwz HHI.out.2.2.2.2.2.1
        have HBX := Lib.hid (And.intro hbox2 (And.intro hn2 (And.intro hB2 hz2)))
        have hS0 := nsev (w := W2.drew) hbox2 hn2
        clear hW2 hB2 hz2 hn2 hbox2 b5 c0 c1 c2 c3 c4 c5
        have hn1 : ¬ g = w.heap.size := by omega
        have hn2 : ¬ g = wr.heap.size := by omega
        have hn3 : ¬ w.heap.size = g := by omega
        have hn4 : ¬ wr.heap.size = g := by omega
        go_region_held3 (fun w' => w'.cell? ⟨w.heap.size, 5, none⟩ = some (.slice (some ⟨g, 0, none⟩) len scap) ∧ w'.cell? ⟨wr.heap.size, 0, none⟩ = some (.int .i64 x.op) ∧ w'.cell? ⟨wr.heap.size, 1, none⟩ = some (.int .i64 x.a) ∧ w'.cell? ⟨wr.heap.size, 2, none⟩ = some (.int .i64 x.n) ∧ w'.cell? ⟨wr.heap.size, 3, none⟩ = some (.int .i64 x.m) ∧ w'.cell? ⟨wr.heap.size, 4, none⟩ = some (.string x.s) ∧ w'.cell? ⟨wr.heap.size, 5, none⟩ = some (.slice xo xl xc)) (first | with_reducible assumption | with_reducible exact sev_st6 hS2 hn3 hn4) (first
          | (go_at_call 35; refine (HI.out x _ _ hxc ?_).mono ?_; exact tin_all htx HBX.out.2.2.1 rfl; rintro e w' ⟨yo, yl, yc, rfl, htin, hB⟩; have hS2 := nsev (c_kept hB (c_lt HBX.out.1) HBX.out.1) (c_kept hB (c_lt HBX.out.2.1) HBX.out.2.1); obtain ⟨hrow2, ⟨d0, d1, d2, d3, d4, d5⟩, f0, f1, f2, f3, f4, f5⟩ := prow_walk HHI.out.1 HBX.out.2.2.1 (by rfl) hB hgo HHI.out.2.2.2.1; have HR2 := Lib.hid (And.intro hrow2 (And.intro htin hB)); clear hrow2 htin hB))
        have HST := Lib.hid (copied_step (U := W2.drew) HHI.out HBX.out.2.2.1 HBX.out.2.2.2 rfl (by rw [← HLT.out]; exact hkl) hgB hgz HR2.out.1 HR2.out.2.1 HR2.out.2.2 ⟨HR2.out.2.2.os.trans (HBX.out.2.2.1.os.trans HHI.out.2.2.2.2.2.2.2.os), HR2.out.2.2.tape.trans (HBX.out.2.2.1.tape.trans HHI.out.2.2.2.2.2.2.2.tape), HR2.out.2.2.output.trans (HBX.out.2.2.1.output.trans HHI.out.2.2.2.2.2.2.2.output)⟩)
        clear hS0 hS2 HR2 HBX HHI d0 d1 d2 d3 d4 d5 f0 f1 f2 f3 f4 htx
        go_wp2
        go_roundw
        case rel => exact HST.out
        case measure => simp [intOf]; omega
      · have g1 : decide ((k : Int) < (len : Int)) = false := by simpa using hkl
        have hke : k = len := by omega
        obtain ⟨⟨b0, b1, b2, b3, b4, b5⟩, -, hwz⟩ := c_six hbox
        obtain ⟨⟨r0, r1, r2, r3, r4, r5⟩, ⟨q0, q1, q2, q3, q4, q5⟩, -⟩ := c_six hres
        have HFIN := Lib.hid (And.intro hrow (And.intro hdone (And.intro hm' hB)))
        clear hrow hdone hm' hB htodo hbox hres
        go_wp2
        refine bodyPost_ret (v := .agg #[.int .i64 t.op, .int .i64 t.a, .int .i64 t.n, .int .i64 t.m, .string t.s, .slice so len scap]) (by simp [results, Try.results35, go_sem, r0, r1, r2, r3, r4, r5]) rfl ?_
        obtain ⟨hrow, hdone, hm', hB⟩ := HFIN.out
        refine ⟨so, len, scap, rfl, ?_, c_st6 hB (by omega)⟩
        have htr : TIn wr (fun b => w.heap.size + 2 ≤ b) t (.slice so len scap) := tin_row hrow (fun g hg => (World.ownsRow.lt hrow g hg).1) (fun y hy => by
          obtain ⟨j, hj⟩ := List.mem_iff_getElem?.1 hy
          have hjl := (List.getElem?_eq_some_iff.1 hj).1
          exact tin_mono (hdone j y (by omega) hj) (fun b _ hs => hs.1)) hm'.symm
        exact tin_mono (tin_grown htr (st6_grown wr (w.heap.size + 1) 0 _ _ _ _ _ _) (fun b _ hs e => by simp at e; omega)) (fun b _ hs => by omega)
end Go.Proofs.Ytjnlifghobgkcaa
