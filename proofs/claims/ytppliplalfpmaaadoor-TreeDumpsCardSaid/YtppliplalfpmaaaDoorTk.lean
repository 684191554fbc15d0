/-
  Trees of nodes at this translation: worlds, blocks, rows.
-/
import Derived.Test.YtppliplalfpmaaaDoorTr
import Derived.Deep.QuietTactic
import Derived.Handy
import Derived.Lib.SliceRun
import Derived.Maps.AppendAt
import Derived.Deep.RegionHeld3
import Derived.Laws.AppendOwn
import Derived.Deep.AppendLies
import Derived.Deep.Cut
namespace Go.Proofs.YtppliplalfpmaaaDoor
open Go.RowKit

def All : Nat → Prop := fun _ => True
def BPost (w : World) (b : Bool) : Ending → World → Prop := fun e w' => e = .returned (.bool b) ∧ Below w.heap.size w w'
theorem c_kept {W w1 : World} {B b : Nat} {o : Obj} (hb : Below B W w1) (hB : b < B) (hW : W.heap[b]? = some o) : w1.heap[b]? = some o := (hb.block b hB).trans hW
theorem c_lt {w : World} {b : Nat} {o : Obj} (h : w.heap[b]? = some o) : b < w.heap.size := by
  rcases Nat.lt_or_ge b w.heap.size with h' | h'
  · exact h'
  · simp [Array.getElem?_eq_none h'] at h
theorem c_thr {B : Nat} {w w1 w2 : World} (h : Below B w w1) (k : Below w1.heap.size w1 w2) (hB : B ≤ w1.heap.size) : Below B w w2 := h.trans (k.mono hB)
theorem c_draws (w : World) (n : Nat) : Below w.heap.size w (w.drewN n) := ⟨rfl, rfl, rfl, Nat.le_refl _, fun _ _ => rfl⟩
theorem c_box (w : World) (o : Obj) : Below w.heap.size w (w.alloc o) := (Below.refl _ w).alloc (Nat.le_refl _) _
theorem c_box2 (w : World) (o p : Obj) : Below w.heap.size w ((w.alloc o).alloc p) := (c_box w o).alloc (by simp) _
theorem c_six {w : World} {b : Nat} {x0 x1 x2 x3 x4 x5 : Value} {T : TypeId} (h : w.heap[b]? = some (.cells #[x0, x1, x2, x3, x4, x5] T (0, 0))) :
    (w.cell? ⟨b, 0, none⟩ = some x0 ∧ w.cell? ⟨b, 1, none⟩ = some x1 ∧ w.cell? ⟨b, 2, none⟩ = some x2 ∧ w.cell? ⟨b, 3, none⟩ = some x3 ∧ w.cell? ⟨b, 4, none⟩ = some x4 ∧ w.cell? ⟨b, 5, none⟩ = some x5) ∧
    (w.frozen? ⟨b, 0, none⟩ = false ∧ w.frozen? ⟨b, 1, none⟩ = false ∧ w.frozen? ⟨b, 2, none⟩ = false ∧ w.frozen? ⟨b, 3, none⟩ = false ∧ w.frozen? ⟨b, 4, none⟩ = false ∧ w.frozen? ⟨b, 5, none⟩ = false) ∧ b < w.heap.size := by
  refine ⟨⟨?_, ?_, ?_, ?_, ?_, ?_⟩, ⟨?_, ?_, ?_, ?_, ?_, ?_⟩, c_lt h⟩
  all_goals first | simp [World.cell?, h] | simp [World.frozen?, h]
theorem c_set {B b : Nat} {w w1 : World} (i : Nat) (x : Value) (h : Below B w w1) (hB : B ≤ b) : Below B w (w1.setCell ⟨b, i, none⟩ x) := h.setCell (p := ⟨b, i, none⟩) hB _
theorem c_st6 {B b : Nat} {w w1 : World} {x0 x1 x2 x3 x4 x5 : Value} (h : Below B w w1) (hB : B ≤ b) : Below B w ((((((w1.setCell ⟨b, 0, none⟩ x0).setCell ⟨b, 1, none⟩ x1).setCell ⟨b, 2, none⟩ x2).setCell ⟨b, 3, none⟩ x3).setCell ⟨b, 4, none⟩ x4).setCell ⟨b, 5, none⟩ x5) :=
  c_set _ _ (c_set _ _ (c_set _ _ (c_set _ _ (c_set _ _ (c_set _ _ h hB) hB) hB) hB) hB) hB
theorem c_new1 (w : World) (o p : Obj) : ((w.alloc o).alloc p).heap[w.heap.size]? = some o := (Below.heap_alloc (w.alloc o) p w.heap.size (by simp)).trans (heap_alloc_new w o)
theorem c_new2 (w : World) (o p : Obj) : ((w.alloc o).alloc p).heap[w.heap.size + 1]? = some p := by
  have h := heap_alloc_new (w.alloc o) p
  simpa using h
theorem node_info : (Tryd.prog.info? 24).map (fun i => (i.zero, i.size, i.bytes)) = some (some (.agg #[.int .i64 0, .int .i64 0, .int .i64 0, .int .i64 0, .string ⟨#[]⟩, .slice none 0 0]), 6, 72) := by kernel_rfl
theorem pC_one (x : TV) (h : ∃ ao len cap, x.2 = .slice ao len cap) : ∀ u ∈ pC x, u.oneCell' = true := by
  obtain ⟨t, k⟩ := x
  obtain ⟨ao, len, cap, rfl⟩ := h
  intro u hu
  simp only [pC, ndC, List.mem_cons, List.not_mem_nil, or_false] at hu
  rcases hu with rfl | rfl | rfl | rfl | rfl | rfl <;> rfl
theorem tin_slice {w : World} {S : Nat → Prop} {t : Tr} {k : Value} (h : TIn w S t k) : ∃ ao len cap, k = .slice ao len cap := by
  obtain ⟨ao, cap, e, _⟩ := tin_open h
  exact ⟨ao, _, cap, e⟩
/-- the children of a tree as pairs with the slices that hold their own children -/
theorem kids_pairs {w : World} {S : Nat → Prop} {t : Tr} {k : Value} (h : TIn w S t k) : ∃ (ao : Option Addr) (cap : Nat) (L : List TV), k = .slice ao L.length cap ∧ L.length ≤ cap ∧ cap ≤ maxLen ∧ L.map (·.1) = t.ks ∧ (∀ x ∈ L, TIn w S x.1 x.2) ∧ (L = [] ∨ ∃ b o, ao = some ⟨b, o, none⟩ ∧ b < w.heap.size ∧ S b ∧ ∀ i x, L[i]? = some x → NCells w b (o + i * 6) x.1 x.2) := by
  obtain ⟨ao, cap, e, h1, h2, h3⟩ := tin_open h
  have hk : ∀ i : Nat, ∃ kx : Value, ∀ x, t.ks[i]? = some x → ∃ b o, ao = some ⟨b, o, none⟩ ∧ b < w.heap.size ∧ S b ∧ NCells w b (o + i * 6) x kx ∧ TIn w S x kx := by
    intro i
    cases hx : t.ks[i]? with
    | none => exact ⟨.bool false, fun x hx' => by cases hx'⟩
    | some x =>
      obtain ⟨b, o, kx, q⟩ := h3 i x hx
      exact ⟨kx, fun y hy => by cases hy; exact ⟨b, o, q⟩⟩
  have hf : ∃ f : Nat → Value, ∀ i x, t.ks[i]? = some x → ∃ b o, ao = some ⟨b, o, none⟩ ∧ b < w.heap.size ∧ S b ∧ NCells w b (o + i * 6) x (f i) ∧ TIn w S x (f i) := ⟨fun i => Classical.choose (hk i), fun i => Classical.choose_spec (hk i)⟩
  obtain ⟨f, hf⟩ := hf
  have hl : (t.ks.mapIdx fun i x => (x, f i)).length = t.ks.length := by simp
  refine ⟨ao, cap, t.ks.mapIdx fun i x => (x, f i), by rw [hl]; exact e, by rw [hl]; exact h1, h2, ?_, ?_, ?_⟩
  · apply List.ext_getElem?
    intro i
    simp
    cases t.ks[i]? <;> rfl
  · intro x hx
    obtain ⟨i, hi⟩ := List.mem_iff_getElem?.1 hx
    rw [List.getElem?_mapIdx] at hi
    obtain ⟨y, hy, rfl⟩ := Option.map_eq_some_iff.1 hi
    obtain ⟨_, _, _, _, _, _, q⟩ := hf i y hy
    exact q
  · cases hks : t.ks with
    | nil => exact .inl rfl
    | cons y r =>
      right
      obtain ⟨b, o, ea, hb, hs, _⟩ := hf 0 y (by rw [hks]; rfl)
      refine ⟨b, o, ea, hb, hs, fun i x hi => ?_⟩
      rw [← hks, List.getElem?_mapIdx] at hi
      obtain ⟨z, hz, rfl⟩ := Option.map_eq_some_iff.1 hi
      obtain ⟨b', o', ea', _, _, hc, _⟩ := hf i z hz
      rw [ea] at ea'
      cases ea'
      exact hc
/-- the cells of a row that is read, to append them -/
theorem news_of {w : World} {b o : Nat} {L : List TV} (h : ∀ i x, L[i]? = some x → NCells w b (o + i * 6) x.1 x.2) : ∀ j u, (L.flatMap pC)[j]? = some u → w.cell? ((⟨b, o, none⟩ : Addr).add j) = some u := by
  intro j u hu
  have hadd : (⟨b, o, none⟩ : Addr).add j = ⟨b, o + j, none⟩ := by unfold Addr.add; split <;> simp_all
  rw [hadd]
  have hj := (List.getElem?_eq_some_iff.1 hu).1
  rw [pC_flat_len] at hj
  have hi : j / 6 < L.length := by omega
  have hx : L[j / 6]? = some L[j / 6] := List.getElem?_eq_getElem hi
  have h6 : j % 6 < (pC L[j / 6]).length := by rw [pC_len]; omega
  have he := pC_flat hx (List.getElem?_eq_getElem h6)
  have e1 : j / 6 * 6 + j % 6 = j := by omega
  rw [e1, hu] at he
  obtain ⟨c0, c1, c2, c3, c4, c5⟩ := h _ _ hx
  have hr : j % 6 = 0 ∨ j % 6 = 1 ∨ j % 6 = 2 ∨ j % 6 = 3 ∨ j % 6 = 4 ∨ j % 6 = 5 := by omega
  rcases hr with hr | hr | hr | hr | hr | hr
  all_goals
    simp only [hr] at he
    have e2 : o + j = o + j / 6 * 6 + j % 6 := by omega
    rw [e2, hr, he]
  · exact c0
  · exact c1
  · exact c2
  · exact c3
  · exact c4
  · exact c5

theorem c_one {W : World} {b : Nat} {cs : Array Value} {T : TypeId} (i : Nat) (v : Value) (hW : W.heap[b]? = some (.cells cs T (0, 0))) : (W.setCell ⟨b, i, none⟩ v).heap[b]? = some (.cells (cs.setIfInBounds i v) T (0, 0)) := by
  show (W.heap.modify b _)[b]? = _
  rw [Array.getElem?_modify, if_pos rfl, hW]
  rfl
theorem c_gset {w w' : World} {g i : Nat} {r : Option Nat} (h : w.grownBy w' r) (hg : r = some g) (v : Value) : w.grownBy (w'.setCell ⟨g, i, none⟩ v) r := by
  refine ⟨h.os, h.tape, h.output, ?_, ?_⟩
  · have e : (w'.setCell ⟨g, i, none⟩ v).heap.size = w'.heap.size := by simp [World.setCell]
    rw [e]
    exact h.size
  · intro k hk hne
    have e : (w'.setCell ⟨g, i, none⟩ v).heap[k]? = w'.heap[k]? := Below.heap_setCell w' ⟨g, i, none⟩ v k (fun e => hne (by rw [hg, e]))
    rw [e]
    exact h.block k hk hne
/-- a node stored at an offset of a row -/
def st6 (w : World) (g o : Nat) (x0 x1 x2 x3 x4 x5 : Value) : World := (((((w.setCell ⟨g, o, none⟩ x0).setCell ⟨g, o + 1, none⟩ x1).setCell ⟨g, o + 2, none⟩ x2).setCell ⟨g, o + 3, none⟩ x3).setCell ⟨g, o + 4, none⟩ x4).setCell ⟨g, o + 5, none⟩ x5
theorem st6_grown (w : World) (g o : Nat) (x0 x1 x2 x3 x4 x5 : Value) : w.grownBy (st6 w g o x0 x1 x2 x3 x4 x5) (some g) :=
  c_gset (c_gset (c_gset (c_gset (c_gset (c_gset ⟨rfl, rfl, rfl, Nat.le_refl _, fun _ _ _ => rfl⟩ rfl _) rfl _) rfl _) rfl _) rfl _) rfl _
theorem flat_set : ∀ {L : List TV} {k : Nat} {x : TV} (y : TV), L[k]? = some x → ((((((L.flatMap pC).set (k * 6) (.int .i64 y.1.op)).set (k * 6 + 1) (.int .i64 y.1.a)).set (k * 6 + 2) (.int .i64 y.1.n)).set (k * 6 + 3) (.int .i64 y.1.m)).set (k * 6 + 4) (.string y.1.s)).set (k * 6 + 5) y.2 = (L.set k y).flatMap pC := by
  intro L
  induction L with
  | nil => intro k x y h; simp at h
  | cons z r ih =>
    intro k x y h
    cases k with
    | zero => simp [pC, ndC]
    | succ k =>
      have h2 := ih y (by simpa using h)
      have e0 : (k + 1) * 6 = k * 6 + 6 := by omega
      simp only [List.flatMap_cons, List.set_cons_succ]
      rw [← h2]
      simp only [pC, ndC, List.cons_append, List.nil_append, e0]
      rfl
theorem prow_set {w : World} {B T : Nat} {v : Value} {L : List TV} {g k : Nat} {x : TV} (h : PRow w B T v L) (hg : v.ownBlock = some g) (hx : L[k]? = some x) (y : TV) : PRow (st6 w g (k * 6) (.int .i64 y.1.op) (.int .i64 y.1.a) (.int .i64 y.1.n) (.int .i64 y.1.m) (.string y.1.s) y.2) B T v (L.set k y) := by
  rcases h.2 with ⟨rfl, h0⟩ | ⟨g', cap, cur, rfl, hb, hgg, hn, hm, hs, ht⟩
  · simp [Value.ownBlock] at hg
  · simp [Value.ownBlock] at hg
    subst hg
    have H := c_one (k * 6 + 5) y.2 (c_one (k * 6 + 4) (.string y.1.s) (c_one (k * 6 + 3) (.int .i64 y.1.m) (c_one (k * 6 + 2) (.int .i64 y.1.n) (c_one (k * 6 + 1) (.int .i64 y.1.a) (c_one (k * 6) (.int .i64 y.1.op) hgg)))))
    unfold PRow
    have hl : (L.set k y).length = L.length := by simp
    rw [hl]
    refine ⟨by rw [pC_flat_len, hl], .inr ⟨g', cap, _, rfl, hb, H, hn, hm, by simpa using hs, ?_⟩⟩
    rw [← flat_set y hx, ← ht]
    simp only [Array.toList_setIfInBounds, List.take_set]
theorem st6_heap (w : World) (g o : Nat) (x0 x1 x2 x3 x4 x5 : Value) (i : Nat) (h : i ≠ g) : (st6 w g o x0 x1 x2 x3 x4 x5).heap[i]? = w.heap[i]? := by
  unfold st6
  rw [Below.heap_setCell _ _ _ _ h, Below.heap_setCell _ _ _ _ h, Below.heap_setCell _ _ _ _ h, Below.heap_setCell _ _ _ _ h, Below.heap_setCell _ _ _ _ h, Below.heap_setCell _ _ _ _ h]
theorem st6_size (w : World) (g o : Nat) (x0 x1 x2 x3 x4 x5 : Value) : (st6 w g o x0 x1 x2 x3 x4 x5).heap.size = w.heap.size := by simp [st6, World.setCell]

theorem st6_cell (w : World) (g o : Nat) (x0 x1 x2 x3 x4 x5 : Value) (b j : Nat) (h : ¬ b = g) : ((((((w.setCell ⟨g, o, none⟩ x0).setCell ⟨g, o + 1, none⟩ x1).setCell ⟨g, o + 2, none⟩ x2).setCell ⟨g, o + 3, none⟩ x3).setCell ⟨g, o + 4, none⟩ x4).setCell ⟨g, o + 5, none⟩ x5).cell? ⟨b, j, none⟩ = w.cell? ⟨b, j, none⟩ :=
  World.cell?_of_block (a := ⟨b, j, none⟩) (st6_heap w g o x0 x1 x2 x3 x4 x5 b h)
theorem tin_all {w w2 U : World} {S : Nat → Prop} {t : Tr} {k : Value} (h : TIn w S t k) (hb : Below w.heap.size w w2) (he : U.heap = w2.heap) : TIn U (fun _ => True) t k :=
  tin_imp (fun b hb' _ => ⟨trivial, by rw [he]; exact hb.block b hb'⟩) (by rw [he]; exact hb.size) t k h
theorem prow_frozen {w : World} {B T : Nat} {v : Value} {L : List TV} {g : Nat} (h : PRow w B T v L) (hg : v.ownBlock = some g) (j : Nat) : w.frozen? ⟨g, j, none⟩ = false := by
  rcases h.2 with ⟨rfl, h0⟩ | ⟨g', cap, cur, rfl, hb, hgg, hn, hm, hs, ht⟩
  · simp [Value.ownBlock] at hg
  · simp [Value.ownBlock] at hg
    subst hg
    simp [World.frozen?, hgg]
theorem tin_len {w : World} {S : Nat → Prop} {t : Tr} {ao : Option Addr} {len cap : Nat} (h : TIn w S t (.slice ao len cap)) : len = t.ks.length := by
  obtain ⟨ao', cap', e, _⟩ := tin_open h
  have : ao = ao' ∧ len = t.ks.length ∧ cap = cap' := by simpa using e
  exact this.2.1
theorem kidS {w : World} {S : Nat → Prop} {t x : Tr} {ao : Option Addr} {len cap i : Nat} (h : TIn w S t (.slice ao len cap)) (hx : t.ks[i]? = some x) : ∃ b o xo xl xc, ao = some ⟨b, o, none⟩ ∧ b < w.heap.size ∧ S b ∧ NCells w b (o + i * 6) x (.slice xo xl xc) ∧ TIn w S x (.slice xo xl xc) := by
  obtain ⟨ao', cap', e, _, _, h3⟩ := tin_open h
  obtain ⟨rfl, -, -⟩ : ao = ao' ∧ len = t.ks.length ∧ cap = cap' := by simpa using e
  obtain ⟨b, o, kx, ea, hb, hs, hc, ht⟩ := h3 i x hx
  obtain ⟨xo, xl, xc, rfl⟩ := tin_slice ht
  exact ⟨b, o, xo, xl, xc, ea, hb, hs, hc, ht⟩
theorem tin_leaf {w : World} {S : Nat → Prop} {op a n m : Int} {s : ByteArray} : TIn w S (.mk op a n m s []) (.slice none 0 0) := by
  refine tin_close (t := .mk op a n m s []) (ao := none) (cap := 0) (by simp [Tr.ks]) (by unfold maxLen; omega) (.inl rfl)
theorem x_drew (w : World) : w.drew.heap = w.heap := rfl
theorem x_sz (w : World) (p : Addr) (v : Value) : (w.setCell p v).heap.size = w.heap.size := by simp [World.setCell]
theorem x_ne (w : World) (b i c : Nat) (v : Value) (h : c ≠ b) : (w.setCell ⟨b, i, none⟩ v).heap[c]? = w.heap[c]? := Below.heap_setCell _ _ _ _ h
end Go.Proofs.YtppliplalfpmaaaDoor
