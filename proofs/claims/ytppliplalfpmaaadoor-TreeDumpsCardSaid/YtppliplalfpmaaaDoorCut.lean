/-
  cut of the law's text: a tree of bounded count and depth, in fresh blocks.
-/
import Derived.Test.YtppliplalfpmaaaDoorCopy
namespace Go.Proofs.YtppliplalfpmaaaDoor
open Go.RowKit

def GB (B pb : Nat) (w w' : World) : Prop := w'.os = w.os ∧ w'.tape = w.tape ∧ w'.output = w.output ∧ w.heap.size ≤ w'.heap.size ∧ ∀ b, b < B → b ≠ pb → w'.heap[b]? = w.heap[b]?
theorem GB.trans {B B' pb : Nat} {w w1 w2 : World} (h : GB B pb w w1) (k : GB B' pb w1 w2) (hB : B ≤ B') : GB B pb w w2 :=
  ⟨k.1.trans h.1, k.2.1.trans h.2.1, k.2.2.1.trans h.2.2.1, Nat.le_trans h.2.2.2.1 k.2.2.2.1, fun b hb hn => (k.2.2.2.2 b (Nat.lt_of_lt_of_le hb hB) hn).trans (h.2.2.2.2 b hb hn)⟩
theorem GB.of {B pb : Nat} {w w1 : World} (h : Below B w w1) : GB B pb w w1 := ⟨h.os, h.tape, h.output, h.size, fun b hb _ => h.block b hb⟩
theorem GB.set {B pb i : Nat} {w w1 : World} {v : Value} (h : GB B pb w w1) : GB B pb w (w1.setCell ⟨pb, i, none⟩ v) :=
  ⟨h.1, h.2.1, h.2.2.1, by rw [x_sz]; exact h.2.2.2.1, fun b hb hn => (x_ne w1 pb i b v hn).trans (h.2.2.2.2 b hb hn)⟩
def CutPost (w : World) (pb lv d : Nat) : Ending → World → Prop := fun e w' => ∃ (r : Tr) (o : Option Addr) (l c lv' : Nat), e = .returned (.agg #[.int .i64 r.op, .int .i64 r.a, .int .i64 r.n, .int .i64 r.m, .string r.s, .slice o l c]) ∧ TIn w' (Fresh w) r (.slice o l c) ∧ w'.heap[pb]? = some (.cells #[.int .i64 lv'] 3 (0, 0)) ∧ r.cnt + lv' ≤ lv + 1 ∧ r.dep ≤ d + 1 ∧ GB w.heap.size pb w w'
theorem row_step2 {wr w1 w4 : World} {o : Obj} {B T pb : Nat} {L : List TV} {ro : Option Addr} {rc g gc : Nat} {r : Tr} {kr : Value} (hpb : pb < B)
    (hL : ∀ x ∈ L, TIn wr (fun b => B ≤ b ∧ some b ≠ (Value.slice ro L.length rc).ownBlock) x.1 x.2) (hBd : B ≤ wr.heap.size)
    (hvo : ∀ g, (Value.slice ro L.length rc).ownBlock = some g → B ≤ g ∧ g < wr.heap.size)
    (htin : TIn w1 (Fresh wr) r kr) (hB1 : GB wr.heap.size pb wr w1)
    (hgrow : (w1.alloc o).grownBy w4 (Value.slice ro L.length rc).ownBlock) (hat : (Value.slice ro L.length rc).ownBlock = some g ∨ g = (w1.alloc o).heap.size) (hown : w4.ownsRow B T 6 (.slice (some ⟨g, 0, none⟩) (L.length + 1) gc) (L.length + 1) (L.flatMap pC ++ ndC r kr)) :
    PRow w4 B T (.slice (some ⟨g, 0, none⟩) (L.length + 1) gc) (L ++ [(r, kr)]) ∧ (∀ x ∈ L ++ [(r, kr)], TIn w4 (fun b => B ≤ b ∧ some b ≠ (Value.slice (some ⟨g, 0, none⟩) (L.length + 1) gc).ownBlock) x.1 x.2) ∧ GB B pb wr w4 ∧ w4.heap[pb]? = w1.heap[pb]? := by
  have hg2 : B ≤ g := (World.ownsRow.lt hown g rfl).1
  have hz5 : (w1.alloc o).heap.size = w1.heap.size + 1 := by simp
  have hz1 := hB1.2.2.2.1
  have h5 : ∀ b, b < w1.heap.size → (w1.alloc o).heap[b]? = w1.heap[b]? := fun b hb => Below.heap_alloc w1 o b (by omega)
  have h5r : ∀ b, b < wr.heap.size → b ≠ pb → (w1.alloc o).heap[b]? = wr.heap[b]? := fun b hb hn => (h5 b (by omega)).trans (hB1.2.2.2.2 b hb hn)
  have hz4' := hgrow.size
  have hne : ∀ b, (b < B ∨ wr.heap.size ≤ b) → some b ≠ (Value.slice ro L.length rc).ownBlock := fun b hb e => by have := hvo b e.symm; omega
  have h4 : ∀ b, b < w1.heap.size → some b ≠ (Value.slice ro L.length rc).ownBlock → w4.heap[b]? = w1.heap[b]? := fun b hb he => (hgrow.block b (by omega) he).trans (h5 b hb)
  have h4r : ∀ b, b < wr.heap.size → b ≠ pb → some b ≠ (Value.slice ro L.length rc).ownBlock → w4.heap[b]? = wr.heap[b]? := fun b hb hn he => (hgrow.block b (by omega) he).trans (h5r b hb hn)
  have hgne : ∀ b, b < w1.heap.size → some b ≠ (Value.slice ro L.length rc).ownBlock → some b ≠ (Value.slice (some ⟨g, 0, none⟩) (L.length + 1) gc).ownBlock := by
    intro b hb he e
    have e2 : b = g := by simpa [Value.ownBlock] using e
    subst e2
    rcases hat with h | h
    · exact he h.symm
    · omega
  refine ⟨prow_snoc hown, ?_, ⟨hgrow.os.trans hB1.1, hgrow.tape.trans hB1.2.1, hgrow.output.trans hB1.2.2.1, by omega, fun b hb hn => h4r b (by omega) hn (hne b (.inl hb))⟩, h4 pb (by omega) (hne pb (.inl hpb))⟩
  intro x hx
  rcases List.mem_append.1 hx with hx | hx
  · exact tin_imp (fun b hb hS => ⟨⟨hS.1, hgne b (by omega) hS.2⟩, h4r b hb (by have := hS.1; omega) hS.2⟩) (by omega) _ _ (hL x hx)
  · obtain rfl : x = (r, kr) := by simpa using hx
    exact tin_imp (fun b hb hS => by unfold Fresh at hS; exact ⟨⟨by omega, hgne b hb (hne b (.inr hS))⟩, h4 b hb (hne b (.inr hS))⟩) (by omega) _ _ htin
def RelCut (W0 : World) (t : Tr) (pb lv d : Nat) (v i : Value) (wr : World) : Prop := ∃ (k : Nat) (L : List TV) (ro : Option Addr) (rc lv' : Nat), v = .slice ro L.length rc ∧ i = .int .i64 k ∧ k ≤ t.ks.length ∧ L.length = k ∧ PRow wr W0.heap.size 24 (.slice ro L.length rc) L ∧ (∀ x ∈ L, TIn wr (fun b => W0.heap.size ≤ b ∧ some b ≠ (Value.slice ro L.length rc).ownBlock) x.1 x.2) ∧ wr.heap[pb]? = some (.cells #[.int .i64 lv'] 3 (0, 0)) ∧ cntL (L.map (·.1)) + lv' ≤ lv ∧ depL (L.map (·.1)) ≤ d ∧ GB W0.heap.size pb W0 wr
theorem cntL_app : ∀ (l r : List Tr), cntL (l ++ r) = cntL l + cntL r := by
  intro l r
  induction l with
  | nil => simp [cntL]
  | cons t l ih => simp only [List.cons_append, cntL, ih]; omega
theorem depL_app : ∀ (l r : List Tr), depL (l ++ r) = max (depL l) (depL r) := by
  intro l r
  induction l with
  | nil => simp [depL]
  | cons t l ih => simp only [List.cons_append, depL, ih]; omega
theorem relcut_step {W0 wr W1 w1 w4 : World} {o : Obj} {t x r : Tr} {pb lv d d' lv1 lv2 : Nat} {k : Nat} {L : List TV} {ro : Option Addr} {rc g gc : Nat} {kr : Value} (hx : t.ks[k]? = some x) (hLk : L.length = k) (hpb : pb < W0.heap.size) (hd : d = d' + 1)
    (hc : cntL (L.map (·.1)) + (lv1 + 1) ≤ lv) (hdp : depL (L.map (·.1)) ≤ d) (hB : GB W0.heap.size pb W0 wr) (hW1 : GB wr.heap.size pb wr W1) (hzW : W1.heap.size = wr.heap.size)
    (hL : ∀ x ∈ L, TIn wr (fun b => W0.heap.size ≤ b ∧ some b ≠ (Value.slice ro L.length rc).ownBlock) x.1 x.2)
    (hvo : ∀ g, (Value.slice ro L.length rc).ownBlock = some g → W0.heap.size ≤ g ∧ g < wr.heap.size)
    (htin : TIn w1 (Fresh W1) r kr) (hcell : w1.heap[pb]? = some (.cells #[.int .i64 lv2] 3 (0, 0))) (hrc : r.cnt + lv2 ≤ lv1 + 1) (hrd : r.dep ≤ d' + 1) (hB1 : GB W1.heap.size pb W1 w1)
    (hgrow : (w1.alloc o).grownBy w4 (Value.slice ro L.length rc).ownBlock) (hat : (Value.slice ro L.length rc).ownBlock = some g ∨ g = (w1.alloc o).heap.size) (hown : w4.ownsRow W0.heap.size 24 6 (.slice (some ⟨g, 0, none⟩) (L.length + 1) gc) (L.length + 1) (L.flatMap pC ++ ndC r kr)) :
    RelCut W0 t pb lv d (.slice (some ⟨g, 0, none⟩) (L.length + 1) gc) (.int .i64 ((k : Int) + 1)) w4 := by
  have hz := hB.2.2.2.1
  obtain ⟨h1, h2, h3, h4⟩ := row_step2 hpb hL (by omega) hvo (tin_mono htin (fun b _ hs => by unfold Fresh at hs ⊢; omega)) (hW1.trans hB1 (by omega)) hgrow hat hown
  have e : (L ++ [(r, kr)]).length = L.length + 1 := by simp
  refine ⟨k + 1, L ++ [(r, kr)], some ⟨g, 0, none⟩, gc, lv2, by rw [e], by simp, (List.getElem?_eq_some_iff.1 hx).1, by rw [e, hLk], by rw [e]; exact h1, by rw [e]; exact h2, h4.trans hcell, ?_, ?_, hB.trans h3 (Nat.le_refl _)⟩
  · rw [List.map_append, cntL_app]; simp only [List.map_cons, List.map_nil, cntL]; omega
  · rw [List.map_append, depL_app]; simp only [List.map_cons, List.map_nil, depL]; omega
end Go.Proofs.YtppliplalfpmaaaDoor
