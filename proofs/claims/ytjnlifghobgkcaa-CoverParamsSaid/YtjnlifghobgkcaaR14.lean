/-
  element of the reference at this translation: a step of its loop.
-/
import Derived.Test.YtjnlifghobgkcaaR13
import Derived.Deep.AppendLies
import Derived.Deep.Cut
namespace Go.Proofs.Ytjnlifghobgkcaa
open Go.RowKit

/-- the loop of element of the reference, behind k children -/
structure RelE (w : World) (B g8 : Nat) (y : Tr) (yk : Value) (op a : Int) (G : Part) (D : Nat) (ks : List Tr) (i : Value) (wr : World) : Prop where
  ex : ∃ (k : Nat) (L : List TV) (v : Value), i = .int .i64 k ∧ k ≤ ks.length ∧ L.length ≤ k ∧ PRow wr (g8 + 1) 27 v L ∧ (∀ x ∈ L, TIn wr (fun b => b < B ∨ (g8 + 1 ≤ b ∧ some b ≠ v.ownBlock)) x.1 x.2) ∧ madeL G D ks = joinM (L.map (·.1)) (madeL G D (ks.drop k)) ∧ wr.heap[g8]? = some (.cells #[.int .i64 op, .int .i64 a, .int .i64 0, .int .i64 0, .string ⟨#[]⟩, v] 27 (0, 0))
  box : wr.heap[w.heap.size]? = some (.cells #[.int .i64 y.op, .int .i64 y.a, .int .i64 y.n, .int .i64 y.m, .string y.s, yk] 27 (0, 0))
  res : wr.heap[w.heap.size + 1]? = some (.cells #[.int .i64 0, .int .i64 0, .int .i64 0, .int .i64 0, .string ⟨#[]⟩, .slice none 0 0] 27 (0, 0))
  bel : Below w.heap.size w wr
  big : g8 + 1 ≤ wr.heap.size
theorem elem_step {w wr W2 w1 W3 w4 : World} {o : Obj} {B g8 : Nat} {yt : Tr} {yk : Value} {op a : Int} {G : Part} {D : Nat} {ks : List Tr} {k : Nat} {L : List TV} {ro : Option Addr} {rc g gc : Nat} {y r : Tr} {kr : Value} {lb : Bool} (hBw : B ≤ w.heap.size) (hg8 : w.heap.size + 2 ≤ g8)
    (hL : ∀ x ∈ L, TIn wr (fun b => b < B ∨ (g8 + 1 ≤ b ∧ some b ≠ (Value.slice ro L.length rc).ownBlock)) x.1 x.2) (hLk : L.length ≤ k) (heq : madeL G D ks = joinM (L.map (·.1)) (madeL G D (ks.drop k))) (hyks : ks[k]? = some y) (hG : Except.ok r = G y D lb) (hlb : lb = decide (ks.length ≤ k + 1))
    (hvo : ∀ g, (Value.slice ro L.length rc).ownBlock = some g → g8 + 1 ≤ g ∧ g < wr.heap.size) (hbig : g8 + 1 ≤ wr.heap.size) (hB : Below w.heap.size w wr)
    (hWR : Below wr.heap.size wr W2) (hzW : W2.heap.size = wr.heap.size + 1)
    (hbox : wr.heap[w.heap.size]? = some (.cells #[.int .i64 yt.op, .int .i64 yt.a, .int .i64 yt.n, .int .i64 yt.m, .string yt.s, yk] 27 (0, 0)))
    (hres : wr.heap[w.heap.size + 1]? = some (.cells #[.int .i64 0, .int .i64 0, .int .i64 0, .int .i64 0, .string ⟨#[]⟩, .slice none 0 0] 27 (0, 0)))
    (hout : wr.heap[g8]? = some (.cells #[.int .i64 op, .int .i64 a, .int .i64 0, .int .i64 0, .string ⟨#[]⟩, .slice ro L.length rc] 27 (0, 0)))
    (htin : TIn w1 (Sha B W2) r kr) (hB1 : Below W2.heap.size W2 w1) (hB3 : Below wr.heap.size w1 W3) (hz3 : W3.heap.size = w1.heap.size) (h3 : ∀ b, b ≠ wr.heap.size → W3.heap[b]? = w1.heap[b]?)
    (hgrow : (W3.alloc o).grownBy w4 (Value.slice ro L.length rc).ownBlock) (hat : (Value.slice ro L.length rc).ownBlock = some g ∨ g = (W3.alloc o).heap.size) (hown : w4.ownsRow (g8 + 1) 27 6 (.slice (some ⟨g, 0, none⟩) (L.length + 1) gc) (L.length + 1) (L.flatMap pC ++ ndC r kr)) :
    (w4.heap[g8]? = some (.cells #[.int .i64 op, .int .i64 a, .int .i64 0, .int .i64 0, .string ⟨#[]⟩, .slice ro L.length rc] 27 (0, 0))) ∧
    RelE w B g8 yt yk op a G D ks (.int .i64 ((k : Int) + 1)) (w4.setCell ⟨g8, 5, none⟩ (.slice (some ⟨g, 0, none⟩) (L.length + 1) gc)) := by
  have hg2 : g8 + 1 ≤ g := (World.ownsRow.lt hown g rfl).1
  have hz5 : (W3.alloc o).heap.size = w1.heap.size + 1 := by simp; omega
  have hz1 := hB1.size
  have h5 : ∀ b, b < w1.heap.size → b ≠ wr.heap.size → (W3.alloc o).heap[b]? = w1.heap[b]? := fun b hb hn => (Below.heap_alloc W3 o b (by omega)).trans (h3 b hn)
  have h5r : ∀ b, b < wr.heap.size → (W3.alloc o).heap[b]? = wr.heap[b]? := fun b hb => (h5 b (by omega) (by omega)).trans ((hB1.block b (by omega)).trans (hWR.block b hb))
  have hz4' := hgrow.size
  have hne : ∀ b, (b < g8 + 1 ∨ wr.heap.size ≤ b) → some b ≠ (Value.slice ro L.length rc).ownBlock := fun b hb e => by have := hvo b e.symm; omega
  have h4 : ∀ b, b < w1.heap.size → b ≠ wr.heap.size → some b ≠ (Value.slice ro L.length rc).ownBlock → w4.heap[b]? = w1.heap[b]? := fun b hb hn he => (hgrow.block b (by omega) he).trans (h5 b hb hn)
  have h4r : ∀ b, b < wr.heap.size → some b ≠ (Value.slice ro L.length rc).ownBlock → w4.heap[b]? = wr.heap[b]? := fun b hb he => (hgrow.block b (by omega) he).trans (h5r b hb)
  have hout4 := (h4r _ (by omega) (hne (g8) (by omega))).trans hout
  have hs : ∀ b, b ≠ g8 → (w4.setCell ⟨g8, 5, none⟩ (.slice (some ⟨g, 0, none⟩) (L.length + 1) gc)).heap[b]? = w4.heap[b]? := fun b hb => Below.heap_setCell _ _ _ _ hb
  have hss : (w4.setCell ⟨g8, 5, none⟩ (.slice (some ⟨g, 0, none⟩) (L.length + 1) gc)).heap.size = w4.heap.size := by simp [World.setCell]
  have hgne : ∀ b, b < w1.heap.size → some b ≠ (Value.slice ro L.length rc).ownBlock → some b ≠ (Value.slice (some ⟨g, 0, none⟩) (L.length + 1) gc).ownBlock := by
    intro b hb he e
    have e2 : b = g := by simpa [Value.ownBlock] using e
    subst e2
    rcases hat with h | h
    · exact he h.symm
    · omega
  have hBw4 : Below w.heap.size w w4 := ⟨hgrow.os.trans (hB3.os.trans (hB1.os.trans (hWR.os.trans hB.os))), hgrow.tape.trans (hB3.tape.trans (hB1.tape.trans (hWR.tape.trans hB.tape))), hgrow.output.trans (hB3.output.trans (hB1.output.trans (hWR.output.trans hB.output))), by omega, fun b hb => (h4r b (by omega) (hne b (by omega))).trans (hB.block b hb)⟩
  refine ⟨hout4, ⟨⟨k + 1, L ++ [(r, kr)], _, by simp, (List.getElem?_eq_some_iff.1 hyks).1, by simp; omega, ?_, ?_, ?_, c_one 5 _ hout4⟩, ?_, ?_, c_set _ _ hBw4 (by omega), by omega⟩⟩
  · have h6 : PRow w4 (g8 + 1) 27 (.slice (some ⟨g, 0, none⟩) (L.length + 1) gc) (L ++ [(r, kr)]) := prow_snoc hown
    exact World.ownsRow.kept h6 (c_gset ⟨rfl, rfl, rfl, Nat.le_refl _, fun _ _ _ => rfl⟩ rfl _) (.inr (fun e => by simp [Value.ownBlock] at e; omega))
  · intro x hx
    rcases List.mem_append.1 hx with hx | hx
    · refine tin_imp (fun b hb hS => ?_) (by omega) _ _ (hL x hx)
      rcases hS with hS | hS
      · exact ⟨.inl hS, (hs b (by omega)).trans (h4r b hb (hne b (by omega)))⟩
      · exact ⟨.inr ⟨hS.1, hgne b (by omega) hS.2⟩, (hs b (by omega)).trans (h4r b hb hS.2)⟩
    · obtain rfl : x = (r, kr) := by simpa using hx
      refine tin_imp (fun b hb hS => ?_) (by omega) _ _ htin
      rcases hS with hS | hS
      · exact ⟨.inl hS, (hs b (by omega)).trans (h4 b hb (by omega) (hne b (by omega)))⟩
      · exact ⟨.inr ⟨by omega, hgne b hb (hne b (by omega))⟩, (hs b (by omega)).trans (h4 b hb (by omega) (hne b (by omega)))⟩
  · rw [heq, drop_cons hyks, madeL_cons, drop_empty, ← hlb, ← hG]
    simp only
    rw [joinM_join]
    simp
  · exact (hs _ (by omega)).trans ((h4r _ (by omega) (hne _ (by omega))).trans hbox)
  · exact (hs _ (by omega)).trans ((h4r _ (by omega) (hne _ (by omega))).trans hres)
end Go.Proofs.Ytjnlifghobgkcaa
