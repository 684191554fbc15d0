/-
  Build of the reference at this translation: the step.
-/
import Derived.Test.YtjnlifghobgkcaaD3
import Derived.Test.YtjnlifghobgkcaaD1
import Derived.Maps.AppendAt
import Derived.Deep.AppendLies
namespace Go.Proofs.Ytjnlifghobgkcaa
open Go.RowKit

theorem flat_split (L : List TV) (j : Nat) : L.flatMap pC = (L.take j).flatMap pC ++ (L.drop j).flatMap pC := by
  rw [← List.flatMap_append, List.take_append_drop]
theorem prow_take {w : World} {B T g rc j : Nat} {L : List TV} (h : PRow w B T (.slice (some ⟨g, 0, none⟩) L.length rc) L) (hj : j ≤ L.length) : w.ownsRow B T 6 (.slice (some ⟨g, 0, none⟩) j rc) j ((L.take j).flatMap pC) := by
  have hl : (L.take j).length = j := by simp; omega
  refine ⟨by rw [pC_flat_len, hl], ?_⟩
  rcases h.2 with ⟨e, -⟩ | ⟨g', cap, cur, e, hb, hgg, hn, hm, hs, ht⟩
  · cases e
  · obtain ⟨rfl, rfl⟩ : g = g' ∧ rc = cap := by simpa using e
    refine .inr ⟨g, rc, cur, rfl, hb, hgg, by omega, hm, hs, ?_⟩
    have h1 : (cur.toList.take (L.length * 6)).take (j * 6) = cur.toList.take (j * 6) := by rw [List.take_take]; congr 1; omega
    rw [← h1, ht, flat_split L j]
    exact List.take_left' (by rw [pC_flat_len, hl])
theorem prow_drop {w : World} {B T g rc j : Nat} {L : List TV} (h : PRow w B T (.slice (some ⟨g, 0, none⟩) L.length rc) L) (hj : j ≤ L.length) : ∀ i u, ((L.drop j).flatMap pC)[i]? = some u → w.cell? ((⟨g, j * 6, none⟩ : Addr).add i) = some u := by
  intro i u hu
  have hl : (L.take j).length = j := by simp; omega
  have := World.ownsRow.cells h (g := g) rfl (j * 6 + i) u (by
    rw [flat_split L j, List.getElem?_append_right (by rw [pC_flat_len, hl]; omega), pC_flat_len, hl]
    have e : j * 6 + i - j * 6 = i := by omega
    rw [e]
    exact hu)
  have a1 : (⟨g, 0, none⟩ : Addr).add (j * 6 + i) = ⟨g, j * 6 + i, none⟩ := by unfold Addr.add; split <;> simp_all
  have a2 : (⟨g, j * 6, none⟩ : Addr).add i = ⟨g, j * 6 + i, none⟩ := by unfold Addr.add; split <;> simp_all
  rw [a2]
  rwa [a1] at this
theorem oneC (L : List TV) (h : ∀ x ∈ L, ∃ ao len cap, x.2 = .slice ao len cap) : ∀ u ∈ L.flatMap pC, u.oneCell' = true := by
  intro u hu
  obtain ⟨x, hx, hu⟩ := List.mem_flatMap.1 hu
  obtain ⟨a, b, c, e⟩ := h x hx
  simp [pC, ndC, e] at hu
  rcases hu with rfl | rfl | rfl | rfl | rfl | rfl <;> rfl
def BuildPost (w : World) (l : List It) : Ending → World → Prop := fun e w' => ∃ (t : Tr) (ao : Option Addr) (cap : Nat), e = .returned (.agg #[.int .i64 t.op, .int .i64 t.a, .int .i64 t.n, .int .i64 t.m, .string t.s, .slice ao t.ks.length cap]) ∧ t.cnt ≤ l.length + 1 ∧ TIn w' All t (.slice ao t.ks.length cap) ∧ Below w.heap.size w w'
structure RelB (w : World) (l : List It) (v i : Value) (wr : World) : Prop where
  ex : ∃ (k : Nat) (ro : Option Addr) (L : List TV) (rc : Nat), i = .int .i64 k ∧ k ≤ l.length ∧ v = .slice ro L.length rc ∧ PRow wr w.heap.size 27 (.slice ro L.length rc) L ∧ (∀ x ∈ L, TIn wr (fun b => w.heap.size ≤ b ∧ some b ≠ (Value.slice ro L.length rc).ownBlock) x.1 x.2) ∧ cntL (L.map (·.1)) ≤ k ∧ (L = [] → ro = none ∧ rc = 0) ∧ rc ≤ maxLen
  bel : Below w.heap.size w wr
def nodeT (y : It) (L : List TV) : Tr := .mk y.op y.a y.n y.m y.s (L.map (·.1))
set_option linter.unusedVariables false in
theorem build_step {W1 wr W2 w5 w6 w7 : World} {l : List It} {k kk rc g' cap' : Nat} {L : List TV} {ro : Option Addr} {y : It} {kv sv : Value}
    (hrow : PRow wr W1.heap.size 27 (.slice ro L.length rc) L) (htin : ∀ x ∈ L, TIn wr (fun b => W1.heap.size ≤ b ∧ some b ≠ (Value.slice ro L.length rc).ownBlock) x.1 x.2) (hcnt : cntL (L.map (·.1)) ≤ k) (hB : Below W1.heap.size W1 wr) (hB2 : Below wr.heap.size wr W2) (hz2 : wr.heap.size < W2.heap.size) (hB5 : Below W2.heap.size W2 w5) (hkids : PRow w5 W2.heap.size 27 kv (L.drop (L.length - kk))) (hB6 : Below w5.heap.size w5 w6) (hgrow : w6.grownBy w7 sv.ownBlock) (hsv : sv.ownBlock = (Value.slice ro L.length rc).ownBlock)
    (hown : w7.ownsRow W1.heap.size 27 6 (.slice (some ⟨g', 0, none⟩) (L.length - kk + 1) cap') (L.length - kk + 1) ((L.take (L.length - kk)).flatMap pC ++ ndC (nodeT y (L.drop (L.length - kk))) kv)) {H : Nat} (hat : sv.ownBlock = some g' ∨ g' = H) (hH : w6.heap.size = H) (hkk : kk ≤ L.length) (hk : k < l.length) :
    RelB W1 l (.slice (some ⟨g', 0, none⟩) (L.length - kk + 1) cap') (.int .i64 ((k : Int) + 1)) w7 := by
  have hlt : (L.take (L.length - kk)).length = L.length - kk := by simp
  have hol := World.ownsRow.lt hrow
  have hkl := World.ownsRow.lt hkids
  have z1 := hB.size
  have z5 := hB5.size
  have z6 := hB6.size
  have z7 := hgrow.size
  subst hH
  rw [hsv] at hgrow hat
  have hl' : (L.take (L.length - kk) ++ [(nodeT y (L.drop (L.length - kk)), kv)]).length = L.length - kk + 1 := by simp
  have keep5 : ∀ x ∈ L, TIn w5 (fun b => (W1.heap.size ≤ b ∧ some b ≠ (Value.slice ro L.length rc).ownBlock) ∧ b < wr.heap.size) x.1 x.2 := fun x hx =>
    tin_imp (fun b hb hs => ⟨⟨hs, hb⟩, (hB5.block b (by omega)).trans (hB2.block b hb)⟩) (by omega) _ _ (htin x hx)
  have keep7 : ∀ x ∈ L, TIn w7 (fun b => W1.heap.size ≤ b ∧ some b ≠ some g') x.1 x.2 := fun x hx =>
    tin_imp (fun b hb hs => ⟨⟨hs.1.1, fun e => by
      rcases hat with h | h
      · exact hs.1.2 (e.trans h.symm)
      · cases e; omega⟩, (hgrow.block b (by omega) hs.1.2).trans (hB6.block b hb)⟩) (by omega) _ _ (keep5 x hx)
  have hnode5 : TIn w5 (fun b => W1.heap.size ≤ b ∧ some b ≠ (Value.slice ro L.length rc).ownBlock) (nodeT y (L.drop (L.length - kk))) kv :=
    tin_row hkids (fun g hg => ⟨by have := (hkl g hg).1; omega, fun e => by have := (hol g e.symm).2; have := (hkl g hg).1; omega⟩) (fun x hx => tin_mono (keep5 x (List.mem_of_mem_drop hx)) (fun b hb hs => hs.1)) rfl
  have hnode7 : TIn w7 (fun b => W1.heap.size ≤ b ∧ some b ≠ some g') (nodeT y (L.drop (L.length - kk))) kv :=
    tin_imp (fun b hb hs => ⟨⟨hs.1, fun e => by
      rcases hat with h | h
      · exact hs.2 (e.trans h.symm)
      · cases e; omega⟩, (hgrow.block b (by omega) hs.2).trans (hB6.block b hb)⟩) (by omega) _ _ hnode5
  refine ⟨⟨k + 1, some ⟨g', 0, none⟩, L.take (L.length - kk) ++ [(nodeT y (L.drop (L.length - kk)), kv)], cap', by simp, hk, by rw [hl'], ?_, ?_, ?_, ?_, ?_⟩, ?_⟩
  · unfold PRow
    rw [hl']
    simpa [pC] using hown
  · rw [hl']
    intro x hx
    rcases List.mem_append.1 hx with hx | hx
    · exact keep7 x (List.mem_of_mem_take hx)
    · obtain rfl : x = (nodeT y (L.drop (L.length - kk)), kv) := by simpa using hx
      exact hnode7
  · have e1 := cntL_app ((L.take (L.length - kk)).map (·.1)) ((L.drop (L.length - kk)).map (·.1))
    rw [← List.map_append, List.take_append_drop] at e1
    rw [List.map_append, cntL_app]
    have e2 : cntL ([(nodeT y (L.drop (L.length - kk)), kv)].map (·.1)) = 1 + cntL ((L.drop (L.length - kk)).map (·.1)) := by
      simp only [List.map_cons, List.map_nil, cntL, nodeT, Tr.cnt]
      omega
    rw [e2]
    omega
  · intro h
    simp at h
  · rcases hown.2 with ⟨e, -⟩ | ⟨g2, c2, cur, e, _, _, _, hm, _⟩
    · cases e
    · obtain ⟨-, rfl⟩ : g' = g2 ∧ cap' = c2 := by simpa using e
      exact hm
  · exact Below.grown (c_thr (c_thr (c_thr hB hB2 z1) hB5 (by omega)) hB6 (by omega)) hgrow (by omega) (fun q hq => (hol q hq).1)
end Go.Proofs.Ytjnlifghobgkcaa
