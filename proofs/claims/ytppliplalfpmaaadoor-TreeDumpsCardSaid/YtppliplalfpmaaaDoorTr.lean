/-
  Trees of nodes: what it says that a value reads as a tree in a world, in which blocks, and that it goes on reading so where those blocks stay as they are.
-/
import Derived.Test.YtppliplalfpmaaaDoorRows
import Derived.WalkKit
import Derived.Below
import Derived.Lib.Hide
namespace Go.Proofs.YtppliplalfpmaaaDoor
open Go.RowKit

inductive Tr where
  | mk (op a n m : Int) (s : ByteArray) (kids : List Tr) : Tr

def Tr.op : Tr → Int | .mk o _ _ _ _ _ => o
def Tr.a : Tr → Int | .mk _ a _ _ _ _ => a
def Tr.n : Tr → Int | .mk _ _ n _ _ _ => n
def Tr.m : Tr → Int | .mk _ _ _ m _ _ => m
def Tr.s : Tr → ByteArray | .mk _ _ _ _ s _ => s
def Tr.ks : Tr → List Tr | .mk _ _ _ _ _ k => k
def zeroT : Tr := .mk 0 0 0 0 ⟨#[]⟩ []

mutual
def Tr.cnt : Tr → Nat | .mk _ _ _ _ _ ks => 1 + cntL ks
def cntL : List Tr → Nat | [] => 0 | t :: r => t.cnt + cntL r
end
theorem cnt_pos (t : Tr) : 1 ≤ t.cnt := by cases t; unfold Tr.cnt; omega
theorem cntL_at : ∀ {l : List Tr} {i : Nat} {t : Tr}, l[i]? = some t → t.cnt ≤ cntL l := by
  intro l
  induction l with
  | nil => intro i t h; simp at h
  | cons x r ih =>
    intro i t h
    unfold cntL
    cases i with
    | zero => simp at h; subst h; omega
    | succ i => have := ih (by simpa using h); omega
theorem cntL_len (l : List Tr) : l.length ≤ cntL l := by
  induction l with
  | nil => simp
  | cons x r ih => unfold cntL; have := cnt_pos x; simp; omega
theorem cnt_kid {t x : Tr} {i : Nat} (h : t.ks[i]? = some x) : x.cnt < t.cnt := by
  obtain ⟨op, a, n, m, s, ks⟩ := t
  have h2 : ks[i]? = some x := h
  have := cntL_at h2
  show x.cnt < 1 + cntL ks
  omega

def ndC (t : Tr) (k : Value) : List Value := [.int .i64 t.op, .int .i64 t.a, .int .i64 t.n, .int .i64 t.m, .string t.s, k]
def ndV (t : Tr) (k : Value) : Value := .agg #[.int .i64 t.op, .int .i64 t.a, .int .i64 t.n, .int .i64 t.m, .string t.s, k]
/-- the six cells of a node -/
def NCells (w : World) (b o : Nat) (t : Tr) (k : Value) : Prop := w.cell? ⟨b, o, none⟩ = some (.int .i64 t.op) ∧ w.cell? ⟨b, o + 1, none⟩ = some (.int .i64 t.a) ∧ w.cell? ⟨b, o + 2, none⟩ = some (.int .i64 t.n) ∧ w.cell? ⟨b, o + 3, none⟩ = some (.int .i64 t.m) ∧ w.cell? ⟨b, o + 4, none⟩ = some (.string t.s) ∧ w.cell? ⟨b, o + 5, none⟩ = some k
theorem ncells_kept {w w' : World} {b o : Nat} {t : Tr} {k : Value} (hb : w'.heap[b]? = w.heap[b]?) (h : NCells w b o t k) : NCells w' b o t k := by
  obtain ⟨c0, c1, c2, c3, c4, c5⟩ := h
  have e : ∀ j, w'.cell? ⟨b, j, none⟩ = w.cell? ⟨b, j, none⟩ := fun j => World.cell?_of_block (a := ⟨b, j, none⟩) hb
  exact ⟨(e _).trans c0, (e _).trans c1, (e _).trans c2, (e _).trans c3, (e _).trans c4, (e _).trans c5⟩

mutual
/-- the slice k holds the children of the tree, in blocks of S -/
def TIn (w : World) (S : Nat → Prop) : Tr → Value → Prop
  | .mk _ _ _ _ _ ks, k => ∃ ao cap, k = .slice ao ks.length cap ∧ ks.length ≤ cap ∧ cap ≤ maxLen ∧ (ks = [] ∨ ∃ b o, ao = some ⟨b, o, none⟩ ∧ b < w.heap.size ∧ S b ∧ RIn w S b ks o)
def RIn (w : World) (S : Nat → Prop) (b : Nat) : List Tr → Nat → Prop
  | [], _ => True
  | .mk op a n m s ks :: r, o => (∃ k, NCells w b o (.mk op a n m s ks) k ∧ TIn w S (.mk op a n m s ks) k) ∧ RIn w S b r (o + 6)
end
mutual
theorem tin_imp {w w' : World} {S S' : Nat → Prop} (hS : ∀ b, b < w.heap.size → S b → S' b ∧ w'.heap[b]? = w.heap[b]?) (hz : w.heap.size ≤ w'.heap.size) : ∀ (t : Tr) (k : Value), TIn w S t k → TIn w' S' t k
  | .mk op a n m s ks, k, h => by
    unfold TIn at h ⊢
    obtain ⟨ao, cap, e, h1, h2, h3⟩ := h
    refine ⟨ao, cap, e, h1, h2, ?_⟩
    rcases h3 with h3 | ⟨b, o, ea, hb, hs, hr⟩
    · exact .inl h3
    · exact .inr ⟨b, o, ea, Nat.lt_of_lt_of_le hb hz, (hS b hb hs).1, rin_imp hS hz b hb (hS b hb hs).2 ks o hr⟩
theorem rin_imp {w w' : World} {S S' : Nat → Prop} (hS : ∀ b, b < w.heap.size → S b → S' b ∧ w'.heap[b]? = w.heap[b]?) (hz : w.heap.size ≤ w'.heap.size) (b : Nat) (hb : b < w.heap.size) (hh : w'.heap[b]? = w.heap[b]?) : ∀ (l : List Tr) (o : Nat), RIn w S b l o → RIn w' S' b l o
  | [], _, _ => by unfold RIn; trivial
  | .mk op a n m s ks :: r, o, h => by
    unfold RIn at h ⊢
    obtain ⟨⟨k, hc, ht⟩, hr⟩ := h
    exact ⟨⟨k, ncells_kept hh hc, tin_imp hS hz _ k ht⟩, rin_imp hS hz b hb hh r (o + 6) hr⟩
end
theorem tin_mono {w : World} {S S' : Nat → Prop} {t : Tr} {k : Value} (h : TIn w S t k) (hS : ∀ b, b < w.heap.size → S b → S' b) : TIn w S' t k :=
  tin_imp (fun b hb hs => ⟨hS b hb hs, rfl⟩) (Nat.le_refl _) t k h
/-- all that was there stays -/
theorem tin_below {w w' : World} {S : Nat → Prop} {t : Tr} {k : Value} {B : Nat} (h : TIn w S t k) (hb : Below B w w') (hS : ∀ b, b < w.heap.size → S b → b < B) : TIn w' S t k :=
  tin_imp (fun b hb' hs => ⟨hs, hb.block b (hS b hb' hs)⟩) hb.size t k h
theorem tin_kept {w w' : World} {S : Nat → Prop} {t : Tr} {k : Value} (h : TIn w S t k) (hb : Below w.heap.size w w') : TIn w' S t k :=
  tin_below h hb (fun _ hb _ => hb)
/-- all stays but one row -/
theorem tin_grown {w w' : World} {S : Nat → Prop} {t : Tr} {k : Value} {row : Option Nat} (h : TIn w S t k) (hg : w.grownBy w' row) (hS : ∀ b, b < w.heap.size → S b → some b ≠ row) : TIn w' S t k :=
  tin_imp (fun b hb hs => ⟨hs, hg.block b hb (hS b hb hs)⟩) hg.size t k h

theorem rin_at {w : World} {S : Nat → Prop} {b : Nat} : ∀ {l : List Tr} {o i : Nat} {t : Tr}, RIn w S b l o → l[i]? = some t → ∃ k, NCells w b (o + i * 6) t k ∧ TIn w S t k := by
  intro l
  induction l with
  | nil => intro o i t _ h; simp at h
  | cons x r ih =>
    intro o i t hr h
    obtain ⟨op, a, n, m, s, ks⟩ := x
    unfold RIn at hr
    cases i with
    | zero =>
      simp at h
      subst h
      simpa using hr.1
    | succ i =>
      have := ih hr.2 (by simpa using h)
      have e : o + 6 + i * 6 = o + (i + 1) * 6 := by omega
      rwa [e] at this
theorem rin_of {w : World} {S : Nat → Prop} {b : Nat} : ∀ {l : List Tr} {o : Nat}, (∀ i t, l[i]? = some t → ∃ k, NCells w b (o + i * 6) t k ∧ TIn w S t k) → RIn w S b l o := by
  intro l
  induction l with
  | nil => intro o _; unfold RIn; trivial
  | cons x r ih =>
    intro o h
    obtain ⟨op, a, n, m, s, ks⟩ := x
    unfold RIn
    refine ⟨by simpa using h 0 _ rfl, ih (fun i t hi => ?_)⟩
    have := h (i + 1) t (by simpa using hi)
    have e : o + (i + 1) * 6 = o + 6 + i * 6 := by omega
    rwa [e] at this
/-- a tree's children, by their index -/
theorem tin_open {w : World} {S : Nat → Prop} {t : Tr} {k : Value} (h : TIn w S t k) : ∃ ao cap, k = .slice ao t.ks.length cap ∧ t.ks.length ≤ cap ∧ cap ≤ maxLen ∧ ∀ i x, t.ks[i]? = some x → ∃ b o kx, ao = some ⟨b, o, none⟩ ∧ b < w.heap.size ∧ S b ∧ NCells w b (o + i * 6) x kx ∧ TIn w S x kx := by
  obtain ⟨op, a, n, m, s, ks⟩ := t
  unfold TIn at h
  obtain ⟨ao, cap, e, h1, h2, h3⟩ := h
  refine ⟨ao, cap, e, h1, h2, fun i x hi => ?_⟩
  rcases h3 with rfl | ⟨b, o, ea, hb, hs, hr⟩
  · simp [Tr.ks] at hi
  · obtain ⟨kx, hc, hx⟩ := rin_at hr hi
    exact ⟨b, o, kx, ea, hb, hs, hc, hx⟩
theorem tin_close {w : World} {S : Nat → Prop} {t : Tr} {ao : Option Addr} {cap : Nat} (h1 : t.ks.length ≤ cap) (h2 : cap ≤ maxLen) (h : t.ks = [] ∨ ∃ b o, ao = some ⟨b, o, none⟩ ∧ b < w.heap.size ∧ S b ∧ ∀ i x, t.ks[i]? = some x → ∃ kx, NCells w b (o + i * 6) x kx ∧ TIn w S x kx) : TIn w S t (.slice ao t.ks.length cap) := by
  obtain ⟨op, a, n, m, s, ks⟩ := t
  unfold TIn
  refine ⟨ao, cap, rfl, h1, h2, ?_⟩
  rcases h with h | ⟨b, o, ea, hb, hs, hr⟩
  · exact .inl h
  · exact .inr ⟨b, o, ea, hb, hs, rin_of hr⟩

/-! ### A row of nodes that the call owns -/
abbrev TV := Tr × Value
def pC (x : TV) : List Value := ndC x.1 x.2
theorem pC_len (x : TV) : (pC x).length = 6 := rfl
theorem pC_flat {l : List TV} : ∀ {i j : Nat} {x : TV} {u : Value}, l[i]? = some x → (pC x)[j]? = some u → (l.flatMap pC)[i * 6 + j]? = some u := by
  induction l with
  | nil => intro i j t u h; simp at h
  | cons x r ih =>
    intro i j t u h hu
    have hj : j < 6 := by
      have := (List.getElem?_eq_some_iff.1 hu).1
      rw [pC_len] at this
      exact this
    rw [List.flatMap_cons]
    cases i with
    | zero =>
      simp at h
      subst h
      rw [List.getElem?_append_left (by rw [pC_len]; omega)]
      simpa using hu
    | succ i =>
      rw [List.getElem?_append_right (by rw [pC_len]; omega), pC_len]
      have e : (i + 1) * 6 + j - 6 = i * 6 + j := by omega
      rw [e]
      exact ih (by simpa using h) hu
theorem pC_flat_len (l : List TV) : (l.flatMap pC).length = l.length * 6 := by
  induction l with
  | nil => rfl
  | cons x r ih => simp [List.flatMap_cons, ih, pC_len]; omega
/-- a slice value that holds the nodes of l, in a row of the call's own -/
def PRow (w : World) (B T : Nat) (v : Value) (l : List TV) : Prop := w.ownsRow B T 6 v l.length (l.flatMap pC)
theorem prow_cells {w : World} {B T : Nat} {v : Value} {l : List TV} (h : PRow w B T v l) {g i : Nat} {x : TV} (hg : v.ownBlock = some g) (hx : l[i]? = some x) : NCells w g (i * 6) x.1 x.2 := by
  have key : ∀ j u, (pC x)[j]? = some u → w.cell? ⟨g, i * 6 + j, none⟩ = some u := by
    intro j u hu
    have := World.ownsRow.cells h hg (i * 6 + j) u (pC_flat hx hu)
    have hadd : (⟨g, 0, none⟩ : Addr).add (i * 6 + j) = ⟨g, i * 6 + j, none⟩ := by unfold Addr.add; split <;> simp_all
    rwa [hadd] at this
  exact ⟨key 0 _ rfl, key 1 _ rfl, key 2 _ rfl, key 3 _ rfl, key 4 _ rfl, key 5 _ rfl⟩
theorem prow_slice {w : World} {B T : Nat} {v : Value} {l : List TV} (h : PRow w B T v l) : ∃ ao cap, v = .slice ao l.length cap ∧ l.length ≤ cap ∧ cap ≤ maxLen ∧ (l = [] ∨ ∃ g, ao = some ⟨g, 0, none⟩ ∧ v.ownBlock = some g ∧ B ≤ g ∧ g < w.heap.size) := by
  have hlt := World.ownsRow.lt h
  rcases h.2 with ⟨rfl, h0⟩ | ⟨g, cap, cur, rfl, hb, hg, hn, hm, hs, ht⟩
  · exact ⟨none, 0, by rw [h0], by omega, by unfold maxLen; omega, .inl (List.eq_nil_of_length_eq_zero h0)⟩
  · exact ⟨_, cap, rfl, hn, hm, .inr ⟨g, rfl, rfl, hb, (hlt g rfl).2⟩⟩
/-- the row as a tree's children -/
theorem tin_row {w : World} {B T : Nat} {v : Value} {l : List TV} {S : Nat → Prop} (h : PRow w B T v l) (hS : ∀ g, v.ownBlock = some g → S g) (hk : ∀ x ∈ l, TIn w S x.1 x.2) {t : Tr} (ht : t.ks = l.map (·.1)) : TIn w S t v := by
  obtain ⟨ao, cap, e, h1, h2, h3⟩ := prow_slice h
  have hl : t.ks.length = l.length := by rw [ht]; simp
  rw [e, ← hl]
  refine tin_close (by omega) h2 ?_
  rcases h3 with rfl | ⟨g, ea, hg, hB, hlt⟩
  · exact .inl (by rw [ht]; rfl)
  · refine .inr ⟨g, 0, ea, hlt, hS g hg, fun i x hi => ?_⟩
    rw [ht, List.getElem?_map] at hi
    obtain ⟨y, hy, rfl⟩ := Option.map_eq_some_iff.1 hi
    exact ⟨y.2, by simpa using prow_cells h hg hy, hk y (List.mem_of_getElem? hy)⟩
theorem prow_kept {w w' : World} {B T : Nat} {v : Value} {l : List TV} (h : PRow w B T v l) (hb : Below w.heap.size w w') : PRow w' B T v l :=
  World.ownsRow.kept h (row := none) ⟨hb.os, hb.tape, hb.output, hb.size, fun k hk _ => hb.block k hk⟩ (by cases hv : v.ownBlock <;> simp)
theorem prow_snoc {w : World} {B T : Nat} {v : Value} {l : List TV} {x : TV} (h : w.ownsRow B T 6 v (l.length + 1) (l.flatMap pC ++ pC x)) : PRow w B T v (l ++ [x]) := by
  unfold PRow
  simpa using h
end Go.Proofs.YtppliplalfpmaaaDoor
