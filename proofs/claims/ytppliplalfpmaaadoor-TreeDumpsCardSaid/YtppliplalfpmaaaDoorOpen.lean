/-
  A tree as it comes in; and what came in reads as before where nothing that was there has turned.
-/
import Derived.Test.YtppliplalfpmaaaDoorDump
import Derived.ProofKit
import Derived.OpenShut
import Derived.ShutString
import Derived.Carry
import Derived.Deep.Slices
import Derived.Deep.Fields
import Derived.ChangeSame
import Derived.SizedLaws
namespace Go.Proofs.YtppliplalfpmaaaDoor
open Go.ChangeShapes Go.WideShapes Go.ChangeAt Go.RowKit Go.Deep

theorem laidOut : laidOutB Tryd.prog = true := by kernel_rfl
theorem cell_lt {w : World} {b o : Nat} {v : Value} (h : w.cell? ⟨b, o, none⟩ = some v) : b < w.heap.size := by
  rcases Nat.lt_or_ge b w.heap.size with h' | h'
  · exact h'
  · simp [World.cell?, Array.getElem?_eq_none h'] at h
theorem b64_of {n : Int} (h : (Lit.int .i64 n).wf = true) : i64B n := by
  have h' : -9223372036854775808 ≤ n ∧ n ≤ 9223372036854775807 := by simpa [Lit.wf, IntKind.min, IntKind.max, IntKind.signed, IntKind.bits] using h
  exact h'
theorem numsL_of : ∀ {l : List Tr}, (∀ x ∈ l, x.nums) → numsL l
  | [], _ => trivial
  | x :: _, h => ⟨h x (List.mem_cons_self ..), numsL_of (fun y hy => h y (List.mem_cons_of_mem _ hy))⟩
section
variable {H : Type} {enc : TypeId × Value → H}
theorem trodAll_kept {P : Program} (hl : laidOutB P = true) {W W' : World} (hb : Below W.heap.size W W') : ∀ (ts : List TypeId) (vs : List Value) (ds : List (DataW H)) (ps : List MemPlace),
    (∀ t ∈ ts, P.readableRec t = true ∧ t < P.types.size) → DataW.TrodAll enc P W 0 (fun _ => true) true ts vs ds ps → (∀ x ∈ ps, x.block < W.heap.size) →
    DataW.TrodAll enc P W' 0 (fun b => decide (b < W.heap.size)) true ts vs ds ps := by
  intro ts
  induction ts with
  | nil =>
    intro vs ds ps _ h _
    obtain ⟨rfl, rfl, rfl⟩ := trodAll_nil h
    exact trodAll_mk0
  | cons t ts ih =>
    intro vs ds ps hr h hlt
    obtain ⟨v, vs', d, ds', p, q, rfl, rfl, rfl, h1, h2⟩ := trodAll_cons h
    have hq := ih vs' ds' q (fun t ht => hr t (List.mem_cons_of_mem _ ht)) h2 (fun x hx => hlt x (List.mem_append_right _ hx))
    exact trodAll_cons_mk (Below.trod hl (hr t (List.mem_cons_self ..)).1 (hr t (List.mem_cons_self ..)).2 h1 hb (fun x hx => hlt x (List.mem_append_left _ hx))) hq
variable {W : World} {base : Nat} {spare : Nat → Bool} {held : Bool}
set_option linter.all false in
set_option maxRecDepth 100000 in
theorem open_node : ∀ (N : Nat) (d : DataW H) (fuel : Nat) (cs : List Value) (p : List MemPlace), SizeOf.sizeOf d ≤ N → DataW.trod enc Tryd.prog W base spare held fuel 24 cs = some (d, p) →
    ∃ (t : Tr) (ao : Option Addr) (cap : Nat), cs = ndC t (.slice ao t.ks.length cap) ∧ TIn W All t (.slice ao t.ks.length cap) ∧ t.nums := by
  have h6 : Tryd.prog.cellsOf 24 = 6 := by kernel_rfl
  have h3 : Tryd.prog.cellsOf 3 = 1 := by kernel_rfl
  have h9 : Tryd.prog.cellsOf 9 = 1 := by kernel_rfl
  have h22 : Tryd.prog.cellsOf 22 = 1 := by kernel_rfl
  intro N
  induction N with
  | zero => intro d fuel cs p h _; have : 0 < SizeOf.sizeOf d := by cases d <;> simp <;> omega
            omega
  | succ N ih =>
    intro d fuel cs p hN hf
    obtain ⟨xs, n, _, hx, hcl, hlen, hg⟩ := DataW.trod_struct Tryd.underlying24 hf
    match cs, hcl.trans h6, xs, hlen with
    | [c0, c1, c2, c3, c4, c5], _, [y0, y1, y2, y3, y4, y5], _ =>
      have g0 : DataW.trod enc Tryd.prog W base spare held n 3 (([c0, c1, c2, c3, c4, c5].drop 0).take (Tryd.prog.cellsOf 3)) = some y0 := hg 0 _ rfl
      rw [h3] at g0
      have g1 : DataW.trod enc Tryd.prog W base spare held n 3 (([c0, c1, c2, c3, c4, c5].drop 1).take (Tryd.prog.cellsOf 3)) = some y1 := hg 1 _ rfl
      rw [h3] at g1
      have g2 : DataW.trod enc Tryd.prog W base spare held n 3 (([c0, c1, c2, c3, c4, c5].drop 2).take (Tryd.prog.cellsOf 3)) = some y2 := hg 2 _ rfl
      rw [h3] at g2
      have g3 : DataW.trod enc Tryd.prog W base spare held n 3 (([c0, c1, c2, c3, c4, c5].drop 3).take (Tryd.prog.cellsOf 3)) = some y3 := hg 3 _ rfl
      rw [h3] at g3
      have g4 : DataW.trod enc Tryd.prog W base spare held n 9 (([c0, c1, c2, c3, c4, c5].drop 4).take (Tryd.prog.cellsOf 9)) = some y4 := hg 4 _ rfl
      rw [h9] at g4
      have g5 : DataW.trod enc Tryd.prog W base spare held n 22 (([c0, c1, c2, c3, c4, c5].drop 5).take (Tryd.prog.cellsOf 22)) = some y5 := hg 5 _ rfl
      rw [h22] at g5
      obtain ⟨x0, e0, _, w0⟩ := DataW.trod_int Tryd.underlying3 g0
      obtain ⟨x1, e1, _, w1⟩ := DataW.trod_int Tryd.underlying3 g1
      obtain ⟨x2, e2, _, w2⟩ := DataW.trod_int Tryd.underlying3 g2
      obtain ⟨x3, e3, _, w3⟩ := DataW.trod_int Tryd.underlying3 g3
      obtain ⟨x4, e4, d4, _⟩ := DataW.trod_string Tryd.underlying9 g4
      simp at e0 e1 e2 e3 e4
      subst e0 e1 e2 e3 e4
      have hd : d = .agg [y0.1, y1.1, y2.1, y3.1, y4.1, y5.1] := by simpa using congrArg Prod.fst hx
      have hs5 : SizeOf.sizeOf y5.1 < SizeOf.sizeOf d := by rw [hd]; simp; omega
      rcases open_slice Tryd.underlying22 g5 with ⟨hcs, _⟩ | ⟨a, len, cap, m, n2, D, Pl, hcs, hb, hl, hm, hmm, hdd, hx2⟩
      · simp at hcs
        subst hcs
        exact ⟨.mk x0 x1 x2 x3 x4 [], none, 0, rfl, tin_leaf, ⟨b64_of w0, b64_of w2, b64_of w3⟩, trivial⟩
      · simp at hcs
        subst hcs
        have hlm : len ≤ m := by rw [hmm]; split <;> omega
        have hdv : y5.1 = .slice ((List.range len).map D) ((List.range (m - len)).map fun j => D (len + j)) := congrArg Prod.fst hdd
        have hsz : ∀ i, i < len → SizeOf.sizeOf (D i) ≤ N := by
          intro i hi
          have h1 : SizeOf.sizeOf (D i) < SizeOf.sizeOf ((List.range len).map D) := List.sizeOf_lt_of_mem (List.mem_map.2 ⟨i, List.mem_range.2 hi, rfl⟩)
          have h2 : SizeOf.sizeOf ((List.range len).map D) < SizeOf.sizeOf y5.1 := by rw [hdv]; simp; omega
          omega
        by_cases hz : len = 0
        · subst hz
          exact ⟨.mk x0 x1 x2 x3 x4 [], some a, cap, rfl, tin_close (t := .mk x0 x1 x2 x3 x4 []) (ao := some a) (cap := cap) (by simp [Tr.ks]) hm (.inl rfl), ⟨b64_of w0, b64_of w2, b64_of w3⟩, trivial⟩
        obtain ⟨b, off, spot⟩ := a
        have hspot : spot = none := by
          obtain ⟨cs', h1, _⟩ := hx2 0 (by omega)
          rw [h6] at h1
          obtain ⟨_, hlen, hcell⟩ := World.cells?_some h1
          have := hcell 0 (by omega)
          rw [List.getElem?_eq_getElem (by omega)] at this
          simpa [Addr.add] using World.cell?_spot this
        subst hspot
        have each : ∀ i, ∃ (x : Tr) (k : Value), i < len → NCells W b (off + i * 6) x k ∧ TIn W All x k ∧ x.nums := by
          intro i
          by_cases hi : i < len
          · obtain ⟨cs', h1, h2⟩ := hx2 i (by omega)
            rw [h6] at h1
            obtain ⟨_, hlen', hcell⟩ := World.cells?_some h1
            obtain ⟨x, xo, xc, rfl, htx, hnx⟩ := ih (D i) n2 cs' (Pl i) (hsz i hi) h2
            refine ⟨x, .slice xo x.ks.length xc, fun _ => ⟨?_, htx, hnx⟩⟩
            have key : ∀ k v, W.cell? (((⟨b, off, none⟩ : Addr).add (i * 6)).add k) = some v → W.cell? ⟨b, off + i * 6 + k, none⟩ = some v := by
              intro k v hk
              rw [add_add] at hk
              unfold Addr.add at hk
              split at hk
              · have : off + i * 6 + k = off := by omega
                rw [this]
                exact hk
              · rw [Nat.add_assoc]
                exact hk
            exact ⟨key 0 _ (hcell 0 (by simp [ndC])), key 1 _ (hcell 1 (by simp [ndC])), key 2 _ (hcell 2 (by simp [ndC])), key 3 _ (hcell 3 (by simp [ndC])), key 4 _ (hcell 4 (by simp [ndC])), key 5 _ (hcell 5 (by simp [ndC]))⟩
          · exact ⟨zeroT, .bool false, fun h => absurd h hi⟩
        have hf1 : ∃ f : Nat → Tr × Value, ∀ i, i < len → NCells W b (off + i * 6) (f i).1 (f i).2 ∧ TIn W All (f i).1 (f i).2 ∧ (f i).1.nums := by
          have each' : ∀ i, ∃ q : Tr × Value, i < len → NCells W b (off + i * 6) q.1 q.2 ∧ TIn W All q.1 q.2 ∧ q.1.nums := fun i => by
            obtain ⟨x, k, h⟩ := each i
            exact ⟨(x, k), h⟩
          exact ⟨fun i => Classical.choose (each' i), fun i => Classical.choose_spec (each' i)⟩
        obtain ⟨f, hf⟩ := hf1
        have hat : ∀ i x, ((List.range len).map fun i => (f i).1)[i]? = some x → i < len ∧ x = (f i).1 := by
          intro i x hix
          have hi : i < len := by
            have := (List.getElem?_eq_some_iff.1 hix).1
            simpa using this
          rw [List.getElem?_map, List.getElem?_range hi] at hix
          exact ⟨hi, (Option.some.inj hix).symm⟩
        have hll : ((List.range len).map fun i => (f i).1).length = len := by simp
        refine ⟨.mk x0 x1 x2 x3 x4 ((List.range len).map fun i => (f i).1), some ⟨b, off, none⟩, cap, ?_, ?_, ⟨b64_of w0, b64_of w2, b64_of w3⟩, numsL_of ?_⟩
        · show _ = ndC _ (.slice _ ((List.range len).map fun i => (f i).1).length cap)
          rw [hll]
          rfl
        · refine tin_close (t := .mk x0 x1 x2 x3 x4 ((List.range len).map fun i => (f i).1)) (ao := some ⟨b, off, none⟩) (cap := cap) (by show ((List.range len).map fun i => (f i).1).length ≤ cap; rw [hll]; exact hl) hm (.inr ⟨b, off, rfl, cell_lt (hf 0 (by omega)).1.1, trivial, fun i x hix => ?_⟩)
          obtain ⟨hi, rfl⟩ := hat i x hix
          exact ⟨(f i).2, (hf i hi).1, (hf i hi).2.1⟩
        · intro x hx
          obtain ⟨i, hi⟩ := List.getElem?_of_mem hx
          obtain ⟨hi2, rfl⟩ := hat i x hi
          exact (hf i hi2).2.2
theorem open_tree {r : Reach} {b0 : Nat} {v : Value} {d : DataW H} {p : List MemPlace} (hv : Value.okWide Tryd.prog W r b0 24 v) (h : DataW.Trod enc Tryd.prog W base spare held 24 v d p) :
    ∃ (t : Tr) (ao : Option Addr) (cap : Nat), v = ndV t (.slice ao t.ks.length cap) ∧ TIn W All t (.slice ao t.ks.length cap) ∧ t.nums := by
  obtain ⟨cs, rfl, hsz⟩ := okWide_struct Tryd.underlying24 hv
  obtain ⟨l⟩ := cs
  obtain ⟨fuel, hf⟩ := h
  obtain ⟨t, ao, cap, e, ht, hn⟩ := open_node (SizeOf.sizeOf d) d fuel _ p (Nat.le_refl _) hf
  refine ⟨t, ao, cap, ?_, ht, hn⟩
  have e2 : l = ndC t (.slice ao t.ks.length cap) := by simpa [Value.cells] using e
  rw [e2]
  rfl
end
end Go.Proofs.YtppliplalfpmaaaDoor
