/-
  A token, and a slice of tokens, as they come in, with the reach of their texts; and what came in reads as before where nothing that was there has turned.
-/
import Derived.Test.YthkjdllpgcocpaaGreatDoorWLaw
import Derived.ProofKit
import Derived.OpenShut
import Derived.ShutString
import Derived.Carry
import Derived.Deep.Slices
import Derived.Deep.Fields
import Derived.ChangeSame
import Derived.SizedLaws
namespace Go.Proofs.YthkjdllpgcocpaaGreatDoor
open Go.ChangeShapes Go.WideShapes Go.ChangeAt Go.RowKit Go.Deep

theorem num_of {n : Int} {a tw : Int} {k : Int} {s : ByteArray} {l o : Bool} (h : (Lit.int .i64 n).wf = true) : numN ⟨k, a, tw, n, s, l, o, 0, 0⟩ := by
  have h' : -9223372036854775808 ≤ n ∧ n ≤ 9223372036854775807 := by simpa [Lit.wf, IntKind.min, IntKind.max, IntKind.signed, IntKind.bits] using h
  exact h'
theorem size_of {s : ByteArray} (h : s.data.toList.length ≤ reachBytes) : s.size ≤ 140737488355328 := by
  have h1 : s.data.toList.length = s.size := by rw [Array.length_toList]; rfl
  have h2 := reachBytes_lt
  omega
theorem all_weight {H : Type} {P : Program} {e : TypeId} {d : DataW H} {n : Nat} : ∀ {l : List (DataW H)}, d ∈ l → n ∈ d.weights P e → n ∈ DataW.weightsAll P e l
  | [], h, _ => by cases h
  | x :: r, h, hn => by
    unfold DataW.weightsAll
    rcases List.mem_cons.1 h with rfl | h
    · exact List.mem_append_left _ hn
    · exact List.mem_append_right _ (all_weight h hn)
theorem tok_weight {H : Type} {y0 y1 y2 y3 y4 y5 y6 : DataW H} {bs : List UInt8} (h : y4 = .lit (.string bs)) : bs.length ∈ (DataW.agg [y0, y1, y2, y3, y4, y5, y6]).weights Tryz.prog 23 := by
  unfold DataW.weights
  rw [Tryz.underlying23]
  exact DataW.weights_mem_each (j := 4) (t := 9) rfl rfl _ (by rw [h]; unfold DataW.weights; exact List.mem_singleton.2 rfl)
theorem laidOut : laidOutB Tryz.prog = true := by kernel_rfl
section
variable {H : Type} {enc : TypeId × Value → H}
theorem trodAll_kept {P : Program} (hl : laidOutB P = true) {W W' : World} (hb : Below W.heap.size W W') : ∀ (ts : List TypeId) (vs : List Value) (ds : List (DataW H)) (ps : List MemPlace),
    (∀ t ∈ ts, P.readableRec t = true ∧ t < P.types.size) → DataW.TrodAll enc P W 0 (fun _ => true) true ts vs ds ps → (∀ x ∈ ps, x.block < W.heap.size) →
    DataW.TrodAll enc P W' 0 (fun b => decide (b < W.heap.size)) true ts vs ds ps := by
  intro ts
  induction ts with
  | nil =>
    intro vs ds ps _ h _
    obtain ⟨rfl, rfl, rfl⟩ := trodAll_nil h
    exact trodAll_mk0
  | cons t ts ih =>
    intro vs ds ps hr h hlt
    obtain ⟨v, vs', d, ds', p, q, rfl, rfl, rfl, h1, h2⟩ := trodAll_cons h
    have hq := ih vs' ds' q (fun t ht => hr t (List.mem_cons_of_mem _ ht)) h2 (fun x hx => hlt x (List.mem_append_right _ hx))
    exact trodAll_cons_mk (Below.trod hl (hr t (List.mem_cons_self ..)).1 (hr t (List.mem_cons_self ..)).2 h1 hb (fun x hx => hlt x (List.mem_append_left _ hx))) hq
variable {W : World} {base : Nat} {spare : Nat → Bool} {held : Bool}
set_option linter.all false in
set_option maxRecDepth 100000 in
theorem open_tok {r : Reach} {b0 : Nat} {v : Value} {d : DataW H} {p : List MemPlace} (hv : Value.okWide Tryz.prog W r b0 23 v) (h : DataW.Trod enc Tryz.prog W base spare held 23 v d p) (hw : ∀ n ∈ d.weights Tryz.prog 23, n ≤ reachBytes) :
    ∃ t : NT, v = .agg (tkC t).toArray ∧ numN t ∧ t.s.size ≤ 140737488355328 := by
  obtain ⟨cs, rfl, hsz⟩ := okWide_struct Tryz.underlying23 hv
  have h7 : Tryz.prog.cellsOf 23 = 7 := by kernel_rfl
  have h3 : Tryz.prog.cellsOf 3 = 1 := by kernel_rfl
  have h9 : Tryz.prog.cellsOf 9 = 1 := by kernel_rfl
  have h4 : Tryz.prog.cellsOf 4 = 1 := by kernel_rfl
  obtain ⟨l⟩ := cs
  obtain ⟨fuel, hf⟩ := h
  obtain ⟨xs, n, _, hx, _, hlen, hg⟩ := DataW.trod_struct Tryz.underlying23 hf
  match l, hsz.trans h7, xs, hlen with
  | [c0, c1, c2, c3, c4, c5, c6], _, [y0, y1, y2, y3, y4, y5, y6], _ =>
    have g0 : DataW.trod enc Tryz.prog W base spare held n 3 (([c0, c1, c2, c3, c4, c5, c6].drop 0).take (Tryz.prog.cellsOf 3)) = some y0 := hg 0 _ rfl
    rw [h3] at g0
    have g1 : DataW.trod enc Tryz.prog W base spare held n 3 (([c0, c1, c2, c3, c4, c5, c6].drop 1).take (Tryz.prog.cellsOf 3)) = some y1 := hg 1 _ rfl
    rw [h3] at g1
    have g2 : DataW.trod enc Tryz.prog W base spare held n 3 (([c0, c1, c2, c3, c4, c5, c6].drop 2).take (Tryz.prog.cellsOf 3)) = some y2 := hg 2 _ rfl
    rw [h3] at g2
    have g3 : DataW.trod enc Tryz.prog W base spare held n 3 (([c0, c1, c2, c3, c4, c5, c6].drop 3).take (Tryz.prog.cellsOf 3)) = some y3 := hg 3 _ rfl
    rw [h3] at g3
    have g4 : DataW.trod enc Tryz.prog W base spare held n 9 (([c0, c1, c2, c3, c4, c5, c6].drop 4).take (Tryz.prog.cellsOf 9)) = some y4 := hg 4 _ rfl
    rw [h9] at g4
    have g5 : DataW.trod enc Tryz.prog W base spare held n 4 (([c0, c1, c2, c3, c4, c5, c6].drop 5).take (Tryz.prog.cellsOf 4)) = some y5 := hg 5 _ rfl
    rw [h4] at g5
    have g6 : DataW.trod enc Tryz.prog W base spare held n 4 (([c0, c1, c2, c3, c4, c5, c6].drop 6).take (Tryz.prog.cellsOf 4)) = some y6 := hg 6 _ rfl
    rw [h4] at g6
    obtain ⟨x0, e0, _, _⟩ := DataW.trod_int Tryz.underlying3 g0
    obtain ⟨x1, e1, _, _⟩ := DataW.trod_int Tryz.underlying3 g1
    obtain ⟨x2, e2, _, _⟩ := DataW.trod_int Tryz.underlying3 g2
    obtain ⟨x3, e3, _, w3⟩ := DataW.trod_int Tryz.underlying3 g3
    obtain ⟨x4, e4, d4, _⟩ := DataW.trod_string Tryz.underlying9 g4
    obtain ⟨x5, e5, _⟩ := DataW.trod_bool Tryz.underlying4 g5
    obtain ⟨x6, e6, _⟩ := DataW.trod_bool Tryz.underlying4 g6
    simp at e0 e1 e2 e3 e4 e5 e6
    have hd : d = .agg [y0.1, y1.1, y2.1, y3.1, y4.1, y5.1, y6.1] := by simpa using congrArg Prod.fst hx
    refine ⟨⟨x0, x1, x2, x3, x4, x5, x6, 0, 0⟩, ?_, num_of w3, size_of (hw _ (by rw [hd]; exact tok_weight (by rw [d4])))⟩
    rw [e0, e1, e2, e3, e4, e5, e6]
    rfl
theorem cell_lt {w : World} {b o : Nat} {v : Value} (h : w.cell? ⟨b, o, none⟩ = some v) : b < w.heap.size := by
  rcases Nat.lt_or_ge b w.heap.size with h' | h'
  · exact h'
  · simp [World.cell?, Array.getElem?_eq_none h'] at h
set_option linter.all false in
set_option maxRecDepth 100000 in
theorem open_toks {v : Value} {d : DataW H} {p : List MemPlace} {r : Reach} {b0 : Nat} (hv : Value.okWide Tryz.prog W r b0 24 v) (h : DataW.Trod enc Tryz.prog W base spare held 24 v d p) (hw : ∀ n ∈ d.weights Tryz.prog 24, n ≤ reachBytes) : ∃ l, TokIn W v l ∧ (∀ x ∈ l, numN x) ∧ (∀ x ∈ l, x.s.size ≤ 140737488355328) ∧ l.length ≤ 140737488355328 := by
  have h7 : Tryz.prog.cellsOf 23 = 7 := by kernel_rfl
  have h3 : Tryz.prog.cellsOf 3 = 1 := by kernel_rfl
  have h9 : Tryz.prog.cellsOf 9 = 1 := by kernel_rfl
  have h4 : Tryz.prog.cellsOf 4 = 1 := by kernel_rfl
  obtain ⟨a0, len0, cap0, rfl⟩ := okWide_slice Tryz.underlying24 hv
  obtain ⟨fuel, hf⟩ := h
  replace hf : DataW.trod enc Tryz.prog W base spare held fuel 24 [.slice a0 len0 cap0] = some (d, p) := by simpa [Value.cells] using hf
  rcases open_slice Tryz.underlying24 hf with ⟨hcs, _⟩ | ⟨a, len, cap, m, n, D, Pl, hcs, hb, hl, hm, hmm, hdd, hx⟩
  · cases hcs
    exact ⟨[], ⟨none, 0, rfl, Nat.le_refl _, by unfold maxLen; omega, by simp⟩, by simp, by simp, by simp⟩
  · cases hcs
    have hlm : len0 ≤ m := by rw [hmm]; split <;> omega
    by_cases hz : len0 = 0
    · subst hz
      exact ⟨[], ⟨some a, cap0, rfl, by simp, hm, by simp⟩, by simp, by simp, by simp⟩
    obtain ⟨b, off, spot⟩ := a
    have hspot : spot = none := by
      obtain ⟨cs', h1, _⟩ := hx 0 (by omega)
      rw [h7] at h1
      obtain ⟨_, hlen, hcell⟩ := World.cells?_some h1
      have := hcell 0 (by omega)
      rw [List.getElem?_eq_getElem (by omega)] at this
      simpa [Addr.add] using World.cell?_spot this
    subst hspot
    have hdv : d = .slice ((List.range len0).map D) ((List.range (m - len0)).map fun j => D (len0 + j)) := congrArg Prod.fst hdd
    have hwl : len0 ≤ 140737488355328 := by
      have h56 : Tryz.prog.bytesOf 23 = 56 := by kernel_rfl
      have h1 := hw ((((List.range len0).map D).length + ((List.range (m - len0)).map fun j => D (len0 + j)).length) * Tryz.prog.bytesOf 23) (by rw [hdv]; unfold DataW.weights; rw [Tryz.underlying24]; exact List.mem_cons_self ..)
      rw [h56] at h1
      have h2 := reachBytes_lt
      simp only [List.length_map, List.length_range] at h1
      omega
    have hwe : ∀ i, i < len0 → ∀ n ∈ (D i).weights Tryz.prog 23, n ≤ reachBytes := by
      intro i hi n hn
      refine hw n ?_
      rw [hdv]
      unfold DataW.weights
      rw [Tryz.underlying24]
      exact List.mem_cons_of_mem _ (List.mem_append_left _ (all_weight (List.mem_map.2 ⟨i, List.mem_range.2 hi, rfl⟩) hn))
    have each : ∀ i, i < len0 → ∃ t : NT, CellsT W b (off + i * 7) t ∧ numN t ∧ t.s.size ≤ 140737488355328 := by
      intro i hi
      obtain ⟨cs', h1, h2⟩ := hx i (by omega)
      rw [h7] at h1
      obtain ⟨_, hlen, hcell⟩ := World.cells?_some h1
      obtain ⟨xs, n', _, hxd, _, hxl, hg⟩ := DataW.trod_struct Tryz.underlying23 h2
      match cs', hlen, xs, hxl with
      | [c0, c1, c2, c3, c4, c5, c6], _, [y0, y1, y2, y3, y4, y5, y6], _ =>
        have g0 : DataW.trod enc Tryz.prog W base spare held n' 3 (([c0, c1, c2, c3, c4, c5, c6].drop 0).take (Tryz.prog.cellsOf 3)) = some y0 := hg 0 _ rfl
        rw [h3] at g0
        have g1 : DataW.trod enc Tryz.prog W base spare held n' 3 (([c0, c1, c2, c3, c4, c5, c6].drop 1).take (Tryz.prog.cellsOf 3)) = some y1 := hg 1 _ rfl
        rw [h3] at g1
        have g2 : DataW.trod enc Tryz.prog W base spare held n' 3 (([c0, c1, c2, c3, c4, c5, c6].drop 2).take (Tryz.prog.cellsOf 3)) = some y2 := hg 2 _ rfl
        rw [h3] at g2
        have g3 : DataW.trod enc Tryz.prog W base spare held n' 3 (([c0, c1, c2, c3, c4, c5, c6].drop 3).take (Tryz.prog.cellsOf 3)) = some y3 := hg 3 _ rfl
        rw [h3] at g3
        have g4 : DataW.trod enc Tryz.prog W base spare held n' 9 (([c0, c1, c2, c3, c4, c5, c6].drop 4).take (Tryz.prog.cellsOf 9)) = some y4 := hg 4 _ rfl
        rw [h9] at g4
        have g5 : DataW.trod enc Tryz.prog W base spare held n' 4 (([c0, c1, c2, c3, c4, c5, c6].drop 5).take (Tryz.prog.cellsOf 4)) = some y5 := hg 5 _ rfl
        rw [h4] at g5
        have g6 : DataW.trod enc Tryz.prog W base spare held n' 4 (([c0, c1, c2, c3, c4, c5, c6].drop 6).take (Tryz.prog.cellsOf 4)) = some y6 := hg 6 _ rfl
        rw [h4] at g6
        obtain ⟨x0, e0, _, _⟩ := DataW.trod_int Tryz.underlying3 g0
        obtain ⟨x1, e1, _, _⟩ := DataW.trod_int Tryz.underlying3 g1
        obtain ⟨x2, e2, _, _⟩ := DataW.trod_int Tryz.underlying3 g2
        obtain ⟨x3, e3, _, w3⟩ := DataW.trod_int Tryz.underlying3 g3
        obtain ⟨x4, e4, d4, _⟩ := DataW.trod_string Tryz.underlying9 g4
        obtain ⟨x5, e5, _⟩ := DataW.trod_bool Tryz.underlying4 g5
        obtain ⟨x6, e6, _⟩ := DataW.trod_bool Tryz.underlying4 g6
        simp at e0 e1 e2 e3 e4 e5 e6
        subst e0 e1 e2 e3 e4 e5 e6
        have hd : D i = .agg [y0.1, y1.1, y2.1, y3.1, y4.1, y5.1, y6.1] := by simpa using congrArg Prod.fst hxd
        have hsz : x4.size ≤ 140737488355328 := size_of (hwe i hi _ (by rw [hd]; exact tok_weight (by rw [d4])))
        have c0 := hcell 0 (by omega)
        have c1 := hcell 1 (by omega)
        have c2 := hcell 2 (by omega)
        have c3 := hcell 3 (by omega)
        have c4 := hcell 4 (by omega)
        have c5 := hcell 5 (by omega)
        have c6 := hcell 6 (by omega)
        simp only [List.getElem?_cons_zero, List.getElem?_cons_succ] at c0 c1 c2 c3 c4 c5 c6
        have key : ∀ k v, W.cell? (((⟨b, off, none⟩ : Addr).add (i * 7)).add k) = some v → W.cell? ⟨b, off + i * 7 + k, none⟩ = some v := by
          intro k v hk
          rw [add_add] at hk
          unfold Addr.add at hk
          split at hk
          · have : off + i * 7 + k = off := by omega
            rw [this]
            exact hk
          · rw [Nat.add_assoc]
            exact hk
        exact ⟨⟨x0, x1, x2, x3, x4, x5, x6, 0, 0⟩, ⟨key 0 _ c0, key 1 _ c1, key 2 _ c2, key 3 _ c3, key 4 _ c4, key 5 _ c5, key 6 _ c6⟩, num_of w3, hsz⟩
    have each2 : ∀ i, ∃ t : NT, i < len0 → CellsT W b (off + i * 7) t ∧ numN t ∧ t.s.size ≤ 140737488355328 := by
      intro i
      by_cases hi : i < len0
      · obtain ⟨t, ht⟩ := each i hi
        exact ⟨t, fun _ => ht⟩
      · exact ⟨⟨0, 0, 0, 0, ⟨#[]⟩, false, false, 0, 0⟩, fun h => absurd h hi⟩
    have hl2 : ((List.range len0).map fun i => Classical.choose (each2 i)).length = len0 := by simp
    have at_ : ∀ i t, ((List.range len0).map fun i => Classical.choose (each2 i))[i]? = some t → i < len0 ∧ CellsT W b (off + i * 7) t ∧ numN t ∧ t.s.size ≤ 140737488355328 := by
      intro i t hit
      have hi : i < len0 := by
        have := (List.getElem?_eq_some_iff.1 hit).1
        simpa using this
      have ht : t = Classical.choose (each2 i) := by
        rw [List.getElem?_map, List.getElem?_range hi] at hit
        exact (Option.some.inj hit).symm
      have hc := Classical.choose_spec (each2 i) hi
      rw [← ht] at hc
      exact ⟨hi, hc⟩
    refine ⟨(List.range len0).map fun i => Classical.choose (each2 i), ⟨some ⟨b, off, none⟩, cap0, by rw [hl2], by rw [hl2]; exact hl, hm, ?_⟩, ?_, ?_, ?_⟩
    · intro i t hit
      obtain ⟨_, hc, _⟩ := at_ i t hit
      exact ⟨b, off, rfl, cell_lt hc.1, hc⟩
    · intro x hx
      obtain ⟨i, hi⟩ := List.getElem?_of_mem hx
      exact (at_ i x hi).2.2.1
    · intro x hx
      obtain ⟨i, hi⟩ := List.getElem?_of_mem hx
      exact (at_ i x hi).2.2.2
    · rw [hl2]; exact hwl
end
end Go.Proofs.YthkjdllpgcocpaaGreatDoor
