/-
  made of package cover at this translation.
-/
import Derived.Test.YtjnlifghobgkcaaC5
import Derived.Deep.AppendLies
import Derived.Deep.Cut
namespace Go.Proofs.Ytjnlifghobgkcaa
open Go.RowKit

def joinM (A : List Tr) : Except Int (List Tr) → Except Int (List Tr)
  | .error e => .error e
  | .ok l => .ok (A ++ l)
theorem madeL_cons (P : Part) (d : Nat) (t : Tr) (r : List Tr) : madeL P d (t :: r) = match P t d r.isEmpty with
    | .error e => .error e
    | .ok x => joinM [x] (madeL P d r) := by
  rw [madeL]
  cases P t d r.isEmpty with
  | error e => rfl
  | ok x => cases madeL P d r <;> rfl
theorem joinM_join (A B : List Tr) (m : Except Int (List Tr)) : joinM A (joinM B m) = joinM (A ++ B) m := by cases m <;> simp [joinM]
/-- the loop of made, behind k children -/
structure RelMade (w : World) (op a m : Int) (G : Part) (D : Nat) (ks : List Tr) (i : Value) (wr : World) : Prop where
  ex : ∃ (k : Nat) (L : List TV) (v : Value), i = .int .i64 k ∧ k ≤ ks.length ∧ L.length ≤ k ∧ PRow wr (w.heap.size + 2) 27 v L ∧ (∀ x ∈ L, TIn wr (fun b => w.heap.size + 2 ≤ b ∧ some b ≠ v.ownBlock) x.1 x.2) ∧ madeL G D ks = joinM (L.map (·.1)) (madeL G D (ks.drop k)) ∧ wr.heap[w.heap.size]? = some (.cells #[.int .i64 op, .int .i64 a, .int .i64 0, .int .i64 m, .string ⟨#[]⟩, v] 27 (0, 0))
  res : wr.heap[w.heap.size + 1]? = some (.cells #[.int .i64 0, .int .i64 0, .int .i64 0, .int .i64 0, .string ⟨#[]⟩, .slice none 0 0] 27 (0, 0))
  bel : Below w.heap.size w wr
  big : w.heap.size + 2 ≤ wr.heap.size
theorem made_ok {op a m : Int} {ks : List Tr} {d : Nat} {G : Part} {A : List Tr} (h : madeL G (d + 1) ks = .ok A) : madeV op a m ks d G = .ok (.mk op a 0 m noS A) := by unfold madeV; rw [h]
theorem made_er {op a m : Int} {ks : List Tr} {d : Nat} {G : Part} {x : Int} (h : madeL G (d + 1) ks = .error x) : madeV op a m ks d G = .error x := by unfold madeV; rw [h]
theorem drop_cons {α : Type} {l : List α} {k : Nat} {x : α} (h : l[k]? = some x) : l.drop k = x :: l.drop (k + 1) := by
  obtain ⟨hk, rfl⟩ := List.getElem?_eq_some_iff.1 h
  exact List.drop_eq_getElem_cons hk
theorem drop_empty {α : Type} {l : List α} {k : Nat} : (l.drop (k + 1)).isEmpty = decide (l.length ≤ k + 1) := by
  rw [Bool.eq_iff_iff]
  simp
theorem made_step {w wr W2 w1 W3 w4 : World} {o : Obj} {op a m : Int} {G : Part} {D : Nat} {ks : List Tr} {k : Nat} {L : List TV} {ro : Option Addr} {rc g gc : Nat} {y r : Tr} {kr : Value} {lb : Bool}
    (hL : ∀ x ∈ L, TIn wr (fun b => w.heap.size + 2 ≤ b ∧ some b ≠ (Value.slice ro L.length rc).ownBlock) x.1 x.2) (hLk : L.length ≤ k) (heq : madeL G D ks = joinM (L.map (·.1)) (madeL G D (ks.drop k))) (hyks : ks[k]? = some y) (hG : Except.ok r = G y D lb) (hlb : lb = decide (ks.length ≤ k + 1))
    (hvo : ∀ g, (Value.slice ro L.length rc).ownBlock = some g → w.heap.size + 2 ≤ g ∧ g < wr.heap.size) (hbig : w.heap.size + 2 ≤ wr.heap.size) (hB : Below w.heap.size w wr)
    (hWR : Below wr.heap.size wr W2) (hzW : W2.heap.size = wr.heap.size + 1) (hres2 : W2.heap[w.heap.size + 1]? = some (.cells #[.int .i64 0, .int .i64 0, .int .i64 0, .int .i64 0, .string ⟨#[]⟩, .slice none 0 0] 27 (0, 0)))
    (htin : TIn w1 (Fresh W2) r kr) (hB1 : Below W2.heap.size W2 w1) (hB4 : Below w1.heap.size w1 W3) (hz4 : W3.heap.size = w1.heap.size + 1) (hbox4 : W3.heap[w.heap.size]? = some (.cells #[.int .i64 op, .int .i64 a, .int .i64 0, .int .i64 m, .string ⟨#[]⟩, .slice ro L.length rc] 27 (0, 0)))
    (hgrow : (W3.alloc o).grownBy w4 (Value.slice ro L.length rc).ownBlock) (hat : (Value.slice ro L.length rc).ownBlock = some g ∨ g = (W3.alloc o).heap.size) (hown : w4.ownsRow (w.heap.size + 2) 27 6 (.slice (some ⟨g, 0, none⟩) (L.length + 1) gc) (L.length + 1) (L.flatMap pC ++ ndC r kr)) :
    (w4.heap[w.heap.size]? = some (.cells #[.int .i64 op, .int .i64 a, .int .i64 0, .int .i64 m, .string ⟨#[]⟩, .slice ro L.length rc] 27 (0, 0))) ∧
    RelMade w op a m G D ks (.int .i64 ((k : Int) + 1)) (w4.setCell ⟨w.heap.size, 5, none⟩ (.slice (some ⟨g, 0, none⟩) (L.length + 1) gc)) := by
  have hg2 : w.heap.size + 2 ≤ g := (World.ownsRow.lt hown g rfl).1
  have hz5 : (W3.alloc o).heap.size = w1.heap.size + 2 := by simp; omega
  have hz1 := hB1.size
  have h5 : ∀ b, b < w1.heap.size → (W3.alloc o).heap[b]? = w1.heap[b]? := fun b hb => (Below.heap_alloc W3 o b (by omega)).trans (hB4.block b hb)
  have h5r : ∀ b, b < wr.heap.size → (W3.alloc o).heap[b]? = wr.heap[b]? := fun b hb => (h5 b (by omega)).trans ((hB1.block b (by omega)).trans (hWR.block b hb))
  have hz4' := hgrow.size
  have hne : ∀ b, (b < w.heap.size + 2 ∨ wr.heap.size ≤ b) → some b ≠ (Value.slice ro L.length rc).ownBlock := fun b hb e => by have := hvo b e.symm; omega
  have h4 : ∀ b, b < w1.heap.size → some b ≠ (Value.slice ro L.length rc).ownBlock → w4.heap[b]? = w1.heap[b]? := fun b hb he => (hgrow.block b (by omega) he).trans (h5 b hb)
  have h4r : ∀ b, b < wr.heap.size → some b ≠ (Value.slice ro L.length rc).ownBlock → w4.heap[b]? = wr.heap[b]? := fun b hb he => (hgrow.block b (by omega) he).trans (h5r b hb)
  have hbox : w4.heap[w.heap.size]? = some (.cells #[.int .i64 op, .int .i64 a, .int .i64 0, .int .i64 m, .string ⟨#[]⟩, .slice ro L.length rc] 27 (0, 0)) := by
    rw [hgrow.block w.heap.size (by omega) (hne _ (by omega)), Below.heap_alloc W3 o _ (by omega)]
    exact hbox4
  have hs : ∀ b, b ≠ w.heap.size → (w4.setCell ⟨w.heap.size, 5, none⟩ (.slice (some ⟨g, 0, none⟩) (L.length + 1) gc)).heap[b]? = w4.heap[b]? := fun b hb => Below.heap_setCell _ _ _ _ hb
  have hss : (w4.setCell ⟨w.heap.size, 5, none⟩ (.slice (some ⟨g, 0, none⟩) (L.length + 1) gc)).heap.size = w4.heap.size := by simp [World.setCell]
  have hgne : ∀ b, b < w1.heap.size → some b ≠ (Value.slice ro L.length rc).ownBlock → some b ≠ (Value.slice (some ⟨g, 0, none⟩) (L.length + 1) gc).ownBlock := by
    intro b hb he e
    have e2 : b = g := by simpa [Value.ownBlock] using e
    subst e2
    rcases hat with h | h
    · exact he h.symm
    · omega
  have hBw : Below w.heap.size w w4 := ⟨hgrow.os.trans (hB4.os.trans (hB1.os.trans (hWR.os.trans hB.os))), hgrow.tape.trans (hB4.tape.trans (hB1.tape.trans (hWR.tape.trans hB.tape))), hgrow.output.trans (hB4.output.trans (hB1.output.trans (hWR.output.trans hB.output))), by omega, fun b hb => (h4r b (by omega) (hne b (by omega))).trans (hB.block b hb)⟩
  refine ⟨hbox, ⟨⟨k + 1, L ++ [(r, kr)], _, by simp, (List.getElem?_eq_some_iff.1 hyks).1, by simp; omega, ?_, ?_, ?_, c_one 5 _ hbox⟩, ?_, c_set _ _ hBw (Nat.le_refl _), by omega⟩⟩
  · have h6 : PRow w4 (w.heap.size + 2) 27 (.slice (some ⟨g, 0, none⟩) (L.length + 1) gc) (L ++ [(r, kr)]) := prow_snoc hown
    exact World.ownsRow.kept h6 (c_gset ⟨rfl, rfl, rfl, Nat.le_refl _, fun _ _ _ => rfl⟩ rfl _) (.inr (fun e => by simp [Value.ownBlock] at e; omega))
  · intro x hx
    rcases List.mem_append.1 hx with hx | hx
    · exact tin_imp (fun b hb hS => ⟨⟨hS.1, hgne b (by omega) hS.2⟩, (hs b (by omega)).trans (h4r b hb hS.2)⟩) (by omega) _ _ (hL x hx)
    · obtain rfl : x = (r, kr) := by simpa using hx
      exact tin_imp (fun b hb hS => by unfold Fresh at hS; exact ⟨⟨by omega, hgne b hb (hne b (by omega))⟩, (hs b (by omega)).trans (h4 b hb (hne b (by omega)))⟩) (by omega) _ _ htin
  · rw [heq, drop_cons hyks, madeL_cons, drop_empty, ← hlb, ← hG]
    simp only
    rw [joinM_join]
    simp
  · rw [hs _ (by omega), h4 _ (by omega) (hne _ (by omega)), hB1.block _ (by omega)]
    exact hres2
set_option linter.unusedVariables false in
set_option maxRecDepth 100000 in
set_option maxHeartbeats 1000000 in
theorem made_any (id : Nat) (caps : Array Value) (N : Nat) (G : Part) (op a m : Int) (tl : Tr) (lo : Option Addr) (lc : Nat) (d D : Nat) (w : World) (hD : D ≤ 100000) (hG : PartAt id caps w N D G) (hN : N ≤ 100000) (hk : ∀ x ∈ tl.ks, x.cnt ≤ N) (hlen : tl.ks.length ≤ 100000) (hd : d + 1 ≤ D) (ht : TIn w All tl (.slice lo tl.ks.length lc)) :
    Calls Try.prog 26 #[.agg #[.int .i64 op, .int .i64 a, .int .i64 0, .int .i64 m, .string ⟨#[]⟩, .slice none 0 0], .slice lo tl.ks.length lc, .int .i64 d, .func (.func id) #[] caps] w (RPost w (Fresh w) (madeV op a m tl.ks d G)) := by
  obtain ⟨i0, hi, hz0, hz1, hz2⟩ := info_parts node_info
  have hT : Try.prog.underlying 25 = some (.slice 27) := Try.underlying25
  have hent := hG.ent
  unfold EntersF at hent
  obtain ⟨ao, cap, L0, e0, hL1, hL2, hmap, hin, hcell⟩ := kids_pairs ht
  obtain ⟨rfl, -, rfl⟩ : lo = ao ∧ tl.ks.length = L0.length ∧ lc = cap := by simpa using e0
  have hll : tl.ks.length = L0.length := by rw [← hmap]; simp
  have HG := Lib.hid hG
  have HS := Lib.hid (And.intro hmap (And.intro hin (And.intro hcell (And.intro hk hll))))
  obtain ⟨ks, hks⟩ : ∃ ks, ks = tl.ks := ⟨_, rfl⟩
  obtain ⟨R, hR⟩ : ∃ R, R = madeV op a m ks d G := ⟨_, rfl⟩
  rw [← hks, ← hR]
  rw [← hks] at hlen
  obtain ⟨len, hle⟩ : ∃ len, len = ks.length := ⟨_, rfl⟩
  rw [← hle] at hlen ⊢
  have HE := Lib.hid (And.intro hks (And.intro hR hle))
  have HV : Hid (RelMade w op a m G (d + 1) ks (.int .i64 0) ((w.alloc (.cells #[.int .i64 op, .int .i64 a, .int .i64 0, .int .i64 m, .string ⟨#[]⟩, .slice none 0 0] 27)).alloc (.cells #[.int .i64 0, .int .i64 0, .int .i64 0, .int .i64 0, .string ⟨#[]⟩, .slice none 0 0] 27))) := Lib.hid
    ⟨⟨0, [], .slice none 0 0, rfl, Nat.zero_le _, Nat.le_refl _, World.ownsRow_nil _ _ _ _, (fun x hx => by cases hx), (by rw [List.drop_zero]; cases madeL G (d + 1) ks <;> rfl), c_new1 w _ _⟩, c_new2 w _ _, c_box2 w _ _, by simp⟩
  clear hG hk ht hmap hin hcell hks hR hle hL1 hL2 hll e0
  go_enter Try.func26, Try.ntmps26
  go_wp2
  go_loopw [16] (fun i wr => RelMade w op a m G (d + 1) ks i wr) (fun i _ => len - (intOf i).toNat)
  case atStart => exact HV.out
  case round =>
    clear HV
    obtain ⟨⟨k, L, v, rfl, hk, hLk, hrow, hL, heq, hbox⟩, hres, hB, hbig⟩ := hrel
    rw [← HE.out.2.2] at hk
    by_cases hkl : k < len
    · have g1 : decide ((k : Int) < (len : Int)) = true := decide_eq_true (by omega)
      obtain ⟨lb, hlb⟩ : ∃ lb, lb = decide (len ≤ k + 1) := ⟨_, rfl⟩
      have g2 : ((k : Int) == (len : Int) - 1) = lb := by
        rw [hlb, Bool.eq_iff_iff]
        simp
        omega
      obtain ⟨⟨y, ky⟩, hy⟩ : ∃ y, L0[k]? = some y := ⟨_, List.getElem?_eq_getElem (by have := HS.out.2.2.2.2; rw [← HE.out.1, ← HE.out.2.2] at this; omega)⟩
      have hyt := HS.out.2.1 _ (List.mem_of_getElem? hy)
      obtain ⟨xo, xl, xc, hky⟩ := tin_slice hyt
      simp only at hky
      subst hky
      have hyks : ks[k]? = some y := by rw [HE.out.1, ← HS.out.1, List.getElem?_map, hy]; rfl
      have hyc : y.cnt ≤ N := HS.out.2.2.2.1 y (by rw [← HE.out.1]; exact List.mem_of_getElem? hyks)
      obtain ⟨bb, oo, hlo, hbb, hcc⟩ : ∃ b o, lo = some ⟨b, o, none⟩ ∧ b < w.heap.size ∧ NCells w b (o + k * 6) y (.slice xo xl xc) := by
        rcases HS.out.2.2.1 with h | ⟨b, o, ea, hb, _, hc⟩
        · rw [h] at hy; simp at hy
        · exact ⟨b, o, ea, hb, hc _ _ hy⟩
      subst hlo
      obtain ⟨c0, c1, c2, c3, c4, c5⟩ := ncells_kept (hB.block bb hbb) hcc
      have hbr : bb < wr.heap.size := by omega
      have hbig' : w.heap.size ≤ wr.heap.size := by omega
      obtain ⟨ro, rc, hv, -, -, hvo⟩ : ∃ ro rc, v = .slice ro L.length rc ∧ True ∧ True ∧ (∀ g, v.ownBlock = some g → w.heap.size + 2 ≤ g ∧ g < wr.heap.size) := by
        obtain ⟨ro, rc, e, _, _, _⟩ := prow_slice hrow
        exact ⟨ro, rc, e, trivial, trivial, fun g hg => World.ownsRow.lt hrow g hg⟩
      have ed : (((d + 1 : Nat) : Int)) = (d : Int) + 1 := by omega
      obtain ⟨W2, hW2⟩ : ∃ W2, W2 = wr.alloc (.cells #[.int .i64 y.op, .int .i64 y.a, .int .i64 y.n, .int .i64 y.m, .string y.s, .slice xo xl xc] 27) := ⟨_, rfl⟩
      have hWB : Below w.heap.size w W2 := by rw [hW2]; exact c_thr hB (c_box wr _) hbig'
      have hWR : Below wr.heap.size wr W2 := by rw [hW2]; exact c_box wr _
      have hzW : W2.heap.size = wr.heap.size + 1 := by rw [hW2]; simp
      have hrow2 : PRow W2 (w.heap.size + 2) 27 v L := by rw [hW2]; exact prow_kept hrow (c_box wr _)
      have hbox2 := c_kept (c_box wr (.cells #[.int .i64 y.op, .int .i64 y.a, .int .i64 y.n, .int .i64 y.m, .string y.s, .slice xo xl xc] 27)) (by omega) hbox
      have hres2 := c_kept (c_box wr (.cells #[.int .i64 y.op, .int .i64 y.a, .int .i64 y.n, .int .i64 y.m, .string y.s, .slice xo xl xc] 27)) (by omega) hres
      rw [← hW2] at hbox2 hres2
      have HX := HG.out.run W2 hWB y xo xl xc (d + 1) lb hyc (by omega) (tin_kept hyt hWB)
      rw [ed] at HX
      have HXX := Lib.hid HX
      have HH := Lib.hid (And.intro hrow2 (And.intro hL (And.intro heq (And.intro hbox2 (And.intro hres2 (And.intro hWB (And.intro hB (And.intro hyks (And.intro hlb hWR)))))))))
      clear hcc HX hrow2 hL heq hbox2 hres2 hWB hB hyks hlb hrow hWR hbox hres hyt hy
      obtain ⟨RY, hRY⟩ : ∃ RY, RY = G y (d + 1) lb := ⟨_, rfl⟩
      rw [← hRY] at HXX
      have HRY := Lib.hid hRY
      clear hRY
      cases RY with
      | error x =>
        go_wp2_with fail
        rw [← hW2]
        refine HXX.out.mono ?_
        rintro e w1 ⟨hx, rfl, hB⟩
        have hne : (x != 0) = true := by simp [bne, hx]
        have hres3 := c_kept hB (by rw [hzW]; omega) HH.out.2.2.2.2.1
        obtain ⟨⟨r0, r1, r2, r3, r4, r5⟩, ⟨q0, q1, q2, q3, q4, q5⟩, hr⟩ := c_six hres3
        have HF := Lib.hid (And.intro hx (And.intro (c_thr HH.out.2.2.2.2.2.1 hB (by rw [hzW]; omega)) hres3))
        clear hx hB hres3 c0 c1 c2 c3 c4 c5 r0 r1 r2 r3 r4 r5 q0 q1 q2 q3 q4 q5
        go_upto_region 6 with fail
        obtain ⟨W3, hW3⟩ : ∃ W3, W3 = w1.alloc (.cells #[.int .i64 0, .int .i64 0, .int .i64 0, .int .i64 0, .string ⟨#[]⟩, .slice none 0 0] 27) := ⟨_, rfl⟩
        rw [← hW3]
        have hres4 : W3.heap[w.heap.size + 1]? = some (.cells #[.int .i64 0, .int .i64 0, .int .i64 0, .int .i64 0, .string ⟨#[]⟩, .slice none 0 0] 27 (0, 0)) := by rw [hW3]; exact c_kept (c_box w1 _) (c_lt HF.out.2.2) HF.out.2.2
        have hB3 : Below w.heap.size w W3 := by rw [hW3]; exact c_thr HF.out.2.1 (c_box w1 _) HF.out.2.1.size
        obtain ⟨⟨r0, r1, r2, r3, r4, r5⟩, ⟨q0, q1, q2, q3, q4, q5⟩, hr⟩ := c_six hres4
        have HB3 := Lib.hid hB3
        clear hW3 hres4 hB3
        go_wp2
        refine bodyPost_ret (v := .tuple #[.agg #[.int .i64 0, .int .i64 0, .int .i64 0, .int .i64 0, .string ⟨#[]⟩, .slice none 0 0], .int .i64 x]) (by simp [results, Try.results26, go_sem, r0, r1, r2, r3, r4, r5]) rfl ?_
        have hRx : R = .error x := by
          rw [HE.out.2.1]
          refine made_er ?_
          rw [HH.out.2.2.1, drop_cons HH.out.2.2.2.2.2.2.2.1, madeL_cons, drop_empty, ← HE.out.2.2, ← HH.out.2.2.2.2.2.2.2.2.1, ← HRY.out]
          rfl
        rw [hRx]
        exact ⟨HF.out.1, rfl, c_st6 HB3.out (by omega)⟩
      | ok r =>
        go_wp2_with fail
        rw [← hW2]
        refine HXX.out.mono ?_
        rintro e w1 ⟨yo, yl, yc, rfl, htin, hB⟩
        have hbox3 := c_kept hB (by rw [hzW]; omega) HH.out.2.2.2.1
        subst hv
        obtain ⟨⟨b0, b1, b2, b3, b4, b5⟩, ⟨-, -, -, -, -, f5⟩, hbl⟩ := c_six hbox3
        have hrow3 : PRow w1 (w.heap.size + 2) 27 (.slice ro L.length rc) L := prow_kept HH.out.1 hB
        have hz3 := hB.size
        rw [hzW] at hz3
        have HF := Lib.hid (And.intro htin (And.intro hB (And.intro hbox3 hrow3)))
        clear htin hB hbox3 hrow3 c0 c1 c2 c3 c4 c5
        go_upto_region 7 with fail
        obtain ⟨W3, hW3⟩ : ∃ W3, W3 = w1.alloc (.cells #[.int .i64 r.op, .int .i64 r.a, .int .i64 r.n, .int .i64 r.m, .string r.s, .slice yo yl yc] 27) := ⟨_, rfl⟩
        rw [← hW3]
        have hn3 : W3.heap[w1.heap.size]? = some (.cells #[.int .i64 r.op, .int .i64 r.a, .int .i64 r.n, .int .i64 r.m, .string r.s, .slice yo yl yc] 27 (0, 0)) := by rw [hW3]; exact heap_alloc_new w1 _
        have hz4 : W3.heap.size = w1.heap.size + 1 := by rw [hW3]; simp
        have hbox4 := c_kept (c_box w1 (.cells #[.int .i64 r.op, .int .i64 r.a, .int .i64 r.n, .int .i64 r.m, .string r.s, .slice yo yl yc] 27)) (c_lt HF.out.2.2.1) HF.out.2.2.1
        have hrow4 : (w1.alloc (.cells #[.int .i64 r.op, .int .i64 r.a, .int .i64 r.n, .int .i64 r.m, .string r.s, .slice yo yl yc] 27)).ownsRow (w.heap.size + 2) 27 6 (.slice ro L.length rc) L.length (L.flatMap pC) := prow_kept HF.out.2.2.2 (c_box w1 (.cells #[.int .i64 r.op, .int .i64 r.a, .int .i64 r.n, .int .i64 r.m, .string r.s, .slice yo yl yc] 27))
        have hB4 := c_box w1 (.cells #[.int .i64 r.op, .int .i64 r.a, .int .i64 r.n, .int .i64 r.m, .string r.s, .slice yo yl yc] 27)
        rw [← hW3] at hbox4 hrow4 hB4
        clear b0 b1 b2 b3 b4 b5 f5 hbl
        obtain ⟨⟨b0, b1, b2, b3, b4, b5⟩, ⟨-, -, -, -, -, f5⟩, hbl⟩ := c_six hbox4
        obtain ⟨⟨n0, n1, n2, n3, n4, n5⟩, -, hnl⟩ := c_six hn3
        have HR4 := Lib.hid (And.intro hrow4 (And.intro hbox4 (And.intro hB4 hz4)))
        clear hW3 hn3 hbox4 hrow4 hB4 hz4
        go_wp2_with (at_builtin; refine wpList_append_lies _ rfl _ _ 25 rfl (w.heap.size + 2) 27 i0 (.agg #[.int .i64 0, .int .i64 0, .int .i64 0, .int .i64 0, .string ⟨#[]⟩, .slice none 0 0]) 6 72 hT hi hz0 hz1 hz2 rfl (by decide) (.slice ro L.length rc) _ _ rfl (HR4.out.1.alloc _) ⟨W3.heap.size, 0, none⟩ 1 1 (ndC r (.slice yo yl yc)) rfl rfl ?_ ?_ (by omega) ?_ ?_ ?_ _ rfl ?_; exact World.news_of_block (cs := #[.int .i64 r.op, .int .i64 r.a, .int .i64 r.n, .int .i64 r.m, .string r.s, .slice yo yl yc]) (t := 27) (fr := (0, 0)) (heap_alloc_new W3 _); exact pC_one (r, .slice yo yl yc) ⟨_, _, _, rfl⟩; (unfold maxLen; omega); omega; (simp; omega); intro g gc w4 hown' hgrow hat hglt; obtain ⟨hbox5, hst⟩ := made_step HH.out.2.1 hLk HH.out.2.2.1 HH.out.2.2.2.2.2.2.2.1 HRY.out (by rw [← HE.out.2.2]; exact HH.out.2.2.2.2.2.2.2.2.1) hvo hbig HH.out.2.2.2.2.2.2.1 HH.out.2.2.2.2.2.2.2.2.2 hzW HH.out.2.2.2.2.1 HF.out.1 HF.out.2.1 HR4.out.2.2.1 HR4.out.2.2.2 HR4.out.2.1 hgrow hat hown'; obtain ⟨⟨p0, p1, p2, p3, p4, p5⟩, ⟨-, -, -, -, -, g5⟩, hpl⟩ := c_six hbox5; have HST := Lib.hid hst; clear hown' hgrow hat hglt hbox5 hst b0 b1 b2 b3 b4 b5 f5 n0 n1 n2 n3 n4 n5)
        go_roundw
        case rel => exact HST.out
        case measure => simp [intOf]; omega
    · have g1 : decide ((k : Int) < (len : Int)) = false := decide_eq_false (by omega)
      have hkl2 : k = len := by omega
      obtain ⟨ro, rc, hv, hvo⟩ : ∃ ro rc, v = .slice ro L.length rc ∧ (∀ g, v.ownBlock = some g → w.heap.size + 2 ≤ g) := by
        obtain ⟨ro, rc, e, _, _, _⟩ := prow_slice hrow
        exact ⟨ro, rc, e, fun g hg => (World.ownsRow.lt hrow g hg).1⟩
      subst hv
      obtain ⟨⟨b0, b1, b2, b3, b4, b5⟩, -, hbl⟩ := c_six hbox
      obtain ⟨⟨r0, r1, r2, r3, r4, r5⟩, ⟨q0, q1, q2, q3, q4, q5⟩, hr⟩ := c_six hres
      have HH := Lib.hid (And.intro hrow (And.intro hL (And.intro heq hB)))
      clear hrow hL heq hB hbox hres
      go_wp2
      refine bodyPost_ret (v := .tuple #[.agg #[.int .i64 op, .int .i64 a, .int .i64 0, .int .i64 m, .string ⟨#[]⟩, .slice ro L.length rc], .int .i64 0]) (by simp [results, Try.results26, go_sem, r0, r1, r2, r3, r4, r5]) rfl ?_
      obtain ⟨hrow, hL, heq, hB⟩ := HH.out
      have hRx : R = .ok (.mk op a 0 m noS (L.map (·.1))) := by
        rw [HE.out.2.1]
        refine made_ok ?_
        rw [heq, List.drop_eq_nil_of_le (by rw [← HE.out.2.2]; omega)]
        simp [madeL, joinM]
      rw [hRx]
      have htr : TIn wr (fun b => w.heap.size + 2 ≤ b) (.mk op a 0 m noS (L.map (·.1))) (.slice ro L.length rc) := tin_row hrow (fun g hg => hvo g hg) (fun y hy => tin_mono (hL y hy) (fun b _ hs => hs.1)) rfl
      exact ⟨ro, L.length, rc, rfl, tin_mono (tin_grown htr (st6_grown wr (w.heap.size + 1) 0 _ _ _ _ _ _) (fun b _ hs e => by simp at e; omega)) (fun b _ hs => by show w.heap.size ≤ b; omega), c_st6 hB (by omega)⟩
end Go.Proofs.Ytjnlifghobgkcaa
