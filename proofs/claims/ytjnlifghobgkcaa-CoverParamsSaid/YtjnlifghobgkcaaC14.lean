/-
  Names of package cover at this translation.
-/
import Derived.Test.YtjnlifghobgkcaaC13
import Derived.Lib.Builder
import Derived.Deep.AppendLies
namespace Go.Proofs.Ytjnlifghobgkcaa
open Go.RowKit

/-- the names that are targets -/
def namesG : Nat → Tr → List ByteArray
  | 0, _ => []
  | f + 1, t => (if t.op = 34 then [t.s] else []) ++ (tgtL t).flatMap (namesG f)
theorem cntL_app (a b : List Tr) : cntL (a ++ b) = cntL a + cntL b := by
  induction a with
  | nil => simp [cntL]
  | cons x r ih => simp only [List.cons_append, cntL, ih]; omega
theorem cntL_take (l : List Tr) (k : Nat) : cntL (l.take k) ≤ cntL l := by
  have := cntL_app (l.take k) (l.drop k)
  rw [List.take_append_drop] at this
  omega
theorem cntL_drop (l : List Tr) (k : Nat) : cntL (l.drop k) ≤ cntL l := by
  have := cntL_app (l.take k) (l.drop k)
  rw [List.take_append_drop] at this
  omega
theorem tgt_cnt (t : Tr) : cntL (tgtL t) + 1 ≤ t.cnt := by
  have hcn : t.cnt = 1 + cntL t.ks := by obtain ⟨op, a, n, m, s, ks⟩ := t; rfl
  have h1 := cntL_take t.ks 1
  have h2 := cntL_take (t.ks.drop 1) 1
  have h3 := cntL_drop t.ks 1
  unfold tgtL
  repeat' split
  all_goals first | omega | (simp only [cntL]; omega)
theorem names_len : ∀ (f : Nat) (t : Tr), (namesG f t).length ≤ t.cnt := by
  intro f
  induction f with
  | zero => intro t; simp [namesG]
  | succ f ih =>
    intro t
    have hl : ∀ l : List Tr, (l.flatMap (namesG f)).length ≤ cntL l := by
      intro l
      induction l with
      | nil => simp
      | cons x r ihr => have := ih x; simp only [List.flatMap_cons, List.length_append, cntL]; omega
    have h1 := hl (tgtL t)
    have h2 := tgt_cnt t
    unfold namesG
    rw [List.length_append]
    split <;> simp only [List.length_cons, List.length_nil] <;> omega
theorem names_lens (f : Nat) (l : List Tr) : (l.flatMap (namesG f)).length ≤ cntL l := by
  induction l with
  | nil => simp
  | cons x r ihr => have := names_len f x; simp only [List.flatMap_cons, List.length_append, cntL]; omega
def FV (bn bg : Nat) : Value := .func (.func 32) #[] #[.pointer (some ⟨bn, 0, none⟩), .pointer (some ⟨bg, 0, none⟩)]
/-- the variables of Names, and what has been gathered -/
structure NSt (w : World) (bn bg B : Nat) (L : List ByteArray) (v : Value) : Prop where
  hn : w.heap[bn]? = some (.cells #[v] 35 (0, 0))
  hg : w.heap[bg]? = some (.cells #[.func (.func 32) #[] #[.pointer (some ⟨bn, 0, none⟩), .pointer (some ⟨bg, 0, none⟩)]] 44 (0, 0))
  own : w.ownsRow B 9 1 v L.length (L.map Value.string)
  low : B ≤ bn
structure GFr (w w' : World) (bn : Nat) (v : Value) : Prop where
  os : w'.os = w.os
  tape : w'.tape = w.tape
  output : w'.output = w.output
  size : w.heap.size ≤ w'.heap.size
  block : ∀ k, k < w.heap.size → k ≠ bn → some k ≠ v.ownBlock → w'.heap[k]? = w.heap[k]?
def Loc (w : World) (v v' : Value) : Prop := v'.ownBlock = v.ownBlock ∨ ∃ g, v'.ownBlock = some g ∧ w.heap.size ≤ g
theorem nst_bel {w w' : World} {bn bg B : Nat} {L : List ByteArray} {v : Value} (h : NSt w bn bg B L v) (hb : Below w.heap.size w w') : NSt w' bn bg B L v :=
  ⟨c_kept hb (c_lt h.hn) h.hn, c_kept hb (c_lt h.hg) h.hg, World.ownsRow.kept h.own (row := none) ⟨hb.os, hb.tape, hb.output, hb.size, fun k hk _ => hb.block k hk⟩ (by cases hv : v.ownBlock <;> simp), h.low⟩
theorem gfr_bel {w w' : World} {bn : Nat} {v : Value} (hb : Below w.heap.size w w') : GFr w w' bn v := ⟨hb.os, hb.tape, hb.output, hb.size, fun k hk _ _ => hb.block k hk⟩
theorem loc_trans {w w1 : World} {v v1 v2 : Value} (h1 : Loc w v v1) (h2 : Loc w1 v1 v2) (hz : w.heap.size ≤ w1.heap.size) : Loc w v v2 := by
  rcases h2 with h2 | ⟨g, h2, h3⟩
  · rcases h1 with h1 | ⟨g, h1, h3⟩
    · exact .inl (h2.trans h1)
    · exact .inr ⟨g, h2.trans h1, h3⟩
  · exact .inr ⟨g, h2, by omega⟩
theorem gfr_trans {w w1 w2 : World} {bn : Nat} {v v1 : Value} (h1 : GFr w w1 bn v) (hl : Loc w v v1) (h2 : GFr w1 w2 bn v1) : GFr w w2 bn v :=
  ⟨h2.os.trans h1.os, h2.tape.trans h1.tape, h2.output.trans h1.output, Nat.le_trans h1.size h2.size, fun k hk hn hv => (h2.block k (Nat.lt_of_lt_of_le hk h1.size) hn (by
    rcases hl with hl | ⟨g, hl, hg⟩
    · rw [hl]; exact hv
    · rw [hl]; intro e; cases e; omega)).trans (h1.block k hk hn hv)⟩
/-- what was there ahead of Names stays -/
theorem gfr_low {w w' : World} {bn bg B : Nat} {L : List ByteArray} {v : Value} (h : NSt w bn bg B L v) (hf : GFr w w' bn v) (hB : B ≤ w.heap.size) : Below B w w' :=
  ⟨hf.os, hf.tape, hf.output, hf.size, fun k hk => hf.block k (by omega) (by have := h.low; omega) (fun e => by have := (World.ownsRow.lt h.own k e.symm).1; omega)⟩
theorem nst_app {w w4 : World} {bn bg B g gc : Nat} {L : List ByteArray} {v : Value} {s : ByteArray} {o : Obj} (h : NSt w bn bg B L v) (hgrow : (w.alloc o).grownBy w4 v.ownBlock) (hat : v.ownBlock = some g ∨ g = (w.alloc o).heap.size) (hown : w4.ownsRow B 9 1 (.slice (some ⟨g, 0, none⟩) (L.length + 1) gc) (L.length + 1) (L.map Value.string ++ [Value.string s])) :
    w4.heap[bn]? = some (.cells #[v] 35 (0, 0)) ∧ NSt (w4.setCell ⟨bn, 0, none⟩ (.slice (some ⟨g, 0, none⟩) (L.length + 1) gc)) bn bg B (L ++ [s]) (.slice (some ⟨g, 0, none⟩) (L.length + 1) gc) ∧ GFr w (w4.setCell ⟨bn, 0, none⟩ (.slice (some ⟨g, 0, none⟩) (L.length + 1) gc)) bn v ∧ Loc w v (.slice (some ⟨g, 0, none⟩) (L.length + 1) gc) := by
  have hA := c_box w o
  have h2 := nst_bel h hA
  have n1 : v.ownBlock ≠ some bn := Lib.ownBlock_ne h.own h.hn (by decide)
  have n2 : v.ownBlock ≠ some bg := Lib.ownBlock_ne h.own h.hg (by decide)
  have hn4 : w4.heap[bn]? = some (.cells #[v] 35 (0, 0)) := (hgrow.block bn (c_lt h2.hn) (fun e => n1 e.symm)).trans h2.hn
  have hg4 := (hgrow.block bg (c_lt h2.hg) (fun e => n2 e.symm)).trans h2.hg
  have m1 : (Value.slice (some ⟨g, 0, none⟩) (L.length + 1) gc).ownBlock ≠ some bn := Lib.ownBlock_ne hown hn4 (by decide)
  have m3 : bg ≠ bn := fun e => by rw [e, hn4] at hg4; cases hg4
  have hs : ∀ b, b ≠ bn → (w4.setCell ⟨bn, 0, none⟩ (.slice (some ⟨g, 0, none⟩) (L.length + 1) gc)).heap[b]? = w4.heap[b]? := fun b hb => Below.heap_setCell _ _ _ _ hb
  have hss : (w4.setCell ⟨bn, 0, none⟩ (.slice (some ⟨g, 0, none⟩) (L.length + 1) gc)).heap.size = w4.heap.size := by simp [World.setCell]
  have hz := hgrow.size
  have hz1 : (w.alloc o).heap.size = w.heap.size + 1 := by simp
  refine ⟨hn4, ⟨c_one 0 _ hn4, (hs bg m3).trans hg4, ?_, h.low⟩, ⟨hgrow.os, hgrow.tape, hgrow.output, by omega, fun k hk hkn hkv => (hs k hkn).trans ((hgrow.block k (by omega) hkv).trans (hA.block k hk))⟩, ?_⟩
  · have := World.ownsRow.kept hown (c_gset (i := 0) ⟨rfl, rfl, rfl, Nat.le_refl _, fun _ _ _ => rfl⟩ (rfl : some bn = some bn) (.slice (some ⟨g, 0, none⟩) (L.length + 1) gc)) (.inr m1)
    simpa using this
  · rcases hat with e | e
    · exact .inl (by rw [e]; rfl)
    · exact .inr ⟨g, rfl, by omega⟩
theorem str_info : (Try.prog.info? 9).map (fun i => (i.zero, i.size, i.bytes)) = some (some (.string ⟨#[]⟩), 1, 16) := by kernel_rfl
theorem str_one (s : ByteArray) : ∀ u ∈ ([.string s] : List Value), u.oneCell' = true := by
  intro u hu
  simp at hu
  subst hu
  rfl
def GPost (w : World) (bn bg B : Nat) (v : Value) (L : List ByteArray) : Ending → World → Prop := fun e w' => e = .returned (.tuple #[]) ∧ ∃ v', NSt w' bn bg B L v' ∧ Loc w v v' ∧ GFr w w' bn v
structure RelG (w : World) (bn bg B : Nat) (v0 : Value) (L : List ByteArray) (tl : List Tr) (N : Nat) (i : Value) (wr : World) : Prop where
  ex : ∃ (k : Nat) (v : Value), i = .int .i64 k ∧ k ≤ tl.length ∧ NSt wr bn bg B (L ++ (tl.take k).flatMap (namesG N)) v ∧ Loc w v0 v
  fr : GFr w wr bn v0
theorem kidS {w : World} {S : Nat → Prop} {t x : Tr} {ao : Option Addr} {len cap i : Nat} (h : TIn w S t (.slice ao len cap)) (hx : t.ks[i]? = some x) : ∃ b o xo xl xc, ao = some ⟨b, o, none⟩ ∧ b < w.heap.size ∧ S b ∧ NCells w b (o + i * 6) x (.slice xo xl xc) ∧ TIn w S x (.slice xo xl xc) := by
  obtain ⟨ao', cap', e, _, _, h3⟩ := tin_open h
  obtain ⟨rfl, -, -⟩ : ao = ao' ∧ len = t.ks.length ∧ cap = cap' := by simpa using e
  obtain ⟨b, o, kx, ea, hb, hs, hc, ht⟩ := h3 i x hx
  obtain ⟨xo, xl, xc, rfl⟩ := tin_slice ht
  exact ⟨b, o, xo, xl, xc, ea, hb, hs, hc, ht⟩
set_option linter.unusedVariables false in
set_option maxRecDepth 100000 in
set_option maxHeartbeats 1000000 in
theorem gather_loop (N : Nat) (t : Tr) (ao : Option Addr) (cap bn bg B : Nat) (L : List ByteArray) (v : Value) (w : World) (g34 : (t.op == 34) = false) (hks : t.ks.length ≤ 100000) (hc : t.cnt ≤ N + 1) (hN : N + 1 ≤ 100000) (hLc : L.length + t.cnt ≤ 100000) (hB : B ≤ w.heap.size) (hst : NSt w bn bg B L v) (ht : TIn w (fun b => b < B) t (.slice ao t.ks.length cap))
    (HI : Hid (∀ (x : Tr) (ao : Option Addr) (cap : Nat) (L : List ByteArray) (v : Value) (W : World), x.cnt ≤ N → L.length + x.cnt ≤ 100000 → B ≤ W.heap.size → NSt W bn bg B L v → TIn W (fun b => b < B) x (.slice ao x.ks.length cap) → Calls Try.prog 32 #[.agg #[.int .i64 x.op, .int .i64 x.a, .int .i64 x.n, .int .i64 x.m, .string x.s, .slice ao x.ks.length cap], .pointer (some ⟨bn, 0, none⟩), .pointer (some ⟨bg, 0, none⟩)] W (GPost W bn bg B v (L ++ namesG N x)))) :
    Calls Try.prog 32 #[.agg #[.int .i64 t.op, .int .i64 t.a, .int .i64 t.n, .int .i64 t.m, .string t.s, .slice ao t.ks.length cap], .pointer (some ⟨bn, 0, none⟩), .pointer (some ⟨bg, 0, none⟩)] w (GPost w bn bg B v (L ++ (tgtL t).flatMap (namesG N))) := by
  have HTG := Lib.hid (fun (W : World) (hW : Below w.heap.size w W) => targets_any (fun b => b < B) t ao cap W hks (tin_kept ht hW))
  have HS := Lib.hid (And.intro hst hB)
  have htc := tgt_cnt t
  obtain ⟨tl, htl⟩ : ∃ tl, tl = tgtL t := ⟨_, rfl⟩
  rw [← htl] at HTG htc ⊢
  have hlen : tl.length ≤ 100000 := by have := cntL_len tl; omega
  have HC := Lib.hid (And.intro hc (And.intro hLc htc))
  clear hst ht htl hc hLc htc
  go_enter Try.func32, Try.ntmps32
  go_wp2_with fail
  refine (HTG.out _ (c_box w _)).mono ?_
  rintro e w1 ⟨so, n, sc, rfl, rfl, htin, hB1⟩
  have HT := Lib.hid htin
  have hB2 := c_thr (c_box w _) hB1 (by simp)
  have HW1 := Lib.hid hB2
  have HV : Hid (RelG w1 bn bg B v L tl N (.int .i64 0) w1) := Lib.hid ⟨⟨0, v, rfl, Nat.zero_le _, by simpa using nst_bel HS.out.1 hB2, .inl rfl⟩, gfr_bel (Below.refl _ _)⟩
  clear htin hB1 hB2
  go_wp2
  go_loopw [17] (fun i wr => RelG w1 bn bg B v L tl N i wr) (fun i _ => tl.length - (intOf i).toNat)
  case atStart => exact HV.out
  case round =>
    clear HV
    obtain ⟨⟨k, v1, rfl, hk, hst, hloc⟩, hfr⟩ := hrel
    have hzr : w1.heap.size ≤ wr.heap.size := hfr.size
    by_cases hkl : k < tl.length
    · have g1 : decide ((k : Int) < (tl.length : Int)) = true := decide_eq_true (by omega)
      obtain ⟨y, hy⟩ : ∃ y, tl[k]? = some y := ⟨_, List.getElem?_eq_getElem hkl⟩
      have hst1 : NSt w1 bn bg B L v := nst_bel HS.out.1 HW1.out
      have hBw1 : B ≤ w1.heap.size := Nat.le_trans HS.out.2 HW1.out.size
      have hlow := gfr_low hst1 hfr hBw1
      obtain ⟨bb, oo, xo, xl, xc, rfl, hbb, hbB, hcc, hyt⟩ := kidS HT.out hy
      have hcc2 := ncells_kept (hlow.block bb hbB) hcc
      have hyt2 : TIn wr (fun b => b < B) y (.slice xo xl xc) := tin_below hyt hlow (fun _ _ h => h)
      obtain rfl := tin_len hyt
      have hbr : bb < wr.heap.size := by omega
      obtain ⟨W2, hW2⟩ : ∃ W2, W2 = wr.alloc (.cells #[.int .i64 y.op, .int .i64 y.a, .int .i64 y.n, .int .i64 y.m, .string y.s, .slice xo y.ks.length xc] 27) := ⟨_, rfl⟩
      have hB3 : Below wr.heap.size wr W2 := by rw [hW2]; exact c_box wr _
      have hzW : W2.heap.size = wr.heap.size + 1 := by rw [hW2]; simp
      have hn2 : W2.heap[wr.heap.size]? = some (.cells #[.int .i64 y.op, .int .i64 y.a, .int .i64 y.n, .int .i64 y.m, .string y.s, .slice xo y.ks.length xc] 27 (0, 0)) := by rw [hW2]; exact heap_alloc_new wr _
      have hst2 := nst_bel hst hB3
      have hyc : y.cnt ≤ N ∧ (L ++ (tl.take k).flatMap (namesG N)).length + y.cnt ≤ 100000 := by
        have h1 := names_lens N (tl.take k)
        have h2 : cntL (tl.take k) + y.cnt ≤ cntL tl := by
          have e1 := cntL_app (tl.take k) (tl.drop k)
          rw [List.take_append_drop, drop_cons hy] at e1
          simp only [cntL] at e1
          omega
        have h3 := cntL_at hy
        obtain ⟨p1, p2, p3⟩ := HC.out
        rw [List.length_append]
        omega
      have HX := Lib.hid (HI.out y xo xc _ v1 W2 hyc.1 hyc.2 (by omega) hst2 (tin_kept hyt2 hB3))
      have hbgc : W2.cell? ⟨bg, 0, none⟩ = some (.func (.func 32) #[] #[.pointer (some ⟨bn, 0, none⟩), .pointer (some ⟨bg, 0, none⟩)]) := c_cell hst2.hg 0
      have hbgl : bg < W2.heap.size := c_lt hst2.hg
      obtain ⟨⟨n0, n1, n2, n3, n4, n5⟩, -, hnl⟩ := c_six hn2
      have HH := Lib.hid (And.intro hloc (And.intro hfr (And.intro hB3 (And.intro hy hzW))))
      obtain ⟨c0, c1, c2, c3, c4, c5⟩ := hcc2
      clear hst1 hlow hcc hyt hyt2 hB3 hzW hn2 hst2 hyc hloc hfr hst hy
      go_upto_region 6 with fail
      rw [← hW2]
      clear hW2 c0 c1 c2 c3 c4 c5
      go_wp2_with fail
      refine HX.out.mono ?_
      rintro e w4 ⟨rfl, v2, hst4, hloc4, hfr4⟩
      have HST : Hid (RelG w1 bn bg B v L tl N (.int .i64 ((k : Int) + 1)) w4) := by
        obtain ⟨hloc, hfr, hB3, hy, hzW⟩ := HH.out
        have hl2 : Loc wr v1 v2 := by
          rcases hloc4 with h | ⟨g, h, h2⟩
          · exact .inl h
          · exact .inr ⟨g, h, by omega⟩
        have hf2 : GFr wr w4 bn v1 := gfr_trans (gfr_bel hB3) (.inl rfl) hfr4
        refine Lib.hid ⟨⟨k + 1, v2, by simp, hkl, ?_, loc_trans hloc hl2 hzr⟩, gfr_trans hfr hloc hf2⟩
        rw [List.take_add_one, hy]
        simpa using hst4
      clear hst4 hloc4 hfr4 HH
      go_wp2
      go_roundw
      case rel => exact HST.out
      case measure => simp [intOf]; omega
    · have g1 : decide ((k : Int) < (tl.length : Int)) = false := decide_eq_false (by omega)
      have HF := Lib.hid (And.intro hst (And.intro hloc hfr))
      clear hst hloc hfr
      go_wp2
      go_end0
      obtain ⟨hst, hloc, hfr⟩ := HF.out
      rw [List.take_of_length_le (by omega)] at hst
      have hl : Loc w v v1 := by
        rcases hloc with h | ⟨g, h, h2⟩
        · exact .inl h
        · exact .inr ⟨g, h, by have := HW1.out.size; omega⟩
      exact ⟨rfl, v1, hst, hl, gfr_trans (gfr_bel HW1.out) (.inl rfl) hfr⟩
end Go.Proofs.Ytjnlifghobgkcaa
