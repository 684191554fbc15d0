/-
  Names of package cover at this translation.
-/
import Derived.Test.YtjnlifghobgkcaaC14
import Derived.Laws.EntriesVeiled
namespace Go.Proofs.Ytjnlifghobgkcaa
open Go.RowKit

theorem tgt_name {t : Tr} (h : t.op = 34) : tgtL t = [] := by
  unfold tgtL
  rw [if_neg (by omega), if_neg (by omega), if_neg (by omega)]
set_option linter.unusedVariables false in
set_option maxRecDepth 100000 in
set_option maxHeartbeats 1000000 in
theorem gather_name (N : Nat) (t : Tr) (ao : Option Addr) (cap bn bg B : Nat) (L : List ByteArray) (v : Value) (w : World) (g34 : (t.op == 34) = true) (hks : t.ks.length ≤ 100000) (hLc : L.length + t.cnt ≤ 100000) (hB : B ≤ w.heap.size) (hst : NSt w bn bg B L v) (ht : TIn w (fun b => b < B) t (.slice ao t.ks.length cap)) :
    Calls Try.prog 32 #[.agg #[.int .i64 t.op, .int .i64 t.a, .int .i64 t.n, .int .i64 t.m, .string t.s, .slice ao t.ks.length cap], .pointer (some ⟨bn, 0, none⟩), .pointer (some ⟨bg, 0, none⟩)] w (GPost w bn bg B v (L ++ [t.s])) := by
  obtain ⟨i0, hi, hz0, hz1, hz2⟩ := info_parts str_info
  have hT : Try.prog.underlying 35 = some (.slice 9) := Try.underlying35
  have htn : tgtL t = [] := tgt_name (by simpa using g34)
  have HTG := Lib.hid (fun (W : World) (hW : TIn W (fun b => b < B) t (.slice ao t.ks.length cap)) => targets_any (fun b => b < B) t ao cap W hks hW)
  rw [htn] at HTG
  have hcp := cnt_pos t
  have hLl : L.length ≤ 100000 := by omega
  obtain ⟨W1, hW1⟩ : ∃ W1, W1 = w.alloc (.cells #[.int .i64 t.op, .int .i64 t.a, .int .i64 t.n, .int .i64 t.m, .string t.s, .slice ao t.ks.length cap] 27) := ⟨_, rfl⟩
  have hB1 : Below w.heap.size w W1 := by rw [hW1]; exact c_box w _
  have hbox : W1.heap[w.heap.size]? = some (.cells #[.int .i64 t.op, .int .i64 t.a, .int .i64 t.n, .int .i64 t.m, .string t.s, .slice ao t.ks.length cap] 27 (0, 0)) := by rw [hW1]; exact heap_alloc_new w _
  have hst1 := nst_bel hst hB1
  have ht1 := tin_kept ht hB1
  have hvl : ∀ g, v.ownBlock = some g → g < w.heap.size := fun g hg => (World.ownsRow.lt hst.own g hg).2
  have hbnl : bn < w.heap.size := c_lt hst.hn
  obtain ⟨ro, rc, hv⟩ : ∃ ro rc, v = .slice ro L.length rc := by
    rcases hst.own.2 with ⟨e, h0⟩ | ⟨g, c, _, e, _⟩
    · exact ⟨none, 0, by rw [e, h0]⟩
    · exact ⟨_, c, e⟩
  subst hv
  have hown1 : W1.ownsRow B 9 1 (.slice ro L.length rc) L.length (L.map Value.string) := hst1.own
  have hbc : W1.cell? ⟨bn, 0, none⟩ = some (.slice ro L.length rc) := c_cell hst1.hn 0
  have hbl1 : bn < W1.heap.size := c_lt hst1.hn
  have hfn : W1.frozen? ⟨bn, 0, none⟩ = false := by simp [World.frozen?, hst1.hn]
  obtain ⟨⟨b0, b1, b2, b3, b4, b5⟩, -, hxl⟩ := c_six hbox
  have HH := Lib.hid (And.intro hB1 (And.intro hbox (And.intro hst1 (And.intro ht1 (And.intro hvl (And.intro hB hst))))))
  have HW := Lib.hid hW1
  clear hst ht hB1 hbox hst1 ht1 htn hvl hLc hcp hW1 hB
  go_enter Try.func32, Try.ntmps32
  go_upto_region 2 with fail
  rw [← HW.out]
  go_upto_region 3 with ((first | (at_builtin) | fail); (first | (refine wpList_append_lies _ rfl _ _ 35 rfl B 9 i0 (.string ⟨#[]⟩) 1 16 hT hi hz0 hz1 hz2 rfl (by decide) (.slice ro L.length rc) _ _ rfl (hown1.alloc _) ⟨W1.heap.size, 0, none⟩ 1 1 [.string t.s] rfl rfl ?_ ?_ (by omega) ?_ ?_ ?_ _ rfl ?_) | fail); (first | (exact World.news_of_block (cs := #[.string t.s]) (t := 9) (fr := (0, 0)) (heap_alloc_new W1 _)) | fail); (first | (exact str_one t.s) | fail); (first | ((unfold maxLen; omega)) | fail); (first | (omega) | fail); (first | ((have := HH.out.2.2.2.2.2.1; have := HH.out.1.size; simp; omega)) | fail); (first | (intro g gc w4 hown' hgrow hat hglt) | fail); (first | (obtain ⟨hn4, hst5, hfr5, hloc5⟩ := nst_app HH.out.2.2.1 hgrow hat hown') | fail); (first | (have hpn : w4.cell? ⟨bn, 0, none⟩ = some (.slice ro L.length rc) := c_cell hn4 0) | fail); (first | (have hpl : bn < w4.heap.size := c_lt hn4) | fail); (first | (have hpf : w4.frozen? ⟨bn, 0, none⟩ = false := by simp [World.frozen?, hn4]) | fail); (first | (have HF := Lib.hid (And.intro hst5 (And.intro hfr5 hloc5))) | fail); (first | (obtain ⟨⟨p0, p1, p2, p3, p4, p5⟩, -, hxl5⟩ := c_six ((hfr5.block w.heap.size (c_lt HH.out.2.1) (by omega) (fun e => by have := HH.out.2.2.2.2.1 _ e.symm; omega)).trans HH.out.2.1)) | fail); (first | (clear hown' hgrow hat hglt hst5 hfr5 hloc5 hn4 hown1) | fail))
  obtain ⟨W5, hW5⟩ : ∃ W5, W5 = w4.setCell ⟨bn, 0, none⟩ (.slice (some ⟨g, 0, none⟩) (L.length + 1) gc) := ⟨_, rfl⟩
  rw [← hW5] at HF p0 p1 p2 p3 p4 p5 hxl5 ⊢
  have hBl : Below B w W5 := (HH.out.1.mono HH.out.2.2.2.2.2.1).trans (gfr_low HH.out.2.2.1 HF.out.2.1 (by have := HH.out.2.2.2.2.2.1; have := HH.out.1.size; omega))
  have htl : TIn W5 (fun b => b < B) t (.slice ao t.ks.length cap) := tin_imp (fun b hb hs => ⟨hs, (HF.out.2.1.block b hb (by have := HH.out.2.2.1.low; omega) (fun e => by have := (World.ownsRow.lt HH.out.2.2.1.own b e.symm).1; omega))⟩) HF.out.2.1.size _ _ HH.out.2.2.2.1
  have HG := Lib.hid (And.intro HF.out.1 (And.intro HF.out.2.1 (And.intro HF.out.2.2 htl)))
  clear HF hW5 htl hBl hpn hpl hpf hbc hbl1 hfn b0 b1 b2 b3 b4 b5 hxl
  go_wp2_with fail
  refine (HTG.out _ HG.out.2.2.2).mono ?_
  rintro e w6 ⟨so, n, sc, rfl, rfl, -, hB6⟩
  have HB6 := Lib.hid hB6
  clear hB6
  go_wp2
  go_loopw [17] (fun i wr => i = .int .i64 0 ∧ wr = w6) (fun i _ => 0)
  case atStart => exact ⟨rfl, rfl⟩
  case round =>
    obtain ⟨rfl, rfl⟩ := hrel
    go_wp2
    go_end0
    obtain ⟨hst5, hfr5, hloc5, -⟩ := HG.out
    refine ⟨rfl, .slice (some ⟨g, 0, none⟩) (L.length + 1) gc, ?_, ?_, gfr_trans (v1 := .slice (some ⟨g, 0, none⟩) (L.length + 1) gc) (gfr_trans (gfr_bel HH.out.1) (.inl rfl) hfr5) ?_ (gfr_bel HB6.out)⟩
    · simpa using nst_bel hst5 HB6.out
    · rcases hloc5 with h | ⟨g', h, h2⟩
      · exact .inl h
      · exact .inr ⟨g', h, by have := HH.out.1.size; omega⟩
    · rcases hloc5 with h | ⟨g', h, h2⟩
      · exact .inl h
      · exact .inr ⟨g', h, by have := HH.out.1.size; omega⟩
theorem gather_any (bn bg B : Nat) : ∀ (N : Nat), N ≤ 100000 → ∀ (t : Tr) (ao : Option Addr) (cap : Nat) (L : List ByteArray) (v : Value) (w : World), t.cnt ≤ N → L.length + t.cnt ≤ 100000 → B ≤ w.heap.size → NSt w bn bg B L v → TIn w (fun b => b < B) t (.slice ao t.ks.length cap) →
    Calls Try.prog 32 #[.agg #[.int .i64 t.op, .int .i64 t.a, .int .i64 t.n, .int .i64 t.m, .string t.s, .slice ao t.ks.length cap], .pointer (some ⟨bn, 0, none⟩), .pointer (some ⟨bg, 0, none⟩)] w (GPost w bn bg B v (L ++ namesG N t)) := by
  intro N
  induction N with
  | zero => intro _ t ao cap L v w h; have := cnt_pos t; omega
  | succ N ih =>
    intro hN t ao cap L v w hc hLc hB hst ht
    have hks := ks_le hc hN
    unfold namesG
    by_cases h34 : t.op = 34
    · rw [if_pos h34, tgt_name h34]
      simp only [List.flatMap_nil, List.append_nil]
      exact gather_name N t ao cap bn bg B L v w (by simpa using h34) hks hLc hB hst ht
    · rw [if_neg h34]
      simp only [List.nil_append]
      exact gather_loop N t ao cap bn bg B L v w (by simpa using h34) hks hc hN hLc hB hst ht (Lib.hid (fun x ao cap L v W hx hLx hBx hs hx2 => ih (by omega) x ao cap L v W hx hLx hBx hs hx2))
def namesOf (t : Tr) : List ByteArray := namesG t.cnt t
def StrPost (w : World) (l : List ByteArray) : Ending → World → Prop := fun e w' => ∃ v, e = .returned v ∧ StrIn w' v l ∧ Below w.heap.size w w'
theorem str_own {w : World} {B : Nat} {v : Value} {L : List ByteArray} (h : w.ownsRow B 9 1 v L.length (L.map Value.string)) : StrIn w v L := by
  have hlt := World.ownsRow.lt h
  rcases h.2 with ⟨rfl, h0⟩ | ⟨g, cap, cur, rfl, hb, hg, hn, hm, hs, ht⟩
  · have : L = [] := List.eq_nil_of_length_eq_zero h0
    subst this
    exact ⟨none, 0, rfl, by simp⟩
  · refine ⟨_, cap, rfl, fun i s hi => ⟨g, 0, rfl, (hlt g rfl).2, ?_⟩⟩
    have := World.ownsRow.cells h (g := g) rfl i (.string s) (by simp [hi])
    have hadd : (⟨g, 0, none⟩ : Addr).add i = ⟨g, i, none⟩ := by unfold Addr.add; split <;> simp_all
    rw [hadd] at this
    simpa using this
set_option linter.unusedVariables false in
set_option maxRecDepth 100000 in
set_option maxHeartbeats 1000000 in
theorem names_any (t : Tr) (ao : Option Addr) (cap : Nat) (w : World) (hc : t.cnt ≤ 100000) (ht : TIn w All t (.slice ao t.ks.length cap)) :
    Calls Try.prog 21 #[.agg #[.int .i64 t.op, .int .i64 t.a, .int .i64 t.n, .int .i64 t.m, .string t.s, .slice ao t.ks.length cap]] w (StrPost w (namesOf t)) := by
  have hmf : ∀ (fn : Fn) (first cap : Array Value) (w : World), (Instr.makeFunc fn first cap).run Try.prog w = .ok (.func fn first cap) w := fun _ _ _ _ => rfl
  have ht2 : TIn w (fun b => b < w.heap.size) t (.slice ao t.ks.length cap) := tin_mono ht (fun b hb _ => hb)
  obtain ⟨W3, hW3⟩ : ∃ W3, W3 = (((w.alloc (.cells #[.int .i64 t.op, .int .i64 t.a, .int .i64 t.n, .int .i64 t.m, .string t.s, .slice ao t.ks.length cap] 27)).alloc (.cells #[.slice none 0 0] 35)).alloc (.cells #[.func (.func 32) #[] #[.pointer (some ⟨w.heap.size + 1, 0, none⟩), .pointer (some ⟨w.heap.size + 1 + 1, 0, none⟩)]] 44)) := ⟨_, rfl⟩
  have hB3 : Below w.heap.size w W3 := by rw [hW3]; exact c_box3 w _ _ _
  have hbox : W3.heap[w.heap.size]? = some (.cells #[.int .i64 t.op, .int .i64 t.a, .int .i64 t.n, .int .i64 t.m, .string t.s, .slice ao t.ks.length cap] 27 (0, 0)) := by rw [hW3]; exact (Below.heap_alloc _ _ _ (by simp; omega)).trans (c_new1 w _ _)
  have hst : NSt W3 (w.heap.size + 1) (w.heap.size + 1 + 1) w.heap.size [] (.slice none 0 0) :=
    ⟨by rw [hW3]; exact (Below.heap_alloc _ _ _ (by simp)).trans (c_new2 w _ _), by rw [hW3]; exact c_new3 w _ _ _, World.ownsRow_nil _ _ _ _, by omega⟩
  have HX := Lib.hid (gather_any (w.heap.size + 1) (w.heap.size + 1 + 1) w.heap.size t.cnt hc t ao cap [] (.slice none 0 0) W3 (Nat.le_refl _) (by simp; omega) hB3.size hst (tin_below ht2 hB3 (fun b _ h => h)))
  obtain ⟨⟨b0, b1, b2, b3, b4, b5⟩, -, hxl⟩ := c_six hbox
  have hgc : W3.cell? ⟨w.heap.size + 1 + 1, 0, none⟩ = some (.func (.func 32) #[] #[.pointer (some ⟨w.heap.size + 1, 0, none⟩), .pointer (some ⟨w.heap.size + 1 + 1, 0, none⟩)]) := c_cell hst.hg 0
  have hgl := c_lt hst.hg
  have HH := Lib.hid (And.intro hB3 hst)
  have HW := Lib.hid hW3
  clear ht ht2 hB3 hbox hst hW3
  go_enter Try.func21, Try.ntmps21
  go_upto_region 4 with fail
  rw [← HW.out]
  go_wp2_with fail
  refine HX.out.mono ?_
  rintro e w4 ⟨rfl, v, hst4, -, hfr4⟩
  have hnc : w4.cell? ⟨w.heap.size + 1, 0, none⟩ = some v := c_cell hst4.hn 0
  have hnl : w.heap.size + 1 < w4.heap.size := c_lt hst4.hn
  have HF := Lib.hid (And.intro hst4 hfr4)
  clear hst4 hfr4
  go_wp2
  go_ret
  obtain ⟨hst4, hfr4⟩ := HF.out
  have hlow := gfr_low HH.out.2 hfr4 HH.out.1.size
  exact ⟨_, rfl, str_own (L := namesOf t) (by have := hst4.own; rw [List.nil_append] at this; exact this), HH.out.1.trans hlow⟩
end Go.Proofs.Ytjnlifghobgkcaa
