/-
  fits of package tree: runs of children, one part after the other.
-/
import Derived.Test.YtppliplalfpmaaaDoorRt2
import Derived.Laws.EntriesVeiled
namespace Go.Proofs.YtppliplalfpmaaaDoor
open Go.RowKit

/-- a part of a sequence of children: a test (a function value), how few and how many -/
structure PT where
  id : Nat
  caps : Array Value
  least : Nat
  most : Nat
  p : Tr → Bool
def PT.f (q : PT) : Value := .func (.func q.id) #[] q.caps
def ptC (q : PT) : List Value := [q.f, .int .i64 q.least, .int .i64 q.most]
def runV (p : Tr → Bool) (most : Nat) (l : List Tr) : Nat := ((l.take most).takeWhile p).length
def fitsV : List PT → List Tr → Bool
  | [], l => l.isEmpty
  | q :: r, l => if runV q.p q.most l < q.least then false else fitsV r (l.drop (runV q.p q.most l))
/-- what a test answers, in every world that has grown from w -/
def TestOK (w : World) (q : PT) : Prop := (∀ (args : Array Value) (W : World), (callFunc q.id args).run Tryd.prog W = .ok (.enter q.id args) W) ∧ ∀ (W : World) (x : Tr) (k : Value), Below w.heap.size w W → Calls Tryd.prog q.id (#[.agg #[.int .i64 x.op, .int .i64 x.a, .int .i64 x.n, .int .i64 x.m, .string x.s, k]] ++ q.caps) W (RB (q.p x) W)
def PtsIn (w : World) (v : Value) (L : List PT) : Prop := ∃ ao cap, v = .slice ao L.length cap ∧ ∀ i q, L[i]? = some q → ∃ b o, ao = some ⟨b, o, none⟩ ∧ b < w.heap.size ∧ w.cell? ⟨b, o + i * 3, none⟩ = some q.f ∧ w.cell? ⟨b, o + i * 3 + 1, none⟩ = some (.int .i64 q.least) ∧ w.cell? ⟨b, o + i * 3 + 2, none⟩ = some (.int .i64 q.most)
def mkT (l : List Tr) : Tr := .mk 0 0 0 0 ⟨#[]⟩ l
theorem tin_open2 {w : World} {l : List Tr} {ao : Option Addr} {len cap : Nat} (h : TIn w All (mkT l) (.slice ao len cap)) : ∀ i x, l[i]? = some x → ∃ b o kx, ao = some ⟨b, o, none⟩ ∧ b < w.heap.size ∧ All b ∧ NCells w b (o + i * 6) x kx ∧ TIn w All x kx := by
  obtain ⟨ao', cap', e, _, _, h3⟩ := tin_open h
  obtain ⟨rfl, -, -⟩ : ao = ao' ∧ len = (mkT l).ks.length ∧ cap = cap' := by simpa using e
  exact h3
theorem tin_cap {w : World} {S : Nat → Prop} {t : Tr} {ao : Option Addr} {len cap : Nat} (h : TIn w S t (.slice ao len cap)) : len ≤ cap := by
  obtain ⟨ao', cap', e, h1, _⟩ := tin_open h
  have : ao = ao' ∧ len = t.ks.length ∧ cap = cap' := by simpa using e
  omega
theorem tin_drop {w : World} {l : List Tr} {lo : Option Addr} {lc k : Nat} (h : TIn w All (mkT l) (.slice lo l.length lc)) (hk : k ≤ l.length) : TIn w All (mkT (l.drop k)) (.slice (if lc = k then lo else lo.map (fun x => x.add (k * 6))) (l.length - k) (lc - k)) := by
  have hl : (mkT (l.drop k)).ks.length = l.length - k := by show (l.drop k).length = _; simp
  obtain ⟨ao, cap, e, h1, h2, h3⟩ := tin_open h
  obtain ⟨rfl, -, rfl⟩ : lo = ao ∧ l.length = (mkT l).ks.length ∧ lc = cap := by simpa using e
  have h1' : l.length ≤ lc := h1
  rw [← hl]
  refine tin_close (by rw [hl]; omega) (by omega) ?_
  by_cases hz : l.length ≤ k
  · exact .inl (List.drop_of_length_le hz)
  · obtain ⟨x, hx⟩ : ∃ x, l[k]? = some x := ⟨_, List.getElem?_eq_getElem (by omega)⟩
    obtain ⟨b, o, _, rfl, hb, hs, _, _⟩ := h3 k x hx
    rw [if_neg (by omega)]
    refine .inr ⟨b, o + k * 6, ?_, hb, hs, fun i y hy => ?_⟩
    · simp only [Option.map_some, Addr.add]
      by_cases hk0 : k * 6 = 0
      · simp [hk0]
      · simp [hk0]
    · have hy2 : l[k + i]? = some y := by
        have : (l.drop k)[i]? = some y := hy
        rwa [List.getElem?_drop] at this
      obtain ⟨b', o', ky, e', _, _, hc, ht⟩ := h3 (k + i) y hy2
      cases e'
      refine ⟨ky, ?_, ht⟩
      have e3 : o + (k + i) * 6 = o + k * 6 + i * 6 := by omega
      rwa [e3] at hc
theorem fits_step {q : PT} {L : List PT} {j : Nat} {l : List Tr} {R : Bool} (hq : L[j]? = some q) (h : fitsV (L.drop j) l = R) : (if runV q.p q.most l < q.least then false else fitsV (L.drop (j + 1)) (l.drop (runV q.p q.most l))) = R := by
  have e : L.drop j = q :: L.drop (j + 1) := by
    have hj := (List.getElem?_eq_some_iff.1 hq).1
    rw [List.drop_eq_getElem_cons hj]
    congr 1
    exact (List.getElem?_eq_some_iff.1 hq).2
  rw [e] at h
  exact h
theorem runV_le (p : Tr → Bool) (m : Nat) (l : List Tr) : runV p m l ≤ l.length ∧ runV p m l ≤ m := by
  have h : ∀ (r : List Tr), (r.takeWhile p).length ≤ r.length := by
    intro r
    induction r with
    | nil => simp
    | cons a t ih => rw [List.takeWhile_cons]; split <;> simp <;> omega
  unfold runV
  have := h (l.take m)
  simp only [List.length_take] at this
  omega
/-- k of the run are gone through: what is known of the run then -/
def runAt (p : Tr → Bool) (m : Nat) (l : List Tr) (k : Nat) : Prop := k ≤ runV p m l
theorem run_yes {p : Tr → Bool} {m : Nat} {l : List Tr} {k : Nat} {x : Tr} (hk : k ≤ runV p m l) (hm : k < m) (hx : l[k]? = some x) (hp : p x = true) : k + 1 ≤ runV p m l := by
  unfold runV at hk ⊢
  have hx2 : (l.take m)[k]? = some x := by rw [List.getElem?_take_of_lt hm]; exact hx
  generalize l.take m = r at hk hx2
  clear hx hm
  induction r generalizing k with
  | nil => simp at hx2
  | cons a t ih =>
    rw [List.takeWhile_cons] at hk ⊢
    cases k with
    | zero =>
      simp at hx2
      subst hx2
      rw [hp]
      simp
    | succ k =>
      split at hk
      · rename_i hpa
        rw [if_pos hpa]
        have := ih (k := k) (by simpa using hk) (by simpa using hx2)
        simp
        omega
      · simp at hk
theorem run_no {p : Tr → Bool} {m : Nat} {l : List Tr} {k : Nat} (hk : k ≤ runV p m l) (h : l.length ≤ k ∨ m ≤ k ∨ ∃ x, l[k]? = some x ∧ p x = false) : runV p m l = k := by
  have hle := runV_le p m l
  rcases h with h | h | ⟨x, hx, hp⟩
  · omega
  · omega
  · by_cases hmk : k < m
    · unfold runV at hk ⊢
      have hx2 : (l.take m)[k]? = some x := by rw [List.getElem?_take_of_lt hmk]; exact hx
      generalize l.take m = r at hk hx2
      clear hx hmk hle
      induction r generalizing k with
      | nil => simp at hx2
      | cons a t ih =>
        rw [List.takeWhile_cons] at hk ⊢
        cases k with
        | zero =>
          simp at hx2
          subst hx2
          rw [hp]
          simp
        | succ k =>
          split at hk
          · rename_i hpa
            rw [if_pos hpa]
            have := ih (k := k) (by simpa using hk) (by simpa using hx2)
            simp
            omega
          · simp at hk
    · omega
theorem part_info : (Tryd.prog.info? 79).map (fun i => (i.zero, i.size, i.bytes)) = some (some (.agg #[.nilFunc, .int .i64 0, .int .i64 0]), 3, 24) := by kernel_rfl
set_option linter.unusedVariables false in
set_option maxRecDepth 100000 in
set_option maxHeartbeats 2000000 in
theorem one_any (id : Nat) (caps : Array Value) (w : World) : Calls Tryd.prog 69 #[.func (.func id) #[] caps] w fun e w' => e = .returned (.agg #[.func (.func id) #[] caps, .int .i64 1, .int .i64 1]) ∧ Below w.heap.size w w' := by
  obtain ⟨W1, hW1⟩ : ∃ W1, W1 = w.alloc (.cells #[.func (.func id) #[] caps, .int .i64 1, .int .i64 1] 79) := ⟨_, rfl⟩
  have hx1 : W1.heap[w.heap.size]? = some (.cells #[.func (.func id) #[] caps, .int .i64 1, .int .i64 1] 79 (0, 0)) := by rw [hW1]; exact heap_alloc_new w _
  have c0 := Lib.cell_of_heap hx1 0
  have c1 := Lib.cell_of_heap hx1 1
  have c2 := Lib.cell_of_heap hx1 2
  simp at c0 c1 c2
  have HB := Lib.hid (show Below w.heap.size w W1 from by rw [hW1]; exact c_box w _)
  have HW := Lib.hid hW1
  clear hW1 hx1
  go_enter Tryd.func69, Tryd.ntmps69
  go_wp2
  rw [← HW.out]
  refine bodyPost_ret (v := .agg #[.func (.func id) #[] caps, .int .i64 1, .int .i64 1]) (by simp [results, Tryd.results69, go_sem, c0, c1, c2]) rfl ?_
  exact ⟨rfl, HB.out⟩
set_option linter.unusedVariables false in
set_option maxRecDepth 100000 in
set_option maxHeartbeats 2000000 in
theorem maybe_any (id : Nat) (caps : Array Value) (w : World) : Calls Tryd.prog 72 #[.func (.func id) #[] caps] w fun e w' => e = .returned (.agg #[.func (.func id) #[] caps, .int .i64 0, .int .i64 1]) ∧ Below w.heap.size w w' := by
  obtain ⟨W1, hW1⟩ : ∃ W1, W1 = w.alloc (.cells #[.func (.func id) #[] caps, .int .i64 0, .int .i64 1] 79) := ⟨_, rfl⟩
  have hx1 : W1.heap[w.heap.size]? = some (.cells #[.func (.func id) #[] caps, .int .i64 0, .int .i64 1] 79 (0, 0)) := by rw [hW1]; exact heap_alloc_new w _
  have c0 := Lib.cell_of_heap hx1 0
  have c1 := Lib.cell_of_heap hx1 1
  have c2 := Lib.cell_of_heap hx1 2
  simp at c0 c1 c2
  have HB := Lib.hid (show Below w.heap.size w W1 from by rw [hW1]; exact c_box w _)
  have HW := Lib.hid hW1
  clear hW1 hx1
  go_enter Tryd.func72, Tryd.ntmps72
  go_wp2
  rw [← HW.out]
  refine bodyPost_ret (v := .agg #[.func (.func id) #[] caps, .int .i64 0, .int .i64 1]) (by simp [results, Tryd.results72, go_sem, c0, c1, c2]) rfl ?_
  exact ⟨rfl, HB.out⟩
set_option linter.unusedVariables false in
set_option maxRecDepth 100000 in
set_option maxHeartbeats 2000000 in
theorem many_any (id : Nat) (caps : Array Value) (w : World) : Calls Tryd.prog 67 #[.func (.func id) #[] caps] w fun e w' => e = .returned (.agg #[.func (.func id) #[] caps, .int .i64 0, .int .i64 9223372036854775807]) ∧ Below w.heap.size w w' := by
  obtain ⟨W1, hW1⟩ : ∃ W1, W1 = w.alloc (.cells #[.func (.func id) #[] caps, .int .i64 0, .int .i64 9223372036854775807] 79) := ⟨_, rfl⟩
  have hx1 : W1.heap[w.heap.size]? = some (.cells #[.func (.func id) #[] caps, .int .i64 0, .int .i64 9223372036854775807] 79 (0, 0)) := by rw [hW1]; exact heap_alloc_new w _
  have c0 := Lib.cell_of_heap hx1 0
  have c1 := Lib.cell_of_heap hx1 1
  have c2 := Lib.cell_of_heap hx1 2
  simp at c0 c1 c2
  have HB := Lib.hid (show Below w.heap.size w W1 from by rw [hW1]; exact c_box w _)
  have HW := Lib.hid hW1
  clear hW1 hx1
  go_enter Tryd.func67, Tryd.ntmps67
  go_wp2
  rw [← HW.out]
  refine bodyPost_ret (v := .agg #[.func (.func id) #[] caps, .int .i64 0, .int .i64 9223372036854775807]) (by simp [results, Tryd.results67, go_sem, c0, c1, c2]) rfl ?_
  exact ⟨rfl, HB.out⟩
set_option linter.unusedVariables false in
set_option maxRecDepth 100000 in
set_option maxHeartbeats 2000000 in
theorem fits_any (l : List Tr) (lo : Option Addr) (lc : Nat) (L : List PT) (pv : Value) (w : World) (hl : l.length ≤ 100000) (hL : L.length ≤ 100) (hm : ∀ q ∈ L, q.least ≤ 1 ∧ q.most ≤ 9223372036854775807) (ht : TIn w All (mkT l) (.slice lo l.length lc)) (hp : PtsIn w pv L) (hT : ∀ q ∈ L, TestOK w q) :
    Calls Tryd.prog 66 #[.slice lo l.length lc, pv] w (RB (fitsV L l) w) := by
  obtain ⟨po, pc, rfl, hpi⟩ := hp
  obtain ⟨R, hR⟩ : ∃ R, R = fitsV L l := ⟨_, rfl⟩
  rw [← hR]
  obtain ⟨n, hn⟩ : ∃ n, n = L.length := ⟨_, rfl⟩
  rw [← hn] at hL ⊢
  have HS : Hid (∃ (j : Nat) (l2 : List Tr) (lo2 : Option Addr) (lc2 : Nat), (Value.slice lo l.length lc) = .slice lo2 l2.length lc2 ∧ (Value.int .i64 0) = .int .i64 (j : Int) ∧ j ≤ n ∧ l2.length ≤ 100000 ∧ TIn w All (mkT l2) (.slice lo2 l2.length lc2) ∧ fitsV (L.drop j) l2 = R ∧ Below w.heap.size w w) := Lib.hid ⟨0, l, lo, lc, rfl, rfl, Nat.zero_le _, hl, ht, hR.symm, Below.refl _ _⟩
  have HP := Lib.hid (And.intro hpi (And.intro hm (And.intro hT hn)))
  clear hR ht hpi hm hT hn
  go_enter Tryd.func66, Tryd.ntmps66
  go_wp2
  go_loopw [0, 10] (fun v i wr => ∃ (j : Nat) (l2 : List Tr) (lo2 : Option Addr) (lc2 : Nat), v = .slice lo2 l2.length lc2 ∧ i = .int .i64 (j : Int) ∧ j ≤ n ∧ l2.length ≤ 100000 ∧ TIn w All (mkT l2) (.slice lo2 l2.length lc2) ∧ fitsV (L.drop j) l2 = R ∧ Below w.heap.size w wr) (fun _ i _ => n - natOf i)
  case atStart => exact HS.out
  case round =>
    obtain ⟨j, l2, lo2, lc2, rfl, rfl, hj, hl2, ht2, hR, hb⟩ := hrel
    obtain ⟨w0, rfl⟩ : ∃ w0, w0 = wr := ⟨_, rfl⟩
    clear HS
    obtain ⟨len, hlen⟩ : ∃ len, len = l2.length := ⟨_, rfl⟩
    rw [← hlen] at hl2 ht2 ⊢
    have HR := Lib.hid (And.intro hR (And.intro ht2 (And.intro hlen hb)))
    clear hR ht2 hlen
    by_cases hjn : j < n
    · have g1 : decide ((j : Int) < (n : Int)) = true := decide_eq_true (by omega)
      have g2 : (j : Int) < (n : Int) := by omega
      obtain ⟨q, hq⟩ : ∃ q, L[j]? = some q := ⟨_, List.getElem?_eq_getElem (by rw [← HP.out.2.2.2]; exact hjn)⟩
      obtain ⟨b, o, rfl, hbw, p0, p1, p2⟩ := HP.out.1 j q hq
      replace p0 := (hb.cell (p := ⟨b, o + j * 3, none⟩) hbw).trans p0
      replace p1 := (hb.cell (p := ⟨b, o + j * 3 + 1, none⟩) hbw).trans p1
      replace p2 := (hb.cell (p := ⟨b, o + j * 3 + 2, none⟩) hbw).trans p2
      have hbw2 : b < w0.heap.size := Nat.lt_of_lt_of_le hbw hb.size
      unfold PT.f at p0
      clear hb
      obtain ⟨W2, hW2⟩ : ∃ W2, W2 = w0.alloc (.cells #[.func (.func q.id) #[] q.caps, .int .i64 q.least, .int .i64 q.most] 79) := ⟨_, rfl⟩
      have hx2 : W2.heap[w0.heap.size]? = some (.cells #[.func (.func q.id) #[] q.caps, .int .i64 q.least, .int .i64 q.most] 79 (0, 0)) := by rw [hW2]; exact heap_alloc_new w0 _
      have hb2 : Below w.heap.size w W2 := by rw [hW2]; exact c_thr HR.out.2.2.2 (c_box w0 _) HR.out.2.2.2.size
      have HX := Lib.hid (And.intro hx2 hb2)
      have HW := Lib.hid hW2
      have HQ := Lib.hid (And.intro hq (HP.out.2.2.1 q (List.mem_of_getElem? hq)))
      have hqm := HP.out.2.1 q (List.mem_of_getElem? hq)
      have hql : q.least ≤ 1 := hqm.1
      have hqmo : q.most ≤ 9223372036854775807 := hqm.2
      clear hx2 hb2 hW2 hq hqm hbw
      go_upto_region 5 with fail
      rw [← HW.out]
      clear p0 p1 p2 hbw2
      go_loopw [7] (fun i wx => ∃ k : Nat, i = .int .i64 (k : Int) ∧ k ≤ runV q.p q.most l2 ∧ Below W2.heap.size W2 wx) (fun i _ => len - natOf i)
      case atStart => exact ⟨0, rfl, Nat.zero_le _, Below.refl _ _⟩
      case round =>
        obtain ⟨k, rfl, hk, hbx⟩ := hrel
        have hrl := runV_le q.p q.most l2
        have hkl : k ≤ len := by rw [HR.out.2.2.1]; omega
        have hpx := (hbx.block _ (c_lt HX.out.1)).trans HX.out.1
        have f0 := Lib.cell_of_heap hpx 0
        have f1 := Lib.cell_of_heap hpx 1
        have f2 := Lib.cell_of_heap hpx 2
        simp at f0 f1 f2
        have hpl := c_lt hpx
        have HK := Lib.hid (And.intro hk (And.intro hbx hpx))
        clear hk hbx hpx hrl
        by_cases hkn : k < len
        · have g3 : decide ((k : Int) < (len : Int)) = true := decide_eq_true (by omega)
          have g4 : (k : Int) < (len : Int) := by omega
          by_cases hkm : k < q.most
          · have g5 : decide ((k : Int) < (q.most : Int)) = true := decide_eq_true (by omega)
            obtain ⟨x, hx⟩ : ∃ x, l2[k]? = some x := ⟨_, List.getElem?_eq_getElem (by rw [← HR.out.2.2.1]; exact hkn)⟩
            obtain ⟨bb, oo, kx, rfl, hbb, -, hcc, -⟩ := (tin_open2 HR.out.2.1) k x hx
            have hbw : Below w.heap.size w wr := c_thr HX.out.2 HK.out.2.1 HX.out.2.size
            obtain ⟨c0, c1, c2, c3, c4, c5⟩ := ncells_kept (hbw.block bb hbb) hcc
            have hbl : bb < wr.heap.size := Nat.lt_of_lt_of_le hbb hbw.size
            have HBW := Lib.hid (And.intro hbw (And.intro hpl hbl))
            have HTE := Lib.hid (fun (W : World) (hW : Below w.heap.size w W) => HQ.out.2.2 W x kx hW)
            have hent := HQ.out.2.1
            clear hbw hcc hbb
            have HSa : (wr.drew.cell? ⟨w0.heap.size, 0, none⟩ = some (.func (.func q.id) #[] q.caps) ∧ wr.drew.cell? ⟨w0.heap.size, 1, none⟩ = some (.int .i64 q.least) ∧ wr.drew.cell? ⟨w0.heap.size, 2, none⟩ = some (.int .i64 q.most)) ∧ (wr.drew.cell? ⟨bb, oo + k * 6, none⟩ = some (.int .i64 x.op) ∧ wr.drew.cell? ⟨bb, oo + k * 6 + 1, none⟩ = some (.int .i64 x.a) ∧ wr.drew.cell? ⟨bb, oo + k * 6 + 2, none⟩ = some (.int .i64 x.n) ∧ wr.drew.cell? ⟨bb, oo + k * 6 + 3, none⟩ = some (.int .i64 x.m) ∧ wr.drew.cell? ⟨bb, oo + k * 6 + 4, none⟩ = some (.string x.s) ∧ wr.drew.cell? ⟨bb, oo + k * 6 + 5, none⟩ = some kx) := ⟨⟨f0, f1, f2⟩, c0, c1, c2, c3, c4, c5⟩
            cases hpv : q.p x with
            | true =>
              have hrun := run_yes HK.out.1 hkm hx hpv
              have HN := Lib.hid hrun
              rw [hpv] at HTE
              clear hrun hx
              go_upto_region 5 with fail
              (go_region_held3 (fun w' => (w'.cell? ⟨w0.heap.size, 0, none⟩ = some (.func (.func q.id) #[] q.caps) ∧ w'.cell? ⟨w0.heap.size, 1, none⟩ = some (.int .i64 q.least) ∧ w'.cell? ⟨w0.heap.size, 2, none⟩ = some (.int .i64 q.most)) ∧ (w'.cell? ⟨bb, oo + k * 6, none⟩ = some (.int .i64 x.op) ∧ w'.cell? ⟨bb, oo + k * 6 + 1, none⟩ = some (.int .i64 x.a) ∧ w'.cell? ⟨bb, oo + k * 6 + 2, none⟩ = some (.int .i64 x.n) ∧ w'.cell? ⟨bb, oo + k * 6 + 3, none⟩ = some (.int .i64 x.m) ∧ w'.cell? ⟨bb, oo + k * 6 + 4, none⟩ = some (.string x.s) ∧ w'.cell? ⟨bb, oo + k * 6 + 5, none⟩ = some kx)) (first | with_reducible assumption) (first
                | (refine (HTE.out _ ?_).mono ?_; exact HBW.out.1.drew; rintro e w9 ⟨rfl, hB9⟩; have hS2 : (w9.cell? ⟨w0.heap.size, 0, none⟩ = some (.func (.func q.id) #[] q.caps) ∧ w9.cell? ⟨w0.heap.size, 1, none⟩ = some (.int .i64 q.least) ∧ w9.cell? ⟨w0.heap.size, 2, none⟩ = some (.int .i64 q.most)) ∧ (w9.cell? ⟨bb, oo + k * 6, none⟩ = some (.int .i64 x.op) ∧ w9.cell? ⟨bb, oo + k * 6 + 1, none⟩ = some (.int .i64 x.a) ∧ w9.cell? ⟨bb, oo + k * 6 + 2, none⟩ = some (.int .i64 x.n) ∧ w9.cell? ⟨bb, oo + k * 6 + 3, none⟩ = some (.int .i64 x.m) ∧ w9.cell? ⟨bb, oo + k * 6 + 4, none⟩ = some (.string x.s) ∧ w9.cell? ⟨bb, oo + k * 6 + 5, none⟩ = some kx) := ⟨⟨(hB9.cell (p := ⟨w0.heap.size, 0, none⟩) HBW.out.2.1).trans f0, (hB9.cell (p := ⟨w0.heap.size, 1, none⟩) HBW.out.2.1).trans f1, (hB9.cell (p := ⟨w0.heap.size, 2, none⟩) HBW.out.2.1).trans f2⟩, (hB9.cell (p := ⟨bb, oo + k * 6, none⟩) HBW.out.2.2).trans c0, (hB9.cell (p := ⟨bb, oo + k * 6 + 1, none⟩) HBW.out.2.2).trans c1, (hB9.cell (p := ⟨bb, oo + k * 6 + 2, none⟩) HBW.out.2.2).trans c2, (hB9.cell (p := ⟨bb, oo + k * 6 + 3, none⟩) HBW.out.2.2).trans c3, (hB9.cell (p := ⟨bb, oo + k * 6 + 4, none⟩) HBW.out.2.2).trans c4, (hB9.cell (p := ⟨bb, oo + k * 6 + 5, none⟩) HBW.out.2.2).trans c5⟩; have HB9 := Lib.hid hB9; clear hB9)))
              go_wp2
              go_roundw
              case rel => exact ⟨k + 1, by go_num, HN.out, c_thr HK.out.2.1.drew HB9.out HK.out.2.1.size⟩
              case measure => simp [natOf]; omega
            | false =>
              have hrun := run_no HK.out.1 (.inr (.inr ⟨x, hx, hpv⟩))
              have HN := Lib.hid hrun
              rw [hpv] at HTE
              clear hrun hx
              go_upto_region 5 with fail
              (go_region_held3 (fun w' => (w'.cell? ⟨w0.heap.size, 0, none⟩ = some (.func (.func q.id) #[] q.caps) ∧ w'.cell? ⟨w0.heap.size, 1, none⟩ = some (.int .i64 q.least) ∧ w'.cell? ⟨w0.heap.size, 2, none⟩ = some (.int .i64 q.most)) ∧ (w'.cell? ⟨bb, oo + k * 6, none⟩ = some (.int .i64 x.op) ∧ w'.cell? ⟨bb, oo + k * 6 + 1, none⟩ = some (.int .i64 x.a) ∧ w'.cell? ⟨bb, oo + k * 6 + 2, none⟩ = some (.int .i64 x.n) ∧ w'.cell? ⟨bb, oo + k * 6 + 3, none⟩ = some (.int .i64 x.m) ∧ w'.cell? ⟨bb, oo + k * 6 + 4, none⟩ = some (.string x.s) ∧ w'.cell? ⟨bb, oo + k * 6 + 5, none⟩ = some kx)) (first | with_reducible assumption) (first
                | (refine (HTE.out _ ?_).mono ?_; exact HBW.out.1.drew; rintro e w9 ⟨rfl, hB9⟩; have hS2 : (w9.cell? ⟨w0.heap.size, 0, none⟩ = some (.func (.func q.id) #[] q.caps) ∧ w9.cell? ⟨w0.heap.size, 1, none⟩ = some (.int .i64 q.least) ∧ w9.cell? ⟨w0.heap.size, 2, none⟩ = some (.int .i64 q.most)) ∧ (w9.cell? ⟨bb, oo + k * 6, none⟩ = some (.int .i64 x.op) ∧ w9.cell? ⟨bb, oo + k * 6 + 1, none⟩ = some (.int .i64 x.a) ∧ w9.cell? ⟨bb, oo + k * 6 + 2, none⟩ = some (.int .i64 x.n) ∧ w9.cell? ⟨bb, oo + k * 6 + 3, none⟩ = some (.int .i64 x.m) ∧ w9.cell? ⟨bb, oo + k * 6 + 4, none⟩ = some (.string x.s) ∧ w9.cell? ⟨bb, oo + k * 6 + 5, none⟩ = some kx) := ⟨⟨(hB9.cell (p := ⟨w0.heap.size, 0, none⟩) HBW.out.2.1).trans f0, (hB9.cell (p := ⟨w0.heap.size, 1, none⟩) HBW.out.2.1).trans f1, (hB9.cell (p := ⟨w0.heap.size, 2, none⟩) HBW.out.2.1).trans f2⟩, (hB9.cell (p := ⟨bb, oo + k * 6, none⟩) HBW.out.2.2).trans c0, (hB9.cell (p := ⟨bb, oo + k * 6 + 1, none⟩) HBW.out.2.2).trans c1, (hB9.cell (p := ⟨bb, oo + k * 6 + 2, none⟩) HBW.out.2.2).trans c2, (hB9.cell (p := ⟨bb, oo + k * 6 + 3, none⟩) HBW.out.2.2).trans c3, (hB9.cell (p := ⟨bb, oo + k * 6 + 4, none⟩) HBW.out.2.2).trans c4, (hB9.cell (p := ⟨bb, oo + k * 6 + 5, none⟩) HBW.out.2.2).trans c5⟩; have HB9 := Lib.hid hB9; clear hB9)))
              by_cases hlq : k < q.least
              · have hF : R = false := by have h1 := fits_step HQ.out.1 HR.out.1; rw [HN.out, if_pos hlq] at h1; exact h1.symm
                have g6 : decide ((k : Int) < (q.least : Int)) = true := decide_eq_true (by omega)
                have HF := Lib.hid hF
                clear hF
                go_wp2
                go_ret
                exact ⟨ret_b2 HF.out.symm, c_thr HBW.out.1.drew HB9.out HBW.out.1.size⟩
              · have g6 : decide ((k : Int) < (q.least : Int)) = false := decide_eq_false (by omega)
                have hF : fitsV (L.drop (j + 1)) (l2.drop k) = R := by have h1 := fits_step HQ.out.1 HR.out.1; rw [HN.out, if_neg hlq] at h1; exact h1
                have htd : TIn w All (mkT (l2.drop k)) (.slice (if lc2 = k then (some ⟨bb, oo, none⟩) else (some ⟨bb, oo, none⟩ : Option Addr).map (fun x => x.add (k * 6))) (len - k) (lc2 - k)) := by
                  have h1 := HR.out.2.1
                  rw [HR.out.2.2.1] at h1 ⊢
                  exact tin_drop h1 (by rw [← HR.out.2.2.1]; exact hkl)
                have hcap : len ≤ lc2 := tin_cap HR.out.2.1
                have hadd : (⟨bb, oo, none⟩ : Addr).add (k * 6) = ⟨bb, oo + k * 6, none⟩ := by unfold Addr.add; split <;> simp_all
                rw [if_neg (by omega), Option.map_some, hadd] at htd
                clear hadd
                have hll : (l2.drop k).length = len - k := by rw [List.length_drop, ← HR.out.2.2.1]
                have HF := Lib.hid (And.intro hF (And.intro htd hll))
                clear hF htd hll
                go_wp2
                go_roundw
                case rel => exact ⟨j + 1, l2.drop k, _, _, by rw [HF.out.2.2], by go_num, by omega, by rw [HF.out.2.2]; omega, by rw [HF.out.2.2]; exact HF.out.2.1, HF.out.1, c_thr HBW.out.1.drew HB9.out HBW.out.1.size⟩
                case measure => simp [natOf]; omega
          · have g5 : decide ((k : Int) < (q.most : Int)) = false := decide_eq_false (by omega)
            have hrun := run_no HK.out.1 (.inr (.inl (by omega)))
            have HN := Lib.hid hrun
            clear hrun
            go_wp2_with fail
            go_quiet (fail)
            by_cases hlq : k < q.least
            · have hF : R = false := by have h1 := fits_step HQ.out.1 HR.out.1; rw [HN.out, if_pos hlq] at h1; exact h1.symm
              have g6 : decide ((k : Int) < (q.least : Int)) = true := decide_eq_true (by omega)
              have HF := Lib.hid hF
              clear hF
              go_wp2
              go_ret
              exact ⟨ret_b2 HF.out.symm, drewN_below (c_thr HX.out.2 HK.out.2.1 HX.out.2.size) _⟩
            · have g6 : decide ((k : Int) < (q.least : Int)) = false := decide_eq_false (by omega)
              have hF : fitsV (L.drop (j + 1)) (l2.drop k) = R := by have h1 := fits_step HQ.out.1 HR.out.1; rw [HN.out, if_neg hlq] at h1; exact h1
              have htd : TIn w All (mkT (l2.drop k)) (.slice (if lc2 = k then lo2 else lo2.map (fun x => x.add (k * 6))) (len - k) (lc2 - k)) := by
                have h1 := HR.out.2.1
                rw [HR.out.2.2.1] at h1 ⊢
                exact tin_drop h1 (by rw [← HR.out.2.2.1]; exact hkl)
              have hcap : len ≤ lc2 := tin_cap HR.out.2.1
              rw [if_neg (by omega)] at htd
              have hll : (l2.drop k).length = len - k := by rw [List.length_drop, ← HR.out.2.2.1]
              have HF := Lib.hid (And.intro hF (And.intro htd hll))
              clear hF htd hll
              go_wp2
              go_roundw
              case rel => exact ⟨j + 1, l2.drop k, _, _, by rw [HF.out.2.2], by go_num, by omega, by rw [HF.out.2.2]; omega, by rw [HF.out.2.2]; exact HF.out.2.1, HF.out.1, drewN_below (c_thr HX.out.2 HK.out.2.1 HX.out.2.size) _⟩
              case measure => simp [natOf]; omega
        · have g3 : decide ((k : Int) < (len : Int)) = false := decide_eq_false (by omega)
          have hrun := run_no HK.out.1 (.inl (by rw [← HR.out.2.2.1]; omega))
          have HN := Lib.hid hrun
          clear hrun
          go_wp2_with fail
          go_quiet (fail)
          by_cases hlq : k < q.least
          · have hF : R = false := by have h1 := fits_step HQ.out.1 HR.out.1; rw [HN.out, if_pos hlq] at h1; exact h1.symm
            have g6 : decide ((k : Int) < (q.least : Int)) = true := decide_eq_true (by omega)
            have HF := Lib.hid hF
            clear hF
            go_wp2
            go_ret
            exact ⟨ret_b2 HF.out.symm, drewN_below (c_thr HX.out.2 HK.out.2.1 HX.out.2.size) _⟩
          · have g6 : decide ((k : Int) < (q.least : Int)) = false := decide_eq_false (by omega)
            have hF : fitsV (L.drop (j + 1)) (l2.drop k) = R := by have h1 := fits_step HQ.out.1 HR.out.1; rw [HN.out, if_neg hlq] at h1; exact h1
            have htd : TIn w All (mkT (l2.drop k)) (.slice (if lc2 = k then lo2 else lo2.map (fun x => x.add (k * 6))) (len - k) (lc2 - k)) := by
              have h1 := HR.out.2.1
              rw [HR.out.2.2.1] at h1 ⊢
              exact tin_drop h1 (by rw [← HR.out.2.2.1]; exact hkl)
            have hll : (l2.drop k).length = len - k := by rw [List.length_drop, ← HR.out.2.2.1]
            have HF := Lib.hid (And.intro hF (And.intro htd hll))
            have hcap : len ≤ lc2 := tin_cap HR.out.2.1
            clear hF htd hll
            go_wp2
            go_roundw
            case rel => exact ⟨j + 1, l2.drop k, _, _, by rw [HF.out.2.2], by go_num, by omega, by rw [HF.out.2.2]; omega, by rw [HF.out.2.2]; exact HF.out.2.1, HF.out.1, drewN_below (c_thr HX.out.2 HK.out.2.1 HX.out.2.size) _⟩
            case measure => simp [natOf]; omega
    · have g1 : decide ((j : Int) < (n : Int)) = false := decide_eq_false (by omega)
      have hjn2 : j = n := by omega
      have hd : L.drop j = [] := List.drop_of_length_le (by rw [← HP.out.2.2.2]; omega)
      have hF : R = ((len : Int) == 0) := by
        have h1 := HR.out.1
        rw [hd] at h1
        have h2 := HR.out.2.2.1
        rw [← h1]
        show l2.isEmpty = _
        rw [h2]
        cases l2 <;> simp
        omega
      have HF := Lib.hid hF
      clear hF hd hjn2
      go_wp2
      go_ret
      exact ⟨ret_b2 HF.out.symm, HR.out.2.2.2⟩
end Go.Proofs.YtppliplalfpmaaaDoor
