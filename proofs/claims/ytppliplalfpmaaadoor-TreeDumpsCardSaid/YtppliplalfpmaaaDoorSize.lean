/-
  Size and Depth, of package tree and of the reference, at this translation.
-/
import Derived.Test.YtppliplalfpmaaaDoorDep
namespace Go.Proofs.YtppliplalfpmaaaDoor
open Go.RowKit

def natOf : Value → Nat
  | .int _ n => n.toNat
  | _ => 0
def IPost (w : World) (n : Nat) : Ending → World → Prop := fun e w' => e = .returned (.int .i64 (n : Int)) ∧ Below w.heap.size w w'
theorem cnt_step {l : List Tr} {k : Nat} {x : Tr} (h : l[k]? = some x) : 1 + cntL (l.take (k + 1)) = 1 + cntL (l.take k) + x.cnt := by rw [cntL_take h]; omega
theorem cntL_pre : ∀ (l : List Tr) (k : Nat), cntL (l.take k) ≤ cntL l
  | [], k => by simp
  | x :: r, 0 => by simp [cntL]
  | x :: r, k + 1 => by simp only [List.take_succ_cons, cntL]; have := cntL_pre r k; omega
set_option linter.unusedVariables false in
set_option maxRecDepth 100000 in
set_option maxHeartbeats 1000000 in
theorem size_any : ∀ (N : Nat), N ≤ 100000 → ∀ (t : Tr) (ao : Option Addr) (cap : Nat) (w : World), t.cnt ≤ N → TIn w All t (.slice ao t.ks.length cap) → Calls Tryd.prog 10 #[.agg #[.int .i64 t.op, .int .i64 t.a, .int .i64 t.n, .int .i64 t.m, .string t.s, .slice ao t.ks.length cap]] w (IPost w (t.cnt : Nat)) := by
  intro N
  induction N with
  | zero => intro _ t _ _ _ h; have := cnt_pos t; omega
  | succ N ih =>
    intro hN t ao cap w hc ht
    have hle : ∀ x ∈ t.ks, x.cnt ≤ N := fun x hx => by
      obtain ⟨i, hi⟩ := List.getElem?_of_mem hx
      have := cnt_kid hi
      omega
    have hcl : cntL t.ks ≤ 100000 := by have := cnt_ks t; omega
    have hlen : t.ks.length ≤ 100000 := by have := cntL_len t.ks; omega
    obtain ⟨W1, hW1⟩ : ∃ W1, W1 = w.alloc (.cells #[.int .i64 t.op, .int .i64 t.a, .int .i64 t.n, .int .i64 t.m, .string t.s, .slice ao t.ks.length cap] 24) := ⟨_, rfl⟩
    have hB1 : Below w.heap.size w W1 := by rw [hW1]; exact c_box w _
    have hx1 : W1.heap[w.heap.size]? = some (.cells #[.int .i64 t.op, .int .i64 t.a, .int .i64 t.n, .int .i64 t.m, .string t.s, .slice ao t.ks.length cap] 24 (0, 0)) := by rw [hW1]; exact heap_alloc_new w _
    have HT := Lib.hid (tin_kept ht hB1)
    have HX := Lib.hid (And.intro hx1 (c_lt hx1))
    have HB := Lib.hid hB1
    have HW := Lib.hid hW1
    have HLE := Lib.hid (And.intro hle hcl)
    have HIH : Hid (∀ (x : Tr) (xo : Option Addr) (xc : Nat) (W : World), x ∈ t.ks → TIn W All x (.slice xo x.ks.length xc) → Calls Tryd.prog 10 #[.agg #[.int .i64 x.op, .int .i64 x.a, .int .i64 x.n, .int .i64 x.m, .string x.s, .slice xo x.ks.length xc]] W (IPost W (x.cnt : Nat))) := Lib.hid (fun x xo xc W hx hxt => ih (by omega) x xo xc W (hle x hx) hxt)
    obtain ⟨⟨b0, b1, b2, b3, b4, b5⟩, -, hxl⟩ := c_six hx1
    clear ih hle hcl hW1 hB1 hx1 ht hc
    go_enter Tryd.func10, Tryd.ntmps10
    go_upto_region 1 with fail
    rw [← HW.out]
    clear hxl
    go_wp2
    go_loopw [3, 9] (fun a i wr => ∃ k : Nat, a = .int .i64 ((1 + cntL (t.ks.take k) : Nat) : Int) ∧ i = .int .i64 k ∧ k ≤ t.ks.length ∧ Below W1.heap.size W1 wr) (fun _ i _ => t.ks.length - natOf i)
    case atStart => exact ⟨0, by simp [cntL], rfl, Nat.zero_le _, Below.refl _ _⟩
    case round =>
      obtain ⟨k, rfl, rfl, hk, hb⟩ := hrel
      have hbx := (hb.block _ HX.out.2).trans HX.out.1
      obtain ⟨⟨b0, b1, b2, b3, b4, b5⟩, -, hxl⟩ := c_six hbx
      clear hxl hbx
      obtain ⟨ac, hac⟩ : ∃ ac : Nat, ac = 1 + cntL (t.ks.take k) := ⟨_, rfl⟩
      rw [← hac]
      have HAC := Lib.hid hac
      have HBB := Lib.hid hb
      by_cases hlt : k < t.ks.length
      · have g1 : decide ((k : Int) < (t.ks.length : Int)) = true := decide_eq_true (by omega)
        have g2 : (k : Int) < (t.ks.length : Int) := by omega
        obtain ⟨x, hx⟩ : ∃ x, t.ks[k]? = some x := ⟨_, List.getElem?_eq_getElem hlt⟩
        obtain ⟨bb, oo, xo, xl, xc, rfl, hbb, -, hcc, hxt⟩ := kidS HT.out hx
        obtain rfl := tin_len hxt
        obtain ⟨c0, c1, c2, c3, c4, c5⟩ := ncells_kept (hb.block bb hbb) hcc
        have hbw : bb < wr.heap.size := by have := hb.size; omega
        have hst : 1 + cntL (t.ks.take (k + 1)) = 1 + cntL (t.ks.take k) + x.cnt := cnt_step hx
        have hvb : x.cnt ≤ 100000 ∧ ac ≤ 100001 := by
          have h1 := cntL_at hx
          have h2 := HLE.out.2
          have h3 := cntL_pre t.ks k
          have h4 := (depL_le t.ks).2 x (List.mem_of_getElem? hx)
          have h5 := (depL_le (t.ks.take k)).1
          have h6 := HAC.out
          omega
        have HST := Lib.hid (And.intro hst hvb)
        obtain ⟨vx, hvx⟩ : ∃ vx : Nat, vx = x.cnt := ⟨_, rfl⟩
        have HC := Lib.hid (fun (W : World) (hW : Below W1.heap.size W1 W) => HIH.out x xo xc W (List.mem_of_getElem? hx) (tin_kept hxt hW))
        rw [← hvx] at HC hvb
        have HVX := Lib.hid hvx
        clear hx hcc hxt hst hac hb hvx
        obtain ⟨W2, hW2⟩ : ∃ W2, W2 = wr.alloc (.cells #[.int .i64 x.op, .int .i64 x.a, .int .i64 x.n, .int .i64 x.m, .string x.s, .slice xo x.ks.length xc] 24) := ⟨_, rfl⟩
        have hb2 : Below wr.heap.size wr W2 := by rw [hW2]; exact c_box wr _
        have hx2 : W2.heap[wr.heap.size]? = some (.cells #[.int .i64 x.op, .int .i64 x.a, .int .i64 x.n, .int .i64 x.m, .string x.s, .slice xo x.ks.length xc] 24 (0, 0)) := by rw [hW2]; exact heap_alloc_new wr _
        obtain ⟨⟨d0, d1, d2, d3, d4, d5⟩, -, hxl⟩ := c_six hx2
        have HB2' := Lib.hid (c_thr HBB.out hb2 HBB.out.size)
        have HW2 := Lib.hid hW2
        clear hxl hb2 hx2 hW2
        go_upto_region 5 with fail
        rw [← HW2.out]
        go_wp2_with fail
        refine (HC.out _ HB2'.out).mono ?_
        rintro e w5 ⟨rfl, hb5⟩
        have HB2 := Lib.hid (c_thr HB2'.out hb5 HB2'.out.size)
        clear hb5
        go_wp2
        go_roundw
        case rel => exact ⟨k + 1, by rw [HST.out.1, ← HVX.out, ← HAC.out]; go_num, by go_num, by omega, HB2.out⟩
        case measure => simp [natOf]; omega
      · have g1 : decide ((k : Int) < (t.ks.length : Int)) = false := decide_eq_false (by omega)
        obtain rfl : k = t.ks.length := by omega
        have hf : ac = t.cnt := by rw [HAC.out, List.take_length, cnt_ks]
        have hfb : ac ≤ 100001 := by
          have h1 := HLE.out.2
          have h2 := HAC.out
          have h5 := (depL_le t.ks).1
          rw [List.take_length] at h2
          omega
        have HF := Lib.hid hf
        clear hf hac hb
        go_wp2
        go_ret
        exact ⟨by rw [HF.out]; rfl, c_thr HB.out HBB.out HB.out.size⟩
set_option linter.unusedVariables false in
set_option maxRecDepth 100000 in
set_option maxHeartbeats 1000000 in
theorem rsize_any : ∀ (N : Nat), N ≤ 100000 → ∀ (t : Tr) (ao : Option Addr) (cap : Nat) (w : World), t.cnt ≤ N → TIn w All t (.slice ao t.ks.length cap) → Calls Tryd.prog 11 #[.agg #[.int .i64 t.op, .int .i64 t.a, .int .i64 t.n, .int .i64 t.m, .string t.s, .slice ao t.ks.length cap]] w (IPost w (t.cnt : Nat)) := by
  intro N
  induction N with
  | zero => intro _ t _ _ _ h; have := cnt_pos t; omega
  | succ N ih =>
    intro hN t ao cap w hc ht
    have hle : ∀ x ∈ t.ks, x.cnt ≤ N := fun x hx => by
      obtain ⟨i, hi⟩ := List.getElem?_of_mem hx
      have := cnt_kid hi
      omega
    have hcl : cntL t.ks ≤ 100000 := by have := cnt_ks t; omega
    have hlen : t.ks.length ≤ 100000 := by have := cntL_len t.ks; omega
    obtain ⟨W1, hW1⟩ : ∃ W1, W1 = w.alloc (.cells #[.int .i64 t.op, .int .i64 t.a, .int .i64 t.n, .int .i64 t.m, .string t.s, .slice ao t.ks.length cap] 24) := ⟨_, rfl⟩
    have hB1 : Below w.heap.size w W1 := by rw [hW1]; exact c_box w _
    have hx1 : W1.heap[w.heap.size]? = some (.cells #[.int .i64 t.op, .int .i64 t.a, .int .i64 t.n, .int .i64 t.m, .string t.s, .slice ao t.ks.length cap] 24 (0, 0)) := by rw [hW1]; exact heap_alloc_new w _
    have HT := Lib.hid (tin_kept ht hB1)
    have HX := Lib.hid (And.intro hx1 (c_lt hx1))
    have HB := Lib.hid hB1
    have HW := Lib.hid hW1
    have HLE := Lib.hid (And.intro hle hcl)
    have HIH : Hid (∀ (x : Tr) (xo : Option Addr) (xc : Nat) (W : World), x ∈ t.ks → TIn W All x (.slice xo x.ks.length xc) → Calls Tryd.prog 11 #[.agg #[.int .i64 x.op, .int .i64 x.a, .int .i64 x.n, .int .i64 x.m, .string x.s, .slice xo x.ks.length xc]] W (IPost W (x.cnt : Nat))) := Lib.hid (fun x xo xc W hx hxt => ih (by omega) x xo xc W (hle x hx) hxt)
    obtain ⟨⟨b0, b1, b2, b3, b4, b5⟩, -, hxl⟩ := c_six hx1
    clear ih hle hcl hW1 hB1 hx1 ht hc
    go_enter Tryd.func11, Tryd.ntmps11
    go_upto_region 1 with fail
    rw [← HW.out]
    clear hxl
    go_wp2
    go_loopw [3, 4] (fun a i wr => ∃ k : Nat, a = .int .i64 ((1 + cntL (t.ks.take k) : Nat) : Int) ∧ i = .int .i64 k ∧ k ≤ t.ks.length ∧ Below W1.heap.size W1 wr) (fun _ i _ => t.ks.length - natOf i)
    case atStart => exact ⟨0, by simp [cntL], rfl, Nat.zero_le _, Below.refl _ _⟩
    case round =>
      obtain ⟨k, rfl, rfl, hk, hb⟩ := hrel
      have hbx := (hb.block _ HX.out.2).trans HX.out.1
      obtain ⟨⟨b0, b1, b2, b3, b4, b5⟩, -, hxl⟩ := c_six hbx
      clear hxl hbx
      obtain ⟨ac, hac⟩ : ∃ ac : Nat, ac = 1 + cntL (t.ks.take k) := ⟨_, rfl⟩
      rw [← hac]
      have HAC := Lib.hid hac
      have HBB := Lib.hid hb
      by_cases hlt : k < t.ks.length
      · have g1 : decide ((k : Int) < (t.ks.length : Int)) = true := decide_eq_true (by omega)
        have g2 : (k : Int) < (t.ks.length : Int) := by omega
        obtain ⟨x, hx⟩ : ∃ x, t.ks[k]? = some x := ⟨_, List.getElem?_eq_getElem hlt⟩
        obtain ⟨bb, oo, xo, xl, xc, rfl, hbb, -, hcc, hxt⟩ := kidS HT.out hx
        obtain rfl := tin_len hxt
        obtain ⟨c0, c1, c2, c3, c4, c5⟩ := ncells_kept (hb.block bb hbb) hcc
        have hbw : bb < wr.heap.size := by have := hb.size; omega
        have hst : 1 + cntL (t.ks.take (k + 1)) = 1 + cntL (t.ks.take k) + x.cnt := cnt_step hx
        have hvb : x.cnt ≤ 100000 ∧ ac ≤ 100001 := by
          have h1 := cntL_at hx
          have h2 := HLE.out.2
          have h3 := cntL_pre t.ks k
          have h4 := (depL_le t.ks).2 x (List.mem_of_getElem? hx)
          have h5 := (depL_le (t.ks.take k)).1
          have h6 := HAC.out
          omega
        have HST := Lib.hid (And.intro hst hvb)
        obtain ⟨vx, hvx⟩ : ∃ vx : Nat, vx = x.cnt := ⟨_, rfl⟩
        have HC := Lib.hid (fun (W : World) (hW : Below W1.heap.size W1 W) => HIH.out x xo xc W (List.mem_of_getElem? hx) (tin_kept hxt hW))
        rw [← hvx] at HC hvb
        have HVX := Lib.hid hvx
        clear hx hcc hxt hst hac hb hvx
        go_wp2_with fail
        refine (HC.out _ HBB.out).mono ?_
        rintro e w5 ⟨rfl, hb5⟩
        have HB2 := Lib.hid (c_thr HBB.out hb5 HBB.out.size)
        clear hb5
        go_wp2
        go_roundw
        case rel => exact ⟨k + 1, by rw [HST.out.1, ← HVX.out, ← HAC.out]; go_num, by go_num, by omega, HB2.out⟩
        case measure => simp [natOf]; omega
      · have g1 : decide ((k : Int) < (t.ks.length : Int)) = false := decide_eq_false (by omega)
        obtain rfl : k = t.ks.length := by omega
        have hf : ac = t.cnt := by rw [HAC.out, List.take_length, cnt_ks]
        have hfb : ac ≤ 100001 := by
          have h1 := HLE.out.2
          have h2 := HAC.out
          have h5 := (depL_le t.ks).1
          rw [List.take_length] at h2
          omega
        have HF := Lib.hid hf
        clear hf hac hb
        go_wp2
        go_ret
        exact ⟨by rw [HF.out]; rfl, c_thr HB.out HBB.out HB.out.size⟩
end Go.Proofs.YtppliplalfpmaaaDoor
