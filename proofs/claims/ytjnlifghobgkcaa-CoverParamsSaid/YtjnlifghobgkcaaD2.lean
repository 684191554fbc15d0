/-
  Names of the reference at this translation: the straight parts.
-/
import Derived.Test.YtjnlifghobgkcaaC17
import Derived.Maps.AppendAt
import Derived.Deep.AppendLies
namespace Go.Proofs.Ytjnlifghobgkcaa
open Go.RowKit

/-- the names come back in a row of the call's own -/
def OwnPost (w : World) (l : List ByteArray) : Ending → World → Prop := fun e w' => ∃ ro rc, e = .returned (.slice ro l.length rc) ∧ w'.ownsRow w.heap.size 9 1 (.slice ro l.length rc) l.length (l.map Value.string) ∧ Below w.heap.size w w'
theorem own_mono {w : World} {B B' : Nat} {e : TypeId} {z n : Nat} {v : Value} {xs : List Value} (h : w.ownsRow B e z v n xs) (hB : B' ≤ B) : w.ownsRow B' e z v n xs := by
  refine ⟨h.1, ?_⟩
  rcases h.2 with h2 | ⟨g, cap, cur, e, h3, h4⟩
  · exact .inl h2
  · exact .inr ⟨g, cap, cur, e, Nat.le_trans hB h3, h4⟩
theorem own_kept {w w' : World} {B : Nat} {e : TypeId} {z n : Nat} {v : Value} {xs : List Value} (h : w.ownsRow B e z v n xs) (hb : Below w.heap.size w w') : w'.ownsRow B e z v n xs :=
  World.ownsRow.kept h (row := none) ⟨hb.os, hb.tape, hb.output, hb.size, fun k hk _ => hb.block k hk⟩ (by cases hv : v.ownBlock <;> simp)
theorem own_one (w : World) (s : ByteArray) : (w.alloc (.cells #[.string s] 9)).ownsRow w.heap.size 9 1 (.slice (some ⟨w.heap.size, 0, none⟩) 1 1) 1 [.string s] :=
  ⟨rfl, .inr ⟨w.heap.size, 1, _, rfl, Nat.le_refl _, heap_alloc_new w _, by omega, by unfold maxLen; omega, rfl, rfl⟩⟩
theorem own_val {w : World} {B : Nat} {L : List ByteArray} {v : Value} {n : Nat} {xs : List Value} (hn : n = L.length) (hx : xs = L.map Value.string) (h : w.ownsRow B 9 1 v n xs) : ∃ ro rc, v = .slice ro L.length rc ∧ w.ownsRow B 9 1 (.slice ro L.length rc) L.length (L.map Value.string) := by
  subst hn
  subst hx
  have h2 := h.2
  rcases h2 with ⟨e, h0⟩ | ⟨g, c, _, e, _⟩
  · subst e
    rw [h0] at h ⊢
    exact ⟨none, 0, rfl, h⟩
  · subst e
    exact ⟨_, c, rfl, h⟩
structure RelN (w : World) (tl : List Tr) (N : Nat) (v i : Value) (wr : World) : Prop where
  ex : ∃ (k : Nat) (ro : Option Addr) (L : List ByteArray) (rc : Nat), i = .int .i64 k ∧ k ≤ tl.length ∧ L = (tl.take k).flatMap (namesG N) ∧ v = .slice ro L.length rc ∧ wr.ownsRow w.heap.size 9 1 (.slice ro L.length rc) L.length (L.map Value.string)
  bel : Below w.heap.size w wr
theorem takes_len {N k : Nat} {tl : List Tr} {y : Tr} (hy : tl[k]? = some y) : ((tl.take k).flatMap (namesG N)).length + (namesG N y).length ≤ cntL tl := by
  have h1 := names_lens N (tl.take k)
  have h3 := names_len N y
  have e1 := cntL_app (tl.take k) (tl.drop k)
  rw [List.take_append_drop, drop_cons hy] at e1
  simp only [cntL] at e1
  omega
theorem takes_succ {N k : Nat} {tl : List Tr} {y : Tr} (hy : tl[k]? = some y) : (tl.take (k + 1)).flatMap (namesG N) = (tl.take k).flatMap (namesG N) ++ namesG N y := by
  rw [List.take_add_one, hy]
  simp
set_option linter.unusedVariables false in
set_option maxRecDepth 100000 in
set_option maxHeartbeats 1000000 in
theorem rn_name (N : Nat) (t : Tr) (ao : Option Addr) (cap : Nat) (w : World) (hks : t.ks.length ≤ 100000) (hc : t.cnt ≤ N + 1) (hN : N + 1 ≤ 100000) (ht : TIn w All t (.slice ao t.ks.length cap)) (g34 : (t.op == 34) = true) : Calls Try.prog 22 #[.agg #[.int .i64 t.op, .int .i64 t.a, .int .i64 t.n, .int .i64 t.m, .string t.s, .slice ao t.ks.length cap]] w (OwnPost w [t.s]) := by
  obtain ⟨W1, hW1⟩ : ∃ W1, W1 = w.alloc (.cells #[.int .i64 t.op, .int .i64 t.a, .int .i64 t.n, .int .i64 t.m, .string t.s, .slice ao t.ks.length cap] 27) := ⟨_, rfl⟩
  have hB1 : Below w.heap.size w W1 := by rw [hW1]; exact c_box w _
  have hbox : W1.heap[w.heap.size]? = some (.cells #[.int .i64 t.op, .int .i64 t.a, .int .i64 t.n, .int .i64 t.m, .string t.s, .slice ao t.ks.length cap] 27 (0, 0)) := by rw [hW1]; exact heap_alloc_new w _
  have HW := Lib.hid hW1
  have HB := Lib.hid hB1
  obtain ⟨⟨b0, b1, b2, b3, b4, b5⟩, -, hxl⟩ := c_six hbox
  clear ht hW1 hB1 hbox
  go_enter Try.func22, Try.ntmps22
  go_upto_region 1 with fail
  rw [← HW.out]
  go_wp2
  go_ret
  exact ⟨some ⟨W1.heap.size, 0, none⟩, 1, rfl, own_mono (own_one W1 t.s) HB.out.size, c_thr HB.out (c_box W1 _) HB.out.size⟩
set_option linter.unusedVariables false in
set_option maxRecDepth 100000 in
set_option maxHeartbeats 1000000 in
theorem rn_d (N : Nat) (t : Tr) (ao : Option Addr) (cap : Nat) (w : World) (hks : t.ks.length ≤ 100000) (hc : t.cnt ≤ N + 1) (hN : N + 1 ≤ 100000) (ht : TIn w All t (.slice ao t.ks.length cap)) (g34 : (t.op == 34) = false) (g5 : (t.op == 5) = false) (g60 : (t.op == 60) = false) (g61 : (t.op == 61) = false) (g63 : (t.op == 63) = true) (x : Tr) (hx : t.ks[0]? = some x) (HI : Hid (∀ (x : Tr) (ao : Option Addr) (cap : Nat) (W : World), x.cnt ≤ N → TIn W All x (.slice ao x.ks.length cap) → Calls Try.prog 22 #[.agg #[.int .i64 x.op, .int .i64 x.a, .int .i64 x.n, .int .i64 x.m, .string x.s, .slice ao x.ks.length cap]] W (OwnPost W (namesG N x)))) : Calls Try.prog 22 #[.agg #[.int .i64 t.op, .int .i64 t.a, .int .i64 t.n, .int .i64 t.m, .string t.s, .slice ao t.ks.length cap]] w (OwnPost w (namesG N x)) := by
  obtain ⟨bb, oo, xo, xl, xc, rfl, hbb, -, hcc, hyt⟩ := kidS ht hx
  obtain rfl := tin_len hyt
  have hl1 := (List.getElem?_eq_some_iff.1 hx).1
  have g1 : decide ((0 : Int) < (t.ks.length : Int)) = true := decide_eq_true (by omega)
  have hxc : x.cnt ≤ N := by have := cnt_kid hx; omega
  obtain ⟨W1, hW1⟩ : ∃ W1, W1 = w.alloc (.cells #[.int .i64 t.op, .int .i64 t.a, .int .i64 t.n, .int .i64 t.m, .string t.s, .slice (some ⟨bb, oo, none⟩) t.ks.length cap] 27) := ⟨_, rfl⟩
  have hB1 : Below w.heap.size w W1 := by rw [hW1]; exact c_box w _
  have hbox : W1.heap[w.heap.size]? = some (.cells #[.int .i64 t.op, .int .i64 t.a, .int .i64 t.n, .int .i64 t.m, .string t.s, .slice (some ⟨bb, oo, none⟩) t.ks.length cap] 27 (0, 0)) := by rw [hW1]; exact heap_alloc_new w _
  have hz1 : W1.heap.size = w.heap.size + 1 := by rw [hW1]; simp
  have hbb1 : bb < W1.heap.size := by omega
  have HW := Lib.hid hW1
  have HB := Lib.hid hB1
  obtain ⟨⟨b0, b1, b2, b3, b4, b5⟩, -, hxl⟩ := c_six hbox
  obtain ⟨c0, c1, c2, c3, c4, c5⟩ := ncells_kept (hB1.block bb hbb) hcc
  try simp only [Nat.zero_mul, Nat.add_zero] at c0 c1 c2 c3 c4 c5
  have HX := Lib.hid (fun (W : World) (hW : Below W1.heap.size W1 W) => HI.out x xo xc W hxc (tin_kept (tin_kept hyt hB1) hW))
  have hl2 : (0 : Int) < (t.ks.length : Int) := by omega
  clear ht hW1 hB1 hbox hyt hcc hx HI
  go_enter Try.func22, Try.ntmps22
  go_upto_region 1 with fail
  rw [← HW.out]
  go_wp2_with fail
  refine (HX.out _ (by first | exact Below.refl _ _ | exact c_box _ _ | exact c_draws _ _)).mono ?_
  rintro e w4 ⟨ro, rc, rfl, hown, hB4⟩
  have HR := Lib.hid (And.intro hown hB4)
  clear hown hB4
  go_wp2
  go_ret
  have hz4 : w.heap.size ≤ W1.heap.size := HB.out.size
  first
    | exact ⟨ro, rc, rfl, own_mono HR.out.1 hz4, c_thr HB.out HR.out.2 hz4⟩
    | exact ⟨ro, rc, rfl, own_mono HR.out.1 (by simp; omega), c_thr HB.out (c_thr (c_box _ _) HR.out.2 (by simp)) hz4⟩
set_option linter.unusedVariables false in
set_option maxRecDepth 100000 in
set_option maxHeartbeats 1000000 in
theorem rn_e (N : Nat) (t : Tr) (ao : Option Addr) (cap : Nat) (w : World) (hks : t.ks.length ≤ 100000) (hc : t.cnt ≤ N + 1) (hN : N + 1 ≤ 100000) (ht : TIn w All t (.slice ao t.ks.length cap)) (g34 : (t.op == 34) = false) (g5 : (t.op == 5) = false) (g60 : (t.op == 60) = false) (g61 : (t.op == 61) = false) (g63 : (t.op == 63) = false) (g64 : (t.op == 64) = true) (x : Tr) (hx : t.ks[0]? = some x) (HI : Hid (∀ (x : Tr) (ao : Option Addr) (cap : Nat) (W : World), x.cnt ≤ N → TIn W All x (.slice ao x.ks.length cap) → Calls Try.prog 22 #[.agg #[.int .i64 x.op, .int .i64 x.a, .int .i64 x.n, .int .i64 x.m, .string x.s, .slice ao x.ks.length cap]] W (OwnPost W (namesG N x)))) : Calls Try.prog 22 #[.agg #[.int .i64 t.op, .int .i64 t.a, .int .i64 t.n, .int .i64 t.m, .string t.s, .slice ao t.ks.length cap]] w (OwnPost w (namesG N x)) := by
  obtain ⟨bb, oo, xo, xl, xc, rfl, hbb, -, hcc, hyt⟩ := kidS ht hx
  obtain rfl := tin_len hyt
  have hl1 := (List.getElem?_eq_some_iff.1 hx).1
  have g1 : decide ((0 : Int) < (t.ks.length : Int)) = true := decide_eq_true (by omega)
  have hxc : x.cnt ≤ N := by have := cnt_kid hx; omega
  obtain ⟨W1, hW1⟩ : ∃ W1, W1 = w.alloc (.cells #[.int .i64 t.op, .int .i64 t.a, .int .i64 t.n, .int .i64 t.m, .string t.s, .slice (some ⟨bb, oo, none⟩) t.ks.length cap] 27) := ⟨_, rfl⟩
  have hB1 : Below w.heap.size w W1 := by rw [hW1]; exact c_box w _
  have hbox : W1.heap[w.heap.size]? = some (.cells #[.int .i64 t.op, .int .i64 t.a, .int .i64 t.n, .int .i64 t.m, .string t.s, .slice (some ⟨bb, oo, none⟩) t.ks.length cap] 27 (0, 0)) := by rw [hW1]; exact heap_alloc_new w _
  have hz1 : W1.heap.size = w.heap.size + 1 := by rw [hW1]; simp
  have hbb1 : bb < W1.heap.size := by omega
  have HW := Lib.hid hW1
  have HB := Lib.hid hB1
  obtain ⟨⟨b0, b1, b2, b3, b4, b5⟩, -, hxl⟩ := c_six hbox
  obtain ⟨c0, c1, c2, c3, c4, c5⟩ := ncells_kept (hB1.block bb hbb) hcc
  try simp only [Nat.zero_mul, Nat.add_zero] at c0 c1 c2 c3 c4 c5
  have HX := Lib.hid (fun (W : World) (hW : Below W1.heap.size W1 W) => HI.out x xo xc W hxc (tin_kept (tin_kept hyt hB1) hW))
  have hl2 : (0 : Int) < (t.ks.length : Int) := by omega
  clear ht hW1 hB1 hbox hyt hcc hx HI
  go_enter Try.func22, Try.ntmps22
  go_upto_region 1 with fail
  rw [← HW.out]
  go_wp2_with fail
  refine (HX.out _ (by first | exact Below.refl _ _ | exact c_box _ _ | exact c_draws _ _)).mono ?_
  rintro e w4 ⟨ro, rc, rfl, hown, hB4⟩
  have HR := Lib.hid (And.intro hown hB4)
  clear hown hB4
  go_wp2
  go_ret
  have hz4 : w.heap.size ≤ W1.heap.size := HB.out.size
  first
    | exact ⟨ro, rc, rfl, own_mono HR.out.1 hz4, c_thr HB.out HR.out.2 hz4⟩
    | exact ⟨ro, rc, rfl, own_mono HR.out.1 (by simp; omega), c_thr HB.out (c_thr (c_box _ _) HR.out.2 (by simp)) hz4⟩
set_option linter.unusedVariables false in
set_option maxRecDepth 100000 in
set_option maxHeartbeats 1000000 in
theorem rn_f (N : Nat) (t : Tr) (ao : Option Addr) (cap : Nat) (w : World) (hks : t.ks.length ≤ 100000) (hc : t.cnt ≤ N + 1) (hN : N + 1 ≤ 100000) (ht : TIn w All t (.slice ao t.ks.length cap)) (g34 : (t.op == 34) = false) (g5 : (t.op == 5) = false) (g60 : (t.op == 60) = false) (g61 : (t.op == 61) = false) (g63 : (t.op == 63) = false) (g64 : (t.op == 64) = false) (g62 : (t.op == 62) = true) (x : Tr) (hx : t.ks[1]? = some x) (HI : Hid (∀ (x : Tr) (ao : Option Addr) (cap : Nat) (W : World), x.cnt ≤ N → TIn W All x (.slice ao x.ks.length cap) → Calls Try.prog 22 #[.agg #[.int .i64 x.op, .int .i64 x.a, .int .i64 x.n, .int .i64 x.m, .string x.s, .slice ao x.ks.length cap]] W (OwnPost W (namesG N x)))) : Calls Try.prog 22 #[.agg #[.int .i64 t.op, .int .i64 t.a, .int .i64 t.n, .int .i64 t.m, .string t.s, .slice ao t.ks.length cap]] w (OwnPost w (namesG N x)) := by
  obtain ⟨bb, oo, xo, xl, xc, rfl, hbb, -, hcc, hyt⟩ := kidS ht hx
  obtain rfl := tin_len hyt
  have hl1 := (List.getElem?_eq_some_iff.1 hx).1
  have g1 : decide ((1 : Int) < (t.ks.length : Int)) = true := decide_eq_true (by omega)
  have hxc : x.cnt ≤ N := by have := cnt_kid hx; omega
  obtain ⟨W1, hW1⟩ : ∃ W1, W1 = w.alloc (.cells #[.int .i64 t.op, .int .i64 t.a, .int .i64 t.n, .int .i64 t.m, .string t.s, .slice (some ⟨bb, oo, none⟩) t.ks.length cap] 27) := ⟨_, rfl⟩
  have hB1 : Below w.heap.size w W1 := by rw [hW1]; exact c_box w _
  have hbox : W1.heap[w.heap.size]? = some (.cells #[.int .i64 t.op, .int .i64 t.a, .int .i64 t.n, .int .i64 t.m, .string t.s, .slice (some ⟨bb, oo, none⟩) t.ks.length cap] 27 (0, 0)) := by rw [hW1]; exact heap_alloc_new w _
  have hz1 : W1.heap.size = w.heap.size + 1 := by rw [hW1]; simp
  have hbb1 : bb < W1.heap.size := by omega
  have HW := Lib.hid hW1
  have HB := Lib.hid hB1
  obtain ⟨⟨b0, b1, b2, b3, b4, b5⟩, -, hxl⟩ := c_six hbox
  obtain ⟨c0, c1, c2, c3, c4, c5⟩ := ncells_kept (hB1.block bb hbb) hcc
  try simp only [Nat.zero_mul, Nat.add_zero] at c0 c1 c2 c3 c4 c5
  have HX := Lib.hid (fun (W : World) (hW : Below W1.heap.size W1 W) => HI.out x xo xc W hxc (tin_kept (tin_kept hyt hB1) hW))
  have hl2 : (1 : Int) < (t.ks.length : Int) := by omega
  clear ht hW1 hB1 hbox hyt hcc hx HI
  go_enter Try.func22, Try.ntmps22
  go_upto_region 1 with fail
  rw [← HW.out]
  go_wp2_with fail
  refine (HX.out _ (by first | exact Below.refl _ _ | exact c_box _ _ | exact c_draws _ _)).mono ?_
  rintro e w4 ⟨ro, rc, rfl, hown, hB4⟩
  have HR := Lib.hid (And.intro hown hB4)
  clear hown hB4
  go_wp2
  go_ret
  have hz4 : w.heap.size ≤ W1.heap.size := HB.out.size
  first
    | exact ⟨ro, rc, rfl, own_mono HR.out.1 hz4, c_thr HB.out HR.out.2 hz4⟩
    | exact ⟨ro, rc, rfl, own_mono HR.out.1 (by simp; omega), c_thr HB.out (c_thr (c_box _ _) HR.out.2 (by simp)) hz4⟩
set_option linter.unusedVariables false in
set_option maxRecDepth 100000 in
set_option maxHeartbeats 1000000 in
theorem rn_g (N : Nat) (t : Tr) (ao : Option Addr) (cap : Nat) (w : World) (hks : t.ks.length ≤ 100000) (hc : t.cnt ≤ N + 1) (hN : N + 1 ≤ 100000) (ht : TIn w All t (.slice ao t.ks.length cap)) (g34 : (t.op == 34) = false) (g5 : (t.op == 5) = false) (g60 : (t.op == 60) = false) (g61 : (t.op == 61) = false) (g63 : (t.op == 63) = true) (hl : t.ks.length = 0) : Calls Try.prog 22 #[.agg #[.int .i64 t.op, .int .i64 t.a, .int .i64 t.n, .int .i64 t.m, .string t.s, .slice ao t.ks.length cap]] w (OwnPost w []) := by
  obtain ⟨W1, hW1⟩ : ∃ W1, W1 = w.alloc (.cells #[.int .i64 t.op, .int .i64 t.a, .int .i64 t.n, .int .i64 t.m, .string t.s, .slice ao t.ks.length cap] 27) := ⟨_, rfl⟩
  have hB1 : Below w.heap.size w W1 := by rw [hW1]; exact c_box w _
  have hbox : W1.heap[w.heap.size]? = some (.cells #[.int .i64 t.op, .int .i64 t.a, .int .i64 t.n, .int .i64 t.m, .string t.s, .slice ao t.ks.length cap] 27 (0, 0)) := by rw [hW1]; exact heap_alloc_new w _
  have gl : decide ((0 : Int) < (t.ks.length : Int)) = false := decide_eq_false (by omega)
  have gl2 : decide (0 < t.ks.length) = false := decide_eq_false (by omega)
  have g62 : (t.op == 62) = false := by simp only [beq_iff_eq] at *; simp only [beq_eq_false_iff_ne]; omega
  have HW := Lib.hid hW1
  have HB := Lib.hid hB1
  obtain ⟨⟨b0, b1, b2, b3, b4, b5⟩, -, hxl⟩ := c_six hbox
  clear ht hW1 hB1 hbox
  try clear hl
  go_enter Try.func22, Try.ntmps22
  go_upto_region 1 with fail
  rw [← HW.out]
  go_wp2
  go_ret
  exact ⟨none, 0, rfl, World.ownsRow_nil _ _ _ _, by first | exact HB.out | exact c_thr HB.out (c_box W1 _) HB.out.size⟩
set_option linter.unusedVariables false in
set_option maxRecDepth 100000 in
set_option maxHeartbeats 1000000 in
theorem rn_h (N : Nat) (t : Tr) (ao : Option Addr) (cap : Nat) (w : World) (hks : t.ks.length ≤ 100000) (hc : t.cnt ≤ N + 1) (hN : N + 1 ≤ 100000) (ht : TIn w All t (.slice ao t.ks.length cap)) (g34 : (t.op == 34) = false) (g5 : (t.op == 5) = false) (g60 : (t.op == 60) = false) (g61 : (t.op == 61) = false) (g63 : (t.op == 63) = false) (g64 : (t.op == 64) = true) (hl : t.ks.length = 0) : Calls Try.prog 22 #[.agg #[.int .i64 t.op, .int .i64 t.a, .int .i64 t.n, .int .i64 t.m, .string t.s, .slice ao t.ks.length cap]] w (OwnPost w []) := by
  obtain ⟨W1, hW1⟩ : ∃ W1, W1 = w.alloc (.cells #[.int .i64 t.op, .int .i64 t.a, .int .i64 t.n, .int .i64 t.m, .string t.s, .slice ao t.ks.length cap] 27) := ⟨_, rfl⟩
  have hB1 : Below w.heap.size w W1 := by rw [hW1]; exact c_box w _
  have hbox : W1.heap[w.heap.size]? = some (.cells #[.int .i64 t.op, .int .i64 t.a, .int .i64 t.n, .int .i64 t.m, .string t.s, .slice ao t.ks.length cap] 27 (0, 0)) := by rw [hW1]; exact heap_alloc_new w _
  have gl : decide ((0 : Int) < (t.ks.length : Int)) = false := decide_eq_false (by omega)
  have gl2 : decide (0 < t.ks.length) = false := decide_eq_false (by omega)
  have g62 : (t.op == 62) = false := by simp only [beq_iff_eq] at *; simp only [beq_eq_false_iff_ne]; omega
  have HW := Lib.hid hW1
  have HB := Lib.hid hB1
  obtain ⟨⟨b0, b1, b2, b3, b4, b5⟩, -, hxl⟩ := c_six hbox
  clear ht hW1 hB1 hbox
  try clear hl
  go_enter Try.func22, Try.ntmps22
  go_upto_region 1 with fail
  rw [← HW.out]
  go_wp2
  go_ret
  exact ⟨none, 0, rfl, World.ownsRow_nil _ _ _ _, by first | exact HB.out | exact c_thr HB.out (c_box W1 _) HB.out.size⟩
set_option linter.unusedVariables false in
set_option maxRecDepth 100000 in
set_option maxHeartbeats 1000000 in
theorem rn_i (N : Nat) (t : Tr) (ao : Option Addr) (cap : Nat) (w : World) (hks : t.ks.length ≤ 100000) (hc : t.cnt ≤ N + 1) (hN : N + 1 ≤ 100000) (ht : TIn w All t (.slice ao t.ks.length cap)) (g34 : (t.op == 34) = false) (g5 : (t.op == 5) = false) (g60 : (t.op == 60) = false) (g61 : (t.op == 61) = false) (g63 : (t.op == 63) = false) (g64 : (t.op == 64) = false) (g62 : (t.op == 62) = true) (hl : ¬ 1 < t.ks.length) : Calls Try.prog 22 #[.agg #[.int .i64 t.op, .int .i64 t.a, .int .i64 t.n, .int .i64 t.m, .string t.s, .slice ao t.ks.length cap]] w (OwnPost w []) := by
  obtain ⟨W1, hW1⟩ : ∃ W1, W1 = w.alloc (.cells #[.int .i64 t.op, .int .i64 t.a, .int .i64 t.n, .int .i64 t.m, .string t.s, .slice ao t.ks.length cap] 27) := ⟨_, rfl⟩
  have hB1 : Below w.heap.size w W1 := by rw [hW1]; exact c_box w _
  have hbox : W1.heap[w.heap.size]? = some (.cells #[.int .i64 t.op, .int .i64 t.a, .int .i64 t.n, .int .i64 t.m, .string t.s, .slice ao t.ks.length cap] 27 (0, 0)) := by rw [hW1]; exact heap_alloc_new w _
  have gl : decide ((1 : Int) < (t.ks.length : Int)) = false := decide_eq_false (by omega)
  have HW := Lib.hid hW1
  have HB := Lib.hid hB1
  obtain ⟨⟨b0, b1, b2, b3, b4, b5⟩, -, hxl⟩ := c_six hbox
  clear ht hW1 hB1 hbox
  try clear hl
  go_enter Try.func22, Try.ntmps22
  go_upto_region 1 with fail
  rw [← HW.out]
  go_wp2
  go_ret
  exact ⟨none, 0, rfl, World.ownsRow_nil _ _ _ _, by first | exact HB.out | exact c_thr HB.out (c_box W1 _) HB.out.size⟩
set_option linter.unusedVariables false in
set_option maxRecDepth 100000 in
set_option maxHeartbeats 1000000 in
theorem rn_j (N : Nat) (t : Tr) (ao : Option Addr) (cap : Nat) (w : World) (hks : t.ks.length ≤ 100000) (hc : t.cnt ≤ N + 1) (hN : N + 1 ≤ 100000) (ht : TIn w All t (.slice ao t.ks.length cap)) (g34 : (t.op == 34) = false) (g5 : (t.op == 5) = false) (g60 : (t.op == 60) = false) (g61 : (t.op == 61) = false) (g63 : (t.op == 63) = false) (g64 : (t.op == 64) = false) (g62 : (t.op == 62) = false) : Calls Try.prog 22 #[.agg #[.int .i64 t.op, .int .i64 t.a, .int .i64 t.n, .int .i64 t.m, .string t.s, .slice ao t.ks.length cap]] w (OwnPost w []) := by
  obtain ⟨W1, hW1⟩ : ∃ W1, W1 = w.alloc (.cells #[.int .i64 t.op, .int .i64 t.a, .int .i64 t.n, .int .i64 t.m, .string t.s, .slice ao t.ks.length cap] 27) := ⟨_, rfl⟩
  have hB1 : Below w.heap.size w W1 := by rw [hW1]; exact c_box w _
  have hbox : W1.heap[w.heap.size]? = some (.cells #[.int .i64 t.op, .int .i64 t.a, .int .i64 t.n, .int .i64 t.m, .string t.s, .slice ao t.ks.length cap] 27 (0, 0)) := by rw [hW1]; exact heap_alloc_new w _
  have HW := Lib.hid hW1
  have HB := Lib.hid hB1
  obtain ⟨⟨b0, b1, b2, b3, b4, b5⟩, -, hxl⟩ := c_six hbox
  clear ht hW1 hB1 hbox
  try clear hl
  go_enter Try.func22, Try.ntmps22
  go_upto_region 1 with fail
  rw [← HW.out]
  go_wp2
  go_ret
  exact ⟨none, 0, rfl, World.ownsRow_nil _ _ _ _, by first | exact HB.out | exact c_thr HB.out (c_box W1 _) HB.out.size⟩
end Go.Proofs.Ytjnlifghobgkcaa
