/-
  nest of package token at this translation: how the open braces are followed.
-/
import Derived.Test.YthkjdllpgcocpaaGreatDoorTNext
import Derived.Laws.AppendOwn
namespace Go.Proofs.YthkjdllpgcocpaaGreatDoor
open Go.RowKit

def StkAt (w : World) (B : Nat) (u : Value) (st : List Int) : Prop := w.ownsRow B 3 1 u st.length (st.map (Value.int .i64))
theorem stk_top {w : World} {B : Nat} {u : Value} {st : List Int} {x : Int} (h : StkAt w B u (st ++ [x])) :
    ∃ g cap, u = .slice (some ⟨g, 0, none⟩) (st.length + 1) cap ∧ st.length + 1 ≤ cap ∧ cap ≤ maxLen ∧ w.cell? ⟨g, st.length, none⟩ = some (.int .i64 x) ∧ w.frozen? ⟨g, st.length, none⟩ = false ∧ B ≤ g ∧ g < w.heap.size ∧
      StkAt w B (.slice (some ⟨g, 0, none⟩) st.length cap) st ∧ ∀ y, StkAt (w.setCell ⟨g, st.length, none⟩ (.int .i64 y)) B u (st ++ [y]) := by
  obtain ⟨h1, h2⟩ := h
  rcases h2 with ⟨_, h2⟩ | ⟨g, cap, cur, rfl, hb, hg, hn, hm, hs, ht⟩
  · simp at h2
  · have el : (st ++ [x]).length = st.length + 1 := by simp
    rw [el] at hn
    have ht' : cur.toList.take (st.length + 1) = st.map (Value.int .i64) ++ [.int .i64 x] := by
      have := ht
      rw [el, Nat.mul_one] at this
      simpa using this
    have hcs : cur.size = cap := by omega
    have hcur : cur[st.length]? = some (.int .i64 x) := by
      have e : (cur.toList.take (st.length + 1))[st.length]? = some (.int .i64 x) := by rw [ht']; simp
      rw [List.getElem?_take, if_pos (by omega)] at e
      simpa using e
    refine ⟨g, cap, by rw [el], hn, hm, ?_, ?_, hb, t_lt hg, ?_, ?_⟩
    · simp [World.cell?, hg, hcur]
    · simp [World.frozen?, hg]
    · refine ⟨by simp, .inr ⟨g, cap, cur, rfl, hb, hg, by omega, hm, hs, ?_⟩⟩
      rw [Nat.mul_one]
      have := congrArg (List.take st.length) ht'
      rw [List.take_take, Nat.min_eq_left (by omega)] at this
      rw [this, List.take_append_of_le_length (by simp), List.take_of_length_le (by simp)]
    · intro y
      refine ⟨by simp, .inr ⟨g, cap, cur.setIfInBounds st.length (.int .i64 y), by rw [el]; simp, hb, t_one _ _ hg, by simp; omega, hm, by simpa using hs, ?_⟩⟩
      have e1 : (st ++ [y]).length * 1 = st.length + 1 := by simp
      rw [e1, Array.toList_setIfInBounds, List.take_set, ht', List.set_append_right _ _ (by simp)]
      simp
theorem stk_alloc {w : World} {B : Nat} {u : Value} {st : List Int} (h : StkAt w B u st) (o : Obj) : StkAt (w.alloc o) B u st := World.ownsRow.alloc h o
theorem grown_set {w w' : World} {g i : Nat} {r : Option Nat} (h : w.grownBy w' r) (hg : r = some g) (v : Value) : w.grownBy (w'.setCell ⟨g, i, none⟩ v) r := by
  refine ⟨h.os, h.tape, h.output, ?_, ?_⟩
  · have e : (w'.setCell ⟨g, i, none⟩ v).heap.size = w'.heap.size := by simp [World.setCell]
    rw [e]
    exact h.size
  · intro k hk hne
    have e : (w'.setCell ⟨g, i, none⟩ v).heap[k]? = w'.heap[k]? := Below.heap_setCell w' ⟨g, i, none⟩ v k (fun e => hne (by rw [hg, e]))
    rw [e]
    exact h.block k hk hne
theorem int_info : (Tryz.prog.info? 3).map (fun i => (i.zero, i.size, i.bytes)) = some (some (.int .i64 0), 1, 8) := by kernel_rfl
theorem t_newcell (w : World) (x : Value) (T : TypeId) : ∀ j u, ([x] : List Value)[j]? = some u → (w.alloc (.cells #[x] T)).cell? ((⟨w.heap.size, 0, none⟩ : Addr).add j) = some u := by
  intro j u h
  match j, h with
  | 0, h =>
    simp at h
    subst h
    have e := heap_alloc_new w (.cells #[x] T)
    exact (Lib.cell_of_heap e 0).trans rfl
  | j + 1, h => simp at h
theorem t_newcellb (w : World) (x : Value) (T : TypeId) (b : Nat) (hb : b = w.heap.size) : ∀ j u, ([x] : List Value)[j]? = some u → (w.alloc (.cells #[x] T)).cell? ((⟨b, 0, none⟩ : Addr).add j) = some u := by
  subst hb
  exact t_newcell w x T
theorem t_onei (n : Int) : ∀ u ∈ ([.int .i64 n] : List Value), u.oneCell' = true := by
  intro u hu
  simp at hu
  subst hu
  rfl
theorem _root_.Go.World.grownBy_alloc2 (w : World) (o p : Obj) (r : Option Nat) : w.grownBy ((w.alloc o).alloc p) r := by
  refine ⟨rfl, rfl, rfl, by simp; omega, fun k hk _ => ?_⟩
  rw [heap_alloc_old (w.alloc o) p (by simp; omega), heap_alloc_old w o hk]
theorem _root_.Go.World.grownBy.thenBy {w w1 w2 : World} {r : Option Nat} (h : w.grownBy w1 r) (h2 : w1.grownBy w2 r) : w.grownBy w2 r :=
  ⟨h2.os.trans h.os, h2.tape.trans h.tape, h2.output.trans h.output, Nat.le_trans h.size h2.size, fun k hk hne => (h2.block k (Nat.lt_of_lt_of_le hk h.size) hne).trans (h.block k hk hne)⟩
def NestPost (w : World) (B : Nat) (u : Value) (st : List Int) : Ending → World → Prop := fun e w' => ∃ u', e = .returned u' ∧ StkAt w' B u' st ∧ w.grownBy w' u.ownBlock
theorem stk_shape {w : World} {B : Nat} {u : Value} {st : List Int} (h : StkAt w B u st) : ∃ ad cap, u = .slice ad st.length cap ∧ st.length ≤ maxLen := by
  rcases h.2 with ⟨rfl, h2⟩ | ⟨g, cap, cur, rfl, _, _, hn, hm, _, _⟩
  · exact ⟨none, 0, by rw [h2], by omega⟩
  · exact ⟨_, cap, rfl, by omega⟩

set_option linter.unusedVariables false in
set_option maxRecDepth 100000 in
set_option maxHeartbeats 1000000 in
theorem nest_n1 (B : Nat) (u : Value) (st : List Int) (kd a to n : Int) (s : ByteArray) (l o : Bool) (w : World) (hB : B ≤ w.heap.size) (h : StkAt w B u st) (b6 : (kd == 6) = false) (b5 : (kd == 5) = false) :
    Calls Tryz.prog 29 #[u, .agg #[.int .i64 kd, .int .i64 a, .int .i64 to, .int .i64 n, .string s, .bool l, .bool o]] w (NestPost w B u st) := by
  obtain ⟨ad, cap, rfl, hmx⟩ := stk_shape h
  unfold maxLen at hmx
  have HS := Lib.hid (stk_alloc h (.cells #[.int .i64 kd, .int .i64 a, .int .i64 to, .int .i64 n, .string s, .bool l, .bool o] 27))
  clear h hB
  go_enter Tryz.func29, Tryz.ntmps29
  go_wp2
  go_ret
  exact ⟨_, rfl, HS.out, World.grownBy_alloc w _ _⟩

set_option linter.unusedVariables false in
set_option maxRecDepth 100000 in
set_option maxHeartbeats 1000000 in
theorem nest_n2 (B : Nat) (u : Value) (st : List Int) (kd a to n : Int) (s : ByteArray) (l o : Bool) (w : World) (hB : B ≤ w.heap.size) (h : StkAt w B u st) (b6 : (kd == 6) = true) (b5 : (kd == 5) = false) (z0 : (n == 0) = true) (z1 : (n == 1) = false) (ho : o = false) :
    Calls Tryz.prog 29 #[u, .agg #[.int .i64 kd, .int .i64 a, .int .i64 to, .int .i64 n, .string s, .bool l, .bool o]] w (NestPost w B u st) := by
  obtain ⟨ad, cap, rfl, hmx⟩ := stk_shape h
  unfold maxLen at hmx
  have HS := Lib.hid (stk_alloc h (.cells #[.int .i64 kd, .int .i64 a, .int .i64 to, .int .i64 n, .string s, .bool l, .bool o] 27))
  clear h hB
  subst ho
  go_enter Tryz.func29, Tryz.ntmps29
  go_wp2
  go_ret
  exact ⟨_, rfl, HS.out, World.grownBy_alloc w _ _⟩

set_option linter.unusedVariables false in
set_option maxRecDepth 100000 in
set_option maxHeartbeats 1000000 in
theorem nest_n3 (B : Nat) (u : Value) (st : List Int) (kd a to n : Int) (s : ByteArray) (l o : Bool) (w : World) (hB : B ≤ w.heap.size) (h : StkAt w B u st) (b6 : (kd == 6) = true) (b5 : (kd == 5) = false) (z0 : (n == 0) = false) (z1 : (n == 1) = true) (ho : o = true) :
    Calls Tryz.prog 29 #[u, .agg #[.int .i64 kd, .int .i64 a, .int .i64 to, .int .i64 n, .string s, .bool l, .bool o]] w (NestPost w B u st) := by
  obtain ⟨ad, cap, rfl, hmx⟩ := stk_shape h
  unfold maxLen at hmx
  have HS := Lib.hid (stk_alloc h (.cells #[.int .i64 kd, .int .i64 a, .int .i64 to, .int .i64 n, .string s, .bool l, .bool o] 27))
  clear h hB
  subst ho
  go_enter Tryz.func29, Tryz.ntmps29
  go_wp2
  go_ret
  exact ⟨_, rfl, HS.out, World.grownBy_alloc w _ _⟩

set_option linter.unusedVariables false in
set_option maxRecDepth 100000 in
set_option maxHeartbeats 1000000 in
theorem nest_n4 (B : Nat) (u : Value) (st : List Int) (kd a to n : Int) (s : ByteArray) (l o : Bool) (w : World) (hB : B ≤ w.heap.size) (h : StkAt w B u st) (b6 : (kd == 6) = true) (b5 : (kd == 5) = false) (z0 : (n == 0) = false) (z1 : (n == 1) = false) :
    Calls Tryz.prog 29 #[u, .agg #[.int .i64 kd, .int .i64 a, .int .i64 to, .int .i64 n, .string s, .bool l, .bool o]] w (NestPost w B u st) := by
  obtain ⟨ad, cap, rfl, hmx⟩ := stk_shape h
  unfold maxLen at hmx
  have HS := Lib.hid (stk_alloc h (.cells #[.int .i64 kd, .int .i64 a, .int .i64 to, .int .i64 n, .string s, .bool l, .bool o] 27))
  clear h hB
  go_enter Tryz.func29, Tryz.ntmps29
  go_wp2
  go_ret
  exact ⟨_, rfl, HS.out, World.grownBy_alloc w _ _⟩

set_option linter.unusedVariables false in
set_option maxRecDepth 100000 in
set_option maxHeartbeats 1000000 in
theorem nest_n5 (B : Nat) (u : Value) (st : List Int) (kd a to n : Int) (s : ByteArray) (l o : Bool) (w : World) (hB : B ≤ w.heap.size) (h : StkAt w B u st) (b6 : (kd == 6) = false) (b5 : (kd == 5) = true) (y0 : (s.toList == [123]) = false) (y1 : (s.toList == [125]) = false) :
    Calls Tryz.prog 29 #[u, .agg #[.int .i64 kd, .int .i64 a, .int .i64 to, .int .i64 n, .string s, .bool l, .bool o]] w (NestPost w B u st) := by
  obtain ⟨ad, cap, rfl, hmx⟩ := stk_shape h
  unfold maxLen at hmx
  have HS := Lib.hid (stk_alloc h (.cells #[.int .i64 kd, .int .i64 a, .int .i64 to, .int .i64 n, .string s, .bool l, .bool o] 27))
  clear h hB
  go_enter Tryz.func29, Tryz.ntmps29
  go_wp2
  go_ret
  exact ⟨_, rfl, HS.out, World.grownBy_alloc w _ _⟩

set_option linter.unusedVariables false in
set_option maxRecDepth 100000 in
set_option maxHeartbeats 1000000 in
theorem nest_push (B : Nat) (u : Value) (st : List Int) (kd a to n : Int) (s : ByteArray) (l o : Bool) (w : World) (hB : B ≤ w.heap.size) (h : StkAt w B u st) (hst : st.length ≤ 100000000) (b6 : (kd == 6) = true) (z0 : (n == 0) = true) (ho : o = true) :
    Calls Tryz.prog 29 #[u, .agg #[.int .i64 kd, .int .i64 a, .int .i64 to, .int .i64 n, .string s, .bool l, .bool o]] w (NestPost w B u (st ++ [0])) := by
  have HS := Lib.hid (stk_alloc h (.cells #[.int .i64 kd, .int .i64 a, .int .i64 to, .int .i64 n, .string s, .bool l, .bool o] 27))
  obtain ⟨ad, cap, hu, hmx⟩ := stk_shape h
  unfold maxLen at hmx
  obtain ⟨i0, hi, hz0, hz1, hz2⟩ := info_parts int_info
  have HI := Lib.hid hi
  have HZ0 := Lib.hid hz0
  have HZ1 := Lib.hid hz1
  have HZ2 := Lib.hid hz2
  have hT : Tryz.prog.underlying 60 = some (.slice 3) := by kernel_rfl
  have hown : World.ownsRow _ B 3 1 u st.length (st.map (Value.int .i64)) := HS.out
  clear h HS HI HZ0 HZ1 HZ2
  subst hu ho
  go_enter Tryz.func29, Tryz.ntmps29
  go_wp2_with (at_builtin; refine wpList_append_own _ rfl _ _ 60 rfl B 3 i0 (.int .i64 0) 1 8 hT hi hz0 hz1 hz2 rfl (by decide) _ _ _ rfl (hown.alloc _) ⟨_, 0, none⟩ 1 1 [.int .i64 0] rfl rfl ?_ ?_ ?_ ?_ ?_ ?_; exact t_newcellb _ _ _ _ (by simp); exact t_onei _; (unfold maxLen; omega); omega; (simp; omega); intro v' w1 hown' hgrow _)
  go_ret
  refine ⟨v', rfl, ?_, (World.grownBy_alloc2 w _ _ _).thenBy hgrow⟩
  unfold StkAt
  simpa using hown'

set_option linter.unusedVariables false in
set_option maxRecDepth 100000 in
set_option maxHeartbeats 1000000 in
theorem nest_pop (B : Nat) (u : Value) (st : List Int) (kd a to n : Int) (s : ByteArray) (l o : Bool) (w : World) (hB : B ≤ w.heap.size) (x : Int) (h : StkAt w B u (st ++ [x])) (b6 : (kd == 6) = true) (z0 : (n == 0) = false) (z1 : (n == 1) = true) (ho : o = false) :
    Calls Tryz.prog 29 #[u, .agg #[.int .i64 kd, .int .i64 a, .int .i64 to, .int .i64 n, .string s, .bool l, .bool o]] w (NestPost w B u st) := by
  obtain ⟨g, cap, hu, hc1, hc2, hcell, hfr, hBg, hgl, hpop, hset⟩ := stk_top (stk_alloc h (.cells #[.int .i64 kd, .int .i64 a, .int .i64 to, .int .i64 n, .string s, .bool l, .bool o] 27))
  subst hu
  have hne : g ≠ w.heap.size := by
    intro e
    obtain ⟨g', cap', hu', _, _, _, _, _, hgl', _, _⟩ := stk_top h
    simp at hu'
  unfold maxLen at hc2
  have HP := Lib.hid hpop
  have HS := Lib.hid hset
  clear hpop hset h hB
  subst ho
  go_enter Tryz.func29, Tryz.ntmps29
  go_wp2
  go_ret
  exact ⟨_, rfl, HP.out, World.grownBy_alloc w _ _⟩

set_option linter.unusedVariables false in
set_option maxRecDepth 100000 in
set_option maxHeartbeats 1000000 in
theorem nest_inc (B : Nat) (u : Value) (st : List Int) (kd a to n : Int) (s : ByteArray) (l o : Bool) (w : World) (hB : B ≤ w.heap.size) (x : Int) (hx0 : -100000000 ≤ x) (hx1 : x ≤ 100000000) (hs0 : s = ⟨#[123]⟩) (h : StkAt w B u (st ++ [x])) (b6 : (kd == 6) = false) (b5 : (kd == 5) = true) :
    Calls Tryz.prog 29 #[u, .agg #[.int .i64 kd, .int .i64 a, .int .i64 to, .int .i64 n, .string s, .bool l, .bool o]] w (NestPost w B u (st ++ [x + 1])) := by
  obtain ⟨g, cap, hu, hc1, hc2, hcell, hfr, hBg, hgl, hpop, hset⟩ := stk_top (stk_alloc h (.cells #[.int .i64 kd, .int .i64 a, .int .i64 to, .int .i64 n, .string s, .bool l, .bool o] 27))
  subst hu
  have hne : g ≠ w.heap.size := by
    intro e
    obtain ⟨g', cap', hu', _, _, _, _, _, hgl', _, _⟩ := stk_top h
    simp at hu'
  unfold maxLen at hc2
  have HP := Lib.hid hpop
  have HS := Lib.hid hset
  clear hpop hset h hB
  subst hs0
  go_enter Tryz.func29, Tryz.ntmps29
  go_wp2
  go_ret
  exact ⟨_, rfl, HS.out _, grown_set (World.grownBy_alloc w _ _) rfl _⟩

set_option linter.unusedVariables false in
set_option maxRecDepth 100000 in
set_option maxHeartbeats 1000000 in
theorem nest_dec (B : Nat) (u : Value) (st : List Int) (kd a to n : Int) (s : ByteArray) (l o : Bool) (w : World) (hB : B ≤ w.heap.size) (x : Int) (hx0 : -100000000 ≤ x) (hx1 : x ≤ 100000000) (hs0 : s = ⟨#[125]⟩) (h : StkAt w B u (st ++ [x])) (b6 : (kd == 6) = false) (b5 : (kd == 5) = true) :
    Calls Tryz.prog 29 #[u, .agg #[.int .i64 kd, .int .i64 a, .int .i64 to, .int .i64 n, .string s, .bool l, .bool o]] w (NestPost w B u (st ++ [x - 1])) := by
  obtain ⟨g, cap, hu, hc1, hc2, hcell, hfr, hBg, hgl, hpop, hset⟩ := stk_top (stk_alloc h (.cells #[.int .i64 kd, .int .i64 a, .int .i64 to, .int .i64 n, .string s, .bool l, .bool o] 27))
  subst hu
  have hne : g ≠ w.heap.size := by
    intro e
    obtain ⟨g', cap', hu', _, _, _, _, _, hgl', _, _⟩ := stk_top h
    simp at hu'
  unfold maxLen at hc2
  have HP := Lib.hid hpop
  have HS := Lib.hid hset
  clear hpop hset h hB
  subst hs0
  go_enter Tryz.func29, Tryz.ntmps29
  go_wp2
  go_ret
  exact ⟨_, rfl, HS.out _, grown_set (World.grownBy_alloc w _ _) rfl _⟩

set_option linter.unusedVariables false in
set_option maxRecDepth 100000 in
set_option maxHeartbeats 1000000 in
theorem nest_e1 (B : Nat) (u : Value) (kd a to n : Int) (s : ByteArray) (l o : Bool) (w : World) (hB : B ≤ w.heap.size) (hs0 : s = ⟨#[123]⟩) (h : StkAt w B u []) (b6 : (kd == 6) = false) (b5 : (kd == 5) = true) :
    Calls Tryz.prog 29 #[u, .agg #[.int .i64 kd, .int .i64 a, .int .i64 to, .int .i64 n, .string s, .bool l, .bool o]] w (NestPost w B u []) := by
  obtain ⟨ad, cap, rfl, hmx⟩ := stk_shape h
  have HS := Lib.hid (stk_alloc h (.cells #[.int .i64 kd, .int .i64 a, .int .i64 to, .int .i64 n, .string s, .bool l, .bool o] 27))
  clear h hB hmx
  subst hs0
  go_enter Tryz.func29, Tryz.ntmps29
  go_wp2
  go_ret
  exact ⟨_, rfl, HS.out, World.grownBy_alloc w _ _⟩

set_option linter.unusedVariables false in
set_option maxRecDepth 100000 in
set_option maxHeartbeats 1000000 in
theorem nest_e2 (B : Nat) (u : Value) (kd a to n : Int) (s : ByteArray) (l o : Bool) (w : World) (hB : B ≤ w.heap.size) (hs0 : s = ⟨#[125]⟩) (h : StkAt w B u []) (b6 : (kd == 6) = false) (b5 : (kd == 5) = true) :
    Calls Tryz.prog 29 #[u, .agg #[.int .i64 kd, .int .i64 a, .int .i64 to, .int .i64 n, .string s, .bool l, .bool o]] w (NestPost w B u []) := by
  obtain ⟨ad, cap, rfl, hmx⟩ := stk_shape h
  have HS := Lib.hid (stk_alloc h (.cells #[.int .i64 kd, .int .i64 a, .int .i64 to, .int .i64 n, .string s, .bool l, .bool o] 27))
  clear h hB hmx
  subst hs0
  go_enter Tryz.func29, Tryz.ntmps29
  go_wp2
  go_ret
  exact ⟨_, rfl, HS.out, World.grownBy_alloc w _ _⟩
end Go.Proofs.YthkjdllpgcocpaaGreatDoor
