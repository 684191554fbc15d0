/-
  The law TokenNexts at this translation: true, for every text, offset and tail.
-/
import Derived.Test.YtpcjfdijdllepaaDoorRNext
import Derived.Test.YtpcjfdijdllepaaDoorTGoes
import Derived.Laws.StructEq
namespace Go.Proofs.YtpcjfdijdllepaaDoor
open Go.RowKit

set_option linter.unusedVariables false in
set_option maxRecDepth 100000 in
set_option maxHeartbeats 1000000 in
theorem nexts_mid (s : ByteArray) (a : Int) (tail : Bool) (w : World) (h1 : 3000 < s.size) (h2 : s.size ≤ 65536) (ht : SgnT w) (hm : MaxL w) :
    Calls Tryd.prog 3 #[.string s, .int .i64 a, .bool tail] w fun e w' => e = .returned (.bool true) ∧ Below w.heap.size w w' := by
  have g1 : (3000 : Int) < s.size := by omega
  have g2 : (s.size : Int) ≤ 65536 := by omega
  have HG := Lib.hid (goes_any w ht hm)
  clear ht hm
  go_enter Tryd.func3, Tryd.ntmps3
  go_wp2_with fail
  refine HG.out.mono ?_
  rintro e w' ⟨rfl, hb⟩
  go_wp2
  go_ret
  exact ⟨rfl, hb⟩
set_option linter.unusedVariables false in
set_option maxRecDepth 100000 in
set_option maxHeartbeats 1000000 in
theorem nexts_walk (s : ByteArray) (a : Int) (tail : Bool) (w : World) (h : s.size ≤ 3000 ∨ 65536 < s.size) (ht : SgnT w) (hm : MaxL w) :
    Calls Tryd.prog 3 #[.string s, .int .i64 a, .bool tail] w fun e w' => e = .returned (.bool true) ∧ Below w.heap.size w w' := by
  have HN := Lib.hid (Next_any s a tail w ht hm)
  have HR := Lib.hid (fun W => rNext_any s a tail W)
  have HG := Lib.hid (fun (W : World) (hB : Below w.heap.size w W) => goes_any W (sgnt_grown ht hB) (maxl_grown hm hB))
  generalize nxT s a tail = r at HN HR
  obtain ⟨kd, f, to, n, str, l, o, ft, er⟩ := r
  unfold ntR2 at HN HR
  simp only at HN HR
  clear ht hm
  rcases h with h | h
  · have g1 : ¬ (3000 : Int) < s.size := by omega
    clear h
    go_enter Tryd.func3, Tryd.ntmps3
    go_wp2_with fail
    refine HN.out.mono ?_
    rintro e w1 ⟨rfl, hB⟩
    clear HN
    go_upto_region 4 with fail
    obtain ⟨W2, hW2⟩ : ∃ W2, W2 = w1.alloc (.cells #[.int .i64 kd, .int .i64 f, .int .i64 to, .int .i64 n, .string str, .bool l, .bool o] 24) := ⟨_, rfl⟩
    have hB2 : Below w.heap.size w W2 := by rw [hW2]; exact hB.alloc hB.size _
    have hn : W2.heap[w1.heap.size]? = some (.cells #[.int .i64 kd, .int .i64 f, .int .i64 to, .int .i64 n, .string str, .bool l, .bool o] 24 (0, 0)) := by rw [hW2]; exact heap_alloc_new w1 _
    rw [← hW2]
    clear hW2 hB
    obtain ⟨B, hBe⟩ : ∃ B, B = w1.heap.size := ⟨_, rfl⟩
    rw [← hBe] at hn ⊢
    clear hBe
    have hBl := t_lt hn
    have HNN := Lib.hid hn
    clear hn
    go_wp2_with fail
    refine (HR.out _).mono ?_
    rintro e w3 ⟨rfl, hb3⟩
    have hn3 := t_kept hb3 hBl HNN.out
    have hB3 := t_thr hB2 hb3 hB2.size
    clear hb3 hB2 HNN HR
    have hBl3 := t_lt hn3
    have HNN := Lib.hid hn3
    clear hn3
    go_upto_region 5 with fail
    obtain ⟨W4, hW4⟩ : ∃ W4, W4 = w3.alloc (.cells #[.int .i64 kd, .int .i64 f, .int .i64 to, .int .i64 n, .string str, .bool l, .bool o] 28) := ⟨_, rfl⟩
    have hB4 : Below w.heap.size w W4 := by rw [hW4]; exact hB3.alloc hB3.size _
    have hn4 : W4.heap[w3.heap.size]? = some (.cells #[.int .i64 kd, .int .i64 f, .int .i64 to, .int .i64 n, .string str, .bool l, .bool o] 28 (0, 0)) := by rw [hW4]; exact heap_alloc_new w3 _
    have hm4 : W4.heap[B]? = some (.cells #[.int .i64 kd, .int .i64 f, .int .i64 to, .int .i64 n, .string str, .bool l, .bool o] 24 (0, 0)) := by rw [hW4]; exact (heap_alloc_old w3 _ hBl3).trans HNN.out
    rw [← hW4]
    clear hW4 hB3 HNN
    obtain ⟨⟨q0, q1, q2, q3, q4, q5, q6⟩, _, _⟩ := t_seven hm4
    obtain ⟨⟨r0, r1, r2, r3, r4, r5, r6⟩, _, _⟩ := t_seven hn4
    clear hm4 hn4
    go_wp2_with fail
    refine (HG.out _ hB4).mono ?_
    rintro e w5 ⟨rfl, hb5⟩
    have hB5 := t_thr hB4 hb5 hB4.size
    clear hb5 hB4
    go_wp2
    go_ret
    exact ⟨rfl, hB5⟩
  · have g1 : (3000 : Int) < s.size := by omega
    have g2 : ¬ (s.size : Int) ≤ 65536 := by omega
    clear h
    go_enter Tryd.func3, Tryd.ntmps3
    go_wp2_with fail
    refine HN.out.mono ?_
    rintro e w1 ⟨rfl, hB⟩
    clear HN
    go_upto_region 4 with fail
    obtain ⟨W2, hW2⟩ : ∃ W2, W2 = w1.alloc (.cells #[.int .i64 kd, .int .i64 f, .int .i64 to, .int .i64 n, .string str, .bool l, .bool o] 24) := ⟨_, rfl⟩
    have hB2 : Below w.heap.size w W2 := by rw [hW2]; exact hB.alloc hB.size _
    have hn : W2.heap[w1.heap.size]? = some (.cells #[.int .i64 kd, .int .i64 f, .int .i64 to, .int .i64 n, .string str, .bool l, .bool o] 24 (0, 0)) := by rw [hW2]; exact heap_alloc_new w1 _
    rw [← hW2]
    clear hW2 hB
    obtain ⟨B, hBe⟩ : ∃ B, B = w1.heap.size := ⟨_, rfl⟩
    rw [← hBe] at hn ⊢
    clear hBe
    have hBl := t_lt hn
    have HNN := Lib.hid hn
    clear hn
    go_wp2_with fail
    refine (HR.out _).mono ?_
    rintro e w3 ⟨rfl, hb3⟩
    have hn3 := t_kept hb3 hBl HNN.out
    have hB3 := t_thr hB2 hb3 hB2.size
    clear hb3 hB2 HNN HR
    have hBl3 := t_lt hn3
    have HNN := Lib.hid hn3
    clear hn3
    go_upto_region 5 with fail
    obtain ⟨W4, hW4⟩ : ∃ W4, W4 = w3.alloc (.cells #[.int .i64 kd, .int .i64 f, .int .i64 to, .int .i64 n, .string str, .bool l, .bool o] 28) := ⟨_, rfl⟩
    have hB4 : Below w.heap.size w W4 := by rw [hW4]; exact hB3.alloc hB3.size _
    have hn4 : W4.heap[w3.heap.size]? = some (.cells #[.int .i64 kd, .int .i64 f, .int .i64 to, .int .i64 n, .string str, .bool l, .bool o] 28 (0, 0)) := by rw [hW4]; exact heap_alloc_new w3 _
    have hm4 : W4.heap[B]? = some (.cells #[.int .i64 kd, .int .i64 f, .int .i64 to, .int .i64 n, .string str, .bool l, .bool o] 24 (0, 0)) := by rw [hW4]; exact (heap_alloc_old w3 _ hBl3).trans HNN.out
    rw [← hW4]
    clear hW4 hB3 HNN
    obtain ⟨⟨q0, q1, q2, q3, q4, q5, q6⟩, _, _⟩ := t_seven hm4
    obtain ⟨⟨r0, r1, r2, r3, r4, r5, r6⟩, _, _⟩ := t_seven hn4
    clear hm4 hn4
    go_wp2_with fail
    refine (HG.out _ hB4).mono ?_
    rintro e w5 ⟨rfl, hb5⟩
    have hB5 := t_thr hB4 hb5 hB4.size
    clear hb5 hB4
    go_wp2
    go_ret
    exact ⟨rfl, hB5⟩
theorem nexts_any (s : ByteArray) (a : Int) (tail : Bool) (w : World) (ht : SgnT w) (hm : MaxL w) :
    Calls Tryd.prog 3 #[.string s, .int .i64 a, .bool tail] w fun e w' => e = .returned (.bool true) ∧ Below w.heap.size w w' := by
  by_cases h : s.size ≤ 3000 ∨ 65536 < s.size
  · exact nexts_walk s a tail w h ht hm
  · exact nexts_mid s a tail w (by omega) (by omega) ht hm
end Go.Proofs.YtpcjfdijdllepaaDoor
