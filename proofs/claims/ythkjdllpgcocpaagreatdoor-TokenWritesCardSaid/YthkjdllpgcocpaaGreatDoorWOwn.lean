/-
  Rows of bytes of the call's own, and their texts.
-/
import Derived.Test.YthkjdllpgcocpaaGreatDoorWSpec
import Derived.Laws.IdiomStrings
import Derived.Laws.BytesArg
import Derived.Laws.OwnMore
namespace Go.Proofs.YthkjdllpgcocpaaGreatDoor
open Go.RowKit

theorem own_form {w : World} {B : Nat} {v : Value} {l : List UInt8} (h : w.ownsRow B 5 1 v l.length (Lib.byteCells l)) : ∃ ao cap, v = .slice ao l.length cap := by
  rcases h.2 with ⟨hv, h0⟩ | ⟨g, cap, cur, hv, _⟩
  · exact ⟨none, 0, by rw [hv, h0]⟩
  · exact ⟨_, _, hv⟩
theorem conv_own {w : World} {B : Nat} {v : Value} {l : List UInt8} (h : w.ownsRow B 5 1 v l.length (Lib.byteCells l)) : (convert 51 9 v).run Tryz.prog w = .ok (.string ⟨l.toArray⟩) w := by
  rcases h.2 with ⟨hv, h0⟩ | ⟨g, cap, cur, hv, _⟩
  · have : l = [] := List.length_eq_zero_iff.1 h0
    subst this
    rw [hv, run_convert_bytes_nil w 51 5 Tryz.underlying51 Tryz.underlying5 0 0 9 Tryz.underlying9]
    rfl
  · rw [hv]
    refine run_convert_bytes_back w 51 9 5 _ _ _ Tryz.underlying51 Tryz.underlying5 Tryz.underlying9 ?_
    intro j hj
    exact h.cells (by rw [hv]; rfl) j _ (by simp [Lib.byteCells, hj])
theorem own_below {w w' : World} {B : Nat} {v : Value} {n : Nat} {xs : List Value} (h : w.ownsRow B 5 1 v n xs) (hb : Below w.heap.size w w') : w'.ownsRow B 5 1 v n xs :=
  World.ownsRow.kept h (show w.grownBy w' none from ⟨hb.1, hb.2, hb.3, hb.4, fun j hj _ => hb.5 j hj⟩) (by cases hv : v.ownBlock <;> simp)
theorem new_cell0 (w : World) (u : Value) : ∀ (j : Nat) (x : Value), [u][j]? = some x → (w.alloc (.cells #[u] 5)).cell? ((⟨w.heap.size, 0, none⟩ : Addr).add j) = some x := by
  intro j x hj
  match j, hj with
  | 0, hj =>
    simp at hj
    subst hj
    have e := heap_alloc_new w (.cells #[u] 5)
    exact (Lib.cell_of_heap e 0).trans rfl
  | j + 1, hj => simp at hj
theorem one_u8 (n : Int) : ∀ u ∈ [Value.int .u8 n], u.oneCell' = true := by intro u hu; simp at hu; subst hu; rfl
theorem news_at (w : World) (us : List Value) : ∀ (j : Nat) (x : Value), us[j]? = some x → (w.alloc (.cells us.toArray 5)).cell? ((⟨w.heap.size, 0, none⟩ : Addr).add j) = some x := by
  intro j x hj
  have e := heap_alloc_new w (.cells us.toArray 5)
  have hadd : (⟨w.heap.size, 0, none⟩ : Addr).add j = ⟨w.heap.size, j, none⟩ := by unfold Addr.add; split <;> simp_all
  rw [hadd]
  exact (Lib.cell_of_heap e j).trans (by simpa using hj)
theorem u8s (l : List Int) : ∀ u ∈ l.map (Value.int .u8), u.oneCell' = true := by
  intro u hu
  obtain ⟨n, _, rfl⟩ := List.mem_map.1 hu
  rfl
theorem conv_one (w : World) (n : Int) (h0 : 0 ≤ n) (h1 : n ≤ 255) : (convert 51 9 (.slice (some ⟨w.heap.size, 0, none⟩) 1 1)).run Tryz.prog (w.alloc (.cells #[.int .u8 n] 5)) = .ok (.string ⟨#[byt n]⟩) (w.alloc (.cells #[.int .u8 n] 5)) := by
  have hown : (w.alloc (.cells #[.int .u8 n] 5)).ownsRow w.heap.size 5 1 (.slice (some ⟨w.heap.size, 0, none⟩) [byt n].length 1) [byt n].length (Lib.byteCells [byt n]) :=
    ⟨by simp [Lib.byteCells], .inr ⟨w.heap.size, 1, #[.int .u8 n], rfl, Nat.le_refl _, heap_alloc_new w _, by simp, by unfold maxLen; omega, rfl, by simp [Lib.byteCells, byt_val n h0 h1]⟩⟩
  exact conv_own hown
end Go.Proofs.YthkjdllpgcocpaaGreatDoor
