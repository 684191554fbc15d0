/-
  Next of the reference at this translation: for every text, offset and tail, what the program's Next answers.
-/
import Derived.Test.YtjbnobcnlmkbmaaDoorRReadR
namespace Go.Proofs.YtjbnobcnlmkbmaaDoor
open Go.RowKit

def rdE (x : NT) (p : Nat) : Ending := .returned (.tuple #[.agg #[.int .i64 x.kind, .int .i64 x.a, .int .i64 x.to, .int .i64 x.n, .string x.s, .bool x.line, .bool x.o], .int .i64 p, .int .i64 x.err])
def rdG (s : ByteArray) (k : Nat) : Nat × Int := gapV (s.size + 1) (s.data.toList.drop k) k
theorem rRead_any (s : ByteArray) (k : Nat) (tail : Bool) (w : World) (hs : s.size ≤ 65536) (hk : k ≤ s.size) :
    Calls Tryd.prog 14 #[.string s, .int .i64 k, .bool tail] w fun e w' => e = rdE (nxG (rdG s k) (readT s (rdG s k).1 tail) (nlL ((s.data.toList.drop k).take ((rdG s k).1 - k)))) (rdG s k).1 ∧ Below w.heap.size w w' := by
  have HS := fun W => rSkip_any s k W (by omega) hk (rdG s k) (Lib.hid rfl)
  have hE : (rdG s k).2 = 0 ∨ (rdG s k).2 = 8 := gap_err s (s.size + 1) k
  have hB : k ≤ (rdG s k).1 ∧ (rdG s k).1 ≤ s.size := gap_bounds s (s.size + 1) k hk
  generalize rdG s k = g at HS hE hB ⊢
  obtain ⟨p, er⟩ := g
  simp only at hE hB
  unfold nxG
  simp only
  rcases hE with he | he
  · subst he
    rw [if_pos rfl]
    have HG : ∀ W, Calls Tryd.prog 15 #[.string s, .int .i64 k] W fun e w' => e = skR p (nlL ((s.data.toList.drop k).take (p - k))) true ∧ W = w' := fun W => (HS W).mono (by
      rintro e w' ⟨⟨b, h1, h2⟩, rfl⟩
      refine ⟨?_, rfl⟩
      rw [h1, h2 rfl]
      rfl)
    have HO := fun W => rOne_any s p tail W hs hB.2
    generalize readT s p tail = r at HO ⊢
    obtain ⟨kd, to, n, str, o, er⟩ := r
    unfold oneT at HO
    simp only at HO ⊢
    by_cases he : er = 0
    · subst he
      rw [if_pos rfl]
      simp only [if_true] at HO
      exact rr_good s k p _ tail kd p to n str o w (Lib.hid HG) (Lib.hid HO)
    · rw [if_neg he]
      rw [if_neg he] at HO
      exact rr_bad s k p _ tail kd 0 to n er str o w he (Lib.hid HG) (Lib.hid HO)
  · subst he
    rw [if_neg (by omega)]
    exact rr_gap s k p tail w (Lib.hid (fun W => (HS W).mono (by
      rintro e w' ⟨⟨b, h1, _⟩, rfl⟩
      exact ⟨⟨b, h1⟩, rfl⟩)))
end Go.Proofs.YtjbnobcnlmkbmaaDoor
