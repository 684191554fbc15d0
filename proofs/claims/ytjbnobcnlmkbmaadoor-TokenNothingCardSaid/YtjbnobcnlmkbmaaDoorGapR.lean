/-
  Gap of the reference at this translation, at a gap.
-/
import Derived.Test.YtjbnobcnlmkbmaaDoorLoc3
import Derived.Test.YtjbnobcnlmkbmaaDoorRSkip
namespace Go.Proofs.YtjbnobcnlmkbmaaDoor
open Go.RowKit

set_option maxRecDepth 100000 in
set_option maxHeartbeats 1000000 in
theorem gapR_any (s : ByteArray) (p f : Nat) (w : World) (hs : s.size ≤ 65536) (hp : p ≤ f) (hf : f ≤ s.size) (hg : gapV (f + 1) ((s.data.toList.take f).drop p) p = (f, 0)) :
    Calls Tryd.prog 10 #[.string s, .int .i64 p, .int .i64 f] w fun e w' => e = .returned (.bool true) ∧ w = w' := by
  have hsz : (s.extract 0 f).size = f := by rw [ex_size s 0 f hf]; omega
  have hl : (s.extract 0 f).data.toList = s.data.toList.take f := by rw [ex_list]; simp
  have H := Lib.hid (rSkip_any (s.extract 0 f) p w (by omega) (by omega) (f, 0) (Lib.hid (by rw [hsz, hl]; exact hg.symm)))
  have g1 : decide ((p : Int) < 0) = false := decide_eq_false (by omega)
  have g2 : decide (f < p) = false := decide_eq_false (by omega)
  have g3 : decide (s.size < f) = false := decide_eq_false (by omega)
  have hfs : f ≤ s.size := hf
  clear hg hl hsz
  go_enter Tryd.func10, Tryd.ntmps10
  go_wp2_with fail
  refine H.out.mono ?_
  rintro e w' ⟨⟨b, rfl, _⟩, rfl⟩
  unfold skR
  go_wp2
  go_ret
  exact ⟨rfl, rfl⟩
end Go.Proofs.YtjbnobcnlmkbmaaDoor
