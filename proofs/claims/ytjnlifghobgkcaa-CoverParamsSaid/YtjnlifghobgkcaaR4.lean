/-
  rest of the reference at this translation: the whole.
-/
import Derived.Test.YtjnlifghobgkcaaR3b
namespace Go.Proofs.Ytjnlifghobgkcaa
open Go.RowKit

/-- element of the reference, for trees of at most N nodes -/
def EleAt (N : Nat) : Prop := ∀ (x : Tr) (xo : Option Addr) (xc d : Nat) (may : Bool) (B : Nat) (W : World), x.cnt ≤ N → d ≤ 1000 → B ≤ W.heap.size → TIn W (fun b => b < B) x (.slice xo x.ks.length xc) → Calls Try.prog 24 #[.agg #[.int .i64 x.op, .int .i64 x.a, .int .i64 x.n, .int .i64 x.m, .string x.s, .slice xo x.ks.length xc], .int .i64 d, .bool may] W (QPost W (Sha B W) (withinV (if may then eleG (patF N) else patF N) x d true))
theorem tin_one {w : World} {S : Nat → Prop} {g : Nat} {r : Tr} {ko : Option Addr} {kl kc : Nat} (hg : w.heap[g]? = some (.cells #[.int .i64 r.op, .int .i64 r.a, .int .i64 r.n, .int .i64 r.m, .string r.s, .slice ko kl kc] 27 (0, 0))) (hS : S g) (hr : TIn w S r (.slice ko kl kc)) (op a n m : Int) (s : ByteArray) : TIn w S (.mk op a n m s [r]) (.slice (some ⟨g, 0, none⟩) 1 1) := by
  obtain ⟨⟨c0, c1, c2, c3, c4, c5⟩, -, hl⟩ := c_six hg
  refine tin_close (t := .mk op a n m s [r]) (ao := some ⟨g, 0, none⟩) (cap := 1) (by simp [Tr.ks]) (by unfold maxLen; omega) (.inr ⟨g, 0, rfl, hl, hS, ?_⟩)
  intro i t hi
  cases i with
  | zero =>
    have : t = r := by simpa [Tr.ks] using hi.symm
    subst this
    exact ⟨_, ⟨c0, c1, c2, c3, c4, c5⟩, hr⟩
  | succ i => simp [Tr.ks] at hi
theorem rest_any {N : Nat} (hE : EleAt N) (lb lf len lc i : Nat) (na : Int) (x : Tr) (xo : Option Addr) (xc h d B : Nat) (s : Bool) (w : World) (hB : B ≤ w.heap.size) (hlb : lb < w.heap.size) (hna : w.cell? ⟨lb, lf + i * 6 + 1, none⟩ = some (.int .i64 na)) (hc : x.cnt ≤ N) (ht : TIn w (fun b => b < B) x (.slice xo x.ks.length xc)) (hlen : len ≤ 100000) (hi : i < len) (hh : h ≤ 100000) (hd : d ≤ 900) :
    Calls Try.prog 43 #[.slice (some ⟨lb, lf, none⟩) len lc, .int .i64 i, .agg #[.int .i64 x.op, .int .i64 x.a, .int .i64 x.n, .int .i64 x.m, .string x.s, .slice xo x.ks.length xc], .int .i64 h, .bool s, .int .i64 d] w (QPost w (Sha B w) (restR na (decide (i + 1 = len)) h s x d (patF N))) := by
  unfold restR
  by_cases h200 : 200 < d
  · rw [if_pos h200]
    exact rest_deep _ len lc i x xo xc h d w hlen hi hh (by omega) s h200
  rw [if_neg h200]
  by_cases hl : ¬ i + 1 = len
  · rw [if_pos (.inl (decide_eq_false hl))]
    exact rest_last _ len lc i x xo xc h d w hlen hi hh (by omega) s h200 hl
  have hl := Decidable.not_not.1 hl
  by_cases hh1 : ¬ h = 1
  · rw [if_pos (.inr hh1)]
    exact rest_has _ len lc i x xo xc h d w hlen hi hh (by omega) s h200 hl hh1
  obtain rfl := Decidable.not_not.1 hh1
  rw [if_neg (by simp [hl])]
  have HE : Hid (∀ W : World, Below w.heap.size w W → w.heap.size + 2 ≤ W.heap.size → Calls Try.prog 24 #[.agg #[.int .i64 x.op, .int .i64 x.a, .int .i64 x.n, .int .i64 x.m, .string x.s, .slice xo x.ks.length xc], .int .i64 ((d : Int) + 1), .bool false] W (fun e w5 => ∃ (y p0 p1 p2 p3 : Int) (p4 : ByteArray) (po : Option Addr) (pl pc : Nat), e = .returned (.tuple #[.agg #[.int .i64 p0, .int .i64 p1, .int .i64 p2, .int .i64 p3, .string p4, .slice po pl pc], .int .i64 y]) ∧ Below W.heap.size W w5 ∧ ∀ e2 w2, RestPost w w5 na y p0 p1 p2 p3 p4 po pl pc e2 w2 → QPost w (Sha B w) (oneR na x d (patF N)) e2 w2)) := Lib.hid (by
    intro W hW hz
    have H := hE x xo xc (d + 1) false B W hc (by omega) (by omega) (tin_kept ht hW)
    rw [show (((d + 1 : Nat)) : Int) = (d : Int) + 1 from by omega] at H
    refine H.mono ?_
    intro e w5 hq
    unfold oneR
    revert hq
    simp only [Bool.false_eq_true, if_false]
    cases withinV (patF N) x (d + 1) true with
    | error c =>
      rintro ⟨hc0, p0, p1, p2, p3, p4, po, pl, pc, rfl, hb⟩
      refine ⟨c, p0, p1, p2, p3, p4, po, pl, pc, rfl, hb, ?_⟩
      rintro e2 w2 ⟨g, rfl, -, -, -, -, hb2⟩
      exact ⟨hc0, _, _, _, _, _, _, _, _, rfl, hb2⟩
    | ok r =>
      rintro ⟨ko, kl, kc, rfl, htr, hb⟩
      refine ⟨0, r.op, r.a, r.n, r.m, r.s, ko, kl, kc, rfl, hb, ?_⟩
      rintro e2 w2 ⟨g, rfl, hg, hgc, hk, hzz, hb2⟩
      refine ⟨some ⟨g, 0, none⟩, 1, 1, rfl, tin_one hgc (.inr (by have := hW.size; have := hb.size; omega)) (tin_imp (fun b hb5 hs => ⟨?_, ?_⟩) hzz r _ htr) 64 na 0 0 noS, hb2⟩
      · rcases hs with hs | hs
        · exact .inl hs
        · exact .inr (by omega)
      · refine hk b hb5 ?_
        rcases hs with hs | hs <;> omega)
  cases s with
  | false =>
    rw [if_neg (by simp), if_neg (by simp)]
    exact rest_false len lc i x xo xc d w hlen hi (by omega) na lb lf hlb hna h200 hl _ HE
  | true =>
    by_cases h201 : 200 < d + 1
    · rw [if_pos ⟨rfl, h201⟩]
      exact rest_sdeep _ len lc i x xo xc d w hlen hi (by omega) h200 hl h201
    rw [if_neg (fun e => h201 e.2)]
    cases hx : tgtB x with
    | false =>
      rw [if_pos ⟨rfl, rfl⟩]
      exact rest_star _ len lc i x xo xc d w hlen hi (by omega) h200 hl h201 hx
    | true =>
      rw [if_neg (by simp)]
      exact rest_true len lc i x xo xc d w hlen hi (by omega) na lb lf hlb hna h200 hl h201 hx _ HE
end Go.Proofs.Ytjnlifghobgkcaa
