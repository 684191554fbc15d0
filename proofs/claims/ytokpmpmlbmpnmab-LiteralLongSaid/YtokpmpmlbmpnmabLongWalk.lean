/-
  LiteralLong answers true at this translation, whatever the byte, and turns nothing that was there.
-/
import Derived.Test.YtokpmpmlbmpnmabBack
import Derived.Test.YtokpmpmlbmpnmabRefRead
import Derived.Laws.OwnMore
import Derived.OpenShut
namespace Go.Proofs.Ytokpmpmlbmpnmab
open Go.RowKit

theorem quoted_read (l : List UInt8) (w : World) (hl : l.length ≤ 65536) :
    Calls Try.prog 8 #[.string ⟨(quoteL l).toArray⟩, .int .i64 0] w fun e w' => e = .returned (.tuple #[.string ⟨l.toArray⟩, .int .i64 ((qL l).length + 2 : Nat), .int .i64 0]) ∧ Below w.heap.size w w' := by
  obtain ⟨t, ht⟩ : ∃ t : ByteArray, t = ⟨(quoteL l).toArray⟩ := ⟨_, rfl⟩
  have hdat : t.data.toList = quoteL l := by rw [ht]
  have hql := quote_len l
  have hq2 := quote_len2 l
  have htl : t.size = (quoteL l).length := by
    have : t.data.toList.length = t.size := by simp
    rw [← this, hdat]
  have hk : 0 < t.size := by omega
  have hcons := drop_at t 0 hk
  rw [hdat] at hcons
  have h := read_in t 0 34 w (by omega) hk (List.cons.inj hcons).1.symm (by decide)
  have hd : t.data.toList.drop (0 + 1) = qL l ++ 34 :: [] := by rw [hdat]; rfl
  rw [hd, rd_q _ _ _ _ _ (by simp; omega) (by simp; omega)] at h
  have e2 : ((0 + 1 + (qL l).length + 1 : Nat) : Int) = ((qL l).length + 2 : Nat) := by omega
  unfold rdR at h
  simp only [e2, List.nil_append] at h
  rw [← ht]
  exact h
theorem quoted_long (l : List UInt8) (w : World) (h1 : 65536 < l.length) (h2 : l.length ≤ 900000) :
    Calls Try.prog 8 #[.string ⟨(quoteL l).toArray⟩, .int .i64 0] w fun e w' => e = .returned (.tuple #[.string ⟨#[]⟩, .int .i64 0, .int .i64 9]) ∧ Below w.heap.size w w' := by
  obtain ⟨t, ht⟩ : ∃ t : ByteArray, t = ⟨(quoteL l).toArray⟩ := ⟨_, rfl⟩
  have hdat : t.data.toList = quoteL l := by rw [ht]
  have hql := quote_len l
  have hq2 := quote_len2 l
  have htl : t.size = (quoteL l).length := by
    have : t.data.toList.length = t.size := by simp
    rw [← this, hdat]
  have hk : 0 < t.size := by omega
  have hcons := drop_at t 0 hk
  rw [hdat] at hcons
  have h := read_in t 0 34 w (by omega) hk (List.cons.inj hcons).1.symm (by decide)
  have hd : t.data.toList.drop (0 + 1) = qL l ++ 34 :: [] := by rw [hdat]; rfl
  rw [hd, rd_qlong _ _ _ _ _ (by simp; omega) (by simp) (by simp; omega)] at h
  rw [← ht]
  exact h

theorem texts (n : Nat) (x : UInt8) : ∃ l : List UInt8, l = List.replicate n x := ⟨_, rfl⟩

theorem conv_cells {w : World} {g : Nat} (n cap : Nat) (x : UInt8) (l : List UInt8) (hl : l = List.replicate n x) (hc : ∀ j, j < n → w.cell? ⟨g, j, none⟩ = some (.int .u8 (x.toNat : Int))) :
    (convert 35 9 (.slice (some ⟨g, 0, none⟩) n cap)).run Try.prog w = .ok (.string ⟨l.toArray⟩) w := by
  have h := run_convert_bytes_back (P := Try.prog) w 35 9 5 ⟨g, 0, none⟩ cap l Try.underlying35 Try.underlying5 Try.underlying9 (by
    intro j hj
    subst hl
    have hj' : j < n := by simpa using hj
    have e : (⟨g, 0, none⟩ : Addr).add j = ⟨g, j, none⟩ := by
      have h0 : (⟨g, 0, none⟩ : Addr).add j = ⟨g, 0 + j, none⟩ := by unfold Addr.add; split <;> simp_all
      rw [h0, Nat.zero_add]
    rw [e, hc j hj']
    simp)
  have hn : l.length = n := by rw [hl]; simp
  rw [hn] at h
  exact h

theorem info5z : ∃ i, Try.prog.info? 5 = some i ∧ i.zero = some (.int .u8 0) ∧ i.size = 1 ∧ i.bytes = 1 := by
  obtain ⟨i0, hi, hz0, hz1, hz2⟩ := info_parts info5
  exact ⟨i0, hi, hz0, hz1, hz2⟩

set_option maxHeartbeats 2000000 in
set_option maxRecDepth 100000 in
theorem litLong_walk (c : Int) (hc : (Lit.int .u8 c).wf = true) (w : World) :
    Calls Try.prog 7 #[.int .u8 c] w fun e w' => e = .returned (.bool true) ∧ Below w.heap.size w w' := by
  obtain ⟨x, hx⟩ : ∃ x : UInt8, (x.toNat : Int) = c := by
    have hb := bounds_u8 hc
    exact ⟨byt c, byt_val c hb.1 hb.2⟩
  subst hx
  clear hc
  obtain ⟨i0, hi, hz0, hz1, hz2⟩ := info5z
  obtain ⟨M, hM⟩ : ∃ M : Nat, M = 65537 := ⟨_, rfl⟩
  have hMI : (65537 : Int) = (M : Int) := by omega
  have hm1 : 65537 ≤ M := by omega
  have hm2 : M ≤ 65537 := by omega
  have HMI := Lib.hid hMI
  clear hMI hM
  go_enter Try.func7, Try.ntmps7
  go_wp2_with (at_make; refine wpList_make_full _ rfl _ _ 35 rfl w.heap.size 5 i0 (.int .u8 0) 1 Try.underlying35 hi hz0 hz1 .i64 .i64 65537 65537 M rfl rfl HMI.out HMI.out ?_ ?_ ?_ ?_; (rw [hz2]; omega); (unfold maxLen; omega); omega; intro w1 hown hgrow)
  have hb0 : Below w.heap.size w w1 := (Below.refl _ w).grown hgrow (Nat.le_refl _) (fun k hk => by cases hk)
  have hlt : w.heap.size < w1.heap.size := (hown.lt _ rfl).2
  go_loopw [4] (fun i wr => ∃ (k : Nat) (xs : List Value), i = .int .i64 k ∧ k ≤ M ∧ wr.ownsRow w.heap.size 5 1 (.slice (some ⟨w.heap.size, 0, none⟩) M M) M xs ∧ (∀ j, j < k → xs[j]? = some (.int .u8 (x.toNat : Int))) ∧ Below w.heap.size w wr ∧ w.heap.size < wr.heap.size) (fun i _ => M - (intOf i).toNat)
  case atStart => exact ⟨0, _, by go_num, by omega, hown, fun j hj => by omega, hb0, hlt⟩
  case round =>
    obtain ⟨k, xs, rfl, hk, hown, hxs, hbw, hsz⟩ := hrel
    have HX := Lib.hid hxs
    have HO := Lib.hid hown
    clear hxs
    by_cases hks : k < M
    · have hlx : xs.length = M := by have := hown.1; omega
      have hcell : wr.cell? ⟨w.heap.size, k, none⟩ = some (xs[k]'(by omega)) := by
        rw [hown.cellAt k (by omega), List.getElem?_eq_getElem]
      have hfz : wr.frozen? ⟨w.heap.size, k, none⟩ = false := hown.frozenAt k
      obtain ⟨u, hu⟩ : ∃ u, u = xs[k]'(by omega) := ⟨_, rfl⟩
      rw [← hu] at hcell
      have st := hown.stored k (.int .u8 (x.toNat : Int))
      have HS := Lib.hid st
      have HL := Lib.hid hlx
      clear hown st hlx hu
      go_wp2
      go_roundw
      case rel =>
        refine ⟨k + 1, _, by go_num, by omega, HS.out.1, ?_, hbw.setCell (p := ⟨w.heap.size, k, none⟩) (Nat.le_refl _) _, by simpa using hsz⟩
        intro j hj
        rw [List.getElem?_set]
        by_cases hjk : k = j
        · rw [if_pos hjk, if_pos (by have := HL.out; omega)]
        · rw [if_neg hjk]; exact HX.out j (by omega)
      case measure => simp [intOf]; omega
    · have hcells : ∀ j, j < M → wr.cell? ⟨w.heap.size, j, none⟩ = some (.int .u8 (x.toNat : Int)) := by
        intro j hj
        rw [hown.cellAt j (by omega)]
        exact HX.out j (by omega)
      have HC := Lib.hid hcells
      clear hcells HO HX hown
      obtain ⟨l1, hl1⟩ := texts 65536 x
      obtain ⟨l2, hl2⟩ := texts M x
      have n1 : l1.length = 65536 := by rw [hl1, List.length_replicate]
      have n2 : l2.length = M := by rw [hl2, List.length_replicate]
      obtain ⟨t1, ht1⟩ : ∃ t1 : ByteArray, t1 = ⟨l1.toArray⟩ := ⟨_, rfl⟩
      obtain ⟨t2, ht2⟩ : ∃ t2 : ByteArray, t2 = ⟨l2.toArray⟩ := ⟨_, rfl⟩
      have s1 : t1.size = 65536 := by rw [ht1]; exact n1
      have s2 : t2.size = M := by rw [ht2]; exact n2
      obtain ⟨q1, hq1⟩ : ∃ q1 : ByteArray, q1 = ⟨(quoteL l1).toArray⟩ := ⟨_, rfl⟩
      obtain ⟨q2, hq2⟩ : ∃ q2 : ByteArray, q2 = ⟨(quoteL l2).toArray⟩ := ⟨_, rfl⟩
      have d1 : t1.data.toList = l1 := by rw [ht1]
      have d2 : t2.data.toList = l2 := by rw [ht2]
      have Q1 := fun W => quote_any t1 W (by omega)
      have Q2 := fun W => quote_any t2 W (by omega)
      rw [d1, ← hq1] at Q1
      rw [d2, ← hq2] at Q2
      have R1 := fun W => quoted_read l1 W (by omega)
      have R2 := fun W => quoted_long l2 W (by omega) (by omega)
      rw [← hq1, ← ht1] at R1
      rw [← hq2] at R2
      obtain ⟨nr, hnr⟩ : ∃ nr : Int, nr = ((qL l1).length + 2 : Nat) := ⟨_, rfl⟩
      rw [← hnr] at R1
      have C1 := conv_cells (w := wr) (g := w.heap.size) 65536 M x l1 hl1 (fun j hj => HC.out j (by omega))
      have C2 := fun (W : World) (hW : Below wr.heap.size wr W) => conv_cells (w := W) (g := w.heap.size) M M x l2 hl2 (fun j hj => by rw [hW.cell (p := ⟨w.heap.size, j, none⟩) hsz]; exact HC.out j hj)
      rw [← ht1] at C1
      rw [← ht2] at C2
      have b1 : ((t1.size : Int) == 65536) = true := by rw [s1]; rfl
      have HQ1 := Lib.hid Q1
      have HQ2 := Lib.hid Q2
      have HR1 := Lib.hid R1
      have HR2 := Lib.hid R2
      have HC2 := Lib.hid C2
      clear Q1 Q2 R1 R2 C2 s1 s2 d1 d2 hq1 hq2 hnr n1 n2 ht1 ht2 hl1 hl2 HC
      go_wp2_with (go_at_call 19; refine (HQ1.out _).mono ?_; rintro e w2 ⟨rfl, hb2⟩)
      refine (HR1.out _).mono ?_
      rintro e w3 ⟨rfl, hb3⟩
      have hb23 := hb2.trans (hb3.mono hb2.size)
      have C2' := HC2.out w3 hb23
      go_wp2_with (go_at_call 19; refine (HQ2.out _).mono ?_; rintro e w4 ⟨rfl, hb4⟩)
      refine (HR2.out _).mono ?_
      rintro e w5 ⟨rfl, hb5⟩
      go_wp2_with (go_at_call 10; refine (lives_any _).mono ?_; rintro e w6 ⟨rfl, hb6⟩)
      go_ret
      have z1 := hb23.size
      have z2 := hb4.size
      have z3 := hb5.size
      exact ⟨rfl, (((hbw.trans (hb23.mono (by omega))).trans (hb4.mono (by omega))).trans (hb5.mono (by omega))).trans (hb6.mono (by omega))⟩
end Go.Proofs.Ytokpmpmlbmpnmab
