/-
  Dump of the reference, at this translation: the same text.
-/
import Derived.Test.YtppliplalfpmaaaDoorRD2
namespace Go.Proofs.YtppliplalfpmaaaDoor
open Go.RowKit

mutual
def Tr.shrt : Tr → Prop | .mk _ _ _ _ s ks => s.size ≤ 200 ∧ shrtL ks
def shrtL : List Tr → Prop | [] => True | t :: r => t.shrt ∧ shrtL r
end
theorem shrt_of {t : Tr} (h : t.shrt) : t.s.size ≤ 200 := by cases t; exact h.1
theorem shrt_ks {t : Tr} (h : t.shrt) : shrtL t.ks := by cases t; exact h.2
theorem shrtL_at : ∀ {l : List Tr} {i : Nat} {x : Tr}, shrtL l → l[i]? = some x → x.shrt
  | [], _, _, _, h => by simp at h
  | y :: r, 0, x, h, hx => by simp at hx; subst hx; exact h.1
  | y :: r, i + 1, x, h, hx => shrtL_at h.2 (by simpa using hx)
theorem bl (s : ByteArray) : s.data.toList.length = s.size := by rw [Array.length_toList]; rfl
theorem ba_len {p : ByteArray} {l : List UInt8} (h : p.data.toList = l) : p.size = l.length := by
  rw [← h, Array.length_toList]
  rfl
theorem ba_of {p : ByteArray} {l : List UInt8} (h : p.data.toList = l) : p = ⟨l.toArray⟩ := ByteArray.ext (Array.ext' (by rw [h]))
set_option linter.unusedVariables false in
set_option maxRecDepth 100000 in
set_option maxHeartbeats 2000000 in
theorem rdump_any : ∀ (N : Nat) (t : Tr) (ao : Option Addr) (cap : Nat) (w : World), t.cnt ≤ N → N ≤ 100000 → t.nums → t.shrt → TIn w All t (.slice ao t.ks.length cap) → (dmp t).length ≤ 140737488350000 →
    Calls Tryd.prog 19 #[.agg #[.int .i64 t.op, .int .i64 t.a, .int .i64 t.n, .int .i64 t.m, .string t.s, .slice ao t.ks.length cap]] w fun e w' => e = .returned (.string ⟨(dmp t).toArray⟩) ∧ Below w.heap.size w w' := by
  intro N
  induction N with
  | zero => intro t _ _ _ h; have := cnt_pos t; omega
  | succ N ih =>
    intro t ao cap w hc hN hnu hsh ht hlen
    have hle : ∀ x ∈ t.ks, x.cnt ≤ N := fun x hx => by
      obtain ⟨i, hi⟩ := List.getElem?_of_mem hx
      have := cnt_kid hi
      omega
    have hkl : t.ks.length ≤ 100000 := by have := cntL_len t.ks; have := cnt_ks t; omega
    obtain ⟨W1, hW1⟩ : ∃ W1, W1 = w.alloc (.cells #[.int .i64 t.op, .int .i64 t.a, .int .i64 t.n, .int .i64 t.m, .string t.s, .slice ao t.ks.length cap] 24) := ⟨_, rfl⟩
    have hB1 : Below w.heap.size w W1 := by rw [hW1]; exact c_box w _
    have hx1 : W1.heap[w.heap.size]? = some (.cells #[.int .i64 t.op, .int .i64 t.a, .int .i64 t.n, .int .i64 t.m, .string t.s, .slice ao t.ks.length cap] 24 (0, 0)) := by rw [hW1]; exact heap_alloc_new w _
    obtain ⟨⟨b0, b1, b2, b3, b4, b5⟩, -, hxl⟩ := c_six hx1
    have HW := Lib.hid hW1
    have HB := Lib.hid hB1
    clear hB1 hW1 hx1
    have hX1 : W1.heap[w.heap.size]? = some (.cells #[.int .i64 t.op, .int .i64 t.a, .int .i64 t.n, .int .i64 t.m, .string t.s, .slice ao t.ks.length cap] 24 (0, 0)) := by rw [HW.out]; exact heap_alloc_new w _
    have HX1 := Lib.hid (And.intro hX1 (c_lt hX1))
    have HT := Lib.hid (tin_kept ht HB.out)
    have HIH : Hid (∀ (x : Tr) (xo : Option Addr) (xc : Nat) (W : World), x ∈ t.ks → x.nums → x.shrt → TIn W All x (.slice xo x.ks.length xc) → (dmp x).length ≤ 140737488350000 → Calls Tryd.prog 19 #[.agg #[.int .i64 x.op, .int .i64 x.a, .int .i64 x.n, .int .i64 x.m, .string x.s, .slice xo x.ks.length xc]] W fun e w' => e = .returned (.string ⟨(dmp x).toArray⟩) ∧ Below W.heap.size W w') :=
      Lib.hid (fun x xo xc W hx h1 h2 h3 h4 => ih x xo xc W (hle x hx) (by omega) h1 h2 h3 h4)
    have HNU := Lib.hid (And.intro hnu hsh)
    have hln2 : 1 + (headV t).length + (dmpL t.ks).length + 1 ≤ 140737488350000 := by rw [dmp_eq] at hlen; simp only [List.length_cons, List.length_append, List.length_nil] at hlen; omega
    have HLN := Lib.hid hln2
    have hop := (nums_of hnu).1
    have hnn := (nums_of hnu).2.1
    have hmm := (nums_of hnu).2.2
    have HHL := Lib.hid (show (nmX t.op).length ≤ 30 ∧ (nzX t.n).length ≤ 22 ∧ (mzX t.m).length ≤ 23 ∧ (szX t.s).length ≤ 602 from ⟨nmX_len _ hop.1 hop.2, nzX_len _ hnn.1 hnn.2, mzX_len _ hmm.1 hmm.2, by unfold szX; split; simp; have h1 := (encL_len t.s.data.toList).1; have h2 := shrt_of hsh; rw [bl] at h1; simp only [List.length_cons]; omega⟩)
    have hs200 := shrt_of hsh
    have HNM := Lib.hid (fun (W : World) => rName_any t.op W)
    have hnl := nm_len t.op
    obtain ⟨nb, hnb⟩ : ∃ nb : ByteArray, nb = ⟨(nmOf t.op).toArray⟩ := ⟨_, rfl⟩
    have hnbz : nb.size ≤ 8 := by rw [hnb]; simpa [ByteArray.size] using hnl
    have hnbl : nb.data.toList = nmOf t.op := by rw [hnb]
    rw [← hnb] at HNM
    have HNB := Lib.hid hnbl
    clear ih hle hN hc ht hnu hsh hlen hln2 hX1 hnb hnl hnbl
    go_enter Tryd.func19, Tryd.ntmps19
    go_upto_region 1 with fail
    rw [← HW.out]
    go_wp2_with fail
    refine (HNM.out _).mono ?_
    rintro e w2 ⟨rfl, hb2⟩
    have HB2 := Lib.hid hb2
    clear b0 b1 b2 b3 b4 b5 hxl
    obtain ⟨⟨b0, b1, b2, b3, b4, b5⟩, -, hxl⟩ := c_six (c_kept hb2 HX1.out.2 HX1.out.1)
    clear hxl hb2
    go_wp2_with fail
    refine (HNM.out _).mono ?_
    rintro e w3 ⟨rfl, hb3⟩
    have hb3' := c_thr HB2.out hb3 HB2.out.size
    have HB3 := Lib.hid hb3'
    clear b0 b1 b2 b3 b4 b5
    obtain ⟨⟨b0, b1, b2, b3, b4, b5⟩, -, hxl⟩ := c_six (c_kept hb3' HX1.out.2 HX1.out.1)
    clear hxl hb3 hb3' HB2 HNM
    go_upto_if 12 with fail
    go_cut [3] from 9 (fun s wc => ∃ p : ByteArray, s = .string p ∧ p.data.toList = 40 :: nmX t.op ∧ Below W1.heap.size W1 wc)
    case first =>
      cases hE : nb.toList.isEmpty with
      | true =>
        have hem : nmOf t.op = [] := by rw [← HNB.out]; rw [ByteArray.toList_eq] at hE; exact List.isEmpty_iff.1 hE
        have hX : nmX t.op = 63 :: Lib.itoa t.op := by unfold nmX; rw [if_pos hem]
        have hsz := itoa_sz t.op hop.1 hop.2
        have HD := Lib.hid (fun (W : World) => rDig_any t.op W hop.1 hop.2)
        obtain ⟨q, hq⟩ : ∃ q : ByteArray, q = ⟨(Lib.itoa t.op).toArray⟩ := ⟨_, rfl⟩
        rw [← hq] at HD hsz
        have HX := Lib.hid (And.intro hX hq)
        clear hX hq hem
        go_wp2_with fail
        refine (HD.out _).mono ?_
        rintro e w4 ⟨rfl, hb4⟩
        have HB4 := Lib.hid (c_thr HB3.out hb4 HB3.out.size)
        clear hb4
        go_wp2
        go_meet
        case rel => exact ⟨_, rfl, by rw [ByteArray.data_append, Array.toList_append, HX.out.1, HX.out.2]; simp, HB4.out⟩
      | false =>
        have hX : nmX t.op = nmOf t.op := by unfold nmX; rw [if_neg (fun e => by rw [ByteArray.toList_eq, HNB.out, e] at hE; cases hE)]
        have HX := Lib.hid hX
        clear hX
        go_wp2
        go_meet
        case rel => exact ⟨_, rfl, by rw [ByteArray.data_append, Array.toList_append, HX.out, HNB.out]; simp, HB3.out⟩
    case rest =>
    obtain ⟨p, rfl, hpl, hbc⟩ := hcut
    have hpz : p.size ≤ 2000 := by have h1 := ba_len hpl; have h2 := HHL.out; simp only [List.length_cons] at h1; omega
    have HS := Lib.hid (And.intro hpl hbc)
    clear hpl b0 b1 b2 b3 b4 b5
    obtain ⟨⟨b0, b1, b2, b3, b4, b5⟩, -, hxl⟩ := c_six (c_kept hbc HX1.out.2 HX1.out.1)
    clear hxl hbc HB3 hnbz
    go_upto_if 19 with fail
    go_cut [3] from 17 (fun s wc => ∃ p : ByteArray, s = .string p ∧ p.data.toList = 40 :: (nmX t.op ++ nzX t.n) ∧ Below W1.heap.size W1 wc)
    case first =>
      cases hE : (t.n != 0) with
      | true =>
        have hX : nzX t.n = 32 :: Lib.itoa t.n := by unfold nzX; rw [if_neg (fun e => by rw [e] at hE; exact absurd hE (by decide))]
        have hsz := itoa_sz t.n hnn.1 hnn.2
        have HD := Lib.hid (fun (W : World) => rDig_any t.n W hnn.1 hnn.2)
        obtain ⟨q, hq⟩ : ∃ q : ByteArray, q = ⟨(Lib.itoa t.n).toArray⟩ := ⟨_, rfl⟩
        rw [← hq] at HD hsz
        have HX := Lib.hid (And.intro hX hq)
        clear hX hq
        go_wp2_with fail
        refine (HD.out _).mono ?_
        rintro e w3 ⟨rfl, hb3⟩
        have HB3 := Lib.hid (c_thr HS.out.2 hb3 HS.out.2.size)
        clear hb3
        go_wp2
        go_meet
        case rel => exact ⟨_, rfl, by rw [ByteArray.data_append, Array.toList_append, ByteArray.data_append, Array.toList_append, HS.out.1, HX.out.1, HX.out.2]; simp, HB3.out⟩
      | false =>
        have hX : nzX t.n = [] := by unfold nzX; rw [if_pos (by simpa using hE)]
        have HX := Lib.hid hX
        clear hX
        go_wp2
        go_meet
        case rel => exact ⟨_, rfl, by rw [HX.out, List.append_nil]; exact HS.out.1, HS.out.2⟩
    case rest =>
    obtain ⟨p, rfl, hpl, hbc⟩ := hcut
    have hpz : p.size ≤ 2000 := by have h1 := ba_len hpl; have h2 := HHL.out; simp only [List.length_append, List.length_cons] at h1; omega
    have HS := Lib.hid (And.intro hpl hbc)
    clear hpl b0 b1 b2 b3 b4 b5
    obtain ⟨⟨b0, b1, b2, b3, b4, b5⟩, -, hxl⟩ := c_six (c_kept hbc HX1.out.2 HX1.out.1)
    clear hxl hbc
    go_upto_if 28 with fail
    go_cut [3] from 26 (fun s wc => ∃ p : ByteArray, s = .string p ∧ p.data.toList = 40 :: (nmX t.op ++ nzX t.n ++ mzX t.m) ∧ Below W1.heap.size W1 wc)
    case first =>
      cases hE : (t.m != 0) with
      | true =>
        have hX : mzX t.m = 32 :: 77 :: Lib.itoa t.m := by unfold mzX; rw [if_neg (fun e => by rw [e] at hE; exact absurd hE (by decide))]
        have hsz := itoa_sz t.m hmm.1 hmm.2
        have HD := Lib.hid (fun (W : World) => rDig_any t.m W hmm.1 hmm.2)
        obtain ⟨q, hq⟩ : ∃ q : ByteArray, q = ⟨(Lib.itoa t.m).toArray⟩ := ⟨_, rfl⟩
        rw [← hq] at HD hsz
        have HX := Lib.hid (And.intro hX hq)
        clear hX hq
        go_wp2_with fail
        refine (HD.out _).mono ?_
        rintro e w3 ⟨rfl, hb3⟩
        have HB3 := Lib.hid (c_thr HS.out.2 hb3 HS.out.2.size)
        clear hb3
        go_wp2
        go_meet
        case rel => exact ⟨_, rfl, by rw [ByteArray.data_append, Array.toList_append, ByteArray.data_append, Array.toList_append, HS.out.1, HX.out.1, HX.out.2]; simp, HB3.out⟩
      | false =>
        have hX : mzX t.m = [] := by unfold mzX; rw [if_pos (by simpa using hE)]
        have HX := Lib.hid hX
        clear hX
        go_wp2
        go_meet
        case rel => exact ⟨_, rfl, by rw [HX.out, List.append_nil]; exact HS.out.1, HS.out.2⟩
    case rest =>
    obtain ⟨p, rfl, hpl, hbc⟩ := hcut
    have hpz : p.size ≤ 2000 := by have h1 := ba_len hpl; have h2 := HHL.out; simp only [List.length_append, List.length_cons] at h1; omega
    have HS := Lib.hid (And.intro hpl hbc)
    clear hpl b0 b1 b2 b3 b4 b5
    obtain ⟨⟨b0, b1, b2, b3, b4, b5⟩, -, hxl⟩ := c_six (c_kept hbc HX1.out.2 HX1.out.1)
    clear hxl hbc
    go_upto_region 8 with fail
    go_cut [37] from 35 (fun s wc => ∃ b : Bool, s = .bool b ∧ (b = false ↔ t.s.size = 0) ∧ Below W1.heap.size W1 wc)
    case first =>
      by_cases hs : t.s.size = 0
      · have hE : t.s.toList.isEmpty = true := by rw [ByteArray.toList_eq]; exact List.isEmpty_iff.2 (List.eq_nil_of_length_eq_zero (by simpa using hs))
        have HZ := Lib.hid hs
        clear hs
        go_wp2
        go_meet
        case rel => exact ⟨false, rfl, ⟨fun _ => HZ.out, fun _ => rfl⟩, HS.out.2⟩
      · have hE : t.s.toList.isEmpty = false := by
          rw [ByteArray.toList_eq]
          cases h : t.s.data.toList with
          | nil => exact absurd (by have := congrArg List.length h; simpa using this) hs
          | cons _ _ => rfl
        have HZ := Lib.hid hs
        clear hs
        go_wp2
        go_meet
        case rel => exact ⟨true, rfl, ⟨fun h => (by cases h), fun h => absurd h HZ.out⟩, HS.out.2⟩
    case rest =>
    obtain ⟨b, rfl, hbs, hbc⟩ := hcut
    have HSP := HS
    have HS := Lib.hid (And.intro HSP.out.1 hbc)
    have HBS := Lib.hid hbs
    clear hbs HSP b0 b1 b2 b3 b4 b5
    obtain ⟨⟨b0, b1, b2, b3, b4, b5⟩, -, hxl⟩ := c_six (c_kept hbc HX1.out.2 HX1.out.1)
    clear hxl hbc
    go_upto_if 37 with fail
    go_cut [3] from 35 (fun s wc => ∃ p : ByteArray, s = .string p ∧ p.data.toList = 40 :: headV t ∧ Below W1.heap.size W1 wc)
    case first =>
      cases b with
      | false =>
        have hs : t.s.size = 0 := HBS.out.1 rfl
        have hX : szX t.s = [] := by unfold szX; rw [if_pos hs]
        have HX := Lib.hid hX
        clear hX hs
        go_wp2
        go_meet
        case rel => exact ⟨_, rfl, by rw [headV_eq, HX.out, List.append_nil]; exact HS.out.1, HS.out.2⟩
      | true =>
        have hs : ¬ t.s.size = 0 := fun h => by have := HBS.out.2 h; cases this
        have hX : szX t.s = 32 :: 61 :: encL t.s.data.toList := by unfold szX; rw [if_neg hs]
        have HD := Lib.hid (fun (W : World) => coded_any t.s W (by omega))
        obtain ⟨q, hq⟩ : ∃ q : ByteArray, q = ⟨(encL t.s.data.toList).toArray⟩ := ⟨_, rfl⟩
        have hsz : q.size ≤ 600 := by rw [hq]; have h1 := (encL_len t.s.data.toList).1; rw [bl] at h1; have h3 : (⟨(encL t.s.data.toList).toArray⟩ : ByteArray).size = (encL t.s.data.toList).length := ba_len rfl; omega
        rw [← hq] at HD
        have HX := Lib.hid (And.intro hX hq)
        clear hX hq hs
        go_wp2_with fail
        refine (HD.out _).mono ?_
        rintro e w3 ⟨rfl, hb3⟩
        have HB3 := Lib.hid (c_thr HS.out.2 hb3 HS.out.2.size)
        clear hb3
        go_wp2
        go_meet
        case rel => exact ⟨_, rfl, by rw [ByteArray.data_append, Array.toList_append, ByteArray.data_append, Array.toList_append, HS.out.1, headV_eq, HX.out.1, HX.out.2]; simp, HB3.out⟩
    case rest =>
    obtain ⟨p, rfl, hpl, hbc⟩ := hcut
    have HS2 := Lib.hid (And.intro hpl hbc)
    clear hpl hbc b0 b1 b2 b3 b4 b5 hpz HS
    go_wp2
    go_loopw [3, 4] (fun v i wr => ∃ (k : Nat) (o : ByteArray), i = .int .i64 k ∧ v = .string o ∧ k ≤ t.ks.length ∧ o.data.toList = 40 :: headV t ++ dmpL (t.ks.take k) ∧ Below W1.heap.size W1 wr) (fun _ i _ => t.ks.length - natOf i)
    case atStart => exact ⟨0, p, rfl, rfl, Nat.zero_le _, by rw [HS2.out.1]; simp [dmpL], HS2.out.2⟩
    case round =>
      obtain ⟨k, o, rfl, rfl, hk, ho, hbr⟩ := hrel
      clear HS2
      obtain ⟨⟨b0, b1, b2, b3, b4, b5⟩, -, hxl⟩ := c_six (c_kept hbr HX1.out.2 HX1.out.1)
      clear hxl
      have hoz : o.size + 1 ≤ 140737488350000 := by
        have h1 := ba_len ho
        have h2 := dmpL_pre t.ks k
        have h3 := HLN.out
        simp only [List.length_append, List.length_cons] at h1
        omega
      have HR := Lib.hid (And.intro ho hbr)
      clear ho hbr
      by_cases hlt : k < t.ks.length
      · have g1 : decide ((k : Int) < (t.ks.length : Int)) = true := decide_eq_true (by omega)
        have g2 : (k : Int) < (t.ks.length : Int) := by omega
        obtain ⟨x, hx⟩ : ∃ x, t.ks[k]? = some x := ⟨_, List.getElem?_eq_getElem hlt⟩
        obtain ⟨bb, oo, xo, xl, xc, rfl, hbb, hSb, hcc, hxt⟩ := kidS HT.out hx
        obtain rfl := tin_len hxt
        obtain ⟨c0, c1, c2, c3, c4, c5⟩ := ncells_kept (HR.out.2.block bb hbb) hcc
        have hbw : bb < wr.heap.size := Nat.lt_of_lt_of_le hbb HR.out.2.size
        have hst := dmpL_take hx
        have hln : o.size + 1 + (dmp x).length + 1 ≤ 140737488350000 := by
          have h1 := ba_len HR.out.1
          have h2 := dmpL_pre t.ks (k + 1)
          have h3 := HLN.out
          rw [hst] at h2
          simp only [List.length_append, List.length_cons] at h1 h2
          omega
        have HXK := Lib.hid (HIH.out x xo xc wr (List.mem_of_getElem? hx) (numsL_at (nums_ks HNU.out.1) hx) (shrtL_at (shrt_ks HNU.out.2) hx) (tin_kept hxt HR.out.2) (by omega))
        obtain ⟨q, hq⟩ : ∃ q : ByteArray, q = ⟨(dmp x).toArray⟩ := ⟨_, rfl⟩
        have hqz : o.size + 1 + q.size ≤ 140737488350000 := by rw [hq]; show o.size + 1 + (dmp x).toArray.size ≤ _; simp; omega
        rw [← hq] at HXK
        have HST := Lib.hid (And.intro hst hq)
        clear hst hq hx hcc hxt hln
        go_wp2_with fail
        refine HXK.out.mono ?_
        rintro e w5 ⟨rfl, hb5⟩
        have HB5 := Lib.hid (c_thr HR.out.2 hb5 HR.out.2.size)
        clear hb5
        go_wp2
        go_roundw
        case rel => exact ⟨k + 1, _, by go_num, rfl, by omega, by rw [ByteArray.data_append, Array.toList_append, ByteArray.data_append, Array.toList_append, HR.out.1, HST.out.1, HST.out.2]; simp, HB5.out⟩
        case measure => simp [natOf]; omega
      · have g1 : decide ((k : Int) < (t.ks.length : Int)) = false := decide_eq_false (by omega)
        have ht : t.ks.take k = t.ks := List.take_of_length_le (by omega)
        have hF : o ++ ⟨#[41]⟩ = ⟨(dmp t).toArray⟩ := by
          refine ba_of ?_
          rw [ByteArray.data_append, Array.toList_append, HR.out.1, ht, dmp_eq]
          simp
        have HF := Lib.hid hF
        clear hF ht
        go_wp2
        go_ret
        exact ⟨ret_s HF.out, c_thr HB.out HR.out.2 HB.out.size⟩
end Go.Proofs.YtppliplalfpmaaaDoor
