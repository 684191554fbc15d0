/-
  dump and Dump of package tree at this translation: the tree's dump as one text.
-/
import Derived.Test.YtppliplalfpmaaaDoorDFields
namespace Go.Proofs.YtppliplalfpmaaaDoor
open Go.RowKit

/-- the numbers of a tree are ints -/
def i64B (n : Int) : Prop := -9223372036854775808 ≤ n ∧ n ≤ 9223372036854775807
mutual
def Tr.nums : Tr → Prop | .mk o _ n m _ ks => (i64B o ∧ i64B n ∧ i64B m) ∧ numsL ks
def numsL : List Tr → Prop | [] => True | t :: r => t.nums ∧ numsL r
end
theorem nums_of {t : Tr} (h : t.nums) : i64B t.op ∧ i64B t.n ∧ i64B t.m := by cases t; exact h.1
theorem nums_ks {t : Tr} (h : t.nums) : numsL t.ks := by cases t; exact h.2
theorem numsL_at : ∀ {l : List Tr} {i : Nat} {x : Tr}, numsL l → l[i]? = some x → x.nums
  | [], _, _, _, h => by simp at h
  | y :: r, 0, x, h, hx => by simp at hx; subst hx; exact h.1
  | y :: r, i + 1, x, h, hx => numsL_at h.2 (by simpa using hx)
theorem dmpL_pre (l : List Tr) (k : Nat) : (dmpL (l.take k)).length ≤ (dmpL l).length := by
  have h : dmpL l = dmpL (l.take k) ++ dmpL (l.drop k) := by rw [← dmpL_app, List.take_append_drop]
  rw [h, List.length_append]
  omega
/-- what dump's loop keeps besides: the node's own box -/
def DK (B b : Nat) (l : List UInt8) (t : Tr) (k : Value) (w : World) (z : Nat) (wc : World) : Prop := DF B b l t k w z wc
set_option linter.unusedVariables false in
set_option maxRecDepth 100000 in
set_option maxHeartbeats 2000000 in
theorem dump_any : ∀ (N : Nat) (t : Tr) (ao : Option Addr) (cap : Nat) (B b : Nat) (l : List UInt8) (w : World), t.cnt ≤ N → N ≤ 100000 → t.nums → TIn w (fun x => x < B) t (.slice ao t.ks.length cap) → IsB B b l w → l.length + (dmp t).length ≤ 140737488350000 → B ≤ w.heap.size → 4 ≤ B → NamT w → Tab w →
    Calls Tryd.prog 30 #[.pointer (some ⟨b, 0, none⟩), .agg #[.int .i64 t.op, .int .i64 t.a, .int .i64 t.n, .int .i64 t.m, .string t.s, .slice ao t.ks.length cap]] w (WP B b (l ++ dmp t) w) := by
  intro N
  induction N with
  | zero => intro t _ _ _ _ _ _ h; have := cnt_pos t; omega
  | succ N ih =>
    intro t ao cap B b l w hc hN hnu ht h hlen hBw hg hNm hTb
    have hle : ∀ x ∈ t.ks, x.cnt ≤ N := fun x hx => by
      obtain ⟨i, hi⟩ := List.getElem?_of_mem hx
      have := cnt_kid hi
      omega
    have hkl : t.ks.length ≤ 100000 := by have := cntL_len t.ks; have := cnt_ks t; omega
    obtain ⟨W1, hW1⟩ : ∃ W1, W1 = w.alloc (.cells #[.int .i64 t.op, .int .i64 t.a, .int .i64 t.n, .int .i64 t.m, .string t.s, .slice ao t.ks.length cap] 24) := ⟨_, rfl⟩
    have hB1 : Below w.heap.size w W1 := by rw [hW1]; exact c_box w _
    have hx1 : W1.heap[w.heap.size]? = some (.cells #[.int .i64 t.op, .int .i64 t.a, .int .i64 t.n, .int .i64 t.m, .string t.s, .slice ao t.ks.length cap] 24 (0, 0)) := by rw [hW1]; exact heap_alloc_new w _
    have hzb : w.heap.size ≠ b := by have := (isB_lt h).1; omega
    have HD : Hid (DF B b l t (.slice ao t.ks.length cap) w w.heap.size W1) := Lib.hid ⟨isB_kept h hB1, hB1.mono hBw, ok2_below hB1, hx1, Nat.le_trans hBw hB1.size, namt_grown hNm (namt_lt hNm) hB1, tab_keep hTb (by omega) (hB1.mono hBw)⟩
    have HW := Lib.hid hW1
    have HG := Lib.hid (And.intro hzb (And.intro hg (show B ≤ w.heap.size from hBw)))
    have HLN := Lib.hid (show l.length + 1 + (headV t).length + (dmpL t.ks).length + 1 ≤ 140737488350000 from by rw [dmp_eq] at hlen; simp only [List.length_cons, List.length_append, List.length_nil] at hlen; omega)
    have HT := Lib.hid ht
    have HNU := Lib.hid (And.intro hnu hle)
    have HIH : Hid (∀ (x : Tr) (xo : Option Addr) (xc : Nat) (l' : List UInt8) (W : World), x.cnt ≤ N → x.nums → TIn W (fun y => y < B) x (.slice xo x.ks.length xc) → IsB B b l' W → l'.length + (dmp x).length ≤ 140737488350000 → B ≤ W.heap.size → NamT W → Tab W → Calls Tryd.prog 30 #[.pointer (some ⟨b, 0, none⟩), .agg #[.int .i64 x.op, .int .i64 x.a, .int .i64 x.n, .int .i64 x.m, .string x.s, .slice xo x.ks.length xc]] W (WP B b (l' ++ dmp x) W)) :=
      Lib.hid (fun x xo xc l' W h1 h2 h3 h4 h5 h6 h7 h8 => ih x xo xc B b l' W h1 (by omega) h2 h3 h4 h5 h6 hg h7 h8)
    clear ih hle hN hB1 hW1 hlen h hBw hNm hTb hg hzb ht hnu hc hx1
    go_enter Tryd.func30, Tryd.ntmps30
    go_upto_region 1 with fail
    rw [← HW.out]
    clear HW
    go_wp2_with fail
    refine (byte_k 40 HD.out.1 (by have := HLN.out; omega) HD.out.2.2.2.2.1).mono ?_
    rintro e w2 ⟨rfl, hI2, hb2, ho2⟩
    have HD2 := Lib.hid (df_step HG.out.1 HG.out.2.1 HD.out hI2 hb2 ho2)
    clear hI2 hb2 ho2 HD
    obtain ⟨⟨b0, b1, b2, b3, b4, b5⟩, -, hxl⟩ := c_six HD2.out.2.2.2.1
    clear hxl
    go_wp2_with fail
    refine (dumpFields_any B b _ t (.slice ao t.ks.length cap) _ HD2.out.1 (by have := HLN.out; simp only [List.length_append, List.length_cons, List.length_nil]; omega) HD2.out.2.2.2.2.1 HG.out.2.1 HD2.out.2.2.2.2.2.1 HD2.out.2.2.2.2.2.2 (nums_of HNU.out.1).1.1 (nums_of HNU.out.1).1.2 (nums_of HNU.out.1).2.1.1 (nums_of HNU.out.1).2.1.2 (nums_of HNU.out.1).2.2.1 (nums_of HNU.out.1).2.2.2).mono ?_
    rintro e w3 ⟨rfl, hI3, hb3, ho3⟩
    have HD3 := Lib.hid (df_step HG.out.1 HG.out.2.1 HD2.out hI3 hb3 ho3)
    clear hI3 hb3 ho3 HD2 b0 b1 b2 b3 b4 b5
    obtain ⟨⟨b0, b1, b2, b3, b4, b5⟩, -, hxl⟩ := c_six HD3.out.2.2.2.1
    clear hxl
    obtain ⟨H, hH⟩ : ∃ H, H = l ++ [40] ++ headV t := ⟨_, rfl⟩
    rw [← hH] at HD3
    have HH := Lib.hid (And.intro hH (show H.length + (dmpL t.ks).length + 1 ≤ 140737488350000 from by have := HLN.out; rw [hH]; simp only [List.length_append, List.length_cons, List.length_nil]; omega))
    clear hH HLN
    go_wp2
    go_loopw [14] (fun i wr => ∃ k : Nat, i = .int .i64 k ∧ k ≤ t.ks.length ∧ DF B b (H ++ dmpL (t.ks.take k)) t (.slice ao t.ks.length cap) w w.heap.size wr) (fun i _ => t.ks.length - natOf i)
    case atStart => exact ⟨0, rfl, Nat.zero_le _, by simpa [dmpL] using HD3.out⟩
    case round =>
      obtain ⟨k, rfl, hk, hD⟩ := hrel
      clear HD3 b0 b1 b2 b3 b4 b5
      have HDr := Lib.hid hD
      clear hD
      obtain ⟨⟨b0, b1, b2, b3, b4, b5⟩, -, hxl⟩ := c_six HDr.out.2.2.2.1
      clear hxl
      by_cases hlt : k < t.ks.length
      · have g1 : decide ((k : Int) < (t.ks.length : Int)) = true := decide_eq_true (by omega)
        have g2 : (k : Int) < (t.ks.length : Int) := by omega
        obtain ⟨x, hx⟩ : ∃ x, t.ks[k]? = some x := ⟨_, List.getElem?_eq_getElem hlt⟩
        obtain ⟨bb, oo, xo, xl, xc, rfl, hbb, hSb, hcc, hxt⟩ := kidS HT.out hx
        obtain rfl := tin_len hxt
        obtain ⟨c0, c1, c2, c3, c4, c5⟩ := ncells_kept (HDr.out.2.1.block bb hSb) hcc
        have hbw : bb < wr.heap.size := Nat.lt_of_lt_of_le hSb HDr.out.2.2.2.2.1
        have hst : H ++ dmpL (t.ks.take (k + 1)) = H ++ dmpL (t.ks.take k) ++ [32] ++ dmp x := by rw [dmpL_take hx]; simp
        have hln : (H ++ dmpL (t.ks.take (k + 1))).length + 1 ≤ 140737488350000 := by
          have h1 := dmpL_pre t.ks (k + 1)
          have h2 := HH.out.2
          rw [List.length_append]
          omega
        obtain ⟨M, hM⟩ : ∃ M, M = H ++ dmpL (t.ks.take k) := ⟨_, rfl⟩
        rw [← hM] at hst HDr
        rw [hst] at hln
        have HST := Lib.hid (And.intro hst (show M.length + 1 + (dmp x).length + 1 ≤ 140737488350000 from by simp only [List.length_append, List.length_cons, List.length_nil] at hln; omega))
        have HXT := Lib.hid (And.intro hxt (And.intro (HNU.out.2 x (List.mem_of_getElem? hx)) (numsL_at (nums_ks HNU.out.1) hx)))
        clear hst hln hM hx hcc hxt
        obtain ⟨W2, hW2⟩ : ∃ W2, W2 = wr.alloc (.cells #[.int .i64 x.op, .int .i64 x.a, .int .i64 x.n, .int .i64 x.m, .string x.s, .slice xo x.ks.length xc] 24) := ⟨_, rfl⟩
        have hb2 : Below wr.heap.size wr W2 := by rw [hW2]; exact c_box wr _
        have hx2 : W2.heap[wr.heap.size]? = some (.cells #[.int .i64 x.op, .int .i64 x.a, .int .i64 x.n, .int .i64 x.m, .string x.s, .slice xo x.ks.length xc] 24 (0, 0)) := by rw [hW2]; exact heap_alloc_new wr _
        have HD4 := Lib.hid (df_quiet HG.out.1 HG.out.2.1 HDr.out hb2)
        have hwb : wr.heap.size ≠ b := by have := (isB_lt HDr.out.1).1; omega
        have HX2 := Lib.hid (And.intro hx2 hwb)
        have HW2 := Lib.hid hW2
        clear hb2 hx2 hW2 hwb
        go_upto_region 6 with fail
        rw [← HW2.out]
        go_wp2_with fail
        refine (byte_k 32 HD4.out.1 (by have := HST.out.2; omega) HD4.out.2.2.2.2.1).mono ?_
        rintro e w5 ⟨rfl, hI5, hb5, ho5⟩
        have HD5 := Lib.hid (df_step HG.out.1 HG.out.2.1 HD4.out hI5 hb5 ho5)
        have hx5 := ho5 _ _ HX2.out.1 (by intro e; exact HX2.out.2 (Option.some.inj e)) (by intro c fz e; cases e)
        clear hI5 hb5 ho5 c0 c1 c2 c3 c4 c5
        obtain ⟨⟨d0, d1, d2, d3, d4, d5⟩, -, hxl⟩ := c_six hx5
        clear hxl hx5
        go_wp2_with fail
        refine (HIH.out x xo xc _ _ HXT.out.2.1 HXT.out.2.2 (tin_below HXT.out.1 HD5.out.2.1 (fun _ _ h => h)) HD5.out.1 (by have := HST.out.2; simp only [List.length_append, List.length_cons, List.length_nil]; omega) HD5.out.2.2.2.2.1 HD5.out.2.2.2.2.2.1 HD5.out.2.2.2.2.2.2).mono ?_
        rintro e w6 ⟨rfl, hI6, hb6, ho6⟩
        have HD6 := Lib.hid (df_step HG.out.1 HG.out.2.1 HD5.out hI6 hb6 ho6)
        clear hI6 hb6 ho6
        go_wp2
        go_roundw
        case rel => exact ⟨k + 1, by go_num, by omega, by rw [HST.out.1]; exact HD6.out⟩
        case measure => simp [natOf]; omega
      · have g1 : decide ((k : Int) < (t.ks.length : Int)) = false := decide_eq_false (by omega)
        obtain rfl : k = t.ks.length := by omega
        rw [List.take_length] at HDr
        go_wp2_with fail
        refine (byte_k 41 HDr.out.1 (by have := HH.out.2; rw [List.length_append]; omega) HDr.out.2.2.2.2.1).mono ?_
        rintro e w5 ⟨rfl, hI5, hb5, ho5⟩
        have HD5 := Lib.hid (df_step HG.out.1 HG.out.2.1 HDr.out hI5 hb5 ho5)
        clear hI5 hb5 ho5
        go_wp2
        go_end0
        refine ⟨rfl, ?_, HD5.out.2.1, HD5.out.2.2.1⟩
        rw [dmp_eq]
        have := HD5.out.1
        rw [HH.out.1] at this
        simpa using this
end Go.Proofs.YtppliplalfpmaaaDoor
