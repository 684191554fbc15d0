/-
  dumpFields of package tree at this translation.
-/
import Derived.Test.YtppliplalfpmaaaDoorDText
namespace Go.Proofs.YtppliplalfpmaaaDoor
open Go.RowKit

theorem tab_keep {w w' : World} {B : Nat} (h : Tab w) (hB : 1 < B) (hb : Below B w w') : Tab w' := by
  unfold Tab Lib.TabIs World.var? at h ⊢
  have hg : Tryd.prog.globalNamed "internal/strconv.uint64pow10" = some 1 := by kernel_rfl
  rw [hg] at h ⊢
  simp only [Option.bind_some] at h ⊢
  rw [hb.block _ hB]
  exact h
theorem heap_old (w : World) (k : Nat) (os : Array Obj) (j : Nat) (h : j < w.heap.size) : (Sort.grow (w.drewN k) os).heap[j]? = w.heap[j]? := by
  show (w.heap ++ os)[j]? = w.heap[j]?
  rw [Array.getElem?_append_left h]
theorem itoa_any (n : Int) (h0 : -9223372036854775808 ≤ n) (h1 : n ≤ 9223372036854775807) (w : World) (ht : Tab w) : Calls Tryd.prog 46 #[.int .i64 n] w fun e w' => e = .returned (.string ⟨(Lib.itoa n).toArray⟩) ∧ Below w.heap.size w w' :=
  (Tryd.strconv_Itoa n h0 h1 w ht).mono fun e w' ⟨h, k, os, hk⟩ => ⟨h, by
    subst hk
    exact ⟨rfl, rfl, rfl, by show w.heap.size ≤ (w.heap ++ os).size; rw [Array.size_append]; omega, fun j hj => heap_old w k os j hj⟩⟩
theorem isB_lt {B b : Nat} {l : List UInt8} {w : World} (h : IsB B b l w) : b < w.heap.size ∧ B ≤ b := by
  rcases h with h | h
  · exact ⟨Lib.BuilderAt.lt h, h.1⟩
  · exact ⟨Lib.BuilderAt.lt h, h.1⟩
theorem isB_kept {B b : Nat} {l : List UInt8} {w w1 : World} (h : IsB B b l w) (hb : Below w.heap.size w w1) : IsB B b l w1 := by
  have key : ∀ p, Lib.BuilderAt 49 5 B b p (Lib.byteCells l) w → Lib.BuilderAt 49 5 B b p (Lib.byteCells l) w1 := by
    intro p hp
    have hlt := Lib.BuilderAt.lt hp
    obtain ⟨hB, v, hbk, hown, hne⟩ := hp
    exact ⟨hB, v, (hb.block b hlt).trans hbk, World.ownsRow.kept hown (row := none) ⟨hb.os, hb.tape, hb.output, hb.size, fun k hk _ => hb.block k hk⟩ (by cases hv : v.ownBlock <;> simp), hne⟩
  rcases h with h | h
  · exact Or.inl (key _ h)
  · exact Or.inr (key _ h)
theorem ok2_below {b : Nat} {w w1 : World} (hb : Below w.heap.size w w1) : OK2 b w w1 := fun k _ hk _ _ => (hb.block k (c_lt hk)).trans hk
/-- what the fields' writer keeps: the builder, the rest, and the node's own box -/
def DF (B b : Nat) (l : List UInt8) (t : Tr) (k : Value) (w : World) (z : Nat) (wc : World) : Prop := IsB B b l wc ∧ Below B w wc ∧ OK2 b w wc ∧ wc.heap[z]? = some (.cells #[.int .i64 t.op, .int .i64 t.a, .int .i64 t.n, .int .i64 t.m, .string t.s, k] 24 (0, 0)) ∧ B ≤ wc.heap.size ∧ NamT wc ∧ Tab wc
theorem df_step {B b : Nat} {l l2 : List UInt8} {t : Tr} {k : Value} {w wc w3 : World} {z : Nat} (hz : z ≠ b) (hg : 4 ≤ B) (h : DF B b l t k w z wc) (hI : IsB B b l2 w3) (hb : Below B wc w3) (ho : OK2 b wc w3) : DF B b l2 t k w z w3 := by
  obtain ⟨_, h2, h3, h4, h5, h6, h7⟩ := h
  refine ⟨hI, h2.trans hb, h3.trans ho, ho _ _ h4 (by intro e; exact hz (Option.some.inj e)) (by intro c fz e; cases e), Nat.le_trans h5 hb.size, namt_grown h6 (by omega) hb, tab_keep h7 (by omega) hb⟩
theorem df_quiet {B b : Nat} {l : List UInt8} {t : Tr} {k : Value} {w wc w3 : World} {z : Nat} (hz : z ≠ b) (hg : 4 ≤ B) (h : DF B b l t k w z wc) (hb : Below wc.heap.size wc w3) : DF B b l t k w z w3 :=
  df_step hz hg h (isB_kept h.1 hb) (hb.mono h.2.2.2.2.1) (ok2_below hb)
theorem dd_one (n : Nat) (h : n < 10) : Lib.decDigits n = [UInt8.ofNat (48 + n)] := by rw [Lib.decDigits, dif_pos h]
theorem dd_more (n : Nat) (h : ¬ n < 10) : Lib.decDigits n = Lib.decDigits (n / 10) ++ [UInt8.ofNat (48 + n % 10)] := by rw [Lib.decDigits.eq_def n, dif_neg h]
theorem dd_le : ∀ (m n : Nat), n < 10 ^ m → (Lib.decDigits n).length ≤ m ∨ m = 0
  | 0, _, _ => .inr rfl
  | m + 1, n, h => by
    by_cases h10 : n < 10
    · rw [dd_one n h10]; exact .inl (by simp)
    · rw [dd_more n h10]
      rcases dd_le m (n / 10) (by rw [Nat.pow_succ] at h; omega) with h1 | h1
      · exact .inl (by simp; omega)
      · subst h1; simp at h; omega
theorem dd_len (u : Nat) (hu : u < 18446744073709551616) : (Lib.decDigits u).length ≤ 20 := by
  rcases dd_le 20 u (by omega) with h | h
  · exact h
  · omega
theorem itoa_len (n : Int) (h0 : -9223372036854775808 ≤ n) (h1 : n ≤ 9223372036854775807) : (Lib.itoa n).length ≤ 21 := by
  unfold Lib.itoa
  split
  · have := dd_len n.natAbs (by omega); simp; omega
  · have := dd_len n.toNat (by omega); omega
theorem itoa_sz (n : Int) (h0 : -9223372036854775808 ≤ n) (h1 : n ≤ 9223372036854775807) : (⟨(Lib.itoa n).toArray⟩ : ByteArray).size ≤ 21 := by
  have := itoa_len n h0 h1
  simpa [ByteArray.size] using this
def nmX (op : Int) : List UInt8 := if nmOf op = [] then 63 :: Lib.itoa op else nmOf op
def nzX (n : Int) : List UInt8 := if n = 0 then [] else 32 :: Lib.itoa n
def mzX (n : Int) : List UInt8 := if n = 0 then [] else 32 :: 77 :: Lib.itoa n
def szX (s : ByteArray) : List UInt8 := if s.size = 0 then [] else 32 :: 61 :: encL s.data.toList
theorem headV_eq (t : Tr) : headV t = nmX t.op ++ nzX t.n ++ mzX t.m ++ szX t.s := rfl
theorem nzX_len (n : Int) (h0 : -9223372036854775808 ≤ n) (h1 : n ≤ 9223372036854775807) : (nzX n).length ≤ 22 := by
  have := itoa_len n h0 h1
  unfold nzX
  split
  · simp
  · simp; omega
theorem mzX_len (n : Int) (h0 : -9223372036854775808 ≤ n) (h1 : n ≤ 9223372036854775807) : (mzX n).length ≤ 23 := by
  have := itoa_len n h0 h1
  unfold mzX
  split
  · simp
  · simp; omega
theorem nmX_len (n : Int) (h0 : -9223372036854775808 ≤ n) (h1 : n ≤ 9223372036854775807) : (nmX n).length ≤ 30 := by
  have := itoa_len n h0 h1
  have := nm_len n
  unfold nmX
  split
  · simp; omega
  · omega
set_option linter.unusedVariables false in
set_option maxRecDepth 100000 in
set_option maxHeartbeats 2000000 in
theorem dumpFields_any (B b : Nat) (l : List UInt8) (t : Tr) (k : Value) (w : World) (h : IsB B b l w) (hlen : l.length + (headV t).length ≤ 140737488354000) (hBw : B ≤ w.heap.size) (hg : 4 ≤ B) (hN : NamT w) (hT : Tab w)
    (ho0 : -9223372036854775808 ≤ t.op) (ho1 : t.op ≤ 9223372036854775807) (hn0 : -9223372036854775808 ≤ t.n) (hn1 : t.n ≤ 9223372036854775807) (hm0 : -9223372036854775808 ≤ t.m) (hm1 : t.m ≤ 9223372036854775807) :
    Calls Tryd.prog 37 #[.pointer (some ⟨b, 0, none⟩), .agg #[.int .i64 t.op, .int .i64 t.a, .int .i64 t.n, .int .i64 t.m, .string t.s, k]] w (WP B b (l ++ headV t) w) := by
  obtain ⟨W1, hW1⟩ : ∃ W1, W1 = w.alloc (.cells #[.int .i64 t.op, .int .i64 t.a, .int .i64 t.n, .int .i64 t.m, .string t.s, k] 24) := ⟨_, rfl⟩
  have hB1 : Below w.heap.size w W1 := by rw [hW1]; exact c_box w _
  have hx1 : W1.heap[w.heap.size]? = some (.cells #[.int .i64 t.op, .int .i64 t.a, .int .i64 t.n, .int .i64 t.m, .string t.s, k] 24 (0, 0)) := by rw [hW1]; exact heap_alloc_new w _
  have hzb : w.heap.size ≠ b := by have := (isB_lt h).1; omega
  have HD : Hid (DF B b l t k w w.heap.size W1) := Lib.hid ⟨isB_kept h hB1, hB1.mono hBw, ok2_below hB1, hx1, Nat.le_trans hBw hB1.size, namt_grown hN (namt_lt hN) hB1, tab_keep hT (by omega) (hB1.mono hBw)⟩
  have HW := Lib.hid hW1
  have HG := Lib.hid (And.intro hzb hg)
  have HO := Lib.hid (And.intro ho0 ho1)
  have HN := Lib.hid (And.intro hn0 hn1)
  have HM := Lib.hid (And.intro hm0 hm1)
  have HLN := Lib.hid hlen
  have HNM := Lib.hid (fun W (h : NamT W) => name_any t.op W h)
  have HIO := Lib.hid (fun W (h : Tab W) => itoa_any t.op ho0 ho1 W h)
  have HIN := Lib.hid (fun W (h : Tab W) => itoa_any t.n hn0 hn1 W h)
  have HIM := Lib.hid (fun W (h : Tab W) => itoa_any t.m hm0 hm1 W h)
  obtain ⟨⟨b0, b1, b2, b3, b4, b5⟩, -, hxl⟩ := c_six hx1
  clear hB1 hW1 hlen h hBw hN hT ho0 ho1 hn0 hn1 hm0 hm1 hg hzb hx1
  go_enter Tryd.func37, Tryd.ntmps37
  go_upto_region 1 with fail
  rw [← HW.out]
  clear HW
  go_wp2_with fail
  refine (HNM.out _ HD.out.2.2.2.2.2.1).mono ?_
  rintro e w2 ⟨rfl, rfl⟩
  go_upto_if 9 with fail
  go_cut [4] from 8 (fun s wc => s = .string ⟨(nmX t.op).toArray⟩ ∧ DF B b l t k w w.heap.size wc)
  case first =>
    cases hE : (nmOf t.op).isEmpty with
    | true =>
      have hX : nmX t.op = 63 :: Lib.itoa t.op := by unfold nmX; rw [if_pos (List.isEmpty_iff.1 hE)]
      have HX := Lib.hid hX
      clear hX
      have hsz := itoa_sz t.op HO.out.1 HO.out.2
      obtain ⟨p, hp⟩ : ∃ p : ByteArray, p = ⟨(Lib.itoa t.op).toArray⟩ := ⟨_, rfl⟩
      rw [← hp] at HIO hsz
      have HP := Lib.hid hp
      clear hp
      go_wp2_with fail
      refine (HIO.out _ HD.out.2.2.2.2.2.2).mono ?_
      rintro e w3 ⟨rfl, hb3⟩
      have HD3 := Lib.hid (df_quiet HG.out.1 HG.out.2 HD.out hb3)
      clear hb3
      go_wp2
      go_meet
      case rel =>
        refine ⟨?_, HD3.out⟩
        rw [HX.out, HP.out]
        exact congrArg Value.string (ByteArray.ext (Array.ext' (by simp)))
    | false =>
      have hX : nmX t.op = nmOf t.op := by unfold nmX; rw [if_neg (fun e => by rw [e] at hE; cases hE)]
      have HX := Lib.hid hX
      clear hX
      go_wp2
      go_meet
      case rel => exact ⟨by rw [HX.out], HD.out⟩
  case rest =>
    obtain ⟨rfl, hD⟩ := hcut
    have HDc := Lib.hid hD
    clear hD HD HNM HIO b0 b1 b2 b3 b4 b5
    have hsz := nmX_len t.op HO.out.1 HO.out.2
    obtain ⟨p, hp⟩ : ∃ p : ByteArray, p = ⟨(nmX t.op).toArray⟩ := ⟨_, rfl⟩
    have hps : p.size ≤ 30 := by rw [hp]; simpa [ByteArray.size] using hsz
    have hpl : p.data.toList = nmX t.op := by rw [hp]
    rw [← hp]
    have HPL := Lib.hid hpl
    clear hp hsz hpl
    go_wp2_with fail
    refine (text_k p HDc.out.1 (by have := HLN.out; omega) HDc.out.2.2.2.2.1).mono ?_
    rintro e w3 ⟨rfl, hI3, hb3, ho3⟩
    rw [HPL.out] at hI3
    have HD3 := Lib.hid (df_step HG.out.1 HG.out.2 HDc.out hI3 hb3 ho3)
    obtain ⟨⟨b0, b1, b2, b3, b4, b5⟩, -, hxl⟩ := c_six HD3.out.2.2.2.1
    clear hxl hI3 hb3 ho3 HDc HPL hps
    go_upto_if 19 with fail
    go_cut [] from 17 (fun wc => DF B b (l ++ nmX t.op ++ nzX t.n) t k w w.heap.size wc)
    case first =>
      cases hE : (t.n != 0) with
      | true =>
        have hX : nzX t.n = 32 :: Lib.itoa t.n := by unfold nzX; rw [if_neg (fun e => by rw [e] at hE; exact absurd hE (by decide))]
        have HX := Lib.hid hX
        clear hX
        have hsz := itoa_sz t.n HN.out.1 HN.out.2
        obtain ⟨p, hp⟩ : ∃ p : ByteArray, p = ⟨(Lib.itoa t.n).toArray⟩ := ⟨_, rfl⟩
        rw [← hp] at HIN hsz
        have HP := Lib.hid (And.intro hp hsz)
        clear hp
        go_wp2_with fail
        refine (HIN.out _ HD3.out.2.2.2.2.2.2).mono ?_
        rintro e w3 ⟨rfl, hb3⟩
        have HE := Lib.hid (df_quiet HG.out.1 HG.out.2 HD3.out hb3)
        clear hb3
        go_wp2_with fail
        refine (text_k _ HE.out.1 (by have h1 := HLN.out; have h2 := HP.out.2; have h3 := nmX_len t.op HO.out.1 HO.out.2; have h4 := nzX_len t.n HN.out.1 HN.out.2; simp only [ByteArray.size_append, List.length_append, show (⟨#[32]⟩ : ByteArray).size = 1 from rfl]; omega) HE.out.2.2.2.2.1).mono ?_
        rintro e w4 ⟨rfl, hI4, hb4, ho4⟩
        have hI5 : IsB B b (l ++ nmX t.op ++ nzX t.n) w4 := by
          rw [HX.out]
          have e5 : ((⟨#[32]⟩ : ByteArray) ++ p).data.toList = 32 :: Lib.itoa t.n := by rw [HP.out.1]; simp
          rw [e5] at hI4
          simpa using hI4
        have HF := Lib.hid (df_step HG.out.1 HG.out.2 HE.out hI5 hb4 ho4)
        clear hI4 hb4 ho4 hI5
        go_wp2
        go_meet
        case rel => exact HF.out
      | false =>
        have hX : nzX t.n = [] := by unfold nzX; rw [if_pos (by simpa using hE)]
        have HX := Lib.hid hX
        clear hX
        go_wp2
        go_meet
        case rel => rw [HX.out, List.append_nil]; exact HD3.out
    case rest =>
    have HD4 := Lib.hid hcut
    clear hcut HD3 HIN b0 b1 b2 b3 b4 b5
    obtain ⟨⟨b0, b1, b2, b3, b4, b5⟩, -, hxl⟩ := c_six HD4.out.2.2.2.1
    clear hxl
    go_upto_if 28 with fail
    go_cut [] from 26 (fun wc => DF B b (l ++ nmX t.op ++ nzX t.n ++ mzX t.m) t k w w.heap.size wc)
    case first =>
      cases hE : (t.m != 0) with
      | true =>
        have hX : mzX t.m = 32 :: 77 :: Lib.itoa t.m := by unfold mzX; rw [if_neg (fun e => by rw [e] at hE; exact absurd hE (by decide))]
        have HX := Lib.hid hX
        clear hX
        have hsz := itoa_sz t.m HM.out.1 HM.out.2
        obtain ⟨p, hp⟩ : ∃ p : ByteArray, p = ⟨(Lib.itoa t.m).toArray⟩ := ⟨_, rfl⟩
        rw [← hp] at HIM hsz
        have HP := Lib.hid (And.intro hp hsz)
        clear hp
        go_wp2_with fail
        refine (HIM.out _ HD4.out.2.2.2.2.2.2).mono ?_
        rintro e w3 ⟨rfl, hb3⟩
        have HE := Lib.hid (df_quiet HG.out.1 HG.out.2 HD4.out hb3)
        clear hb3
        go_wp2_with fail
        refine (text_k _ HE.out.1 (by have h1 := HLN.out; have h2 := HP.out.2; have h3 := nmX_len t.op HO.out.1 HO.out.2; have h4 := nzX_len t.n HN.out.1 HN.out.2; simp only [ByteArray.size_append, List.length_append, show (⟨#[32, 77]⟩ : ByteArray).size = 2 from rfl]; omega) HE.out.2.2.2.2.1).mono ?_
        rintro e w4 ⟨rfl, hI4, hb4, ho4⟩
        have hI5 : IsB B b (l ++ nmX t.op ++ nzX t.n ++ mzX t.m) w4 := by
          rw [HX.out]
          have e5 : ((⟨#[32, 77]⟩ : ByteArray) ++ p).data.toList = 32 :: 77 :: Lib.itoa t.m := by rw [HP.out.1]; simp
          rw [e5] at hI4
          simpa using hI4
        have HF := Lib.hid (df_step HG.out.1 HG.out.2 HE.out hI5 hb4 ho4)
        clear hI4 hb4 ho4 hI5
        go_wp2
        go_meet
        case rel => exact HF.out
      | false =>
        have hX : mzX t.m = [] := by unfold mzX; rw [if_pos (by simpa using hE)]
        have HX := Lib.hid hX
        clear hX
        go_wp2
        go_meet
        case rel => rw [HX.out, List.append_nil]; exact HD4.out
    case rest =>
    have HD5 := Lib.hid hcut
    clear hcut HD4 HIM b0 b1 b2 b3 b4 b5
    obtain ⟨⟨b0, b1, b2, b3, b4, b5⟩, -, hxl⟩ := c_six HD5.out.2.2.2.1
    clear hxl
    by_cases hs : t.s.size = 0
    · have hE : t.s.toList.isEmpty = true := by rw [ByteArray.toList_eq]; exact List.isEmpty_iff.2 (List.eq_nil_of_length_eq_zero (by simpa using hs))
      have hX : szX t.s = [] := by unfold szX; rw [if_pos hs]
      have HX := Lib.hid hX
      clear hX hs
      go_wp2
      go_end0
      refine ⟨rfl, ?_, HD5.out.2.1, HD5.out.2.2.1⟩
      rw [headV_eq, HX.out]
      simpa using HD5.out.1
    · have hE : t.s.toList.isEmpty = false := by
        rw [ByteArray.toList_eq]
        cases h : t.s.data.toList with
        | nil => exact absurd (by have := congrArg List.length h; simpa using this) hs
        | cons _ _ => rfl
      have hX : szX t.s = 32 :: 61 :: encL t.s.data.toList := by unfold szX; rw [if_neg hs]
      have hbd : (l ++ nmX t.op ++ nzX t.n ++ mzX t.m).length + 2 + (encL t.s.data.toList).length ≤ 140737488354100 ∧ l.length + t.s.size ≤ 140737488354000 := by
        have h1 := HLN.out
        rw [headV_eq, hX] at h1
        have h2 := (encL_len t.s.data.toList).2
        simp only [List.length_append, List.length_cons, Array.length_toList] at h1 h2 ⊢
        have h3 : t.s.data.size = t.s.size := rfl
        omega
      have HX := Lib.hid (And.intro hX hbd)
      clear hX hs hbd
      go_wp2_with fail
      refine (text_k ⟨#[32, 61]⟩ HD5.out.1 (by have := HX.out.2.1; show _ + 2 ≤ _; omega) HD5.out.2.2.2.2.1).mono ?_
      rintro e w6 ⟨rfl, hI6, hb6, ho6⟩
      have HD6 := Lib.hid (df_step HG.out.1 HG.out.2 HD5.out hI6 hb6 ho6)
      clear hI6 hb6 ho6 b0 b1 b2 b3 b4 b5
      obtain ⟨⟨b0, b1, b2, b3, b4, b5⟩, -, hxl⟩ := c_six HD6.out.2.2.2.1
      clear hxl
      go_wp2_with fail
      refine (dumpText_any B b _ t.s _ HD6.out.1 (by have h1 := HX.out.2.1; have h2 : ([32, 61] : List UInt8).length = 2 := rfl; rw [List.length_append]; omega) HD6.out.2.2.2.2.1).mono ?_
      rintro e w7 ⟨rfl, hI7, hb7, ho7⟩
      have HD7 := Lib.hid (df_step HG.out.1 HG.out.2 HD6.out hI7 hb7 ho7)
      clear hI7 hb7 ho7
      go_wp2
      go_end0
      refine ⟨rfl, ?_, HD7.out.2.1, HD7.out.2.2.1⟩
      rw [headV_eq, HX.out.1]
      simpa using HD7.out.1
end Go.Proofs.YtppliplalfpmaaaDoor
