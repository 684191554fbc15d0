/-
  The examples of the laws of package cover hold at this translation.
-/
import Derived.Test.YtjnlifghobgkcaaC15
namespace Go.Proofs.Ytjnlifghobgkcaa
open Go.RowKit

/-- a slice of nodes laid out in one block -/
theorem tin_lit {w : World} {g : Nat} {L : List TV} (h : w.heap[g]? = some (.cells (L.flatMap pC).toArray 27 (0, 0))) (hm : L.length ≤ maxLen) (hk : ∀ x ∈ L, TIn w All x.1 x.2) {t : Tr} (ht : t.ks = L.map (·.1)) : TIn w All t (.slice (some ⟨g, 0, none⟩) L.length L.length) := by
  have hp : PRow w 0 27 (.slice (some ⟨g, 0, none⟩) L.length L.length) L :=
    ⟨pC_flat_len L, .inr ⟨g, L.length, _, rfl, Nat.zero_le _, h, Nat.le_refl _, hm, by rw [List.size_toArray, pC_flat_len], by rw [← pC_flat_len L]; exact List.take_length⟩⟩
  exact tin_row hp (fun _ _ => trivial) hk ht
theorem new4 (w : World) (o p q r : Obj) : Below w.heap.size w ((((w.alloc o).alloc p).alloc q).alloc r) ∧ ((((w.alloc o).alloc p).alloc q).alloc r).heap[w.heap.size]? = some o ∧ ((((w.alloc o).alloc p).alloc q).alloc r).heap[w.heap.size + 1]? = some p ∧ ((((w.alloc o).alloc p).alloc q).alloc r).heap[w.heap.size + 1 + 1]? = some q ∧ ((((w.alloc o).alloc p).alloc q).alloc r).heap[w.heap.size + 1 + 1 + 1]? = some r := by
  have h4 := heap_alloc_new (((w.alloc o).alloc p).alloc q) r
  refine ⟨(c_box3 w o p q).alloc (by simp; omega) _, ?_, ?_, ?_, by simpa using h4⟩
  · exact (Below.heap_alloc _ _ _ (by simp; omega)).trans ((Below.heap_alloc _ _ _ (by simp; omega)).trans (c_new1 w o p))
  · exact (Below.heap_alloc _ _ _ (by simp)).trans ((Below.heap_alloc _ _ _ (by simp)).trans (c_new2 w o p))
  · exact (Below.heap_alloc _ _ _ (by simp)).trans (c_new3 w o p q)
theorem str_kept {w w' : World} {v : Value} {l : List ByteArray} (h : StrIn w v l) (hb : Below w.heap.size w w') : StrIn w' v l := by
  obtain ⟨ao, cap, e, h1⟩ := h
  refine ⟨ao, cap, e, fun i s hi => ?_⟩
  obtain ⟨b, o, ea, hb', hc⟩ := h1 i s hi
  exact ⟨b, o, ea, Nat.lt_of_lt_of_le hb' hb.size, (hb.cell (p := ⟨b, o + i, none⟩) hb').trans hc⟩
def aT : Tr := .mk 34 0 0 0 ⟨#[97]⟩ []
def cT : Tr := .mk 34 0 0 0 ⟨#[99]⟩ []
def holeT : Tr := .mk 40 0 0 0 ⟨#[]⟩ []
def one1 : Tr := .mk 37 0 0 0 ⟨#[]⟩ [aT, holeT, .mk 41 0 0 0 ⟨#[]⟩ [cT]]
def two1 : Tr := .mk 37 0 0 0 ⟨#[]⟩ [.mk 41 0 0 0 ⟨#[]⟩ [aT], cT]
def pat1 : Tr := .mk 60 0 0 0 noS [aT, holeT, .mk 64 0 0 0 noS [cT]]
theorem pat_one : patOf one1 = .ok pat1 := by rfl
theorem pat_two : patOf two1 = .error 24 := by rfl
theorem names_one : namesOf pat1 = [⟨#[97]⟩, ⟨#[99]⟩] := by rfl
set_option linter.unusedVariables false in
set_option maxRecDepth 100000 in
set_option maxHeartbeats 1000000 in
theorem lives_any (w : World) : Calls Try.prog 9 #[] w (BPost w true) := by
  have H1 : ∀ (ao : Option Addr) (len cap : Nat) (W : World), TIn W All one1 (.slice ao len cap) → Calls Try.prog 11 #[.agg #[.int .i64 37, .int .i64 0, .int .i64 0, .int .i64 0, .string ⟨#[]⟩, .slice ao len cap]] W fun e w' => ∃ ao len cap, e = .returned (.tuple #[.agg #[.int .i64 60, .int .i64 0, .int .i64 0, .int .i64 0, .string ⟨#[]⟩, .slice ao len cap], .int .i64 0]) ∧ TIn w' (Fresh W) pat1 (.slice ao len cap) ∧ Below W.heap.size W w' := by
    intro ao len cap W h
    have := pattern_top one1 ao len cap W (by decide) h
    rw [pat_one] at this
    exact this
  have H2 : ∀ (ao : Option Addr) (len cap : Nat) (W : World), TIn W All two1 (.slice ao len cap) → Calls Try.prog 11 #[.agg #[.int .i64 37, .int .i64 0, .int .i64 0, .int .i64 0, .string ⟨#[]⟩, .slice ao len cap]] W (ErPost W 24) := by
    intro ao len cap W h
    have := pattern_top two1 ao len cap W (by decide) h
    rw [pat_two] at this
    exact this
  have HC := Lib.hid (And.intro H1 H2)
  clear H1 H2
  go_enter Try.func9, Try.ntmps9
  go_upto_region 3 with fail
  go_wp2_with fail
  have HN := new4 w (.cells #[.int .i64 34, .int .i64 0, .int .i64 0, .int .i64 0, .string ⟨#[97]⟩, .slice none 0 0] 27) (.cells #[.int .i64 34, .int .i64 0, .int .i64 0, .int .i64 0, .string ⟨#[99]⟩, .slice none 0 0] 27) (.cells #[.int .i64 34, .int .i64 0, .int .i64 0, .int .i64 0, .string ⟨#[99]⟩, .slice none 0 0] 27) (.cells #[.int .i64 34, .int .i64 0, .int .i64 0, .int .i64 0, .string ⟨#[97]⟩, .slice none 0 0, .int .i64 40, .int .i64 0, .int .i64 0, .int .i64 0, .string ⟨#[]⟩, .slice none 0 0, .int .i64 41, .int .i64 0, .int .i64 0, .int .i64 0, .string ⟨#[]⟩, .slice (some ⟨w.heap.size + 1 + 1, 0, none⟩) 1 1] 27)
  obtain ⟨U1, hU1⟩ : ∃ U1, U1 = ((((w.alloc (.cells #[.int .i64 34, .int .i64 0, .int .i64 0, .int .i64 0, .string ⟨#[97]⟩, .slice none 0 0] 27)).alloc (.cells #[.int .i64 34, .int .i64 0, .int .i64 0, .int .i64 0, .string ⟨#[99]⟩, .slice none 0 0] 27)).alloc (.cells #[.int .i64 34, .int .i64 0, .int .i64 0, .int .i64 0, .string ⟨#[99]⟩, .slice none 0 0] 27)).alloc (.cells #[.int .i64 34, .int .i64 0, .int .i64 0, .int .i64 0, .string ⟨#[97]⟩, .slice none 0 0, .int .i64 40, .int .i64 0, .int .i64 0, .int .i64 0, .string ⟨#[]⟩, .slice none 0 0, .int .i64 41, .int .i64 0, .int .i64 0, .int .i64 0, .string ⟨#[]⟩, .slice (some ⟨w.heap.size + 1 + 1, 0, none⟩) 1 1] 27)) := ⟨_, rfl⟩
  rw [← hU1] at HN ⊢
  clear hU1
  obtain ⟨hB1, ha1, hc1, hs1, hl1⟩ := HN
  have ht1 : TIn U1 All one1 (.slice (some ⟨w.heap.size + 1 + 1 + 1, 0, none⟩) 3 3) := tin_lit (L := [(aT, .slice none 0 0), (holeT, .slice none 0 0), (.mk 41 0 0 0 ⟨#[]⟩ [cT], .slice (some ⟨w.heap.size + 1 + 1, 0, none⟩) 1 1)]) hl1 (by unfold maxLen; simp) (by
    intro x hx
    simp only [List.mem_cons, List.not_mem_nil, or_false] at hx
    rcases hx with rfl | rfl | rfl
    · exact tin_leaf
    · exact tin_leaf
    · exact tin_lit (L := [(cT, .slice none 0 0)]) hs1 (by unfold maxLen; simp) (by
        intro x hx
        simp only [List.mem_cons, List.not_mem_nil, or_false] at hx
        subst hx
        exact tin_leaf) rfl) rfl
  refine (HC.out.1 _ _ _ _ ht1).mono ?_
  rintro e w1 ⟨yo, yl, yc, rfl, htp, hBc⟩
  obtain rfl := tin_len htp
  have ha2 := c_kept hBc (c_lt ha1) ha1
  have hc2 := c_kept hBc (c_lt hc1) hc1
  have hBw1 : Below w.heap.size w w1 := c_thr hB1 hBc hB1.size
  have HH := Lib.hid (And.intro ha2 (And.intro hc2 (And.intro hBw1 (tin_mono htp (fun b _ _ => (trivial : All b))))))
  clear hB1 ha1 hc1 hs1 hl1 ht1 htp hBc ha2 hc2 hBw1
  go_upto_region 4 with fail
  obtain ⟨W2, hW2⟩ : ∃ W2, W2 = w1.alloc (.cells #[.int .i64 60, .int .i64 0, .int .i64 0, .int .i64 0, .string ⟨#[]⟩, .slice yo pat1.ks.length yc] 27) := ⟨_, rfl⟩
  have hBx : Below w1.heap.size w1 W2 := by rw [hW2]; exact c_box w1 _
  have hp2 : W2.heap[w1.heap.size]? = some (.cells #[.int .i64 60, .int .i64 0, .int .i64 0, .int .i64 0, .string ⟨#[]⟩, .slice yo pat1.ks.length yc] 27 (0, 0)) := by rw [hW2]; exact heap_alloc_new w1 _
  rw [← hW2]
  obtain ⟨⟨a0, a1, a2, a3, a4, a5⟩, -, hal⟩ := c_six (c_kept hBx (c_lt HH.out.1) HH.out.1)
  obtain ⟨⟨d0, d1, d2, d3, d4, d5⟩, -, hdl⟩ := c_six (c_kept hBx (c_lt HH.out.2.1) HH.out.2.1)
  have HI := Lib.hid (And.intro hBx hp2)
  clear hW2 hBx hp2
  go_wp2_with fail
  have hB3 := c_box2 W2 (.cells #[.int .i64 34, .int .i64 0, .int .i64 0, .int .i64 0, .string ⟨#[97]⟩, .slice none 0 0] 27) (.cells #[.int .i64 41, .int .i64 0, .int .i64 0, .int .i64 0, .string ⟨#[]⟩, .slice (some ⟨W2.heap.size, 0, none⟩) 1 1, .int .i64 34, .int .i64 0, .int .i64 0, .int .i64 0, .string ⟨#[99]⟩, .slice none 0 0] 27)
  have hu1 := c_new1 W2 (.cells #[.int .i64 34, .int .i64 0, .int .i64 0, .int .i64 0, .string ⟨#[97]⟩, .slice none 0 0] 27) (.cells #[.int .i64 41, .int .i64 0, .int .i64 0, .int .i64 0, .string ⟨#[]⟩, .slice (some ⟨W2.heap.size, 0, none⟩) 1 1, .int .i64 34, .int .i64 0, .int .i64 0, .int .i64 0, .string ⟨#[99]⟩, .slice none 0 0] 27)
  have hu2 := c_new2 W2 (.cells #[.int .i64 34, .int .i64 0, .int .i64 0, .int .i64 0, .string ⟨#[97]⟩, .slice none 0 0] 27) (.cells #[.int .i64 41, .int .i64 0, .int .i64 0, .int .i64 0, .string ⟨#[]⟩, .slice (some ⟨W2.heap.size, 0, none⟩) 1 1, .int .i64 34, .int .i64 0, .int .i64 0, .int .i64 0, .string ⟨#[99]⟩, .slice none 0 0] 27)
  obtain ⟨U2, hU2⟩ : ∃ U2, U2 = ((W2.alloc (.cells #[.int .i64 34, .int .i64 0, .int .i64 0, .int .i64 0, .string ⟨#[97]⟩, .slice none 0 0] 27)).alloc (.cells #[.int .i64 41, .int .i64 0, .int .i64 0, .int .i64 0, .string ⟨#[]⟩, .slice (some ⟨W2.heap.size, 0, none⟩) 1 1, .int .i64 34, .int .i64 0, .int .i64 0, .int .i64 0, .string ⟨#[99]⟩, .slice none 0 0] 27)) := ⟨_, rfl⟩
  rw [← hU2] at hB3 hu1 hu2 ⊢
  clear hU2 a0 a1 a2 a3 a4 a5 d0 d1 d2 d3 d4 d5 hal hdl
  have ht2 : TIn U2 All two1 (.slice (some ⟨W2.heap.size + 1, 0, none⟩) 2 2) := tin_lit (L := [(.mk 41 0 0 0 ⟨#[]⟩ [aT], .slice (some ⟨W2.heap.size, 0, none⟩) 1 1), (cT, .slice none 0 0)]) hu2 (by unfold maxLen; simp) (by
    intro x hx
    simp only [List.mem_cons, List.not_mem_nil, or_false] at hx
    rcases hx with rfl | rfl
    · exact tin_lit (L := [(aT, .slice none 0 0)]) hu1 (by unfold maxLen; simp) (by
        intro x hx
        simp only [List.mem_cons, List.not_mem_nil, or_false] at hx
        subst hx
        exact tin_leaf) rfl
    · exact tin_leaf) rfl
  refine (HC.out.2 _ _ _ _ ht2).mono ?_
  rintro e w3 ⟨-, rfl, hBc⟩
  have hBw3 : Below W2.heap.size W2 w3 := c_thr hB3 hBc hB3.size
  have hBa : Below w1.heap.size w1 w3 := c_thr HI.out.1 hBw3 HI.out.1.size
  have hp3 := c_kept hBw3 (c_lt HI.out.2) HI.out.2
  have HJ := Lib.hid (And.intro hp3 (And.intro (c_thr HH.out.2.2.1 hBa HH.out.2.2.1.size) (tin_kept HH.out.2.2.2 hBa)))
  clear hB3 hu1 hu2 ht2 hBc hBw3 hBa hp3 HI HH HC
  go_upto_region 5 with fail
  obtain ⟨W4, hW4⟩ : ∃ W4, W4 = w3.alloc (.cells #[.int .i64 0, .int .i64 0, .int .i64 0, .int .i64 0, .string ⟨#[]⟩, .slice none 0 0] 27) := ⟨_, rfl⟩
  have hBx : Below w3.heap.size w3 W4 := by rw [hW4]; exact c_box w3 _
  rw [← hW4]
  have htp := tin_kept HJ.out.2.2 hBx
  have hbw := c_thr HJ.out.2.1 hBx HJ.out.2.1.size
  have hpk := c_kept hBx (c_lt HJ.out.1) HJ.out.1
  obtain ⟨⟨a0, a1, a2, a3, a4, a5⟩, -, hal⟩ := c_six hpk
  obtain ⟨b, o, xo, xl, xc, rfl, hbb, ⟨k0, -⟩, -⟩ := kid0 (i := 2) (x := .mk 64 0 0 0 noS [cT]) htp rfl
  have k0' : W4.cell? ⟨b, o + 12, none⟩ = some (.int .i64 64) := k0
  have HN := Lib.hid (names_any pat1 _ yc W4 (by decide) htp)
  rw [names_one] at HN
  have HN2 : Hid (Calls Try.prog 21 #[.agg #[.int .i64 60, .int .i64 0, .int .i64 0, .int .i64 0, .string ⟨#[]⟩, .slice (some ⟨b, o, none⟩) 3 yc]] W4 (StrPost W4 [⟨#[97]⟩, ⟨#[99]⟩])) := HN
  have HBW := Lib.hid hbw
  have hl3 : pat1.ks.length = 3 := rfl
  rw [hl3] at a5 ⊢
  clear hW4 hBx htp hpk HJ k0 HN hbw
  go_wp2_with fail
  refine HN2.out.mono ?_
  rintro e w5 ⟨v, rfl, hsv, hB5⟩
  have HV := Lib.hid (And.intro hsv hB5)
  clear hsv hB5 a0 a1 a2 a3 a4 a5 k0'
  go_wp2_with fail
  have hsx : StrIn (w5.alloc (.cells #[.string ⟨#[97]⟩, .string ⟨#[99]⟩] 9)) (.slice (some ⟨w5.heap.size, 0, none⟩) 2 2) [⟨#[97]⟩, ⟨#[99]⟩] := by
    refine ⟨_, 2, rfl, fun i s hi => ⟨w5.heap.size, 0, rfl, by simp, ?_⟩⟩
    have hc := fun j => c_cell (heap_alloc_new w5 (.cells #[.string ⟨#[97]⟩, .string ⟨#[99]⟩] 9)) j
    match i, hi with
    | 0, hi =>
      obtain rfl : (⟨#[97]⟩ : ByteArray) = s := by simpa using hi
      exact (hc _).trans rfl
    | 1, hi =>
      obtain rfl : (⟨#[99]⟩ : ByteArray) = s := by simpa using hi
      exact (hc _).trans rfl
    | i + 2, hi => simp at hi
  have hsv2 : StrIn (w5.alloc (.cells #[.string ⟨#[97]⟩, .string ⟨#[99]⟩] 9)) v [⟨#[97]⟩, ⟨#[99]⟩] := str_kept HV.out.1 (c_box w5 _)
  refine (texts_any [⟨#[97]⟩, ⟨#[99]⟩] v _ _ (by simp) hsv2 hsx).mono ?_
  rintro e w6 ⟨rfl, hB6⟩
  have hB7 := c_thr HBW.out (c_thr (c_thr HV.out.2 (c_box w5 _) HV.out.2.size) hB6 (by have := HV.out.2.size; simp; omega)) HBW.out.size
  have HZ := Lib.hid hB7
  clear hsx hsv2 hB6 hB7
  go_wp2
  go_ret
  exact ⟨rfl, HZ.out⟩
end Go.Proofs.Ytjnlifghobgkcaa
