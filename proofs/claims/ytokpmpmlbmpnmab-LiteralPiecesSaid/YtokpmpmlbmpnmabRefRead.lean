/-
  What the reference's Read answers at this translation: for every string of at most 4000000 bytes and every offset: the same plain function of the bytes as the program's.
-/
import Derived.Test.YtokpmpmlbmpnmabRead
import Derived.Laws.IdiomStrings
import Derived.Laws.BytesArg
namespace Go.Proofs.Ytokpmpmlbmpnmab
open Go.RowKit

theorem own_form {w : World} {B : Nat} {v : Value} {l : List UInt8} (h : w.ownsRow B 5 1 v l.length (Lib.byteCells l)) : ∃ ao cap, v = .slice ao l.length cap := by
  rcases h.2 with ⟨hv, h0⟩ | ⟨g, cap, cur, hv, _⟩
  · exact ⟨none, 0, by rw [hv, h0]⟩
  · exact ⟨_, _, hv⟩
theorem conv_own {w : World} {B : Nat} {v : Value} {l : List UInt8} (h : w.ownsRow B 5 1 v l.length (Lib.byteCells l)) : (convert 35 9 v).run Try.prog w = .ok (.string ⟨l.toArray⟩) w := by
  rcases h.2 with ⟨hv, h0⟩ | ⟨g, cap, cur, hv, _⟩
  · have : l = [] := List.length_eq_zero_iff.1 h0
    subst this
    rw [hv, run_convert_bytes_nil w 35 5 Try.underlying35 Try.underlying5 0 0 9 Try.underlying9]
    rfl
  · rw [hv]
    refine run_convert_bytes_back w 35 9 5 _ _ _ Try.underlying35 Try.underlying5 Try.underlying9 ?_
    intro j hj
    exact h.cells (by rw [hv]; rfl) j _ (by simp [Lib.byteCells, hj])
theorem own_drawn {w : World} {B : Nat} {v : Value} {n : Nat} {xs : List Value} (h : w.ownsRow B 5 1 v n xs) (m : Nat) : (w.drewN m).ownsRow B 5 1 v n xs := h

theorem new_cell (w : World) (u : Value) (n : Nat) : ∀ (j : Nat) (x : Value), [u][j]? = some x → ((w.drewN n).alloc (.cells #[u] 5)).cell? ((⟨w.heap.size, 0, none⟩ : Addr).add j) = some x := by
  intro j x hj
  match j, hj with
  | 0, hj =>
    simp at hj
    subst hj
    have e := heap_alloc_new (w.drewN n) (.cells #[u] 5)
    exact (Lib.cell_of_heap e 0).trans rfl
  | j + 1, hj => simp at hj

theorem oneR_ok {r : Int × Nat × Int} (h : r.2.2 = 0) : oneR r = .returned (.tuple #[.int .u8 r.1, .int .i64 ((r.2.1 : Int) + 1), .int .i64 0]) := by
  simp [oneR, h]
theorem oneR_err {r : Int × Nat × Int} (h : ¬ r.2.2 = 0) : oneR r = .returned (.tuple #[.int .u8 r.1, .int .i64 0, .int .i64 r.2.2]) := by
  simp [oneR, h]

set_option maxHeartbeats 4000000 in
set_option maxRecDepth 100000 in
theorem refread_in (s : ByteArray) (k : Nat) (q : UInt8) (w : World) (hs : s.size ≤ 4000000) (hk : k < s.size) (hx : s[k] = q) (hq : (q.toNat : Int) = 39 ∨ (q.toNat : Int) = 34) :
    Calls Try.prog 9 #[.string s, .int .i64 k] w fun e w' => e = rdR (rdV q s.size (s.data.toList.drop (k + 1)) (k + 1) []) ∧ Below w.heap.size w w' := by
  obtain ⟨i0, hi, hz0, hz1, hz2⟩ := info_parts info5
  obtain ⟨R, hR⟩ : ∃ R, R = rdV q s.size (s.data.toList.drop (k + 1)) (k + 1) [] := ⟨_, rfl⟩
  rw [← hR]
  have HR := Lib.hid hR
  clear hR
  have hk0 : decide ((k : Int) < 0) = false := by simp
  have hk1 : decide (s.size ≤ k) = false := by simpa using hk
  have h39 : ((q.toNat : Int) != 39) = false ∨ (((q.toNat : Int) != 39) = true ∧ ((q.toNat : Int) != 34) = false) := by
    rcases hq with h | h
    · exact Or.inl (by simp [h])
    · exact Or.inr ⟨by simp [h], by simp [h]⟩
  clear hq
  rcases h39 with h39 | ⟨h39, h34⟩
  all_goals
    go_enter Try.func9, Try.ntmps9
    go_wp2
    go_loopw [7, 8] (fun v i wr => ∃ (j n : Nat) (out : List UInt8), i = .int .i64 j ∧ j ≤ s.size ∧ s.size - j < n ∧ R = rdV q n (s.data.toList.drop j) j out ∧ out.length ≤ 65536 ∧ wr.ownsRow w.heap.size 5 1 v out.length (Lib.byteCells out) ∧ Below w.heap.size w wr) (fun _ i _ => s.size - (intOf i).toNat)
    case atStart =>
      exact ⟨k + 1, s.size, [], by go_num, by omega, by omega, HR.out, by simp, World.ownsRow_nil _ _ _ _, Below.refl _ w⟩
    case round =>
      obtain ⟨j, n, out, rfl, hj, hn, hRj, ho, hown, hbw⟩ := hrel
      obtain ⟨ao, cap, rfl⟩ := own_form hown
      have HJ := Lib.hid hRj
      clear hRj HR
      have hsz : w.heap.size ≤ wr.heap.size := hbw.size
      by_cases hjs : j < s.size
      · obtain ⟨c, hc⟩ : ∃ c : UInt8, s[j] = c := ⟨_, rfl⟩
        obtain ⟨m, rfl⟩ : ∃ m, n = m + 1 := ⟨n - 1, by omega⟩
        have hj1 : decide (s.size ≤ j) = false := by simpa using hjs
        by_cases hcq : c = q
        · subst hcq
          have hcv : ∀ nq, (convert 35 9 (.slice ao out.length cap)).run Try.prog (wr.drewN nq) = .ok (.string ⟨out.toArray⟩) (wr.drewN nq) := fun nq => conv_own (own_drawn hown nq)
          go_wp2
          go_quiet (fail)
          go_wp2
          go_ret3
          refine ⟨?_, below_drawn hbw _⟩
          rw [HJ.out, drop_at s j hjs, hc, rd_end]
          simp [rdR]
        · have hcb := beq_f (ne_int hcq)
          by_cases hln : (c.toNat : Int) = 10 ∨ (c.toNat : Int) = 13
          · have hfin : R = ([], 0, 22) := by rw [HJ.out, drop_at s j hjs, hc, rd_line hcq hln]
            have HF := Lib.hid hfin
            clear hfin HJ
            rcases hln with hln | hln
            · have h10 := beq_t hln
              clear hln
              go_wp2
              go_quiet (fail)
              go_wp2
              go_ret3
              refine ⟨?_, below_drawn hbw _⟩
              rw [HF.out]
              rfl
            · have h10 : ((c.toNat : Int) == 10) = false := beq_f (by omega)
              have h13 := beq_t hln
              clear hln
              go_wp2
              go_quiet (fail)
              go_wp2
              go_ret3
              refine ⟨?_, below_drawn hbw _⟩
              rw [HF.out]
              rfl
          · have h10 : ((c.toNat : Int) == 10) = false := beq_f (by omega)
            have h13 : ((c.toNat : Int) == 13) = false := beq_f (by omega)
            have DJ := drop_at s j hjs
            rw [hc] at DJ
            by_cases h92 : (c.toNat : Int) = 92
            · have h92b := beq_t h92
              have U := unit_esc (t := s.data.toList.drop (j + 1)) h92
              have A := fun W => one_any s j W hs (by omega)
              by_cases he : (esc (s.data.toList.drop (j + 1))).2.2 = 0
              · rw [oneR_ok he] at A
                have hu0 : (unitV (c :: s.data.toList.drop (j + 1))).2.2 = 0 := by rw [U]; exact he
                have hel := esc_len _ he
                rw [List.length_drop] at hel
                have hel2 : (esc (s.data.toList.drop (j + 1))).2.1 ≤ s.size - (j + 1) := by simpa using hel.1
                have ub := esc_b (s.data.toList.drop (j + 1))
                by_cases ho2 : out.length = 65536
                · have hfin : R = ([], 0, 9) := by rw [HJ.out, DJ, rd_long hcq hln hu0 ho2]
                  have HF := Lib.hid hfin
                  have hlb : ((out.length : Int) == 65536) = true := by rw [ho2]; rfl
                  clear hfin HJ DJ hln U hu0 ho2 he hel hel2 h92 ub
                  obtain ⟨un, hun⟩ : ∃ un : Int, un = ((esc (s.data.toList.drop (j + 1))).2.1 : Int) + 1 := ⟨_, rfl⟩
                  obtain ⟨ub, hub⟩ : ∃ ub, ub = (esc (s.data.toList.drop (j + 1))).1 := ⟨_, rfl⟩
                  simp only [← hun, ← hub] at A
                  clear hun hub
                  have HA := Lib.hid A
                  clear A
                  go_wp2
                  go_quiet (fail)
                  go_wp2_with (go_at_call 23; refine (HA.out _).mono ?_; rintro e w' ⟨rfl, hw⟩; subst hw)
                  go_ret3
                  refine ⟨?_, below_drawn hbw _⟩
                  rw [HF.out]
                  rfl
                · have hfin : R = rdV q m (s.data.toList.drop (j + ((esc (s.data.toList.drop (j + 1))).2.1 + 1))) (j + ((esc (s.data.toList.drop (j + 1))).2.1 + 1)) (out ++ [byt (esc (s.data.toList.drop (j + 1))).1]) := by
                    rw [HJ.out, ← List.drop_drop, DJ, rd_go hcq hln hu0 ho2, U]
                  have HF := Lib.hid hfin
                  have hlb : ((out.length : Int) == 65536) = false := beq_f (by omega)
                  have hol : out.length < 65536 := by omega
                  clear hfin HJ DJ hln U hu0 ho2 he hel h92
                  obtain ⟨un, hun⟩ : ∃ un, un = (esc (s.data.toList.drop (j + 1))).2.1 := ⟨_, rfl⟩
                  obtain ⟨uv, huv⟩ : ∃ uv, uv = (esc (s.data.toList.drop (j + 1))).1 := ⟨_, rfl⟩
                  simp only [← hun, ← huv] at A hel2 ub HF
                  clear hun huv
                  have HA := Lib.hid A
                  clear A
                  go_wp2
                  go_quiet (fail)
                  go_wp2_with (first | (go_at_call 23; refine (HA.out _).mono ?_; rintro e w' ⟨rfl, hw⟩; subst hw) | (at_builtin; refine wpList_append_own _ rfl _ _ 35 rfl w.heap.size 5 i0 (.int .u8 0) 1 1 Try.underlying35 hi hz0 hz1 hz2 rfl (by decide) _ _ _ rfl ((own_drawn hown _).alloc _) ⟨_, 0, none⟩ 1 1 [.int .u8 uv] rfl rfl ?c1 ?c2 ?c3 ?c4 ?c5 ?_))
                  case c1 => exact new_cell wr _ _
                  case c2 => intro u hu; simp at hu; subst hu; rfl
                  case c3 => unfold maxLen; omega
                  case c4 => omega
                  case c5 => simp; omega
                  intro v' w2 hown' hgrow _
                  have hown2 : w2.ownsRow w.heap.size 5 1 v' (out ++ [byt uv]).length (Lib.byteCells (out ++ [byt uv])) := by
                    rw [bc_snoc _ _ ub.1 ub.2]
                    simpa using hown'
                  have hb2 : Below w.heap.size w w2 := ((below_drawn hbw _).alloc (by simpa using hsz) _).grown hgrow (by simp; omega) (fun k hk => (hown.lt k hk).1)
                  clear hown' hgrow hown hbw
                  go_wp2
                  go_roundw
                  case rel => exact ⟨j + (un + 1), m, out ++ [byt uv], by go_num, by omega, by omega, HF.out, by simp; omega, hown2, hb2⟩
                  case measure => simp [intOf]; omega
              · have hu0 : ¬ (unitV (c :: s.data.toList.drop (j + 1))).2.2 = 0 := by rw [U]; exact he
                rw [oneR_err he] at A
                have hfin : R = ([], 0, (esc (s.data.toList.drop (j + 1))).2.2) := by rw [HJ.out, DJ, rd_err hcq hln hu0, U]
                have HF := Lib.hid hfin
                clear hfin HJ DJ hln U hu0 h92
                obtain ⟨ue, hue⟩ : ∃ ue, ue = (esc (s.data.toList.drop (j + 1))).2.2 := ⟨_, rfl⟩
                obtain ⟨uv, huv⟩ : ∃ uv, uv = (esc (s.data.toList.drop (j + 1))).1 := ⟨_, rfl⟩
                simp only [← hue, ← huv] at A HF he
                clear hue huv
                have hne : (ue != 0) = true := by simpa using he
                clear he
                have HA := Lib.hid A
                clear A
                go_wp2
                go_quiet (fail)
                go_wp2_with (go_at_call 23; refine (HA.out _).mono ?_; rintro e w' ⟨rfl, hw⟩; subst hw)
                go_ret3
                refine ⟨?_, below_drawn hbw _⟩
                rw [HF.out]
                rfl
            · have h92b := beq_f h92
              have U := unit_one (t := s.data.toList.drop (j + 1)) h92
              have hu0 : (unitV (c :: s.data.toList.drop (j + 1))).2.2 = 0 := by rw [U]
              by_cases ho2 : out.length = 65536
              · have hfin : R = ([], 0, 9) := by rw [HJ.out, DJ, rd_long hcq hln hu0 ho2]
                have HF := Lib.hid hfin
                have hlb : ((out.length : Int) == 65536) = true := by rw [ho2]; rfl
                clear hfin HJ DJ hln U hu0 ho2 h92
                go_wp2
                go_quiet (fail)
                go_wp2
                go_ret3
                refine ⟨?_, below_drawn hbw _⟩
                rw [HF.out]
                rfl
              · have hfin : R = rdV q m (s.data.toList.drop (j + 1)) (j + 1) (out ++ [byt (c.toNat : Int)]) := by
                  rw [HJ.out, ← List.drop_drop, DJ, rd_go hcq hln hu0 ho2, U]
                have HF := Lib.hid hfin
                have hlb : ((out.length : Int) == 65536) = false := beq_f (by omega)
                have hol : out.length < 65536 := by omega
                have ub : (0 : Int) ≤ c.toNat ∧ (c.toNat : Int) ≤ 255 := by have := c.toNat_lt; omega
                clear hfin HJ DJ hln U hu0 ho2 h92
                go_wp2
                go_quiet (fail)
                go_wp2_with (at_builtin; refine wpList_append_own _ rfl _ _ 35 rfl w.heap.size 5 i0 (.int .u8 0) 1 1 Try.underlying35 hi hz0 hz1 hz2 rfl (by decide) _ _ _ rfl ((own_drawn hown _).alloc _) ⟨_, 0, none⟩ 1 1 [.int .u8 (c.toNat : Int)] rfl rfl ?c1 ?c2 ?c3 ?c4 ?c5 ?_)
                case c1 => exact new_cell wr _ _
                case c2 => intro u hu; simp at hu; subst hu; rfl
                case c3 => unfold maxLen; omega
                case c4 => omega
                case c5 => simp; omega
                intro v' w2 hown' hgrow _
                have hown2 : w2.ownsRow w.heap.size 5 1 v' (out ++ [byt (c.toNat : Int)]).length (Lib.byteCells (out ++ [byt (c.toNat : Int)])) := by
                  rw [bc_snoc _ _ ub.1 ub.2]
                  simpa using hown'
                have hb2 : Below w.heap.size w w2 := ((below_drawn hbw _).alloc (by simpa using hsz) _).grown hgrow (by simp; omega) (fun k hk => (hown.lt k hk).1)
                clear hown' hgrow hown hbw
                go_wp2
                go_roundw
                case rel => exact ⟨j + 1, m, out ++ [byt (c.toNat : Int)], by go_num, by omega, by omega, HF.out, by simp; omega, hown2, hb2⟩
                case measure => simp [intOf]; omega
      · have hfin : R = ([], 0, 8) := by rw [HJ.out, drop_out s j hjs, rd_nil]
        have HF := Lib.hid hfin
        have hj1 : decide (s.size ≤ j) = true := by simpa using hjs
        clear hfin HJ
        go_wp2
        go_ret3
        refine ⟨?_, hbw⟩
        rw [HF.out]
        rfl

set_option maxHeartbeats 1000000 in
theorem refread_out (s : ByteArray) (k : Int) (w : World) (hk : k < 0 ∨ s.size ≤ k) :
    Calls Try.prog 9 #[.string s, .int .i64 k] w fun e w' => e = .returned (.tuple #[.string ⟨#[]⟩, .int .i64 0, .int .i64 1]) ∧ Below w.heap.size w w' := by
  by_cases h0 : k < 0
  · have hk0 : decide (k < 0) = true := by simpa using h0
    clear hk
    go_enter Try.func9, Try.ntmps9
    go_wp2
    go_ret3
    exact ⟨rfl, Below.refl _ w⟩
  · have hk0 : decide (k < 0) = false := by simpa using h0
    have h1 : (s.size : Int) ≤ k := by omega
    have hk1 : decide ((s.size : Int) ≤ k) = true := by simpa using h1
    clear hk
    go_enter Try.func9, Try.ntmps9
    go_wp2
    go_ret3
    exact ⟨rfl, Below.refl _ w⟩

set_option maxHeartbeats 1000000 in
theorem refread_no (s : ByteArray) (k : Nat) (q : UInt8) (w : World) (hk : k < s.size) (hx : s[k] = q) (hq : ¬ ((q.toNat : Int) = 39 ∨ (q.toNat : Int) = 34)) :
    Calls Try.prog 9 #[.string s, .int .i64 k] w fun e w' => e = .returned (.tuple #[.string ⟨#[]⟩, .int .i64 0, .int .i64 1]) ∧ Below w.heap.size w w' := by
  have hk0 : decide ((k : Int) < 0) = false := by simp
  have hk1 : decide (s.size ≤ k) = false := by simpa using hk
  have h39 : ((q.toNat : Int) != 39) = true := by rw [bne_iff_ne]; exact fun h => hq (Or.inl h)
  have h34 : ((q.toNat : Int) != 34) = true := by rw [bne_iff_ne]; exact fun h => hq (Or.inr h)
  clear hq
  go_enter Try.func9, Try.ntmps9
  go_wp2
  go_ret3
  exact ⟨rfl, Below.refl _ w⟩
end Go.Proofs.Ytokpmpmlbmpnmab
