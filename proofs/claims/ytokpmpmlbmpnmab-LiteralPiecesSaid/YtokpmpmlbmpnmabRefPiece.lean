/-
  What the reference's Piece answers at this translation: for every string of at most 4000000 bytes and every offset: the same plain function of the bytes as the program's.
-/
import Derived.Test.YtokpmpmlbmpnmabRefRead
import Derived.Test.YtokpmpmlbmpnmabPiece
namespace Go.Proofs.Ytokpmpmlbmpnmab
open Go.RowKit

theorem new_cell0 (w : World) (u : Value) : ∀ (j : Nat) (x : Value), [u][j]? = some x → (w.alloc (.cells #[u] 5)).cell? ((⟨w.heap.size, 0, none⟩ : Addr).add j) = some x := by
  intro j x hj
  match j, hj with
  | 0, hj =>
    simp at hj
    subst hj
    have e := heap_alloc_new w (.cells #[u] 5)
    exact (Lib.cell_of_heap e 0).trans rfl
  | j + 1, hj => simp at hj

theorem one_u8 (n : Int) : ∀ u ∈ [Value.int .u8 n], u.oneCell' = true := by intro u hu; simp at hu; subst hu; rfl
theorem dol_yes {c : UInt8} {t : List UInt8} (h : dol (c :: t) = true) : (c.toNat : Int) = 36 ∧ ∃ y r, t = y :: r ∧ (y.toNat : Int) = 123 := by
  match t with
  | [] => simp [dol, Lib.hasPrefix] at h
  | y :: r =>
    simp [dol, Lib.hasPrefix] at h
    exact ⟨by rw [← h.1]; rfl, y, r, rfl, by rw [← h.2]; rfl⟩
theorem dol_mk {c y : UInt8} {r : List UInt8} (h : (c.toNat : Int) = 36) (h1 : (y.toNat : Int) = 123) : dol (c :: y :: r) = true := by
  have e1 : c = 36 := UInt8.toNat_inj.1 (by show c.toNat = 36; omega)
  have e2 : y = 123 := UInt8.toNat_inj.1 (by show y.toNat = 123; omega)
  subst e1 e2
  rfl

set_option maxHeartbeats 8000000 in
set_option maxRecDepth 100000 in
theorem refpiece_in (s : ByteArray) (k : Nat) (q : UInt8) (w : World) (hs : s.size ≤ 4000000) (hk : k < s.size) (hx : s[k] = q) (hq : (q.toNat : Int) = 96 ∨ (q.toNat : Int) = 125) :
    Calls Try.prog 12 #[.string s, .int .i64 k] w fun e w' => e = pcR (pcV s.size (s.data.toList.drop (k + 1)) (k + 1) []) ∧ Below w.heap.size w w' := by
  obtain ⟨i0, hi, hz0, hz1, hz2⟩ := info_parts info5
  obtain ⟨R, hR⟩ : ∃ R, R = pcV s.size (s.data.toList.drop (k + 1)) (k + 1) [] := ⟨_, rfl⟩
  rw [← hR]
  have HR := Lib.hid hR
  clear hR
  have hk0 : decide ((k : Int) < 0) = false := by simp
  have hk1 : decide (s.size ≤ k) = false := by simpa using hk
  have h96 : ((q.toNat : Int) != 96) = false ∨ (((q.toNat : Int) != 96) = true ∧ ((q.toNat : Int) != 125) = false) := by
    rcases hq with h | h
    · exact Or.inl (by simp [h])
    · exact Or.inr ⟨by simp [h], by simp [h]⟩
  clear hq
  rcases h96 with h96 | ⟨h96, h125⟩
  all_goals
    go_enter Try.func12, Try.ntmps12
    go_wp2
    go_loopw [8, 9] (fun v i wr => ∃ (j n : Nat) (out : List UInt8), i = .int .i64 j ∧ j ≤ s.size ∧ s.size - j < n ∧ R = pcV n (s.data.toList.drop j) j out ∧ out.length ≤ 65536 ∧ wr.ownsRow w.heap.size 5 1 v out.length (Lib.byteCells out) ∧ Below w.heap.size w wr) (fun _ i _ => s.size - (intOf i).toNat)
    case atStart =>
      exact ⟨k + 1, s.size, [], by go_num, by omega, by omega, HR.out, by simp, World.ownsRow_nil _ _ _ _, Below.refl _ w⟩
    case round =>
      obtain ⟨j, n, out, rfl, hj, hn, hRj, ho, hown, hbw⟩ := hrel
      obtain ⟨ao, cap, rfl⟩ := own_form hown
      have HJ := Lib.hid hRj
      clear hRj HR
      have hsz : w.heap.size ≤ wr.heap.size := hbw.size
      by_cases hjs : j < s.size
      · obtain ⟨c, hc⟩ : ∃ c : UInt8, s[j] = c := ⟨_, rfl⟩
        obtain ⟨m, rfl⟩ : ∃ m, n = m + 1 := ⟨n - 1, by omega⟩
        have hj1 : decide (s.size ≤ j) = false := by simpa using hjs
        have DJ := drop_at s j hjs
        rw [hc] at DJ
        by_cases hcq : (c.toNat : Int) = 96
        · have hfin : R = (out, j + 1, false, 0) := by rw [HJ.out, DJ, pc_end hcq]
          have HF := Lib.hid hfin
          have hcb := beq_t hcq
          clear hfin HJ DJ hcq
          have hcv : (convert 35 9 (.slice ao out.length cap)).run Try.prog wr = .ok (.string ⟨out.toArray⟩) wr := conv_own hown
          go_wp2
          refine bodyPost_ret (v := .tuple #[.string ⟨out.toArray⟩, .int .i64 ((j : Int) + 1), .bool false, .int .i64 0]) (by simp [results, Try.results12, go_sem]) rfl ⟨?_, hbw⟩
          rw [HF.out]
          simp [pcR]
        · have hcb := beq_f hcq
          by_cases hdl : dol (c :: s.data.toList.drop (j + 1)) = true
          · have hfin : R = (out, j + 2, true, 0) := by rw [HJ.out, DJ, pc_open hcq hdl]
            have HF := Lib.hid hfin
            obtain ⟨d36, y, r, ht, hy⟩ := dol_yes hdl
            have hj2 : j + 1 < s.size := by
              by_cases h : j + 1 < s.size
              · exact h
              · rw [drop_out s (j + 1) h] at ht; simp at ht
            have hyy : s[j + 1] = y := by
              rw [drop_at s (j + 1) hj2] at ht
              exact (List.cons.inj ht).1
            have h36 := beq_t d36
            have h123 := beq_t hy
            clear hfin HJ DJ hcq hdl ht d36 hy
            have hcv : (convert 35 9 (.slice ao out.length cap)).run Try.prog wr = .ok (.string ⟨out.toArray⟩) wr := conv_own hown
            go_wp2
            refine bodyPost_ret (v := .tuple #[.string ⟨out.toArray⟩, .int .i64 ((j : Int) + 2), .bool true, .int .i64 0]) (by simp [results, Try.results12, go_sem]) rfl ⟨?_, hbw⟩
            rw [HF.out]
            simp [pcR]
          · by_cases d36 : (c.toNat : Int) = 36
            · have h36 := beq_t d36
              have h92 : ¬ (c.toNat : Int) = 92 := by omega
              have hnx : (¬ j + 1 < s.size) ∨ (∃ (hj2 : j + 1 < s.size) (y : UInt8), s[j + 1] = y ∧ ((y.toNat : Int) == 123) = false) := by
                by_cases hj2 : j + 1 < s.size
                · refine Or.inr ⟨hj2, _, rfl, beq_f fun h123 => hdl ?_⟩
                  rw [drop_at s (j + 1) hj2]
                  exact dol_mk d36 h123
                · exact Or.inl hj2
              rcases hnx with hj2 | ⟨hj2, y, hyy, h123⟩
              all_goals
                have h92b := beq_f h92
                have U := unit_one (t := s.data.toList.drop (j + 1)) h92
                have hu0 : (unitV (c :: s.data.toList.drop (j + 1))).2.2 = 0 := by rw [U]
                by_cases ho2 : out.length = 65536
                · have hfin : R = ([], 0, false, 9) := by rw [HJ.out, DJ, pc_long hcq hdl hu0 ho2]
                  have HF := Lib.hid hfin
                  have hlb : ((out.length : Int) == 65536) = true := by rw [ho2]; rfl
                  clear hfin HJ DJ hcq hdl d36 U hu0 ho2 h92
                  go_wp2
                  refine bodyPost_ret (v := .tuple #[.string ⟨#[]⟩, .int .i64 0, .bool false, .int .i64 9]) (by simp [results, Try.results12, go_sem]) rfl ⟨?_, hbw⟩
                  rw [HF.out]
                  rfl
                · have hfin : R = pcV m (s.data.toList.drop (j + 1)) (j + 1) (out ++ [byt (c.toNat : Int)]) := by
                    rw [HJ.out, ← List.drop_drop, DJ, pc_go hcq hdl hu0 ho2, U]
                  have HF := Lib.hid hfin
                  have hlb : ((out.length : Int) == 65536) = false := beq_f (by omega)
                  have hol : out.length < 65536 := by omega
                  have ub : (0 : Int) ≤ c.toNat ∧ (c.toNat : Int) ≤ 255 := by have := c.toNat_lt; omega
                  clear hfin HJ DJ hcq hdl d36 U hu0 ho2 h92
                  go_wp2_with (at_builtin; refine wpList_append_own _ rfl _ _ 35 rfl w.heap.size 5 i0 (.int .u8 0) 1 1 Try.underlying35 hi hz0 hz1 hz2 rfl (by decide) _ _ _ rfl (hown.alloc _) ⟨_, 0, none⟩ 1 1 [.int .u8 (c.toNat : Int)] rfl rfl ?_ ?_ ?_ ?_ ?_ ?_; exact new_cell0 wr _; exact one_u8 _; (unfold maxLen; omega); omega; (simp; omega))
                  intro v' w2 hown' hgrow _
                  have hown2 : w2.ownsRow w.heap.size 5 1 v' (out ++ [byt (c.toNat : Int)]).length (Lib.byteCells (out ++ [byt (c.toNat : Int)])) := by
                    rw [bc_snoc _ _ ub.1 ub.2]
                    simpa using hown'
                  have hb2 : Below w.heap.size w w2 := ((hbw).alloc (hsz) _).grown hgrow (by simp; omega) (fun k hk => (hown.lt k hk).1)
                  clear hown' hgrow hown hbw
                  go_wp2
                  go_roundw
                  case rel => exact ⟨j + 1, m, out ++ [byt (c.toNat : Int)], by go_num, by omega, by omega, HF.out, by simp; omega, hown2, hb2⟩
                  case measure => simp [intOf]; omega
            · have h36 := beq_f d36
              by_cases h92 : (c.toNat : Int) = 92
              · have h92b := beq_t h92
                have U := unit_esc (t := s.data.toList.drop (j + 1)) h92
                have A := fun W => one_any s j W hs (by omega)
                by_cases he : (esc (s.data.toList.drop (j + 1))).2.2 = 0
                · rw [oneR_ok he] at A
                  have hu0 : (unitV (c :: s.data.toList.drop (j + 1))).2.2 = 0 := by rw [U]; exact he
                  have hel := esc_len _ he
                  rw [List.length_drop] at hel
                  have hel2 : (esc (s.data.toList.drop (j + 1))).2.1 ≤ s.size - (j + 1) := by simpa using hel.1
                  have ub := esc_b (s.data.toList.drop (j + 1))
                  by_cases ho2 : out.length = 65536
                  · have hfin : R = ([], 0, false, 9) := by rw [HJ.out, DJ, pc_long hcq hdl hu0 ho2]
                    have HF := Lib.hid hfin
                    have hlb : ((out.length : Int) == 65536) = true := by rw [ho2]; rfl
                    clear hfin HJ DJ hcq hdl d36 U hu0 ho2 he hel hel2 h92 ub
                    obtain ⟨un, hun⟩ : ∃ un : Int, un = ((esc (s.data.toList.drop (j + 1))).2.1 : Int) + 1 := ⟨_, rfl⟩
                    obtain ⟨ub, hub⟩ : ∃ ub, ub = (esc (s.data.toList.drop (j + 1))).1 := ⟨_, rfl⟩
                    simp only [← hun, ← hub] at A
                    clear hun hub
                    have HA := Lib.hid A
                    clear A
                    go_wp2_with (go_at_call 23; refine (HA.out _).mono ?_; rintro e w' ⟨rfl, hw⟩; subst hw)
                    refine bodyPost_ret (v := .tuple #[.string ⟨#[]⟩, .int .i64 0, .bool false, .int .i64 9]) (by simp [results, Try.results12, go_sem]) rfl ⟨?_, hbw⟩
                    rw [HF.out]
                    rfl
                  · have hfin : R = pcV m (s.data.toList.drop (j + ((esc (s.data.toList.drop (j + 1))).2.1 + 1))) (j + ((esc (s.data.toList.drop (j + 1))).2.1 + 1)) (out ++ [byt (esc (s.data.toList.drop (j + 1))).1]) := by
                      rw [HJ.out, ← List.drop_drop, DJ, pc_go hcq hdl hu0 ho2, U]
                    have HF := Lib.hid hfin
                    have hlb : ((out.length : Int) == 65536) = false := beq_f (by omega)
                    have hol : out.length < 65536 := by omega
                    clear hfin HJ DJ hcq hdl d36 U hu0 ho2 he hel h92
                    obtain ⟨un, hun⟩ : ∃ un, un = (esc (s.data.toList.drop (j + 1))).2.1 := ⟨_, rfl⟩
                    obtain ⟨uv, huv⟩ : ∃ uv, uv = (esc (s.data.toList.drop (j + 1))).1 := ⟨_, rfl⟩
                    simp only [← hun, ← huv] at A hel2 ub HF
                    clear hun huv
                    have HA := Lib.hid A
                    clear A
                    go_wp2_with (first | (go_at_call 23; refine (HA.out _).mono ?_; rintro e w' ⟨rfl, hw⟩; subst hw) | (at_builtin; refine wpList_append_own _ rfl _ _ 35 rfl w.heap.size 5 i0 (.int .u8 0) 1 1 Try.underlying35 hi hz0 hz1 hz2 rfl (by decide) _ _ _ rfl (hown.alloc _) ⟨_, 0, none⟩ 1 1 [.int .u8 uv] rfl rfl ?_ ?_ ?_ ?_ ?_ ?_; exact new_cell0 wr _; exact one_u8 _; (unfold maxLen; omega); omega; (simp; omega)))
                    intro v' w2 hown' hgrow _
                    have hown2 : w2.ownsRow w.heap.size 5 1 v' (out ++ [byt uv]).length (Lib.byteCells (out ++ [byt uv])) := by
                      rw [bc_snoc _ _ ub.1 ub.2]
                      simpa using hown'
                    have hb2 : Below w.heap.size w w2 := ((hbw).alloc (hsz) _).grown hgrow (by simp; omega) (fun k hk => (hown.lt k hk).1)
                    clear hown' hgrow hown hbw
                    go_wp2
                    go_roundw
                    case rel => exact ⟨j + (un + 1), m, out ++ [byt uv], by go_num, by omega, by omega, HF.out, by simp; omega, hown2, hb2⟩
                    case measure => simp [intOf]; omega
                · have hu0 : ¬ (unitV (c :: s.data.toList.drop (j + 1))).2.2 = 0 := by rw [U]; exact he
                  rw [oneR_err he] at A
                  have hfin : R = ([], 0, false, (esc (s.data.toList.drop (j + 1))).2.2) := by rw [HJ.out, DJ, pc_err hcq hdl hu0, U]
                  have HF := Lib.hid hfin
                  clear hfin HJ DJ hcq hdl d36 U hu0 h92
                  obtain ⟨ue, hue⟩ : ∃ ue, ue = (esc (s.data.toList.drop (j + 1))).2.2 := ⟨_, rfl⟩
                  obtain ⟨uv, huv⟩ : ∃ uv, uv = (esc (s.data.toList.drop (j + 1))).1 := ⟨_, rfl⟩
                  simp only [← hue, ← huv] at A HF he
                  clear hue huv
                  have hne : (ue != 0) = true := by simpa using he
                  clear he
                  have HA := Lib.hid A
                  clear A
                  go_wp2_with (go_at_call 23; refine (HA.out _).mono ?_; rintro e w' ⟨rfl, hw⟩; subst hw)
                  refine bodyPost_ret (v := .tuple #[.string ⟨#[]⟩, .int .i64 0, .bool false, .int .i64 ue]) (by simp [results, Try.results12, go_sem]) rfl ⟨?_, hbw⟩
                  rw [HF.out]
                  rfl
              · have h92b := beq_f h92
                have U := unit_one (t := s.data.toList.drop (j + 1)) h92
                have hu0 : (unitV (c :: s.data.toList.drop (j + 1))).2.2 = 0 := by rw [U]
                by_cases ho2 : out.length = 65536
                · have hfin : R = ([], 0, false, 9) := by rw [HJ.out, DJ, pc_long hcq hdl hu0 ho2]
                  have HF := Lib.hid hfin
                  have hlb : ((out.length : Int) == 65536) = true := by rw [ho2]; rfl
                  clear hfin HJ DJ hcq hdl d36 U hu0 ho2 h92
                  go_wp2
                  refine bodyPost_ret (v := .tuple #[.string ⟨#[]⟩, .int .i64 0, .bool false, .int .i64 9]) (by simp [results, Try.results12, go_sem]) rfl ⟨?_, hbw⟩
                  rw [HF.out]
                  rfl
                · have hfin : R = pcV m (s.data.toList.drop (j + 1)) (j + 1) (out ++ [byt (c.toNat : Int)]) := by
                    rw [HJ.out, ← List.drop_drop, DJ, pc_go hcq hdl hu0 ho2, U]
                  have HF := Lib.hid hfin
                  have hlb : ((out.length : Int) == 65536) = false := beq_f (by omega)
                  have hol : out.length < 65536 := by omega
                  have ub : (0 : Int) ≤ c.toNat ∧ (c.toNat : Int) ≤ 255 := by have := c.toNat_lt; omega
                  clear hfin HJ DJ hcq hdl d36 U hu0 ho2 h92
                  go_wp2_with (at_builtin; refine wpList_append_own _ rfl _ _ 35 rfl w.heap.size 5 i0 (.int .u8 0) 1 1 Try.underlying35 hi hz0 hz1 hz2 rfl (by decide) _ _ _ rfl (hown.alloc _) ⟨_, 0, none⟩ 1 1 [.int .u8 (c.toNat : Int)] rfl rfl ?_ ?_ ?_ ?_ ?_ ?_; exact new_cell0 wr _; exact one_u8 _; (unfold maxLen; omega); omega; (simp; omega))
                  intro v' w2 hown' hgrow _
                  have hown2 : w2.ownsRow w.heap.size 5 1 v' (out ++ [byt (c.toNat : Int)]).length (Lib.byteCells (out ++ [byt (c.toNat : Int)])) := by
                    rw [bc_snoc _ _ ub.1 ub.2]
                    simpa using hown'
                  have hb2 : Below w.heap.size w w2 := ((hbw).alloc (hsz) _).grown hgrow (by simp; omega) (fun k hk => (hown.lt k hk).1)
                  clear hown' hgrow hown hbw
                  go_wp2
                  go_roundw
                  case rel => exact ⟨j + 1, m, out ++ [byt (c.toNat : Int)], by go_num, by omega, by omega, HF.out, by simp; omega, hown2, hb2⟩
                  case measure => simp [intOf]; omega
      · have hfin : R = ([], 0, false, 8) := by rw [HJ.out, drop_out s j hjs, pc_nil]
        have HF := Lib.hid hfin
        have hj1 : decide (s.size ≤ j) = true := by simpa using hjs
        clear hfin HJ
        go_wp2
        refine bodyPost_ret (v := .tuple #[.string ⟨#[]⟩, .int .i64 0, .bool false, .int .i64 8]) (by simp [results, Try.results12, go_sem]) rfl ⟨?_, hbw⟩
        rw [HF.out]
        rfl

set_option maxHeartbeats 1000000 in
theorem refpiece_out (s : ByteArray) (k : Int) (w : World) (hk : k < 0 ∨ s.size ≤ k) :
    Calls Try.prog 12 #[.string s, .int .i64 k] w fun e w' => e = .returned (.tuple #[.string ⟨#[]⟩, .int .i64 0, .bool false, .int .i64 1]) ∧ Below w.heap.size w w' := by
  by_cases h0 : k < 0
  · have hk0 : decide (k < 0) = true := by simpa using h0
    clear hk
    go_enter Try.func12, Try.ntmps12
    go_wp2
    exact bodyPost_ret (v := .tuple #[.string ⟨#[]⟩, .int .i64 0, .bool false, .int .i64 1]) (by simp [results, Try.results12, go_sem]) rfl ⟨rfl, Below.refl _ w⟩
  · have hk0 : decide (k < 0) = false := by simpa using h0
    have h1 : (s.size : Int) ≤ k := by omega
    have hk1 : decide ((s.size : Int) ≤ k) = true := by simpa using h1
    clear hk
    go_enter Try.func12, Try.ntmps12
    go_wp2
    exact bodyPost_ret (v := .tuple #[.string ⟨#[]⟩, .int .i64 0, .bool false, .int .i64 1]) (by simp [results, Try.results12, go_sem]) rfl ⟨rfl, Below.refl _ w⟩

set_option maxHeartbeats 1000000 in
theorem refpiece_no (s : ByteArray) (k : Nat) (q : UInt8) (w : World) (hk : k < s.size) (hx : s[k] = q) (hq : ¬ ((q.toNat : Int) = 96 ∨ (q.toNat : Int) = 125)) :
    Calls Try.prog 12 #[.string s, .int .i64 k] w fun e w' => e = .returned (.tuple #[.string ⟨#[]⟩, .int .i64 0, .bool false, .int .i64 1]) ∧ Below w.heap.size w w' := by
  have hk0 : decide ((k : Int) < 0) = false := by simp
  have hk1 : decide (s.size ≤ k) = false := by simpa using hk
  have h96 : ((q.toNat : Int) != 96) = true := by rw [bne_iff_ne]; exact fun h => hq (Or.inl h)
  have h125 : ((q.toNat : Int) != 125) = true := by rw [bne_iff_ne]; exact fun h => hq (Or.inr h)
  clear hq
  go_enter Try.func12, Try.ntmps12
  go_wp2
  exact bodyPost_ret (v := .tuple #[.string ⟨#[]⟩, .int .i64 0, .bool false, .int .i64 1]) (by simp [results, Try.results12, go_sem]) rfl ⟨rfl, Below.refl _ w⟩
end Go.Proofs.Ytokpmpmlbmpnmab
