/-
  Build of the reference at this translation.
-/
import Derived.Test.YtjnlifghobgkcaaD4a
import Derived.Deep.RegionHeldLaw
import Derived.Deep.Cut
import Derived.Deep.CutRange
namespace Go.Proofs.Ytjnlifghobgkcaa
open Go.RowKit

set_option linter.unusedVariables false in
set_option maxRecDepth 100000 in
set_option maxHeartbeats 1000000 in
theorem build_any (l : List It) (v : Value) (w : World) (hl : l.length ≤ 400) (h : ItsIn w v l) : Calls Try.prog 10 #[v] w (BuildPost w l) := by
  obtain ⟨i0, hi, hz0, hz1, hz2⟩ := info_parts node_info
  have hT : Try.prog.underlying 25 = some (.slice 27) := Try.underlying25
  obtain ⟨ao, cap, rfl, hcap, hmax, hin⟩ := h
  have HI := Lib.hid hin
  obtain ⟨W1, hW1⟩ : ∃ W1, W1 = w.alloc (.cells #[.int .i64 0, .int .i64 0, .int .i64 0, .int .i64 0, .string ⟨#[]⟩, .slice none 0 0] 27) := ⟨_, rfl⟩
  have hB1 : Below w.heap.size w W1 := by rw [hW1]; exact c_box w _
  have hres : W1.heap[w.heap.size]? = some (.cells #[.int .i64 0, .int .i64 0, .int .i64 0, .int .i64 0, .string ⟨#[]⟩, .slice none 0 0] 27 (0, 0)) := by rw [hW1]; exact heap_alloc_new w _
  have hz1' : W1.heap.size = w.heap.size + 1 := by rw [hW1]; simp
  have HW := Lib.hid hW1
  have HB := Lib.hid (And.intro hB1 (And.intro hres hz1'))
  obtain ⟨len, hlen⟩ : ∃ len, len = l.length := ⟨_, rfl⟩
  have HL := Lib.hid hlen
  rw [← hlen] at hl ⊢
  have HV : Hid (RelB W1 l (.slice none 0 0) (.int .i64 0) W1) := Lib.hid ⟨⟨0, none, [], 0, rfl, Nat.zero_le _, rfl, World.ownsRow_nil _ _ _ _, (fun x hx => by cases hx), Nat.le_refl _, (fun _ => ⟨rfl, rfl⟩), Nat.zero_le _⟩, Below.refl _ _⟩
  clear hW1 hB1 hres hz1' hin hcap hmax hlen
  go_enter Try.func10, Try.ntmps10
  go_upto_region 1 with fail
  rw [← HW.out]
  go_wp2
  go_loopw [3, 4] (fun v i wr => RelB W1 l v i wr) (fun _ i _ => len - (intOf i).toNat)
  case atStart => exact HV.out
  case round =>
    clear HV
    obtain ⟨⟨k, ro, L, rc, rfl, hk, rfl, hrow, htin, hcnt, hnil, hrc⟩, hB⟩ := hrel
    rw [← HL.out] at hk
    by_cases hkl : k < len
    · have g1 : decide ((k : Int) < (len : Int)) = true := decide_eq_true (by omega)
      have k1 : (k : Int) < (len : Int) := by omega
      obtain ⟨y, hy⟩ : ∃ y, l[k]? = some y := ⟨_, List.getElem?_eq_getElem (by rw [← HL.out]; exact hkl)⟩
      obtain ⟨bb, oo, rfl, hbb, hcc⟩ := HI.out k y hy
      have hB0 : Below w.heap.size w wr := c_thr HB.out.1 hB HB.out.1.size
      have hbr : bb < wr.heap.size := Nat.lt_of_lt_of_le hbb hB0.size
      have hLn : L.length ≤ 400 := by have := cntL_len (L.map (·.1)); simp at this; omega
      obtain ⟨c0, c1, c2, c3, c4, c5⟩ := hcc
      have kc := fun j u (h : w.cell? ⟨bb, oo + k * 6 + j, none⟩ = some u) => (hB0.cell (p := ⟨bb, oo + k * 6 + j, none⟩) hbb).trans h
      have d0 : wr.cell? ⟨bb, oo + k * 6, none⟩ = some (.int .i64 y.op) := kc 0 _ c0
      have d1 := kc 1 _ c1
      have d2 := kc 2 _ c2
      have d3 := kc 3 _ c3
      have d4 := kc 4 _ c4
      have d5 := kc 5 _ c5
      obtain ⟨W2, hW2⟩ : ∃ W2, W2 = wr.alloc (.cells #[.int .i64 y.op, .int .i64 y.a, .int .i64 y.n, .int .i64 y.m, .string y.s, .int .i64 y.k] 39) := ⟨_, rfl⟩
      have hB2 : Below wr.heap.size wr W2 := by rw [hW2]; exact c_box wr _
      have hz2' : W2.heap.size = wr.heap.size + 1 := by rw [hW2]; simp
      have hn2 : W2.heap[wr.heap.size]? = some (.cells #[.int .i64 y.op, .int .i64 y.a, .int .i64 y.n, .int .i64 y.m, .string y.s, .int .i64 y.k] 39 (0, 0)) := by rw [hW2]; exact heap_alloc_new wr _
      have HR := Lib.hid (And.intro hrow (And.intro htin (And.intro hcnt (And.intro hnil (And.intro hB (And.intro hB2 (And.intro hz2' hn2)))))))
      obtain ⟨⟨e0, e1, e2, e3, e4, e5⟩, -, hxl⟩ := c_six hn2
      clear hrow htin hcnt hnil hB hB2 hz2' hn2 hB0 c0 c1 c2 c3 c4 c5 kc hy
      go_upto_region 6 with fail
      rw [← hW2]
      clear hW2 d0 d1 d2 d3 d4 d5
      go_upto_if 21 with fail
      go_cut [6] from 14 to 55 (fun s wc => (∃ m : Nat, s = .int .i64 m) ∧ wc = W2)
      case first =>
        by_cases hk0 : y.k < 0
        · have g7 : decide (y.k < 0) = true := decide_eq_true hk0
          go_wp2_with fail
          go_meet
          case rel => exact ⟨⟨0, rfl⟩, rfl⟩
        · have g7 : decide (y.k < 0) = false := decide_eq_false hk0
          go_wp2_with fail
          go_meet
          case rel => exact ⟨⟨y.k.toNat, by congr 1; omega⟩, rfl⟩
      case rest =>
        obtain ⟨⟨m, rfl⟩, rfl⟩ := hcut
        go_upto_if 25 with fail
        go_cut [6] from 14 to 55 (fun s wx => (∃ m : Nat, s = .int .i64 m ∧ m ≤ L.length) ∧ wx = wc)
        case first =>
          by_cases hk0 : L.length < m
          · have g7 : decide ((L.length : Int) < (m : Int)) = true := decide_eq_true (by omega)
            go_wp2_with fail
            go_meet
            case rel => exact ⟨⟨L.length, rfl, Nat.le_refl _⟩, rfl⟩
          · have g7 : decide ((L.length : Int) < (m : Int)) = false := decide_eq_false (by omega)
            go_wp2_with fail
            go_meet
            case rel => exact ⟨⟨m, rfl, by omega⟩, rfl⟩
        case rest =>
          obtain ⟨⟨kk, rfl, hkk⟩, rfl⟩ := hcut
          cases hLc : L with
          | nil =>
            obtain ⟨rfl, rfl⟩ := HR.out.2.2.2.1 hLc
            subst hLc
            obtain rfl : kk = 0 := by simpa using hkk
            have hzw : wc.heap.size = wr.heap.size + 1 := HR.out.2.2.2.2.2.2.1
            obtain ⟨w5, hw5⟩ : ∃ w5, w5 = wc.alloc (.cells #[] 27) := ⟨_, rfl⟩
            have hB5 : Below wc.heap.size wc w5 := by rw [hw5]; exact c_box wc _
            have hz5 : w5.heap.size = wc.heap.size + 1 := by rw [hw5]; simp
            have hkids : PRow w5 wc.heap.size 27 (.slice (some ⟨wc.heap.size, 0, none⟩) 0 0) [] := by rw [hw5]; exact ⟨rfl, .inr ⟨wc.heap.size, 0, _, rfl, Nat.le_refl _, heap_alloc_new wc _, Nat.le_refl _, Nat.zero_le _, rfl, rfl⟩⟩
            obtain ⟨⟨f0, f1, f2, f3, f4, f5⟩, -, hxl5⟩ := c_six (c_kept hB5 (c_lt HR.out.2.2.2.2.2.2.2) HR.out.2.2.2.2.2.2.2)
            have HK := Lib.hid (And.intro hB5 hkids)
            have HZ1 := Lib.hid (show W1.heap.size ≤ wr.heap.size from HR.out.2.2.2.2.1.size)
            have HZ := Lib.hid (And.intro hzw hz5)
            have hne8 : some wr.heap.size ≠ (Value.slice none 0 0).ownBlock := by simp [Value.ownBlock]
            clear hB5 hkids e0 e1 e2 e3 e4 e5 hxl hkk hzw hz5
            go_upto_region 12 with fail
            rw [← hw5]
            clear hw5
            go_region_held_law (fun w' => w'.cell? ⟨wr.heap.size, 0, none⟩ = some (.int .i64 y.op) ∧ w'.cell? ⟨wr.heap.size, 1, none⟩ = some (.int .i64 y.a) ∧ w'.cell? ⟨wr.heap.size, 2, none⟩ = some (.int .i64 y.n) ∧ w'.cell? ⟨wr.heap.size, 3, none⟩ = some (.int .i64 y.m) ∧ w'.cell? ⟨wr.heap.size, 4, none⟩ = some (.string y.s))
              (first | go_keep | (go_split_ands; refine ⟨?_, ?_, ?_, ?_, ?_⟩ <;> (rw [hgrow.cell_far _ (by simp; omega) hne8]; assumption)))
              ((refine step_append_lies _ (by rfl) _ _ _ (by rfl) W1.heap.size 27 i0 _ 6 72 hT hi hz0 hz1 hz2 rfl (by omega) (.slice none 0 0) (0) ([]) (by rfl) (World.ownsRow_nil _ _ _ _) ⟨w5.heap.size, 0, none⟩ 1 1 [.int .i64 y.op, .int .i64 y.a, .int .i64 y.n, .int .i64 y.m, .string y.s, .slice (some ⟨wc.heap.size, 0, none⟩) 0 0] (by rfl) (by rfl) (World.news_of_block (cs := #[.int .i64 y.op, .int .i64 y.a, .int .i64 y.n, .int .i64 y.m, .string y.s, .slice (some ⟨wc.heap.size, 0, none⟩) 0 0]) (t := 27) (fr := (0, 0)) (heap_alloc_new w5 _)) (by simp [Value.oneCell']) (by omega) (by unfold maxLen; omega) (by omega) (by have := HZ1.out; have := HZ.out; simp; omega) (w5.heap.size + 1) (by simp) ?_; intro gg gcap w7 hown7 hgrow hat hlt))
            go_wp2
            all_goals refine ⟨build_step (kk := 0) (L := []) (y := y) (w6 := (w5.alloc (.cells #[.int .i64 y.op, .int .i64 y.a, .int .i64 y.n, .int .i64 y.m, .string y.s, .slice (some ⟨wc.heap.size, 0, none⟩) 0 0] 27)).drew) HR.out.1 HR.out.2.1 HR.out.2.2.1 HR.out.2.2.2.2.1 HR.out.2.2.2.2.2.1 (by have := HZ.out; omega) HK.out.1 HK.out.2 (c_box w5 _).drew hgrow rfl hown7 hat (by simp) (Nat.zero_le _) (by rw [← HL.out]; exact hkl), by simp [intOf]; omega⟩
          | cons x0 L0 =>
            have hLz : 0 < L.length := by rw [hLc]; simp
            rw [← hLc]
            clear hLc
            obtain ⟨g, rc', hv, hg1, hg2⟩ := World.ownsRow.form HR.out.1 hLz
            obtain ⟨rfl, -⟩ : ro = some ⟨g, 0, none⟩ ∧ rc = rc' := by simpa using hv
            have hrcl : L.length ≤ rc := by
              obtain ⟨a', c', e', q1, q2, -⟩ := prow_slice HR.out.1
              obtain ⟨-, rfl⟩ : some ⟨g, 0, none⟩ = a' ∧ rc = c' := by simpa using e'
              exact q1
            clear hv
            by_cases hcp : rc = L.length - kk
            · have hk0 : kk = 0 := by omega
              clear hkk
              subst hk0
              obtain rfl : rc = L.length := by omega
              clear hcp
              have hzw : wc.heap.size = wr.heap.size + 1 := HR.out.2.2.2.2.2.2.1
              have hjl : L.length - 0 ≤ L.length := Nat.sub_le _ _
              obtain ⟨w5, hw5⟩ : ∃ w5, w5 = wc.alloc (.cells #[] 27) := ⟨_, rfl⟩
              have hB5 : Below wc.heap.size wc w5 := by rw [hw5]; exact c_box wc _
              have hz5 : w5.heap.size = wc.heap.size + 1 := by rw [hw5]; simp
              have hkids : PRow w5 wc.heap.size 27 (.slice (some ⟨wc.heap.size, 0, none⟩) 0 0) (L.drop (L.length - 0)) := by rw [show L.drop (L.length - 0) = [] by simp, hw5]; exact ⟨rfl, .inr ⟨wc.heap.size, 0, _, rfl, Nat.le_refl _, heap_alloc_new wc _, Nat.le_refl _, Nat.zero_le _, rfl, rfl⟩⟩
              obtain ⟨⟨f0, f1, f2, f3, f4, f5⟩, -, hxl5⟩ := c_six (c_kept hB5 (c_lt HR.out.2.2.2.2.2.2.2) HR.out.2.2.2.2.2.2.2)
              have HK := Lib.hid (And.intro hB5 hkids)
              have HZ1 := Lib.hid (show W1.heap.size ≤ wr.heap.size from HR.out.2.2.2.2.1.size)
              have HZ := Lib.hid (And.intro hzw hz5)
              have HO := Lib.hid (prow_take (prow_kept (prow_kept HR.out.1 HR.out.2.2.2.2.2.1) hB5) hjl)
              have hne8 : some wr.heap.size ≠ (Value.slice (some ⟨g, 0, none⟩) (L.length - 0) L.length).ownBlock := by simp [Value.ownBlock]; omega
              have hw0 : IntKind.i64.wrap ((L.length : Int) - ((0 : Nat) : Int)) = (L.length : Int) := by rw [IntKind.wrap_i64]; omega
              have hw00 : IntKind.i64.wrap (L.length : Int) = (L.length : Int) := by rw [IntKind.wrap_i64]; omega
              have hw1 : (0 : Int) ≤ (L.length : Int) := by omega
              have hw2 : (L.length : Int) ≤ (L.length : Int) := by omega
              clear hB5 hkids e0 e1 e2 e3 e4 e5 hxl hzw hz5 hjl
              go_upto_region 12 with fail
              rw [← hw5]
              clear hw5
              go_region_held_law (fun w' => w'.cell? ⟨wr.heap.size, 0, none⟩ = some (.int .i64 y.op) ∧ w'.cell? ⟨wr.heap.size, 1, none⟩ = some (.int .i64 y.a) ∧ w'.cell? ⟨wr.heap.size, 2, none⟩ = some (.int .i64 y.n) ∧ w'.cell? ⟨wr.heap.size, 3, none⟩ = some (.int .i64 y.m) ∧ w'.cell? ⟨wr.heap.size, 4, none⟩ = some (.string y.s))
                (first | go_keep | (go_split_ands; refine ⟨?_, ?_, ?_, ?_, ?_⟩ <;> (rw [hgrow.cell_far _ (by simp; omega) hne8]; assumption)))
                ((refine step_append_lies _ (by rfl) _ _ _ (by rfl) W1.heap.size 27 i0 _ 6 72 hT hi hz0 hz1 hz2 rfl (by omega) (.slice (some ⟨g, 0, none⟩) (L.length - 0) L.length) (L.length - 0) ((L.take (L.length - 0)).flatMap pC) (by rfl) ((HO.out.alloc _).drew) ⟨w5.heap.size, 0, none⟩ 1 1 [.int .i64 y.op, .int .i64 y.a, .int .i64 y.n, .int .i64 y.m, .string y.s, .slice (some ⟨wc.heap.size, 0, none⟩) 0 0] (by rfl) (by rfl) (World.news_of_block (cs := #[.int .i64 y.op, .int .i64 y.a, .int .i64 y.n, .int .i64 y.m, .string y.s, .slice (some ⟨wc.heap.size, 0, none⟩) 0 0]) (t := 27) (fr := (0, 0)) (heap_alloc_new w5 _)) (by simp [Value.oneCell']) (by omega) (by unfold maxLen; omega) (by omega) (by have := HZ1.out; have := HZ.out; simp; omega) (w5.heap.size + 1) (by simp) ?_; intro gg gcap w7 hown7 hgrow hat hlt))
              go_wp2
              all_goals refine ⟨build_step (kk := 0) (L := L) (y := y) (w6 := (w5.alloc (.cells #[.int .i64 y.op, .int .i64 y.a, .int .i64 y.n, .int .i64 y.m, .string y.s, .slice (some ⟨wc.heap.size, 0, none⟩) 0 0] 27)).drew) HR.out.1 HR.out.2.1 HR.out.2.2.1 HR.out.2.2.2.2.1 HR.out.2.2.2.2.2.1 (by have := HZ.out; omega) HK.out.1 HK.out.2 (c_box w5 _).drew hgrow rfl hown7 hat (by simp) (Nat.zero_le _) (by rw [← HL.out]; exact hkl), by simp [intOf]; omega⟩
            have hjl : L.length - kk ≤ L.length := Nat.sub_le _ _
            have hBa : Below wc.heap.size wc (wc.alloc (.cells #[] 27)) := c_box wc _
            have hrow5 : PRow (wc.alloc (.cells #[] 27)) W1.heap.size 27 (.slice (some ⟨g, 0, none⟩) L.length rc) L := prow_kept (prow_kept HR.out.1 HR.out.2.2.2.2.2.1) hBa
            have hown0 : (wc.alloc (.cells #[] 27)).ownsRow wc.heap.size 27 6 (.slice (some ⟨wc.heap.size, 0, none⟩) 0 0) 0 [] := ⟨rfl, .inr ⟨wc.heap.size, 0, _, rfl, Nat.le_refl _, heap_alloc_new wc _, Nat.le_refl _, Nat.zero_le _, rfl, rfl⟩⟩
            have HN := Lib.hid (And.intro hown0 (prow_drop hrow5 hjl))
            have HS := Lib.hid (show ∀ x ∈ L.drop (L.length - kk), ∃ ao len cap, x.2 = .slice ao len cap from fun x hx => tin_slice (HR.out.2.1 x (List.mem_of_mem_drop hx)))
            clear hBa hrow5 hown0 e0 e1 e2 e3 e4 e5 hxl
            go_wp2_with ((first | (at_builtin) | fail); (first | (refine wpList_append_own_at _ rfl _ _ 25 rfl wc.heap.size 27 i0 (.agg #[.int .i64 0, .int .i64 0, .int .i64 0, .int .i64 0, .string ⟨#[]⟩, .slice none 0 0]) 6 72 hT hi hz0 hz1 hz2 rfl (by decide) (.slice (some ⟨wc.heap.size, 0, none⟩) 0 0) 0 [] rfl HN.out.1 ⟨g, (L.length - kk) * 6, none⟩ (L.length - (L.length - kk)) (rc - (L.length - kk)) ((L.drop (L.length - kk)).flatMap pC) rfl ?_ HN.out.2 (oneC _ HS.out) ?_ ?_ ?_ ?_) | fail); (first | ((rw [pC_flat_len, List.length_drop])) | fail); (first | ((unfold maxLen; omega)) | fail); (first | (omega) | fail); (first | (simp) | fail); (first | (intro v5 w5 hown5 hgrow5 hnil5 hat5) | fail); (first | (have HG5 := Lib.hid (And.intro hown5 hgrow5)) | fail); (first | (clear hown5 hgrow5 hnil5 hat5) | fail))
            have hBa : Below wc.heap.size wc w5 := Below.grown (c_box wc _) HG5.out.2 (by simp) (fun q hq => by cases hq; exact Nat.le_refl _)
            have hkids : PRow w5 wc.heap.size 27 v5 (L.drop (L.length - kk)) := by
              have h := HG5.out.1
              rw [Nat.zero_add, List.nil_append] at h
              unfold PRow
              rw [List.length_drop]
              exact h
            obtain ⟨ko, kc, hv5, -, -, -⟩ := prow_slice hkids
            rw [List.length_drop] at hv5
            subst hv5
            have hzw : wc.heap.size = wr.heap.size + 1 := HR.out.2.2.2.2.2.2.1
            have hz5 : wc.heap.size < w5.heap.size := by have := HG5.out.2.size; simp at this; omega
            obtain ⟨⟨f0, f1, f2, f3, f4, f5⟩, -, hxl5⟩ := c_six (c_kept hBa (c_lt HR.out.2.2.2.2.2.2.2) HR.out.2.2.2.2.2.2.2)
            have HK := Lib.hid (And.intro hBa hkids)
            have HZ1 := Lib.hid (show W1.heap.size ≤ wr.heap.size from HR.out.2.2.2.2.1.size)
            have HZ := Lib.hid (And.intro hzw hz5)
            have HO := Lib.hid (prow_take (prow_kept (prow_kept HR.out.1 HR.out.2.2.2.2.2.1) hBa) hjl)
            have hne8 : some wr.heap.size ≠ (Value.slice (some ⟨g, 0, none⟩) (L.length - kk) rc).ownBlock := by simp [Value.ownBlock]; omega
            have hw0 : IntKind.i64.wrap ((L.length : Int) - (kk : Int)) = (L.length : Int) - (kk : Int) := by rw [IntKind.wrap_i64]; omega
            have hw1 : (0 : Int) ≤ (L.length : Int) - (kk : Int) := by omega
            have hw2 : (L.length : Int) - (kk : Int) ≤ (rc : Int) := by omega
            have hw3 : ((L.length : Int) - (kk : Int)).toNat = L.length - kk := by omega
            have hw4 : L.length - kk ≤ rc := by omega
            clear hBa hkids hzw hz5 HG5 HN
            go_region_held_law (fun w' => w'.cell? ⟨wr.heap.size, 0, none⟩ = some (.int .i64 y.op) ∧ w'.cell? ⟨wr.heap.size, 1, none⟩ = some (.int .i64 y.a) ∧ w'.cell? ⟨wr.heap.size, 2, none⟩ = some (.int .i64 y.n) ∧ w'.cell? ⟨wr.heap.size, 3, none⟩ = some (.int .i64 y.m) ∧ w'.cell? ⟨wr.heap.size, 4, none⟩ = some (.string y.s))
              (first | go_keep | (go_split_ands; refine ⟨?_, ?_, ?_, ?_, ?_⟩ <;> (rw [hgrow.cell_far _ (by simp; omega) hne8]; assumption)))
              ((refine step_append_lies _ (by rfl) _ _ _ (by rfl) W1.heap.size 27 i0 _ 6 72 hT hi hz0 hz1 hz2 rfl (by omega) (.slice (some ⟨g, 0, none⟩) (L.length - kk) rc) (L.length - kk) ((L.take (L.length - kk)).flatMap pC) (by rfl) ((HO.out.alloc _).drew) ⟨w5.heap.size, 0, none⟩ 1 1 [.int .i64 y.op, .int .i64 y.a, .int .i64 y.n, .int .i64 y.m, .string y.s, .slice ko (L.length - (L.length - kk)) kc] (by rfl) (by rfl) (World.news_of_block (cs := #[.int .i64 y.op, .int .i64 y.a, .int .i64 y.n, .int .i64 y.m, .string y.s, .slice ko (L.length - (L.length - kk)) kc]) (t := 27) (fr := (0, 0)) (heap_alloc_new w5 _)) (by simp [Value.oneCell']) (by omega) (by unfold maxLen; omega) (by omega) (by have := HZ1.out; have := HZ.out; simp; omega) (w5.heap.size + 1) (by simp) ?_; intro gg gcap w7 hown7 hgrow hat hlt))
            go_wp2
            all_goals refine ⟨build_step (kk := kk) (L := L) (y := y) (w6 := (w5.alloc (.cells #[.int .i64 y.op, .int .i64 y.a, .int .i64 y.n, .int .i64 y.m, .string y.s, .slice ko (L.length - (L.length - kk)) kc] 27)).drew) HR.out.1 HR.out.2.1 HR.out.2.2.1 HR.out.2.2.2.2.1 HR.out.2.2.2.2.2.1 (by have := HZ.out; omega) HK.out.1 HK.out.2 (c_box w5 _).drew hgrow rfl hown7 hat (by simp) hkk (by rw [← HL.out]; exact hkl), by simp [intOf]; omega⟩

    · have g1 : decide ((k : Int) < (len : Int)) = false := decide_eq_false (by omega)
      have hres := c_kept hB (c_lt HB.out.2.1) HB.out.2.1
      obtain ⟨⟨r0, r1, r2, r3, r4, r5⟩, ⟨q0, q1, q2, q3, q4, q5⟩, hrl⟩ := c_six hres
      have HF := Lib.hid (c_thr HB.out.1 hB HB.out.1.size)
      clear hres hB
      cases hLc : L with
      | nil =>
        obtain ⟨rfl, rfl⟩ := hnil hLc
        subst hLc
        clear hrow htin hcnt hnil
        go_wp2
        refine bodyPost_ret (v := .agg #[.int .i64 0, .int .i64 0, .int .i64 0, .int .i64 0, .string ⟨#[]⟩, .slice none 0 0]) (by simp [results, Try.results10, go_sem, r0, r1, r2, r3, r4, r5]) rfl ?_
        exact ⟨zeroT, none, 0, rfl, by show 1 ≤ _; omega, tin_leaf, c_st6 HF.out (Nat.le_refl _)⟩
      | cons x0 L0 =>
        have hLz : 0 < L.length := by rw [hLc]; simp
        rw [← hLc]
        clear hLc
        obtain ⟨g, rc', hv, hg1, hg2⟩ := World.ownsRow.form hrow hLz
        obtain ⟨rfl, -⟩ : ro = some ⟨g, 0, none⟩ ∧ rc = rc' := by simpa using hv
        clear hv
        have hrcl : L.length ≤ rc := by
          obtain ⟨a', c', e', q1, q2, -⟩ := prow_slice hrow
          obtain ⟨-, rfl⟩ : some ⟨g, 0, none⟩ = a' ∧ rc = c' := by simpa using e'
          exact q1
        have hLn : L.length ≤ 400 := by have := cntL_len (L.map (·.1)); simp at this; omega
        obtain ⟨⟨x, kx⟩, hx⟩ : ∃ x, L[L.length - 1]? = some x := ⟨_, List.getElem?_eq_getElem (by omega)⟩
        have htx := htin _ (List.mem_of_getElem? hx)
        obtain ⟨xo, xl, xc, hkx⟩ := tin_slice htx
        simp only at hkx
        subst hkx
        simp only at htx
        obtain rfl := tin_len htx
        obtain ⟨c0, c1, c2, c3, c4, c5⟩ := prow_cells hrow rfl hx
        have hxc : x.cnt ≤ k := Nat.le_trans (cntL_at (l := L.map (·.1)) (i := L.length - 1) (by rw [List.getElem?_map, hx]; rfl)) hcnt
        have HG := Lib.hid (And.intro htx hxc)
        have g2 : ((L.length : Int) == 0) = false := by simp only [beq_eq_false_iff_ne]; omega
        have hw1 : (0 : Int) ≤ (L.length : Int) - 1 := by omega
        have hw2 : (L.length : Int) - 1 < (L.length : Int) := by omega
        have hw3 : ((L.length : Int) - 1).toNat = L.length - 1 := by omega
        clear htx hxc hrow htin hcnt hnil hx
        go_wp2
        refine bodyPost_ret (v := .agg #[.int .i64 x.op, .int .i64 x.a, .int .i64 x.n, .int .i64 x.m, .string x.s, .slice xo x.ks.length xc]) (by simp [results, Try.results10, go_sem, r0, r1, r2, r3, r4, r5]) rfl ?_
        exact ⟨x, xo, xc, rfl, by have := HG.out.2; have := HL.out; omega, tin_mono (tin_grown HG.out.1 (st6_grown wr w.heap.size 0 _ _ _ _ _ _) (fun b _ hs e => by have := HB.out.2.2; have := hs.1; simp at e; omega)) (fun _ _ _ => trivial), c_st6 HF.out (Nat.le_refl _)⟩
end Go.Proofs.Ytjnlifghobgkcaa
