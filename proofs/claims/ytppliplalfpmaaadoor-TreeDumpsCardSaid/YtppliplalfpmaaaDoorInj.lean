/-
  A tree's text tells the tree, places aside: no program in it.
-/
import Derived.Test.YtppliplalfpmaaaDoorCut2
import Derived.Test.YtppliplalfpmaaaDoorSm
namespace Go.Proofs.YtppliplalfpmaaaDoor
open Go.RowKit

def dval (l : List UInt8) : Nat := l.foldl (fun a c => a * 10 + (c.toNat - 48)) 0
theorem dval_dd : ∀ (N u : Nat), u ≤ N → dval (Lib.decDigits u) = u
  | N, u, h => by
    by_cases h9 : u < 10
    · rw [dd_one u h9]
      simp [dval]
      omega
    · cases N with
      | zero => omega
      | succ N =>
        have ih := dval_dd N (u / 10) (by omega)
        unfold dval at ih ⊢
        rw [dd_more u h9, List.foldl_append, ih]
        simp
        omega
theorem dd_inj {u v : Nat} (h : Lib.decDigits u = Lib.decDigits v) : u = v := by
  have h1 := dval_dd u u (Nat.le_refl _)
  rw [h, dval_dd v v (Nat.le_refl _)] at h1
  exact h1.symm
theorem dd_dig : ∀ (N u : Nat), u ≤ N → ∀ c ∈ Lib.decDigits u, 48 ≤ c.toNat ∧ c.toNat ≤ 57
  | N, u, h => by
    by_cases h9 : u < 10
    · rw [dd_one u h9]
      intro c hc
      obtain rfl : c = UInt8.ofNat (48 + u) := by simpa using hc
      simp
      omega
    · cases N with
      | zero => omega
      | succ N =>
        have ih := dd_dig N (u / 10) (by omega)
        rw [dd_more u h9]
        intro c hc
        rcases List.mem_append.1 hc with hc | hc
        · exact ih c hc
        · obtain rfl : c = UInt8.ofNat (48 + u % 10) := by simpa using hc
          simp
          omega
theorem dd_ne (u : Nat) : ∃ c r, Lib.decDigits u = c :: r := by
  cases h : Lib.decDigits u with
  | nil =>
    have := congrArg List.length h
    by_cases h9 : u < 10
    · rw [dd_one u h9] at this; simp at this
    · rw [dd_more u h9] at this; simp at this
  | cons c r => exact ⟨c, r, rfl⟩
/-- an int's text: its first byte and all of them -/
def numC (c : UInt8) : Prop := c = 45 ∨ (48 ≤ c.toNat ∧ c.toNat ≤ 57)
theorem itoa_ok (n : Int) : ∃ c r, Lib.itoa n = c :: r ∧ ∀ x ∈ c :: r, numC x := by
  unfold Lib.itoa
  split
  · exact ⟨45, _, rfl, fun x hx => by
      rcases List.mem_cons.1 hx with rfl | hx
      · exact .inl rfl
      · exact .inr (dd_dig _ _ (Nat.le_refl _) x hx)⟩
  · obtain ⟨c, r, e⟩ := dd_ne n.toNat
    exact ⟨c, r, e, fun x hx => .inr (dd_dig _ _ (Nat.le_refl _) x (by rw [e]; exact hx))⟩
theorem dd_no45 (u : Nat) : ∀ r, Lib.decDigits u ≠ 45 :: r := by
  intro r h
  have := dd_dig u u (Nat.le_refl _) 45 (by rw [h]; exact List.mem_cons_self ..)
  exact absurd this.1 (by decide)
theorem itoa_inj {n m : Int} (h : Lib.itoa n = Lib.itoa m) : n = m := by
  unfold Lib.itoa at h
  split at h <;> split at h
  · have := dd_inj (List.cons.inj h).2; omega
  · exact absurd h.symm (dd_no45 _ _)
  · exact absurd h (dd_no45 _ _)
  · have := dd_inj h; omega
/-- a byte that no field ends at -/
def midC (c : UInt8) : Prop := c ≠ 32 ∧ c ≠ 41
theorem mid_of_num {c : UInt8} (h : numC c) : midC c := by
  rcases h with rfl | h
  · exact ⟨by decide, by decide⟩
  · exact ⟨fun e => by rw [e] at h; exact absurd h.1 (by decide), fun e => by rw [e] at h; exact absurd h.1 (by decide)⟩
/-- what stands behind a field: the closing bracket, or a blank and a byte of C -/
def St (C : UInt8 → Prop) (R : List UInt8) : Prop := (∃ r, R = 41 :: r) ∨ ∃ c r, R = 32 :: c :: r ∧ C c
theorem st_end {C : UInt8 → Prop} {R : List UInt8} (h : St C R) : ∃ c r, R = c :: r ∧ ¬ midC c := by
  rcases h with ⟨r, rfl⟩ | ⟨c, r, rfl, _⟩
  · exact ⟨_, _, rfl, fun h => h.2 rfl⟩
  · exact ⟨_, _, rfl, fun h => h.1 rfl⟩
theorem span_eq : ∀ {X Y R S : List UInt8}, (∀ x ∈ X, midC x) → (∀ x ∈ Y, midC x) → (∃ c r, R = c :: r ∧ ¬ midC c) → (∃ c r, S = c :: r ∧ ¬ midC c) → X ++ R = Y ++ S → X = Y ∧ R = S
  | [], [], R, S, _, _, _, _, h => ⟨rfl, h⟩
  | [], y :: Y, R, S, _, hY, ⟨c, r, hR, hc⟩, _, h => by
    rw [hR] at h
    have := (List.cons.inj (by simpa using h : c :: r = y :: (Y ++ S))).1
    exact absurd (hY y (List.mem_cons_self ..)) (by rw [← this]; exact hc)
  | x :: X, [], R, S, hX, _, _, ⟨c, r, hS, hc⟩, h => by
    rw [hS] at h
    have := (List.cons.inj (by simpa using h : x :: (X ++ R) = c :: r)).1
    exact absurd (hX x (List.mem_cons_self ..)) (by rw [this]; exact hc)
  | x :: X, y :: Y, R, S, hX, hY, hR, hS, h => by
    have h2 := List.cons.inj (by simpa using h : x :: (X ++ R) = y :: (Y ++ S))
    have h3 := span_eq (fun z hz => hX z (List.mem_cons_of_mem _ hz)) (fun z hz => hY z (List.mem_cons_of_mem _ hz)) hR hS h2.2
    exact ⟨by rw [h2.1, h3.1], h3.2⟩
/-- a field that may be missing -/
def Opt (Dd : UInt8 → Prop) (X : List UInt8) : Prop := X = [] ∨ ∃ c r, X = 32 :: c :: r ∧ Dd c ∧ ∀ x ∈ c :: r, midC x
theorem st_opt {C Dd : UInt8 → Prop} {X R : List UInt8} (hX : Opt Dd X) (hR : St C R) : St (fun c => Dd c ∨ C c) (X ++ R) := by
  rcases hX with rfl | ⟨c, r, rfl, hc, _⟩
  · rcases hR with ⟨r, rfl⟩ | ⟨c, r, rfl, hc⟩
    · exact .inl ⟨r, rfl⟩
    · exact .inr ⟨c, r, rfl, .inr hc⟩
  · exact .inr ⟨c, r ++ R, rfl, .inl hc⟩
theorem opt_eq {C Dd : UInt8 → Prop} (hd : ∀ c, Dd c → C c → False) {X Y R S : List UInt8} (hX : Opt Dd X) (hY : Opt Dd Y) (hR : St C R) (hS : St C S) (h : X ++ R = Y ++ S) : X = Y ∧ R = S := by
  have no : ∀ {c : UInt8} {r R S : List UInt8}, Dd c → St C R → R = 32 :: c :: (r ++ S) → False := by
    intro c r R S hc hR e
    rcases hR with ⟨r2, rfl⟩ | ⟨c2, r2, rfl, hc2⟩
    · exact absurd (List.cons.inj e).1 (by decide)
    · have := (List.cons.inj (List.cons.inj e).2).1
      exact hd c hc (by rw [← this]; exact hc2)
  rcases hX with rfl | ⟨c, r, rfl, hc, hm⟩ <;> rcases hY with rfl | ⟨c2, r2, rfl, hc2, hm2⟩
  · exact ⟨rfl, h⟩
  · exact (no (r := r2) (S := S) hc2 hR (by simpa using h)).elim
  · exact (no (r := r) (S := R) hc hS (by simpa using h.symm)).elim
  · have h2 := List.cons.inj (by simpa using h : (32 : UInt8) :: ((c :: r) ++ R) = 32 :: ((c2 :: r2) ++ S))
    have h3 := span_eq hm hm2 (st_end hR) (st_end hS) h2.2
    exact ⟨by rw [h3.1], h3.2⟩
theorem nz_opt (n : Int) : Opt numC (nzX n) := by
  unfold nzX
  split
  · exact .inl rfl
  · obtain ⟨c, r, e, h⟩ := itoa_ok n
    exact .inr ⟨c, r, by rw [e], h c (List.mem_cons_self ..), fun x hx => mid_of_num (h x hx)⟩
theorem mz_opt (n : Int) : Opt (fun c => c = 77) (mzX n) := by
  unfold mzX
  split
  · exact .inl rfl
  · obtain ⟨c, r, e, h⟩ := itoa_ok n
    refine .inr ⟨77, _, rfl, rfl, fun x hx => ?_⟩
    rcases List.mem_cons.1 hx with rfl | hx
    · exact ⟨by decide, by decide⟩
    · exact mid_of_num (h x (by rw [← e]; exact hx))
theorem encB_tab : ∀ k < 256, ∀ x ∈ encB (UInt8.ofNat k), x ≠ 32 ∧ x ≠ 41 := by decide +kernel
theorem encB_mid (c : UInt8) : ∀ x ∈ encB c, midC x := by
  have h := encB_tab c.toNat (by have := c.toNat_lt; omega)
  rw [UInt8.ofNat_toNat] at h
  exact h
theorem encL_mid (l : List UInt8) : ∀ x ∈ encL l, midC x := by
  intro x hx
  unfold encL at hx
  obtain ⟨c, _, h⟩ := List.mem_flatMap.1 hx
  exact encB_mid c x h
theorem sz_opt (s : ByteArray) : Opt (fun c => c = 61) (szX s) := by
  unfold szX
  split
  · exact .inl rfl
  · refine .inr ⟨61, _, rfl, rfl, fun x hx => ?_⟩
    rcases List.mem_cons.1 hx with rfl | hx
    · exact ⟨by decide, by decide⟩
    · exact encL_mid _ x hx
theorem hexB_inj {i j : Nat} (hi : i < 16) (hj : j < 16) (h : hexB i = hexB j) : i = j := by
  have key : ∀ i < 16, ∀ j < 16, hexB i = hexB j → i = j := by decide +kernel
  exact key i hi j hj h
theorem no37 : ∀ c : UInt8, (letB c.toNat || digB c.toNat) = true → c ≠ 37 := by
  intro c h e
  rw [e] at h
  exact absurd h (by decide)
theorem encB_inj {c d : UInt8} {X Y : List UInt8} (h : encB c ++ X = encB d ++ Y) : c = d ∧ X = Y := by
  unfold encB at h
  split at h <;> split at h
  · rename_i h1 h2
    exact List.cons.inj h
  · rename_i h1 h2
    exact absurd (List.cons.inj h).1 (no37 c h1)
  · rename_i h1 h2
    exact absurd (List.cons.inj h).1.symm (no37 d h2)
  · have hc := c.toNat_lt
    have hd := d.toNat_lt
    have h3 := List.cons.inj (List.cons.inj h).2
    have h4 := List.cons.inj h3.2
    have e1 := hexB_inj (by omega) (by omega) h3.1
    have e2 := hexB_inj (by omega) (by omega) h4.1
    exact ⟨UInt8.toNat_inj.1 (by omega), h4.2⟩
theorem encL_cons (c : UInt8) (l : List UInt8) : encL (c :: l) = encB c ++ encL l := by unfold encL; simp
theorem encL_inj : ∀ {l r : List UInt8}, encL l = encL r → l = r
  | [], [], _ => rfl
  | [], c :: r, h => by
    have h1 := congrArg List.length h
    rw [encL_cons, List.length_append] at h1
    have h2 := encB_len c
    have h3 : (encL ([] : List UInt8)).length = 0 := rfl
    omega
  | c :: r, [], h => by
    have h1 := congrArg List.length h
    rw [encL_cons, List.length_append] at h1
    have h2 := encB_len c
    have h3 : (encL ([] : List UInt8)).length = 0 := rfl
    omega
  | c :: l, d :: r, h => by
    rw [encL_cons, encL_cons] at h
    obtain ⟨rfl, h2⟩ := encB_inj h
    rw [encL_inj h2]
theorem nz_inj {n m : Int} (h : nzX n = nzX m) : n = m := by
  unfold nzX at h
  split at h <;> split at h
  · omega
  · cases h
  · cases h
  · exact itoa_inj (List.cons.inj h).2
theorem mz_inj {n m : Int} (h : mzX n = mzX m) : n = m := by
  unfold mzX at h
  split at h <;> split at h
  · omega
  · cases h
  · cases h
  · exact itoa_inj (List.cons.inj (List.cons.inj h).2).2
theorem sz_zero {s : ByteArray} (h : s.size = 0) : s = ⟨#[]⟩ := by
  refine ByteArray.ext (Array.ext' ?_)
  exact List.eq_nil_of_length_eq_zero (by rw [bl]; exact h)
theorem sz_inj {s u : ByteArray} (h : szX s = szX u) : s = u := by
  unfold szX at h
  split at h <;> split at h
  · rename_i h1 h2; rw [sz_zero h1, sz_zero h2]
  · cases h
  · cases h
  · exact ByteArray.ext (Array.ext' (encL_inj (List.cons.inj (List.cons.inj h).2).2))
theorem nm_tab : ∀ k < 65, nmL.getD k [] ≠ [] → nmL.idxOf (nmL.getD k []) = k := by decide +kernel
theorem nm_tab2 : ∀ k < 65, ∀ x ∈ nmL.getD k [], x ≠ 32 ∧ x ≠ 41 ∧ x ≠ 63 := by decide +kernel
theorem nmOf_mid (op : Int) : ∀ x ∈ nmOf op, x ≠ 32 ∧ x ≠ 41 ∧ x ≠ 63 := by
  unfold nmOf
  split
  · exact nm_tab2 _ (by omega)
  · intro x hx; cases hx
theorem nmOf_inj {a b : Int} (ha : nmOf a ≠ []) (h : nmOf a = nmOf b) : a = b := by
  have hb : nmOf b ≠ [] := by rw [← h]; exact ha
  unfold nmOf at ha hb h
  split at h
  · rename_i h1
    rw [if_pos h1] at ha
    split at h
    · rename_i h2
      rw [if_pos h2] at hb
      have e1 := nm_tab a.toNat (by omega) ha
      have e2 := nm_tab b.toNat (by omega) hb
      rw [h] at e1
      omega
    · exact absurd h ha
  · rename_i h1
    rw [if_neg h1] at ha
    exact absurd rfl ha
theorem nm_mid (op : Int) : ∀ x ∈ nmX op, midC x := by
  unfold nmX
  split
  · intro x hx
    rcases List.mem_cons.1 hx with rfl | hx
    · exact ⟨by decide, by decide⟩
    · obtain ⟨c, r, e, h⟩ := itoa_ok op
      exact mid_of_num (h x (by rw [← e]; exact hx))
  · intro x hx
    have := nmOf_mid op x hx
    exact ⟨this.1, this.2.1⟩
theorem nm_inj {a b : Int} (h : nmX a = nmX b) : a = b := by
  unfold nmX at h
  split at h <;> split at h
  · exact itoa_inj (List.cons.inj h).2
  · rename_i h1 h2
    exact absurd rfl (nmOf_mid b 63 (by rw [← h]; exact List.mem_cons_self ..)).2.2
  · rename_i h1 h2
    exact absurd rfl (nmOf_mid a 63 (by rw [h]; exact List.mem_cons_self ..)).2.2
  · rename_i h1 h2
    exact nmOf_inj h1 h
theorem st_kids (l : List Tr) (r : List UInt8) : St (fun c => c = 40) (dmpL l ++ 41 :: r) := by
  cases l with
  | nil => exact .inl ⟨r, rfl⟩
  | cons t l => exact .inr ⟨40, _, by rw [dmpL, dmp_eq]; rfl, rfl⟩
theorem head_inj {t u : Tr} {R S : List UInt8} (hR : St (fun c => c = 40) R) (hS : St (fun c => c = 40) S) (h : headV t ++ R = headV u ++ S) : t.op = u.op ∧ t.n = u.n ∧ t.m = u.m ∧ t.s = u.s ∧ R = S := by
  rw [headV_eq, headV_eq] at h
  simp only [List.append_assoc] at h
  have a1 := st_opt (sz_opt t.s) hR
  have b1 := st_opt (sz_opt u.s) hS
  have a2 := st_opt (mz_opt t.m) a1
  have b2 := st_opt (mz_opt u.m) b1
  have a3 := st_opt (nz_opt t.n) a2
  have b3 := st_opt (nz_opt u.n) b2
  obtain ⟨e1, h⟩ := span_eq (nm_mid t.op) (nm_mid u.op) (st_end a3) (st_end b3) h
  obtain ⟨e2, h⟩ := opt_eq (by rintro c (rfl | h1) h2; exact absurd h2 (by decide); rcases h2 with rfl | rfl | rfl <;> exact absurd h1 (by decide)) (nz_opt t.n) (nz_opt u.n) a2 b2 h
  obtain ⟨e3, h⟩ := opt_eq (by rintro c rfl h2; exact absurd h2 (by decide)) (mz_opt t.m) (mz_opt u.m) a1 b1 h
  obtain ⟨e4, h⟩ := opt_eq (by rintro c rfl h2; exact absurd h2 (by decide)) (sz_opt t.s) (sz_opt u.s) hR hS h
  exact ⟨nm_inj e1, nz_inj e2, mz_inj e3, sz_inj e4, h⟩
mutual
theorem dmp_inj : ∀ (t u : Tr) (R S : List UInt8), dmp t ++ R = dmp u ++ S → sm t u = true ∧ R = S
  | .mk o a n m s ks, u, R, S, h => by
    rw [dmp_eq, dmp_eq] at h
    have h1 := (List.cons.inj (by simpa only [List.cons_append] using h)).2
    simp only [List.append_assoc, List.cons_append, List.nil_append] at h1
    obtain ⟨e1, e2, e3, e4, h2⟩ := head_inj (st_kids _ R) (st_kids _ S) h1
    obtain ⟨h3, h4⟩ := dmpL_inj ks u.ks R S h2
    unfold sm
    rw [h3]
    have f1 : o = u.op := e1
    have f2 : n = u.n := e2
    have f3 : m = u.m := e3
    have f4 : s = u.s := e4
    exact ⟨by simp [f1, f2, f3, f4], h4⟩
theorem dmpL_inj : ∀ (l r : List Tr) (R S : List UInt8), dmpL l ++ 41 :: R = dmpL r ++ 41 :: S → smL l r = true ∧ R = S
  | [], [], R, S, h => ⟨by unfold smL; rfl, (List.cons.inj h).2⟩
  | [], u :: r, R, S, h => by exact absurd (List.cons.inj h).1 (by decide)
  | t :: l, [], R, S, h => by exact absurd (List.cons.inj h).1 (by decide)
  | t :: l, u :: r, R, S, h => by
    have h1 := (List.cons.inj (by simpa only [dmpL, List.cons_append] using h)).2
    simp only [List.append_assoc] at h1
    obtain ⟨h2, h3⟩ := dmp_inj t u _ _ h1
    obtain ⟨h4, h5⟩ := dmpL_inj l r R S h3
    exact ⟨by rw [smL_cons, h2, h4]; rfl, h5⟩
end
theorem head_sm {t u : Tr} (e1 : t.op = u.op) (e2 : t.n = u.n) (e3 : t.m = u.m) (e4 : t.s = u.s) : headV t = headV u := by
  rw [headV_eq, headV_eq, e1, e2, e3, e4]
mutual
theorem dmp_sm : ∀ (t u : Tr), sm t u = true → dmp t = dmp u
  | .mk o a n m s ks, u, h => by
    unfold sm at h
    simp only [Bool.and_eq_true, decide_eq_true_eq] at h
    obtain ⟨e1, e2, e3, e4, h2⟩ := h
    rw [dmp_eq, dmp_eq, head_sm (t := .mk o a n m s ks) (u := u) e1 e2 e3 e4]
    have h3 : dmpL ks = dmpL u.ks := dmpL_sm ks u.ks h2
    show _ :: (_ ++ (dmpL ks ++ _)) = _
    rw [h3]
theorem dmpL_sm : ∀ (l r : List Tr), smL l r = true → dmpL l = dmpL r
  | [], [], _ => rfl
  | [], _ :: _, h => by unfold smL at h; cases h
  | _ :: _, [], h => by unfold smL at h; cases h
  | t :: l, u :: r, h => by
    rw [smL_cons] at h
    have h2 := (Bool.and_eq_true _ _).mp h
    rw [dmpL, dmpL, dmp_sm t u h2.1, dmpL_sm l r h2.2]
end
theorem sm_dmp (t u : Tr) : sm t u = decide (dmp t = dmp u) := by
  rw [Bool.eq_iff_iff, decide_eq_true_eq]
  refine ⟨dmp_sm t u, fun h => (dmp_inj t u [] [] (by rw [h])).1⟩
theorem head_len {t : Tr} (hn : t.nums) (hs : t.shrt) : (headV t).length ≤ 700 := by
  obtain ⟨h1, h2, h3⟩ := nums_of hn
  rw [headV_eq]
  have a1 := nmX_len t.op h1.1 h1.2
  have a2 := nzX_len t.n h2.1 h2.2
  have a3 := mzX_len t.m h3.1 h3.2
  have a4 : (szX t.s).length ≤ 602 := by
    unfold szX
    split
    · simp
    · have h1 := (encL_len t.s.data.toList).1
      have h2 := shrt_of hs
      rw [bl] at h1
      simp only [List.length_cons]
      omega
  simp only [List.length_append]
  omega
mutual
theorem dmp_len : ∀ (t : Tr), t.nums → t.shrt → (dmp t).length + 1 ≤ 1000 * t.cnt
  | .mk o a n m s ks, hn, hs => by
    have h1 := head_len hn hs
    have h2 := dmpL_len ks hn.2 hs.2
    rw [dmp_eq]
    show (_ :: (_ ++ (dmpL ks ++ _))).length + 1 ≤ 1000 * (1 + cntL ks)
    simp only [List.length_cons, List.length_append, List.length_nil]
    omega
theorem dmpL_len : ∀ (l : List Tr), numsL l → shrtL l → (dmpL l).length ≤ 1000 * cntL l
  | [], _, _ => by simp [dmpL]
  | t :: r, hn, hs => by
    have h1 := dmp_len t hn.1 hs.1
    have h2 := dmpL_len r hn.2 hs.2
    simp only [dmpL, cntL, List.length_cons, List.length_append]
    omega
end
end Go.Proofs.YtppliplalfpmaaaDoor
