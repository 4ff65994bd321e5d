/- WALKS: rootsByProof and VerifyExtension of the code. -/
import Derived.Test.YtpapfegbodolgaaDoorDT13
set_option linter.unusedSimpArgs false
set_option linter.unusedVariables false
namespace Go.Proofs.YtpapfegbodolgaaDoor
open Go.RowKit

theorem Dig.two_size (D : Dig) (N : Nat) : ∀ (P : List BA) (old : BA) (m n : Nat) (b : Bool), P.length ≤ N → 1 ≤ m → m ≤ n → old.size ≤ 100000000 → Short P → (D.two old m n P b).1.size ≤ 100000000 ∧ (D.two old m n P b).2.1.size ≤ 100000000 := by
  induction N with
  | zero =>
    intro P old m n b hN hm hmn ho hsh
    obtain rfl : P = [] := List.length_eq_zero_iff.1 (by omega)
    by_cases h : m = n ∧ b = true
    · obtain ⟨rfl, rfl⟩ := h
      rw [D.two_whole]; exact ⟨ho, ho⟩
    · rw [D.two_nil old (by by_cases h1 : m = n; · exact .inr (by cases b; rfl; exact (h ⟨h1, rfl⟩).elim)
                            · exact .inl h1)]
      exact ⟨Nat.zero_le _, Nat.zero_le _⟩
  | succ N ih =>
    intro P old m n b hN hm hmn ho hsh
    by_cases hP : P = []
    · exact ih P old m n b (by rw [hP]; simp) hm hmn ho hsh
    obtain ⟨Q, x, rfl⟩ := snoc_of hP
    have hx : x.size ≤ 100000000 := hsh x (by simp)
    have hQ : Short Q := fun y hy => hsh y (by simp [hy])
    rw [List.length_append, List.length_cons, List.length_nil] at hN
    by_cases h1 : m = n
    · subst h1
      cases b with
      | true => rw [D.two_whole]; exact ⟨ho, ho⟩
      | false => rw [D.two_last]; exact ⟨hx, hx⟩
    · have hp := spl_pos n
      by_cases hk : m ≤ spl n
      · rw [D.two_le old Q x b (by omega) (by omega) hk]
        exact ⟨(ih Q old m (spl n) b (by omega) hm hk ho hQ).1, Nat.le_trans (Nat.le_of_eq (D.size _)) (by omega)⟩
      · rw [D.two_gt old Q x b (by omega) (by omega) (by omega)]
        exact ⟨Nat.le_trans (Nat.le_of_eq (D.size _)) (by omega), Nat.le_trans (Nat.le_of_eq (D.size _)) (by omega)⟩

theorem len_zero_bool (P : List ByteArray) : ((P.length : Int) == 0) = decide (P = []) := by
  cases P with
  | nil => rfl
  | cons a l => simp; omega

set_option maxRecDepth 100000 in
set_option maxHeartbeats 2000000 in
theorem two_c (N : Nat) : ∀ (P : List ByteArray) (v : Value) (old : ByteArray) (m n : Nat) (whole : Bool) (w : World), P.length ≤ N → 1 ≤ m → m ≤ n → n ≤ 9223372036854775807 → old.size ≤ 100000000 → Strs w v P → Short P → Tab w →
    Calls Tryd.prog 44 #[.string old, .int .i64 m, .int .i64 n, v, .bool whole] w fun e w' => e = .returned (.tuple #[.string (dg.two old m n P whole).1, .string (dg.two old m n P whole).2.1, .bool (dg.two old m n P whole).2.2]) ∧ Below w.heap.size w w' := by
  induction N with
  | zero =>
    intro P v old m n whole w hN hm hmn hn ho hS hsh hT
    obtain rfl : P = [] := List.length_eq_zero_iff.1 (by omega)
    have HS := Lib.hid hS
    clear hT hsh
    by_cases h : m = n ∧ whole = true
    · obtain ⟨rfl, rfl⟩ := h
      obtain ⟨a, cap, rfl, _, _⟩ := HS.out.open0
      rw [show ([] : List ByteArray).length = 0 from rfl]
      have HE := Lib.hid (dg.two_whole old m [])
      rw [HE.out]
      clear hS HS
      have hq : ((m : Int) == (m : Int)) = true := by simp
      go_enter Tryd.func44, Tryd.ntmps44
      go_wp2_with fail
      go_ret3
      exact ⟨rfl, Below.refl _ _⟩
    · have HE := Lib.hid (dg.two_nil old (m := m) (n := n) (b := whole) (by by_cases h1 : m = n; · exact .inr (by cases whole; rfl; exact (h ⟨h1, rfl⟩).elim)
                                                                            · exact .inl h1))
      rw [HE.out]
      clear hS
      by_cases h1 : m = n
      · subst h1
        obtain rfl : whole = false := by cases whole; rfl; exact (h ⟨rfl, rfl⟩).elim
        have hq : ((m : Int) == (m : Int)) = true := by simp
        clear h
        go_enter Tryd.func44, Tryd.ntmps44
        go_wp2_with fail
        refine (cutLast_nil v _ HS.out).mono ?_
        rintro e w1 ⟨rfl, rfl⟩
        go_wp2_with fail
        go_ret3
        exact ⟨rfl, Below.refl _ _⟩
      · have hq : ((m : Int) == (n : Int)) = false := by simp; omega
        clear h
        go_enter Tryd.func44, Tryd.ntmps44
        go_wp2_with fail
        refine (cutLast_nil v _ HS.out).mono ?_
        rintro e w1 ⟨rfl, rfl⟩
        go_wp2_with fail
        go_ret3
        exact ⟨rfl, Below.refl _ _⟩
  | succ N ih =>
    intro P v old m n whole w hN hm hmn hn ho hS hsh hT
    by_cases hP : P = []
    · exact ih P v old m n whole w (by rw [hP]; simp) hm hmn hn ho hS hsh hT
    obtain ⟨Q, x, rfl⟩ := snoc_of hP
    have HT := Lib.hid hT
    have HS := Lib.hid hS
    have hx : x.size ≤ 100000000 := hsh x (by simp)
    have HQ := Lib.hid (show Short Q from fun y hy => hsh y (by simp [hy]))
    rw [List.length_append, List.length_cons, List.length_nil] at hN
    clear hT hsh hP
    by_cases h1 : m = n
    · subst h1
      have hq : ((m : Int) == (m : Int)) = true := by simp
      cases whole with
      | true =>
        obtain ⟨a, cap, rfl, hc0, hm0⟩ := HS.out.open0
        rw [List.length_append, List.length_cons, List.length_nil, Nat.zero_add] at hc0 ⊢
        unfold maxLen at hm0
        have HE := Lib.hid (dg.two_whole old m (Q ++ [x]))
        rw [HE.out, show decide (Q ++ [x] = []) = false from by simp]
        clear hS HS ih
        have hl' : ((Q.length : Int) + 1 == 0) = false := by simp; omega
        have hQ1 : Q.length + 1 ≤ 9223372036854775807 := by omega
        clear hc0 hm0
        go_enter Tryd.func44, Tryd.ntmps44
        go_wp2_with fail
        go_ret3
        exact ⟨rfl, Below.refl _ _⟩
      | false =>
        have HE := Lib.hid (dg.two_last old m Q x)
        obtain ⟨q, Hq⟩ : ∃ q, Hid (((Q.length : Int) == 0) = q) := ⟨_, Lib.hid rfl⟩
        have hq2 := Hq.out
        rw [HE.out, ← len_zero_bool, hq2]
        clear hS ih
        go_enter Tryd.func44, Tryd.ntmps44
        go_wp2_with fail
        refine (cutLast_c v Q x _ HS.out).mono ?_
        rintro e w1 ⟨v1, rfl, hv1, mm, rfl⟩
        obtain ⟨a1, cap1, rfl, hc1, hm1⟩ := hv1.open0
        clear hv1 hc1
        unfold maxLen at hm1
        go_wp2_with fail
        go_ret3
        exact ⟨rfl, below_drewN (Below.refl _ _) mm⟩
    · have hq : ((m : Int) == (n : Int)) = false := by simp; omega
      obtain ⟨k, HK⟩ : ∃ k, Hid (spl n = k) := ⟨_, Lib.hid rfl⟩
      have hk1 : 1 ≤ k := by rw [← HK.out]; exact spl_pos _
      have hk2 : k < n := by rw [← HK.out]; exact spl_lt (by omega)
      have HSp := Lib.hid (fun w' => split_c n w' (by omega) (by omega))
      rw [HK.out] at HSp
      clear hS
      by_cases hik : m ≤ k
      · have HE := Lib.hid (dg.two_le old (m := m) (n := n) Q x whole (by omega) (by omega) (by rw [HK.out]; exact hik))
        rw [HK.out] at HE
        have HC := Lib.hid (fun (v' : Value) (w' : World) (hv : Strs w v' Q) (hw : Below w.heap.size w w') => ih Q v' old m k whole w' (by omega) hm hik (by omega) ho (hv.below hw) HQ.out (HT.out.below hw))
        have hsz := dg.two_size Q.length Q old m k whole (Nat.le_refl _) hm hik ho HQ.out
        obtain ⟨r, HR⟩ : ∃ r, Hid ((dg.two old m k Q whole).1 = r) := ⟨_, Lib.hid rfl⟩
        obtain ⟨r2, HR2⟩ : ∃ r, Hid ((dg.two old m k Q whole).2.1 = r) := ⟨_, Lib.hid rfl⟩
        obtain ⟨bo, HBo⟩ : ∃ bo, Hid ((dg.two old m k Q whole).2.2 = bo) := ⟨_, Lib.hid rfl⟩
        rw [HR.out, HR2.out] at hsz
        obtain ⟨hr1, hr2⟩ := hsz
        rw [HE.out]
        simp only []
        rw [HR.out, HR2.out, HBo.out]
        rw [HR.out, HR2.out, HBo.out] at HC
        clear ih
        have hd : decide ((m : Int) ≤ (k : Int)) = true := by simp; omega
        go_enter Tryd.func44, Tryd.ntmps44
        go_wp2_with fail
        refine (cutLast_c v Q x _ HS.out).mono ?_
        rintro e w1 ⟨v1, rfl, hv1, mm, rfl⟩
        have HV1 := Lib.hid hv1
        clear hv1
        go_wp2_with fail
        refine (HSp.out _).mono ?_
        rintro e w1 ⟨rfl, rfl⟩
        go_wp2_with fail
        refine (HC.out v1 _ HV1.out (below_drewN (Below.refl _ _) mm)).mono ?_
        rintro e w2 ⟨rfl, hb2⟩
        have hb02 : Below w.heap.size w w2 := btD (below_drewN (Below.refl _ _) mm) hb2
        go_wp2_with fail
        refine (node_c r2 x _ (by omega) (by omega) (HT.out.below hb02)).mono ?_
        rintro e w3 ⟨rfl, hb3⟩
        go_wp2_with fail
        go_ret3
        exact ⟨rfl, btD hb02 hb3⟩
      · have HE := Lib.hid (dg.two_gt old (m := m) (n := n) Q x whole (by omega) (by omega) (by rw [HK.out]; omega))
        rw [HK.out] at HE
        have HC := Lib.hid (fun (v' : Value) (w' : World) (hv : Strs w v' Q) (hw : Below w.heap.size w w') => ih Q v' old (m - k) (n - k) false w' (by omega) (by omega) (by omega) (by omega) ho (hv.below hw) HQ.out (HT.out.below hw))
        have hsz := dg.two_size Q.length Q old (m - k) (n - k) false (Nat.le_refl _) (by omega) (by omega) ho HQ.out
        obtain ⟨r, HR⟩ : ∃ r, Hid ((dg.two old (m - k) (n - k) Q false).1 = r) := ⟨_, Lib.hid rfl⟩
        obtain ⟨r2, HR2⟩ : ∃ r, Hid ((dg.two old (m - k) (n - k) Q false).2.1 = r) := ⟨_, Lib.hid rfl⟩
        obtain ⟨bo, HBo⟩ : ∃ bo, Hid ((dg.two old (m - k) (n - k) Q false).2.2 = bo) := ⟨_, Lib.hid rfl⟩
        rw [HR.out, HR2.out] at hsz
        obtain ⟨hr1, hr2⟩ := hsz
        rw [HE.out]
        simp only []
        rw [HR.out, HR2.out, HBo.out]
        rw [HR.out, HR2.out, HBo.out, show ((n - k : Nat) : Int) = (n : Int) - (k : Int) by omega, show ((m - k : Nat) : Int) = (m : Int) - (k : Int) by omega] at HC
        clear ih
        have hd : decide ((m : Int) ≤ (k : Int)) = false := by simp; omega
        have hki : (k : Int) ≤ (m : Int) := by omega
        have hkn : (k : Int) ≤ (n : Int) := by omega
        go_enter Tryd.func44, Tryd.ntmps44
        go_wp2_with fail
        refine (cutLast_c v Q x _ HS.out).mono ?_
        rintro e w1 ⟨v1, rfl, hv1, mm, rfl⟩
        have HV1 := Lib.hid hv1
        clear hv1
        go_wp2_with fail
        refine (HSp.out _).mono ?_
        rintro e w1 ⟨rfl, rfl⟩
        go_wp2_with fail
        refine (HC.out v1 _ HV1.out (below_drewN (Below.refl _ _) mm)).mono ?_
        rintro e w2 ⟨rfl, hb2⟩
        have hb02 : Below w.heap.size w w2 := btD (below_drewN (Below.refl _ _) mm) hb2
        go_wp2_with fail
        refine (node_c x r _ (by omega) (by omega) (HT.out.below hb02)).mono ?_
        rintro e w3 ⟨rfl, hb3⟩
        go_wp2_with fail
        refine (node_c x r2 _ (by omega) (by omega) (HT.out.below (btD hb02 hb3))).mono ?_
        rintro e w4 ⟨rfl, hb4⟩
        go_wp2_with fail
        go_ret3
        exact ⟨rfl, btD (btD hb02 hb3) hb4⟩

theorem areD_two (a b : ByteArray) : areD [a, b] = (decide (a.size = 32) && decide (b.size = 32)) := by simp [areD]
theorem strs_two (w : World) (a b : ByteArray) : Strs (w.alloc (.cells #[.string a, .string b] 9)) (.slice (some ⟨w.heap.size, 0, none⟩) 2 2) [a, b] := by
  refine ⟨_, 2, 2, rfl, rfl, Nat.le_refl _, by unfold maxLen; omega, fun _ => ⟨w.heap.size, 0, rfl, by simp, fun j hj => ?_⟩⟩
  have := heap_alloc_new w (.cells #[.string a, .string b] 9)
  match j, hj with
  | 0, _ => rw [cell_of_row _ _ _ _ _ _ this]; rfl
  | 1, _ => rw [cell_of_row _ _ _ _ _ _ this]; rfl

set_option maxRecDepth 100000 in
set_option maxHeartbeats 1000000 in
theorem verifyExt_c (old : ByteArray) (m : Int) (root : ByteArray) (n : Int) (v : Value) (P : List ByteArray) (w : World) (hn1 : -9223372036854775808 ≤ n) (hn2 : n ≤ 9223372036854775807) (hm1 : -9223372036854775808 ≤ m) (hm2 : m ≤ 9223372036854775807) (ho : old.size ≤ maxLen) (hr : root.size ≤ maxLen) (hS : Strs w v P) (hsh : Short P) (hT : Tab w) :
    Calls Tryd.prog 21 #[.string old, .int .i64 m, .string root, .int .i64 n, v] w fun e w' => e = .returned (.bool (dg.verifyExt old m root n P)) ∧ Below w.heap.size w w' := by
  have HS := Lib.hid hS
  have HT := Lib.hid hT
  have HSh := Lib.hid hsh
  have HA := Lib.hid (fun (w' : World) (hw : Below w.heap.size w w') => areDigests_c v P w' (hS.below hw) (fun x hx => by have := hsh x hx; unfold maxLen; omega))
  have HA2 := Lib.hid (fun (w' : World) => areDigests_c _ [old, root] _ (strs_two w' old root) (fun x hx => by rcases List.mem_cons.1 hx with rfl | hx; exact ho; rcases List.mem_cons.1 hx with rfl | hx; exact hr; exact absurd hx (by simp)))
  clear hS hT hsh
  unfold maxLen at ho hr
  by_cases c1 : m < 0
  · have HE := Lib.hid (show dg.verifyExt old m root n P = false from by unfold Dig.verifyExt; rw [if_pos (.inl c1)])
    rw [HE.out]
    have hd : decide (m < 0) = true := by simp; omega
    go_enter Tryd.func21, Tryd.ntmps21
    go_wp2_with fail
    go_ret
    exact ⟨rfl, Below.refl _ _⟩
  have hd : decide (m < 0) = false := by simp; omega
  by_cases c2 : n < m
  · have HE := Lib.hid (show dg.verifyExt old m root n P = false from by unfold Dig.verifyExt; rw [if_pos (.inr (.inl c2))])
    rw [HE.out]
    have hd2 : decide (n < m) = true := by simp; omega
    go_enter Tryd.func21, Tryd.ntmps21
    go_wp2_with fail
    go_ret
    exact ⟨rfl, Below.refl _ _⟩
  have hd2 : decide (n < m) = false := by simp; omega
  cases hD2 : areD [old, root] with
  | false =>
    have HE := Lib.hid (show dg.verifyExt old m root n P = false from by unfold Dig.verifyExt; rw [if_pos (.inr (.inr (.inl hD2)))])
    rw [HE.out]
    rw [hD2] at HA2
    clear hD2
    go_enter Tryd.func21, Tryd.ntmps21
    go_wp2_with fail
    refine (HA2.out _).mono ?_
    rintro e w1 ⟨rfl, rfl⟩
    go_wp2_with fail
    go_ret
    exact ⟨rfl, (Below.refl _ w).alloc (Nat.le_refl _) _⟩
  | true =>
    have h32 := hD2
    rw [areD_two] at h32
    simp only [Bool.and_eq_true, decide_eq_true_eq] at h32
    obtain ⟨ho32, hr32⟩ := h32
    have hB0 : Below w.heap.size w (w.alloc (.cells #[.string old, .string root] 9)) := (Below.refl _ w).alloc (Nat.le_refl _) _
    have HB0 := Lib.hid hB0
    clear hB0
    cases hD : areD P with
    | false =>
      have HE := Lib.hid (show dg.verifyExt old m root n P = false from by unfold Dig.verifyExt; rw [if_pos (.inr (.inr (.inr hD)))])
      rw [HE.out]
      rw [hD2] at HA2
      rw [hD] at HA
      clear hD hD2 ho32 hr32
      go_enter Tryd.func21, Tryd.ntmps21
      go_wp2_with fail
      refine (HA2.out _).mono ?_
      rintro e w1 ⟨rfl, rfl⟩
      go_wp2_with fail
      refine (HA.out _ HB0.out).mono ?_
      rintro e w1 ⟨rfl, rfl⟩
      go_wp2_with fail
      go_ret
      exact ⟨rfl, HB0.out⟩
    | true =>
      have HE0 := Lib.hid (show dg.verifyExt old m root n P = if m = 0 then decide (P = []) && decide (old = dg.root []) else (dg.two old m.toNat n.toNat P true).2.2 && (decide ((dg.two old m.toNat n.toNat P true).1 = old) && decide ((dg.two old m.toNat n.toNat P true).2.1 = root)) from by
        unfold Dig.verifyExt; rw [if_neg (by simp [hD, hD2]; omega)])
      rw [HE0.out]
      rw [hD2] at HA2
      rw [hD] at HA
      clear hD hD2 HE0
      have ho32' : old.size ≤ 100000000 := by omega
      clear ho32 hr32
      by_cases hm0 : m = 0
      · subst hm0
        rw [if_pos rfl, ← len_zero_bool]
        obtain ⟨a1, cap1, rfl, hc1, hm1'⟩ := HS.out.open0
        obtain ⟨pn, HPN⟩ : ∃ pn, Hid (P.length = pn) := ⟨_, Lib.hid rfl⟩
        rw [HPN.out] at HA hc1 ⊢
        unfold maxLen at hm1'
        have HRt := Lib.hid (root_c 0 [] (.slice none 0 0) _ (Nat.le_refl _) (Strs.nil _) (fun x hx => absurd hx (by simp)) (HT.out.below HB0.out))
        obtain ⟨r0, HR0⟩ : ∃ r0, Hid (dg.root [] = r0) := ⟨_, Lib.hid rfl⟩
        rw [HR0.out] at HRt ⊢
        by_cases hp : pn = 0
        · have hpz : ((pn : Int) == 0) = true := by simp; omega
          rw [hpz, Bool.true_and, ← str_dec]
          obtain ⟨q, HQ⟩ : ∃ q, Hid ((old.toList == r0.toList) = q) := ⟨_, Lib.hid rfl⟩
          have hq := HQ.out
          rw [hq]
          clear hp
          go_enter Tryd.func21, Tryd.ntmps21
          go_wp2_with fail
          refine (HA2.out _).mono ?_
          rintro e w1 ⟨rfl, rfl⟩
          go_wp2_with fail
          refine (HA.out _ HB0.out).mono ?_
          rintro e w1 ⟨rfl, rfl⟩
          go_wp2_with fail
          refine HRt.out.mono ?_
          rintro e w2 ⟨rfl, hb2⟩
          go_wp2_with fail
          go_ret
          exact ⟨rfl, btD HB0.out hb2⟩
        · have hpz : ((pn : Int) == 0) = false := by simp; omega
          rw [hpz, Bool.false_and]
          clear hp
          go_enter Tryd.func21, Tryd.ntmps21
          go_wp2_with fail
          refine (HA2.out _).mono ?_
          rintro e w1 ⟨rfl, rfl⟩
          go_wp2_with fail
          refine (HA.out _ HB0.out).mono ?_
          rintro e w1 ⟨rfl, rfl⟩
          go_wp2_with fail
          go_ret
          exact ⟨rfl, HB0.out⟩
      · rw [if_neg hm0]
        have hmz : (m == 0) = false := by simp; omega
        obtain ⟨n, rfl⟩ := Int.eq_ofNat_of_zero_le (show 0 ≤ n by omega)
        obtain ⟨m, rfl⟩ := Int.eq_ofNat_of_zero_le (show 0 ≤ m by omega)
        rw [Int.toNat_natCast, Int.toNat_natCast]
        have HC := Lib.hid (two_c P.length P v old m n true _ (Nat.le_refl _) (by omega) (by omega) (by omega) ho32' (HS.out.below HB0.out) HSh.out (HT.out.below HB0.out))
        obtain ⟨r, HR⟩ : ∃ r, Hid ((dg.two old m n P true).1 = r) := ⟨_, Lib.hid rfl⟩
        obtain ⟨r2, HR2⟩ : ∃ r, Hid ((dg.two old m n P true).2.1 = r) := ⟨_, Lib.hid rfl⟩
        obtain ⟨bo, HBo⟩ : ∃ bo, Hid ((dg.two old m n P true).2.2 = bo) := ⟨_, Lib.hid rfl⟩
        rw [HR.out, HR2.out, HBo.out] at HC ⊢
        rw [← str_dec, ← str_dec]
        obtain ⟨q, HQ⟩ : ∃ q, Hid ((r.toList == old.toList) = q) := ⟨_, Lib.hid rfl⟩
        obtain ⟨q2, HQ2⟩ : ∃ q, Hid ((r2.toList == root.toList) = q) := ⟨_, Lib.hid rfl⟩
        have hq := HQ.out
        have hq2 := HQ2.out
        rw [hq, hq2]
        cases bo <;> cases q
        all_goals
          simp only [Bool.false_and, Bool.true_and]
          go_enter Tryd.func21, Tryd.ntmps21
          go_wp2_with fail
          refine (HA2.out _).mono ?_
          rintro e w1 ⟨rfl, rfl⟩
          go_wp2_with fail
          refine (HA.out _ HB0.out).mono ?_
          rintro e w1 ⟨rfl, rfl⟩
          go_wp2_with fail
          refine HC.out.mono ?_
          rintro e w2 ⟨rfl, hb2⟩
          go_wp2_with fail
          go_ret
          exact ⟨rfl, btD HB0.out hb2⟩
end Go.Proofs.YtpapfegbodolgaaDoor
