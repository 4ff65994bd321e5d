/- WALKS: rootByProof and Verify of the code. -/
import Derived.Test.YtpapfegbodolgaaDoorP6
set_option linter.unusedSimpArgs false
set_option linter.unusedVariables false
namespace Go.Proofs.YtpapfegbodolgaaDoor
open Go.RowKit

theorem Dig.val_size (D : Dig) (n i : Nat) (s : BA) (p : List BA) : (D.val n i s p).1.size ≤ 32 := by
  rw [Dig.val]
  split
  · exact Nat.le_of_eq (D.size _)
  · split
    · exact Nat.zero_le _
    · split <;> exact Nat.le_of_eq (D.size _)
theorem snoc_of {P : List ByteArray} (h : P ≠ []) : ∃ Q x, P = Q ++ [x] := by
  rcases List.eq_nil_or_concat P with h0 | ⟨Q, x, h1⟩
  · exact (h h0).elim
  · exact ⟨Q, x, by rw [h1, List.concat_eq_append]⟩

set_option maxRecDepth 100000 in
set_option maxHeartbeats 2000000 in
theorem val_c (N : Nat) : ∀ (P : List ByteArray) (v : Value) (n i : Nat) (s : ByteArray) (w : World), P.length ≤ N → 1 ≤ n → n ≤ 9223372036854775807 → i < n → s.size ≤ 100000000 → Strs w v P → Short P → Tab w →
    Calls Tryd.prog 60 #[.int .i64 n, .int .i64 i, .string s, v] w fun e w' => e = .returned (.tuple #[.string (dg.val n i s P).1, .bool (dg.val n i s P).2]) ∧ Below w.heap.size w w' := by
  induction N with
  | zero =>
    intro P v n i s w hN hn1 hn2 hi hs hS hsh hT
    obtain rfl : P = [] := List.length_eq_zero_iff.1 (by omega)
    have HT := Lib.hid hT
    have HS := Lib.hid hS
    clear hT hsh
    by_cases h1 : n = 1
    · subst h1
      obtain rfl : i = 0 := by omega
      obtain ⟨a, cap, rfl, _, _⟩ := HS.out.open0
      rw [show ([] : List ByteArray).length = 0 from rfl]
      have HE := Lib.hid (dg.val_one 0 s [])
      rw [HE.out]
      clear hS HS
      rw [show ((1 : Nat) : Int) = 1 from rfl]
      go_enter Tryd.func60, Tryd.ntmps60
      go_wp2_with fail
      refine (leaf_c s _ (by omega) HT.out).mono ?_
      rintro e w1 ⟨rfl, hb1⟩
      go_wp2_with fail
      go_ret2
      exact ⟨rfl, hb1⟩
    · have HE := Lib.hid (dg.val_nil (n := n) i s (by omega))
      rw [HE.out]
      have hne : ((n : Int) == 1) = false := by simp; omega
      clear hS
      go_enter Tryd.func60, Tryd.ntmps60
      go_wp2_with fail
      refine (cutLast_nil v _ HS.out).mono ?_
      rintro e w1 ⟨rfl, rfl⟩
      go_wp2_with fail
      go_ret2
      exact ⟨rfl, Below.refl _ _⟩
  | succ N ih =>
    intro P v n i s w hN hn1 hn2 hi hs hS hsh hT
    by_cases hP : P = []
    · exact ih P v n i s w (by rw [hP]; simp) hn1 hn2 hi hs hS hsh hT
    obtain ⟨Q, x, rfl⟩ := snoc_of hP
    have HT := Lib.hid hT
    have HS := Lib.hid hS
    have hx : x.size ≤ 100000000 := hsh x (by simp)
    have HQ := Lib.hid (show Short Q from fun y hy => hsh y (by simp [hy]))
    rw [List.length_append, List.length_cons, List.length_nil] at hN
    clear hT hsh hP
    by_cases h1 : n = 1
    · subst h1
      obtain rfl : i = 0 := by omega
      obtain ⟨a, cap, rfl, hc0, hm0⟩ := HS.out.open0
      have hQ : Q.length ≤ 9000000000000000000 ∨ 9000000000000000000 < Q.length := by omega
      rw [List.length_append, List.length_cons, List.length_nil, Nat.zero_add] at hc0 ⊢
      unfold maxLen at hm0
      have HE := Lib.hid (dg.val_one 0 s (Q ++ [x]))
      rw [HE.out, show decide (Q ++ [x] = []) = false from by simp]
      clear hS HS ih
      have hl : (((Q.length + 1 : Nat) : Int) == 0) = false := by simp; omega
      have hl' : ((Q.length : Int) + 1 == 0) = false := by simp; omega
      have hQ1 : Q.length + 1 ≤ 9223372036854775807 := by omega
      clear hQ hc0 hm0
      rw [show ((1 : Nat) : Int) = 1 from rfl]
      go_enter Tryd.func60, Tryd.ntmps60
      go_wp2_with fail
      refine (leaf_c s _ (by omega) HT.out).mono ?_
      rintro e w1 ⟨rfl, hb1⟩
      go_wp2_with fail
      go_ret2
      exact ⟨rfl, hb1⟩
    · have hne : ((n : Int) == 1) = false := by simp; omega
      obtain ⟨k, HK⟩ : ∃ k, Hid (spl n = k) := ⟨_, Lib.hid rfl⟩
      have hk1 : 1 ≤ k := by rw [← HK.out]; exact spl_pos _
      have hk2 : k < n := by rw [← HK.out]; exact spl_lt (by omega)
      have HSp := Lib.hid (fun w' => split_c n w' (by omega) (by omega))
      rw [HK.out] at HSp
      clear hS
      by_cases hik : i < k
      · have HE := Lib.hid (dg.val_lt (n := n) (i := i) s Q x (by omega) (by rw [HK.out]; exact hik))
        rw [HK.out] at HE
        have HC := Lib.hid (fun (v' : Value) (w' : World) (hv : Strs w v' Q) (hw : Below w.heap.size w w') => ih Q v' k i s w' (by omega) hk1 (by omega) hik hs (hv.below hw) HQ.out (HT.out.below hw))
        obtain ⟨r, HR⟩ : ∃ r, Hid ((dg.val k i s Q).1 = r) := ⟨_, Lib.hid rfl⟩
        obtain ⟨bo, HBo⟩ : ∃ bo, Hid ((dg.val k i s Q).2 = bo) := ⟨_, Lib.hid rfl⟩
        have hr : r.size ≤ 32 := by rw [← HR.out]; exact dg.val_size _ _ _ _
        rw [HE.out]
        simp only []
        rw [HR.out, HBo.out]
        rw [HR.out, HBo.out] at HC
        clear ih
        have hd : decide ((i : Int) < (k : Int)) = true := by simp; omega
        go_enter Tryd.func60, Tryd.ntmps60
        go_wp2_with fail
        refine (cutLast_c v Q x _ HS.out).mono ?_
        rintro e w1 ⟨v1, rfl, hv1, m, rfl⟩
        have HV1 := Lib.hid hv1
        clear hv1
        go_wp2_with fail
        refine (HSp.out _).mono ?_
        rintro e w1 ⟨rfl, rfl⟩
        go_wp2_with fail
        refine (HC.out v1 _ HV1.out (below_drewN (Below.refl _ _) m)).mono ?_
        rintro e w2 ⟨rfl, hb2⟩
        have hb02 : Below w.heap.size w w2 := btD (below_drewN (Below.refl _ _) m) hb2
        go_wp2_with fail
        refine (node_c r x _ (by omega) (by omega) (HT.out.below hb02)).mono ?_
        rintro e w3 ⟨rfl, hb3⟩
        go_wp2_with fail
        go_ret2
        exact ⟨rfl, btD hb02 hb3⟩
      · have HE := Lib.hid (dg.val_ge (n := n) (i := i) s Q x (by omega) (by rw [HK.out]; omega))
        rw [HK.out] at HE
        have HC := Lib.hid (fun (v' : Value) (w' : World) (hv : Strs w v' Q) (hw : Below w.heap.size w w') => ih Q v' (n - k) (i - k) s w' (by omega) (by omega) (by omega) (by omega) hs (hv.below hw) HQ.out (HT.out.below hw))
        obtain ⟨r, HR⟩ : ∃ r, Hid ((dg.val (n - k) (i - k) s Q).1 = r) := ⟨_, Lib.hid rfl⟩
        obtain ⟨bo, HBo⟩ : ∃ bo, Hid ((dg.val (n - k) (i - k) s Q).2 = bo) := ⟨_, Lib.hid rfl⟩
        have hr : r.size ≤ 32 := by rw [← HR.out]; exact dg.val_size _ _ _ _
        rw [HE.out]
        simp only []
        rw [HR.out, HBo.out]
        rw [HR.out, HBo.out, show ((n - k : Nat) : Int) = (n : Int) - (k : Int) by omega, show ((i - k : Nat) : Int) = (i : Int) - (k : Int) by omega] at HC
        clear ih
        have hd : decide ((i : Int) < (k : Int)) = false := by simp; omega
        have hki : (k : Int) ≤ (i : Int) := by omega
        have hkn : (k : Int) ≤ (n : Int) := by omega
        go_enter Tryd.func60, Tryd.ntmps60
        go_wp2_with fail
        refine (cutLast_c v Q x _ HS.out).mono ?_
        rintro e w1 ⟨v1, rfl, hv1, m, rfl⟩
        have HV1 := Lib.hid hv1
        clear hv1
        go_wp2_with fail
        refine (HSp.out _).mono ?_
        rintro e w1 ⟨rfl, rfl⟩
        go_wp2_with fail
        refine (HC.out v1 _ HV1.out (below_drewN (Below.refl _ _) m)).mono ?_
        rintro e w2 ⟨rfl, hb2⟩
        have hb02 : Below w.heap.size w w2 := btD (below_drewN (Below.refl _ _) m) hb2
        go_wp2_with fail
        refine (node_c x r _ (by omega) (by omega) (HT.out.below hb02)).mono ?_
        rintro e w3 ⟨rfl, hb3⟩
        go_wp2_with fail
        go_ret2
        exact ⟨rfl, btD hb02 hb3⟩

/-- Go's == on strings, as the walk spells it. -/
theorem ext_listD {a b : ByteArray} (h : a.data.toList = b.data.toList) : a = b := by
  apply ByteArray.ext
  exact Array.ext' h
theorem str_eqD {a b : ByteArray} (h : a = b) : (a.toList == b.toList) = true := beq_iff_eq.2 (by rw [h])
theorem str_neD {a b : ByteArray} (h : a ≠ b) : (a.toList == b.toList) = false := beq_eq_false_iff_ne.2 (fun e => h (ext_listD (by rw [← ByteArray.toList_eq, ← ByteArray.toList_eq, e])))
theorem str_dec (a b : ByteArray) : (a.toList == b.toList) = decide (a = b) := by
  by_cases h : a = b
  · rw [str_eqD h]; simp [h]
  · rw [str_neD h]; simp [h]

set_option maxRecDepth 100000 in
set_option maxHeartbeats 1000000 in
theorem verify_c (root : ByteArray) (n i : Int) (s : ByteArray) (v : Value) (P : List ByteArray) (w : World) (hn1 : -9223372036854775808 ≤ n) (hn2 : n ≤ 9223372036854775807) (hi1 : -9223372036854775808 ≤ i) (hi2 : i ≤ 9223372036854775807) (hs : s.size ≤ 100000000) (hS : Strs w v P) (hsh : Short P) (hT : Tab w) :
    Calls Tryd.prog 39 #[.string root, .int .i64 n, .int .i64 i, .string s, v] w fun e w' => e = .returned (.bool (dg.verify root n i s P)) ∧ Below w.heap.size w w' := by
  have HS := Lib.hid hS
  have HT := Lib.hid hT
  have HSh := Lib.hid hsh
  have HA := Lib.hid (areDigests_c v P w hS (fun x hx => by have := hsh x hx; unfold maxLen; omega))
  clear hS hT hsh
  by_cases c1 : i < 0
  · have HE := Lib.hid (show dg.verify root n i s P = false from by unfold Dig.verify; rw [if_pos (.inl c1)])
    rw [HE.out]
    have hd : decide (i < 0) = true := by simp; omega
    go_enter Tryd.func39, Tryd.ntmps39
    go_wp2_with fail
    go_ret
    exact ⟨rfl, Below.refl _ _⟩
  have hd : decide (i < 0) = false := by simp; omega
  by_cases c2 : n ≤ i
  · have HE := Lib.hid (show dg.verify root n i s P = false from by unfold Dig.verify; rw [if_pos (.inr (.inl c2))])
    rw [HE.out]
    have hd2 : decide (n ≤ i) = true := by simp; omega
    go_enter Tryd.func39, Tryd.ntmps39
    go_wp2_with fail
    go_ret
    exact ⟨rfl, Below.refl _ _⟩
  have hd2 : decide (n ≤ i) = false := by simp; omega
  cases hD : areD P with
  | false =>
    have HE := Lib.hid (show dg.verify root n i s P = false from by unfold Dig.verify; rw [if_pos (.inr (.inr hD))])
    rw [HE.out]
    rw [hD] at HA
    clear hD
    go_enter Tryd.func39, Tryd.ntmps39
    go_wp2_with fail
    refine HA.out.mono ?_
    rintro e w1 ⟨rfl, rfl⟩
    go_wp2_with fail
    go_ret
    exact ⟨rfl, Below.refl _ _⟩
  | true =>
    obtain ⟨n, rfl⟩ := Int.eq_ofNat_of_zero_le (show 0 ≤ n by omega)
    obtain ⟨i, rfl⟩ := Int.eq_ofNat_of_zero_le (show 0 ≤ i by omega)
    have HE := Lib.hid (show dg.verify root n i s P = ((dg.val n i s P).2 && decide ((dg.val n i s P).1 = root)) from by unfold Dig.verify; rw [if_neg (by simp [hD]; omega)]; simp)
    rw [HE.out]
    rw [hD] at HA
    clear hD
    have HC := Lib.hid (val_c P.length P v n i s w (Nat.le_refl _) (by omega) (by omega) (by omega) hs HS.out HSh.out HT.out)
    obtain ⟨r, HR⟩ : ∃ r, Hid ((dg.val n i s P).1 = r) := ⟨_, Lib.hid rfl⟩
    obtain ⟨bo, HBo⟩ : ∃ bo, Hid ((dg.val n i s P).2 = bo) := ⟨_, Lib.hid rfl⟩
    rw [HR.out, HBo.out] at HC ⊢
    cases bo with
    | false =>
      rw [Bool.false_and]
      go_enter Tryd.func39, Tryd.ntmps39
      go_wp2_with fail
      refine HA.out.mono ?_
      rintro e w1 ⟨rfl, rfl⟩
      go_wp2_with fail
      refine HC.out.mono ?_
      rintro e w2 ⟨rfl, hb2⟩
      go_wp2_with fail
      go_ret
      exact ⟨rfl, hb2⟩
    | true =>
      rw [Bool.true_and, ← str_dec]
      obtain ⟨q, HQ⟩ : ∃ q, Hid ((r.toList == root.toList) = q) := ⟨_, Lib.hid rfl⟩
      have hq := HQ.out
      rw [hq]
      go_enter Tryd.func39, Tryd.ntmps39
      go_wp2_with fail
      refine HA.out.mono ?_
      rintro e w1 ⟨rfl, rfl⟩
      go_wp2_with fail
      refine HC.out.mono ?_
      rintro e w2 ⟨rfl, hb2⟩
      go_wp2_with fail
      go_ret
      exact ⟨rfl, hb2⟩
end Go.Proofs.YtpapfegbodolgaaDoor
