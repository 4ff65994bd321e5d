/- THE WALK OF way. -/
import Derived.Test.YtkmiodlehmocnaaDoorB8
set_option linter.unusedVariables false
set_option linter.unusedSimpArgs false
namespace Go.Proofs.YtkmiodlehmocnaaDoor
open Go.RowKit

set_option maxRecDepth 100000 in
set_option maxHeartbeats 2000000 in
theorem way_c (N : Nat) : ∀ (P : List ByteArray) (v : Value) (n i : Nat) (s : ByteArray) (w : World), P.length ≤ N → P.length ≤ 70 → 1 ≤ n → n ≤ 9223372036854775807 → i < n → s.size ≤ 60 → Strs w v P → areD P = true → (dg.val n i s P).2 = true → Tab w →
    Calls Tryd.prog 30 #[.int .i64 n, .int .i64 i, .string s, v] w fun e w' => ∃ v', e = .returned (.tuple #[v', .string (dg.val n i s P).1]) ∧ OwnS w' w.heap.size v' (ways n i s P) ∧ Below w.heap.size w w' := by
  induction N with
  | zero =>
    intro P v n i s w hN h70 hn1 hn2 hi hs hS ha hv hT
    obtain rfl : P = [] := List.length_eq_zero_iff.1 (by omega)
    have HT := Lib.hid hT
    have HS := Lib.hid hS
    clear hT ha
    by_cases h1 : n = 1
    · subst h1
      obtain rfl : i = 0 := by omega
      obtain ⟨a, cap, rfl, _, _⟩ := HS.out.open0
      rw [show ([] : List ByteArray).length = 0 from rfl]
      rw [dg.val_one 0 s [], ways_one]
      have HLe : Hid (Dig.leafS s = (⟨#[0]⟩ : ByteArray) ++ s) := Lib.hid rfl
      rw [HLe.out]
      have HO := Lib.hid (own_one w w.heap.size ((⟨#[0]⟩ : ByteArray) ++ s) (Nat.le_refl _))
      have HB := Lib.hid (show Below w.heap.size w (w.alloc (.cells #[.string ((⟨#[0]⟩ : ByteArray) ++ s)] 9)) from (Below.refl _ w).alloc (Nat.le_refl _) _)
      clear hS HS hv
      simp only []
      rw [show ((1 : Nat) : Int) = 1 from rfl]
      go_enter Tryd.func30, Tryd.ntmps30
      go_wp2_with fail
      refine (leaf_c s _ (by omega) (HT.out.below HB.out)).mono ?_
      rintro e w1 ⟨rfl, hb1⟩
      have HB1 := Lib.hid (bt HB.out hb1)
      have HO1 := Lib.hid (own_below HO.out hb1)
      clear hb1
      go_wp2_with fail
      go_ret2
      exact ⟨_, rfl, HO1.out, HB1.out⟩
    · rw [dg.val_nil (n := n) i s (by omega)] at hv
      cases hv
  | succ N ih =>
    intro P v n i s w hN h70 hn1 hn2 hi hs hS ha hv hT
    by_cases hP : P = []
    · exact ih P v n i s w (by rw [hP]; simp) h70 hn1 hn2 hi hs hS ha hv hT
    obtain ⟨Q, x, rfl⟩ := snoc_of hP
    by_cases h1 : n = 1
    · subst h1
      rw [dg.val_one i s (Q ++ [x])] at hv
      simp at hv
    obtain ⟨aQ, hx⟩ := areD_snoc ha
    have HT := Lib.hid hT
    have HS := Lib.hid hS
    have HQ := Lib.hid aQ
    rw [List.length_append, List.length_cons, List.length_nil] at hN h70
    clear hT hP ha aQ
    obtain ⟨k, HK⟩ : ∃ k, Hid (spl n = k) := ⟨_, Lib.hid rfl⟩
    have hk1 : 1 ≤ k := by rw [← HK.out]; exact spl_pos _
    have hk2 : k < n := by rw [← HK.out]; exact spl_lt (by omega)
    have HSp := Lib.hid (fun w' => left_c n w' (by omega) (by omega))
    rw [HK.out] at HSp
    obtain ⟨b, o, cap, rfl, hc, hm, hb, hcell⟩ := hS.open1 (by simp)
    have HSQ := Lib.hid (Strs.dropLast hc hm hb hcell)
    have cl : w.cell? ⟨b, o + Q.length, none⟩ = some (.string x) := by have := hcell Q.length (by simp); simpa [List.getD] using this
    obtain ⟨l, HL⟩ : ∃ l, Hid (Q.length = l) := ⟨_, Lib.hid rfl⟩
    rw [List.length_append, List.length_cons, List.length_nil, Nat.zero_add, HL.out] at hc ⊢
    rw [List.dropLast_concat, List.length_append, List.length_cons, List.length_nil, Nat.zero_add, Nat.add_sub_cancel, HL.out] at HSQ
    rw [HL.out] at cl hN h70
    unfold maxLen at hm
    clear hcell hS HS
    obtain ⟨i0, hi0, hz0, hz1, hz2⟩ := info_parts Tryd.info9
    have hn1' : decide ((n : Int) ≤ 1) = false := by simp; omega
    have hl0 : (((l : Int) + 1) == 0) = false := by simp; omega
    have hl1 : IntKind.i64.wrap ((l : Int) + 1 - 1) = (l : Int) := by rw [IntKind.wrap_i64]; omega
    by_cases hik : i < k
    · rw [dg.val_lt (n := n) (i := i) s Q x (by omega) (by rw [HK.out]; exact hik), HK.out] at hv ⊢
      rw [ways_lt (n := n) (i := i) s Q x (by omega) (by rw [HK.out]; exact hik), HK.out]
      simp only [] at hv ⊢
      have HC := Lib.hid (fun (v' : Value) (w' : World) (hvs : Strs w v' Q) (hw : Below w.heap.size w w') => ih Q v' k i s w' (by rw [HL.out]; omega) (by rw [HL.out]; omega) hk1 (by omega) hik hs (hvs.below hw) HQ.out hv (HT.out.below hw))
      obtain ⟨r, HR⟩ : ∃ r, Hid ((dg.val k i s Q).1 = r) := ⟨_, Lib.hid rfl⟩
      obtain ⟨WL, HWL⟩ : ∃ r, Hid (ways k i s Q = r) := ⟨_, Lib.hid rfl⟩
      have HWne := Lib.hid (show WL ≠ [] from by rw [← HWL.out]; exact ways_ne _ _ _ _)
      have hr : r.size ≤ 32 := by rw [← HR.out]; exact dg.val_size _ _ _ _
      have hwl : WL.length ≤ 71 := by rw [← HWL.out]; have := ways_length k i s Q; rw [HL.out] at this; omega
      rw [HR.out, HWL.out] at HC ⊢
      have HNo : Hid (Dig.nodeS r x = (⟨#[1]⟩ : ByteArray) ++ r ++ x) := Lib.hid rfl
      rw [HNo.out]
      clear ih hv
      have hd : decide ((i : Int) < (k : Int)) = true := by simp; omega
      go_enter Tryd.func30, Tryd.ntmps30
      go_wp2_with fail
      refine (HSp.out _).mono ?_
      rintro e w1 ⟨rfl, hw1⟩
      rw [hw1]
      clear hw1
      go_wp2_with fail
      refine (HC.out _ _ HSQ.out (Below.refl _ _)).mono ?_
      rintro e w2 ⟨v2, rfl, ho2, hb2⟩
      obtain ⟨g2, p2, rfl, hg2, hl2⟩ := ho2.form HWne.out
      obtain ⟨wl, HWl⟩ : ∃ y, Hid (WL.length = y) := ⟨_, Lib.hid rfl⟩
      rw [HWl.out] at ho2 hwl ⊢
      have HB1 := Lib.hid (hb2.alloc hb2.size (.cells #[.string ((⟨#[1]⟩ : ByteArray) ++ r ++ x)] 9))
      have HO1 := Lib.hid (own_one w2 w.heap.size ((⟨#[1]⟩ : ByteArray) ++ r ++ x) hb2.size)
      have HVl := Lib.hid (show (strV WL).length = wl * 1 from by rw [strV_length, HWl.out, Nat.mul_one])
      have HCs := Lib.hid (show ∀ j u, (strV WL)[j]? = some u → (w2.alloc (.cells #[.string ((⟨#[1]⟩ : ByteArray) ++ r ++ x)] 9)).cell? ((⟨g2, 0, none⟩ : Addr).add j) = some u from fun j u h => (((Below.refl _ w2).alloc (Nat.le_refl _) (.cells #[.string ((⟨#[1]⟩ : ByteArray) ++ r ++ x)] 9)).cell (p := (⟨g2, 0, none⟩ : Addr).add j) (by unfold Addr.add; split <;> exact hl2)).trans (OwnS.cells ho2 j u h))
      have hb63 : 1 + wl ≤ maxLen := by unfold maxLen; omega
      have hb16 : (1 + wl) * 16 ≤ 140737488355328 := by omega
      clear ho2 hb2 hg2 hl2
      go_wp2_with (at_builtin; refine wpList_append_own _ rfl (.tmp 57) (.tmp 58) 26 rfl w.heap.size 9 i0 (.string ⟨#[]⟩) 1 16 Tryd.underlying26 hi0 hz0 hz1 hz2 rfl (by decide) _ 1 _ rfl HO1.out ⟨g2, 0, none⟩ wl p2 (strV WL) rfl HVl.out HCs.out (strV_one WL) hb63 hb16 HB1.out.size ?_; intro v3 w3 hown3 hgrow3 _; have HB3 := Lib.hid (below_app2 HB1.out HO1.out HB1.out.size hgrow3); clear hgrow3)
      have HM3 := Lib.hid (show OwnS w3 w.heap.size v3 (((⟨#[1]⟩ : ByteArray) ++ r ++ x) :: WL) from by
        unfold OwnS
        rw [List.length_cons, HWl.out, Nat.add_comm]
        exact hown3)
      clear hown3
      refine (node_c r x w3 (by omega) (by omega) (HT.out.below HB3.out)).mono ?_
      rintro e w4 ⟨rfl, hb4⟩
      go_wp2_with fail
      go_ret2
      exact ⟨_, rfl, own_below HM3.out hb4, bt HB3.out hb4⟩
    · rw [dg.val_ge (n := n) (i := i) s Q x (by omega) (by rw [HK.out]; omega), HK.out] at hv ⊢
      rw [ways_ge (n := n) (i := i) s Q x (by omega) (by rw [HK.out]; omega), HK.out]
      simp only [] at hv ⊢
      have HC := Lib.hid (fun (v' : Value) (w' : World) (hvs : Strs w v' Q) (hw : Below w.heap.size w w') => ih Q v' (n - k) (i - k) s w' (by rw [HL.out]; omega) (by rw [HL.out]; omega) (by omega) (by omega) (by omega) hs (hvs.below hw) HQ.out hv (HT.out.below hw))
      obtain ⟨r, HR⟩ : ∃ r, Hid ((dg.val (n - k) (i - k) s Q).1 = r) := ⟨_, Lib.hid rfl⟩
      obtain ⟨WL, HWL⟩ : ∃ r, Hid (ways (n - k) (i - k) s Q = r) := ⟨_, Lib.hid rfl⟩
      have HWne := Lib.hid (show WL ≠ [] from by rw [← HWL.out]; exact ways_ne _ _ _ _)
      have hr : r.size ≤ 32 := by rw [← HR.out]; exact dg.val_size _ _ _ _
      have hwl : WL.length ≤ 71 := by rw [← HWL.out]; have := ways_length (n - k) (i - k) s Q; rw [HL.out] at this; omega
      rw [HR.out, HWL.out] at HC ⊢
      rw [show ((n - k : Nat) : Int) = (n : Int) - (k : Int) by omega, show ((i - k : Nat) : Int) = (i : Int) - (k : Int) by omega] at HC
      have HNo : Hid (Dig.nodeS x r = (⟨#[1]⟩ : ByteArray) ++ x ++ r) := Lib.hid rfl
      rw [HNo.out]
      clear ih hv
      have hd : decide ((i : Int) < (k : Int)) = false := by simp; omega
      have hki : (k : Int) ≤ (i : Int) := by omega
      have hkn : (k : Int) ≤ (n : Int) := by omega
      go_enter Tryd.func30, Tryd.ntmps30
      go_wp2_with fail
      refine (HSp.out _).mono ?_
      rintro e w1 ⟨rfl, hw1⟩
      rw [hw1]
      clear hw1
      go_wp2_with fail
      refine (HC.out _ _ HSQ.out (Below.refl _ _)).mono ?_
      rintro e w2 ⟨v2, rfl, ho2, hb2⟩
      obtain ⟨g2, p2, rfl, hg2, hl2⟩ := ho2.form HWne.out
      obtain ⟨wl, HWl⟩ : ∃ y, Hid (WL.length = y) := ⟨_, Lib.hid rfl⟩
      rw [HWl.out] at ho2 hwl ⊢
      have HB1 := Lib.hid (hb2.alloc hb2.size (.cells #[.string ((⟨#[1]⟩ : ByteArray) ++ x ++ r)] 9))
      have HO1 := Lib.hid (own_one w2 w.heap.size ((⟨#[1]⟩ : ByteArray) ++ x ++ r) hb2.size)
      have HVl := Lib.hid (show (strV WL).length = wl * 1 from by rw [strV_length, HWl.out, Nat.mul_one])
      have HCs := Lib.hid (show ∀ j u, (strV WL)[j]? = some u → (w2.alloc (.cells #[.string ((⟨#[1]⟩ : ByteArray) ++ x ++ r)] 9)).cell? ((⟨g2, 0, none⟩ : Addr).add j) = some u from fun j u h => (((Below.refl _ w2).alloc (Nat.le_refl _) (.cells #[.string ((⟨#[1]⟩ : ByteArray) ++ x ++ r)] 9)).cell (p := (⟨g2, 0, none⟩ : Addr).add j) (by unfold Addr.add; split <;> exact hl2)).trans (OwnS.cells ho2 j u h))
      have hb63 : 1 + wl ≤ maxLen := by unfold maxLen; omega
      have hb16 : (1 + wl) * 16 ≤ 140737488355328 := by omega
      clear ho2 hb2 hg2 hl2
      go_wp2_with (at_builtin; refine wpList_append_own _ rfl (.tmp 79) (.tmp 80) 26 rfl w.heap.size 9 i0 (.string ⟨#[]⟩) 1 16 Tryd.underlying26 hi0 hz0 hz1 hz2 rfl (by decide) _ 1 _ rfl HO1.out ⟨g2, 0, none⟩ wl p2 (strV WL) rfl HVl.out HCs.out (strV_one WL) hb63 hb16 HB1.out.size ?_; intro v3 w3 hown3 hgrow3 _; have HB3 := Lib.hid (below_app2 HB1.out HO1.out HB1.out.size hgrow3); clear hgrow3)
      have HM3 := Lib.hid (show OwnS w3 w.heap.size v3 (((⟨#[1]⟩ : ByteArray) ++ x ++ r) :: WL) from by
        unfold OwnS
        rw [List.length_cons, HWl.out, Nat.add_comm]
        exact hown3)
      clear hown3
      refine (node_c x r w3 (by omega) (by omega) (HT.out.below HB3.out)).mono ?_
      rintro e w4 ⟨rfl, hb4⟩
      go_wp2_with fail
      go_ret2
      exact ⟨_, rfl, own_below HM3.out hb4, bt HB3.out hb4⟩
end Go.Proofs.YtkmiodlehmocnaaDoor
