/- THE WALK OF sides. -/
import Derived.Test.YtkmiodlehmocnaaDoorB11
import Derived.Laws.AppendOwnNone
set_option linter.unusedVariables false
set_option linter.unusedSimpArgs false
namespace Go.Proofs.YtkmiodlehmocnaaDoor
open Go.RowKit

set_option maxRecDepth 100000 in
set_option maxHeartbeats 2000000 in
theorem sides_c (n : Nat) : ∀ (P : List ByteArray) (v : Value) (old : ByteArray) (m : Nat) (b : Bool) (w : World), P.length ≤ 70 → 1 ≤ m → m ≤ n → n ≤ 9223372036854775807 → old.size = 32 → Strs w v P → areD P = true → (dg.two old m n P b).2.2 = true → Tab w →
    Calls Tryd.prog 33 #[.string old, .int .i64 m, .int .i64 n, v, .bool b] w fun e w' => ∃ v', e = .returned (.tuple #[v', .string (dg.two old m n P b).2.1]) ∧ OwnS w' w.heap.size v' (sidesL old m n P b) ∧ (sidesL old m n P b = [] → v' = .slice none 0 0) ∧ Below w.heap.size w w' := by
  induction n using Nat.strongRecOn with
  | ind n ih =>
  intro P v old m b w h70 hm1 hmn hn2 ho hS ha hv hT
  have HT := Lib.hid hT
  have HS := Lib.hid hS
  rcases two_cases hm1 hmn hv with ⟨rfl, rfl, rfl⟩ | ⟨rfl, rfl, x, rfl⟩ | ⟨hlt, h2, Q, x, rfl⟩
  · rw [Dig.two_whole, sidesL_eq]
    have d1 : decide ((m : Int) ≤ (m : Int)) = true := by simp
    clear ih hv ha hT hS
    go_enter Tryd.func33, Tryd.ntmps33
    go_wp2_with fail
    go_ret2
    exact ⟨_, rfl, OwnS.nil _ _, fun _ => rfl, Below.refl _ _⟩
  · rw [show [x] = [] ++ [x] from rfl, Dig.two_last, sidesL_eq]
    have d1 : decide ((m : Int) ≤ (m : Int)) = true := by simp
    obtain ⟨bb, o, cap, rfl, hc, hm, hb, hcell⟩ := hS.open1 (by simp)
    have cl : w.cell? ⟨bb, o, none⟩ = some (.string x) := by have := hcell 0 (by simp); simpa [List.getD] using this
    rw [show [x].length = 1 from rfl] at hc ⊢
    unfold maxLen at hm
    have hl0 : (((1 : Nat) : Int) == 0) = false := rfl
    rw [show ((1 : Nat) : Int) = 1 from rfl] at hl0
    clear ih hv ha hT hS HS hcell h70
    go_enter Tryd.func33, Tryd.ntmps33
    go_wp2_with fail
    go_quiet (fail)
    go_wp2_with fail
    go_ret2
    exact ⟨_, rfl, OwnS.nil _ _, fun _ => rfl, below_drewN (Below.refl _ _) nq⟩
  · obtain ⟨aQ, hx⟩ := areD_snoc ha
    have HQ := Lib.hid aQ
    rw [List.length_append, List.length_cons, List.length_nil] at h70
    clear hT ha aQ
    obtain ⟨k, HK⟩ : ∃ k, Hid (spl n = k) := ⟨_, Lib.hid rfl⟩
    have hk1 : 1 ≤ k := by rw [← HK.out]; exact spl_pos _
    have hk2 : k < n := by rw [← HK.out]; exact spl_lt (by omega)
    have HSp := Lib.hid (fun w' => left_c n w' (by omega) (by omega))
    rw [HK.out] at HSp
    obtain ⟨bb, o, cap, rfl, hc, hm, hb, hcell⟩ := hS.open1 (by simp)
    have HSQ := Lib.hid (Strs.dropLast hc hm hb hcell)
    have cl : w.cell? ⟨bb, o + Q.length, none⟩ = some (.string x) := by have := hcell Q.length (by simp); simpa [List.getD] using this
    obtain ⟨l, HL⟩ : ∃ l, Hid (Q.length = l) := ⟨_, Lib.hid rfl⟩
    rw [List.length_append, List.length_cons, List.length_nil, Nat.zero_add, HL.out] at hc ⊢
    rw [List.dropLast_concat, List.length_append, List.length_cons, List.length_nil, Nat.zero_add, Nat.add_sub_cancel, HL.out] at HSQ
    rw [HL.out] at cl h70
    unfold maxLen at hm
    clear hcell hS HS
    obtain ⟨i0, hi0, hz0, hz1, hz2⟩ := info_parts Tryd.info9
    have d1 : decide ((n : Int) ≤ (m : Int)) = false := by simp; omega
    have hl0 : (((l : Int) + 1) == 0) = false := by simp; omega
    have hl1 : IntKind.i64.wrap ((l : Int) + 1 - 1) = (l : Int) := by rw [IntKind.wrap_i64]; omega
    by_cases hik : m ≤ k
    · rw [Dig.two_le _ old Q x b hlt h2 (by rw [HK.out]; exact hik), HK.out] at hv ⊢
      rw [sidesL_le old Q x b hlt h2 (by rw [HK.out]; exact hik), HK.out]
      simp only [] at hv ⊢
      have HC := Lib.hid (fun (v' : Value) (w' : World) (hvs : Strs w v' Q) (hw : Below w.heap.size w w') => ih k hk2 Q v' old m b w' (by rw [HL.out]; omega) hm1 hik (by omega) ho (hvs.below hw) HQ.out hv (HT.out.below hw))
      obtain ⟨r, HR⟩ : ∃ r, Hid ((dg.two old m k Q b).2.1 = r) := ⟨_, Lib.hid rfl⟩
      obtain ⟨WL, HWL⟩ : ∃ r, Hid (sidesL old m k Q b = r) := ⟨_, Lib.hid rfl⟩
      have hr : r.size = 32 := by rw [← HR.out]; exact two_true_size k old m Q b hm1 hik ho HQ.out hv
      have hwl : WL.length ≤ 71 := by rw [← HWL.out]; have := sidesL_len k old m Q b; rw [HL.out] at this; omega
      rw [HR.out, HWL.out] at HC ⊢
      have HNo : Hid (Dig.nodeS r x = (⟨#[1]⟩ : ByteArray) ++ r ++ x) := Lib.hid rfl
      rw [HNo.out]
      clear ih hv
      have hd : decide ((m : Int) ≤ (k : Int)) = true := by simp; omega
      go_enter Tryd.func33, Tryd.ntmps33
      go_wp2_with fail
      refine (HSp.out _).mono ?_
      rintro e w1 ⟨rfl, hw1⟩
      rw [hw1]
      clear hw1
      go_wp2_with fail
      refine (HC.out _ _ HSQ.out (Below.refl _ _)).mono ?_
      rintro e w2 ⟨v2, rfl, ho2, hnil2, hb2⟩
      have HB1 := Lib.hid (hb2.alloc hb2.size (.cells #[.string ((⟨#[1]⟩ : ByteArray) ++ r ++ x)] 9))
      have HO1 := Lib.hid (own_one w2 w.heap.size ((⟨#[1]⟩ : ByteArray) ++ r ++ x) hb2.size)
      by_cases hW : WL = []
      · subst hW
        have hv2 := hnil2 rfl
        subst hv2
        clear ho2 hb2 hnil2
        go_wp2_with (at_builtin; refine wpList_append_own_none _ (.tmp 66) (.tmp 67) 26 rfl w.heap.size 9 i0 1 Tryd.underlying26 hi0 _ 1 _ rfl HO1.out rfl ?_)
        refine (node_c r x _ (by omega) (by omega) (HT.out.below HB1.out)).mono ?_
        rintro e w4 ⟨rfl, hb4⟩
        go_wp2_with fail
        go_ret2
        exact ⟨_, rfl, own_below HO1.out hb4, fun h => (List.cons_ne_nil _ _ h).elim, bt HB1.out hb4⟩
      · obtain ⟨g2, p2, rfl, hg2, hl2⟩ := ho2.form hW
        obtain ⟨wl, HWl⟩ : ∃ y, Hid (WL.length = y) := ⟨_, Lib.hid rfl⟩
        rw [HWl.out] at ho2 hwl ⊢
        have HVl := Lib.hid (show (strV WL).length = wl * 1 from by rw [strV_length, HWl.out, Nat.mul_one])
        have HCs := Lib.hid (show ∀ j u, (strV WL)[j]? = some u → (w2.alloc (.cells #[.string ((⟨#[1]⟩ : ByteArray) ++ r ++ x)] 9)).cell? ((⟨g2, 0, none⟩ : Addr).add j) = some u from fun j u h => (((Below.refl _ w2).alloc (Nat.le_refl _) (.cells #[.string ((⟨#[1]⟩ : ByteArray) ++ r ++ x)] 9)).cell (p := (⟨g2, 0, none⟩ : Addr).add j) (by unfold Addr.add; split <;> exact hl2)).trans (OwnS.cells ho2 j u h))
        have hb63 : 1 + wl ≤ maxLen := by unfold maxLen; omega
        have hb16 : (1 + wl) * 16 ≤ 140737488355328 := by omega
        clear ho2 hb2 hg2 hl2 hnil2
        go_wp2_with (at_builtin; refine wpList_append_own _ rfl (.tmp 66) (.tmp 67) 26 rfl w.heap.size 9 i0 (.string ⟨#[]⟩) 1 16 Tryd.underlying26 hi0 hz0 hz1 hz2 rfl (by decide) _ 1 _ rfl HO1.out ⟨g2, 0, none⟩ wl p2 (strV WL) rfl HVl.out HCs.out (strV_one WL) hb63 hb16 HB1.out.size ?_; intro v3 w3 hown3 hgrow3 _; have HB3 := Lib.hid (below_app2 HB1.out HO1.out HB1.out.size hgrow3); clear hgrow3)
        have HM3 := Lib.hid (show OwnS w3 w.heap.size v3 (((⟨#[1]⟩ : ByteArray) ++ r ++ x) :: WL) from by
          unfold OwnS
          rw [List.length_cons, HWl.out, Nat.add_comm]
          exact hown3)
        clear hown3
        refine (node_c r x w3 (by omega) (by omega) (HT.out.below HB3.out)).mono ?_
        rintro e w4 ⟨rfl, hb4⟩
        go_wp2_with fail
        go_ret2
        exact ⟨_, rfl, own_below HM3.out hb4, fun h => (List.cons_ne_nil _ _ h).elim, bt HB3.out hb4⟩
    · rw [Dig.two_gt _ old Q x b hlt h2 (by rw [HK.out]; omega), HK.out] at hv ⊢
      rw [sidesL_gt old Q x b hlt h2 (by rw [HK.out]; omega), HK.out]
      simp only [] at hv ⊢
      have HC := Lib.hid (fun (v' : Value) (w' : World) (hvs : Strs w v' Q) (hw : Below w.heap.size w w') => ih (n - k) (by omega) Q v' old (m - k) false w' (by rw [HL.out]; omega) (by omega) (by omega) (by omega) ho (hvs.below hw) HQ.out hv (HT.out.below hw))
      obtain ⟨r, HR⟩ : ∃ r, Hid ((dg.two old (m - k) (n - k) Q false).2.1 = r) := ⟨_, Lib.hid rfl⟩
      obtain ⟨WL, HWL⟩ : ∃ r, Hid (sidesL old (m - k) (n - k) Q false = r) := ⟨_, Lib.hid rfl⟩
      have hr : r.size = 32 := by rw [← HR.out]; exact two_true_size (n - k) old (m - k) Q false (by omega) (by omega) ho HQ.out hv
      have hwl : WL.length ≤ 71 := by rw [← HWL.out]; have := sidesL_len (n - k) old (m - k) Q false; rw [HL.out] at this; omega
      rw [HR.out, HWL.out] at HC ⊢
      rw [show ((n - k : Nat) : Int) = (n : Int) - (k : Int) by omega, show ((m - k : Nat) : Int) = (m : Int) - (k : Int) by omega] at HC
      have HNo : Hid (Dig.nodeS x r = (⟨#[1]⟩ : ByteArray) ++ x ++ r) := Lib.hid rfl
      rw [HNo.out]
      clear ih hv
      have hd : decide ((m : Int) ≤ (k : Int)) = false := by simp; omega
      have hki : (k : Int) ≤ (m : Int) := by omega
      have hkn : (k : Int) ≤ (n : Int) := by omega
      go_enter Tryd.func33, Tryd.ntmps33
      go_wp2_with fail
      refine (HSp.out _).mono ?_
      rintro e w1 ⟨rfl, hw1⟩
      rw [hw1]
      clear hw1
      go_wp2_with fail
      refine (HC.out _ _ HSQ.out (Below.refl _ _)).mono ?_
      rintro e w2 ⟨v2, rfl, ho2, hnil2, hb2⟩
      have HB1 := Lib.hid (hb2.alloc hb2.size (.cells #[.string ((⟨#[1]⟩ : ByteArray) ++ x ++ r)] 9))
      have HO1 := Lib.hid (own_one w2 w.heap.size ((⟨#[1]⟩ : ByteArray) ++ x ++ r) hb2.size)
      by_cases hW : WL = []
      · subst hW
        have hv2 := hnil2 rfl
        subst hv2
        clear ho2 hb2 hnil2
        go_wp2_with (at_builtin; refine wpList_append_own_none _ (.tmp 88) (.tmp 89) 26 rfl w.heap.size 9 i0 1 Tryd.underlying26 hi0 _ 1 _ rfl HO1.out rfl ?_)
        refine (node_c x r _ (by omega) (by omega) (HT.out.below HB1.out)).mono ?_
        rintro e w4 ⟨rfl, hb4⟩
        go_wp2_with fail
        go_ret2
        exact ⟨_, rfl, own_below HO1.out hb4, fun h => (List.cons_ne_nil _ _ h).elim, bt HB1.out hb4⟩
      · obtain ⟨g2, p2, rfl, hg2, hl2⟩ := ho2.form hW
        obtain ⟨wl, HWl⟩ : ∃ y, Hid (WL.length = y) := ⟨_, Lib.hid rfl⟩
        rw [HWl.out] at ho2 hwl ⊢
        have HVl := Lib.hid (show (strV WL).length = wl * 1 from by rw [strV_length, HWl.out, Nat.mul_one])
        have HCs := Lib.hid (show ∀ j u, (strV WL)[j]? = some u → (w2.alloc (.cells #[.string ((⟨#[1]⟩ : ByteArray) ++ x ++ r)] 9)).cell? ((⟨g2, 0, none⟩ : Addr).add j) = some u from fun j u h => (((Below.refl _ w2).alloc (Nat.le_refl _) (.cells #[.string ((⟨#[1]⟩ : ByteArray) ++ x ++ r)] 9)).cell (p := (⟨g2, 0, none⟩ : Addr).add j) (by unfold Addr.add; split <;> exact hl2)).trans (OwnS.cells ho2 j u h))
        have hb63 : 1 + wl ≤ maxLen := by unfold maxLen; omega
        have hb16 : (1 + wl) * 16 ≤ 140737488355328 := by omega
        clear ho2 hb2 hg2 hl2 hnil2
        go_wp2_with (at_builtin; refine wpList_append_own _ rfl (.tmp 88) (.tmp 89) 26 rfl w.heap.size 9 i0 (.string ⟨#[]⟩) 1 16 Tryd.underlying26 hi0 hz0 hz1 hz2 rfl (by decide) _ 1 _ rfl HO1.out ⟨g2, 0, none⟩ wl p2 (strV WL) rfl HVl.out HCs.out (strV_one WL) hb63 hb16 HB1.out.size ?_; intro v3 w3 hown3 hgrow3 _; have HB3 := Lib.hid (below_app2 HB1.out HO1.out HB1.out.size hgrow3); clear hgrow3)
        have HM3 := Lib.hid (show OwnS w3 w.heap.size v3 (((⟨#[1]⟩ : ByteArray) ++ x ++ r) :: WL) from by
          unfold OwnS
          rw [List.length_cons, HWl.out, Nat.add_comm]
          exact hown3)
        clear hown3
        refine (node_c x r w3 (by omega) (by omega) (HT.out.below HB3.out)).mono ?_
        rintro e w4 ⟨rfl, hb4⟩
        go_wp2_with fail
        go_ret2
        exact ⟨_, rfl, own_below HM3.out hb4, fun h => (List.cons_ne_nil _ _ h).elim, bt HB3.out hb4⟩
end Go.Proofs.YtkmiodlehmocnaaDoor
