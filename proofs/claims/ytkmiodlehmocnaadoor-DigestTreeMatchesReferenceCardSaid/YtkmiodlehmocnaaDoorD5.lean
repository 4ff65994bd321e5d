/- WALKS: the reference's Proof, over what the reference's block answers. -/
import Derived.Test.YtkmiodlehmocnaaDoorD4
import Derived.Test.YtkmiodlehmocnaaDoorT12
set_option linter.unusedVariables false
set_option linter.unusedSimpArgs false
namespace Go.Proofs.YtkmiodlehmocnaaDoor
open Go.RowKit

set_option maxRecDepth 100000 in
set_option maxHeartbeats 2000000 in
theorem ref_proof (RB : RefBlock) (N : Nat) : ∀ (L : List ByteArray) (v : Value) (i : Nat) (w : World), L.length ≤ N → L.length ≤ 1000000 → i < L.length → Strs w v L → Short1 L →
    Calls Tryd.prog 21 #[v, .int .i64 i] w fun e w' => ∃ v', e = .returned (.tuple #[v', .int .i64 0]) ∧ OwnS w' w.heap.size v' (dg.path L i) ∧ Below w.heap.size w w' := by
  have HRB := Lib.hid RB
  clear RB
  induction N with
  | zero => intro L v i w hN hL hi; omega
  | succ N ih =>
    intro L v i w hN hL hi hS hsh
    have HSh := Lib.hid hsh
    clear hsh
    by_cases h1 : L.length = 1
    · have HE := Lib.hid (dg.path_one (l := L) (i := i) (by omega))
      obtain ⟨a, cap, rfl, hc, hm⟩ := hS.open0
      obtain rfl : i = 0 := by omega
      rw [HE.out, h1]
      clear hS hi h1 hc hL hN
      go_enter Tryd.func21, Tryd.ntmps21
      go_wp2_with fail
      go_ret2
      exact ⟨_, rfl, OwnS.nil _ _, Below.refl _ _⟩
    · obtain ⟨i0, hi0, hz0, hz1, hz2⟩ := info_parts Tryd.info9
      obtain ⟨k, HK⟩ : ∃ k, Hid (spl L.length = k) := ⟨_, Lib.hid rfl⟩
      have hk1 : 1 ≤ k := by rw [← HK.out]; exact spl_pos _
      have hk2 : k < L.length := by rw [← HK.out]; exact spl_lt (by omega)
      have HSp := Lib.hid (fun w' => ref_left L.length w' (by omega) hL)
      rw [HK.out] at HSp
      obtain ⟨b, o, cap, rfl, hc, hm, hb, hcell⟩ := hS.open1 (by omega)
      have HA := Lib.hid (fun (w' : World) (hw : Below w.heap.size w w') => (Strs.take hc hm hb hcell (k := k) (by omega)).below hw)
      have HB := Lib.hid (fun (w' : World) (hw : Below w.heap.size w w') => (Strs.drop hc hm hb hcell (k := k) (by omega)).below hw)
      have hk0 : 0 ≤ (k : Int) := by omega
      unfold maxLen at hm
      by_cases hik : i < k
      · have HE := Lib.hid (dg.path_lt (l := L) (i := i) (by omega) (by rw [HK.out]; exact hik))
        rw [HK.out] at HE
        have HC1 := Lib.hid (fun (w' : World) (hw : Below w.heap.size w w') => ih (L.take k) _ i w' (by simp; omega) (by simp; omega) (by simp; omega) (HA.out w' hw) (HSh.out.take k))
        have HC2 := Lib.hid (fun (w' : World) (hw : Below w.heap.size w w') => ref_root HRB.out N (L.drop k) _ w' (by simp; omega) (by simp; omega) (HB.out w' hw) (HSh.out.drop k))
        obtain ⟨n, HN⟩ : ∃ n, Hid (L.length = n) := ⟨_, Lib.hid rfl⟩
        obtain ⟨r, R1⟩ : ∃ r, Hid (dg.root (L.drop k) = r) := ⟨_, Lib.hid rfl⟩
        obtain ⟨P, HP⟩ : ∃ P, Hid (dg.path (L.take k) i = P) := ⟨_, Lib.hid rfl⟩
        have hPl : P.length ≤ 1000000 := by rw [← HP.out]; exact Nat.le_trans (dg.path_len _ _) (by simp; omega)
        rw [HE.out, R1.out, HP.out]
        rw [R1.out] at HC2
        rw [HP.out] at HC1
        rw [HN.out] at hc hk2 HC2 HSp hN h1 hL hi ⊢
        clear hcell hS ih HE R1 HP HA HB
        have hck : ¬ cap = k := by omega
        have hb63 : P.length + 1 ≤ maxLen := by unfold maxLen; omega
        have hb16 : (P.length + 1) * 16 ≤ 140737488355328 := by omega
        have hkn : (k : Int) ≤ (n : Int) := by omega
        have hkc : (k : Int) ≤ (cap : Int) := by omega
        have hnc : (n : Int) ≤ (cap : Int) := by omega
        have hikI : (i : Int) < (k : Int) := by omega
        have hd : decide ((i : Int) < (k : Int)) = true := by simp; omega
        have hd0 : decide ((i : Int) < 0) = false := by simp
        have hd1 : decide ((n : Int) ≤ (i : Int)) = false := by simp; omega
        go_enter Tryd.func21, Tryd.ntmps21
        go_wp2_with fail
        refine (HSp.out _).mono ?_
        rintro e w1 ⟨rfl, rfl⟩
        go_wp2_with fail
        refine (HC1.out _ (Below.refl _ _)).mono ?_
        rintro e1 w2 ⟨v1, rfl, hown, hb2⟩
        go_wp2_with fail
        refine (HC2.out _ hb2).mono ?_
        rintro e1 w3 ⟨rfl, hb3⟩
        replace hown := own_below hown hb3
        have hb13 : Below w1.heap.size w1 w3 := bt hb2 hb3
        have hz3 := hb13.size
        go_wp2_with (at_builtin; refine wpList_append_own _ rfl _ _ 26 rfl w1.heap.size 9 i0 (.string ⟨#[]⟩) 1 16 Tryd.underlying26 hi0 hz0 hz1 hz2 rfl (by decide) _ P.length (strV P) rfl (World.ownsRow.alloc (show w3.ownsRow w1.heap.size 9 1 v1 P.length (strV P) from hown) _) ⟨w3.heap.size, 0, none⟩ 1 1 [.string r] rfl rfl (World.news_of_block (heap_alloc_new w3 _)) (strOne r) hb63 hb16 (Nat.le_trans hz3 (by simp)) ?_; intro v4 w4 hown4 hgrow _)
        have hb14 : Below w1.heap.size w1 w4 := below_app hb13 hown hb13.size hgrow
        go_wp2_with fail
        go_ret2
        exact ⟨_, rfl, by unfold OwnS; rw [strV_snoc, List.length_append]; exact hown4, hb14⟩
      · have HE := Lib.hid (dg.path_ge (l := L) (i := i) (by omega) (by rw [HK.out]; omega))
        rw [HK.out] at HE
        have HC1 := Lib.hid (fun (w' : World) (hw : Below w.heap.size w w') => ih (L.drop k) _ (i - k) w' (by simp; omega) (by simp; omega) (by simp; omega) (HB.out w' hw) (HSh.out.drop k))
        have HC2 := Lib.hid (fun (w' : World) (hw : Below w.heap.size w w') => ref_root HRB.out N (L.take k) _ w' (by simp; omega) (by simp; omega) (HA.out w' hw) (HSh.out.take k))
        obtain ⟨n, HN⟩ : ∃ n, Hid (L.length = n) := ⟨_, Lib.hid rfl⟩
        obtain ⟨r, R1⟩ : ∃ r, Hid (dg.root (L.take k) = r) := ⟨_, Lib.hid rfl⟩
        obtain ⟨P, HP⟩ : ∃ P, Hid (dg.path (L.drop k) (i - k) = P) := ⟨_, Lib.hid rfl⟩
        have hPl : P.length ≤ 1000000 := by rw [← HP.out]; exact Nat.le_trans (dg.path_len _ _) (by simp; omega)
        rw [HE.out, R1.out, HP.out]
        rw [R1.out] at HC2
        rw [HP.out] at HC1
        have e1 : ((i - k : Nat) : Int) = (i : Int) - (k : Int) := by omega
        rw [e1] at HC1
        clear e1
        rw [HN.out] at hc hk2 HC1 HSp hN h1 hL hi ⊢
        clear hcell hS ih HE R1 HP HA HB
        have hck : ¬ cap = k := by omega
        have hb63 : P.length + 1 ≤ maxLen := by unfold maxLen; omega
        have hb16 : (P.length + 1) * 16 ≤ 140737488355328 := by omega
        have hkn : (k : Int) ≤ (n : Int) := by omega
        have hkc : (k : Int) ≤ (cap : Int) := by omega
        have hnc : (n : Int) ≤ (cap : Int) := by omega
        have hikI : ¬ (i : Int) < (k : Int) := by omega
        have hd : decide ((i : Int) < (k : Int)) = false := by simp; omega
        have hwr : IntKind.i64.wrap ((i : Int) - (k : Int)) = (i : Int) - (k : Int) := by rw [IntKind.wrap_i64]; omega
        have hd0 : decide ((i : Int) < 0) = false := by simp
        have hd1 : decide ((n : Int) ≤ (i : Int)) = false := by simp; omega
        go_enter Tryd.func21, Tryd.ntmps21
        go_wp2_with fail
        refine (HSp.out _).mono ?_
        rintro e w1 ⟨rfl, rfl⟩
        go_wp2_with fail
        refine (HC1.out _ (Below.refl _ _)).mono ?_
        rintro e1 w2 ⟨v1, rfl, hown, hb2⟩
        go_wp2_with fail
        refine (HC2.out _ hb2).mono ?_
        rintro e1 w3 ⟨rfl, hb3⟩
        replace hown := own_below hown hb3
        have hb13 : Below w1.heap.size w1 w3 := bt hb2 hb3
        have hz3 := hb13.size
        go_wp2_with (at_builtin; refine wpList_append_own _ rfl _ _ 26 rfl w1.heap.size 9 i0 (.string ⟨#[]⟩) 1 16 Tryd.underlying26 hi0 hz0 hz1 hz2 rfl (by decide) _ P.length (strV P) rfl (World.ownsRow.alloc (show w3.ownsRow w1.heap.size 9 1 v1 P.length (strV P) from hown) _) ⟨w3.heap.size, 0, none⟩ 1 1 [.string r] rfl rfl (World.news_of_block (heap_alloc_new w3 _)) (strOne r) hb63 hb16 (Nat.le_trans hz3 (by simp)) ?_; intro v4 w4 hown4 hgrow _)
        have hb14 : Below w1.heap.size w1 w4 := below_app hb13 hown hb13.size hgrow
        go_wp2_with fail
        go_ret2
        exact ⟨_, rfl, by unfold OwnS; rw [strV_snoc, List.length_append]; exact hown4, hb14⟩

set_option maxRecDepth 100000 in
set_option maxHeartbeats 400000 in
theorem ref_proof_bad (L : List ByteArray) (v : Value) (i : Int) (w : World) (hi : i < 0 ∨ (L.length : Int) ≤ i) (hS : Strs w v L) :
    Calls Tryd.prog 21 #[v, .int .i64 i] w fun e w' => e = .returned (.tuple #[.slice none 0 0, .int .i64 2]) ∧ w' = w := by
  obtain ⟨a, cap, rfl, hc, hm⟩ := hS.open0
  obtain ⟨n, HN⟩ : ∃ n, Hid (L.length = n) := ⟨_, Lib.hid rfl⟩
  rw [HN.out] at hi ⊢
  clear hS hc
  by_cases h0 : i < 0
  · have h0' : decide (i < 0) = true := by simp; omega
    go_enter Tryd.func21, Tryd.ntmps21
    go_wp2_with fail
    go_ret2
    exact ⟨rfl, rfl⟩
  · have h0' : decide (i < 0) = false := by simp; omega
    have h1' : decide ((n : Int) ≤ i) = true := by simp; omega
    have h1 : (n : Int) ≤ i := by omega
    go_enter Tryd.func21, Tryd.ntmps21
    go_wp2_with fail
    go_ret2
    exact ⟨rfl, rfl⟩
end Go.Proofs.YtkmiodlehmocnaaDoor
