/- WALKS: beginning and Extension of the code. -/
import Derived.Test.YtkmiodlehmocnaaDoorT11
set_option linter.unusedVariables false
namespace Go.Proofs.YtkmiodlehmocnaaDoor
open Go.RowKit

theorem Dig.beg_len (D : Dig) (l : List BA) (m : Nat) (b : Bool) (h1 : 1 ≤ m) (hm : m ≤ l.length) : (D.beg l m b).length ≤ l.length := by
  induction h : l.length using Nat.strongRecOn generalizing l m b with
  | ind n ih =>
    subst h
    by_cases he : m = l.length
    · rw [D.beg_all he]; cases b <;> simp; omega
    · have hlt := spl_lt (n := l.length) (by omega)
      have hp := spl_pos l.length
      by_cases hk : m ≤ spl l.length
      · rw [D.beg_le b (by omega) (by omega) hk]
        have := ih (l.take (spl l.length)).length (by simp; omega) (l.take (spl l.length)) m b h1 (by simp; omega) rfl
        simp at this ⊢; omega
      · rw [D.beg_gt b (by omega) (by omega) (by omega)]
        have := ih (l.drop (spl l.length)).length (by simp; omega) (l.drop (spl l.length)) (m - spl l.length) false (by omega) (by simp; omega) rfl
        simp at this ⊢; omega
theorem own_one (w : World) (B : Nat) (r : ByteArray) (hB : B ≤ w.heap.size) : OwnS (w.alloc (.cells #[.string r] 9)) B (.slice (some ⟨w.heap.size, 0, none⟩) 1 1) [r] :=
  ⟨rfl, .inr ⟨w.heap.size, 1, #[.string r], rfl, hB, heap_alloc_new w _, Nat.le_refl _, by unfold maxLen; omega, rfl, rfl⟩⟩

set_option maxRecDepth 100000 in
set_option maxHeartbeats 2000000 in
theorem beg_c (N : Nat) : ∀ (L : List ByteArray) (v : Value) (i : Nat) (whole : Bool) (w : World), L.length ≤ N → L.length ≤ 1000000 → 1 ≤ i → i ≤ L.length → Strs w v L → Short L → Tab w →
    Calls Tryd.prog 41 #[v, .int .i64 i, .bool whole] w fun e w' => ∃ v', e = .returned v' ∧ OwnS w' w.heap.size v' (dg.beg L i whole) ∧ Below w.heap.size w w' := by
  induction N with
  | zero => intro L v i whole w hN hL hi1 hi; omega
  | succ N ih =>
    intro L v i whole w hN hL hi1 hi hS hsh hT
    have HT := Lib.hid hT
    have HSh := Lib.hid hsh
    by_cases h1 : i = L.length
    · have HE := Lib.hid (dg.beg_all (l := L) h1 whole)
      have HC2 := Lib.hid (root_c (N + 1) L v w hN hS hsh hT)
      obtain ⟨a, cap, rfl, hc, hm⟩ := hS.open0
      obtain ⟨n, HN⟩ : ∃ n, Hid (L.length = n) := ⟨_, Lib.hid rfl⟩
      obtain ⟨r, R1⟩ : ∃ r, Hid (dg.root L = r) := ⟨_, Lib.hid rfl⟩
      rw [HE.out, R1.out]
      rw [R1.out] at HC2
      rw [HN.out] at HC2 hc h1 hL hi ⊢
      subst h1
      clear hS hi hc hsh hT
      have hq : ((i : Int) == (i : Int)) = true := by simp
      cases whole with
      | true =>
        go_enter Tryd.func41, Tryd.ntmps41
        go_wp2_with fail
        go_ret
        exact ⟨_, rfl, OwnS.nil _ _, Below.refl _ _⟩
      | false =>
        go_enter Tryd.func41, Tryd.ntmps41
        go_wp2_with fail
        refine HC2.out.mono ?_
        rintro e w1 ⟨rfl, hb1⟩
        go_wp2_with fail
        go_ret
        exact ⟨_, rfl, own_one w1 _ r hb1.size, hb1.alloc hb1.size _⟩
    · clear hsh hT
      obtain ⟨i0, hi0, hz0, hz1, hz2⟩ := info_parts Tryd.info9
      obtain ⟨k, HK⟩ : ∃ k, Hid (spl L.length = k) := ⟨_, Lib.hid rfl⟩
      have hk1 : 1 ≤ k := by rw [← HK.out]; exact spl_pos _
      have hk2 : k < L.length := by rw [← HK.out]; exact spl_lt (by omega)
      have HSp := Lib.hid (fun w' => split_c L.length w' (by omega) (by omega))
      rw [HK.out] at HSp
      obtain ⟨b, o, cap, rfl, hc, hm, hb, hcell⟩ := hS.open1 (by omega)
      have HA := Lib.hid (fun (w' : World) (hw : Below w.heap.size w w') => (Strs.take hc hm hb hcell (k := k) (by omega)).below hw)
      have HB := Lib.hid (fun (w' : World) (hw : Below w.heap.size w w') => (Strs.drop hc hm hb hcell (k := k) (by omega)).below hw)
      have hk0 : 0 ≤ (k : Int) := by omega
      unfold maxLen at hm
      have hne : ((i : Int) == (L.length : Int)) = false := by simp; omega
      by_cases hik : i ≤ k
      · have HE := Lib.hid (dg.beg_le (l := L) (m := i) whole (by omega) (by omega) (by rw [HK.out]; exact hik))
        rw [HK.out] at HE
        have HC1 := Lib.hid (fun (w' : World) (hw : Below w.heap.size w w') => ih (L.take k) _ i whole w' (by simp; omega) (by simp; omega) hi1 (by simp; omega) (HA.out w' hw) (HSh.out.take k) (HT.out.below hw))
        have HC2 := Lib.hid (fun (w' : World) (hw : Below w.heap.size w w') => root_c N (L.drop k) _ w' (by simp; omega) (HB.out w' hw) (HSh.out.drop k) (HT.out.below hw))
        obtain ⟨n, HN⟩ : ∃ n, Hid (L.length = n) := ⟨_, Lib.hid rfl⟩
        obtain ⟨r, R1⟩ : ∃ r, Hid (dg.root (L.drop k) = r) := ⟨_, Lib.hid rfl⟩
        obtain ⟨P, HP⟩ : ∃ P, Hid (dg.beg (L.take k) i whole = P) := ⟨_, Lib.hid rfl⟩
        have hPl : P.length ≤ 1000000 := by rw [← HP.out]; exact Nat.le_trans (dg.beg_len _ _ _ (by omega) (by simp; omega)) (by simp; omega)
        rw [HE.out, R1.out, HP.out]
        rw [R1.out] at HC2
        rw [HP.out] at HC1
        rw [HN.out] at hc hk2 HC2 HSp hN h1 hL hi hne ⊢
        clear hcell hS ih HE R1 HP HA HB
        have hck : ¬ cap = k := by omega
        have hb63 : P.length + 1 ≤ maxLen := by unfold maxLen; omega
        have hb16 : (P.length + 1) * 16 ≤ 140737488355328 := by omega
        have hkn : (k : Int) ≤ (n : Int) := by omega
        have hkc : (k : Int) ≤ (cap : Int) := by omega
        have hnc : (n : Int) ≤ (cap : Int) := by omega
        have hikI : (i : Int) ≤ (k : Int) := by omega
        have hd : decide ((i : Int) ≤ (k : Int)) = true := by simp; omega
        go_enter Tryd.func41, Tryd.ntmps41
        go_wp2_with fail
        refine (HSp.out _).mono ?_
        rintro e w1 ⟨rfl, rfl⟩
        go_wp2_with fail
        go_region_held3 (fun w' => Below w1.heap.size w1 w')
          (first | assumption | exact (Below.refl _ _).drew | exact bt (by assumption) (by assumption) | exact Below.alloc (by assumption) (Below.size (by assumption)) _ | exact below_app hb13 hown hb13.size hgrow)
          (first | (refine step_append_lies _ (by rfl) _ _ _ (by rfl) w1.heap.size 9 i0 (.string ⟨#[]⟩) 1 16 Tryd.underlying26 hi0 hz0 hz1 hz2 (by rfl) (by decide) v1 P.length (strV P) (by rfl) (World.ownsRow.alloc (show w3.ownsRow w1.heap.size 9 1 v1 P.length (strV P) from hown) _) ⟨w3.heap.size, 0, none⟩ 1 1 [.string r] (by rfl) (by rfl) (World.news_of_block (heap_alloc_new w3 _)) (strOne r) (by decide) hb63 hb16 (Nat.le_trans hz3 (by rw [World.size_alloc]; exact Nat.le_succ _)) (w3.heap.size + 1) (by rw [World.size_alloc]) ?_; intro g cp w4 hown4 hgrow hat hgl) | (go_at_call 41; refine (HC1.out _ (by first | assumption | exact (Below.refl _ _).drew)).mono ?_; rintro e1 w2 ⟨v1, rfl, hown, hb2⟩) | (go_at_call 25; refine (HC2.out _ (by first | assumption | exact (Below.refl _ _).drew | exact bt (by assumption) (by assumption))).mono ?_; rintro e1 w3 ⟨rfl, hb3⟩; replace hown := own_below hown hb3; have hb13 : Below w1.heap.size w1 w3 := bt (bt (Below.refl _ w1).drew hb2) hb3; have hz3 := hb13.size))
        have hb14 : Below w1.heap.size w1 w4 := below_app hb13 hown hb13.size hgrow
        go_wp2_with fail
        go_ret
        exact ⟨_, rfl, by unfold OwnS; rw [strV_snoc, List.length_append]; exact hown4, hb14⟩
      · have HE := Lib.hid (dg.beg_gt (l := L) (m := i) whole (by omega) (by omega) (by rw [HK.out]; omega))
        rw [HK.out] at HE
        have HC1 := Lib.hid (fun (w' : World) (hw : Below w.heap.size w w') => ih (L.drop k) _ (i - k) false w' (by simp; omega) (by simp; omega) (by omega) (by simp; omega) (HB.out w' hw) (HSh.out.drop k) (HT.out.below hw))
        have HC2 := Lib.hid (fun (w' : World) (hw : Below w.heap.size w w') => root_c N (L.take k) _ w' (by simp; omega) (HA.out w' hw) (HSh.out.take k) (HT.out.below hw))
        obtain ⟨n, HN⟩ : ∃ n, Hid (L.length = n) := ⟨_, Lib.hid rfl⟩
        obtain ⟨r, R1⟩ : ∃ r, Hid (dg.root (L.take k) = r) := ⟨_, Lib.hid rfl⟩
        obtain ⟨P, HP⟩ : ∃ P, Hid (dg.beg (L.drop k) (i - k) false = P) := ⟨_, Lib.hid rfl⟩
        have hPl : P.length ≤ 1000000 := by rw [← HP.out]; exact Nat.le_trans (dg.beg_len _ _ _ (by omega) (by simp; omega)) (by simp; omega)
        rw [HE.out, R1.out, HP.out]
        rw [R1.out] at HC2
        rw [HP.out] at HC1
        have e1 : ((i - k : Nat) : Int) = (i : Int) - (k : Int) := by omega
        rw [e1] at HC1
        clear e1
        rw [HN.out] at hc hk2 HC1 HSp hN h1 hL hi hne ⊢
        clear hcell hS ih HE R1 HP HA HB
        have hck : ¬ cap = k := by omega
        have hb63 : P.length + 1 ≤ maxLen := by unfold maxLen; omega
        have hb16 : (P.length + 1) * 16 ≤ 140737488355328 := by omega
        have hkn : (k : Int) ≤ (n : Int) := by omega
        have hkc : (k : Int) ≤ (cap : Int) := by omega
        have hnc : (n : Int) ≤ (cap : Int) := by omega
        have hikI : ¬ (i : Int) ≤ (k : Int) := by omega
        have hd : decide ((i : Int) ≤ (k : Int)) = false := by simp; omega
        have hwr : IntKind.i64.wrap ((i : Int) - (k : Int)) = (i : Int) - (k : Int) := by rw [IntKind.wrap_i64]; omega
        go_enter Tryd.func41, Tryd.ntmps41
        go_wp2_with fail
        refine (HSp.out _).mono ?_
        rintro e w1 ⟨rfl, rfl⟩
        go_wp2_with fail
        go_region_held3 (fun w' => Below w1.heap.size w1 w')
          (first | assumption | exact (Below.refl _ _).drew | exact bt (by assumption) (by assumption) | exact Below.alloc (by assumption) (Below.size (by assumption)) _ | exact below_app hb13 hown hb13.size hgrow)
          (first | (refine step_append_lies _ (by rfl) _ _ _ (by rfl) w1.heap.size 9 i0 (.string ⟨#[]⟩) 1 16 Tryd.underlying26 hi0 hz0 hz1 hz2 (by rfl) (by decide) v1 P.length (strV P) (by rfl) (World.ownsRow.alloc (show w3.ownsRow w1.heap.size 9 1 v1 P.length (strV P) from hown) _) ⟨w3.heap.size, 0, none⟩ 1 1 [.string r] (by rfl) (by rfl) (World.news_of_block (heap_alloc_new w3 _)) (strOne r) (by decide) hb63 hb16 (Nat.le_trans hz3 (by rw [World.size_alloc]; exact Nat.le_succ _)) (w3.heap.size + 1) (by rw [World.size_alloc]) ?_; intro g cp w4 hown4 hgrow hat hgl) | (go_at_call 41; refine (HC1.out _ (by first | assumption | exact (Below.refl _ _).drew)).mono ?_; rintro e1 w2 ⟨v1, rfl, hown, hb2⟩) | (go_at_call 25; refine (HC2.out _ (by first | assumption | exact (Below.refl _ _).drew | exact bt (by assumption) (by assumption))).mono ?_; rintro e1 w3 ⟨rfl, hb3⟩; replace hown := own_below hown hb3; have hb13 : Below w1.heap.size w1 w3 := bt (bt (Below.refl _ w1).drew hb2) hb3; have hz3 := hb13.size))
        have hb14 : Below w1.heap.size w1 w4 := below_app hb13 hown hb13.size hgrow
        go_wp2_with fail
        go_ret
        exact ⟨_, rfl, by unfold OwnS; rw [strV_snoc, List.length_append]; exact hown4, hb14⟩

set_option maxRecDepth 100000 in
set_option maxHeartbeats 400000 in
theorem ext_c (L : List ByteArray) (v : Value) (m : Nat) (w : World) (hL : L.length ≤ 1000000) (h1 : 1 ≤ m) (hm : m ≤ L.length) (hS : Strs w v L) (hsh : Short L) (hT : Tab w) :
    Calls Tryd.prog 22 #[v, .int .i64 m] w fun e w' => ∃ v', e = .returned (.tuple #[v', .int .i64 0]) ∧ OwnS w' w.heap.size v' (dg.beg L m true) ∧ Below w.heap.size w w' := by
  have HC := Lib.hid (beg_c L.length L v m true w (Nat.le_refl _) hL h1 hm hS hsh hT)
  obtain ⟨a, cap, rfl, hc, hm'⟩ := hS.open0
  obtain ⟨n, HN⟩ : ∃ n, Hid (L.length = n) := ⟨_, Lib.hid rfl⟩
  rw [HN.out] at HC hm hL hc ⊢
  clear hT hsh hS
  have h0' : decide ((m : Int) < 0) = false := by simp
  have h1' : decide ((n : Int) < (m : Int)) = false := by simp; omega
  have h2' : ((m : Int) == 0) = false := by simp; omega
  go_enter Tryd.func22, Tryd.ntmps22
  go_wp2_with fail
  refine HC.out.mono ?_
  rintro e w1 ⟨v', rfl, hown, hb⟩
  go_wp2_with fail
  go_ret2
  exact ⟨_, rfl, hown, hb⟩

set_option maxRecDepth 100000 in
set_option maxHeartbeats 400000 in
theorem ext_zero (L : List ByteArray) (v : Value) (w : World) (hS : Strs w v L) :
    Calls Tryd.prog 22 #[v, .int .i64 0] w fun e w' => e = .returned (.tuple #[.slice none 0 0, .int .i64 0]) ∧ w' = w := by
  obtain ⟨a, cap, rfl, hc, hm'⟩ := hS.open0
  obtain ⟨n, HN⟩ : ∃ n, Hid (L.length = n) := ⟨_, Lib.hid rfl⟩
  rw [HN.out] at hc ⊢
  clear hS
  have h1' : decide ((n : Int) < 0) = false := by simp
  go_enter Tryd.func22, Tryd.ntmps22
  go_wp2_with fail
  go_ret2
  exact ⟨rfl, rfl⟩

set_option maxRecDepth 100000 in
set_option maxHeartbeats 400000 in
theorem ext_bad (L : List ByteArray) (v : Value) (m : Int) (w : World) (hi : m < 0 ∨ (L.length : Int) < m) (hS : Strs w v L) :
    Calls Tryd.prog 22 #[v, .int .i64 m] w fun e w' => e = .returned (.tuple #[.slice none 0 0, .int .i64 2]) ∧ w' = w := by
  obtain ⟨a, cap, rfl, hc, hm⟩ := hS.open0
  obtain ⟨n, HN⟩ : ∃ n, Hid (L.length = n) := ⟨_, Lib.hid rfl⟩
  rw [HN.out] at hi ⊢
  clear hS hc
  by_cases h0 : m < 0
  · have h0' : decide (m < 0) = true := by simp; omega
    go_enter Tryd.func22, Tryd.ntmps22
    go_wp2_with fail
    go_ret2
    exact ⟨rfl, rfl⟩
  · have h0' : decide (m < 0) = false := by simp; omega
    have h1' : decide ((n : Int) < m) = true := by simp; omega
    have h1 : (n : Int) < m := by omega
    go_enter Tryd.func22, Tryd.ntmps22
    go_wp2_with fail
    go_ret2
    exact ⟨rfl, rfl⟩
end Go.Proofs.YtkmiodlehmocnaaDoor
