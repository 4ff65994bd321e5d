/- WALKS: Root of the code. -/
import Derived.Test.YtkmiodlehmocnaaDoorT9
import Derived.Deep.RegionHeld3
set_option linter.unusedVariables false
namespace Go.Proofs.YtkmiodlehmocnaaDoor
open Go.RowKit

/-- Every text is short. -/
def Short (L : List ByteArray) : Prop := ∀ x ∈ L, x.size ≤ 100000000
theorem Short.take {L : List ByteArray} (h : Short L) (k : Nat) : Short (L.take k) := fun x hx => h x (List.mem_of_mem_take hx)
theorem Short.drop {L : List ByteArray} (h : Short L) (k : Nat) : Short (L.drop k) := fun x hx => h x (List.mem_of_mem_drop hx)
theorem Short.getD {L : List ByteArray} (h : Short L) (k : Nat) (hk : k < L.length) : (L.getD k ⟨#[]⟩).size ≤ 100000000 := by
  rw [List.getD_eq_getElem?_getD, List.getElem?_eq_getElem hk]; exact h _ (List.getElem_mem hk)
theorem bt {A B C : World} (h : Below A.heap.size A B) (k : Below B.heap.size B C) : Below A.heap.size A C := h.trans (k.mono h.size)

set_option maxRecDepth 100000 in
set_option maxHeartbeats 1000000 in
theorem root_c (N : Nat) : ∀ (L : List ByteArray) (v : Value) (w : World), L.length ≤ N → Strs w v L → Short L → Tab w →
    Calls Tryd.prog 25 #[v] w fun e w' => e = .returned (.string (dg.root L)) ∧ Below w.heap.size w w' := by
  induction N with
  | zero =>
    intro L v w hN hS hsh hT
    obtain rfl : L = [] := List.length_eq_zero_iff.1 (by omega)
    obtain ⟨a, cap, rfl, _, _⟩ := hS.open0
    rw [show ([] : List ByteArray).length = 0 from rfl]
    have HT := Lib.hid hT
    clear hT hsh hS
    have HE := Lib.hid (dg.root_nil)
    rw [HE.out]
    go_enter Tryd.func25, Tryd.ntmps25
    go_wp2_with fail
    refine (sum_c ⟨#[]⟩ _ (show 0 ≤ 1000000000 by omega) HT.out).mono ?_
    rintro e w1 ⟨rfl, hb1⟩
    go_wp2_with fail
    go_ret
    exact ⟨rfl, hb1⟩
  | succ N ih =>
    intro L v w hN hS hsh hT
    by_cases h0 : L.length = 0
    · exact ih L v w (by omega) hS hsh hT
    have HT := Lib.hid hT
    have HSh := Lib.hid hsh
    clear hT hsh
    by_cases h1 : L.length = 1
    · obtain ⟨x, rfl⟩ : ∃ x, L = [x] := match L, h1 with | [x], _ => ⟨x, rfl⟩
      obtain ⟨b, o, cap, rfl, hc, hm, hb, hcell⟩ := hS.open1 (by simp)
      have c0 : w.cell? ⟨b, o, none⟩ = some (.string x) := by simpa using hcell 0 (by simp)
      have hx := HSh.out x (by simp)
      rw [show [x].length = 1 from rfl]
      clear hcell h1 h0 hS
      unfold maxLen at hm
      have HE := Lib.hid (dg.root_one x)
      rw [HE.out]
      go_enter Tryd.func25, Tryd.ntmps25
      go_wp2_with fail
      refine (leaf_c x _ (by omega) HT.out).mono ?_
      rintro e w1 ⟨rfl, hb1⟩
      go_wp2_with fail
      go_ret
      exact ⟨rfl, hb1⟩
    · have HE := Lib.hid (dg.root_two (l := L) (by omega))
      obtain ⟨k, HK⟩ : ∃ k, Hid (spl L.length = k) := ⟨_, Lib.hid rfl⟩
      rw [HK.out] at HE
      have hk1 : 1 ≤ k := by rw [← HK.out]; exact spl_pos _
      have hk2 : k < L.length := by rw [← HK.out]; exact spl_lt (by omega)
      obtain ⟨b, o, cap, rfl, hc, hm, hb, hcell⟩ := hS.open1 (by omega)
      have HC1 := Lib.hid (fun (w' : World) (hw : Below w.heap.size w w') => ih (L.take k) _ w' (by simp; omega) ((Strs.take hc hm hb hcell (by omega)).below hw) (HSh.out.take k) (HT.out.below hw))
      have HC2 := Lib.hid (fun (w' : World) (hw : Below w.heap.size w w') => ih (L.drop k) _ w' (by simp; omega) ((Strs.drop hc hm hb hcell (k := k) (by omega)).below hw) (HSh.out.drop k) (HT.out.below hw))
      have HSp := Lib.hid (fun w' => split_c L.length w' (by omega) (by unfold maxLen at hm; omega))
      rw [HK.out] at HSp
      obtain ⟨n, HN⟩ : ∃ n, Hid (L.length = n) := ⟨_, Lib.hid rfl⟩
      obtain ⟨r1, R1⟩ : ∃ r, Hid (dg.root (L.take k) = r) := ⟨_, Lib.hid rfl⟩
      obtain ⟨r2, R2⟩ : ∃ r, Hid (dg.root (L.drop k) = r) := ⟨_, Lib.hid rfl⟩
      have hr1 : r1.size ≤ 32 := by rw [← R1.out, dg.root_size]; exact Nat.le_refl _
      have hr2 : r2.size ≤ 32 := by rw [← R2.out, dg.root_size]; exact Nat.le_refl _
      rw [HE.out, R1.out, R2.out]
      rw [R1.out] at HC1
      rw [R2.out] at HC2
      rw [HN.out] at hc hk2 HC2 HSp h0 h1 hN ⊢
      have HT' := Lib.hid (fun (w' : World) (hw : Below w.heap.size w w') => node_c r1 r2 w' (by omega) (by omega) (HT.out.below hw))
      clear hcell hS ih HE R1 R2
      unfold maxLen at hm
      have hk0 : 0 ≤ (k : Int) := by omega
      have hkn : (k : Int) ≤ (n : Int) := by omega
      have hkc : (k : Int) ≤ (cap : Int) := by omega
      have hnc : (n : Int) ≤ (cap : Int) := by omega
      go_enter Tryd.func25, Tryd.ntmps25
      go_wp2_with fail
      refine (HSp.out _).mono ?_
      rintro e w1 ⟨rfl, rfl⟩
      go_wp2_with fail
      go_region_held3 (fun w' => Below w1.heap.size w1 w')
        (first | assumption | exact (Below.refl _ _).drew | exact bt (by assumption) (by assumption))
        (first | (go_at_call_of 25 (Value.slice (some ⟨b, o, none⟩) k cap); refine (HC1.out _ (by first | assumption | exact (Below.refl _ _).drew)).mono ?_; rintro e1 w2 ⟨rfl, hb2⟩) | (go_at_call_of 25 (n - k); refine (HC2.out _ (by first | assumption | exact (Below.refl _ _).drew | exact bt (by assumption) (by assumption))).mono ?_; rintro e1 w2 ⟨rfl, hb2⟩) | (go_at_call 15; refine (HT'.out _ (by first | assumption | exact bt (by assumption) (by assumption))).mono ?_; rintro e1 w2 ⟨rfl, hb2⟩))
      go_wp2_with fail
      go_ret
      exact ⟨rfl, by first | assumption | exact bt (by assumption) (by assumption)⟩
end Go.Proofs.YtkmiodlehmocnaaDoor
