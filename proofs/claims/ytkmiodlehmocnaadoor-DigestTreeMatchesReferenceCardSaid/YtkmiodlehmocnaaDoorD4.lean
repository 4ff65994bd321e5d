/- WALKS: the reference's Left and Root, over what the reference's block answers. -/
import Derived.Test.YtkmiodlehmocnaaDoorD3
import Derived.Test.YtkmiodlehmocnaaDoorT17
set_option linter.unusedVariables false
set_option linter.unusedSimpArgs false
namespace Go.Proofs.YtkmiodlehmocnaaDoor
open Go.RowKit

/-- Every text is very short. -/
def Short1 (L : List ByteArray) : Prop := ∀ x ∈ L, x.size ≤ 1000
theorem Short1.take {L : List ByteArray} (h : Short1 L) (k : Nat) : Short1 (L.take k) := fun x hx => h x (List.mem_of_mem_take hx)
theorem Short1.drop {L : List ByteArray} (h : Short1 L) (k : Nat) : Short1 (L.drop k) := fun x hx => h x (List.mem_of_mem_drop hx)

set_option maxRecDepth 100000 in
set_option maxHeartbeats 400000 in
theorem ref_left (n : Nat) (w : World) (h2 : 2 ≤ n) (hn : n ≤ 1000000) :
    Calls Tryd.prog 40 #[.int .i64 n] w fun e w' => e = .returned (.int .i64 (spl n)) ∧ w' = w := by
  go_enter Tryd.func40, Tryd.ntmps40
  go_wp2_with fail
  go_loop [3] (fun c => ∃ k : Nat, 1 ≤ k ∧ k < n ∧ c = .int .i64 k ∧ Hid (∃ j, k = 2 ^ j)) (fun c => n - (intOf c).toNat)
  case atStart => exact ⟨1, by omega, by omega, rfl, Lib.hid ⟨0, rfl⟩⟩
  case round =>
    obtain ⟨k, hk1, hkn, rfl, HJ⟩ := hrel
    by_cases h : k < n - k
    · have hd : decide ((k : Int) < (n : Int) - (k : Int)) = true := by simp; omega
      go_wp2_with fail
      refine ⟨⟨2 * k, by omega, by omega, by go_num, Lib.hid ?_⟩, by simp [intOf]; omega⟩
      obtain ⟨j, hj⟩ := HJ.out
      exact ⟨j + 1, by rw [hj, Nat.pow_succ]; omega⟩
    · have hd : decide ((k : Int) < (n : Int) - (k : Int)) = false := by simp; omega
      have HF : Hid ((k : Int) = (spl n : Int)) := Lib.hid (by obtain ⟨j, hj⟩ := HJ.out; rw [spl_top h2 hj hkn (by omega)])
      go_wp2_with fail
      go_ret
      exact ⟨ret_int HF.out, rfl⟩

set_option maxRecDepth 100000 in
set_option maxHeartbeats 1000000 in
theorem ref_root (RB : RefBlock) (N : Nat) : ∀ (L : List ByteArray) (v : Value) (w : World), L.length ≤ N → L.length ≤ 1000000 → Strs w v L → Short1 L →
    Calls Tryd.prog 26 #[v] w fun e w' => e = .returned (.string (dg.root L)) ∧ Below w.heap.size w w' := by
  have HRB := Lib.hid RB
  clear RB
  induction N with
  | zero =>
    intro L v w hN hL hS hsh
    obtain rfl : L = [] := List.length_eq_zero_iff.1 (by omega)
    obtain ⟨a, cap, rfl, _, _⟩ := hS.open0
    rw [show ([] : List ByteArray).length = 0 from rfl]
    clear hsh hS
    have HE := Lib.hid (dg.root_nil)
    rw [HE.out]
    go_enter Tryd.func26, Tryd.ntmps26
    go_wp2_with fail
    refine (ref_sum HRB.out ⟨#[]⟩ _ (show 0 ≤ 5000 by omega)).mono ?_
    rintro e w1 ⟨rfl, hb1⟩
    go_wp2_with fail
    go_ret
    exact ⟨rfl, hb1⟩
  | succ N ih =>
    intro L v w hN hL hS hsh
    by_cases h0 : L.length = 0
    · exact ih L v w (by omega) hL hS hsh
    have HSh := Lib.hid hsh
    clear hsh
    by_cases h1 : L.length = 1
    · obtain ⟨x, rfl⟩ : ∃ x, L = [x] := match L, h1 with | [x], _ => ⟨x, rfl⟩
      obtain ⟨b, o, cap, rfl, hc, hm, hb, hcell⟩ := hS.open1 (by simp)
      have c0 : w.cell? ⟨b, o, none⟩ = some (.string x) := by simpa using hcell 0 (by simp)
      have hx := HSh.out x (by simp)
      rw [show [x].length = 1 from rfl]
      clear hcell h1 h0 hS
      unfold maxLen at hm
      have HE := Lib.hid (dg.root_one x)
      rw [HE.out]
      go_enter Tryd.func26, Tryd.ntmps26
      go_wp2_with fail
      refine (ref_leaf HRB.out x _ (by omega)).mono ?_
      rintro e w1 ⟨rfl, hb1⟩
      go_wp2_with fail
      go_ret
      exact ⟨rfl, hb1⟩
    · have HE := Lib.hid (dg.root_two (l := L) (by omega))
      obtain ⟨k, HK⟩ : ∃ k, Hid (spl L.length = k) := ⟨_, Lib.hid rfl⟩
      rw [HK.out] at HE
      have hk1 : 1 ≤ k := by rw [← HK.out]; exact spl_pos _
      have hk2 : k < L.length := by rw [← HK.out]; exact spl_lt (by omega)
      obtain ⟨b, o, cap, rfl, hc, hm, hb, hcell⟩ := hS.open1 (by omega)
      have HC1 := Lib.hid (fun (w' : World) (hw : Below w.heap.size w w') => ih (L.take k) _ w' (by simp; omega) (by simp; omega) ((Strs.take hc hm hb hcell (by omega)).below hw) (HSh.out.take k))
      have HC2 := Lib.hid (fun (w' : World) (hw : Below w.heap.size w w') => ih (L.drop k) _ w' (by simp; omega) (by simp; omega) ((Strs.drop hc hm hb hcell (k := k) (by omega)).below hw) (HSh.out.drop k))
      have HSp := Lib.hid (fun w' => ref_left L.length w' (by omega) hL)
      rw [HK.out] at HSp
      obtain ⟨n, HN⟩ : ∃ n, Hid (L.length = n) := ⟨_, Lib.hid rfl⟩
      obtain ⟨r1, R1⟩ : ∃ r, Hid (dg.root (L.take k) = r) := ⟨_, Lib.hid rfl⟩
      obtain ⟨r2, R2⟩ : ∃ r, Hid (dg.root (L.drop k) = r) := ⟨_, Lib.hid rfl⟩
      have hr1 : r1.size ≤ 32 := by rw [← R1.out, dg.root_size]; exact Nat.le_refl _
      have hr2 : r2.size ≤ 32 := by rw [← R2.out, dg.root_size]; exact Nat.le_refl _
      rw [HE.out, R1.out, R2.out]
      rw [R1.out] at HC1
      rw [R2.out] at HC2
      rw [HN.out] at hc hk2 HC2 HSp h0 h1 hN hL ⊢
      have HT' := Lib.hid (fun (w' : World) (hw : Below w.heap.size w w') => ref_node HRB.out r1 r2 w' (by omega) (by omega))
      clear hcell hS ih HE R1 R2
      unfold maxLen at hm
      have hk0 : 0 ≤ (k : Int) := by omega
      have hkn : (k : Int) ≤ (n : Int) := by omega
      have hkc : (k : Int) ≤ (cap : Int) := by omega
      have hnc : (n : Int) ≤ (cap : Int) := by omega
      go_enter Tryd.func26, Tryd.ntmps26
      go_wp2_with fail
      refine (HSp.out _).mono ?_
      rintro e w1 ⟨rfl, rfl⟩
      go_wp2_with fail
      go_region_held3 (fun w' => Below w1.heap.size w1 w')
        (first | assumption | exact (Below.refl _ _).drew | exact bt (by assumption) (by assumption))
        (first | (go_at_call_of 26 (Value.slice (some ⟨b, o, none⟩) k cap); refine (HC1.out _ (by first | assumption | exact (Below.refl _ _).drew)).mono ?_; rintro e1 w2 ⟨rfl, hb2⟩) | (go_at_call_of 26 (n - k); refine (HC2.out _ (by first | assumption | exact (Below.refl _ _).drew | exact bt (by assumption) (by assumption))).mono ?_; rintro e1 w2 ⟨rfl, hb2⟩) | (go_at_call 16; refine (HT'.out _ (by first | assumption | exact bt (by assumption) (by assumption))).mono ?_; rintro e1 w2 ⟨rfl, hb2⟩))
      go_wp2_with fail
      go_ret
      exact ⟨rfl, by first | assumption | exact bt (by assumption) (by assumption)⟩
end Go.Proofs.YtkmiodlehmocnaaDoor
