/- WALKS: collide of the laws, Same of the reference. -/
import Derived.Test.YtkmiodlehmocnaaDoorB0
set_option linter.unusedVariables false
set_option linter.unusedSimpArgs false
namespace Go.Proofs.YtkmiodlehmocnaaDoor
open Go.RowKit

/-- Two lists with a collision at one place. -/
def Coll (A B : List ByteArray) : Prop := ∃ i, i < A.length ∧ i < B.length ∧ A.getD i ⟨#[]⟩ ≠ B.getD i ⟨#[]⟩ ∧ dg.f (A.getD i ⟨#[]⟩) = dg.f (B.getD i ⟨#[]⟩)
theorem coll_none {A B : List ByteArray} {k : Nat} (hk : ¬ (k < A.length ∧ k < B.length)) (h : ∀ j, j < k → ¬ (A.getD j ⟨#[]⟩ ≠ B.getD j ⟨#[]⟩ ∧ dg.f (A.getD j ⟨#[]⟩) = dg.f (B.getD j ⟨#[]⟩))) : ¬ Coll A B := by
  rintro ⟨i, h1, h2, h3⟩
  exact h i (by omega) h3

set_option maxRecDepth 100000 in
set_option maxHeartbeats 2000000 in
theorem collide_c (A B : List ByteArray) (v u : Value) (w : World) (hA : Strs w v A) (hB : Strs w u B) (sA : Short A) (sB : Short B) (hT : Tab w) :
    Calls Tryd.prog 31 #[v, u] w fun e w' => ∃ b, e = .returned (.bool b) ∧ (Coll A B → b = true) ∧ Below w.heap.size w w' := by
  obtain ⟨a1, n1, c1, rfl, hn1, hc1, hm1, hcell1⟩ := hA
  obtain ⟨a2, n2, c2, rfl, hn2, hc2, hm2, hcell2⟩ := hB
  have HN1 := Lib.hid hn1
  have HN2 := Lib.hid hn2
  have HC1 := Lib.hid hcell1
  have HC2 := Lib.hid hcell2
  have HT := Lib.hid hT
  have HsA := Lib.hid sA
  have HsB := Lib.hid sB
  clear hn1 hn2 hcell1 hcell2 hT sA sB
  unfold maxLen at hm1 hm2
  go_enter Tryd.func31, Tryd.ntmps31
  go_wp2_with fail
  go_loopw [5] (fun i wr => ∃ k : Nat, k ≤ n1 ∧ k ≤ n2 ∧ i = .int .i64 k ∧ Hid (∀ j, j < k → ¬ (A.getD j ⟨#[]⟩ ≠ B.getD j ⟨#[]⟩ ∧ dg.f (A.getD j ⟨#[]⟩) = dg.f (B.getD j ⟨#[]⟩))) ∧ Hid (Below w.heap.size w wr)) (fun i _ => n1 - (intOf i).toNat)
  case atStart => exact ⟨0, by omega, by omega, rfl, Lib.hid (fun j hj => by omega), Lib.hid (Below.refl _ _)⟩
  case round =>
    obtain ⟨k, hk1, hk2, rfl, HNo, HB⟩ := hrel
    by_cases hlt : k < n1 ∧ k < n2
    · obtain ⟨hl1, hl2⟩ := hlt
      obtain ⟨b1, o1, rfl, hb1, hcell1⟩ := HC1.out (by omega)
      obtain ⟨b2, o2, rfl, hb2, hcell2⟩ := HC2.out (by omega)
      obtain ⟨x, HX⟩ : ∃ x, Hid (A.getD k ⟨#[]⟩ = x) := ⟨_, Lib.hid rfl⟩
      obtain ⟨y, HY⟩ : ∃ y, Hid (B.getD k ⟨#[]⟩ = y) := ⟨_, Lib.hid rfl⟩
      have hx := hcell1 k hl1
      have hy := hcell2 k hl2
      rw [HX.out] at hx
      rw [HY.out] at hy
      have hxs : x.size ≤ 100000000 := HsA.out x (by rw [← HX.out, List.getD_eq_getElem?_getD, List.getElem?_eq_getElem (by rw [← HN1.out]; exact hl1)]; exact List.getElem_mem _)
      have hys : y.size ≤ 100000000 := HsB.out y (by rw [← HY.out, List.getD_eq_getElem?_getD, List.getElem?_eq_getElem (by rw [← HN2.out]; exact hl2)]; exact List.getElem_mem _)
      have hxr : wr.cell? ⟨b1, o1 + k, none⟩ = some (.string x) := (HB.out.cell (p := ⟨b1, o1 + k, none⟩) hb1).trans hx
      have hyr : wr.cell? ⟨b2, o2 + k, none⟩ = some (.string y) := (HB.out.cell (p := ⟨b2, o2 + k, none⟩) hb2).trans hy
      have hb1r : b1 < wr.heap.size := Nat.lt_of_lt_of_le hb1 HB.out.size
      have hb2r : b2 < wr.heap.size := Nat.lt_of_lt_of_le hb2 HB.out.size
      have HK := Lib.hid (fun (w' : World) (hw : Below wr.heap.size wr w') => (⟨(hw.cell (p := ⟨b1, o1 + k, none⟩) hb1r).trans hxr, (hw.cell (p := ⟨b2, o2 + k, none⟩) hb2r).trans hyr, hw⟩ : w'.cell? ⟨b1, o1 + k, none⟩ = some (.string x) ∧ w'.cell? ⟨b2, o2 + k, none⟩ = some (.string y) ∧ Below wr.heap.size wr w'))
      have HSx := Lib.hid (fun (w' : World) (hw : Below wr.heap.size wr w') => sum_c x w' (by omega) ((HT.out.below HB.out).below hw))
      have HSy := Lib.hid (fun (w' : World) (hw : Below wr.heap.size wr w') => sum_c y w' (by omega) ((HT.out.below HB.out).below hw))
      obtain ⟨fx, Fx⟩ : ∃ z, Hid (dg.f x = z) := ⟨_, Lib.hid rfl⟩
      obtain ⟨fy, Fy⟩ : ∃ z, Hid (dg.f y = z) := ⟨_, Lib.hid rfl⟩
      rw [Fx.out] at HSx
      rw [Fy.out] at HSy
      have d1 : decide ((k : Int) < (n1 : Int)) = true := by simp; omega
      have d2 : decide ((k : Int) < (n2 : Int)) = true := by simp; omega
      have HNext : Hid (¬ (x ≠ y ∧ fx = fy) → ∀ j, j < k + 1 → ¬ (A.getD j ⟨#[]⟩ ≠ B.getD j ⟨#[]⟩ ∧ dg.f (A.getD j ⟨#[]⟩) = dg.f (B.getD j ⟨#[]⟩))) := Lib.hid (fun h j hj => by
        rcases Nat.lt_or_eq_of_le (Nat.le_of_lt_succ hj) with h1 | rfl
        · exact HNo.out j h1
        · rw [HX.out, HY.out, Fx.out, Fy.out]; exact h)
      clear hcell1 hcell2 HX HY HNo hx hy hb1 hb2 hb1r hb2r hxs hys
      by_cases hxy : x = y
      · have HNx := Lib.hid (HNext.out (fun h => h.1 hxy))
        have d3 := str_eq hxy
        clear hxy
        go_wp2_with fail
        go_quiet (fail)
        go_wp2_with fail
        exact ⟨⟨k + 1, by omega, by omega, by go_num, HNx, Lib.hid (below_drewN HB.out nq)⟩, by simp [intOf]; omega⟩
      · have d3 := str_ne hxy
        by_cases hf : fx = fy
        · have d4 := str_eq hf
          clear HNext hf hxy
          go_wp2_with fail
          go_region_held3 (fun w' => w'.cell? ⟨b1, o1 + k, none⟩ = some (.string x) ∧ w'.cell? ⟨b2, o2 + k, none⟩ = some (.string y) ∧ Below wr.heap.size wr w')
            (first | assumption | exact HK.out _ (Below.refl _ _).drew | exact HK.out _ (bt (Below.refl _ _).drew (by assumption)) | exact HK.out _ (bt (And.right (And.right (by assumption))) (by assumption)))
            (first | (go_at_call_of 11 (Value.string x); refine (HSx.out _ (by first | exact (Below.refl _ _).drew | exact And.right (And.right (by assumption)) | exact bt (Below.refl _ _).drew (by assumption))).mono ?_; rintro e1 w9 ⟨rfl, hb9⟩) | (go_at_call_of 11 (Value.string y); refine (HSy.out _ (by first | exact (Below.refl _ _).drew | exact And.right (And.right (by assumption)) | exact bt (Below.refl _ _).drew (by assumption))).mono ?_; rintro e1 w9 ⟨rfl, hb9⟩))
          go_wp2_with fail
          go_ret
          exact ⟨true, rfl, fun _ => rfl, bt HB.out (And.right (And.right (by assumption)))⟩
        · have d4 := str_ne hf
          have HNx := Lib.hid (HNext.out (fun h => hf h.2))
          clear HNext hf hxy
          go_wp2_with fail
          go_region_held3 (fun w' => w'.cell? ⟨b1, o1 + k, none⟩ = some (.string x) ∧ w'.cell? ⟨b2, o2 + k, none⟩ = some (.string y) ∧ Below wr.heap.size wr w')
            (first | assumption | exact HK.out _ (Below.refl _ _).drew | exact HK.out _ (bt (Below.refl _ _).drew (by assumption)) | exact HK.out _ (bt (And.right (And.right (by assumption))) (by assumption)))
            (first | (go_at_call_of 11 (Value.string x); refine (HSx.out _ (by first | exact (Below.refl _ _).drew | exact And.right (And.right (by assumption)) | exact bt (Below.refl _ _).drew (by assumption))).mono ?_; rintro e1 w9 ⟨rfl, hb9⟩) | (go_at_call_of 11 (Value.string y); refine (HSy.out _ (by first | exact (Below.refl _ _).drew | exact And.right (And.right (by assumption)) | exact bt (Below.refl _ _).drew (by assumption))).mono ?_; rintro e1 w9 ⟨rfl, hb9⟩))
          go_wp2_with fail
          exact ⟨⟨k + 1, by omega, by omega, by go_num, HNx, Lib.hid (bt HB.out (And.right (And.right (by assumption))))⟩, by simp [intOf]; omega⟩
    · have HEnd := Lib.hid (coll_none (A := A) (B := B) (k := k) (by rw [← HN1.out, ← HN2.out]; exact hlt) HNo.out)
      by_cases hl1 : k < n1
      · have d1 : decide ((k : Int) < (n1 : Int)) = true := by simp; omega
        have d2 : decide (k < n2) = false := by simp; omega
        clear hlt
        go_wp2_with fail
        go_ret
        exact ⟨false, rfl, fun h => absurd h HEnd.out, HB.out⟩
      · have d1 : decide ((k : Int) < (n1 : Int)) = false := by simp; omega
        clear hlt
        go_wp2_with fail
        go_ret
        exact ⟨false, rfl, fun h => absurd h HEnd.out, HB.out⟩

set_option maxRecDepth 100000 in
set_option maxHeartbeats 2000000 in
/-- Whether two lists are the same. -/
theorem same_c (A B : List ByteArray) (v u : Value) (w : World) (hA : Strs w v A) (hB : Strs w u B) :
    Calls Tryd.prog 24 #[v, u] w fun e w' => e = .returned (.bool (decide (A = B))) ∧ Below w.heap.size w w' := by
  obtain ⟨a1, n1, c1, rfl, hn1, hc1, hm1, hcell1⟩ := hA
  obtain ⟨a2, n2, c2, rfl, hn2, hc2, hm2, hcell2⟩ := hB
  have HN1 := Lib.hid hn1
  have HN2 := Lib.hid hn2
  have HC1 := Lib.hid hcell1
  have HC2 := Lib.hid hcell2
  clear hn1 hn2 hcell1 hcell2
  unfold maxLen at hm1 hm2
  obtain ⟨d, HD⟩ : ∃ d, Hid (decide (A = B) = d) := ⟨_, Lib.hid rfl⟩
  rw [HD.out]
  by_cases hn : n1 = n2
  · subst hn
    have d0 : ((n1 : Int) == (n1 : Int)) = true := by simp
    go_enter Tryd.func24, Tryd.ntmps24
    go_wp2_with fail
    go_loopw [5] (fun i wr => ∃ k : Nat, k ≤ n1 ∧ i = .int .i64 k ∧ Hid (∀ j, j < k → A.getD j ⟨#[]⟩ = B.getD j ⟨#[]⟩) ∧ Hid (Below w.heap.size w wr)) (fun i _ => n1 - (intOf i).toNat)
    case atStart => exact ⟨0, by omega, rfl, Lib.hid (fun j hj => by omega), Lib.hid (Below.refl _ _)⟩
    case round =>
      obtain ⟨k, hk1, rfl, HEq, HB⟩ := hrel
      by_cases hlt : k < n1
      · obtain ⟨b1, o1, rfl, hb1, hcell1⟩ := HC1.out (by omega)
        obtain ⟨b2, o2, rfl, hb2, hcell2⟩ := HC2.out (by omega)
        obtain ⟨x, HX⟩ : ∃ x, Hid (A.getD k ⟨#[]⟩ = x) := ⟨_, Lib.hid rfl⟩
        obtain ⟨y, HY⟩ : ∃ y, Hid (B.getD k ⟨#[]⟩ = y) := ⟨_, Lib.hid rfl⟩
        have hx := hcell1 k hlt
        have hy := hcell2 k hlt
        rw [HX.out] at hx
        rw [HY.out] at hy
        have hxr : wr.cell? ⟨b1, o1 + k, none⟩ = some (.string x) := (HB.out.cell (p := ⟨b1, o1 + k, none⟩) hb1).trans hx
        have hyr : wr.cell? ⟨b2, o2 + k, none⟩ = some (.string y) := (HB.out.cell (p := ⟨b2, o2 + k, none⟩) hb2).trans hy
        have d1 : decide ((k : Int) < (n1 : Int)) = true := by simp; omega
        clear hcell1 hcell2 hx hy
        by_cases hxy : x = y
        · have d3 := str_eq hxy
          have HNx : Hid (∀ j, j < k + 1 → A.getD j ⟨#[]⟩ = B.getD j ⟨#[]⟩) := Lib.hid (fun j hj => by
            rcases Nat.lt_or_eq_of_le (Nat.le_of_lt_succ hj) with h1 | rfl
            · exact HEq.out j h1
            · rw [HX.out, HY.out]; exact hxy)
          clear hxy HX HY
          go_wp2_with fail
          go_quiet (fail)
          go_wp2_with fail
          exact ⟨⟨k + 1, by omega, by go_num, HNx, Lib.hid (below_drewN HB.out nq)⟩, by simp [intOf]; omega⟩
        · have d3 := str_ne hxy
          have HF : Hid (decide (A = B) = false) := Lib.hid (decide_eq_false (fun h => hxy (by rw [← HX.out, ← HY.out, h])))
          clear hxy HX HY
          go_wp2_with fail
          go_quiet (fail)
          go_wp2_with fail
          go_ret
          exact ⟨by rw [← HD.out, HF.out]; rfl, below_drewN HB.out nq⟩
      · have HT : Hid (decide (A = B) = true) := Lib.hid (decide_eq_true (by
          apply List.ext_getElem?
          intro i
          by_cases hi : i < n1
          · have := HEq.out i (by omega)
            rw [List.getD_eq_getElem?_getD, List.getD_eq_getElem?_getD, List.getElem?_eq_getElem (by rw [← HN1.out]; exact hi), List.getElem?_eq_getElem (by rw [← HN2.out]; exact hi)] at this
            rw [List.getElem?_eq_getElem (by rw [← HN1.out]; exact hi), List.getElem?_eq_getElem (by rw [← HN2.out]; exact hi)]
            exact congrArg some this
          · rw [List.getElem?_eq_none (by rw [← HN1.out]; omega), List.getElem?_eq_none (by rw [← HN2.out]; omega)]))
        have d1 : decide ((k : Int) < (n1 : Int)) = false := by simp; omega
        go_wp2_with fail
        go_ret
        exact ⟨by rw [← HD.out, HT.out]; rfl, HB.out⟩
  · have HF : Hid (decide (A = B) = false) := Lib.hid (decide_eq_false (fun h => hn (by rw [HN1.out, HN2.out, h])))
    have d0 : ((n1 : Int) == (n2 : Int)) = false := by simp; omega
    go_enter Tryd.func24, Tryd.ntmps24
    go_wp2_with fail
    go_ret
    exact ⟨by rw [← HD.out, HF.out]; rfl, Below.refl _ _⟩
end Go.Proofs.YtkmiodlehmocnaaDoor
