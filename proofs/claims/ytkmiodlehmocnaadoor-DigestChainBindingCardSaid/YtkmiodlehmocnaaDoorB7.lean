/- THE WALK OF DigestChainBinding. -/
import Derived.Test.YtkmiodlehmocnaaDoorB6
import Derived.Deep.RegionHeldLaw
set_option linter.unusedVariables false
set_option linter.unusedSimpArgs false
namespace Go.Proofs.YtkmiodlehmocnaaDoor
open Go.RowKit

theorem wp_zero32 {w : World} {o : Oper} {a : Act} {K : Act → World → Prop} {Q : Exit → Act → World → Prop}
    (ho : o.op = .makeSlice 42 (.const (.int .i64 32)) (.const (.int .i64 32)))
    (h : ∀ (g : Nat) (w' : World), w'.heap[g]? = some (.cells zc 5 (0, 0)) → Below w.heap.size w w' → K (a.put o.dst (.slice (some ⟨g, 0, none⟩) 32 32)) w') : Oper.wp Tryd.prog o a w K Q := by
  unfold Oper.wp execOp
  have hz := zero32 w
  simp only [ho, Sem.run_bind, Sem.run_pure, Result.andThen_ok, Act.eval, hz]
  exact h _ _ (heap_alloc_new w _) ((Below.refl _ w).alloc (Nat.le_refl _) _)
theorem wp_conv32 {w : World} {o : Oper} {a : Act} {K : Act → World → Prop} {Q : Exit → Act → World → Prop}
    (t : Nat) (ho : o.op = .convert 42 9 (.tmp t)) (g : Nat) (hv : a.eval (.tmp t) = .slice (some ⟨g, 0, none⟩) 32 32) (hg : w.heap[g]? = some (.cells zc 5 (0, 0)))
    (h : K (a.put o.dst (.string z32)) w) : Oper.wp Tryd.prog o a w K Q := by
  unfold Oper.wp execOp
  have hz := bytes_text (w := w) (B := g) (n := 32) (l := List.replicate 32 0) (T := 5) hg rfl 32
  simp only [ho, Sem.run_bind, Sem.run_pure, Result.andThen_ok, hv, hz]
  exact h
theorem step_zero32 {w : World} {ops : Array Oper} {o : Oper} {a : Act} {K : Act → World → Prop} {Q : Exit → Act → World → Prop} {E : Prop}
    (ho : o.op = .makeSlice 42 (.const (.int .i64 32)) (.const (.int .i64 32))) (hw : Region.wanted o (yielded ops a.tmps) = true)
    (h : ∀ (g : Nat) (w' : World), w'.heap[g]? = some (.cells zc 5 (0, 0)) → Below w.heap.size w w' → K (a.put o.dst (.slice (some ⟨g, 0, none⟩) 32 32)) w') :
    if Region.wanted o (yielded ops a.tmps) = true then Oper.wp Tryd.prog o a w K Q else E := by
  rw [if_pos hw]
  exact wp_zero32 ho h
theorem step_conv32 {w : World} {ops : Array Oper} {o : Oper} {a : Act} {K : Act → World → Prop} {Q : Exit → Act → World → Prop} {E : Prop}
    (t : Nat) (ho : o.op = .convert 42 9 (.tmp t)) (g : Nat) (hg : w.heap[g]? = some (.cells zc 5 (0, 0))) (hw : Region.wanted o (yielded ops a.tmps) = true) (hv : a.eval (.tmp t) = .slice (some ⟨g, 0, none⟩) 32 32)
    (h : K (a.put o.dst (.string z32)) w) :
    if Region.wanted o (yielded ops a.tmps) = true then Oper.wp Tryd.prog o a w K Q else E := by
  rw [if_pos hw]
  exact wp_conv32 t ho g hv hg h
theorem conv32g {w : World} {g : Nat} (hg : w.heap[g]? = some (.cells zc 5 (0, 0))) : Sem.run Tryd.prog (convert 42 9 (.slice (some ⟨g, 0, none⟩) 32 32)) w = .ok (.string z32) w :=
  bytes_text (w := w) (B := g) (n := 32) (l := List.replicate 32 0) (T := 5) hg rfl 32
theorem conv32a (w : World) : Sem.run Tryd.prog (convert 42 9 (.slice (some ⟨w.heap.size, 0, none⟩) 32 32)) (w.alloc (.cells zc 5)) = .ok (.string z32) (w.alloc (.cells zc 5)) := conv32g (heap_alloc_new w _)
attribute [local go_sem ↓] conv32g
theorem heap_keep {w w' : World} {g : Nat} {c : Obj} (h : w.heap[g]? = some c) (hb : Below w.heap.size w w') : w'.heap[g]? = some c :=
  (hb.block g (Array.getElem?_eq_some_iff.1 h).1).trans h

set_option maxRecDepth 100000 in
set_option maxHeartbeats 16000000 in
theorem chainBinding_walk (A B : List ByteArray) (v u : Value) (w : World) (hA : InS w v A) (hzA : ∀ x ∈ A, x.size ≤ maxLen) (hB : InS w u B) (hzB : ∀ x ∈ B, x.size ≤ maxLen) (hT : Tab w) :
    Calls Tryd.prog 7 #[v, u] w fun e W' => e = .returned (.bool true) ∧ Below w.heap.size w W' := by
  have HT := Lib.hid hT
  have HA := Lib.hid hA
  have HB := Lib.hid hB
  have HZA := Lib.hid hzA
  have HZB := Lib.hid hzB
  clear hT hA hB hzA hzB
  obtain ⟨F, HF⟩ : ∃ F, Hid (fewL A 20 = F) := ⟨_, Lib.hid rfl⟩
  obtain ⟨G, HG⟩ : ∃ F, Hid (fewL B 20 = F) := ⟨_, Lib.hid rfl⟩
  have HFs := Lib.hid (show ∀ x ∈ F, x.size ≤ 60 from fun x hx => fewL_size (by rw [HF.out]; exact hx))
  have HGs := Lib.hid (show ∀ x ∈ G, x.size ≤ 60 from fun x hx => fewL_size (by rw [HG.out]; exact hx))
  have HFl := Lib.hid (show F.length ≤ 20 from by rw [← HF.out, fewL_length]; omega)
  have HGl := Lib.hid (show G.length ≤ 20 from by rw [← HG.out, fewL_length]; omega)
  obtain ⟨X, hx, HX⟩ : ∃ X h, Hid (hds F = (X, h)) := ⟨_, _, Lib.hid rfl⟩
  obtain ⟨Y, hy, HY⟩ : ∃ X h, Hid (hds G = (X, h)) := ⟨_, _, Lib.hid rfl⟩
  have hxs : hx.size = 32 := by have := hds_size F; rw [HX.out] at this; exact this
  have HXs := Lib.hid (show Short X from fun x h => Nat.le_trans (hds_short F HFs.out x (by rw [HX.out]; exact h)) (by decide))
  have HYs := Lib.hid (show Short Y from fun x h => Nat.le_trans (hds_short G HGs.out x (by rw [HY.out]; exact h)) (by decide))
  have HBi := Lib.hid (chain_binds F.length F G (Nat.le_refl _))
  rw [HX.out, HY.out] at HBi
  have HXl := Lib.hid (hds_length F)
  have HYl := Lib.hid (hds_length G)
  rw [HX.out] at HXl
  rw [HY.out] at HYl
  go_enter Tryd.func7, Tryd.ntmps7
  go_wp2_with fail
  refine (sane_c _ HT.out).mono ?_
  rintro e w1 ⟨rfl, hb1⟩
  have HB1 := Lib.hid hb1
  clear hb1
  go_wp2_with fail
  refine (few_c A v 20 _ (by decide) (HA.out.below HB1.out) HZA.out).mono ?_
  rintro e w2 ⟨v2, rfl, ho2, _, hb2⟩
  have HB2 := Lib.hid (bt HB1.out hb2)
  rw [HF.out] at ho2
  have HS2 := Lib.hid (OwnS.strs ho2)
  clear hb2 HB1 ho2
  go_wp2_with fail
  refine (few_c B u 20 _ (by decide) (HB.out.below HB2.out) HZB.out).mono ?_
  rintro e w3 ⟨u3, rfl, ho3, _, hb3⟩
  have HB3 := Lib.hid (bt HB2.out hb3)
  rw [HG.out] at ho3
  have HS3 := Lib.hid (HS2.out.below hb3)
  have HR3 := Lib.hid (OwnS.strs ho3)
  clear hb3 HB2 ho3 HS2
  go_wp2_with fail
  refine (heads_c F v2 _ HFl.out HFs.out HS3.out (HT.out.below HB3.out)).mono ?_
  rintro e w4 ⟨v4, rfl, hs4, hb4⟩
  have HB4 := Lib.hid (bt HB3.out hb4)
  have HS4 := Lib.hid (HS3.out.below hb4)
  have HR4 := Lib.hid (HR3.out.below hb4)
  rw [HX.out] at hs4 ⊢
  have HX4 := Lib.hid hs4
  clear hb4 HB3 HS3 HR3 hs4
  go_wp2_with fail
  refine (heads_c G u3 _ HGl.out HGs.out HR4.out (HT.out.below HB4.out)).mono ?_
  rintro e w5 ⟨u5, rfl, hs5, hb5⟩
  have HB5 := Lib.hid (bt HB4.out hb5)
  have HS5 := Lib.hid (HS4.out.below hb5)
  have HR5 := Lib.hid (HR4.out.below hb5)
  have HX5 := Lib.hid (HX4.out.below hb5)
  rw [HY.out] at hs5 ⊢
  have HY5 := Lib.hid hs5
  clear hb5 HB4 HS4 HR4 HX4 hs5
  go_wp2_with fail
  refine (same_c F G v2 u3 _ HS5.out HR5.out).mono ?_
  rintro e w6 ⟨rfl, hb6⟩
  have HB6 := Lib.hid (bt HB5.out hb6)
  have HS6 := Lib.hid (HS5.out.below hb6)
  have HX6 := Lib.hid (HX5.out.below hb6)
  have HY6 := Lib.hid (HY5.out.below hb6)
  clear hb6 HB5 HS5 HR5 HX5 HY5
  obtain ⟨a6, c6, rfl, hc6, hm6⟩ := HS6.out.open0
  obtain ⟨n, HN⟩ : ∃ n, Hid (F.length = n) := ⟨_, Lib.hid rfl⟩
  have hxs' : ((hx.size : Int) == 32) = true := by rw [hxs]; rfl
  clear HS6 hc6 hm6
  rw [HN.out]
  by_cases hFG : F = G
  · have hxy : hx = hy := by
      have := HX.out
      rw [hFG, HY.out] at this
      exact (Prod.mk.inj this).2.symm
    have d3 := str_eq hxy
    have HD : Hid (decide (F = G) = true) := Lib.hid (decide_eq_true hFG)
    rw [HD.out]
    clear hFG hxy
    go_wp2_with fail
    go_ret
    exact ⟨rfl, HB6.out⟩
  · have HD : Hid (decide (F = G) = false) := Lib.hid (decide_eq_false hFG)
    rw [HD.out]
    by_cases hxy : hx = hy
    · have d3 := str_eq hxy
      have HBi' := Lib.hid (HBi.out hFG hxy)
      clear hxy hFG
      obtain ⟨p, HP⟩ : ∃ p, Hid (X.length = p) := ⟨_, Lib.hid rfl⟩
      obtain ⟨q, HQ⟩ : ∃ p, Hid (Y.length = p) := ⟨_, Lib.hid rfl⟩
      have hp : p ≤ 20 := by rw [← HP.out, HXl.out]; exact HFl.out
      have hq : q ≤ 20 := by rw [← HQ.out, HYl.out]; exact HGl.out
      obtain ⟨a7, c7, rfl, hc7, hm7⟩ := HX6.out.open0
      obtain ⟨a8, c8, rfl, hc8, hm8⟩ := HY6.out.open0
      rw [HP.out] at HX6 hc7 ⊢
      rw [HQ.out] at HY6 hc8 ⊢
      by_cases hpq : p = q
      · subst hpq
        have HCo : Hid (Coll X Y) := Lib.hid (by
          rcases HBi'.out with h | ⟨h, _⟩
          · exact h
          · exact absurd (by rw [HP.out, HQ.out]) h)
        have d4 : decide ((p : Int) < (p : Int)) = false := by simp
        have d5 : ((p : Int) == (p : Int)) = true := by simp
        go_wp2_with fail
        go_quiet (fail)
        go_wp2_with fail
        refine (collide_c X Y _ _ _ (HX6.out.below (below_drewN (Below.refl _ _) nq)) (HY6.out.below (below_drewN (Below.refl _ _) nq)) HXs.out HYs.out (HT.out.below (below_drewN HB6.out nq))).mono ?_
        rintro e w7 ⟨b, rfl, hb, hb7⟩
        obtain rfl := hb HCo.out
        have HB7 := Lib.hid (bt (below_drewN HB6.out nq) hb7)
        go_wp2_with fail
        go_ret
        exact ⟨rfl, HB7.out⟩
      · have hpq' : ((p : Int) == (q : Int)) = false := by simp; omega
        have hpq2 : ¬ ((p : Int) = (q : Int)) := by omega
        by_cases hlt : p < q
        · have d4 : decide ((p : Int) < (q : Int)) = true := by simp; omega
          have hmin : min (p : Int) (q : Int) = (p : Int) := by omega
          obtain ⟨b, o, cz, e, e1, e2, e3, e4⟩ := HY6.out.open1 (by rw [HQ.out]; omega)
          simp only [Value.slice.injEq] at e
          obtain ⟨rfl, h9, rfl⟩ := e
          clear h9
          obtain ⟨z, HZ⟩ : ∃ z, Hid (Y.getD p ⟨#[]⟩ = z) := ⟨_, Lib.hid rfl⟩
          have hz6 := e4 p (by rw [HQ.out]; omega)
          rw [HZ.out] at hz6
          have hzs : z.size ≤ 100000000 := HYs.out z (by rw [← HZ.out, List.getD_eq_getElem?_getD, List.getElem?_eq_getElem (by rw [HQ.out]; omega)]; exact List.getElem_mem _)
          have HK := Lib.hid (fun (w' : World) (hw : Below w6.heap.size w6 w') => (⟨(hw.cell (p := ⟨b, o + p, none⟩) e3).trans hz6, hw⟩ : w'.cell? ⟨b, o + p, none⟩ = some (.string z) ∧ Below w6.heap.size w6 w'))
          obtain ⟨fz, HFz⟩ : ∃ y, Hid (dg.f z = y) := ⟨_, Lib.hid rfl⟩
          have HC11 := Lib.hid (fun (w' : World) (hw : Below w6.heap.size w6 w') => sum_c z w' (by omega) ((HT.out.below HB6.out).below hw))
          rw [HFz.out] at HC11
          have HCol := Lib.hid (fun (w' : World) (hw : Below w6.heap.size w6 w') => collide_c X Y _ _ w' (HX6.out.below hw) (HY6.out.below hw) HXs.out HYs.out ((HT.out.below HB6.out).below hw))
          have HOr : Hid (Coll X Y ∨ fz = z32) := Lib.hid (HBi'.out.imp id (fun h => by
            have h2 := h.2
            rw [HP.out, HQ.out, if_pos hlt, show min p q = p from by omega, HZ.out, HFz.out] at h2
            exact h2))
          have hil : (p : Int) < (q : Int) := by omega
          have hi0 : 0 ≤ (p : Int) := by omega
          clear e4 HZ HFz hz6 HBi'
          have hpq3 : ((p : Int) != (q : Int)) = true := by simp; omega
          by_cases hfz : fz = z32
          · have d6 := str_eq hfz
            clear hfz
            go_wp2_with fail
            go_region_held_law (fun w' => w'.cell? ⟨b, o + p, none⟩ = some (.string z) ∧ Below w6.heap.size w6 w')
              (first | assumption | exact HK.out _ (Below.refl _ _).drew | exact HK.out _ (bt (Below.refl _ _).drew (by assumption)) | exact HK.out _ (bt (And.right (by assumption)) (by assumption)))
              (first | (refine wp_zero32 (by rfl) ?_; intro gz wz hgz hbz) | (go_at_call_of 11 (Value.string z); refine (HC11.out _ (by first | exact (Below.refl _ _).drew | exact And.right (by assumption) | exact bt (Below.refl _ _).drew (by assumption))).mono ?_; rintro e1 w9 ⟨rfl, hb9⟩; first | (replace hgz := heap_keep hgz hb9) | skip))
            all_goals
              go_wp2_with fail
              refine (HCol.out _ (And.right (by assumption))).mono ?_
              rintro e w7 ⟨b, rfl, hb, hb7⟩
              have HB7 := Lib.hid (bt HB6.out (bt (And.right (by assumption)) hb7))
              clear hb7
              cases b
              all_goals
                go_wp2_with fail
                go_ret
                exact ⟨rfl, HB7.out⟩
          · have d6 := str_ne hfz
            have HCo := Lib.hid (HOr.out.resolve_right hfz)
            go_wp2_with fail
            go_region_held_law (fun w' => w'.cell? ⟨b, o + p, none⟩ = some (.string z) ∧ Below w6.heap.size w6 w')
              (first | assumption | exact HK.out _ (Below.refl _ _).drew | exact HK.out _ (bt (Below.refl _ _).drew (by assumption)) | exact HK.out _ (bt (And.right (by assumption)) (by assumption)))
              (first | (refine wp_zero32 (by rfl) ?_; intro gz wz hgz hbz) | (go_at_call_of 11 (Value.string z); refine (HC11.out _ (by first | exact (Below.refl _ _).drew | exact And.right (by assumption) | exact bt (Below.refl _ _).drew (by assumption))).mono ?_; rintro e1 w9 ⟨rfl, hb9⟩; first | (replace hgz := heap_keep hgz hb9) | skip))
            all_goals
              go_wp2_with fail
              refine (HCol.out _ (And.right (by assumption))).mono ?_
              rintro e w7 ⟨b, rfl, hb, hb7⟩
              obtain rfl := hb HCo.out
              have HB7 := Lib.hid (bt HB6.out (bt (And.right (by assumption)) hb7))
              clear hb7
              go_wp2_with fail
              go_ret
              exact ⟨rfl, HB7.out⟩
        · have d4 : decide ((p : Int) < (q : Int)) = false := by simp; omega
          have hmin : min (p : Int) (q : Int) = (q : Int) := by omega
          obtain ⟨b, o, cz, e, e1, e2, e3, e4⟩ := HX6.out.open1 (by rw [HP.out]; omega)
          simp only [Value.slice.injEq] at e
          obtain ⟨rfl, h9, rfl⟩ := e
          clear h9
          obtain ⟨z, HZ⟩ : ∃ z, Hid (X.getD q ⟨#[]⟩ = z) := ⟨_, Lib.hid rfl⟩
          have hz6 := e4 q (by rw [HP.out]; omega)
          rw [HZ.out] at hz6
          have hzs : z.size ≤ 100000000 := HXs.out z (by rw [← HZ.out, List.getD_eq_getElem?_getD, List.getElem?_eq_getElem (by rw [HP.out]; omega)]; exact List.getElem_mem _)
          have HK := Lib.hid (fun (w' : World) (hw : Below w6.heap.size w6 w') => (⟨(hw.cell (p := ⟨b, o + q, none⟩) e3).trans hz6, hw⟩ : w'.cell? ⟨b, o + q, none⟩ = some (.string z) ∧ Below w6.heap.size w6 w'))
          obtain ⟨fz, HFz⟩ : ∃ y, Hid (dg.f z = y) := ⟨_, Lib.hid rfl⟩
          have HC11 := Lib.hid (fun (w' : World) (hw : Below w6.heap.size w6 w') => sum_c z w' (by omega) ((HT.out.below HB6.out).below hw))
          rw [HFz.out] at HC11
          have HCol := Lib.hid (fun (w' : World) (hw : Below w6.heap.size w6 w') => collide_c X Y _ _ w' (HX6.out.below hw) (HY6.out.below hw) HXs.out HYs.out ((HT.out.below HB6.out).below hw))
          have HOr : Hid (Coll X Y ∨ fz = z32) := Lib.hid (HBi'.out.imp id (fun h => by
            have h2 := h.2
            rw [HP.out, HQ.out, if_neg hlt, show min p q = q from by omega, HZ.out, HFz.out] at h2
            exact h2))
          have hil : (q : Int) < (p : Int) := by omega
          have hi0 : 0 ≤ (q : Int) := by omega
          clear e4 HZ HFz hz6 HBi'
          have hpq3 : ((p : Int) != (q : Int)) = true := by simp; omega
          by_cases hfz : fz = z32
          · have d6 := str_eq hfz
            clear hfz
            go_wp2_with fail
            go_region_held_law (fun w' => w'.cell? ⟨b, o + q, none⟩ = some (.string z) ∧ Below w6.heap.size w6 w')
              (first | assumption | exact HK.out _ (Below.refl _ _).drew | exact HK.out _ (bt (Below.refl _ _).drew (by assumption)) | exact HK.out _ (bt (And.right (by assumption)) (by assumption)))
              (first | (refine wp_zero32 (by rfl) ?_; intro gz wz hgz hbz) | (go_at_call_of 11 (Value.string z); refine (HC11.out _ (by first | exact (Below.refl _ _).drew | exact And.right (by assumption) | exact bt (Below.refl _ _).drew (by assumption))).mono ?_; rintro e1 w9 ⟨rfl, hb9⟩; first | (replace hgz := heap_keep hgz hb9) | skip))
            all_goals
              go_wp2_with fail
              refine (HCol.out _ (And.right (by assumption))).mono ?_
              rintro e w7 ⟨b, rfl, hb, hb7⟩
              have HB7 := Lib.hid (bt HB6.out (bt (And.right (by assumption)) hb7))
              clear hb7
              cases b
              all_goals
                go_wp2_with fail
                go_ret
                exact ⟨rfl, HB7.out⟩
          · have d6 := str_ne hfz
            have HCo := Lib.hid (HOr.out.resolve_right hfz)
            go_wp2_with fail
            go_region_held_law (fun w' => w'.cell? ⟨b, o + q, none⟩ = some (.string z) ∧ Below w6.heap.size w6 w')
              (first | assumption | exact HK.out _ (Below.refl _ _).drew | exact HK.out _ (bt (Below.refl _ _).drew (by assumption)) | exact HK.out _ (bt (And.right (by assumption)) (by assumption)))
              (first | (refine wp_zero32 (by rfl) ?_; intro gz wz hgz hbz) | (go_at_call_of 11 (Value.string z); refine (HC11.out _ (by first | exact (Below.refl _ _).drew | exact And.right (by assumption) | exact bt (Below.refl _ _).drew (by assumption))).mono ?_; rintro e1 w9 ⟨rfl, hb9⟩; first | (replace hgz := heap_keep hgz hb9) | skip))
            all_goals
              go_wp2_with fail
              refine (HCol.out _ (And.right (by assumption))).mono ?_
              rintro e w7 ⟨b, rfl, hb, hb7⟩
              obtain rfl := hb HCo.out
              have HB7 := Lib.hid (bt HB6.out (bt (And.right (by assumption)) hb7))
              clear hb7
              go_wp2_with fail
              go_ret
              exact ⟨rfl, HB7.out⟩
    · have d3 := str_ne hxy
      clear hxy hFG
      go_wp2_with fail
      go_ret
      exact ⟨rfl, HB6.out⟩
end Go.Proofs.YtkmiodlehmocnaaDoor
