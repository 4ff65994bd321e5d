/- QI, QJ, LG, LH -/
import Derived.Test.YtgbnjjgnihjfgaaGreatProg
import Derived.WalkKit
import Derived.Below
import Derived.Lib.Hide
import Derived.Laws.StructEq
import Derived.Lib.QuietBelow
import Derived.Deep.RegionHeld3
import Derived.Deep.RegionWith
import Derived.IntWalk
import Derived.BigQuiet
import Derived.Maps.RangeWalk
import Derived.DeepKeys4
import Derived.OneCell
import Derived.StillTail
import Derived.Deep.CutRange
import Derived.Outline
import Derived.WalkSpells
import Derived.Carry
import Derived.Shelf.SlGeneric
import Derived.Shelf.SlSortCmp.WholeK
import Derived.Shelf.SlicesG.Cmp
import Derived.Ground.SlsfProg
import Derived.Ground.SlgcProg
import Derived.Sort.OwnSorted
import Derived.Deep.AppendLies
import Derived.Shelf.SlSortCmp.NoneTotal
import Derived.Deep.QuietTactic
import Derived.Laws.AppendOwnNone
import Derived.Laws.EntriesVeiled
import Derived.Lib.SliceRun
import Derived.Deep.Cut
import Derived.Laws.ResultCell
import Derived.ArgAppend
import Derived.Laws.Rows
import Derived.Great.BuildSlice
import Derived.Great.Frames
import Derived.Deep.DeepCutAuto
import Derived.Lib.AppendZeros
import Derived.Lib.Overlaps
import Derived.Laws.CopyRow
import Derived.Laws.AppendOwn
import Derived.Laws.Externs
import Derived.Deep.RegionLawGrows
import Derived.Test.YtgbnjjgnihjfgaaGreatBAG
import Derived.Test.YtgbnjjgnihjfgaaGreatBAM
import Derived.Test.YtgbnjjgnihjfgaaGreatBAJ
import Derived.Test.YtgbnjjgnihjfgaaGreatBAQ
import Derived.Test.YtgbnjjgnihjfgaaGreatBAO
import Derived.Test.YtgbnjjgnihjfgaaGreatBAP
import Derived.Test.YtgbnjjgnihjfgaaGreatBAL
import Derived.Test.YtgbnjjgnihjfgaaGreatBAA
import Derived.Test.YtgbnjjgnihjfgaaGreatBAI
import Derived.Test.YtgbnjjgnihjfgaaGreatBAK
import Derived.Test.YtgbnjjgnihjfgaaGreatBAD
import Derived.Test.YtgbnjjgnihjfgaaGreatBAN
import Derived.Test.YtgbnjjgnihjfgaaGreatBAH
import Derived.Test.YtgbnjjgnihjfgaaGreatBAB
import Derived.Test.YtgbnjjgnihjfgaaGreatBAE
import Derived.Test.YtgbnjjgnihjfgaaGreatBAC
import Derived.Test.YtgbnjjgnihjfgaaGreatBAF
section
set_option linter.unusedVariables false
set_option linter.unusedSimpArgs false
namespace Go.Proofs.YtgbnjjgnihjfgaaGreat
open Go.RowKit Go.Sort Go.ChangeMaps Go.MapKept

set_option maxRecDepth 100000 in
set_option maxHeartbeats 4000000 in
theorem patchJoin_same {q : MQ} {c : MCh} {rb base : Nat} {W : World} (he : q.table = q.other) : Calls Tryz.prog 123 #[ptr rb, .agg (effC q c)] W (PatchOut W rb base none) := by
  have HE : Hid (EffAt (W.alloc (.cells (effC q c) 97)) W.heap.size q c) := Lib.hid (EffAt.new W q c)
  have HB : Hid (Below W.heap.size W (W.alloc (.cells (effC q c) 97))) := Lib.hid (ba W _)
  unfold EffAt at HE
  have HA : Hid ((effC q c)[1]? = some (.int .i64 q.table) ∧ (effC q c)[6]? = some (.int .i64 q.other)) := Lib.hid ⟨rfl, rfl⟩
  generalize q.table = qt at *
  generalize q.other = qo at *
  generalize effC q c = E at *
  have d1 : (qt == qo) = true := by simp [he]
  clear he
  unfold ptr
  go_enter Tryz.func123, Tryz.ntmps123
  go_upto_region 1 with fail
  generalize W.alloc (.cells E 97) = w0 at *
  have c1 : w0.cell? ⟨W.heap.size, 1, none⟩ = some (.int .i64 qt) := by simp [World.cell?, HE.out, HA.out]
  have c6 : w0.cell? ⟨W.heap.size, 6, none⟩ = some (.int .i64 qo) := by simp [World.cell?, HE.out, HA.out]
  go_wp2_with fail
  go_ret
  exact ⟨rfl, fun r' h => (by cases h), Kept.of_below HB.out⟩
/-- **patch, of whatever kind.** -/
theorem patch_any {q : MQ} {c : MCh} {r : MRes} {u : Value} {W : World} {base : Nat} (hv : validB q = true) (hO : OwnR W base u r.rows) (hb : base ≤ W.heap.size) (hl : r.rows.length ≤ 39999) : Calls Tryz.prog 47 #[qV q, .agg (resC u r.val r.fnd), chV c] W (PatchRes W base (patchM q r c)) := by
  have hk := valid_ok hv
  have hq : I64 q.column := hk.1.2.2.1
  have hlk : ∀ (k : Int) (v : Value), q.kind = k → lookG patchersL k = some v → lookG patchersL q.kind = some v := fun k v h h' => by rw [h]; exact h'
  unfold patchM
  obtain h | h | h | h | h | h | h : q.kind = 1 ∨ q.kind = 2 ∨ q.kind = 3 ∨ q.kind = 4 ∨ q.kind = 5 ∨ q.kind = 6 ∨ q.kind = 7 := by have := hk.2; omega
  · rw [if_pos (by omega)]
    exact patch_at hv hO hb (enters_of Tryz.func116 (by kernel_rfl) rfl) (hlk _ _ h rfl) (fun w rb hR hb' => patchRows_any hR hl hb' hq)
  · rw [if_pos (by omega)]
    exact patch_at hv hO hb (enters_of Tryz.func116 (by kernel_rfl) rfl) (hlk _ _ h rfl) (fun w rb hR hb' => patchRows_any hR hl hb' hq)
  · rw [if_neg (by omega), if_pos (by omega)]
    exact patch_at hv hO hb (enters_of Tryz.func117 (by kernel_rfl) rfl) (hlk _ _ h rfl) (fun w rb hR hb' => patchCount_any hR)
  · rw [if_neg (by omega), if_neg (by omega), if_pos (by omega)]
    exact patch_at hv hO hb (enters_of Tryz.func118 (by kernel_rfl) rfl) (hlk _ _ h rfl) (fun w rb hR hb' => patchSum_any hR)
  · rw [if_neg (by omega), if_neg (by omega), if_neg (by omega), if_pos (by omega)]
    exact patch_at hv hO hb (enters_of Tryz.func119 (by kernel_rfl) rfl) (hlk _ _ h rfl) (fun w rb hR hb' => patchMin_any hR)
  · rw [if_neg (by omega), if_neg (by omega), if_neg (by omega), if_neg (by omega), if_pos (by omega)]
    exact patch_at hv hO hb (enters_of Tryz.func121 (by kernel_rfl) rfl) (hlk _ _ h rfl) (fun w rb hR hb' => patchMax_any hR)
  · rw [if_neg (by omega), if_neg (by omega), if_neg (by omega), if_neg (by omega), if_neg (by omega)]
    by_cases he : q.table = q.other
    · rw [if_pos he]
      exact patch_at hv hO hb (enters_of Tryz.func123 (by kernel_rfl) rfl) (hlk _ _ h rfl) (fun w rb hR hb' => patchJoin_same he)
    · rw [if_neg he]
      by_cases hc : c.t = q.other
      · rw [if_pos hc]
        exact patch_at hv hO hb (enters_of Tryz.func123 (by kernel_rfl) rfl) (hlk _ _ h rfl) (fun w rb hR hb' => patchJoin_right hR hb' hq hl he hc)
      · rw [if_neg hc]
        exact patch_at hv hO hb (enters_of Tryz.func123 (by kernel_rfl) rfl) (hlk _ _ h rfl) (fun w rb hR hb' => patchJoin_left hR hb' hq hl he hc)
/-- What Patch makes of a result. -/
def patchF (q : MQ) (r : MRes) (c : MCh) : Option MRes := if touchB q c then patchM q r c else some r
theorem touch_valid {q : MQ} {c : MCh} (h : touchB q c = true) : validB q = true := by
  unfold touchB at h
  cases hv : validB q
  · rw [hv] at h
    simp at h
  · rfl
set_option maxRecDepth 100000 in
set_option maxHeartbeats 8000000 in
/-- **Patch.** -/
theorem Patch_any {q : MQ} {c : MCh} {r : MRes} {u : Value} {W : World} (hR : RowS W u r.rows) (hl : r.rows.length ≤ 39999) : Calls Tryz.prog 22 #[qV q, .agg (resC u r.val r.fnd), chV c] W (PatchRes W W.heap.size (patchF q r c)) := by
  have HT := Lib.hid (fun w => touches_any q c w)
  have HP := Lib.hid (fun (ht : touchB q c = true) (w : World) (base : Nat) (v : Value) (h : OwnR w base v r.rows) (h2 : base ≤ w.heap.size) => patch_any (c := c) (touch_valid ht) h h2 hl)
  have HL : Hid (r.rows.length ≤ 39999) := Lib.hid hl
  have HR := Lib.hid hR
  have HPF : Hid (patchF q r c = if touchB q c then patchM q r c else some r) := Lib.hid rfl
  obtain ⟨RF, HRF⟩ : ∃ RF, Hid (patchF q r c = RF) := ⟨_, Lib.hid rfl⟩
  rw [HRF.out] at HPF ⊢
  obtain ⟨RM, HRM⟩ : ∃ RM, Hid (patchM q r c = RM) := ⟨_, Lib.hid rfl⟩
  rw [HRM.out] at HPF HP
  obtain ⟨tb, HTB⟩ : ∃ tb, Hid (touchB q c = tb) := ⟨_, Lib.hid rfl⟩
  rw [HTB.out] at HPF HP HT
  obtain ⟨ua, un, uc, rfl, -⟩ := id hR
  clear hR hl HRF HRM HTB
  obtain ⟨rows, val, fnd⟩ := r
  simp only at HL HR HP
  obtain ⟨t, k, had, ⟨oa, ob, oc⟩, has, ⟨na, nb, nc⟩⟩ := c
  obtain ⟨qk, qt, qc, ql, qh, qy, qo⟩ := q
  unfold qV chV at *
  simp only at *
  go_enter Tryz.func22, Tryz.ntmps22
  go_upto_region 1 with fail
  obtain ⟨w0, Hw0⟩ : ∃ w0, Hid ((((W.alloc (.cells #[.int .i64 qk, .int .i64 qt, .int .i64 qc, .int .i64 ql, .int .i64 qh, .int .i64 qy, .int .i64 qo] 28)).alloc (.cells #[.slice ua un uc, .int .i64 val, .bool fnd] 34)).alloc (.cells #[.int .i64 t, .int .i64 k, .bool had, .int .i64 oa, .int .i64 ob, .int .i64 oc, .bool has, .int .i64 na, .int .i64 nb, .int .i64 nc] 45)).alloc (.cells #[.slice none 0 0, .int .i64 0, .bool false] 34) = w0) := ⟨_, Lib.hid rfl⟩
  obtain ⟨hB0, hQ0, hR0, hC0, hZ0⟩ := four W (.cells #[.int .i64 qk, .int .i64 qt, .int .i64 qc, .int .i64 ql, .int .i64 qh, .int .i64 qy, .int .i64 qo] 28) (.cells #[.slice ua un uc, .int .i64 val, .bool fnd] 34) (.cells #[.int .i64 t, .int .i64 k, .bool had, .int .i64 oa, .int .i64 ob, .int .i64 oc, .bool has, .int .i64 na, .int .i64 nb, .int .i64 nc] 45) (.cells #[.slice none 0 0, .int .i64 0, .bool false] 34)
  rw [Hw0.out] at hB0 hQ0 hR0 hC0 hZ0 ⊢
  clear Hw0
  have HB0 := Lib.hid hB0
  have HQ0 := Lib.hid hQ0
  have HR0 := Lib.hid hR0
  have HC0 := Lib.hid hC0
  have HZ0 := Lib.hid hZ0
  have HCl := Lib.hid (clone_rows (HR.out.below hB0) (by have := HL.out; omega))
  clear hB0 hQ0 hR0 hC0 hZ0
  have r0 : w0.cell? ⟨W.heap.size + 1, 0, none⟩ = some (.slice ua un uc) := by simp [World.cell?, HR0.out]
  go_wp2_with fail
  (with_reducible refine HCl.out.mono ?_)
  rintro e w1 ⟨v1, rfl, hO1, hb1⟩
  obtain ⟨va, vn, vcap, rfl⟩ := hO1.form
  have HQ1 := Lib.hid ((hb1.block _ (lt_of_block HQ0.out)).trans HQ0.out)
  have HR1 := Lib.hid ((hb1.block _ (lt_of_block HR0.out)).trans HR0.out)
  have HC1 := Lib.hid ((hb1.block _ (lt_of_block HC0.out)).trans HC0.out)
  have HZ1 := Lib.hid ((hb1.block _ (lt_of_block HZ0.out)).trans HZ0.out)
  have HB1 := Lib.hid (bt HB0.out hb1)
  have HO1 := Lib.hid hO1
  have hz0 : W.heap.size ≤ w0.heap.size := HB0.out.size
  have hz1 : w0.heap.size ≤ w1.heap.size := hb1.size
  clear hO1 hb1 r0 HCl HR HQ0 HR0 HC0 HZ0
  have r0 : w1.cell? ⟨W.heap.size + 1, 0, none⟩ = some (.slice ua un uc) := by simp [World.cell?, HR1.out]
  have rf : w1.frozen? ⟨W.heap.size + 1, 0, none⟩ = false := by simp [World.frozen?, HR1.out]
  go_upto_region 2 with fail
  generalize hw2 : w1.setCell ⟨W.heap.size + 1, 0, none⟩ (.slice va vn vcap) = w2
  have HQ2 : Hid (w2.heap[W.heap.size]? = some (.cells #[.int .i64 qk, .int .i64 qt, .int .i64 qc, .int .i64 ql, .int .i64 qh, .int .i64 qy, .int .i64 qo] 28 (0, 0))) := Lib.hid (by rw [← hw2, Below.heap_setCell _ _ _ _ (by show ¬ W.heap.size = W.heap.size + 1; omega)]; exact HQ1.out)
  have HC2 : Hid (w2.heap[W.heap.size + 1 + 1]? = some (.cells #[.int .i64 t, .int .i64 k, .bool had, .int .i64 oa, .int .i64 ob, .int .i64 oc, .bool has, .int .i64 na, .int .i64 nb, .int .i64 nc] 45 (0, 0))) := Lib.hid (by rw [← hw2, Below.heap_setCell _ _ _ _ (by show ¬ W.heap.size + 1 + 1 = W.heap.size + 1; omega)]; exact HC1.out)
  have HZ2 : Hid (w2.heap[W.heap.size + 1 + 1 + 1]? = some (.cells #[.slice none 0 0, .int .i64 0, .bool false] 34 (0, 0))) := Lib.hid (by rw [← hw2, Below.heap_setCell _ _ _ _ (by show ¬ W.heap.size + 1 + 1 + 1 = W.heap.size + 1; omega)]; exact HZ1.out)
  have HR2 : Hid (w2.heap[W.heap.size + 1]? = some (.cells #[.slice va vn vcap, .int .i64 val, .bool fnd] 34 (0, 0))) := Lib.hid (by rw [← hw2]; exact setC_heap HR1.out 0 _)
  have HO2 : Hid (OwnR w2 w0.heap.size (.slice va vn vcap) rows) := Lib.hid (by rw [← hw2]; exact own_setc HO1.out HR1.out)
  have HB2 : Hid (Below W.heap.size W w2) := Lib.hid (by
    have h := (Kept.setCell (F := fun i => i = W.heap.size + 1) (p := ⟨W.heap.size + 1, 0, none⟩) (Kept.of_below HB1.out) (.inl rfl) (.slice va vn vcap)).below (Nat.le_refl _) (fun k e => by omega)
    rw [hw2] at h
    exact h)
  have hz2 : w0.heap.size ≤ w2.heap.size := by
    rw [← hw2]
    simpa using hz1
  clear hw2 r0 rf HQ1 HR1 HC1 HZ1 HB1 HO1 hz1
  have HT2 := Lib.hid (HT.out w2)
  clear HT
  go_wp2_with (first
    | refine wpList_load_row rfl 28 _ rfl W.heap.size rfl 28 _ _ _ HQ2.out Tryz.underlying28 rfl (by kernel_rfl) ?_
    | refine wpList_load_row rfl 45 _ rfl (W.heap.size + 1 + 1) rfl 45 _ _ _ HC2.out Tryz.underlying45 rfl (by kernel_rfl) ?_)
  (with_reducible refine HT2.out.mono ?_)
  rintro e w3 ⟨rfl, hb3⟩
  have HQ3 := Lib.hid ((hb3.block _ (lt_of_block HQ2.out)).trans HQ2.out)
  have HR3 := Lib.hid ((hb3.block _ (lt_of_block HR2.out)).trans HR2.out)
  have HC3 := Lib.hid ((hb3.block _ (lt_of_block HC2.out)).trans HC2.out)
  have HZ3 := Lib.hid ((hb3.block _ (lt_of_block HZ2.out)).trans HZ2.out)
  have HB3 := Lib.hid (bt HB2.out hb3)
  have HO3 := Lib.hid (HO2.out.below hb3)
  have hz3 : w0.heap.size ≤ w3.heap.size := Nat.le_trans hz2 hb3.size
  clear hb3 HT2 HQ2 HR2 HC2 HZ2 HB2 HO2 hz2
  cases tb
  · have HPG : Hid (RF = some ⟨rows, val, fnd⟩) := Lib.hid (by have h := HPF.out; simpa using h)
    clear HPF HP
    go_wp2_with (first
      | refine wpList_load_row rfl 34 _ rfl (W.heap.size + 1) rfl 34 #[.slice va vn vcap, .int .i64 val, .bool fnd] _ _ HR3.out Tryz.underlying34 rfl (by kernel_rfl) ?_
      | refine wpList_store_row rfl 34 _ _ rfl (W.heap.size + 1 + 1 + 1) #[.slice va vn vcap, .int .i64 val, .bool fnd] rfl rfl 34 _ HZ3.out (by kernel_rfl) rfl (by simp [Value.oneCell']) ?_)
    generalize hw6 : w3.setRow _ _ = w6
    have HZ6 : Hid (w6.heap[W.heap.size + 1 + 1 + 1]? = some (.cells #[.slice va vn vcap, .int .i64 val, .bool fnd] 34 (0, 0))) := Lib.hid (by rw [← hw6]; exact setRow_heap _ _ _ _ _ _ HZ3.out)
    have HB6 : Hid (Below W.heap.size W w6) := Lib.hid (by rw [← hw6]; exact below_row HB3.out (by omega) _)
    have HO6 : Hid (OwnR w6 W.heap.size (.slice va vn vcap) rows) := Lib.hid (by
      rw [← hw6]
      exact (HO3.out.mono (by omega)).kept' (F := fun k => k = W.heap.size + 1 + 1 + 1) (kept_row (F := fun k => k = W.heap.size + 1 + 1 + 1) (Kept.of_below (Below.refl _ _)) (.inl rfl) _) (fun i hi e => own_ne HO3.out HZ3.out (by decide) i hi e))
    refine bodyPost_ret (v := .tuple #[.agg #[.slice va vn vcap, .int .i64 val, .bool fnd], .bool true]) (by simp [results, Tryz.results22, go_sem, World.cell?, HZ6.out]) rfl ?_
    rw [HPG.out]
    exact ⟨_, rfl, HO6.out, HB6.out⟩
  · have HPG : Hid (RF = RM) := Lib.hid (by have h := HPF.out; simpa using h)
    have HP3 := Lib.hid (HP.out rfl w3 _ _ HO3.out hz3)
    clear HPF HP
    go_wp2_with (first
      | refine wpList_load_row rfl 28 _ rfl W.heap.size rfl 28 _ _ _ HQ3.out Tryz.underlying28 rfl (by kernel_rfl) ?_
      | refine wpList_load_row rfl 34 _ rfl (W.heap.size + 1) rfl 34 _ _ _ HR3.out Tryz.underlying34 rfl (by kernel_rfl) ?_
      | refine wpList_load_row rfl 45 _ rfl (W.heap.size + 1 + 1) rfl 45 _ _ _ HC3.out Tryz.underlying45 rfl (by kernel_rfl) ?_)
    (with_reducible refine HP3.out.mono ?_)
    rintro e w4 ⟨u4, rfl, hO4, hb4⟩
    have HZ4 := Lib.hid ((hb4.block _ (lt_of_block HZ3.out)).trans HZ3.out)
    have HB4 := Lib.hid (bt HB3.out hb4)
    obtain ⟨ya, yn, yc, rfl⟩ := hO4.form
    have HO4 := Lib.hid hO4
    obtain ⟨⟨rows', val', fnd'⟩, HRd⟩ : ∃ x, Hid (RM.getD resZ = x) := ⟨_, Lib.hid rfl⟩
    have hv : (RM.getD resZ).val = val' := by rw [HRd.out]
    have hf : (RM.getD resZ).fnd = fnd' := by rw [HRd.out]
    rw [HRd.out] at HO4
    simp only [hv, hf] at HO4 ⊢
    obtain ⟨bb, HBB⟩ : ∃ bb, Hid (RM.isSome = bb) := ⟨_, Lib.hid rfl⟩
    rw [HBB.out]
    clear hb4 hO4 HP3 hv hf
    go_wp2_with (refine wpList_store_row rfl 34 _ _ rfl (W.heap.size + 1 + 1 + 1) #[.slice ya yn yc, .int .i64 val', .bool fnd'] rfl rfl 34 _ HZ4.out (by kernel_rfl) rfl (by simp [Value.oneCell']) ?_)
    generalize hw6 : w4.setRow _ _ = w6
    have HZ6 : Hid (w6.heap[W.heap.size + 1 + 1 + 1]? = some (.cells #[.slice ya yn yc, .int .i64 val', .bool fnd'] 34 (0, 0))) := Lib.hid (by rw [← hw6]; exact setRow_heap _ _ _ _ _ _ HZ4.out)
    have HB6 : Hid (Below W.heap.size W w6) := Lib.hid (by rw [← hw6]; exact below_row HB4.out (by omega) _)
    have HO6 : Hid (OwnR w6 W.heap.size (.slice ya yn yc) rows') := Lib.hid (by
      rw [← hw6]
      exact (HO4.out.mono (by omega)).kept' (F := fun k => k = W.heap.size + 1 + 1 + 1) (kept_row (F := fun k => k = W.heap.size + 1 + 1 + 1) (Kept.of_below (Below.refl _ _)) (.inl rfl) _) (fun i hi e => own_ne HO4.out HZ4.out (by decide) i hi e))
    refine bodyPost_ret (v := .tuple #[.agg #[.slice ya yn yc, .int .i64 val', .bool fnd'], .bool bb]) (by simp [results, Tryz.results22, go_sem, World.cell?, HZ6.out]) rfl ?_
    rw [HPG.out]
    exact ⟨_, by rw [HRd.out, HBB.out], by rw [HRd.out]; exact HO6.out, HB6.out⟩
end Go.Proofs.YtgbnjjgnihjfgaaGreat
end

section
set_option linter.unusedVariables false
set_option linter.unusedSimpArgs false
namespace Go.Proofs.YtgbnjjgnihjfgaaGreat
open Go.RowKit Go.Sort Go.ChangeMaps Go.MapKept

theorem prs_half : ∀ l : List MRow, 2 * (prs l).length ≤ l.length
  | [] => by simp [prs]
  | [x] => by simp [prs]
  | x :: y :: l => by
    have := prs_half l
    simp only [prs, List.length_cons]
    omega
theorem rowsP_len (q : MQ) (l : List MRow) (c : MCh) : (rowsP q l c).length ≤ l.length + 1 := by
  have hf : ∀ p : MRow → Bool, (l.filter p).length ≤ l.length := fun p => List.length_filter_le p l
  unfold rowsP
  split
  · rw [(ins_perm _ _ _).length_eq, List.length_cons]
    exact Nat.succ_le_succ (hf _)
  · exact Nat.le_trans (hf _) (by omega)
theorem leftP_len {q : MQ} {ps s : List PR} {c : MCh} (hp : leftP q ps c = some s) : s.length ≤ ps.length + 1 := by
  unfold leftP at hp
  have hf : ∀ p : PR → Bool, (ps.filter p).length ≤ ps.length := fun p => List.length_filter_le p ps
  split at hp
  · cases hp
    exact Nat.le_trans (hf _) (by omega)
  · split at hp
    · split at hp
      · cases hp
        exact Nat.le_trans (hf _) (by omega)
      · cases hp
    · cases hp
      refine Nat.le_trans (Nat.le_of_eq (ins_perm _ _ _).length_eq) ?_
      rw [List.length_cons]
      exact Nat.succ_le_succ (hf _)
theorem rightP_len {ps s : List PR} {c : MCh} (hp : rightP ps c = some s) : s.length ≤ ps.length := by
  unfold rightP at hp
  have hf : ∀ p : PR → Bool, (ps.filter p).length ≤ ps.length := fun p => List.length_filter_le p ps
  split at hp
  · cases hp
  · split at hp
    · cases hp
      exact hf _
    · cases hp
      rw [List.length_map]
      exact Nat.le_refl _
theorem patchM_len {q : MQ} {r r' : MRes} {c : MCh} (h : patchM q r c = some r') : r'.rows.length ≤ r.rows.length + 2 := by
  unfold patchM at h
  have hr := rowsP_len q r.rows c
  have hh := prs_half r.rows
  split at h
  · cases h
    simp only
    omega
  · split at h
    · cases h
      simp only
      omega
    · split at h
      · cases h
        simp only
        omega
      · split at h
        · obtain ⟨s, _, rfl⟩ := Option.map_eq_some_iff.1 h
          simp only
          omega
        · split at h
          · obtain ⟨s, _, rfl⟩ := Option.map_eq_some_iff.1 h
            simp only
            omega
          · split at h
            · cases h
            · obtain ⟨s, hs, rfl⟩ := Option.map_eq_some_iff.1 h
              simp only
              rw [unprs_len]
              split at hs
              · have := rightP_len hs
                omega
              · have := leftP_len hs
                omega
/-- What Apply returns. -/
def AppRes (W : World) (s : Option MRes × Bool) (e : Ending) (w' : World) : Prop := ∃ u, e = .returned (.tuple #[.agg (resC u (s.1.getD resZ).val (s.1.getD resZ).fnd), .bool s.2, .bool s.1.isSome]) ∧ OwnR w' W.heap.size u (s.1.getD resZ).rows ∧ Below W.heap.size W w'
theorem fold_none (q : MQ) (l : List MCh) (t : Bool) : l.foldl (applyF q) (none, t) = (none, t) := applyF_none q t l
theorem fold_at {q : MQ} {cs : List MCh} {s : Option MRes × Bool} {k : Nat} (hk : k < cs.length) : (cs.take (k + 1)).foldl (applyF q) s = applyF q ((cs.take k).foldl (applyF q) s) (cs.getD k chZ) := by
  rw [take_snoc' (d := chZ) hk, List.foldl_append]
  rfl
theorem fold_end {q : MQ} {cs : List MCh} {s : Option MRes × Bool} {k : Nat} {t : Bool} (h : (cs.take k).foldl (applyF q) s = (none, t)) : cs.foldl (applyF q) s = (none, t) := by
  conv => lhs; rw [← List.take_append_drop k cs]
  rw [List.foldl_append, h, fold_none]
set_option maxRecDepth 100000 in
set_option maxHeartbeats 8000000 in
/-- **Apply.** -/
theorem Apply_any {q : MQ} {cs : List MCh} {r : MRes} {u cv : Value} {pos : Int} {W : World} (hR : RowS W u r.rows) (hl : r.rows.length + 2 * cs.length ≤ 39999) (hC : ChS W cv cs) : Calls Tryz.prog 18 #[qV q, .agg (resC u r.val r.fnd), .agg #[.int .i64 pos, cv]] W (AppRes W (applyM q r cs)) := by
  have HT := Lib.hid (fun c w => touches_any q c w)
  have HP := Lib.hid (fun (c : MCh) (r : MRes) (ht : touchB q c = true) (w : World) (base : Nat) (v : Value) (h : OwnR w base v r.rows) (h2 : base ≤ w.heap.size) (hl : r.rows.length ≤ 39999) => patch_any (c := c) (touch_valid ht) h h2 hl)
  have HL : Hid (r.rows.length + 2 * cs.length ≤ 39999) := Lib.hid hl
  have HR := Lib.hid hR
  have HCs := Lib.hid hC
  obtain ⟨SF, HSF⟩ : ∃ SF, Hid (applyM q r cs = SF) := ⟨_, Lib.hid rfl⟩
  have HFo : Hid (cs.foldl (applyF q) (some r, false) = SF) := Lib.hid HSF.out
  rw [HSF.out]
  obtain ⟨ua, un, uc, rfl, -⟩ := id hR
  obtain ⟨ca, n, ccap, rfl, hn, hc1, hc2, -⟩ := id hC
  have HN : Hid (n = cs.length) := Lib.hid hn
  have hnl : n ≤ 39999 := by omega
  clear hR hl hC HSF hn hc2
  obtain ⟨rows, val, fnd⟩ := r
  simp only at HL HR
  obtain ⟨FA, HFA⟩ : ∃ FA, Hid (applyF q = FA) := ⟨_, Lib.hid rfl⟩
  have HF1 : Hid (∀ r t c, touchB q c = false → FA (some r, t) c = (some r, t)) := Lib.hid (fun r t c h => by rw [← HFA.out]; simp [applyF, h])
  have HF2 : Hid (∀ r t c, touchB q c = true → FA (some r, t) c = (patchM q r c, true)) := Lib.hid (fun r t c h => by rw [← HFA.out]; simp [applyF, h])
  have HFe := Lib.hid (fun (k : Nat) (t : Bool) (h : (cs.take k).foldl FA (some ⟨rows, val, fnd⟩, false) = (none, t)) => (by rw [← HFo.out, HFA.out]; rw [← HFA.out] at h ⊢; exact fold_end h : SF = (none, t)))
  have HFs := Lib.hid (fun (k : Nat) (hk : k < cs.length) => (by rw [← HFA.out]; exact fold_at hk : (cs.take (k + 1)).foldl FA (some ⟨rows, val, fnd⟩, false) = FA ((cs.take k).foldl FA (some ⟨rows, val, fnd⟩, false)) (cs.getD k chZ)))
  rw [HFA.out] at HFo
  clear HFA
  obtain ⟨TB, HTB⟩ : ∃ TB, Hid (touchB q = TB) := ⟨_, Lib.hid rfl⟩
  obtain ⟨PM, HPM⟩ : ∃ PM, Hid (patchM q = PM) := ⟨_, Lib.hid rfl⟩
  have HPl : Hid (∀ r r' c, PM r c = some r' → r'.rows.length ≤ r.rows.length + 2) := Lib.hid (fun r r' c h => by rw [← HPM.out] at h; exact patchM_len h)
  rw [HTB.out] at HT HP HF1 HF2
  rw [HPM.out] at HP HF2
  clear HTB HPM
  obtain ⟨qk, qt, qc, ql, qh, qy, qo⟩ := q
  unfold qV at *
  simp only at HT HP
  go_enter Tryz.func18, Tryz.ntmps18
  go_upto_region 1 with fail
  obtain ⟨w0, Hw0⟩ : ∃ w0, Hid ((((W.alloc (.cells #[.int .i64 qk, .int .i64 qt, .int .i64 qc, .int .i64 ql, .int .i64 qh, .int .i64 qy, .int .i64 qo] 28)).alloc (.cells #[.slice ua un uc, .int .i64 val, .bool fnd] 34)).alloc (.cells #[.int .i64 pos, .slice ca n ccap] 41)).alloc (.cells #[.slice none 0 0, .int .i64 0, .bool false] 34) = w0) := ⟨_, Lib.hid rfl⟩
  obtain ⟨hB0, hQ0, hR0, hC0, hZ0⟩ := four W (.cells #[.int .i64 qk, .int .i64 qt, .int .i64 qc, .int .i64 ql, .int .i64 qh, .int .i64 qy, .int .i64 qo] 28) (.cells #[.slice ua un uc, .int .i64 val, .bool fnd] 34) (.cells #[.int .i64 pos, .slice ca n ccap] 41) (.cells #[.slice none 0 0, .int .i64 0, .bool false] 34)
  rw [Hw0.out] at hB0 hQ0 hR0 hC0 hZ0 ⊢
  clear Hw0
  have HB0 := Lib.hid hB0
  have HQ0 := Lib.hid hQ0
  have HR0 := Lib.hid hR0
  have HC0 := Lib.hid hC0
  have HZ0 := Lib.hid hZ0
  have HCl := Lib.hid (clone_rows (HR.out.below hB0) (by have := HL.out; omega))
  clear hB0 hQ0 hR0 hC0 hZ0
  have r0 : w0.cell? ⟨W.heap.size + 1, 0, none⟩ = some (.slice ua un uc) := by simp [World.cell?, HR0.out]
  go_wp2_with fail
  (with_reducible refine HCl.out.mono ?_)
  rintro e w1 ⟨v1, rfl, hO1, hb1⟩
  obtain ⟨va, vn, vcap, rfl⟩ := hO1.form
  have HQ1 := Lib.hid ((hb1.block _ (lt_of_block HQ0.out)).trans HQ0.out)
  have HR1 := Lib.hid ((hb1.block _ (lt_of_block HR0.out)).trans HR0.out)
  have HC1 := Lib.hid ((hb1.block _ (lt_of_block HC0.out)).trans HC0.out)
  have HZ1 := Lib.hid ((hb1.block _ (lt_of_block HZ0.out)).trans HZ0.out)
  have HB1 := Lib.hid (bt HB0.out hb1)
  have HO1 := Lib.hid hO1
  have hz0 : W.heap.size ≤ w0.heap.size := HB0.out.size
  have hz1 : w0.heap.size ≤ w1.heap.size := hb1.size
  clear hO1 hb1 r0 HCl HR HQ0 HR0 HC0 HZ0
  have r0 : w1.cell? ⟨W.heap.size + 1, 0, none⟩ = some (.slice ua un uc) := by simp [World.cell?, HR1.out]
  have rf : w1.frozen? ⟨W.heap.size + 1, 0, none⟩ = false := by simp [World.frozen?, HR1.out]
  go_upto_region 2 with fail
  generalize hw2 : w1.setCell ⟨W.heap.size + 1, 0, none⟩ (.slice va vn vcap) = w2
  have HQ2 : Hid (w2.heap[W.heap.size]? = some (.cells #[.int .i64 qk, .int .i64 qt, .int .i64 qc, .int .i64 ql, .int .i64 qh, .int .i64 qy, .int .i64 qo] 28 (0, 0))) := Lib.hid (by rw [← hw2, Below.heap_setCell _ _ _ _ (by show ¬ W.heap.size = W.heap.size + 1; omega)]; exact HQ1.out)
  have HC2 : Hid (w2.heap[W.heap.size + 1 + 1]? = some (.cells #[.int .i64 pos, .slice ca n ccap] 41 (0, 0))) := Lib.hid (by rw [← hw2, Below.heap_setCell _ _ _ _ (by show ¬ W.heap.size + 1 + 1 = W.heap.size + 1; omega)]; exact HC1.out)
  have HZ2 : Hid (w2.heap[W.heap.size + 1 + 1 + 1]? = some (.cells #[.slice none 0 0, .int .i64 0, .bool false] 34 (0, 0))) := Lib.hid (by rw [← hw2, Below.heap_setCell _ _ _ _ (by show ¬ W.heap.size + 1 + 1 + 1 = W.heap.size + 1; omega)]; exact HZ1.out)
  have HR2 : Hid (w2.heap[W.heap.size + 1]? = some (.cells #[.slice va vn vcap, .int .i64 val, .bool fnd] 34 (0, 0))) := Lib.hid (by rw [← hw2]; exact setC_heap HR1.out 0 _)
  have HO2 : Hid (OwnR w2 w0.heap.size (.slice va vn vcap) rows) := Lib.hid (by rw [← hw2]; exact own_setc HO1.out HR1.out)
  have HB2 : Hid (Below W.heap.size W w2) := Lib.hid (by
    have h := (Kept.setCell (F := fun i => i = W.heap.size + 1) (p := ⟨W.heap.size + 1, 0, none⟩) (Kept.of_below HB1.out) (.inl rfl) (.slice va vn vcap)).below (Nat.le_refl _) (fun k e => by omega)
    rw [hw2] at h
    exact h)
  have HZz2 : Hid (w0.heap.size ≤ w2.heap.size) := Lib.hid (by
    rw [← hw2]
    simpa using hz1)
  clear hw2 r0 rf HQ1 HR1 HC1 HZ1 HB1 HO1 hz1
  have c1 : w2.cell? ⟨W.heap.size + 1 + 1, 1, none⟩ = some (.slice ca n ccap) := by simp [World.cell?, HC2.out]
  go_wp2_with fail
  go_loopw [9, 20] (fun tv i wr => ∃ (k : Nat) (tb : Bool) (r : MRes) (u : Value), k ≤ n ∧ i = .int .i64 k ∧ tv = .bool tb ∧ Hid ((cs.take k).foldl FA (some ⟨rows, val, fnd⟩, false) = (some r, tb)) ∧ Hid (wr.heap[W.heap.size + 1]? = some (.cells #[u, .int .i64 r.val, .bool r.fnd] 34 (0, 0))) ∧ Hid (OwnR wr w0.heap.size u r.rows ∧ w0.heap.size ≤ wr.heap.size ∧ r.rows.length ≤ rows.length + 2 * k) ∧ Hid (Below W.heap.size W wr) ∧ Hid (wr.heap[W.heap.size]? = some (.cells #[.int .i64 qk, .int .i64 qt, .int .i64 qc, .int .i64 ql, .int .i64 qh, .int .i64 qy, .int .i64 qo] 28 (0, 0))) ∧ Hid (wr.heap[W.heap.size + 1 + 1 + 1]? = some (.cells #[.slice none 0 0, .int .i64 0, .bool false] 34 (0, 0)))) (fun tv i _ => n - (intOf i).toNat)
  case atStart => exact ⟨0, false, ⟨rows, val, fnd⟩, _, by omega, rfl, rfl, Lib.hid rfl, HR2, Lib.hid ⟨HO2.out, HZz2.out, by simp⟩, HB2, HQ2, HZ2⟩
  case round =>
    obtain ⟨k, tb, ⟨rws, rv, rfo⟩, u, hk, rfl, rfl, HS, HRr, HO, HB, HQr, HZr⟩ := hrel
    simp only at HRr HO
    obtain ⟨xa, xn, xc, rfl⟩ := HO.out.1.form
    have HOr := Lib.hid HO.out.1
    have HZr2 := Lib.hid HO.out.2
    by_cases hlt : k < n
    · obtain ⟨_, n', _, e1, -, -, -, hcell⟩ := HCs.out.below HB.out
      simp at e1
      obtain ⟨rfl, hnn, rfl⟩ := e1
      obtain ⟨cb, co, rfl, hcb, hcs⟩ := hcell (by omega)
      have H1 := hcs k (by omega)
      have hkc : k < cs.length := by have := HN.out; omega
      have HFk := Lib.hid (HFs.out k hkc)
      obtain ⟨⟨t, kk, had, ⟨oa, ob, oc⟩, has, ⟨na, nb, nc⟩⟩, Hc⟩ : ∃ c, Hid (cs.getD k chZ = c) := ⟨_, Lib.hid rfl⟩
      rw [Hc.out] at H1 HFk
      rw [HS.out] at HFk
      obtain ⟨y0, y1, y2, y3, y4, y5, y6, y7, y8, y9⟩ := H1.cells
      clear hcell hcs hnn H1 Hc hkc c1
      obtain ⟨cc, Hcc⟩ : ∃ cc : MCh, Hid ((⟨t, kk, had, ⟨oa, ob, oc⟩, has, ⟨na, nb, nc⟩⟩ : MCh) = cc) := ⟨_, Lib.hid rfl⟩
      have HTw := Lib.hid (fun w => HT.out ⟨t, kk, had, ⟨oa, ob, oc⟩, has, ⟨na, nb, nc⟩⟩ w)
      have HPw := Lib.hid (fun r ht w b v h h2 hl => HP.out ⟨t, kk, had, ⟨oa, ob, oc⟩, has, ⟨na, nb, nc⟩⟩ r ht w b v h h2 hl)
      unfold chV at HTw HPw
      simp only at HTw HPw
      rw [Hcc.out] at HFk HTw HPw
      go_upto_region 6 with fail
      generalize hw3 : wr.alloc _ = w3
      have HX3 : Hid (w3.heap[wr.heap.size]? = some (.cells #[.int .i64 t, .int .i64 kk, .bool had, .int .i64 oa, .int .i64 ob, .int .i64 oc, .bool has, .int .i64 na, .int .i64 nb, .int .i64 nc] 45 (0, 0))) := Lib.hid (by rw [← hw3]; exact heap_alloc_new wr _)
      have hb3 : Below wr.heap.size wr w3 := by rw [← hw3]; exact ba wr _
      have HQ3 := Lib.hid ((hb3.block _ (lt_of_block HQr.out)).trans HQr.out)
      have HR3 := Lib.hid ((hb3.block _ (lt_of_block HRr.out)).trans HRr.out)
      have HZ3 := Lib.hid ((hb3.block _ (lt_of_block HZr.out)).trans HZr.out)
      have HB3 := Lib.hid (bt HB.out hb3)
      have HO3 := Lib.hid (HOr.out.below hb3)
      have HZz3 : Hid (w0.heap.size ≤ w3.heap.size) := Lib.hid (Nat.le_trans HZr2.out.1 hb3.size)
      have hrz : W.heap.size + 1 + 1 + 1 < wr.heap.size := lt_of_block HZr.out
      clear hw3 hb3 y0 y1 y2 y3 y4 y5 y6 y7 y8 y9 hcb
      obtain ⟨tc, HTc⟩ : ∃ tc, Hid (TB cc = tc) := ⟨_, Lib.hid rfl⟩
      have HT3 := Lib.hid (HTw.out w3)
      rw [HTc.out] at HT3
      clear HTw
      go_wp2_with (first
        | refine wpList_load_row rfl 28 _ rfl W.heap.size rfl 28 _ _ _ HQ3.out Tryz.underlying28 rfl (by kernel_rfl) ?_
        | refine wpList_load_row rfl 45 _ rfl wr.heap.size rfl 45 _ _ _ HX3.out Tryz.underlying45 rfl (by kernel_rfl) ?_)
      (with_reducible refine HT3.out.mono ?_)
      rintro e w4 ⟨rfl, hb4⟩
      have HQ4 := Lib.hid ((hb4.block _ (lt_of_block HQ3.out)).trans HQ3.out)
      have HR4 := Lib.hid ((hb4.block _ (lt_of_block HR3.out)).trans HR3.out)
      have HZ4 := Lib.hid ((hb4.block _ (lt_of_block HZ3.out)).trans HZ3.out)
      have HX4 := Lib.hid ((hb4.block _ (lt_of_block HX3.out)).trans HX3.out)
      have HB4 := Lib.hid (bt HB3.out hb4)
      have HO4 := Lib.hid (HO3.out.below hb4)
      have HZz4 : Hid (w0.heap.size ≤ w4.heap.size) := Lib.hid (Nat.le_trans HZz3.out hb4.size)
      clear hb4 HT3
      cases tc
      · have HSn : Hid ((cs.take (k + 1)).foldl FA (some ⟨rows, val, fnd⟩, false) = (some ⟨rws, rv, rfo⟩, tb)) := Lib.hid (by rw [HFk.out, HF1.out _ _ _ HTc.out])
        clear HPw HFk
        go_wp2_with fail
        exact ⟨⟨k + 1, tb, ⟨rws, rv, rfo⟩, _, by omega, by go_num, rfl, HSn, HR4, Lib.hid ⟨HO4.out, HZz4.out, by have := HZr2.out.2; simp only at this ⊢; omega⟩, HB4, HQ4, HZ4⟩, by simp [intOf]; omega⟩
      · have HFn : Hid ((cs.take (k + 1)).foldl FA (some ⟨rows, val, fnd⟩, false) = (PM ⟨rws, rv, rfo⟩ cc, true)) := Lib.hid (by rw [HFk.out, HF2.out _ _ _ HTc.out])
        have HP4 := Lib.hid (HPw.out ⟨rws, rv, rfo⟩ HTc.out w4 _ _ HO4.out HZz4.out (by have := HZr2.out.2; have := HL.out; have := HN.out; simp only at *; omega))
        have HPlk := Lib.hid (fun r' => HPl.out ⟨rws, rv, rfo⟩ r' cc)
        obtain ⟨RM, HRM⟩ : ∃ RM, Hid (PM ⟨rws, rv, rfo⟩ cc = RM) := ⟨_, Lib.hid rfl⟩
        rw [HRM.out] at HFn HP4 HPlk
        clear HPw HFk HRM
        go_wp2_with (first
          | refine wpList_load_row rfl 28 _ rfl W.heap.size rfl 28 _ _ _ HQ4.out Tryz.underlying28 rfl (by kernel_rfl) ?_
          | refine wpList_load_row rfl 34 _ rfl (W.heap.size + 1) rfl 34 _ _ _ HR4.out Tryz.underlying34 rfl (by kernel_rfl) ?_
          | refine wpList_load_row rfl 45 _ rfl wr.heap.size rfl 45 _ _ _ HX4.out Tryz.underlying45 rfl (by kernel_rfl) ?_)
        (with_reducible refine HP4.out.mono ?_)
        rintro e w5 ⟨u5, rfl, hO5, hb5⟩
        have HQ5 := Lib.hid ((hb5.block _ (lt_of_block HQ4.out)).trans HQ4.out)
        have HR5 := Lib.hid ((hb5.block _ (lt_of_block HR4.out)).trans HR4.out)
        have HZ5 := Lib.hid ((hb5.block _ (lt_of_block HZ4.out)).trans HZ4.out)
        have HB5 := Lib.hid (bt HB4.out hb5)
        obtain ⟨ya, yn, yc, rfl⟩ := hO5.form
        have HO5 := Lib.hid hO5
        have HZz5 : Hid (w0.heap.size ≤ w5.heap.size) := Lib.hid (Nat.le_trans HZz4.out hb5.size)
        obtain ⟨⟨rows', val', fnd'⟩, HRd⟩ : ∃ x, Hid (RM.getD resZ = x) := ⟨_, Lib.hid rfl⟩
        have hv : (RM.getD resZ).val = val' := by rw [HRd.out]
        have hf : (RM.getD resZ).fnd = fnd' := by rw [HRd.out]
        rw [HRd.out] at HO5
        simp only [hv, hf] at HO5 ⊢
        obtain ⟨bb, HBB⟩ : ∃ bb, Hid (RM.isSome = bb) := ⟨_, Lib.hid rfl⟩
        rw [HBB.out]
        clear hb5 hO5 HP4 hv hf
        go_upto_region 8 with (refine wpList_store_row rfl 34 _ _ rfl (W.heap.size + 1) #[.slice ya yn yc, .int .i64 val', .bool fnd'] rfl rfl 34 _ HR5.out (by kernel_rfl) rfl (by simp [Value.oneCell']) ?_)
        generalize hw6 : w5.setRow _ _ = w6
        have HR6 : Hid (w6.heap[W.heap.size + 1]? = some (.cells #[.slice ya yn yc, .int .i64 val', .bool fnd'] 34 (0, 0))) := Lib.hid (by rw [← hw6]; exact setRow_heap _ _ _ _ _ _ HR5.out)
        have HQ6 : Hid (w6.heap[W.heap.size]? = some (.cells #[.int .i64 qk, .int .i64 qt, .int .i64 qc, .int .i64 ql, .int .i64 qh, .int .i64 qy, .int .i64 qo] 28 (0, 0))) := Lib.hid (by rw [← hw6, setRow_other _ _ _ _ (by omega)]; exact HQ5.out)
        have HZ6 : Hid (w6.heap[W.heap.size + 1 + 1 + 1]? = some (.cells #[.slice none 0 0, .int .i64 0, .bool false] 34 (0, 0))) := Lib.hid (by rw [← hw6, setRow_other _ _ _ _ (by omega)]; exact HZ5.out)
        have HB6 : Hid (Below W.heap.size W w6) := Lib.hid (by rw [← hw6]; exact below_row HB5.out (by omega) _)
        have HO6 : Hid (OwnR w6 w0.heap.size (.slice ya yn yc) rows') := Lib.hid (by
          rw [← hw6]
          exact HO5.out.kept' (F := fun k => k = W.heap.size + 1) (kept_row (F := fun k => k = W.heap.size + 1) (Kept.of_below (Below.refl _ _)) (.inl rfl) _) (fun i hi e => own_ne HO5.out HR5.out (by decide) i hi e))
        have HZz6 : Hid (w0.heap.size ≤ w6.heap.size) := Lib.hid (by rw [← hw6, setRow_size]; exact HZz5.out)
        clear hw6
        cases bb
        · have HNo : Hid (RM = none) := Lib.hid (by have h := HBB.out; cases RM with | none => rfl | some _ => simp at h)
          have HSe : Hid (SF = (none, true)) := Lib.hid (HFe.out (k + 1) true (by rw [HFn.out, HNo.out]))
          go_wp2_with (refine wpList_store_row rfl 34 _ _ rfl (W.heap.size + 1 + 1 + 1) #[.slice none 0 0, .int .i64 0, .bool false] rfl rfl 34 _ HZ6.out (by kernel_rfl) rfl (by simp [Value.oneCell']) ?_)
          generalize hw7 : w6.setRow _ _ = w7
          have HZ7 : Hid (w7.heap[W.heap.size + 1 + 1 + 1]? = some (.cells #[.slice none 0 0, .int .i64 0, .bool false] 34 (0, 0))) := Lib.hid (by rw [← hw7]; exact setRow_heap _ _ _ _ _ _ HZ6.out)
          have HB7 : Hid (Below W.heap.size W w7) := Lib.hid (by rw [← hw7]; exact below_row HB6.out (by omega) _)
          refine bodyPost_ret (v := .tuple #[.agg #[.slice none 0 0, .int .i64 0, .bool false], .bool true, .bool false]) (by simp [results, Tryz.results18, go_sem, World.cell?, HZ7.out]) rfl ?_
          rw [HSe.out]
          exact ⟨_, rfl, OwnR.nil _ _, HB7.out⟩
        · have HSo : Hid (RM = some ⟨rows', val', fnd'⟩) := Lib.hid (by
            have h := HBB.out
            have h2 := HRd.out
            cases RM with
            | none => simp at h
            | some _ => simpa using h2)
          have HSn : Hid ((cs.take (k + 1)).foldl FA (some ⟨rows, val, fnd⟩, false) = (some ⟨rows', val', fnd'⟩, true)) := Lib.hid (by rw [HFn.out, HSo.out])
          go_wp2_with fail
          exact ⟨⟨k + 1, true, ⟨rows', val', fnd'⟩, _, by omega, by go_num, rfl, HSn, HR6, Lib.hid ⟨HO6.out, HZz6.out, by have := HPlk.out _ HSo.out; have := HZr2.out.2; simp only at *; omega⟩, HB6, HQ6, HZ6⟩, by simp [intOf]; omega⟩
    · obtain rfl : k = n := by omega
      have HSe : Hid (SF = (some ⟨rws, rv, rfo⟩, tb)) := Lib.hid (by
        rw [← HFo.out, ← HS.out, HN.out, List.take_length])
      have hrz : W.heap.size + 1 + 1 + 1 < wr.heap.size := lt_of_block HZr.out
      go_wp2_with (first
        | refine wpList_load_row rfl 34 _ rfl (W.heap.size + 1) rfl 34 _ _ _ HRr.out Tryz.underlying34 rfl (by kernel_rfl) ?_
        | refine wpList_store_row rfl 34 _ _ rfl (W.heap.size + 1 + 1 + 1) #[.slice xa xn xc, .int .i64 rv, .bool rfo] rfl rfl 34 _ HZr.out (by kernel_rfl) rfl (by simp [Value.oneCell']) ?_)
      generalize hw6 : wr.setRow _ _ = w6
      have HZ6 : Hid (w6.heap[W.heap.size + 1 + 1 + 1]? = some (.cells #[.slice xa xn xc, .int .i64 rv, .bool rfo] 34 (0, 0))) := Lib.hid (by rw [← hw6]; exact setRow_heap _ _ _ _ _ _ HZr.out)
      have HB6 : Hid (Below W.heap.size W w6) := Lib.hid (by rw [← hw6]; exact below_row HB.out (by omega) _)
      have HO6 : Hid (OwnR w6 W.heap.size (.slice xa xn xc) rws) := Lib.hid (by
        rw [← hw6]
        exact (HOr.out.mono (by omega)).kept' (F := fun k => k = W.heap.size + 1 + 1 + 1) (kept_row (F := fun k => k = W.heap.size + 1 + 1 + 1) (Kept.of_below (Below.refl _ _)) (.inl rfl) _) (fun i hi e => own_ne HOr.out HZr.out (by decide) i hi e))
      refine bodyPost_ret (v := .tuple #[.agg #[.slice xa xn xc, .int .i64 rv, .bool rfo], .bool tb, .bool true]) (by simp [results, Tryz.results18, go_sem, World.cell?, HZ6.out]) rfl ?_
      rw [HSe.out]
      exact ⟨_, rfl, HO6.out, HB6.out⟩
end Go.Proofs.YtgbnjjgnihjfgaaGreat
end

section
set_option linter.unusedVariables false
set_option linter.unusedSimpArgs false
namespace Go.Proofs.YtgbnjjgnihjfgaaGreat
open Go.RowKit Go.Sort Go.ChangeMaps Go.MapKept

/-- r is the result of a query over the rows L. -/
def RsAt (q : MQ) (L : List MRow) (r : MRes) : Prop := ∃ M, SortOf L (selR q.table q.column q.low q.high) q.column M ∧ r = resM q M (L.filter (selT q.other))
theorem rs_len {q : MQ} {L : List MRow} {r : MRes} (hv : validB q = true) (h : RsAt q L r) (hg : GoodL L) : r.rows.length ≤ 4000 := by
  obtain ⟨M, hM, rfl⟩ := h
  have h1 := scan_len hM
  have h2 := hg.2.2
  by_cases k7 : q.kind = 7
  · rw [join_res hv k7]
    simp only
    rw [unprs_len]
    have := List.length_filterMap_le (joinF L q.other q.by_) M
    omega
  · unfold resM
    rw [if_neg (by rw [hv]; decide)]
    rw [if_neg k7]
    repeat' split
    all_goals simp
    all_goals omega
theorem rs_apply {q : MQ} {R : List MRec} {k : Nat} {r r' s : MRes} (hv : validB q = true) (hR : Chn R) (hk : k < R.length) (h : RsAt q (rowsOf (R.take k)) r) (h' : RsAt q (rowsOf (R.take (k + 1))) r')
    (ha : (applyM q r (R.getD k recZ).chs).1 = some s) : r' = s := by
  obtain ⟨M, hM, rfl⟩ := h
  obtain ⟨M', hM', rfl⟩ := h'
  have ho := hR k hk
  have hg := hR.good k (by omega)
  rw [rowsOf_succ hk] at hM' ⊢
  have hl := hg.2.2
  have h8 := ho.1.2.1.2
  exact apply_true hv hg.1 (vrec_apart ho.1) ho.2.2.1 (vrec_mem ho.1) (by omega) hM hM' ha
theorem rs_untouched {q : MQ} {R : List MRec} {k : Nat} {r r' : MRes} (hv : validB q = true) (hR : Chn R) (hk : k < R.length) (h : RsAt q (rowsOf (R.take k)) r) (h' : RsAt q (rowsOf (R.take (k + 1))) r')
    (ht : (R.getD k recZ).chs.any (touchB q) = false) : r' = r := rs_apply hv hR hk h h' (by rw [apply_same ht])
/-- What a change that leaves a result untold is like. -/
theorem rs_none {q : MQ} {R : List MRec} {k : Nat} {r : MRes} {c : MCh} (hv : validB q = true) (hR : Chn R) (hk : k < R.length) (h : RsAt q (rowsOf (R.take k)) r) (hc : c ∈ (R.getD k recZ).chs) (hp : patchF q r c = none) :
    5 ≤ q.kind ∧ (¬ q.kind = 7 → (q.kind = 5 ∨ q.kind = 6) ∧ c.had = true ∧ vget (befR c) q.by_ = r.val ∧ r.fnd = true ∧ (c.has = true → q.low ≤ vget (aftR c) q.column → vget (aftR c) q.column ≤ q.high → (q.kind = 5 → r.val < vget (aftR c) q.by_) ∧ (q.kind = 6 → vget (aftR c) q.by_ < r.val))) := by
  obtain ⟨M, hM, rfl⟩ := h
  have ho := hR k hk
  have hg := hR.good k (by omega)
  have hkd := valid_kind hv
  unfold patchF at hp
  have ht : touchB q c = true := by
    cases ht : touchB q c
    · rw [ht, if_neg (by decide)] at hp; cases hp
    · rfl
  rw [if_pos ht] at hp
  have h5 : 5 ≤ q.kind := by
    unfold patchM at hp
    by_cases k12 : q.kind = 1 ∨ q.kind = 2
    · rw [if_pos k12] at hp; cases hp
    rw [if_neg k12] at hp
    by_cases k3 : q.kind = 3
    · rw [if_pos k3] at hp; cases hp
    rw [if_neg k3] at hp
    by_cases k4 : q.kind = 4
    · rw [if_pos k4] at hp; cases hp
    omega
  refine ⟨h5, fun k7 => ?_⟩
  obtain ⟨hk56, hb, hr, hw⟩ := none_ext hg.1 hv (ho.2.2.1 c hc) hM hp k7
  obtain ⟨hh, hbe, htb, hsb⟩ := inB_had hb
  rw [hr]
  refine ⟨hk56, hh, (oldM hb).symm, rfl, fun hs l1 l2 => ?_⟩
  have hia : inA q c = true := by
    unfold inA inQ selR
    rw [hs]
    have e := aft_has hs
    simp only [Bool.true_and, decide_eq_true_eq]
    rw [e] at l1 l2 ⊢
    exact ⟨htb, l1, l2⟩
  have := hw hia
  rw [newM hia] at this
  exact this
end Go.Proofs.YtgbnjjgnihjfgaaGreat
end

section
set_option linter.unusedVariables false
set_option linter.unusedSimpArgs false
namespace Go.Proofs.YtgbnjjgnihjfgaaGreat
open Go.RowKit Go.Sort Go.ChangeMaps Go.MapKept

/-- The state of a law behind k records: made behind w0, in memory of its own. -/
def SInv (w0 w : World) (sb : Nat) (R : List MRec) (k : Nat) (m : Option Nat) : Prop := StAt w sb m (rowsOf (R.take k)) k ∧ Own w0.heap.size sb m ∧ Below w0.heap.size w0 w
section
variable {w0 w w' : World} {sb : Nat} {R : List MRec} {k : Nat} {m : Option Nat}
theorem SInv.below (h : SInv w0 w sb R k m) (hb : Below w.heap.size w w') : SInv w0 w' sb R k m := ⟨h.1.below hb, h.2.1, bt h.2.2 hb⟩
theorem SInv.foot_lt (h : SInv w0 w sb R k m) : ∀ i, foot sb m i → i < w.heap.size := fun i f => by
  rcases f with rfl | f
  · exact h.1.lt
  · exact h.1.mlt f
theorem SInv.new (w0 : World) (R : List MRec) (t : World) (ht : t = w0.alloc (.cells #[.map none, .int .i64 0] 80)) : SInv w0 t w0.heap.size R 0 none := by
  subst ht
  exact ⟨by simpa [rowsOf] using stAt_new w0, ⟨Nat.le_refl _, fun i e => by cases e⟩, ba _ _⟩
/-- The next record of the log goes in. -/
theorem SInv.apply (h : SInv w0 w sb R k m) (hR : Chn R) (hk : k < R.length) {v : Value} (hv : ChS w v (R.getD k recZ).chs) :
    Calls Tryz.prog 15 #[.pointer (some ⟨sb, 0, none⟩), .agg #[.int .i64 ((k : Int) + 1), v]] w fun e w' => e = .returned (.int .i64 0) ∧ ∃ m', SInv w0 w' sb R (k + 1) m' ∧ Kept (foot sb m) w w' := by
  have ho := hR k hk
  have hp : (R.getD k recZ).pos = (k : Int) + 1 := ho.2.1
  rw [hp] at ho
  refine (apply_ok h.1 hv ho).mono ?_
  rintro e w' ⟨rfl, m', hst, hkt, hm⟩
  refine ⟨rfl, m', ⟨by rw [rowsOf_succ hk, Int.natCast_add]; exact hst, ⟨h.2.1.1, fun x hx => ?_⟩, ?_⟩, hkt⟩
  · rcases hm with rfl | ⟨y, rfl, hy⟩
    · exact h.2.1.2 x hx
    · cases hx
      have := h.2.2.size
      omega
  · exact ((Kept.of_below (F := foot sb m) h.2.2).trans hkt (fun _ _ f => f)).below (Nat.le_refl _) (fun x f => by
      rcases f with rfl | f
      · exact h.2.1.1
      · exact h.2.1.2 x f)
/-- What the state's memory does not hold stays. -/
theorem SInv.keeps (h : SInv w0 w sb R k m) {w1 w2 : World} (h1 : Below w.heap.size w w1) (hk : Kept (foot sb m) w1 w2) : ∀ b, w.heap.size ≤ b → b < w1.heap.size → w2.heap[b]? = w1.heap[b]? := fun b hb hb1 =>
  hk.block b hb1 (fun f => by have := h.foot_lt b f; omega)
theorem SInv.own (h : SInv w0 w sb R k m) {w1 w2 : World} {base : Nat} {u : Value} {M : List MRow} (hk : Kept (foot sb m) w1 w2) (ho : OwnR w1 base u M) (hb : w.heap.size ≤ base) : OwnR w2 base u M :=
  ho.kept hk (fun i hi f => by have := h.foot_lt i f; omega)
end
theorem ofR {W : World} {b : Nat} {m : Option Nat} {L : List MRow} {p : Int} (hS : StAt W b m L p) {q : MQ} (hv : validB q = true) :
    Calls Tryz.prog 14 #[ptr b, qV q] W fun e w' => ∃ u rows v f, e = .returned (.tuple #[.agg (resC u v f), .int .i64 0]) ∧ OwnR w' W.heap.size u rows ∧ RsAt q L ⟨rows, v, f⟩ ∧ Below W.heap.size W w' :=
  (of_any hS hv).mono fun e w' ⟨u, M, he, ho, hs, hb⟩ => ⟨u, _, _, _, he, ho, ⟨M, hs, rfl⟩, hb⟩
/-- A record of a log, cell by cell. -/
theorem rec_at {w : World} {a : Option Addr} {n cap : Nat} {R : List MRec} (h : RecS w (.slice a n cap) R) (hR : Chn R) {k : Nat} (hk : k < R.length) :
    ∃ b o va vn vc, a = some ⟨b, o, none⟩ ∧ n = R.length ∧ w.cell? ⟨b, o + k * 2, none⟩ = some (.int .i64 ((k : Int) + 1)) ∧ w.cell? ⟨b, o + k * 2 + 1, none⟩ = some (.slice va vn vc) ∧ ChS w (.slice va vn vc) (R.getD k recZ).chs ∧ vn = (R.getD k recZ).chs.length ∧ b < w.heap.size := by
  obtain ⟨_, _, _, er, hrn, _, _, hrc⟩ := h
  simp at er
  obtain ⟨rfl, rfl, rfl⟩ := er
  obtain ⟨rb, ro, rfl, hrb, hcs⟩ := hrc (by omega)
  obtain ⟨q0, vs, q1, hvs⟩ := hcs k (by omega)
  have hp : (R.getD k recZ).pos = (k : Int) + 1 := (hR k hk).2.1
  rw [hp] at q0
  obtain ⟨va, vn, vcap, e, hvn, hrest⟩ := id hvs
  subst e
  exact ⟨rb, ro, va, vn, vcap, rfl, hrn, q0, q1, hvs, hvn, hrb⟩
/-- A cell of the world's stays in worlds that a region draws. -/
theorem re_cell {w : World} {b o : Nat} {v : Value} (hb : b < w.heap.size) (h : w.cell? ⟨b, o, none⟩ = some v) : ∀ w0, BW w w0 → ∀ d' os, (grow (redrawn w0 d') os).cell? ⟨b, o, none⟩ = some v := fun w0 hw d' os => ((show Below w.heap.size w (grow (redrawn w0 d') os) from bt hw (below_regrown w0 d' os)).cell (p := ⟨b, o, none⟩) hb).trans h
theorem any_take {q : MQ} {cs : List MCh} {j : Nat} (h : j < cs.length) : (cs.take (j + 1)).any (touchB q) = ((cs.take j).any (touchB q) || touchB q (cs.getD j chZ)) := by
  rw [take_snoc' (d := chZ) h, List.any_append]
  simp
end Go.Proofs.YtgbnjjgnihjfgaaGreat
end
