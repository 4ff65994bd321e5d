/- WALKS: patches of least and greatest values. -/
import Derived.Test.YtgbnjjgnihjfgaaGreatProg
import Derived.WalkKit
import Derived.Below
import Derived.Lib.Hide
import Derived.Laws.StructEq
import Derived.Lib.QuietBelow
import Derived.Deep.RegionHeld3
import Derived.Deep.RegionWith
import Derived.IntWalk
import Derived.BigQuiet
import Derived.Maps.RangeWalk
import Derived.DeepKeys4
import Derived.OneCell
import Derived.StillTail
import Derived.Deep.CutRange
import Derived.Outline
import Derived.WalkSpells
import Derived.Carry
import Derived.Shelf.SlGeneric
import Derived.Shelf.SlSortCmp.WholeK
import Derived.Shelf.SlicesG.Cmp
import Derived.Ground.SlsfProg
import Derived.Ground.SlgcProg
import Derived.Sort.OwnSorted
import Derived.Deep.AppendLies
import Derived.Shelf.SlSortCmp.NoneTotal
import Derived.Deep.QuietTactic
import Derived.Laws.AppendOwnNone
import Derived.Laws.EntriesVeiled
import Derived.Lib.SliceRun
import Derived.Deep.Cut
import Derived.Laws.ResultCell
import Derived.ArgAppend
import Derived.Laws.Rows
import Derived.Great.BuildSlice
import Derived.Great.Frames
import Derived.Deep.DeepCutAuto
import Derived.Test.YtgbnjjgnihjfgaaGreatBAG
import Derived.Test.YtgbnjjgnihjfgaaGreatBAJ
import Derived.Test.YtgbnjjgnihjfgaaGreatBAH
import Derived.Test.YtgbnjjgnihjfgaaGreatBAK
import Derived.Test.YtgbnjjgnihjfgaaGreatBAE
import Derived.Test.YtgbnjjgnihjfgaaGreatBAB
import Derived.Test.YtgbnjjgnihjfgaaGreatBAA
import Derived.Test.YtgbnjjgnihjfgaaGreatBAI
import Derived.Test.YtgbnjjgnihjfgaaGreatBAC
import Derived.Test.YtgbnjjgnihjfgaaGreatBAD
import Derived.Test.YtgbnjjgnihjfgaaGreatBAF
set_option linter.unusedVariables false
set_option linter.unusedSimpArgs false
namespace Go.Proofs.YtgbnjjgnihjfgaaGreat
open Go.RowKit Go.Sort Go.ChangeMaps Go.MapKept

/-- An order of integers, as a function of the program, and what it says of 'before'. -/
structure Ord (g : FuncId) (lt : Int → Int → Bool) (od : Int → Int → Int) : Prop where
  call : ∀ a b w, Calls Tryz.prog g #[.int .i64 a, .int .i64 b] w fun e w' => e = .returned (.int .i64 (od a b)) ∧ Below w.heap.size w w'
  le : ∀ a b, decide (od a b ≤ 0) = !lt b a
  gt : ∀ a b, decide (0 < od a b) = lt b a
  neg : ∀ a b, decide (od a b < 0) = lt a b
attribute [local irreducible] wpCalm in
set_option maxRecDepth 100000 in
set_option maxHeartbeats 4000000 in
theorem ext_100_xxx {g : FuncId} {lt : Int → Int → Bool} {od : Int → Int → Int} (hOrd : Ord g lt od) (eg : ∀ args w, (callFunc g args).run Tryz.prog w = .ok (.enter g args) w) {E : Array Value} {rb base : Nat} {rows : List MRow} {val ma mb : Int} {u : Value} {W : World}
    (hu : W.heap[rb]? = some (.cells (resC u val false) 34 (0, 0))) (hO : OwnR W base u rows) (hE : E[31]? = some (.bool false) ∧ E[23]? = some (.bool true) ∧ E[32]? = some (.int .i64 ma) ∧ E[24]? = some (.int .i64 mb)) :
    Calls Tryz.prog 120 #[ptr rb, .agg E, fnV g #[]] W (PatchOut W rb base (none)) := by
  have HU := Lib.hid hu
  have HO := Lib.hid hO
  have HA := Lib.hid hE
  have HE : Hid ((W.alloc (.cells E 97)).heap[W.heap.size]? = some (.cells E 97 (0, 0))) := Lib.hid (heap_alloc_new W _)
  have HB : Hid (Below W.heap.size W (W.alloc (.cells E 97))) := Lib.hid (ba W _)
  have hlt := lt_of_block hu
  have hne : ¬ rb = W.heap.size := by omega
  have hne2 : ¬ W.heap.size = rb := by omega
  have HU1 := Lib.hid ((HB.out.block _ (lt_of_block HU.out)).trans HU.out)
  have HO1 := Lib.hid (HO.out.below HB.out)
  have HCall := Lib.hid hOrd.call
  obtain ⟨ov, Hov⟩ : ∃ v, Hid (od mb val = v) := ⟨_, Lib.hid rfl⟩
  obtain ⟨oa, Hoa⟩ : ∃ v, Hid (od ma val = v) := ⟨_, Lib.hid rfl⟩
  have HC1 : Hid (∀ w, Calls Tryz.prog g #[.int .i64 mb, .int .i64 val] w fun e w' => e = .returned (.int .i64 ov) ∧ Below w.heap.size w w') := Lib.hid (fun w => by rw [← Hov.out]; exact HCall.out mb val w)
  have HC2 : Hid (∀ w, Calls Tryz.prog g #[.int .i64 ma, .int .i64 val] w fun e w' => e = .returned (.int .i64 oa) ∧ Below w.heap.size w w') := Lib.hid (fun w => by rw [← Hoa.out]; exact HCall.out ma val w)
  clear hu hO hE hOrd
  go_enter Tryz.func120, Tryz.ntmps120
  go_upto_region 1 with fail
  have HK1 : Hid (Kept (fun k => k = rb) W (W.alloc (.cells E 97))) := Lib.hid (Kept.of_below HB.out)
  generalize W.alloc (.cells E 97) = w0 at *
  have HGe : Hid (∀ w1, BW w0 w1 → ∀ d' os, (grow (redrawn w1 d') os).heap[W.heap.size]? = some (.cells E 97 (0, 0))) := Lib.hid (fun w1 h d' os => ((show Below w0.heap.size w0 (grow (redrawn w1 d') os) from bt h (below_regrown w1 d' os)).block _ (lt_of_block HE.out)).trans HE.out)
  have HGr : Hid (∀ w1, BW w0 w1 → ∀ d' os, (grow (redrawn w1 d') os).heap[rb]? = some (.cells (resC u val false) 34 (0, 0))) := Lib.hid (fun w1 h d' os => ((show Below w0.heap.size w0 (grow (redrawn w1 d') os) from bt h (below_regrown w1 d' os)).block _ (lt_of_block HU1.out)).trans HU1.out)
  have eA : ∀ w1, BW w0 w1 → ∀ d' os, (grow (redrawn w1 d') os).cell? ⟨W.heap.size, 31, none⟩ = some (.bool false) := fun w1 h d' os => by simp [World.cell?, HGe.out w1 h d' os, HA.out.1]
  have eB : ∀ w1, BW w0 w1 → ∀ d' os, (grow (redrawn w1 d') os).cell? ⟨W.heap.size, 23, none⟩ = some (.bool true) := fun w1 h d' os => by simp [World.cell?, HGe.out w1 h d' os, HA.out.2.1]
  have eM : ∀ w1, BW w0 w1 → ∀ d' os, (grow (redrawn w1 d') os).cell? ⟨W.heap.size, 32, none⟩ = some (.int .i64 ma) := fun w1 h d' os => by simp [World.cell?, HGe.out w1 h d' os, HA.out.2.2.1]
  have eN : ∀ w1, BW w0 w1 → ∀ d' os, (grow (redrawn w1 d') os).cell? ⟨W.heap.size, 24, none⟩ = some (.int .i64 mb) := fun w1 h d' os => by simp [World.cell?, HGe.out w1 h d' os, HA.out.2.2.2]
  have rv : ∀ w1, BW w0 w1 → ∀ d' os, (grow (redrawn w1 d') os).cell? ⟨rb, 1, none⟩ = some (.int .i64 val) := fun w1 h d' os => by simp only [World.cell?, HGr.out w1 h d' os]; rfl
  have rf : ∀ w1, BW w0 w1 → ∀ d' os, (grow (redrawn w1 d') os).cell? ⟨rb, 2, none⟩ = some (.bool false) := fun w1 h d' os => by simp only [World.cell?, HGr.out w1 h d' os]; rfl
  refine wp_region_calm 21 99 [0, 1, 2, 3, 4, 5, 6, 7, 8, 9, 10, 11, 12, 13, 14, 15, 16, 17, 18, 19, 20] (by kernel_rfl) (by kernel_rfl) (by intro oz h; simp at h) (by intro oz h; simp at h) (by rfl) ?_
  simp only [List.take_succ_cons, List.take_zero]
  iterate 10
    apply wpCalm_want
    · rfl
    · exact bc_refl
    · exact ⟨_, Below.refl _ _⟩
    · intro w00 hC0 K hK
      go_big_quiet_op
      exact hK
  refine wpCalm_skip (by rfl) ?_
  go_frame
  refine wpCalm_skip (by rfl) ?_
  go_frame
  refine wpCalm_skip (by rfl) ?_
  go_frame
  refine wpCalm_skip (by rfl) ?_
  go_frame
  refine wpCalm_skip (by rfl) ?_
  go_frame
  refine wpCalm_skip (by rfl) ?_
  go_frame
  refine wpCalm_skip (by rfl) ?_
  go_frame
  refine wpCalm_skip (by rfl) ?_
  go_frame
  refine wpCalm_skip (by rfl) ?_
  go_frame
  refine wpCalm_skip (by rfl) ?_
  go_frame
  apply wpCalm_want
  · rfl
  · exact bc_refl
  · exact ⟨_, Below.refl _ _⟩
  · intro w00 hC0 K hK
    go_big_quiet_op
    exact hK
  refine wpCalm_nil ?_
  intro w2 hbq
  try simp only [List.drop_succ_cons, List.drop_zero]
  have HUw2 := Lib.hid ((hbq.block _ (lt_of_block HU1.out)).trans HU1.out)
  have HEw2 := Lib.hid ((hbq.block _ (lt_of_block HE.out)).trans HE.out)
  have HOw2 := Lib.hid (HO1.out.below hbq)
  have HKw2 : Hid (Kept (fun k => k = rb) W w2) := Lib.hid (HK1.out.then hbq)
  clear hbq eA eB eM eN rv rf HGe HGr HU1 HE HO1 HK1
  have HU1 := HUw2
  have HE := HEw2
  have HO1 := HOw2
  have HK1 := HKw2
  clear HUw2 HEw2 HOw2 HKw2
  go_upto_region 2 with fail
  have HGe : Hid (∀ w1, BW w2 w1 → ∀ d' os, (grow (redrawn w1 d') os).heap[W.heap.size]? = some (.cells E 97 (0, 0))) := Lib.hid (fun w1 h d' os => ((show Below w2.heap.size w2 (grow (redrawn w1 d') os) from bt h (below_regrown w1 d' os)).block _ (lt_of_block HE.out)).trans HE.out)
  have HGr : Hid (∀ w1, BW w2 w1 → ∀ d' os, (grow (redrawn w1 d') os).heap[rb]? = some (.cells (resC u val false) 34 (0, 0))) := Lib.hid (fun w1 h d' os => ((show Below w2.heap.size w2 (grow (redrawn w1 d') os) from bt h (below_regrown w1 d' os)).block _ (lt_of_block HU1.out)).trans HU1.out)
  have eA : ∀ w1, BW w2 w1 → ∀ d' os, (grow (redrawn w1 d') os).cell? ⟨W.heap.size, 31, none⟩ = some (.bool false) := fun w1 h d' os => by simp [World.cell?, HGe.out w1 h d' os, HA.out.1]
  have eB : ∀ w1, BW w2 w1 → ∀ d' os, (grow (redrawn w1 d') os).cell? ⟨W.heap.size, 23, none⟩ = some (.bool true) := fun w1 h d' os => by simp [World.cell?, HGe.out w1 h d' os, HA.out.2.1]
  have eM : ∀ w1, BW w2 w1 → ∀ d' os, (grow (redrawn w1 d') os).cell? ⟨W.heap.size, 32, none⟩ = some (.int .i64 ma) := fun w1 h d' os => by simp [World.cell?, HGe.out w1 h d' os, HA.out.2.2.1]
  have eN : ∀ w1, BW w2 w1 → ∀ d' os, (grow (redrawn w1 d') os).cell? ⟨W.heap.size, 24, none⟩ = some (.int .i64 mb) := fun w1 h d' os => by simp [World.cell?, HGe.out w1 h d' os, HA.out.2.2.2]
  have rv : ∀ w1, BW w2 w1 → ∀ d' os, (grow (redrawn w1 d') os).cell? ⟨rb, 1, none⟩ = some (.int .i64 val) := fun w1 h d' os => by simp only [World.cell?, HGr.out w1 h d' os]; rfl
  have rf : ∀ w1, BW w2 w1 → ∀ d' os, (grow (redrawn w1 d') os).cell? ⟨rb, 2, none⟩ = some (.bool false) := fun w1 h d' os => by simp only [World.cell?, HGr.out w1 h d' os]; rfl
  refine wp_region_calm 22 99 [0, 1, 2, 3, 4, 5, 6, 7, 8, 9, 10, 11, 12, 13, 14, 15, 16, 17, 18, 19, 20, 21] (by kernel_rfl) (by kernel_rfl) (by intro oz h; simp at h) (by intro oz h; simp at h) (by rfl) ?_
  simp only [List.take_succ_cons, List.take_zero]
  iterate 5
    apply wpCalm_want
    · rfl
    · exact bc_refl
    · exact ⟨_, Below.refl _ _⟩
    · intro w00 hC0 K hK
      go_big_quiet_op
      exact hK
  refine wpCalm_skip (by rfl) ?_
  go_frame
  refine wpCalm_skip (by rfl) ?_
  go_frame
  refine wpCalm_skip (by rfl) ?_
  go_frame
  refine wpCalm_skip (by rfl) ?_
  go_frame
  refine wpCalm_skip (by rfl) ?_
  go_frame
  iterate 2
    apply wpCalm_want
    · rfl
    · exact bc_refl
    · exact ⟨_, Below.refl _ _⟩
    · intro w00 hC0 K hK
      go_big_quiet_op
      exact hK
  refine wpCalm_skip (by rfl) ?_
  go_frame
  refine wpCalm_skip (by rfl) ?_
  go_frame
  refine wpCalm_skip (by rfl) ?_
  go_frame
  refine wpCalm_skip (by rfl) ?_
  go_frame
  refine wpCalm_skip (by rfl) ?_
  go_frame
  refine wpCalm_skip (by rfl) ?_
  go_frame
  refine wpCalm_skip (by rfl) ?_
  go_frame
  refine wpCalm_skip (by rfl) ?_
  go_frame
  refine wpCalm_skip (by rfl) ?_
  go_frame
  refine wpCalm_skip (by rfl) ?_
  go_frame
  refine wpCalm_nil ?_
  intro w3 hbq
  try simp only [List.drop_succ_cons, List.drop_zero]
  have HUw3 := Lib.hid ((hbq.block _ (lt_of_block HU1.out)).trans HU1.out)
  have HEw3 := Lib.hid ((hbq.block _ (lt_of_block HE.out)).trans HE.out)
  have HOw3 := Lib.hid (HO1.out.below hbq)
  have HKw3 : Hid (Kept (fun k => k = rb) W w3) := Lib.hid (HK1.out.then hbq)
  clear hbq eA eB eM eN rv rf HGe HGr HU1 HE HO1 HK1
  have HU1 := HUw3
  have HE := HEw3
  have HO1 := HOw3
  have HK1 := HKw3
  clear HUw3 HEw3 HOw3 HKw3
  go_wp2_with fail
  go_ret
  exact ⟨rfl, (fun r' h => by cases h), HK1.out⟩
attribute [local irreducible] wpCalm in
set_option maxRecDepth 100000 in
set_option maxHeartbeats 4000000 in
theorem ext_101_xxx {g : FuncId} {lt : Int → Int → Bool} {od : Int → Int → Int} (hOrd : Ord g lt od) (eg : ∀ args w, (callFunc g args).run Tryz.prog w = .ok (.enter g args) w) {E : Array Value} {rb base : Nat} {rows : List MRow} {val ma mb : Int} {u : Value} {W : World}
    (hu : W.heap[rb]? = some (.cells (resC u val false) 34 (0, 0))) (hO : OwnR W base u rows) (hE : E[31]? = some (.bool true) ∧ E[23]? = some (.bool true) ∧ E[32]? = some (.int .i64 ma) ∧ E[24]? = some (.int .i64 mb)) :
    Calls Tryz.prog 120 #[ptr rb, .agg E, fnV g #[]] W (PatchOut W rb base (none)) := by
  have HU := Lib.hid hu
  have HO := Lib.hid hO
  have HA := Lib.hid hE
  have HE : Hid ((W.alloc (.cells E 97)).heap[W.heap.size]? = some (.cells E 97 (0, 0))) := Lib.hid (heap_alloc_new W _)
  have HB : Hid (Below W.heap.size W (W.alloc (.cells E 97))) := Lib.hid (ba W _)
  have hlt := lt_of_block hu
  have hne : ¬ rb = W.heap.size := by omega
  have hne2 : ¬ W.heap.size = rb := by omega
  have HU1 := Lib.hid ((HB.out.block _ (lt_of_block HU.out)).trans HU.out)
  have HO1 := Lib.hid (HO.out.below HB.out)
  have HCall := Lib.hid hOrd.call
  obtain ⟨ov, Hov⟩ : ∃ v, Hid (od mb val = v) := ⟨_, Lib.hid rfl⟩
  obtain ⟨oa, Hoa⟩ : ∃ v, Hid (od ma val = v) := ⟨_, Lib.hid rfl⟩
  have HC1 : Hid (∀ w, Calls Tryz.prog g #[.int .i64 mb, .int .i64 val] w fun e w' => e = .returned (.int .i64 ov) ∧ Below w.heap.size w w') := Lib.hid (fun w => by rw [← Hov.out]; exact HCall.out mb val w)
  have HC2 : Hid (∀ w, Calls Tryz.prog g #[.int .i64 ma, .int .i64 val] w fun e w' => e = .returned (.int .i64 oa) ∧ Below w.heap.size w w') := Lib.hid (fun w => by rw [← Hoa.out]; exact HCall.out ma val w)
  clear hu hO hE hOrd
  go_enter Tryz.func120, Tryz.ntmps120
  go_upto_region 1 with fail
  have HK1 : Hid (Kept (fun k => k = rb) W (W.alloc (.cells E 97))) := Lib.hid (Kept.of_below HB.out)
  generalize W.alloc (.cells E 97) = w0 at *
  have HGe : Hid (∀ w1, BW w0 w1 → ∀ d' os, (grow (redrawn w1 d') os).heap[W.heap.size]? = some (.cells E 97 (0, 0))) := Lib.hid (fun w1 h d' os => ((show Below w0.heap.size w0 (grow (redrawn w1 d') os) from bt h (below_regrown w1 d' os)).block _ (lt_of_block HE.out)).trans HE.out)
  have HGr : Hid (∀ w1, BW w0 w1 → ∀ d' os, (grow (redrawn w1 d') os).heap[rb]? = some (.cells (resC u val false) 34 (0, 0))) := Lib.hid (fun w1 h d' os => ((show Below w0.heap.size w0 (grow (redrawn w1 d') os) from bt h (below_regrown w1 d' os)).block _ (lt_of_block HU1.out)).trans HU1.out)
  have eA : ∀ w1, BW w0 w1 → ∀ d' os, (grow (redrawn w1 d') os).cell? ⟨W.heap.size, 31, none⟩ = some (.bool true) := fun w1 h d' os => by simp [World.cell?, HGe.out w1 h d' os, HA.out.1]
  have eB : ∀ w1, BW w0 w1 → ∀ d' os, (grow (redrawn w1 d') os).cell? ⟨W.heap.size, 23, none⟩ = some (.bool true) := fun w1 h d' os => by simp [World.cell?, HGe.out w1 h d' os, HA.out.2.1]
  have eM : ∀ w1, BW w0 w1 → ∀ d' os, (grow (redrawn w1 d') os).cell? ⟨W.heap.size, 32, none⟩ = some (.int .i64 ma) := fun w1 h d' os => by simp [World.cell?, HGe.out w1 h d' os, HA.out.2.2.1]
  have eN : ∀ w1, BW w0 w1 → ∀ d' os, (grow (redrawn w1 d') os).cell? ⟨W.heap.size, 24, none⟩ = some (.int .i64 mb) := fun w1 h d' os => by simp [World.cell?, HGe.out w1 h d' os, HA.out.2.2.2]
  have rv : ∀ w1, BW w0 w1 → ∀ d' os, (grow (redrawn w1 d') os).cell? ⟨rb, 1, none⟩ = some (.int .i64 val) := fun w1 h d' os => by simp only [World.cell?, HGr.out w1 h d' os]; rfl
  have rf : ∀ w1, BW w0 w1 → ∀ d' os, (grow (redrawn w1 d') os).cell? ⟨rb, 2, none⟩ = some (.bool false) := fun w1 h d' os => by simp only [World.cell?, HGr.out w1 h d' os]; rfl
  refine wp_region_calm 21 99 [0, 1, 2, 3, 4, 5, 6, 7, 8, 9, 10, 11, 12, 13, 14, 15, 16, 17, 18, 19, 20] (by kernel_rfl) (by kernel_rfl) (by intro oz h; simp at h) (by intro oz h; simp at h) (by rfl) ?_
  simp only [List.take_succ_cons, List.take_zero]
  iterate 10
    apply wpCalm_want
    · rfl
    · exact bc_refl
    · exact ⟨_, Below.refl _ _⟩
    · intro w00 hC0 K hK
      go_big_quiet_op
      exact hK
  refine wpCalm_skip (by rfl) ?_
  go_frame
  refine wpCalm_skip (by rfl) ?_
  go_frame
  refine wpCalm_skip (by rfl) ?_
  go_frame
  refine wpCalm_skip (by rfl) ?_
  go_frame
  refine wpCalm_skip (by rfl) ?_
  go_frame
  refine wpCalm_skip (by rfl) ?_
  go_frame
  refine wpCalm_skip (by rfl) ?_
  go_frame
  refine wpCalm_skip (by rfl) ?_
  go_frame
  refine wpCalm_skip (by rfl) ?_
  go_frame
  refine wpCalm_skip (by rfl) ?_
  go_frame
  apply wpCalm_want
  · rfl
  · exact bc_refl
  · exact ⟨_, Below.refl _ _⟩
  · intro w00 hC0 K hK
    go_big_quiet_op
    exact hK
  refine wpCalm_nil ?_
  intro w2 hbq
  try simp only [List.drop_succ_cons, List.drop_zero]
  have HUw2 := Lib.hid ((hbq.block _ (lt_of_block HU1.out)).trans HU1.out)
  have HEw2 := Lib.hid ((hbq.block _ (lt_of_block HE.out)).trans HE.out)
  have HOw2 := Lib.hid (HO1.out.below hbq)
  have HKw2 : Hid (Kept (fun k => k = rb) W w2) := Lib.hid (HK1.out.then hbq)
  clear hbq eA eB eM eN rv rf HGe HGr HU1 HE HO1 HK1
  have HU1 := HUw2
  have HE := HEw2
  have HO1 := HOw2
  have HK1 := HKw2
  clear HUw2 HEw2 HOw2 HKw2
  go_upto_region 2 with fail
  have HGe : Hid (∀ w1, BW w2 w1 → ∀ d' os, (grow (redrawn w1 d') os).heap[W.heap.size]? = some (.cells E 97 (0, 0))) := Lib.hid (fun w1 h d' os => ((show Below w2.heap.size w2 (grow (redrawn w1 d') os) from bt h (below_regrown w1 d' os)).block _ (lt_of_block HE.out)).trans HE.out)
  have HGr : Hid (∀ w1, BW w2 w1 → ∀ d' os, (grow (redrawn w1 d') os).heap[rb]? = some (.cells (resC u val false) 34 (0, 0))) := Lib.hid (fun w1 h d' os => ((show Below w2.heap.size w2 (grow (redrawn w1 d') os) from bt h (below_regrown w1 d' os)).block _ (lt_of_block HU1.out)).trans HU1.out)
  have eA : ∀ w1, BW w2 w1 → ∀ d' os, (grow (redrawn w1 d') os).cell? ⟨W.heap.size, 31, none⟩ = some (.bool true) := fun w1 h d' os => by simp [World.cell?, HGe.out w1 h d' os, HA.out.1]
  have eB : ∀ w1, BW w2 w1 → ∀ d' os, (grow (redrawn w1 d') os).cell? ⟨W.heap.size, 23, none⟩ = some (.bool true) := fun w1 h d' os => by simp [World.cell?, HGe.out w1 h d' os, HA.out.2.1]
  have eM : ∀ w1, BW w2 w1 → ∀ d' os, (grow (redrawn w1 d') os).cell? ⟨W.heap.size, 32, none⟩ = some (.int .i64 ma) := fun w1 h d' os => by simp [World.cell?, HGe.out w1 h d' os, HA.out.2.2.1]
  have eN : ∀ w1, BW w2 w1 → ∀ d' os, (grow (redrawn w1 d') os).cell? ⟨W.heap.size, 24, none⟩ = some (.int .i64 mb) := fun w1 h d' os => by simp [World.cell?, HGe.out w1 h d' os, HA.out.2.2.2]
  have rv : ∀ w1, BW w2 w1 → ∀ d' os, (grow (redrawn w1 d') os).cell? ⟨rb, 1, none⟩ = some (.int .i64 val) := fun w1 h d' os => by simp only [World.cell?, HGr.out w1 h d' os]; rfl
  have rf : ∀ w1, BW w2 w1 → ∀ d' os, (grow (redrawn w1 d') os).cell? ⟨rb, 2, none⟩ = some (.bool false) := fun w1 h d' os => by simp only [World.cell?, HGr.out w1 h d' os]; rfl
  refine wp_region_calm 22 99 [0, 1, 2, 3, 4, 5, 6, 7, 8, 9, 10, 11, 12, 13, 14, 15, 16, 17, 18, 19, 20, 21] (by kernel_rfl) (by kernel_rfl) (by intro oz h; simp at h) (by intro oz h; simp at h) (by rfl) ?_
  simp only [List.take_succ_cons, List.take_zero]
  iterate 12
    apply wpCalm_want
    · rfl
    · exact bc_refl
    · exact ⟨_, Below.refl _ _⟩
    · intro w00 hC0 K hK
      go_big_quiet_op
      exact hK
  refine wpCalm_skip (by rfl) ?_
  go_frame
  refine wpCalm_skip (by rfl) ?_
  go_frame
  refine wpCalm_skip (by rfl) ?_
  go_frame
  refine wpCalm_skip (by rfl) ?_
  go_frame
  refine wpCalm_skip (by rfl) ?_
  go_frame
  refine wpCalm_skip (by rfl) ?_
  go_frame
  refine wpCalm_skip (by rfl) ?_
  go_frame
  refine wpCalm_skip (by rfl) ?_
  go_frame
  refine wpCalm_skip (by rfl) ?_
  go_frame
  refine wpCalm_skip (by rfl) ?_
  go_frame
  refine wpCalm_nil ?_
  intro w3 hbq
  try simp only [List.drop_succ_cons, List.drop_zero]
  have HUw3 := Lib.hid ((hbq.block _ (lt_of_block HU1.out)).trans HU1.out)
  have HEw3 := Lib.hid ((hbq.block _ (lt_of_block HE.out)).trans HE.out)
  have HOw3 := Lib.hid (HO1.out.below hbq)
  have HKw3 : Hid (Kept (fun k => k = rb) W w3) := Lib.hid (HK1.out.then hbq)
  clear hbq eA eB eM eN rv rf HGe HGr HU1 HE HO1 HK1
  have HU1 := HUw3
  have HE := HEw3
  have HO1 := HOw3
  have HK1 := HKw3
  clear HUw3 HEw3 HOw3 HKw3
  go_wp2_with fail
  go_ret
  exact ⟨rfl, (fun r' h => by cases h), HK1.out⟩
attribute [local irreducible] wpCalm in
set_option maxRecDepth 100000 in
set_option maxHeartbeats 4000000 in
theorem ext_110_1xx {g : FuncId} {lt : Int → Int → Bool} {od : Int → Int → Int} (hOrd : Ord g lt od) (eg : ∀ args w, (callFunc g args).run Tryz.prog w = .ok (.enter g args) w) {E : Array Value} {rb base : Nat} {rows : List MRow} {val ma mb : Int} {u : Value} {W : World}
    (hu : W.heap[rb]? = some (.cells (resC u val true) 34 (0, 0))) (hO : OwnR W base u rows) (hE : E[31]? = some (.bool false) ∧ E[23]? = some (.bool true) ∧ E[32]? = some (.int .i64 ma) ∧ E[24]? = some (.int .i64 mb)) (h1 : lt val mb = false) :
    Calls Tryz.prog 120 #[ptr rb, .agg E, fnV g #[]] W (PatchOut W rb base (none)) := by
  have HU := Lib.hid hu
  have HO := Lib.hid hO
  have HA := Lib.hid hE
  have HE : Hid ((W.alloc (.cells E 97)).heap[W.heap.size]? = some (.cells E 97 (0, 0))) := Lib.hid (heap_alloc_new W _)
  have HB : Hid (Below W.heap.size W (W.alloc (.cells E 97))) := Lib.hid (ba W _)
  have hlt := lt_of_block hu
  have hne : ¬ rb = W.heap.size := by omega
  have hne2 : ¬ W.heap.size = rb := by omega
  have HU1 := Lib.hid ((HB.out.block _ (lt_of_block HU.out)).trans HU.out)
  have HO1 := Lib.hid (HO.out.below HB.out)
  have HCall := Lib.hid hOrd.call
  have HD1 : Hid (decide (od mb val ≤ 0) = true) := Lib.hid (by rw [hOrd.le, h1]; rfl)
  obtain ⟨ov, Hov⟩ : ∃ v, Hid (od mb val = v) := ⟨_, Lib.hid rfl⟩
  obtain ⟨oa, Hoa⟩ : ∃ v, Hid (od ma val = v) := ⟨_, Lib.hid rfl⟩
  have HC1 : Hid (∀ w, Calls Tryz.prog g #[.int .i64 mb, .int .i64 val] w fun e w' => e = .returned (.int .i64 ov) ∧ Below w.heap.size w w') := Lib.hid (fun w => by rw [← Hov.out]; exact HCall.out mb val w)
  have HC2 : Hid (∀ w, Calls Tryz.prog g #[.int .i64 ma, .int .i64 val] w fun e w' => e = .returned (.int .i64 oa) ∧ Below w.heap.size w w') := Lib.hid (fun w => by rw [← Hoa.out]; exact HCall.out ma val w)
  rw [Hov.out] at HD1
  clear hu hO hE hOrd h1
  go_enter Tryz.func120, Tryz.ntmps120
  go_upto_region 1 with fail
  have HK1 : Hid (Kept (fun k => k = rb) W (W.alloc (.cells E 97))) := Lib.hid (Kept.of_below HB.out)
  generalize W.alloc (.cells E 97) = w0 at *
  have HGe : Hid (∀ w1, BW w0 w1 → ∀ d' os, (grow (redrawn w1 d') os).heap[W.heap.size]? = some (.cells E 97 (0, 0))) := Lib.hid (fun w1 h d' os => ((show Below w0.heap.size w0 (grow (redrawn w1 d') os) from bt h (below_regrown w1 d' os)).block _ (lt_of_block HE.out)).trans HE.out)
  have HGr : Hid (∀ w1, BW w0 w1 → ∀ d' os, (grow (redrawn w1 d') os).heap[rb]? = some (.cells (resC u val true) 34 (0, 0))) := Lib.hid (fun w1 h d' os => ((show Below w0.heap.size w0 (grow (redrawn w1 d') os) from bt h (below_regrown w1 d' os)).block _ (lt_of_block HU1.out)).trans HU1.out)
  have eA : ∀ w1, BW w0 w1 → ∀ d' os, (grow (redrawn w1 d') os).cell? ⟨W.heap.size, 31, none⟩ = some (.bool false) := fun w1 h d' os => by simp [World.cell?, HGe.out w1 h d' os, HA.out.1]
  have eB : ∀ w1, BW w0 w1 → ∀ d' os, (grow (redrawn w1 d') os).cell? ⟨W.heap.size, 23, none⟩ = some (.bool true) := fun w1 h d' os => by simp [World.cell?, HGe.out w1 h d' os, HA.out.2.1]
  have eM : ∀ w1, BW w0 w1 → ∀ d' os, (grow (redrawn w1 d') os).cell? ⟨W.heap.size, 32, none⟩ = some (.int .i64 ma) := fun w1 h d' os => by simp [World.cell?, HGe.out w1 h d' os, HA.out.2.2.1]
  have eN : ∀ w1, BW w0 w1 → ∀ d' os, (grow (redrawn w1 d') os).cell? ⟨W.heap.size, 24, none⟩ = some (.int .i64 mb) := fun w1 h d' os => by simp [World.cell?, HGe.out w1 h d' os, HA.out.2.2.2]
  have rv : ∀ w1, BW w0 w1 → ∀ d' os, (grow (redrawn w1 d') os).cell? ⟨rb, 1, none⟩ = some (.int .i64 val) := fun w1 h d' os => by simp only [World.cell?, HGr.out w1 h d' os]; rfl
  have rf : ∀ w1, BW w0 w1 → ∀ d' os, (grow (redrawn w1 d') os).cell? ⟨rb, 2, none⟩ = some (.bool true) := fun w1 h d' os => by simp only [World.cell?, HGr.out w1 h d' os]; rfl
  refine wp_region_calm 21 99 [0, 1, 2, 3, 4, 5, 6, 7, 8, 9, 10, 11, 12, 13, 14, 15, 16, 17, 18, 19, 20] (by kernel_rfl) (by kernel_rfl) (by intro oz h; simp at h) (by intro oz h; simp at h) (by rfl) ?_
  simp only [List.take_succ_cons, List.take_zero]
  iterate 18
    apply wpCalm_want
    · rfl
    · exact bc_refl
    · exact ⟨_, Below.refl _ _⟩
    · intro w00 hC0 K hK
      go_big_quiet_op
      exact hK
  apply wpCalm_want
  · rfl
  · exact bc_refl
  · exact ⟨_, Below.refl _ _⟩
  · intro w00 hC0 K hK
    go_big_quiet_op
    apply Exists.intro
    refine ⟨fun p => ?_, ?_⟩
    · exact Calls.regrown_of (HC1.out _)
    · exact hK
  have hd1 := HD1.out
  try simp only [hd1]
  apply wpCalm_want
  · rfl
  · exact bc_refl
  · exact ⟨_, Below.refl _ _⟩
  · intro w00 hC0 K hK
    go_big_quiet_op
    exact hK
  apply wpCalm_want
  · rfl
  · exact bc_refl
  · exact ⟨_, Below.refl _ _⟩
  · intro w00 hC0 K hK
    go_big_quiet_op
    exact hK
  refine wpCalm_nil ?_
  intro w2 hbq
  try simp only [List.drop_succ_cons, List.drop_zero]
  have HUw2 := Lib.hid ((hbq.block _ (lt_of_block HU1.out)).trans HU1.out)
  have HEw2 := Lib.hid ((hbq.block _ (lt_of_block HE.out)).trans HE.out)
  have HOw2 := Lib.hid (HO1.out.below hbq)
  have HKw2 : Hid (Kept (fun k => k = rb) W w2) := Lib.hid (HK1.out.then hbq)
  clear hbq eA eB eM eN rv rf HGe HGr HU1 HE HO1 HK1
  have HU1 := HUw2
  have HE := HEw2
  have HO1 := HOw2
  have HK1 := HKw2
  clear HUw2 HEw2 HOw2 HKw2
  have hd1 := HD1.out
  go_upto_region 2 with fail
  clear hd1
  have HGe : Hid (∀ w1, BW w2 w1 → ∀ d' os, (grow (redrawn w1 d') os).heap[W.heap.size]? = some (.cells E 97 (0, 0))) := Lib.hid (fun w1 h d' os => ((show Below w2.heap.size w2 (grow (redrawn w1 d') os) from bt h (below_regrown w1 d' os)).block _ (lt_of_block HE.out)).trans HE.out)
  have HGr : Hid (∀ w1, BW w2 w1 → ∀ d' os, (grow (redrawn w1 d') os).heap[rb]? = some (.cells (resC u val true) 34 (0, 0))) := Lib.hid (fun w1 h d' os => ((show Below w2.heap.size w2 (grow (redrawn w1 d') os) from bt h (below_regrown w1 d' os)).block _ (lt_of_block HU1.out)).trans HU1.out)
  have eA : ∀ w1, BW w2 w1 → ∀ d' os, (grow (redrawn w1 d') os).cell? ⟨W.heap.size, 31, none⟩ = some (.bool false) := fun w1 h d' os => by simp [World.cell?, HGe.out w1 h d' os, HA.out.1]
  have eB : ∀ w1, BW w2 w1 → ∀ d' os, (grow (redrawn w1 d') os).cell? ⟨W.heap.size, 23, none⟩ = some (.bool true) := fun w1 h d' os => by simp [World.cell?, HGe.out w1 h d' os, HA.out.2.1]
  have eM : ∀ w1, BW w2 w1 → ∀ d' os, (grow (redrawn w1 d') os).cell? ⟨W.heap.size, 32, none⟩ = some (.int .i64 ma) := fun w1 h d' os => by simp [World.cell?, HGe.out w1 h d' os, HA.out.2.2.1]
  have eN : ∀ w1, BW w2 w1 → ∀ d' os, (grow (redrawn w1 d') os).cell? ⟨W.heap.size, 24, none⟩ = some (.int .i64 mb) := fun w1 h d' os => by simp [World.cell?, HGe.out w1 h d' os, HA.out.2.2.2]
  have rv : ∀ w1, BW w2 w1 → ∀ d' os, (grow (redrawn w1 d') os).cell? ⟨rb, 1, none⟩ = some (.int .i64 val) := fun w1 h d' os => by simp only [World.cell?, HGr.out w1 h d' os]; rfl
  have rf : ∀ w1, BW w2 w1 → ∀ d' os, (grow (redrawn w1 d') os).cell? ⟨rb, 2, none⟩ = some (.bool true) := fun w1 h d' os => by simp only [World.cell?, HGr.out w1 h d' os]; rfl
  refine wp_region_calm 22 99 [0, 1, 2, 3, 4, 5, 6, 7, 8, 9, 10, 11, 12, 13, 14, 15, 16, 17, 18, 19, 20, 21] (by kernel_rfl) (by kernel_rfl) (by intro oz h; simp at h) (by intro oz h; simp at h) (by rfl) ?_
  simp only [List.take_succ_cons, List.take_zero]
  iterate 5
    apply wpCalm_want
    · rfl
    · exact bc_refl
    · exact ⟨_, Below.refl _ _⟩
    · intro w00 hC0 K hK
      go_big_quiet_op
      exact hK
  refine wpCalm_skip (by rfl) ?_
  go_frame
  refine wpCalm_skip (by rfl) ?_
  go_frame
  refine wpCalm_skip (by rfl) ?_
  go_frame
  refine wpCalm_skip (by rfl) ?_
  go_frame
  refine wpCalm_skip (by rfl) ?_
  go_frame
  iterate 2
    apply wpCalm_want
    · rfl
    · exact bc_refl
    · exact ⟨_, Below.refl _ _⟩
    · intro w00 hC0 K hK
      go_big_quiet_op
      exact hK
  refine wpCalm_skip (by rfl) ?_
  go_frame
  refine wpCalm_skip (by rfl) ?_
  go_frame
  refine wpCalm_skip (by rfl) ?_
  go_frame
  refine wpCalm_skip (by rfl) ?_
  go_frame
  refine wpCalm_skip (by rfl) ?_
  go_frame
  refine wpCalm_skip (by rfl) ?_
  go_frame
  refine wpCalm_skip (by rfl) ?_
  go_frame
  refine wpCalm_skip (by rfl) ?_
  go_frame
  refine wpCalm_skip (by rfl) ?_
  go_frame
  refine wpCalm_skip (by rfl) ?_
  go_frame
  refine wpCalm_nil ?_
  intro w3 hbq
  try simp only [List.drop_succ_cons, List.drop_zero]
  have HUw3 := Lib.hid ((hbq.block _ (lt_of_block HU1.out)).trans HU1.out)
  have HEw3 := Lib.hid ((hbq.block _ (lt_of_block HE.out)).trans HE.out)
  have HOw3 := Lib.hid (HO1.out.below hbq)
  have HKw3 : Hid (Kept (fun k => k = rb) W w3) := Lib.hid (HK1.out.then hbq)
  clear hbq eA eB eM eN rv rf HGe HGr HU1 HE HO1 HK1
  have HU1 := HUw3
  have HE := HEw3
  have HO1 := HOw3
  have HK1 := HKw3
  clear HUw3 HEw3 HOw3 HKw3
  go_wp2_with fail
  go_ret
  exact ⟨rfl, (fun r' h => by cases h), HK1.out⟩
attribute [local irreducible] wpCalm in
set_option maxRecDepth 100000 in
set_option maxHeartbeats 4000000 in
theorem ext_111_11x {g : FuncId} {lt : Int → Int → Bool} {od : Int → Int → Int} (hOrd : Ord g lt od) (eg : ∀ args w, (callFunc g args).run Tryz.prog w = .ok (.enter g args) w) {E : Array Value} {rb base : Nat} {rows : List MRow} {val ma mb : Int} {u : Value} {W : World}
    (hu : W.heap[rb]? = some (.cells (resC u val true) 34 (0, 0))) (hO : OwnR W base u rows) (hE : E[31]? = some (.bool true) ∧ E[23]? = some (.bool true) ∧ E[32]? = some (.int .i64 ma) ∧ E[24]? = some (.int .i64 mb)) (h1 : lt val mb = false) (h2 : lt val ma = true) :
    Calls Tryz.prog 120 #[ptr rb, .agg E, fnV g #[]] W (PatchOut W rb base (none)) := by
  have HU := Lib.hid hu
  have HO := Lib.hid hO
  have HA := Lib.hid hE
  have HE : Hid ((W.alloc (.cells E 97)).heap[W.heap.size]? = some (.cells E 97 (0, 0))) := Lib.hid (heap_alloc_new W _)
  have HB : Hid (Below W.heap.size W (W.alloc (.cells E 97))) := Lib.hid (ba W _)
  have hlt := lt_of_block hu
  have hne : ¬ rb = W.heap.size := by omega
  have hne2 : ¬ W.heap.size = rb := by omega
  have HU1 := Lib.hid ((HB.out.block _ (lt_of_block HU.out)).trans HU.out)
  have HO1 := Lib.hid (HO.out.below HB.out)
  have HCall := Lib.hid hOrd.call
  have HD1 : Hid (decide (od mb val ≤ 0) = true) := Lib.hid (by rw [hOrd.le, h1]; rfl)
  have HD2 : Hid (decide (0 < od ma val) = true) := Lib.hid (by rw [hOrd.gt, h2])
  obtain ⟨ov, Hov⟩ : ∃ v, Hid (od mb val = v) := ⟨_, Lib.hid rfl⟩
  obtain ⟨oa, Hoa⟩ : ∃ v, Hid (od ma val = v) := ⟨_, Lib.hid rfl⟩
  have HC1 : Hid (∀ w, Calls Tryz.prog g #[.int .i64 mb, .int .i64 val] w fun e w' => e = .returned (.int .i64 ov) ∧ Below w.heap.size w w') := Lib.hid (fun w => by rw [← Hov.out]; exact HCall.out mb val w)
  have HC2 : Hid (∀ w, Calls Tryz.prog g #[.int .i64 ma, .int .i64 val] w fun e w' => e = .returned (.int .i64 oa) ∧ Below w.heap.size w w') := Lib.hid (fun w => by rw [← Hoa.out]; exact HCall.out ma val w)
  rw [Hov.out] at HD1
  rw [Hoa.out] at HD2
  clear hu hO hE hOrd h1 h2
  go_enter Tryz.func120, Tryz.ntmps120
  go_upto_region 1 with fail
  have HK1 : Hid (Kept (fun k => k = rb) W (W.alloc (.cells E 97))) := Lib.hid (Kept.of_below HB.out)
  generalize W.alloc (.cells E 97) = w0 at *
  have HGe : Hid (∀ w1, BW w0 w1 → ∀ d' os, (grow (redrawn w1 d') os).heap[W.heap.size]? = some (.cells E 97 (0, 0))) := Lib.hid (fun w1 h d' os => ((show Below w0.heap.size w0 (grow (redrawn w1 d') os) from bt h (below_regrown w1 d' os)).block _ (lt_of_block HE.out)).trans HE.out)
  have HGr : Hid (∀ w1, BW w0 w1 → ∀ d' os, (grow (redrawn w1 d') os).heap[rb]? = some (.cells (resC u val true) 34 (0, 0))) := Lib.hid (fun w1 h d' os => ((show Below w0.heap.size w0 (grow (redrawn w1 d') os) from bt h (below_regrown w1 d' os)).block _ (lt_of_block HU1.out)).trans HU1.out)
  have eA : ∀ w1, BW w0 w1 → ∀ d' os, (grow (redrawn w1 d') os).cell? ⟨W.heap.size, 31, none⟩ = some (.bool true) := fun w1 h d' os => by simp [World.cell?, HGe.out w1 h d' os, HA.out.1]
  have eB : ∀ w1, BW w0 w1 → ∀ d' os, (grow (redrawn w1 d') os).cell? ⟨W.heap.size, 23, none⟩ = some (.bool true) := fun w1 h d' os => by simp [World.cell?, HGe.out w1 h d' os, HA.out.2.1]
  have eM : ∀ w1, BW w0 w1 → ∀ d' os, (grow (redrawn w1 d') os).cell? ⟨W.heap.size, 32, none⟩ = some (.int .i64 ma) := fun w1 h d' os => by simp [World.cell?, HGe.out w1 h d' os, HA.out.2.2.1]
  have eN : ∀ w1, BW w0 w1 → ∀ d' os, (grow (redrawn w1 d') os).cell? ⟨W.heap.size, 24, none⟩ = some (.int .i64 mb) := fun w1 h d' os => by simp [World.cell?, HGe.out w1 h d' os, HA.out.2.2.2]
  have rv : ∀ w1, BW w0 w1 → ∀ d' os, (grow (redrawn w1 d') os).cell? ⟨rb, 1, none⟩ = some (.int .i64 val) := fun w1 h d' os => by simp only [World.cell?, HGr.out w1 h d' os]; rfl
  have rf : ∀ w1, BW w0 w1 → ∀ d' os, (grow (redrawn w1 d') os).cell? ⟨rb, 2, none⟩ = some (.bool true) := fun w1 h d' os => by simp only [World.cell?, HGr.out w1 h d' os]; rfl
  refine wp_region_calm 21 99 [0, 1, 2, 3, 4, 5, 6, 7, 8, 9, 10, 11, 12, 13, 14, 15, 16, 17, 18, 19, 20] (by kernel_rfl) (by kernel_rfl) (by intro oz h; simp at h) (by intro oz h; simp at h) (by rfl) ?_
  simp only [List.take_succ_cons, List.take_zero]
  iterate 18
    apply wpCalm_want
    · rfl
    · exact bc_refl
    · exact ⟨_, Below.refl _ _⟩
    · intro w00 hC0 K hK
      go_big_quiet_op
      exact hK
  apply wpCalm_want
  · rfl
  · exact bc_refl
  · exact ⟨_, Below.refl _ _⟩
  · intro w00 hC0 K hK
    go_big_quiet_op
    apply Exists.intro
    refine ⟨fun p => ?_, ?_⟩
    · exact Calls.regrown_of (HC1.out _)
    · exact hK
  have hd1 := HD1.out
  try simp only [hd1]
  apply wpCalm_want
  · rfl
  · exact bc_refl
  · exact ⟨_, Below.refl _ _⟩
  · intro w00 hC0 K hK
    go_big_quiet_op
    exact hK
  apply wpCalm_want
  · rfl
  · exact bc_refl
  · exact ⟨_, Below.refl _ _⟩
  · intro w00 hC0 K hK
    go_big_quiet_op
    exact hK
  refine wpCalm_nil ?_
  intro w2 hbq
  try simp only [List.drop_succ_cons, List.drop_zero]
  have HUw2 := Lib.hid ((hbq.block _ (lt_of_block HU1.out)).trans HU1.out)
  have HEw2 := Lib.hid ((hbq.block _ (lt_of_block HE.out)).trans HE.out)
  have HOw2 := Lib.hid (HO1.out.below hbq)
  have HKw2 : Hid (Kept (fun k => k = rb) W w2) := Lib.hid (HK1.out.then hbq)
  clear hbq eA eB eM eN rv rf HGe HGr HU1 HE HO1 HK1
  have HU1 := HUw2
  have HE := HEw2
  have HO1 := HOw2
  have HK1 := HKw2
  clear HUw2 HEw2 HOw2 HKw2
  have hd1 := HD1.out
  go_upto_region 2 with fail
  clear hd1
  have HGe : Hid (∀ w1, BW w2 w1 → ∀ d' os, (grow (redrawn w1 d') os).heap[W.heap.size]? = some (.cells E 97 (0, 0))) := Lib.hid (fun w1 h d' os => ((show Below w2.heap.size w2 (grow (redrawn w1 d') os) from bt h (below_regrown w1 d' os)).block _ (lt_of_block HE.out)).trans HE.out)
  have HGr : Hid (∀ w1, BW w2 w1 → ∀ d' os, (grow (redrawn w1 d') os).heap[rb]? = some (.cells (resC u val true) 34 (0, 0))) := Lib.hid (fun w1 h d' os => ((show Below w2.heap.size w2 (grow (redrawn w1 d') os) from bt h (below_regrown w1 d' os)).block _ (lt_of_block HU1.out)).trans HU1.out)
  have eA : ∀ w1, BW w2 w1 → ∀ d' os, (grow (redrawn w1 d') os).cell? ⟨W.heap.size, 31, none⟩ = some (.bool true) := fun w1 h d' os => by simp [World.cell?, HGe.out w1 h d' os, HA.out.1]
  have eB : ∀ w1, BW w2 w1 → ∀ d' os, (grow (redrawn w1 d') os).cell? ⟨W.heap.size, 23, none⟩ = some (.bool true) := fun w1 h d' os => by simp [World.cell?, HGe.out w1 h d' os, HA.out.2.1]
  have eM : ∀ w1, BW w2 w1 → ∀ d' os, (grow (redrawn w1 d') os).cell? ⟨W.heap.size, 32, none⟩ = some (.int .i64 ma) := fun w1 h d' os => by simp [World.cell?, HGe.out w1 h d' os, HA.out.2.2.1]
  have eN : ∀ w1, BW w2 w1 → ∀ d' os, (grow (redrawn w1 d') os).cell? ⟨W.heap.size, 24, none⟩ = some (.int .i64 mb) := fun w1 h d' os => by simp [World.cell?, HGe.out w1 h d' os, HA.out.2.2.2]
  have rv : ∀ w1, BW w2 w1 → ∀ d' os, (grow (redrawn w1 d') os).cell? ⟨rb, 1, none⟩ = some (.int .i64 val) := fun w1 h d' os => by simp only [World.cell?, HGr.out w1 h d' os]; rfl
  have rf : ∀ w1, BW w2 w1 → ∀ d' os, (grow (redrawn w1 d') os).cell? ⟨rb, 2, none⟩ = some (.bool true) := fun w1 h d' os => by simp only [World.cell?, HGr.out w1 h d' os]; rfl
  refine wp_region_calm 22 99 [0, 1, 2, 3, 4, 5, 6, 7, 8, 9, 10, 11, 12, 13, 14, 15, 16, 17, 18, 19, 20, 21] (by kernel_rfl) (by kernel_rfl) (by intro oz h; simp at h) (by intro oz h; simp at h) (by rfl) ?_
  simp only [List.take_succ_cons, List.take_zero]
  iterate 20
    apply wpCalm_want
    · rfl
    · exact bc_refl
    · exact ⟨_, Below.refl _ _⟩
    · intro w00 hC0 K hK
      go_big_quiet_op
      exact hK
  apply wpCalm_want
  · rfl
  · exact bc_refl
  · exact ⟨_, Below.refl _ _⟩
  · intro w00 hC0 K hK
    go_big_quiet_op
    apply Exists.intro
    refine ⟨fun p => ?_, ?_⟩
    · exact Calls.regrown_of (HC2.out _)
    · exact hK
  apply wpCalm_want
  · rfl
  · exact bc_refl
  · exact ⟨_, Below.refl _ _⟩
  · intro w00 hC0 K hK
    go_big_quiet_op
    exact hK
  refine wpCalm_nil ?_
  intro w3 hbq
  try simp only [List.drop_succ_cons, List.drop_zero]
  have HUw3 := Lib.hid ((hbq.block _ (lt_of_block HU1.out)).trans HU1.out)
  have HEw3 := Lib.hid ((hbq.block _ (lt_of_block HE.out)).trans HE.out)
  have HOw3 := Lib.hid (HO1.out.below hbq)
  have HKw3 : Hid (Kept (fun k => k = rb) W w3) := Lib.hid (HK1.out.then hbq)
  clear hbq eA eB eM eN rv rf HGe HGr HU1 HE HO1 HK1
  have HU1 := HUw3
  have HE := HEw3
  have HO1 := HOw3
  have HK1 := HKw3
  clear HUw3 HEw3 HOw3 HKw3
  have hd2 := HD2.out
  go_wp2_with fail
  go_ret
  exact ⟨rfl, (fun r' h => by cases h), HK1.out⟩
attribute [local irreducible] wpCalm in
set_option maxRecDepth 100000 in
set_option maxHeartbeats 4000000 in
theorem ext_111_10x {g : FuncId} {lt : Int → Int → Bool} {od : Int → Int → Int} (hOrd : Ord g lt od) (eg : ∀ args w, (callFunc g args).run Tryz.prog w = .ok (.enter g args) w) {E : Array Value} {rb base : Nat} {rows : List MRow} {val ma mb : Int} {u : Value} {W : World}
    (hu : W.heap[rb]? = some (.cells (resC u val true) 34 (0, 0))) (hO : OwnR W base u rows) (hE : E[31]? = some (.bool true) ∧ E[23]? = some (.bool true) ∧ E[32]? = some (.int .i64 ma) ∧ E[24]? = some (.int .i64 mb)) (h1 : lt val mb = false) (h2 : lt val ma = false) :
    Calls Tryz.prog 120 #[ptr rb, .agg E, fnV g #[]] W (PatchOut W rb base (some ⟨rows, ma, true⟩)) := by
  have HU := Lib.hid hu
  have HO := Lib.hid hO
  have HA := Lib.hid hE
  have HE : Hid ((W.alloc (.cells E 97)).heap[W.heap.size]? = some (.cells E 97 (0, 0))) := Lib.hid (heap_alloc_new W _)
  have HB : Hid (Below W.heap.size W (W.alloc (.cells E 97))) := Lib.hid (ba W _)
  have hlt := lt_of_block hu
  have hne : ¬ rb = W.heap.size := by omega
  have hne2 : ¬ W.heap.size = rb := by omega
  have HU1 := Lib.hid ((HB.out.block _ (lt_of_block HU.out)).trans HU.out)
  have HO1 := Lib.hid (HO.out.below HB.out)
  have HCall := Lib.hid hOrd.call
  have HD1 : Hid (decide (od mb val ≤ 0) = true) := Lib.hid (by rw [hOrd.le, h1]; rfl)
  have HD2 : Hid (decide (0 < od ma val) = false) := Lib.hid (by rw [hOrd.gt, h2])
  obtain ⟨ov, Hov⟩ : ∃ v, Hid (od mb val = v) := ⟨_, Lib.hid rfl⟩
  obtain ⟨oa, Hoa⟩ : ∃ v, Hid (od ma val = v) := ⟨_, Lib.hid rfl⟩
  have HC1 : Hid (∀ w, Calls Tryz.prog g #[.int .i64 mb, .int .i64 val] w fun e w' => e = .returned (.int .i64 ov) ∧ Below w.heap.size w w') := Lib.hid (fun w => by rw [← Hov.out]; exact HCall.out mb val w)
  have HC2 : Hid (∀ w, Calls Tryz.prog g #[.int .i64 ma, .int .i64 val] w fun e w' => e = .returned (.int .i64 oa) ∧ Below w.heap.size w w') := Lib.hid (fun w => by rw [← Hoa.out]; exact HCall.out ma val w)
  rw [Hov.out] at HD1
  rw [Hoa.out] at HD2
  clear hu hO hE hOrd h1 h2
  go_enter Tryz.func120, Tryz.ntmps120
  go_upto_region 1 with fail
  have HK1 : Hid (Kept (fun k => k = rb) W (W.alloc (.cells E 97))) := Lib.hid (Kept.of_below HB.out)
  generalize W.alloc (.cells E 97) = w0 at *
  have HGe : Hid (∀ w1, BW w0 w1 → ∀ d' os, (grow (redrawn w1 d') os).heap[W.heap.size]? = some (.cells E 97 (0, 0))) := Lib.hid (fun w1 h d' os => ((show Below w0.heap.size w0 (grow (redrawn w1 d') os) from bt h (below_regrown w1 d' os)).block _ (lt_of_block HE.out)).trans HE.out)
  have HGr : Hid (∀ w1, BW w0 w1 → ∀ d' os, (grow (redrawn w1 d') os).heap[rb]? = some (.cells (resC u val true) 34 (0, 0))) := Lib.hid (fun w1 h d' os => ((show Below w0.heap.size w0 (grow (redrawn w1 d') os) from bt h (below_regrown w1 d' os)).block _ (lt_of_block HU1.out)).trans HU1.out)
  have eA : ∀ w1, BW w0 w1 → ∀ d' os, (grow (redrawn w1 d') os).cell? ⟨W.heap.size, 31, none⟩ = some (.bool true) := fun w1 h d' os => by simp [World.cell?, HGe.out w1 h d' os, HA.out.1]
  have eB : ∀ w1, BW w0 w1 → ∀ d' os, (grow (redrawn w1 d') os).cell? ⟨W.heap.size, 23, none⟩ = some (.bool true) := fun w1 h d' os => by simp [World.cell?, HGe.out w1 h d' os, HA.out.2.1]
  have eM : ∀ w1, BW w0 w1 → ∀ d' os, (grow (redrawn w1 d') os).cell? ⟨W.heap.size, 32, none⟩ = some (.int .i64 ma) := fun w1 h d' os => by simp [World.cell?, HGe.out w1 h d' os, HA.out.2.2.1]
  have eN : ∀ w1, BW w0 w1 → ∀ d' os, (grow (redrawn w1 d') os).cell? ⟨W.heap.size, 24, none⟩ = some (.int .i64 mb) := fun w1 h d' os => by simp [World.cell?, HGe.out w1 h d' os, HA.out.2.2.2]
  have rv : ∀ w1, BW w0 w1 → ∀ d' os, (grow (redrawn w1 d') os).cell? ⟨rb, 1, none⟩ = some (.int .i64 val) := fun w1 h d' os => by simp only [World.cell?, HGr.out w1 h d' os]; rfl
  have rf : ∀ w1, BW w0 w1 → ∀ d' os, (grow (redrawn w1 d') os).cell? ⟨rb, 2, none⟩ = some (.bool true) := fun w1 h d' os => by simp only [World.cell?, HGr.out w1 h d' os]; rfl
  refine wp_region_calm 21 99 [0, 1, 2, 3, 4, 5, 6, 7, 8, 9, 10, 11, 12, 13, 14, 15, 16, 17, 18, 19, 20] (by kernel_rfl) (by kernel_rfl) (by intro oz h; simp at h) (by intro oz h; simp at h) (by rfl) ?_
  simp only [List.take_succ_cons, List.take_zero]
  iterate 18
    apply wpCalm_want
    · rfl
    · exact bc_refl
    · exact ⟨_, Below.refl _ _⟩
    · intro w00 hC0 K hK
      go_big_quiet_op
      exact hK
  apply wpCalm_want
  · rfl
  · exact bc_refl
  · exact ⟨_, Below.refl _ _⟩
  · intro w00 hC0 K hK
    go_big_quiet_op
    apply Exists.intro
    refine ⟨fun p => ?_, ?_⟩
    · exact Calls.regrown_of (HC1.out _)
    · exact hK
  have hd1 := HD1.out
  try simp only [hd1]
  apply wpCalm_want
  · rfl
  · exact bc_refl
  · exact ⟨_, Below.refl _ _⟩
  · intro w00 hC0 K hK
    go_big_quiet_op
    exact hK
  apply wpCalm_want
  · rfl
  · exact bc_refl
  · exact ⟨_, Below.refl _ _⟩
  · intro w00 hC0 K hK
    go_big_quiet_op
    exact hK
  refine wpCalm_nil ?_
  intro w2 hbq
  try simp only [List.drop_succ_cons, List.drop_zero]
  have HUw2 := Lib.hid ((hbq.block _ (lt_of_block HU1.out)).trans HU1.out)
  have HEw2 := Lib.hid ((hbq.block _ (lt_of_block HE.out)).trans HE.out)
  have HOw2 := Lib.hid (HO1.out.below hbq)
  have HKw2 : Hid (Kept (fun k => k = rb) W w2) := Lib.hid (HK1.out.then hbq)
  clear hbq eA eB eM eN rv rf HGe HGr HU1 HE HO1 HK1
  have HU1 := HUw2
  have HE := HEw2
  have HO1 := HOw2
  have HK1 := HKw2
  clear HUw2 HEw2 HOw2 HKw2
  have hd1 := HD1.out
  go_upto_region 2 with fail
  clear hd1
  have HGe : Hid (∀ w1, BW w2 w1 → ∀ d' os, (grow (redrawn w1 d') os).heap[W.heap.size]? = some (.cells E 97 (0, 0))) := Lib.hid (fun w1 h d' os => ((show Below w2.heap.size w2 (grow (redrawn w1 d') os) from bt h (below_regrown w1 d' os)).block _ (lt_of_block HE.out)).trans HE.out)
  have HGr : Hid (∀ w1, BW w2 w1 → ∀ d' os, (grow (redrawn w1 d') os).heap[rb]? = some (.cells (resC u val true) 34 (0, 0))) := Lib.hid (fun w1 h d' os => ((show Below w2.heap.size w2 (grow (redrawn w1 d') os) from bt h (below_regrown w1 d' os)).block _ (lt_of_block HU1.out)).trans HU1.out)
  have eA : ∀ w1, BW w2 w1 → ∀ d' os, (grow (redrawn w1 d') os).cell? ⟨W.heap.size, 31, none⟩ = some (.bool true) := fun w1 h d' os => by simp [World.cell?, HGe.out w1 h d' os, HA.out.1]
  have eB : ∀ w1, BW w2 w1 → ∀ d' os, (grow (redrawn w1 d') os).cell? ⟨W.heap.size, 23, none⟩ = some (.bool true) := fun w1 h d' os => by simp [World.cell?, HGe.out w1 h d' os, HA.out.2.1]
  have eM : ∀ w1, BW w2 w1 → ∀ d' os, (grow (redrawn w1 d') os).cell? ⟨W.heap.size, 32, none⟩ = some (.int .i64 ma) := fun w1 h d' os => by simp [World.cell?, HGe.out w1 h d' os, HA.out.2.2.1]
  have eN : ∀ w1, BW w2 w1 → ∀ d' os, (grow (redrawn w1 d') os).cell? ⟨W.heap.size, 24, none⟩ = some (.int .i64 mb) := fun w1 h d' os => by simp [World.cell?, HGe.out w1 h d' os, HA.out.2.2.2]
  have rv : ∀ w1, BW w2 w1 → ∀ d' os, (grow (redrawn w1 d') os).cell? ⟨rb, 1, none⟩ = some (.int .i64 val) := fun w1 h d' os => by simp only [World.cell?, HGr.out w1 h d' os]; rfl
  have rf : ∀ w1, BW w2 w1 → ∀ d' os, (grow (redrawn w1 d') os).cell? ⟨rb, 2, none⟩ = some (.bool true) := fun w1 h d' os => by simp only [World.cell?, HGr.out w1 h d' os]; rfl
  refine wp_region_calm 22 99 [0, 1, 2, 3, 4, 5, 6, 7, 8, 9, 10, 11, 12, 13, 14, 15, 16, 17, 18, 19, 20, 21] (by kernel_rfl) (by kernel_rfl) (by intro oz h; simp at h) (by intro oz h; simp at h) (by rfl) ?_
  simp only [List.take_succ_cons, List.take_zero]
  iterate 20
    apply wpCalm_want
    · rfl
    · exact bc_refl
    · exact ⟨_, Below.refl _ _⟩
    · intro w00 hC0 K hK
      go_big_quiet_op
      exact hK
  apply wpCalm_want
  · rfl
  · exact bc_refl
  · exact ⟨_, Below.refl _ _⟩
  · intro w00 hC0 K hK
    go_big_quiet_op
    apply Exists.intro
    refine ⟨fun p => ?_, ?_⟩
    · exact Calls.regrown_of (HC2.out _)
    · exact hK
  apply wpCalm_want
  · rfl
  · exact bc_refl
  · exact ⟨_, Below.refl _ _⟩
  · intro w00 hC0 K hK
    go_big_quiet_op
    exact hK
  refine wpCalm_nil ?_
  intro w3 hbq
  try simp only [List.drop_succ_cons, List.drop_zero]
  have HUw3 := Lib.hid ((hbq.block _ (lt_of_block HU1.out)).trans HU1.out)
  have HEw3 := Lib.hid ((hbq.block _ (lt_of_block HE.out)).trans HE.out)
  have HOw3 := Lib.hid (HO1.out.below hbq)
  have HKw3 : Hid (Kept (fun k => k = rb) W w3) := Lib.hid (HK1.out.then hbq)
  clear hbq eA eB eM eN rv rf HGe HGr HU1 HE HO1 HK1
  have HU1 := HUw3
  have HE := HEw3
  have HO1 := HOw3
  have HK1 := HKw3
  clear HUw3 HEw3 HOw3 HKw3
  have hd2 := HD2.out
  have eM : w3.cell? ⟨W.heap.size, 32, none⟩ = some (.int .i64 ma) := by simp [World.cell?, HE.out, HA.out.2.2.1]
  have rv : w3.cell? ⟨rb, 1, none⟩ = some (.int .i64 val) := by simp only [World.cell?, HU1.out]; rfl
  have rf : w3.frozen? ⟨rb, 1, none⟩ = false := by simp [World.frozen?, HU1.out]
  have HS1 : Hid (∀ n, ResAt (w3.setCell ⟨rb, 1, none⟩ (.int .i64 n)) rb base ⟨rows, n, true⟩ ∧ Kept (fun k => k = rb) W (w3.setCell ⟨rb, 1, none⟩ (.int .i64 n))) := Lib.hid (fun n => ⟨⟨u, setC_heap HU1.out 1 _, own_setc HO1.out HU1.out⟩, Kept.setCell (F := fun i => i = rb) (p := ⟨rb, 1, none⟩) HK1.out (.inl rfl) _⟩)
  go_wp2_with fail
  go_ret
  exact ⟨rfl, fun r' h => by cases h; exact (HS1.out _).1, (HS1.out _).2⟩
attribute [local irreducible] wpCalm in
set_option maxRecDepth 100000 in
set_option maxHeartbeats 4000000 in
theorem ext_110_0xx {g : FuncId} {lt : Int → Int → Bool} {od : Int → Int → Int} (hOrd : Ord g lt od) (eg : ∀ args w, (callFunc g args).run Tryz.prog w = .ok (.enter g args) w) {E : Array Value} {rb base : Nat} {rows : List MRow} {val ma mb : Int} {u : Value} {W : World}
    (hu : W.heap[rb]? = some (.cells (resC u val true) 34 (0, 0))) (hO : OwnR W base u rows) (hE : E[31]? = some (.bool false) ∧ E[23]? = some (.bool true) ∧ E[32]? = some (.int .i64 ma) ∧ E[24]? = some (.int .i64 mb)) (h1 : lt val mb = true) :
    Calls Tryz.prog 120 #[ptr rb, .agg E, fnV g #[]] W (PatchOut W rb base (some ⟨rows, val, true⟩)) := by
  have HU := Lib.hid hu
  have HO := Lib.hid hO
  have HA := Lib.hid hE
  have HE : Hid ((W.alloc (.cells E 97)).heap[W.heap.size]? = some (.cells E 97 (0, 0))) := Lib.hid (heap_alloc_new W _)
  have HB : Hid (Below W.heap.size W (W.alloc (.cells E 97))) := Lib.hid (ba W _)
  have hlt := lt_of_block hu
  have hne : ¬ rb = W.heap.size := by omega
  have hne2 : ¬ W.heap.size = rb := by omega
  have HU1 := Lib.hid ((HB.out.block _ (lt_of_block HU.out)).trans HU.out)
  have HO1 := Lib.hid (HO.out.below HB.out)
  have HCall := Lib.hid hOrd.call
  have HD1 : Hid (decide (od mb val ≤ 0) = false) := Lib.hid (by rw [hOrd.le, h1]; rfl)
  obtain ⟨ov, Hov⟩ : ∃ v, Hid (od mb val = v) := ⟨_, Lib.hid rfl⟩
  obtain ⟨oa, Hoa⟩ : ∃ v, Hid (od ma val = v) := ⟨_, Lib.hid rfl⟩
  have HC1 : Hid (∀ w, Calls Tryz.prog g #[.int .i64 mb, .int .i64 val] w fun e w' => e = .returned (.int .i64 ov) ∧ Below w.heap.size w w') := Lib.hid (fun w => by rw [← Hov.out]; exact HCall.out mb val w)
  have HC2 : Hid (∀ w, Calls Tryz.prog g #[.int .i64 ma, .int .i64 val] w fun e w' => e = .returned (.int .i64 oa) ∧ Below w.heap.size w w') := Lib.hid (fun w => by rw [← Hoa.out]; exact HCall.out ma val w)
  rw [Hov.out] at HD1
  clear hu hO hE hOrd h1
  go_enter Tryz.func120, Tryz.ntmps120
  go_upto_region 1 with fail
  have HK1 : Hid (Kept (fun k => k = rb) W (W.alloc (.cells E 97))) := Lib.hid (Kept.of_below HB.out)
  generalize W.alloc (.cells E 97) = w0 at *
  have HGe : Hid (∀ w1, BW w0 w1 → ∀ d' os, (grow (redrawn w1 d') os).heap[W.heap.size]? = some (.cells E 97 (0, 0))) := Lib.hid (fun w1 h d' os => ((show Below w0.heap.size w0 (grow (redrawn w1 d') os) from bt h (below_regrown w1 d' os)).block _ (lt_of_block HE.out)).trans HE.out)
  have HGr : Hid (∀ w1, BW w0 w1 → ∀ d' os, (grow (redrawn w1 d') os).heap[rb]? = some (.cells (resC u val true) 34 (0, 0))) := Lib.hid (fun w1 h d' os => ((show Below w0.heap.size w0 (grow (redrawn w1 d') os) from bt h (below_regrown w1 d' os)).block _ (lt_of_block HU1.out)).trans HU1.out)
  have eA : ∀ w1, BW w0 w1 → ∀ d' os, (grow (redrawn w1 d') os).cell? ⟨W.heap.size, 31, none⟩ = some (.bool false) := fun w1 h d' os => by simp [World.cell?, HGe.out w1 h d' os, HA.out.1]
  have eB : ∀ w1, BW w0 w1 → ∀ d' os, (grow (redrawn w1 d') os).cell? ⟨W.heap.size, 23, none⟩ = some (.bool true) := fun w1 h d' os => by simp [World.cell?, HGe.out w1 h d' os, HA.out.2.1]
  have eM : ∀ w1, BW w0 w1 → ∀ d' os, (grow (redrawn w1 d') os).cell? ⟨W.heap.size, 32, none⟩ = some (.int .i64 ma) := fun w1 h d' os => by simp [World.cell?, HGe.out w1 h d' os, HA.out.2.2.1]
  have eN : ∀ w1, BW w0 w1 → ∀ d' os, (grow (redrawn w1 d') os).cell? ⟨W.heap.size, 24, none⟩ = some (.int .i64 mb) := fun w1 h d' os => by simp [World.cell?, HGe.out w1 h d' os, HA.out.2.2.2]
  have rv : ∀ w1, BW w0 w1 → ∀ d' os, (grow (redrawn w1 d') os).cell? ⟨rb, 1, none⟩ = some (.int .i64 val) := fun w1 h d' os => by simp only [World.cell?, HGr.out w1 h d' os]; rfl
  have rf : ∀ w1, BW w0 w1 → ∀ d' os, (grow (redrawn w1 d') os).cell? ⟨rb, 2, none⟩ = some (.bool true) := fun w1 h d' os => by simp only [World.cell?, HGr.out w1 h d' os]; rfl
  refine wp_region_calm 21 99 [0, 1, 2, 3, 4, 5, 6, 7, 8, 9, 10, 11, 12, 13, 14, 15, 16, 17, 18, 19, 20] (by kernel_rfl) (by kernel_rfl) (by intro oz h; simp at h) (by intro oz h; simp at h) (by rfl) ?_
  simp only [List.take_succ_cons, List.take_zero]
  iterate 18
    apply wpCalm_want
    · rfl
    · exact bc_refl
    · exact ⟨_, Below.refl _ _⟩
    · intro w00 hC0 K hK
      go_big_quiet_op
      exact hK
  apply wpCalm_want
  · rfl
  · exact bc_refl
  · exact ⟨_, Below.refl _ _⟩
  · intro w00 hC0 K hK
    go_big_quiet_op
    apply Exists.intro
    refine ⟨fun p => ?_, ?_⟩
    · exact Calls.regrown_of (HC1.out _)
    · exact hK
  have hd1 := HD1.out
  try simp only [hd1]
  apply wpCalm_want
  · rfl
  · exact bc_refl
  · exact ⟨_, Below.refl _ _⟩
  · intro w00 hC0 K hK
    go_big_quiet_op
    exact hK
  apply wpCalm_want
  · rfl
  · exact bc_refl
  · exact ⟨_, Below.refl _ _⟩
  · intro w00 hC0 K hK
    go_big_quiet_op
    exact hK
  refine wpCalm_nil ?_
  intro w2 hbq
  try simp only [List.drop_succ_cons, List.drop_zero]
  have HUw2 := Lib.hid ((hbq.block _ (lt_of_block HU1.out)).trans HU1.out)
  have HEw2 := Lib.hid ((hbq.block _ (lt_of_block HE.out)).trans HE.out)
  have HOw2 := Lib.hid (HO1.out.below hbq)
  have HKw2 : Hid (Kept (fun k => k = rb) W w2) := Lib.hid (HK1.out.then hbq)
  clear hbq eA eB eM eN rv rf HGe HGr HU1 HE HO1 HK1
  have HU1 := HUw2
  have HE := HEw2
  have HO1 := HOw2
  have HK1 := HKw2
  clear HUw2 HEw2 HOw2 HKw2
  have hd1 := HD1.out
  go_upto_region 6 with fail
  clear hd1
  have HGe : Hid (∀ w1, BW w2 w1 → ∀ d' os, (grow (redrawn w1 d') os).heap[W.heap.size]? = some (.cells E 97 (0, 0))) := Lib.hid (fun w1 h d' os => ((show Below w2.heap.size w2 (grow (redrawn w1 d') os) from bt h (below_regrown w1 d' os)).block _ (lt_of_block HE.out)).trans HE.out)
  have HGr : Hid (∀ w1, BW w2 w1 → ∀ d' os, (grow (redrawn w1 d') os).heap[rb]? = some (.cells (resC u val true) 34 (0, 0))) := Lib.hid (fun w1 h d' os => ((show Below w2.heap.size w2 (grow (redrawn w1 d') os) from bt h (below_regrown w1 d' os)).block _ (lt_of_block HU1.out)).trans HU1.out)
  have eA : ∀ w1, BW w2 w1 → ∀ d' os, (grow (redrawn w1 d') os).cell? ⟨W.heap.size, 31, none⟩ = some (.bool false) := fun w1 h d' os => by simp [World.cell?, HGe.out w1 h d' os, HA.out.1]
  have eB : ∀ w1, BW w2 w1 → ∀ d' os, (grow (redrawn w1 d') os).cell? ⟨W.heap.size, 23, none⟩ = some (.bool true) := fun w1 h d' os => by simp [World.cell?, HGe.out w1 h d' os, HA.out.2.1]
  have eM : ∀ w1, BW w2 w1 → ∀ d' os, (grow (redrawn w1 d') os).cell? ⟨W.heap.size, 32, none⟩ = some (.int .i64 ma) := fun w1 h d' os => by simp [World.cell?, HGe.out w1 h d' os, HA.out.2.2.1]
  have eN : ∀ w1, BW w2 w1 → ∀ d' os, (grow (redrawn w1 d') os).cell? ⟨W.heap.size, 24, none⟩ = some (.int .i64 mb) := fun w1 h d' os => by simp [World.cell?, HGe.out w1 h d' os, HA.out.2.2.2]
  have rv : ∀ w1, BW w2 w1 → ∀ d' os, (grow (redrawn w1 d') os).cell? ⟨rb, 1, none⟩ = some (.int .i64 val) := fun w1 h d' os => by simp only [World.cell?, HGr.out w1 h d' os]; rfl
  have rf : ∀ w1, BW w2 w1 → ∀ d' os, (grow (redrawn w1 d') os).cell? ⟨rb, 2, none⟩ = some (.bool true) := fun w1 h d' os => by simp only [World.cell?, HGr.out w1 h d' os]; rfl
  refine wp_region_calm 21 99 [0, 1, 2, 3, 4, 5, 6, 7, 8, 9, 10, 11, 12, 13, 14, 15, 16, 17, 18, 19, 20] (by kernel_rfl) (by kernel_rfl) (by intro oz h; simp at h) (by intro oz h; simp at h) (by rfl) ?_
  simp only [List.take_succ_cons, List.take_zero]
  iterate 4
    apply wpCalm_want
    · rfl
    · exact bc_refl
    · exact ⟨_, Below.refl _ _⟩
    · intro w00 hC0 K hK
      go_big_quiet_op
      exact hK
  refine wpCalm_skip (by rfl) ?_
  go_frame
  refine wpCalm_skip (by rfl) ?_
  go_frame
  refine wpCalm_skip (by rfl) ?_
  go_frame
  refine wpCalm_skip (by rfl) ?_
  go_frame
  refine wpCalm_skip (by rfl) ?_
  go_frame
  refine wpCalm_skip (by rfl) ?_
  go_frame
  refine wpCalm_skip (by rfl) ?_
  go_frame
  refine wpCalm_skip (by rfl) ?_
  go_frame
  refine wpCalm_skip (by rfl) ?_
  go_frame
  refine wpCalm_skip (by rfl) ?_
  go_frame
  refine wpCalm_skip (by rfl) ?_
  go_frame
  refine wpCalm_skip (by rfl) ?_
  go_frame
  refine wpCalm_skip (by rfl) ?_
  go_frame
  refine wpCalm_skip (by rfl) ?_
  go_frame
  refine wpCalm_skip (by rfl) ?_
  go_frame
  refine wpCalm_skip (by rfl) ?_
  go_frame
  refine wpCalm_skip (by rfl) ?_
  go_frame
  refine wpCalm_nil ?_
  intro w3 hbq
  try simp only [List.drop_succ_cons, List.drop_zero]
  have HUw3 := Lib.hid ((hbq.block _ (lt_of_block HU1.out)).trans HU1.out)
  have HEw3 := Lib.hid ((hbq.block _ (lt_of_block HE.out)).trans HE.out)
  have HOw3 := Lib.hid (HO1.out.below hbq)
  have HKw3 : Hid (Kept (fun k => k = rb) W w3) := Lib.hid (HK1.out.then hbq)
  clear hbq eA eB eM eN rv rf HGe HGr HU1 HE HO1 HK1
  have HU1 := HUw3
  have HE := HEw3
  have HO1 := HOw3
  have HK1 := HKw3
  clear HUw3 HEw3 HOw3 HKw3
  go_wp2_with fail
  go_ret
  exact ⟨rfl, fun r' h => by cases h; exact ⟨u, HU1.out, HO1.out⟩, HK1.out⟩
attribute [local irreducible] wpCalm in
set_option maxRecDepth 100000 in
set_option maxHeartbeats 4000000 in
theorem ext_111_0x1 {g : FuncId} {lt : Int → Int → Bool} {od : Int → Int → Int} (hOrd : Ord g lt od) (eg : ∀ args w, (callFunc g args).run Tryz.prog w = .ok (.enter g args) w) {E : Array Value} {rb base : Nat} {rows : List MRow} {val ma mb : Int} {u : Value} {W : World}
    (hu : W.heap[rb]? = some (.cells (resC u val true) 34 (0, 0))) (hO : OwnR W base u rows) (hE : E[31]? = some (.bool true) ∧ E[23]? = some (.bool true) ∧ E[32]? = some (.int .i64 ma) ∧ E[24]? = some (.int .i64 mb)) (h1 : lt val mb = true) (h3 : lt ma val = true) :
    Calls Tryz.prog 120 #[ptr rb, .agg E, fnV g #[]] W (PatchOut W rb base (some ⟨rows, ma, true⟩)) := by
  have HU := Lib.hid hu
  have HO := Lib.hid hO
  have HA := Lib.hid hE
  have HE : Hid ((W.alloc (.cells E 97)).heap[W.heap.size]? = some (.cells E 97 (0, 0))) := Lib.hid (heap_alloc_new W _)
  have HB : Hid (Below W.heap.size W (W.alloc (.cells E 97))) := Lib.hid (ba W _)
  have hlt := lt_of_block hu
  have hne : ¬ rb = W.heap.size := by omega
  have hne2 : ¬ W.heap.size = rb := by omega
  have HU1 := Lib.hid ((HB.out.block _ (lt_of_block HU.out)).trans HU.out)
  have HO1 := Lib.hid (HO.out.below HB.out)
  have HCall := Lib.hid hOrd.call
  have HD1 : Hid (decide (od mb val ≤ 0) = false) := Lib.hid (by rw [hOrd.le, h1]; rfl)
  have HD3 : Hid (decide (od ma val < 0) = true) := Lib.hid (by rw [hOrd.neg, h3])
  obtain ⟨ov, Hov⟩ : ∃ v, Hid (od mb val = v) := ⟨_, Lib.hid rfl⟩
  obtain ⟨oa, Hoa⟩ : ∃ v, Hid (od ma val = v) := ⟨_, Lib.hid rfl⟩
  have HC1 : Hid (∀ w, Calls Tryz.prog g #[.int .i64 mb, .int .i64 val] w fun e w' => e = .returned (.int .i64 ov) ∧ Below w.heap.size w w') := Lib.hid (fun w => by rw [← Hov.out]; exact HCall.out mb val w)
  have HC2 : Hid (∀ w, Calls Tryz.prog g #[.int .i64 ma, .int .i64 val] w fun e w' => e = .returned (.int .i64 oa) ∧ Below w.heap.size w w') := Lib.hid (fun w => by rw [← Hoa.out]; exact HCall.out ma val w)
  rw [Hov.out] at HD1
  rw [Hoa.out] at HD3
  clear hu hO hE hOrd h1 h3
  go_enter Tryz.func120, Tryz.ntmps120
  go_upto_region 1 with fail
  have HK1 : Hid (Kept (fun k => k = rb) W (W.alloc (.cells E 97))) := Lib.hid (Kept.of_below HB.out)
  generalize W.alloc (.cells E 97) = w0 at *
  have HGe : Hid (∀ w1, BW w0 w1 → ∀ d' os, (grow (redrawn w1 d') os).heap[W.heap.size]? = some (.cells E 97 (0, 0))) := Lib.hid (fun w1 h d' os => ((show Below w0.heap.size w0 (grow (redrawn w1 d') os) from bt h (below_regrown w1 d' os)).block _ (lt_of_block HE.out)).trans HE.out)
  have HGr : Hid (∀ w1, BW w0 w1 → ∀ d' os, (grow (redrawn w1 d') os).heap[rb]? = some (.cells (resC u val true) 34 (0, 0))) := Lib.hid (fun w1 h d' os => ((show Below w0.heap.size w0 (grow (redrawn w1 d') os) from bt h (below_regrown w1 d' os)).block _ (lt_of_block HU1.out)).trans HU1.out)
  have eA : ∀ w1, BW w0 w1 → ∀ d' os, (grow (redrawn w1 d') os).cell? ⟨W.heap.size, 31, none⟩ = some (.bool true) := fun w1 h d' os => by simp [World.cell?, HGe.out w1 h d' os, HA.out.1]
  have eB : ∀ w1, BW w0 w1 → ∀ d' os, (grow (redrawn w1 d') os).cell? ⟨W.heap.size, 23, none⟩ = some (.bool true) := fun w1 h d' os => by simp [World.cell?, HGe.out w1 h d' os, HA.out.2.1]
  have eM : ∀ w1, BW w0 w1 → ∀ d' os, (grow (redrawn w1 d') os).cell? ⟨W.heap.size, 32, none⟩ = some (.int .i64 ma) := fun w1 h d' os => by simp [World.cell?, HGe.out w1 h d' os, HA.out.2.2.1]
  have eN : ∀ w1, BW w0 w1 → ∀ d' os, (grow (redrawn w1 d') os).cell? ⟨W.heap.size, 24, none⟩ = some (.int .i64 mb) := fun w1 h d' os => by simp [World.cell?, HGe.out w1 h d' os, HA.out.2.2.2]
  have rv : ∀ w1, BW w0 w1 → ∀ d' os, (grow (redrawn w1 d') os).cell? ⟨rb, 1, none⟩ = some (.int .i64 val) := fun w1 h d' os => by simp only [World.cell?, HGr.out w1 h d' os]; rfl
  have rf : ∀ w1, BW w0 w1 → ∀ d' os, (grow (redrawn w1 d') os).cell? ⟨rb, 2, none⟩ = some (.bool true) := fun w1 h d' os => by simp only [World.cell?, HGr.out w1 h d' os]; rfl
  refine wp_region_calm 21 99 [0, 1, 2, 3, 4, 5, 6, 7, 8, 9, 10, 11, 12, 13, 14, 15, 16, 17, 18, 19, 20] (by kernel_rfl) (by kernel_rfl) (by intro oz h; simp at h) (by intro oz h; simp at h) (by rfl) ?_
  simp only [List.take_succ_cons, List.take_zero]
  iterate 18
    apply wpCalm_want
    · rfl
    · exact bc_refl
    · exact ⟨_, Below.refl _ _⟩
    · intro w00 hC0 K hK
      go_big_quiet_op
      exact hK
  apply wpCalm_want
  · rfl
  · exact bc_refl
  · exact ⟨_, Below.refl _ _⟩
  · intro w00 hC0 K hK
    go_big_quiet_op
    apply Exists.intro
    refine ⟨fun p => ?_, ?_⟩
    · exact Calls.regrown_of (HC1.out _)
    · exact hK
  have hd1 := HD1.out
  try simp only [hd1]
  apply wpCalm_want
  · rfl
  · exact bc_refl
  · exact ⟨_, Below.refl _ _⟩
  · intro w00 hC0 K hK
    go_big_quiet_op
    exact hK
  apply wpCalm_want
  · rfl
  · exact bc_refl
  · exact ⟨_, Below.refl _ _⟩
  · intro w00 hC0 K hK
    go_big_quiet_op
    exact hK
  refine wpCalm_nil ?_
  intro w2 hbq
  try simp only [List.drop_succ_cons, List.drop_zero]
  have HUw2 := Lib.hid ((hbq.block _ (lt_of_block HU1.out)).trans HU1.out)
  have HEw2 := Lib.hid ((hbq.block _ (lt_of_block HE.out)).trans HE.out)
  have HOw2 := Lib.hid (HO1.out.below hbq)
  have HKw2 : Hid (Kept (fun k => k = rb) W w2) := Lib.hid (HK1.out.then hbq)
  clear hbq eA eB eM eN rv rf HGe HGr HU1 HE HO1 HK1
  have HU1 := HUw2
  have HE := HEw2
  have HO1 := HOw2
  have HK1 := HKw2
  clear HUw2 HEw2 HOw2 HKw2
  have hd1 := HD1.out
  go_upto_region 6 with fail
  clear hd1
  have HGe : Hid (∀ w1, BW w2 w1 → ∀ d' os, (grow (redrawn w1 d') os).heap[W.heap.size]? = some (.cells E 97 (0, 0))) := Lib.hid (fun w1 h d' os => ((show Below w2.heap.size w2 (grow (redrawn w1 d') os) from bt h (below_regrown w1 d' os)).block _ (lt_of_block HE.out)).trans HE.out)
  have HGr : Hid (∀ w1, BW w2 w1 → ∀ d' os, (grow (redrawn w1 d') os).heap[rb]? = some (.cells (resC u val true) 34 (0, 0))) := Lib.hid (fun w1 h d' os => ((show Below w2.heap.size w2 (grow (redrawn w1 d') os) from bt h (below_regrown w1 d' os)).block _ (lt_of_block HU1.out)).trans HU1.out)
  have eA : ∀ w1, BW w2 w1 → ∀ d' os, (grow (redrawn w1 d') os).cell? ⟨W.heap.size, 31, none⟩ = some (.bool true) := fun w1 h d' os => by simp [World.cell?, HGe.out w1 h d' os, HA.out.1]
  have eB : ∀ w1, BW w2 w1 → ∀ d' os, (grow (redrawn w1 d') os).cell? ⟨W.heap.size, 23, none⟩ = some (.bool true) := fun w1 h d' os => by simp [World.cell?, HGe.out w1 h d' os, HA.out.2.1]
  have eM : ∀ w1, BW w2 w1 → ∀ d' os, (grow (redrawn w1 d') os).cell? ⟨W.heap.size, 32, none⟩ = some (.int .i64 ma) := fun w1 h d' os => by simp [World.cell?, HGe.out w1 h d' os, HA.out.2.2.1]
  have eN : ∀ w1, BW w2 w1 → ∀ d' os, (grow (redrawn w1 d') os).cell? ⟨W.heap.size, 24, none⟩ = some (.int .i64 mb) := fun w1 h d' os => by simp [World.cell?, HGe.out w1 h d' os, HA.out.2.2.2]
  have rv : ∀ w1, BW w2 w1 → ∀ d' os, (grow (redrawn w1 d') os).cell? ⟨rb, 1, none⟩ = some (.int .i64 val) := fun w1 h d' os => by simp only [World.cell?, HGr.out w1 h d' os]; rfl
  have rf : ∀ w1, BW w2 w1 → ∀ d' os, (grow (redrawn w1 d') os).cell? ⟨rb, 2, none⟩ = some (.bool true) := fun w1 h d' os => by simp only [World.cell?, HGr.out w1 h d' os]; rfl
  refine wp_region_calm 21 99 [0, 1, 2, 3, 4, 5, 6, 7, 8, 9, 10, 11, 12, 13, 14, 15, 16, 17, 18, 19, 20] (by kernel_rfl) (by kernel_rfl) (by intro oz h; simp at h) (by intro oz h; simp at h) (by rfl) ?_
  simp only [List.take_succ_cons, List.take_zero]
  iterate 18
    apply wpCalm_want
    · rfl
    · exact bc_refl
    · exact ⟨_, Below.refl _ _⟩
    · intro w00 hC0 K hK
      go_big_quiet_op
      exact hK
  apply wpCalm_want
  · rfl
  · exact bc_refl
  · exact ⟨_, Below.refl _ _⟩
  · intro w00 hC0 K hK
    go_big_quiet_op
    apply Exists.intro
    refine ⟨fun p => ?_, ?_⟩
    · exact Calls.regrown_of (HC2.out _)
    · exact hK
  have hd3 := HD3.out
  try simp only [hd3]
  apply wpCalm_want
  · rfl
  · exact bc_refl
  · exact ⟨_, Below.refl _ _⟩
  · intro w00 hC0 K hK
    go_big_quiet_op
    exact hK
  apply wpCalm_want
  · rfl
  · exact bc_refl
  · exact ⟨_, Below.refl _ _⟩
  · intro w00 hC0 K hK
    go_big_quiet_op
    exact hK
  refine wpCalm_nil ?_
  intro w3 hbq
  try simp only [List.drop_succ_cons, List.drop_zero]
  have HUw3 := Lib.hid ((hbq.block _ (lt_of_block HU1.out)).trans HU1.out)
  have HEw3 := Lib.hid ((hbq.block _ (lt_of_block HE.out)).trans HE.out)
  have HOw3 := Lib.hid (HO1.out.below hbq)
  have HKw3 : Hid (Kept (fun k => k = rb) W w3) := Lib.hid (HK1.out.then hbq)
  clear hbq eA eB eM eN rv rf HGe HGr HU1 HE HO1 HK1
  have HU1 := HUw3
  have HE := HEw3
  have HO1 := HOw3
  have HK1 := HKw3
  clear HUw3 HEw3 HOw3 HKw3
  have hd3 := HD3.out
  have eM : w3.cell? ⟨W.heap.size, 32, none⟩ = some (.int .i64 ma) := by simp [World.cell?, HE.out, HA.out.2.2.1]
  have rv : w3.cell? ⟨rb, 1, none⟩ = some (.int .i64 val) := by simp only [World.cell?, HU1.out]; rfl
  have rv2 : w3.cell? ⟨rb, 2, none⟩ = some (.bool true) := by simp only [World.cell?, HU1.out]; rfl
  have rf : w3.frozen? ⟨rb, 1, none⟩ = false := by simp [World.frozen?, HU1.out]
  have rf2 : w3.frozen? ⟨rb, 2, none⟩ = false := by simp [World.frozen?, HU1.out]
  have HS2 : Hid (∀ n b, ResAt ((w3.setCell ⟨rb, 1, none⟩ (.int .i64 n)).setCell ⟨rb, 2, none⟩ (.bool b)) rb base ⟨rows, n, b⟩ ∧ Kept (fun k => k = rb) W ((w3.setCell ⟨rb, 1, none⟩ (.int .i64 n)).setCell ⟨rb, 2, none⟩ (.bool b))) := Lib.hid (fun n b => ⟨⟨u, setC_heap (setC_heap HU1.out 1 _) 2 _, own_setc (own_setc HO1.out HU1.out) (setC_heap HU1.out 1 _)⟩, Kept.setCell (F := fun i => i = rb) (p := ⟨rb, 2, none⟩) (Kept.setCell (F := fun i => i = rb) (p := ⟨rb, 1, none⟩) HK1.out (.inl rfl) _) (.inl rfl) _⟩)
  go_wp2_with fail
  go_ret
  exact ⟨rfl, fun r' h => by cases h; exact (HS2.out _ _).1, (HS2.out _ _).2⟩
attribute [local irreducible] wpCalm in
set_option maxRecDepth 100000 in
set_option maxHeartbeats 4000000 in
theorem ext_111_0x0 {g : FuncId} {lt : Int → Int → Bool} {od : Int → Int → Int} (hOrd : Ord g lt od) (eg : ∀ args w, (callFunc g args).run Tryz.prog w = .ok (.enter g args) w) {E : Array Value} {rb base : Nat} {rows : List MRow} {val ma mb : Int} {u : Value} {W : World}
    (hu : W.heap[rb]? = some (.cells (resC u val true) 34 (0, 0))) (hO : OwnR W base u rows) (hE : E[31]? = some (.bool true) ∧ E[23]? = some (.bool true) ∧ E[32]? = some (.int .i64 ma) ∧ E[24]? = some (.int .i64 mb)) (h1 : lt val mb = true) (h3 : lt ma val = false) :
    Calls Tryz.prog 120 #[ptr rb, .agg E, fnV g #[]] W (PatchOut W rb base (some ⟨rows, val, true⟩)) := by
  have HU := Lib.hid hu
  have HO := Lib.hid hO
  have HA := Lib.hid hE
  have HE : Hid ((W.alloc (.cells E 97)).heap[W.heap.size]? = some (.cells E 97 (0, 0))) := Lib.hid (heap_alloc_new W _)
  have HB : Hid (Below W.heap.size W (W.alloc (.cells E 97))) := Lib.hid (ba W _)
  have hlt := lt_of_block hu
  have hne : ¬ rb = W.heap.size := by omega
  have hne2 : ¬ W.heap.size = rb := by omega
  have HU1 := Lib.hid ((HB.out.block _ (lt_of_block HU.out)).trans HU.out)
  have HO1 := Lib.hid (HO.out.below HB.out)
  have HCall := Lib.hid hOrd.call
  have HD1 : Hid (decide (od mb val ≤ 0) = false) := Lib.hid (by rw [hOrd.le, h1]; rfl)
  have HD3 : Hid (decide (od ma val < 0) = false) := Lib.hid (by rw [hOrd.neg, h3])
  obtain ⟨ov, Hov⟩ : ∃ v, Hid (od mb val = v) := ⟨_, Lib.hid rfl⟩
  obtain ⟨oa, Hoa⟩ : ∃ v, Hid (od ma val = v) := ⟨_, Lib.hid rfl⟩
  have HC1 : Hid (∀ w, Calls Tryz.prog g #[.int .i64 mb, .int .i64 val] w fun e w' => e = .returned (.int .i64 ov) ∧ Below w.heap.size w w') := Lib.hid (fun w => by rw [← Hov.out]; exact HCall.out mb val w)
  have HC2 : Hid (∀ w, Calls Tryz.prog g #[.int .i64 ma, .int .i64 val] w fun e w' => e = .returned (.int .i64 oa) ∧ Below w.heap.size w w') := Lib.hid (fun w => by rw [← Hoa.out]; exact HCall.out ma val w)
  rw [Hov.out] at HD1
  rw [Hoa.out] at HD3
  clear hu hO hE hOrd h1 h3
  go_enter Tryz.func120, Tryz.ntmps120
  go_upto_region 1 with fail
  have HK1 : Hid (Kept (fun k => k = rb) W (W.alloc (.cells E 97))) := Lib.hid (Kept.of_below HB.out)
  generalize W.alloc (.cells E 97) = w0 at *
  have HGe : Hid (∀ w1, BW w0 w1 → ∀ d' os, (grow (redrawn w1 d') os).heap[W.heap.size]? = some (.cells E 97 (0, 0))) := Lib.hid (fun w1 h d' os => ((show Below w0.heap.size w0 (grow (redrawn w1 d') os) from bt h (below_regrown w1 d' os)).block _ (lt_of_block HE.out)).trans HE.out)
  have HGr : Hid (∀ w1, BW w0 w1 → ∀ d' os, (grow (redrawn w1 d') os).heap[rb]? = some (.cells (resC u val true) 34 (0, 0))) := Lib.hid (fun w1 h d' os => ((show Below w0.heap.size w0 (grow (redrawn w1 d') os) from bt h (below_regrown w1 d' os)).block _ (lt_of_block HU1.out)).trans HU1.out)
  have eA : ∀ w1, BW w0 w1 → ∀ d' os, (grow (redrawn w1 d') os).cell? ⟨W.heap.size, 31, none⟩ = some (.bool true) := fun w1 h d' os => by simp [World.cell?, HGe.out w1 h d' os, HA.out.1]
  have eB : ∀ w1, BW w0 w1 → ∀ d' os, (grow (redrawn w1 d') os).cell? ⟨W.heap.size, 23, none⟩ = some (.bool true) := fun w1 h d' os => by simp [World.cell?, HGe.out w1 h d' os, HA.out.2.1]
  have eM : ∀ w1, BW w0 w1 → ∀ d' os, (grow (redrawn w1 d') os).cell? ⟨W.heap.size, 32, none⟩ = some (.int .i64 ma) := fun w1 h d' os => by simp [World.cell?, HGe.out w1 h d' os, HA.out.2.2.1]
  have eN : ∀ w1, BW w0 w1 → ∀ d' os, (grow (redrawn w1 d') os).cell? ⟨W.heap.size, 24, none⟩ = some (.int .i64 mb) := fun w1 h d' os => by simp [World.cell?, HGe.out w1 h d' os, HA.out.2.2.2]
  have rv : ∀ w1, BW w0 w1 → ∀ d' os, (grow (redrawn w1 d') os).cell? ⟨rb, 1, none⟩ = some (.int .i64 val) := fun w1 h d' os => by simp only [World.cell?, HGr.out w1 h d' os]; rfl
  have rf : ∀ w1, BW w0 w1 → ∀ d' os, (grow (redrawn w1 d') os).cell? ⟨rb, 2, none⟩ = some (.bool true) := fun w1 h d' os => by simp only [World.cell?, HGr.out w1 h d' os]; rfl
  refine wp_region_calm 21 99 [0, 1, 2, 3, 4, 5, 6, 7, 8, 9, 10, 11, 12, 13, 14, 15, 16, 17, 18, 19, 20] (by kernel_rfl) (by kernel_rfl) (by intro oz h; simp at h) (by intro oz h; simp at h) (by rfl) ?_
  simp only [List.take_succ_cons, List.take_zero]
  iterate 18
    apply wpCalm_want
    · rfl
    · exact bc_refl
    · exact ⟨_, Below.refl _ _⟩
    · intro w00 hC0 K hK
      go_big_quiet_op
      exact hK
  apply wpCalm_want
  · rfl
  · exact bc_refl
  · exact ⟨_, Below.refl _ _⟩
  · intro w00 hC0 K hK
    go_big_quiet_op
    apply Exists.intro
    refine ⟨fun p => ?_, ?_⟩
    · exact Calls.regrown_of (HC1.out _)
    · exact hK
  have hd1 := HD1.out
  try simp only [hd1]
  apply wpCalm_want
  · rfl
  · exact bc_refl
  · exact ⟨_, Below.refl _ _⟩
  · intro w00 hC0 K hK
    go_big_quiet_op
    exact hK
  apply wpCalm_want
  · rfl
  · exact bc_refl
  · exact ⟨_, Below.refl _ _⟩
  · intro w00 hC0 K hK
    go_big_quiet_op
    exact hK
  refine wpCalm_nil ?_
  intro w2 hbq
  try simp only [List.drop_succ_cons, List.drop_zero]
  have HUw2 := Lib.hid ((hbq.block _ (lt_of_block HU1.out)).trans HU1.out)
  have HEw2 := Lib.hid ((hbq.block _ (lt_of_block HE.out)).trans HE.out)
  have HOw2 := Lib.hid (HO1.out.below hbq)
  have HKw2 : Hid (Kept (fun k => k = rb) W w2) := Lib.hid (HK1.out.then hbq)
  clear hbq eA eB eM eN rv rf HGe HGr HU1 HE HO1 HK1
  have HU1 := HUw2
  have HE := HEw2
  have HO1 := HOw2
  have HK1 := HKw2
  clear HUw2 HEw2 HOw2 HKw2
  have hd1 := HD1.out
  go_upto_region 6 with fail
  clear hd1
  have HGe : Hid (∀ w1, BW w2 w1 → ∀ d' os, (grow (redrawn w1 d') os).heap[W.heap.size]? = some (.cells E 97 (0, 0))) := Lib.hid (fun w1 h d' os => ((show Below w2.heap.size w2 (grow (redrawn w1 d') os) from bt h (below_regrown w1 d' os)).block _ (lt_of_block HE.out)).trans HE.out)
  have HGr : Hid (∀ w1, BW w2 w1 → ∀ d' os, (grow (redrawn w1 d') os).heap[rb]? = some (.cells (resC u val true) 34 (0, 0))) := Lib.hid (fun w1 h d' os => ((show Below w2.heap.size w2 (grow (redrawn w1 d') os) from bt h (below_regrown w1 d' os)).block _ (lt_of_block HU1.out)).trans HU1.out)
  have eA : ∀ w1, BW w2 w1 → ∀ d' os, (grow (redrawn w1 d') os).cell? ⟨W.heap.size, 31, none⟩ = some (.bool true) := fun w1 h d' os => by simp [World.cell?, HGe.out w1 h d' os, HA.out.1]
  have eB : ∀ w1, BW w2 w1 → ∀ d' os, (grow (redrawn w1 d') os).cell? ⟨W.heap.size, 23, none⟩ = some (.bool true) := fun w1 h d' os => by simp [World.cell?, HGe.out w1 h d' os, HA.out.2.1]
  have eM : ∀ w1, BW w2 w1 → ∀ d' os, (grow (redrawn w1 d') os).cell? ⟨W.heap.size, 32, none⟩ = some (.int .i64 ma) := fun w1 h d' os => by simp [World.cell?, HGe.out w1 h d' os, HA.out.2.2.1]
  have eN : ∀ w1, BW w2 w1 → ∀ d' os, (grow (redrawn w1 d') os).cell? ⟨W.heap.size, 24, none⟩ = some (.int .i64 mb) := fun w1 h d' os => by simp [World.cell?, HGe.out w1 h d' os, HA.out.2.2.2]
  have rv : ∀ w1, BW w2 w1 → ∀ d' os, (grow (redrawn w1 d') os).cell? ⟨rb, 1, none⟩ = some (.int .i64 val) := fun w1 h d' os => by simp only [World.cell?, HGr.out w1 h d' os]; rfl
  have rf : ∀ w1, BW w2 w1 → ∀ d' os, (grow (redrawn w1 d') os).cell? ⟨rb, 2, none⟩ = some (.bool true) := fun w1 h d' os => by simp only [World.cell?, HGr.out w1 h d' os]; rfl
  refine wp_region_calm 21 99 [0, 1, 2, 3, 4, 5, 6, 7, 8, 9, 10, 11, 12, 13, 14, 15, 16, 17, 18, 19, 20] (by kernel_rfl) (by kernel_rfl) (by intro oz h; simp at h) (by intro oz h; simp at h) (by rfl) ?_
  simp only [List.take_succ_cons, List.take_zero]
  iterate 18
    apply wpCalm_want
    · rfl
    · exact bc_refl
    · exact ⟨_, Below.refl _ _⟩
    · intro w00 hC0 K hK
      go_big_quiet_op
      exact hK
  apply wpCalm_want
  · rfl
  · exact bc_refl
  · exact ⟨_, Below.refl _ _⟩
  · intro w00 hC0 K hK
    go_big_quiet_op
    apply Exists.intro
    refine ⟨fun p => ?_, ?_⟩
    · exact Calls.regrown_of (HC2.out _)
    · exact hK
  have hd3 := HD3.out
  try simp only [hd3]
  apply wpCalm_want
  · rfl
  · exact bc_refl
  · exact ⟨_, Below.refl _ _⟩
  · intro w00 hC0 K hK
    go_big_quiet_op
    exact hK
  apply wpCalm_want
  · rfl
  · exact bc_refl
  · exact ⟨_, Below.refl _ _⟩
  · intro w00 hC0 K hK
    go_big_quiet_op
    exact hK
  refine wpCalm_nil ?_
  intro w3 hbq
  try simp only [List.drop_succ_cons, List.drop_zero]
  have HUw3 := Lib.hid ((hbq.block _ (lt_of_block HU1.out)).trans HU1.out)
  have HEw3 := Lib.hid ((hbq.block _ (lt_of_block HE.out)).trans HE.out)
  have HOw3 := Lib.hid (HO1.out.below hbq)
  have HKw3 : Hid (Kept (fun k => k = rb) W w3) := Lib.hid (HK1.out.then hbq)
  clear hbq eA eB eM eN rv rf HGe HGr HU1 HE HO1 HK1
  have HU1 := HUw3
  have HE := HEw3
  have HO1 := HOw3
  have HK1 := HKw3
  clear HUw3 HEw3 HOw3 HKw3
  have hd3 := HD3.out
  go_wp2_with fail
  go_ret
  exact ⟨rfl, fun r' h => by cases h; exact ⟨u, HU1.out, HO1.out⟩, HK1.out⟩
attribute [local irreducible] wpCalm in
set_option maxRecDepth 100000 in
set_option maxHeartbeats 4000000 in
theorem ext_000_xxx {g : FuncId} {lt : Int → Int → Bool} {od : Int → Int → Int} (hOrd : Ord g lt od) (eg : ∀ args w, (callFunc g args).run Tryz.prog w = .ok (.enter g args) w) {E : Array Value} {rb base : Nat} {rows : List MRow} {val ma mb : Int} {u : Value} {W : World}
    (hu : W.heap[rb]? = some (.cells (resC u val false) 34 (0, 0))) (hO : OwnR W base u rows) (hE : E[31]? = some (.bool false) ∧ E[23]? = some (.bool false) ∧ E[32]? = some (.int .i64 ma) ∧ E[24]? = some (.int .i64 mb)) :
    Calls Tryz.prog 120 #[ptr rb, .agg E, fnV g #[]] W (PatchOut W rb base (some ⟨rows, val, false⟩)) := by
  have HU := Lib.hid hu
  have HO := Lib.hid hO
  have HA := Lib.hid hE
  have HE : Hid ((W.alloc (.cells E 97)).heap[W.heap.size]? = some (.cells E 97 (0, 0))) := Lib.hid (heap_alloc_new W _)
  have HB : Hid (Below W.heap.size W (W.alloc (.cells E 97))) := Lib.hid (ba W _)
  have hlt := lt_of_block hu
  have hne : ¬ rb = W.heap.size := by omega
  have hne2 : ¬ W.heap.size = rb := by omega
  have HU1 := Lib.hid ((HB.out.block _ (lt_of_block HU.out)).trans HU.out)
  have HO1 := Lib.hid (HO.out.below HB.out)
  have HCall := Lib.hid hOrd.call
  obtain ⟨ov, Hov⟩ : ∃ v, Hid (od mb val = v) := ⟨_, Lib.hid rfl⟩
  obtain ⟨oa, Hoa⟩ : ∃ v, Hid (od ma val = v) := ⟨_, Lib.hid rfl⟩
  have HC1 : Hid (∀ w, Calls Tryz.prog g #[.int .i64 mb, .int .i64 val] w fun e w' => e = .returned (.int .i64 ov) ∧ Below w.heap.size w w') := Lib.hid (fun w => by rw [← Hov.out]; exact HCall.out mb val w)
  have HC2 : Hid (∀ w, Calls Tryz.prog g #[.int .i64 ma, .int .i64 val] w fun e w' => e = .returned (.int .i64 oa) ∧ Below w.heap.size w w') := Lib.hid (fun w => by rw [← Hoa.out]; exact HCall.out ma val w)
  clear hu hO hE hOrd
  go_enter Tryz.func120, Tryz.ntmps120
  go_upto_region 1 with fail
  have HK1 : Hid (Kept (fun k => k = rb) W (W.alloc (.cells E 97))) := Lib.hid (Kept.of_below HB.out)
  generalize W.alloc (.cells E 97) = w0 at *
  have HGe : Hid (∀ w1, BW w0 w1 → ∀ d' os, (grow (redrawn w1 d') os).heap[W.heap.size]? = some (.cells E 97 (0, 0))) := Lib.hid (fun w1 h d' os => ((show Below w0.heap.size w0 (grow (redrawn w1 d') os) from bt h (below_regrown w1 d' os)).block _ (lt_of_block HE.out)).trans HE.out)
  have HGr : Hid (∀ w1, BW w0 w1 → ∀ d' os, (grow (redrawn w1 d') os).heap[rb]? = some (.cells (resC u val false) 34 (0, 0))) := Lib.hid (fun w1 h d' os => ((show Below w0.heap.size w0 (grow (redrawn w1 d') os) from bt h (below_regrown w1 d' os)).block _ (lt_of_block HU1.out)).trans HU1.out)
  have eA : ∀ w1, BW w0 w1 → ∀ d' os, (grow (redrawn w1 d') os).cell? ⟨W.heap.size, 31, none⟩ = some (.bool false) := fun w1 h d' os => by simp [World.cell?, HGe.out w1 h d' os, HA.out.1]
  have eB : ∀ w1, BW w0 w1 → ∀ d' os, (grow (redrawn w1 d') os).cell? ⟨W.heap.size, 23, none⟩ = some (.bool false) := fun w1 h d' os => by simp [World.cell?, HGe.out w1 h d' os, HA.out.2.1]
  have eM : ∀ w1, BW w0 w1 → ∀ d' os, (grow (redrawn w1 d') os).cell? ⟨W.heap.size, 32, none⟩ = some (.int .i64 ma) := fun w1 h d' os => by simp [World.cell?, HGe.out w1 h d' os, HA.out.2.2.1]
  have eN : ∀ w1, BW w0 w1 → ∀ d' os, (grow (redrawn w1 d') os).cell? ⟨W.heap.size, 24, none⟩ = some (.int .i64 mb) := fun w1 h d' os => by simp [World.cell?, HGe.out w1 h d' os, HA.out.2.2.2]
  have rv : ∀ w1, BW w0 w1 → ∀ d' os, (grow (redrawn w1 d') os).cell? ⟨rb, 1, none⟩ = some (.int .i64 val) := fun w1 h d' os => by simp only [World.cell?, HGr.out w1 h d' os]; rfl
  have rf : ∀ w1, BW w0 w1 → ∀ d' os, (grow (redrawn w1 d') os).cell? ⟨rb, 2, none⟩ = some (.bool false) := fun w1 h d' os => by simp only [World.cell?, HGr.out w1 h d' os]; rfl
  refine wp_region_calm 21 99 [0, 1, 2, 3, 4, 5, 6, 7, 8, 9, 10, 11, 12, 13, 14, 15, 16, 17, 18, 19, 20] (by kernel_rfl) (by kernel_rfl) (by intro oz h; simp at h) (by intro oz h; simp at h) (by rfl) ?_
  simp only [List.take_succ_cons, List.take_zero]
  iterate 4
    apply wpCalm_want
    · rfl
    · exact bc_refl
    · exact ⟨_, Below.refl _ _⟩
    · intro w00 hC0 K hK
      go_big_quiet_op
      exact hK
  refine wpCalm_skip (by rfl) ?_
  go_frame
  refine wpCalm_skip (by rfl) ?_
  go_frame
  refine wpCalm_skip (by rfl) ?_
  go_frame
  refine wpCalm_skip (by rfl) ?_
  go_frame
  refine wpCalm_skip (by rfl) ?_
  go_frame
  refine wpCalm_skip (by rfl) ?_
  go_frame
  refine wpCalm_skip (by rfl) ?_
  go_frame
  refine wpCalm_skip (by rfl) ?_
  go_frame
  refine wpCalm_skip (by rfl) ?_
  go_frame
  refine wpCalm_skip (by rfl) ?_
  go_frame
  refine wpCalm_skip (by rfl) ?_
  go_frame
  refine wpCalm_skip (by rfl) ?_
  go_frame
  refine wpCalm_skip (by rfl) ?_
  go_frame
  refine wpCalm_skip (by rfl) ?_
  go_frame
  refine wpCalm_skip (by rfl) ?_
  go_frame
  refine wpCalm_skip (by rfl) ?_
  go_frame
  refine wpCalm_skip (by rfl) ?_
  go_frame
  refine wpCalm_nil ?_
  intro w2 hbq
  try simp only [List.drop_succ_cons, List.drop_zero]
  have HUw2 := Lib.hid ((hbq.block _ (lt_of_block HU1.out)).trans HU1.out)
  have HEw2 := Lib.hid ((hbq.block _ (lt_of_block HE.out)).trans HE.out)
  have HOw2 := Lib.hid (HO1.out.below hbq)
  have HKw2 : Hid (Kept (fun k => k = rb) W w2) := Lib.hid (HK1.out.then hbq)
  clear hbq eA eB eM eN rv rf HGe HGr HU1 HE HO1 HK1
  have HU1 := HUw2
  have HE := HEw2
  have HO1 := HOw2
  have HK1 := HKw2
  clear HUw2 HEw2 HOw2 HKw2
  go_upto_region 6 with fail
  have HGe : Hid (∀ w1, BW w2 w1 → ∀ d' os, (grow (redrawn w1 d') os).heap[W.heap.size]? = some (.cells E 97 (0, 0))) := Lib.hid (fun w1 h d' os => ((show Below w2.heap.size w2 (grow (redrawn w1 d') os) from bt h (below_regrown w1 d' os)).block _ (lt_of_block HE.out)).trans HE.out)
  have HGr : Hid (∀ w1, BW w2 w1 → ∀ d' os, (grow (redrawn w1 d') os).heap[rb]? = some (.cells (resC u val false) 34 (0, 0))) := Lib.hid (fun w1 h d' os => ((show Below w2.heap.size w2 (grow (redrawn w1 d') os) from bt h (below_regrown w1 d' os)).block _ (lt_of_block HU1.out)).trans HU1.out)
  have eA : ∀ w1, BW w2 w1 → ∀ d' os, (grow (redrawn w1 d') os).cell? ⟨W.heap.size, 31, none⟩ = some (.bool false) := fun w1 h d' os => by simp [World.cell?, HGe.out w1 h d' os, HA.out.1]
  have eB : ∀ w1, BW w2 w1 → ∀ d' os, (grow (redrawn w1 d') os).cell? ⟨W.heap.size, 23, none⟩ = some (.bool false) := fun w1 h d' os => by simp [World.cell?, HGe.out w1 h d' os, HA.out.2.1]
  have eM : ∀ w1, BW w2 w1 → ∀ d' os, (grow (redrawn w1 d') os).cell? ⟨W.heap.size, 32, none⟩ = some (.int .i64 ma) := fun w1 h d' os => by simp [World.cell?, HGe.out w1 h d' os, HA.out.2.2.1]
  have eN : ∀ w1, BW w2 w1 → ∀ d' os, (grow (redrawn w1 d') os).cell? ⟨W.heap.size, 24, none⟩ = some (.int .i64 mb) := fun w1 h d' os => by simp [World.cell?, HGe.out w1 h d' os, HA.out.2.2.2]
  have rv : ∀ w1, BW w2 w1 → ∀ d' os, (grow (redrawn w1 d') os).cell? ⟨rb, 1, none⟩ = some (.int .i64 val) := fun w1 h d' os => by simp only [World.cell?, HGr.out w1 h d' os]; rfl
  have rf : ∀ w1, BW w2 w1 → ∀ d' os, (grow (redrawn w1 d') os).cell? ⟨rb, 2, none⟩ = some (.bool false) := fun w1 h d' os => by simp only [World.cell?, HGr.out w1 h d' os]; rfl
  refine wp_region_calm 21 99 [0, 1, 2, 3, 4, 5, 6, 7, 8, 9, 10, 11, 12, 13, 14, 15, 16, 17, 18, 19, 20] (by kernel_rfl) (by kernel_rfl) (by intro oz h; simp at h) (by intro oz h; simp at h) (by rfl) ?_
  simp only [List.take_succ_cons, List.take_zero]
  iterate 4
    apply wpCalm_want
    · rfl
    · exact bc_refl
    · exact ⟨_, Below.refl _ _⟩
    · intro w00 hC0 K hK
      go_big_quiet_op
      exact hK
  refine wpCalm_skip (by rfl) ?_
  go_frame
  refine wpCalm_skip (by rfl) ?_
  go_frame
  refine wpCalm_skip (by rfl) ?_
  go_frame
  refine wpCalm_skip (by rfl) ?_
  go_frame
  refine wpCalm_skip (by rfl) ?_
  go_frame
  refine wpCalm_skip (by rfl) ?_
  go_frame
  refine wpCalm_skip (by rfl) ?_
  go_frame
  refine wpCalm_skip (by rfl) ?_
  go_frame
  refine wpCalm_skip (by rfl) ?_
  go_frame
  refine wpCalm_skip (by rfl) ?_
  go_frame
  refine wpCalm_skip (by rfl) ?_
  go_frame
  refine wpCalm_skip (by rfl) ?_
  go_frame
  refine wpCalm_skip (by rfl) ?_
  go_frame
  refine wpCalm_skip (by rfl) ?_
  go_frame
  refine wpCalm_skip (by rfl) ?_
  go_frame
  refine wpCalm_skip (by rfl) ?_
  go_frame
  refine wpCalm_skip (by rfl) ?_
  go_frame
  refine wpCalm_nil ?_
  intro w3 hbq
  try simp only [List.drop_succ_cons, List.drop_zero]
  have HUw3 := Lib.hid ((hbq.block _ (lt_of_block HU1.out)).trans HU1.out)
  have HEw3 := Lib.hid ((hbq.block _ (lt_of_block HE.out)).trans HE.out)
  have HOw3 := Lib.hid (HO1.out.below hbq)
  have HKw3 : Hid (Kept (fun k => k = rb) W w3) := Lib.hid (HK1.out.then hbq)
  clear hbq eA eB eM eN rv rf HGe HGr HU1 HE HO1 HK1
  have HU1 := HUw3
  have HE := HEw3
  have HO1 := HOw3
  have HK1 := HKw3
  clear HUw3 HEw3 HOw3 HKw3
  go_wp2_with fail
  go_ret
  exact ⟨rfl, fun r' h => by cases h; exact ⟨u, HU1.out, HO1.out⟩, HK1.out⟩
attribute [local irreducible] wpCalm in
set_option maxRecDepth 100000 in
set_option maxHeartbeats 4000000 in
theorem ext_010_xxx {g : FuncId} {lt : Int → Int → Bool} {od : Int → Int → Int} (hOrd : Ord g lt od) (eg : ∀ args w, (callFunc g args).run Tryz.prog w = .ok (.enter g args) w) {E : Array Value} {rb base : Nat} {rows : List MRow} {val ma mb : Int} {u : Value} {W : World}
    (hu : W.heap[rb]? = some (.cells (resC u val true) 34 (0, 0))) (hO : OwnR W base u rows) (hE : E[31]? = some (.bool false) ∧ E[23]? = some (.bool false) ∧ E[32]? = some (.int .i64 ma) ∧ E[24]? = some (.int .i64 mb)) :
    Calls Tryz.prog 120 #[ptr rb, .agg E, fnV g #[]] W (PatchOut W rb base (some ⟨rows, val, true⟩)) := by
  have HU := Lib.hid hu
  have HO := Lib.hid hO
  have HA := Lib.hid hE
  have HE : Hid ((W.alloc (.cells E 97)).heap[W.heap.size]? = some (.cells E 97 (0, 0))) := Lib.hid (heap_alloc_new W _)
  have HB : Hid (Below W.heap.size W (W.alloc (.cells E 97))) := Lib.hid (ba W _)
  have hlt := lt_of_block hu
  have hne : ¬ rb = W.heap.size := by omega
  have hne2 : ¬ W.heap.size = rb := by omega
  have HU1 := Lib.hid ((HB.out.block _ (lt_of_block HU.out)).trans HU.out)
  have HO1 := Lib.hid (HO.out.below HB.out)
  have HCall := Lib.hid hOrd.call
  obtain ⟨ov, Hov⟩ : ∃ v, Hid (od mb val = v) := ⟨_, Lib.hid rfl⟩
  obtain ⟨oa, Hoa⟩ : ∃ v, Hid (od ma val = v) := ⟨_, Lib.hid rfl⟩
  have HC1 : Hid (∀ w, Calls Tryz.prog g #[.int .i64 mb, .int .i64 val] w fun e w' => e = .returned (.int .i64 ov) ∧ Below w.heap.size w w') := Lib.hid (fun w => by rw [← Hov.out]; exact HCall.out mb val w)
  have HC2 : Hid (∀ w, Calls Tryz.prog g #[.int .i64 ma, .int .i64 val] w fun e w' => e = .returned (.int .i64 oa) ∧ Below w.heap.size w w') := Lib.hid (fun w => by rw [← Hoa.out]; exact HCall.out ma val w)
  clear hu hO hE hOrd
  go_enter Tryz.func120, Tryz.ntmps120
  go_upto_region 1 with fail
  have HK1 : Hid (Kept (fun k => k = rb) W (W.alloc (.cells E 97))) := Lib.hid (Kept.of_below HB.out)
  generalize W.alloc (.cells E 97) = w0 at *
  have HGe : Hid (∀ w1, BW w0 w1 → ∀ d' os, (grow (redrawn w1 d') os).heap[W.heap.size]? = some (.cells E 97 (0, 0))) := Lib.hid (fun w1 h d' os => ((show Below w0.heap.size w0 (grow (redrawn w1 d') os) from bt h (below_regrown w1 d' os)).block _ (lt_of_block HE.out)).trans HE.out)
  have HGr : Hid (∀ w1, BW w0 w1 → ∀ d' os, (grow (redrawn w1 d') os).heap[rb]? = some (.cells (resC u val true) 34 (0, 0))) := Lib.hid (fun w1 h d' os => ((show Below w0.heap.size w0 (grow (redrawn w1 d') os) from bt h (below_regrown w1 d' os)).block _ (lt_of_block HU1.out)).trans HU1.out)
  have eA : ∀ w1, BW w0 w1 → ∀ d' os, (grow (redrawn w1 d') os).cell? ⟨W.heap.size, 31, none⟩ = some (.bool false) := fun w1 h d' os => by simp [World.cell?, HGe.out w1 h d' os, HA.out.1]
  have eB : ∀ w1, BW w0 w1 → ∀ d' os, (grow (redrawn w1 d') os).cell? ⟨W.heap.size, 23, none⟩ = some (.bool false) := fun w1 h d' os => by simp [World.cell?, HGe.out w1 h d' os, HA.out.2.1]
  have eM : ∀ w1, BW w0 w1 → ∀ d' os, (grow (redrawn w1 d') os).cell? ⟨W.heap.size, 32, none⟩ = some (.int .i64 ma) := fun w1 h d' os => by simp [World.cell?, HGe.out w1 h d' os, HA.out.2.2.1]
  have eN : ∀ w1, BW w0 w1 → ∀ d' os, (grow (redrawn w1 d') os).cell? ⟨W.heap.size, 24, none⟩ = some (.int .i64 mb) := fun w1 h d' os => by simp [World.cell?, HGe.out w1 h d' os, HA.out.2.2.2]
  have rv : ∀ w1, BW w0 w1 → ∀ d' os, (grow (redrawn w1 d') os).cell? ⟨rb, 1, none⟩ = some (.int .i64 val) := fun w1 h d' os => by simp only [World.cell?, HGr.out w1 h d' os]; rfl
  have rf : ∀ w1, BW w0 w1 → ∀ d' os, (grow (redrawn w1 d') os).cell? ⟨rb, 2, none⟩ = some (.bool true) := fun w1 h d' os => by simp only [World.cell?, HGr.out w1 h d' os]; rfl
  refine wp_region_calm 21 99 [0, 1, 2, 3, 4, 5, 6, 7, 8, 9, 10, 11, 12, 13, 14, 15, 16, 17, 18, 19, 20] (by kernel_rfl) (by kernel_rfl) (by intro oz h; simp at h) (by intro oz h; simp at h) (by rfl) ?_
  simp only [List.take_succ_cons, List.take_zero]
  iterate 4
    apply wpCalm_want
    · rfl
    · exact bc_refl
    · exact ⟨_, Below.refl _ _⟩
    · intro w00 hC0 K hK
      go_big_quiet_op
      exact hK
  refine wpCalm_skip (by rfl) ?_
  go_frame
  refine wpCalm_skip (by rfl) ?_
  go_frame
  refine wpCalm_skip (by rfl) ?_
  go_frame
  refine wpCalm_skip (by rfl) ?_
  go_frame
  refine wpCalm_skip (by rfl) ?_
  go_frame
  refine wpCalm_skip (by rfl) ?_
  go_frame
  refine wpCalm_skip (by rfl) ?_
  go_frame
  refine wpCalm_skip (by rfl) ?_
  go_frame
  refine wpCalm_skip (by rfl) ?_
  go_frame
  refine wpCalm_skip (by rfl) ?_
  go_frame
  refine wpCalm_skip (by rfl) ?_
  go_frame
  refine wpCalm_skip (by rfl) ?_
  go_frame
  refine wpCalm_skip (by rfl) ?_
  go_frame
  refine wpCalm_skip (by rfl) ?_
  go_frame
  refine wpCalm_skip (by rfl) ?_
  go_frame
  refine wpCalm_skip (by rfl) ?_
  go_frame
  refine wpCalm_skip (by rfl) ?_
  go_frame
  refine wpCalm_nil ?_
  intro w2 hbq
  try simp only [List.drop_succ_cons, List.drop_zero]
  have HUw2 := Lib.hid ((hbq.block _ (lt_of_block HU1.out)).trans HU1.out)
  have HEw2 := Lib.hid ((hbq.block _ (lt_of_block HE.out)).trans HE.out)
  have HOw2 := Lib.hid (HO1.out.below hbq)
  have HKw2 : Hid (Kept (fun k => k = rb) W w2) := Lib.hid (HK1.out.then hbq)
  clear hbq eA eB eM eN rv rf HGe HGr HU1 HE HO1 HK1
  have HU1 := HUw2
  have HE := HEw2
  have HO1 := HOw2
  have HK1 := HKw2
  clear HUw2 HEw2 HOw2 HKw2
  go_upto_region 6 with fail
  have HGe : Hid (∀ w1, BW w2 w1 → ∀ d' os, (grow (redrawn w1 d') os).heap[W.heap.size]? = some (.cells E 97 (0, 0))) := Lib.hid (fun w1 h d' os => ((show Below w2.heap.size w2 (grow (redrawn w1 d') os) from bt h (below_regrown w1 d' os)).block _ (lt_of_block HE.out)).trans HE.out)
  have HGr : Hid (∀ w1, BW w2 w1 → ∀ d' os, (grow (redrawn w1 d') os).heap[rb]? = some (.cells (resC u val true) 34 (0, 0))) := Lib.hid (fun w1 h d' os => ((show Below w2.heap.size w2 (grow (redrawn w1 d') os) from bt h (below_regrown w1 d' os)).block _ (lt_of_block HU1.out)).trans HU1.out)
  have eA : ∀ w1, BW w2 w1 → ∀ d' os, (grow (redrawn w1 d') os).cell? ⟨W.heap.size, 31, none⟩ = some (.bool false) := fun w1 h d' os => by simp [World.cell?, HGe.out w1 h d' os, HA.out.1]
  have eB : ∀ w1, BW w2 w1 → ∀ d' os, (grow (redrawn w1 d') os).cell? ⟨W.heap.size, 23, none⟩ = some (.bool false) := fun w1 h d' os => by simp [World.cell?, HGe.out w1 h d' os, HA.out.2.1]
  have eM : ∀ w1, BW w2 w1 → ∀ d' os, (grow (redrawn w1 d') os).cell? ⟨W.heap.size, 32, none⟩ = some (.int .i64 ma) := fun w1 h d' os => by simp [World.cell?, HGe.out w1 h d' os, HA.out.2.2.1]
  have eN : ∀ w1, BW w2 w1 → ∀ d' os, (grow (redrawn w1 d') os).cell? ⟨W.heap.size, 24, none⟩ = some (.int .i64 mb) := fun w1 h d' os => by simp [World.cell?, HGe.out w1 h d' os, HA.out.2.2.2]
  have rv : ∀ w1, BW w2 w1 → ∀ d' os, (grow (redrawn w1 d') os).cell? ⟨rb, 1, none⟩ = some (.int .i64 val) := fun w1 h d' os => by simp only [World.cell?, HGr.out w1 h d' os]; rfl
  have rf : ∀ w1, BW w2 w1 → ∀ d' os, (grow (redrawn w1 d') os).cell? ⟨rb, 2, none⟩ = some (.bool true) := fun w1 h d' os => by simp only [World.cell?, HGr.out w1 h d' os]; rfl
  refine wp_region_calm 21 99 [0, 1, 2, 3, 4, 5, 6, 7, 8, 9, 10, 11, 12, 13, 14, 15, 16, 17, 18, 19, 20] (by kernel_rfl) (by kernel_rfl) (by intro oz h; simp at h) (by intro oz h; simp at h) (by rfl) ?_
  simp only [List.take_succ_cons, List.take_zero]
  iterate 4
    apply wpCalm_want
    · rfl
    · exact bc_refl
    · exact ⟨_, Below.refl _ _⟩
    · intro w00 hC0 K hK
      go_big_quiet_op
      exact hK
  refine wpCalm_skip (by rfl) ?_
  go_frame
  refine wpCalm_skip (by rfl) ?_
  go_frame
  refine wpCalm_skip (by rfl) ?_
  go_frame
  refine wpCalm_skip (by rfl) ?_
  go_frame
  refine wpCalm_skip (by rfl) ?_
  go_frame
  refine wpCalm_skip (by rfl) ?_
  go_frame
  refine wpCalm_skip (by rfl) ?_
  go_frame
  refine wpCalm_skip (by rfl) ?_
  go_frame
  refine wpCalm_skip (by rfl) ?_
  go_frame
  refine wpCalm_skip (by rfl) ?_
  go_frame
  refine wpCalm_skip (by rfl) ?_
  go_frame
  refine wpCalm_skip (by rfl) ?_
  go_frame
  refine wpCalm_skip (by rfl) ?_
  go_frame
  refine wpCalm_skip (by rfl) ?_
  go_frame
  refine wpCalm_skip (by rfl) ?_
  go_frame
  refine wpCalm_skip (by rfl) ?_
  go_frame
  refine wpCalm_skip (by rfl) ?_
  go_frame
  refine wpCalm_nil ?_
  intro w3 hbq
  try simp only [List.drop_succ_cons, List.drop_zero]
  have HUw3 := Lib.hid ((hbq.block _ (lt_of_block HU1.out)).trans HU1.out)
  have HEw3 := Lib.hid ((hbq.block _ (lt_of_block HE.out)).trans HE.out)
  have HOw3 := Lib.hid (HO1.out.below hbq)
  have HKw3 : Hid (Kept (fun k => k = rb) W w3) := Lib.hid (HK1.out.then hbq)
  clear hbq eA eB eM eN rv rf HGe HGr HU1 HE HO1 HK1
  have HU1 := HUw3
  have HE := HEw3
  have HO1 := HOw3
  have HK1 := HKw3
  clear HUw3 HEw3 HOw3 HKw3
  go_wp2_with fail
  go_ret
  exact ⟨rfl, fun r' h => by cases h; exact ⟨u, HU1.out, HO1.out⟩, HK1.out⟩
attribute [local irreducible] wpCalm in
set_option maxRecDepth 100000 in
set_option maxHeartbeats 4000000 in
theorem ext_001_xxx {g : FuncId} {lt : Int → Int → Bool} {od : Int → Int → Int} (hOrd : Ord g lt od) (eg : ∀ args w, (callFunc g args).run Tryz.prog w = .ok (.enter g args) w) {E : Array Value} {rb base : Nat} {rows : List MRow} {val ma mb : Int} {u : Value} {W : World}
    (hu : W.heap[rb]? = some (.cells (resC u val false) 34 (0, 0))) (hO : OwnR W base u rows) (hE : E[31]? = some (.bool true) ∧ E[23]? = some (.bool false) ∧ E[32]? = some (.int .i64 ma) ∧ E[24]? = some (.int .i64 mb)) :
    Calls Tryz.prog 120 #[ptr rb, .agg E, fnV g #[]] W (PatchOut W rb base (some ⟨rows, ma, true⟩)) := by
  have HU := Lib.hid hu
  have HO := Lib.hid hO
  have HA := Lib.hid hE
  have HE : Hid ((W.alloc (.cells E 97)).heap[W.heap.size]? = some (.cells E 97 (0, 0))) := Lib.hid (heap_alloc_new W _)
  have HB : Hid (Below W.heap.size W (W.alloc (.cells E 97))) := Lib.hid (ba W _)
  have hlt := lt_of_block hu
  have hne : ¬ rb = W.heap.size := by omega
  have hne2 : ¬ W.heap.size = rb := by omega
  have HU1 := Lib.hid ((HB.out.block _ (lt_of_block HU.out)).trans HU.out)
  have HO1 := Lib.hid (HO.out.below HB.out)
  have HCall := Lib.hid hOrd.call
  obtain ⟨ov, Hov⟩ : ∃ v, Hid (od mb val = v) := ⟨_, Lib.hid rfl⟩
  obtain ⟨oa, Hoa⟩ : ∃ v, Hid (od ma val = v) := ⟨_, Lib.hid rfl⟩
  have HC1 : Hid (∀ w, Calls Tryz.prog g #[.int .i64 mb, .int .i64 val] w fun e w' => e = .returned (.int .i64 ov) ∧ Below w.heap.size w w') := Lib.hid (fun w => by rw [← Hov.out]; exact HCall.out mb val w)
  have HC2 : Hid (∀ w, Calls Tryz.prog g #[.int .i64 ma, .int .i64 val] w fun e w' => e = .returned (.int .i64 oa) ∧ Below w.heap.size w w') := Lib.hid (fun w => by rw [← Hoa.out]; exact HCall.out ma val w)
  clear hu hO hE hOrd
  go_enter Tryz.func120, Tryz.ntmps120
  go_upto_region 1 with fail
  have HK1 : Hid (Kept (fun k => k = rb) W (W.alloc (.cells E 97))) := Lib.hid (Kept.of_below HB.out)
  generalize W.alloc (.cells E 97) = w0 at *
  have HGe : Hid (∀ w1, BW w0 w1 → ∀ d' os, (grow (redrawn w1 d') os).heap[W.heap.size]? = some (.cells E 97 (0, 0))) := Lib.hid (fun w1 h d' os => ((show Below w0.heap.size w0 (grow (redrawn w1 d') os) from bt h (below_regrown w1 d' os)).block _ (lt_of_block HE.out)).trans HE.out)
  have HGr : Hid (∀ w1, BW w0 w1 → ∀ d' os, (grow (redrawn w1 d') os).heap[rb]? = some (.cells (resC u val false) 34 (0, 0))) := Lib.hid (fun w1 h d' os => ((show Below w0.heap.size w0 (grow (redrawn w1 d') os) from bt h (below_regrown w1 d' os)).block _ (lt_of_block HU1.out)).trans HU1.out)
  have eA : ∀ w1, BW w0 w1 → ∀ d' os, (grow (redrawn w1 d') os).cell? ⟨W.heap.size, 31, none⟩ = some (.bool true) := fun w1 h d' os => by simp [World.cell?, HGe.out w1 h d' os, HA.out.1]
  have eB : ∀ w1, BW w0 w1 → ∀ d' os, (grow (redrawn w1 d') os).cell? ⟨W.heap.size, 23, none⟩ = some (.bool false) := fun w1 h d' os => by simp [World.cell?, HGe.out w1 h d' os, HA.out.2.1]
  have eM : ∀ w1, BW w0 w1 → ∀ d' os, (grow (redrawn w1 d') os).cell? ⟨W.heap.size, 32, none⟩ = some (.int .i64 ma) := fun w1 h d' os => by simp [World.cell?, HGe.out w1 h d' os, HA.out.2.2.1]
  have eN : ∀ w1, BW w0 w1 → ∀ d' os, (grow (redrawn w1 d') os).cell? ⟨W.heap.size, 24, none⟩ = some (.int .i64 mb) := fun w1 h d' os => by simp [World.cell?, HGe.out w1 h d' os, HA.out.2.2.2]
  have rv : ∀ w1, BW w0 w1 → ∀ d' os, (grow (redrawn w1 d') os).cell? ⟨rb, 1, none⟩ = some (.int .i64 val) := fun w1 h d' os => by simp only [World.cell?, HGr.out w1 h d' os]; rfl
  have rf : ∀ w1, BW w0 w1 → ∀ d' os, (grow (redrawn w1 d') os).cell? ⟨rb, 2, none⟩ = some (.bool false) := fun w1 h d' os => by simp only [World.cell?, HGr.out w1 h d' os]; rfl
  refine wp_region_calm 21 99 [0, 1, 2, 3, 4, 5, 6, 7, 8, 9, 10, 11, 12, 13, 14, 15, 16, 17, 18, 19, 20] (by kernel_rfl) (by kernel_rfl) (by intro oz h; simp at h) (by intro oz h; simp at h) (by rfl) ?_
  simp only [List.take_succ_cons, List.take_zero]
  iterate 4
    apply wpCalm_want
    · rfl
    · exact bc_refl
    · exact ⟨_, Below.refl _ _⟩
    · intro w00 hC0 K hK
      go_big_quiet_op
      exact hK
  refine wpCalm_skip (by rfl) ?_
  go_frame
  refine wpCalm_skip (by rfl) ?_
  go_frame
  refine wpCalm_skip (by rfl) ?_
  go_frame
  refine wpCalm_skip (by rfl) ?_
  go_frame
  refine wpCalm_skip (by rfl) ?_
  go_frame
  refine wpCalm_skip (by rfl) ?_
  go_frame
  refine wpCalm_skip (by rfl) ?_
  go_frame
  refine wpCalm_skip (by rfl) ?_
  go_frame
  refine wpCalm_skip (by rfl) ?_
  go_frame
  refine wpCalm_skip (by rfl) ?_
  go_frame
  refine wpCalm_skip (by rfl) ?_
  go_frame
  refine wpCalm_skip (by rfl) ?_
  go_frame
  refine wpCalm_skip (by rfl) ?_
  go_frame
  refine wpCalm_skip (by rfl) ?_
  go_frame
  refine wpCalm_skip (by rfl) ?_
  go_frame
  refine wpCalm_skip (by rfl) ?_
  go_frame
  refine wpCalm_skip (by rfl) ?_
  go_frame
  refine wpCalm_nil ?_
  intro w2 hbq
  try simp only [List.drop_succ_cons, List.drop_zero]
  have HUw2 := Lib.hid ((hbq.block _ (lt_of_block HU1.out)).trans HU1.out)
  have HEw2 := Lib.hid ((hbq.block _ (lt_of_block HE.out)).trans HE.out)
  have HOw2 := Lib.hid (HO1.out.below hbq)
  have HKw2 : Hid (Kept (fun k => k = rb) W w2) := Lib.hid (HK1.out.then hbq)
  clear hbq eA eB eM eN rv rf HGe HGr HU1 HE HO1 HK1
  have HU1 := HUw2
  have HE := HEw2
  have HO1 := HOw2
  have HK1 := HKw2
  clear HUw2 HEw2 HOw2 HKw2
  go_upto_region 6 with fail
  have HGe : Hid (∀ w1, BW w2 w1 → ∀ d' os, (grow (redrawn w1 d') os).heap[W.heap.size]? = some (.cells E 97 (0, 0))) := Lib.hid (fun w1 h d' os => ((show Below w2.heap.size w2 (grow (redrawn w1 d') os) from bt h (below_regrown w1 d' os)).block _ (lt_of_block HE.out)).trans HE.out)
  have HGr : Hid (∀ w1, BW w2 w1 → ∀ d' os, (grow (redrawn w1 d') os).heap[rb]? = some (.cells (resC u val false) 34 (0, 0))) := Lib.hid (fun w1 h d' os => ((show Below w2.heap.size w2 (grow (redrawn w1 d') os) from bt h (below_regrown w1 d' os)).block _ (lt_of_block HU1.out)).trans HU1.out)
  have eA : ∀ w1, BW w2 w1 → ∀ d' os, (grow (redrawn w1 d') os).cell? ⟨W.heap.size, 31, none⟩ = some (.bool true) := fun w1 h d' os => by simp [World.cell?, HGe.out w1 h d' os, HA.out.1]
  have eB : ∀ w1, BW w2 w1 → ∀ d' os, (grow (redrawn w1 d') os).cell? ⟨W.heap.size, 23, none⟩ = some (.bool false) := fun w1 h d' os => by simp [World.cell?, HGe.out w1 h d' os, HA.out.2.1]
  have eM : ∀ w1, BW w2 w1 → ∀ d' os, (grow (redrawn w1 d') os).cell? ⟨W.heap.size, 32, none⟩ = some (.int .i64 ma) := fun w1 h d' os => by simp [World.cell?, HGe.out w1 h d' os, HA.out.2.2.1]
  have eN : ∀ w1, BW w2 w1 → ∀ d' os, (grow (redrawn w1 d') os).cell? ⟨W.heap.size, 24, none⟩ = some (.int .i64 mb) := fun w1 h d' os => by simp [World.cell?, HGe.out w1 h d' os, HA.out.2.2.2]
  have rv : ∀ w1, BW w2 w1 → ∀ d' os, (grow (redrawn w1 d') os).cell? ⟨rb, 1, none⟩ = some (.int .i64 val) := fun w1 h d' os => by simp only [World.cell?, HGr.out w1 h d' os]; rfl
  have rf : ∀ w1, BW w2 w1 → ∀ d' os, (grow (redrawn w1 d') os).cell? ⟨rb, 2, none⟩ = some (.bool false) := fun w1 h d' os => by simp only [World.cell?, HGr.out w1 h d' os]; rfl
  refine wp_region_calm 21 99 [0, 1, 2, 3, 4, 5, 6, 7, 8, 9, 10, 11, 12, 13, 14, 15, 16, 17, 18, 19, 20] (by kernel_rfl) (by kernel_rfl) (by intro oz h; simp at h) (by intro oz h; simp at h) (by rfl) ?_
  simp only [List.take_succ_cons, List.take_zero]
  iterate 10
    apply wpCalm_want
    · rfl
    · exact bc_refl
    · exact ⟨_, Below.refl _ _⟩
    · intro w00 hC0 K hK
      go_big_quiet_op
      exact hK
  refine wpCalm_skip (by rfl) ?_
  go_frame
  refine wpCalm_skip (by rfl) ?_
  go_frame
  refine wpCalm_skip (by rfl) ?_
  go_frame
  refine wpCalm_skip (by rfl) ?_
  go_frame
  refine wpCalm_skip (by rfl) ?_
  go_frame
  refine wpCalm_skip (by rfl) ?_
  go_frame
  refine wpCalm_skip (by rfl) ?_
  go_frame
  refine wpCalm_skip (by rfl) ?_
  go_frame
  refine wpCalm_skip (by rfl) ?_
  go_frame
  refine wpCalm_skip (by rfl) ?_
  go_frame
  apply wpCalm_want
  · rfl
  · exact bc_refl
  · exact ⟨_, Below.refl _ _⟩
  · intro w00 hC0 K hK
    go_big_quiet_op
    exact hK
  refine wpCalm_nil ?_
  intro w3 hbq
  try simp only [List.drop_succ_cons, List.drop_zero]
  have HUw3 := Lib.hid ((hbq.block _ (lt_of_block HU1.out)).trans HU1.out)
  have HEw3 := Lib.hid ((hbq.block _ (lt_of_block HE.out)).trans HE.out)
  have HOw3 := Lib.hid (HO1.out.below hbq)
  have HKw3 : Hid (Kept (fun k => k = rb) W w3) := Lib.hid (HK1.out.then hbq)
  clear hbq eA eB eM eN rv rf HGe HGr HU1 HE HO1 HK1
  have HU1 := HUw3
  have HE := HEw3
  have HO1 := HOw3
  have HK1 := HKw3
  clear HUw3 HEw3 HOw3 HKw3
  have eM : w3.cell? ⟨W.heap.size, 32, none⟩ = some (.int .i64 ma) := by simp [World.cell?, HE.out, HA.out.2.2.1]
  have rv : w3.cell? ⟨rb, 1, none⟩ = some (.int .i64 val) := by simp only [World.cell?, HU1.out]; rfl
  have rv2 : w3.cell? ⟨rb, 2, none⟩ = some (.bool false) := by simp only [World.cell?, HU1.out]; rfl
  have rf : w3.frozen? ⟨rb, 1, none⟩ = false := by simp [World.frozen?, HU1.out]
  have rf2 : w3.frozen? ⟨rb, 2, none⟩ = false := by simp [World.frozen?, HU1.out]
  have HS2 : Hid (∀ n b, ResAt ((w3.setCell ⟨rb, 1, none⟩ (.int .i64 n)).setCell ⟨rb, 2, none⟩ (.bool b)) rb base ⟨rows, n, b⟩ ∧ Kept (fun k => k = rb) W ((w3.setCell ⟨rb, 1, none⟩ (.int .i64 n)).setCell ⟨rb, 2, none⟩ (.bool b))) := Lib.hid (fun n b => ⟨⟨u, setC_heap (setC_heap HU1.out 1 _) 2 _, own_setc (own_setc HO1.out HU1.out) (setC_heap HU1.out 1 _)⟩, Kept.setCell (F := fun i => i = rb) (p := ⟨rb, 2, none⟩) (Kept.setCell (F := fun i => i = rb) (p := ⟨rb, 1, none⟩) HK1.out (.inl rfl) _) (.inl rfl) _⟩)
  go_wp2_with fail
  go_ret
  exact ⟨rfl, fun r' h => by cases h; exact (HS2.out _ _).1, (HS2.out _ _).2⟩
attribute [local irreducible] wpCalm in
set_option maxRecDepth 100000 in
set_option maxHeartbeats 4000000 in
theorem ext_011_xx1 {g : FuncId} {lt : Int → Int → Bool} {od : Int → Int → Int} (hOrd : Ord g lt od) (eg : ∀ args w, (callFunc g args).run Tryz.prog w = .ok (.enter g args) w) {E : Array Value} {rb base : Nat} {rows : List MRow} {val ma mb : Int} {u : Value} {W : World}
    (hu : W.heap[rb]? = some (.cells (resC u val true) 34 (0, 0))) (hO : OwnR W base u rows) (hE : E[31]? = some (.bool true) ∧ E[23]? = some (.bool false) ∧ E[32]? = some (.int .i64 ma) ∧ E[24]? = some (.int .i64 mb)) (h3 : lt ma val = true) :
    Calls Tryz.prog 120 #[ptr rb, .agg E, fnV g #[]] W (PatchOut W rb base (some ⟨rows, ma, true⟩)) := by
  have HU := Lib.hid hu
  have HO := Lib.hid hO
  have HA := Lib.hid hE
  have HE : Hid ((W.alloc (.cells E 97)).heap[W.heap.size]? = some (.cells E 97 (0, 0))) := Lib.hid (heap_alloc_new W _)
  have HB : Hid (Below W.heap.size W (W.alloc (.cells E 97))) := Lib.hid (ba W _)
  have hlt := lt_of_block hu
  have hne : ¬ rb = W.heap.size := by omega
  have hne2 : ¬ W.heap.size = rb := by omega
  have HU1 := Lib.hid ((HB.out.block _ (lt_of_block HU.out)).trans HU.out)
  have HO1 := Lib.hid (HO.out.below HB.out)
  have HCall := Lib.hid hOrd.call
  have HD3 : Hid (decide (od ma val < 0) = true) := Lib.hid (by rw [hOrd.neg, h3])
  obtain ⟨ov, Hov⟩ : ∃ v, Hid (od mb val = v) := ⟨_, Lib.hid rfl⟩
  obtain ⟨oa, Hoa⟩ : ∃ v, Hid (od ma val = v) := ⟨_, Lib.hid rfl⟩
  have HC1 : Hid (∀ w, Calls Tryz.prog g #[.int .i64 mb, .int .i64 val] w fun e w' => e = .returned (.int .i64 ov) ∧ Below w.heap.size w w') := Lib.hid (fun w => by rw [← Hov.out]; exact HCall.out mb val w)
  have HC2 : Hid (∀ w, Calls Tryz.prog g #[.int .i64 ma, .int .i64 val] w fun e w' => e = .returned (.int .i64 oa) ∧ Below w.heap.size w w') := Lib.hid (fun w => by rw [← Hoa.out]; exact HCall.out ma val w)
  rw [Hoa.out] at HD3
  clear hu hO hE hOrd h3
  go_enter Tryz.func120, Tryz.ntmps120
  go_upto_region 1 with fail
  have HK1 : Hid (Kept (fun k => k = rb) W (W.alloc (.cells E 97))) := Lib.hid (Kept.of_below HB.out)
  generalize W.alloc (.cells E 97) = w0 at *
  have HGe : Hid (∀ w1, BW w0 w1 → ∀ d' os, (grow (redrawn w1 d') os).heap[W.heap.size]? = some (.cells E 97 (0, 0))) := Lib.hid (fun w1 h d' os => ((show Below w0.heap.size w0 (grow (redrawn w1 d') os) from bt h (below_regrown w1 d' os)).block _ (lt_of_block HE.out)).trans HE.out)
  have HGr : Hid (∀ w1, BW w0 w1 → ∀ d' os, (grow (redrawn w1 d') os).heap[rb]? = some (.cells (resC u val true) 34 (0, 0))) := Lib.hid (fun w1 h d' os => ((show Below w0.heap.size w0 (grow (redrawn w1 d') os) from bt h (below_regrown w1 d' os)).block _ (lt_of_block HU1.out)).trans HU1.out)
  have eA : ∀ w1, BW w0 w1 → ∀ d' os, (grow (redrawn w1 d') os).cell? ⟨W.heap.size, 31, none⟩ = some (.bool true) := fun w1 h d' os => by simp [World.cell?, HGe.out w1 h d' os, HA.out.1]
  have eB : ∀ w1, BW w0 w1 → ∀ d' os, (grow (redrawn w1 d') os).cell? ⟨W.heap.size, 23, none⟩ = some (.bool false) := fun w1 h d' os => by simp [World.cell?, HGe.out w1 h d' os, HA.out.2.1]
  have eM : ∀ w1, BW w0 w1 → ∀ d' os, (grow (redrawn w1 d') os).cell? ⟨W.heap.size, 32, none⟩ = some (.int .i64 ma) := fun w1 h d' os => by simp [World.cell?, HGe.out w1 h d' os, HA.out.2.2.1]
  have eN : ∀ w1, BW w0 w1 → ∀ d' os, (grow (redrawn w1 d') os).cell? ⟨W.heap.size, 24, none⟩ = some (.int .i64 mb) := fun w1 h d' os => by simp [World.cell?, HGe.out w1 h d' os, HA.out.2.2.2]
  have rv : ∀ w1, BW w0 w1 → ∀ d' os, (grow (redrawn w1 d') os).cell? ⟨rb, 1, none⟩ = some (.int .i64 val) := fun w1 h d' os => by simp only [World.cell?, HGr.out w1 h d' os]; rfl
  have rf : ∀ w1, BW w0 w1 → ∀ d' os, (grow (redrawn w1 d') os).cell? ⟨rb, 2, none⟩ = some (.bool true) := fun w1 h d' os => by simp only [World.cell?, HGr.out w1 h d' os]; rfl
  refine wp_region_calm 21 99 [0, 1, 2, 3, 4, 5, 6, 7, 8, 9, 10, 11, 12, 13, 14, 15, 16, 17, 18, 19, 20] (by kernel_rfl) (by kernel_rfl) (by intro oz h; simp at h) (by intro oz h; simp at h) (by rfl) ?_
  simp only [List.take_succ_cons, List.take_zero]
  iterate 4
    apply wpCalm_want
    · rfl
    · exact bc_refl
    · exact ⟨_, Below.refl _ _⟩
    · intro w00 hC0 K hK
      go_big_quiet_op
      exact hK
  refine wpCalm_skip (by rfl) ?_
  go_frame
  refine wpCalm_skip (by rfl) ?_
  go_frame
  refine wpCalm_skip (by rfl) ?_
  go_frame
  refine wpCalm_skip (by rfl) ?_
  go_frame
  refine wpCalm_skip (by rfl) ?_
  go_frame
  refine wpCalm_skip (by rfl) ?_
  go_frame
  refine wpCalm_skip (by rfl) ?_
  go_frame
  refine wpCalm_skip (by rfl) ?_
  go_frame
  refine wpCalm_skip (by rfl) ?_
  go_frame
  refine wpCalm_skip (by rfl) ?_
  go_frame
  refine wpCalm_skip (by rfl) ?_
  go_frame
  refine wpCalm_skip (by rfl) ?_
  go_frame
  refine wpCalm_skip (by rfl) ?_
  go_frame
  refine wpCalm_skip (by rfl) ?_
  go_frame
  refine wpCalm_skip (by rfl) ?_
  go_frame
  refine wpCalm_skip (by rfl) ?_
  go_frame
  refine wpCalm_skip (by rfl) ?_
  go_frame
  refine wpCalm_nil ?_
  intro w2 hbq
  try simp only [List.drop_succ_cons, List.drop_zero]
  have HUw2 := Lib.hid ((hbq.block _ (lt_of_block HU1.out)).trans HU1.out)
  have HEw2 := Lib.hid ((hbq.block _ (lt_of_block HE.out)).trans HE.out)
  have HOw2 := Lib.hid (HO1.out.below hbq)
  have HKw2 : Hid (Kept (fun k => k = rb) W w2) := Lib.hid (HK1.out.then hbq)
  clear hbq eA eB eM eN rv rf HGe HGr HU1 HE HO1 HK1
  have HU1 := HUw2
  have HE := HEw2
  have HO1 := HOw2
  have HK1 := HKw2
  clear HUw2 HEw2 HOw2 HKw2
  go_upto_region 6 with fail
  have HGe : Hid (∀ w1, BW w2 w1 → ∀ d' os, (grow (redrawn w1 d') os).heap[W.heap.size]? = some (.cells E 97 (0, 0))) := Lib.hid (fun w1 h d' os => ((show Below w2.heap.size w2 (grow (redrawn w1 d') os) from bt h (below_regrown w1 d' os)).block _ (lt_of_block HE.out)).trans HE.out)
  have HGr : Hid (∀ w1, BW w2 w1 → ∀ d' os, (grow (redrawn w1 d') os).heap[rb]? = some (.cells (resC u val true) 34 (0, 0))) := Lib.hid (fun w1 h d' os => ((show Below w2.heap.size w2 (grow (redrawn w1 d') os) from bt h (below_regrown w1 d' os)).block _ (lt_of_block HU1.out)).trans HU1.out)
  have eA : ∀ w1, BW w2 w1 → ∀ d' os, (grow (redrawn w1 d') os).cell? ⟨W.heap.size, 31, none⟩ = some (.bool true) := fun w1 h d' os => by simp [World.cell?, HGe.out w1 h d' os, HA.out.1]
  have eB : ∀ w1, BW w2 w1 → ∀ d' os, (grow (redrawn w1 d') os).cell? ⟨W.heap.size, 23, none⟩ = some (.bool false) := fun w1 h d' os => by simp [World.cell?, HGe.out w1 h d' os, HA.out.2.1]
  have eM : ∀ w1, BW w2 w1 → ∀ d' os, (grow (redrawn w1 d') os).cell? ⟨W.heap.size, 32, none⟩ = some (.int .i64 ma) := fun w1 h d' os => by simp [World.cell?, HGe.out w1 h d' os, HA.out.2.2.1]
  have eN : ∀ w1, BW w2 w1 → ∀ d' os, (grow (redrawn w1 d') os).cell? ⟨W.heap.size, 24, none⟩ = some (.int .i64 mb) := fun w1 h d' os => by simp [World.cell?, HGe.out w1 h d' os, HA.out.2.2.2]
  have rv : ∀ w1, BW w2 w1 → ∀ d' os, (grow (redrawn w1 d') os).cell? ⟨rb, 1, none⟩ = some (.int .i64 val) := fun w1 h d' os => by simp only [World.cell?, HGr.out w1 h d' os]; rfl
  have rf : ∀ w1, BW w2 w1 → ∀ d' os, (grow (redrawn w1 d') os).cell? ⟨rb, 2, none⟩ = some (.bool true) := fun w1 h d' os => by simp only [World.cell?, HGr.out w1 h d' os]; rfl
  refine wp_region_calm 21 99 [0, 1, 2, 3, 4, 5, 6, 7, 8, 9, 10, 11, 12, 13, 14, 15, 16, 17, 18, 19, 20] (by kernel_rfl) (by kernel_rfl) (by intro oz h; simp at h) (by intro oz h; simp at h) (by rfl) ?_
  simp only [List.take_succ_cons, List.take_zero]
  iterate 18
    apply wpCalm_want
    · rfl
    · exact bc_refl
    · exact ⟨_, Below.refl _ _⟩
    · intro w00 hC0 K hK
      go_big_quiet_op
      exact hK
  apply wpCalm_want
  · rfl
  · exact bc_refl
  · exact ⟨_, Below.refl _ _⟩
  · intro w00 hC0 K hK
    go_big_quiet_op
    apply Exists.intro
    refine ⟨fun p => ?_, ?_⟩
    · exact Calls.regrown_of (HC2.out _)
    · exact hK
  have hd3 := HD3.out
  try simp only [hd3]
  apply wpCalm_want
  · rfl
  · exact bc_refl
  · exact ⟨_, Below.refl _ _⟩
  · intro w00 hC0 K hK
    go_big_quiet_op
    exact hK
  apply wpCalm_want
  · rfl
  · exact bc_refl
  · exact ⟨_, Below.refl _ _⟩
  · intro w00 hC0 K hK
    go_big_quiet_op
    exact hK
  refine wpCalm_nil ?_
  intro w3 hbq
  try simp only [List.drop_succ_cons, List.drop_zero]
  have HUw3 := Lib.hid ((hbq.block _ (lt_of_block HU1.out)).trans HU1.out)
  have HEw3 := Lib.hid ((hbq.block _ (lt_of_block HE.out)).trans HE.out)
  have HOw3 := Lib.hid (HO1.out.below hbq)
  have HKw3 : Hid (Kept (fun k => k = rb) W w3) := Lib.hid (HK1.out.then hbq)
  clear hbq eA eB eM eN rv rf HGe HGr HU1 HE HO1 HK1
  have HU1 := HUw3
  have HE := HEw3
  have HO1 := HOw3
  have HK1 := HKw3
  clear HUw3 HEw3 HOw3 HKw3
  have hd3 := HD3.out
  have eM : w3.cell? ⟨W.heap.size, 32, none⟩ = some (.int .i64 ma) := by simp [World.cell?, HE.out, HA.out.2.2.1]
  have rv : w3.cell? ⟨rb, 1, none⟩ = some (.int .i64 val) := by simp only [World.cell?, HU1.out]; rfl
  have rv2 : w3.cell? ⟨rb, 2, none⟩ = some (.bool true) := by simp only [World.cell?, HU1.out]; rfl
  have rf : w3.frozen? ⟨rb, 1, none⟩ = false := by simp [World.frozen?, HU1.out]
  have rf2 : w3.frozen? ⟨rb, 2, none⟩ = false := by simp [World.frozen?, HU1.out]
  have HS2 : Hid (∀ n b, ResAt ((w3.setCell ⟨rb, 1, none⟩ (.int .i64 n)).setCell ⟨rb, 2, none⟩ (.bool b)) rb base ⟨rows, n, b⟩ ∧ Kept (fun k => k = rb) W ((w3.setCell ⟨rb, 1, none⟩ (.int .i64 n)).setCell ⟨rb, 2, none⟩ (.bool b))) := Lib.hid (fun n b => ⟨⟨u, setC_heap (setC_heap HU1.out 1 _) 2 _, own_setc (own_setc HO1.out HU1.out) (setC_heap HU1.out 1 _)⟩, Kept.setCell (F := fun i => i = rb) (p := ⟨rb, 2, none⟩) (Kept.setCell (F := fun i => i = rb) (p := ⟨rb, 1, none⟩) HK1.out (.inl rfl) _) (.inl rfl) _⟩)
  go_wp2_with fail
  go_ret
  exact ⟨rfl, fun r' h => by cases h; exact (HS2.out _ _).1, (HS2.out _ _).2⟩
attribute [local irreducible] wpCalm in
set_option maxRecDepth 100000 in
set_option maxHeartbeats 4000000 in
theorem ext_011_xx0 {g : FuncId} {lt : Int → Int → Bool} {od : Int → Int → Int} (hOrd : Ord g lt od) (eg : ∀ args w, (callFunc g args).run Tryz.prog w = .ok (.enter g args) w) {E : Array Value} {rb base : Nat} {rows : List MRow} {val ma mb : Int} {u : Value} {W : World}
    (hu : W.heap[rb]? = some (.cells (resC u val true) 34 (0, 0))) (hO : OwnR W base u rows) (hE : E[31]? = some (.bool true) ∧ E[23]? = some (.bool false) ∧ E[32]? = some (.int .i64 ma) ∧ E[24]? = some (.int .i64 mb)) (h3 : lt ma val = false) :
    Calls Tryz.prog 120 #[ptr rb, .agg E, fnV g #[]] W (PatchOut W rb base (some ⟨rows, val, true⟩)) := by
  have HU := Lib.hid hu
  have HO := Lib.hid hO
  have HA := Lib.hid hE
  have HE : Hid ((W.alloc (.cells E 97)).heap[W.heap.size]? = some (.cells E 97 (0, 0))) := Lib.hid (heap_alloc_new W _)
  have HB : Hid (Below W.heap.size W (W.alloc (.cells E 97))) := Lib.hid (ba W _)
  have hlt := lt_of_block hu
  have hne : ¬ rb = W.heap.size := by omega
  have hne2 : ¬ W.heap.size = rb := by omega
  have HU1 := Lib.hid ((HB.out.block _ (lt_of_block HU.out)).trans HU.out)
  have HO1 := Lib.hid (HO.out.below HB.out)
  have HCall := Lib.hid hOrd.call
  have HD3 : Hid (decide (od ma val < 0) = false) := Lib.hid (by rw [hOrd.neg, h3])
  obtain ⟨ov, Hov⟩ : ∃ v, Hid (od mb val = v) := ⟨_, Lib.hid rfl⟩
  obtain ⟨oa, Hoa⟩ : ∃ v, Hid (od ma val = v) := ⟨_, Lib.hid rfl⟩
  have HC1 : Hid (∀ w, Calls Tryz.prog g #[.int .i64 mb, .int .i64 val] w fun e w' => e = .returned (.int .i64 ov) ∧ Below w.heap.size w w') := Lib.hid (fun w => by rw [← Hov.out]; exact HCall.out mb val w)
  have HC2 : Hid (∀ w, Calls Tryz.prog g #[.int .i64 ma, .int .i64 val] w fun e w' => e = .returned (.int .i64 oa) ∧ Below w.heap.size w w') := Lib.hid (fun w => by rw [← Hoa.out]; exact HCall.out ma val w)
  rw [Hoa.out] at HD3
  clear hu hO hE hOrd h3
  go_enter Tryz.func120, Tryz.ntmps120
  go_upto_region 1 with fail
  have HK1 : Hid (Kept (fun k => k = rb) W (W.alloc (.cells E 97))) := Lib.hid (Kept.of_below HB.out)
  generalize W.alloc (.cells E 97) = w0 at *
  have HGe : Hid (∀ w1, BW w0 w1 → ∀ d' os, (grow (redrawn w1 d') os).heap[W.heap.size]? = some (.cells E 97 (0, 0))) := Lib.hid (fun w1 h d' os => ((show Below w0.heap.size w0 (grow (redrawn w1 d') os) from bt h (below_regrown w1 d' os)).block _ (lt_of_block HE.out)).trans HE.out)
  have HGr : Hid (∀ w1, BW w0 w1 → ∀ d' os, (grow (redrawn w1 d') os).heap[rb]? = some (.cells (resC u val true) 34 (0, 0))) := Lib.hid (fun w1 h d' os => ((show Below w0.heap.size w0 (grow (redrawn w1 d') os) from bt h (below_regrown w1 d' os)).block _ (lt_of_block HU1.out)).trans HU1.out)
  have eA : ∀ w1, BW w0 w1 → ∀ d' os, (grow (redrawn w1 d') os).cell? ⟨W.heap.size, 31, none⟩ = some (.bool true) := fun w1 h d' os => by simp [World.cell?, HGe.out w1 h d' os, HA.out.1]
  have eB : ∀ w1, BW w0 w1 → ∀ d' os, (grow (redrawn w1 d') os).cell? ⟨W.heap.size, 23, none⟩ = some (.bool false) := fun w1 h d' os => by simp [World.cell?, HGe.out w1 h d' os, HA.out.2.1]
  have eM : ∀ w1, BW w0 w1 → ∀ d' os, (grow (redrawn w1 d') os).cell? ⟨W.heap.size, 32, none⟩ = some (.int .i64 ma) := fun w1 h d' os => by simp [World.cell?, HGe.out w1 h d' os, HA.out.2.2.1]
  have eN : ∀ w1, BW w0 w1 → ∀ d' os, (grow (redrawn w1 d') os).cell? ⟨W.heap.size, 24, none⟩ = some (.int .i64 mb) := fun w1 h d' os => by simp [World.cell?, HGe.out w1 h d' os, HA.out.2.2.2]
  have rv : ∀ w1, BW w0 w1 → ∀ d' os, (grow (redrawn w1 d') os).cell? ⟨rb, 1, none⟩ = some (.int .i64 val) := fun w1 h d' os => by simp only [World.cell?, HGr.out w1 h d' os]; rfl
  have rf : ∀ w1, BW w0 w1 → ∀ d' os, (grow (redrawn w1 d') os).cell? ⟨rb, 2, none⟩ = some (.bool true) := fun w1 h d' os => by simp only [World.cell?, HGr.out w1 h d' os]; rfl
  refine wp_region_calm 21 99 [0, 1, 2, 3, 4, 5, 6, 7, 8, 9, 10, 11, 12, 13, 14, 15, 16, 17, 18, 19, 20] (by kernel_rfl) (by kernel_rfl) (by intro oz h; simp at h) (by intro oz h; simp at h) (by rfl) ?_
  simp only [List.take_succ_cons, List.take_zero]
  iterate 4
    apply wpCalm_want
    · rfl
    · exact bc_refl
    · exact ⟨_, Below.refl _ _⟩
    · intro w00 hC0 K hK
      go_big_quiet_op
      exact hK
  refine wpCalm_skip (by rfl) ?_
  go_frame
  refine wpCalm_skip (by rfl) ?_
  go_frame
  refine wpCalm_skip (by rfl) ?_
  go_frame
  refine wpCalm_skip (by rfl) ?_
  go_frame
  refine wpCalm_skip (by rfl) ?_
  go_frame
  refine wpCalm_skip (by rfl) ?_
  go_frame
  refine wpCalm_skip (by rfl) ?_
  go_frame
  refine wpCalm_skip (by rfl) ?_
  go_frame
  refine wpCalm_skip (by rfl) ?_
  go_frame
  refine wpCalm_skip (by rfl) ?_
  go_frame
  refine wpCalm_skip (by rfl) ?_
  go_frame
  refine wpCalm_skip (by rfl) ?_
  go_frame
  refine wpCalm_skip (by rfl) ?_
  go_frame
  refine wpCalm_skip (by rfl) ?_
  go_frame
  refine wpCalm_skip (by rfl) ?_
  go_frame
  refine wpCalm_skip (by rfl) ?_
  go_frame
  refine wpCalm_skip (by rfl) ?_
  go_frame
  refine wpCalm_nil ?_
  intro w2 hbq
  try simp only [List.drop_succ_cons, List.drop_zero]
  have HUw2 := Lib.hid ((hbq.block _ (lt_of_block HU1.out)).trans HU1.out)
  have HEw2 := Lib.hid ((hbq.block _ (lt_of_block HE.out)).trans HE.out)
  have HOw2 := Lib.hid (HO1.out.below hbq)
  have HKw2 : Hid (Kept (fun k => k = rb) W w2) := Lib.hid (HK1.out.then hbq)
  clear hbq eA eB eM eN rv rf HGe HGr HU1 HE HO1 HK1
  have HU1 := HUw2
  have HE := HEw2
  have HO1 := HOw2
  have HK1 := HKw2
  clear HUw2 HEw2 HOw2 HKw2
  go_upto_region 6 with fail
  have HGe : Hid (∀ w1, BW w2 w1 → ∀ d' os, (grow (redrawn w1 d') os).heap[W.heap.size]? = some (.cells E 97 (0, 0))) := Lib.hid (fun w1 h d' os => ((show Below w2.heap.size w2 (grow (redrawn w1 d') os) from bt h (below_regrown w1 d' os)).block _ (lt_of_block HE.out)).trans HE.out)
  have HGr : Hid (∀ w1, BW w2 w1 → ∀ d' os, (grow (redrawn w1 d') os).heap[rb]? = some (.cells (resC u val true) 34 (0, 0))) := Lib.hid (fun w1 h d' os => ((show Below w2.heap.size w2 (grow (redrawn w1 d') os) from bt h (below_regrown w1 d' os)).block _ (lt_of_block HU1.out)).trans HU1.out)
  have eA : ∀ w1, BW w2 w1 → ∀ d' os, (grow (redrawn w1 d') os).cell? ⟨W.heap.size, 31, none⟩ = some (.bool true) := fun w1 h d' os => by simp [World.cell?, HGe.out w1 h d' os, HA.out.1]
  have eB : ∀ w1, BW w2 w1 → ∀ d' os, (grow (redrawn w1 d') os).cell? ⟨W.heap.size, 23, none⟩ = some (.bool false) := fun w1 h d' os => by simp [World.cell?, HGe.out w1 h d' os, HA.out.2.1]
  have eM : ∀ w1, BW w2 w1 → ∀ d' os, (grow (redrawn w1 d') os).cell? ⟨W.heap.size, 32, none⟩ = some (.int .i64 ma) := fun w1 h d' os => by simp [World.cell?, HGe.out w1 h d' os, HA.out.2.2.1]
  have eN : ∀ w1, BW w2 w1 → ∀ d' os, (grow (redrawn w1 d') os).cell? ⟨W.heap.size, 24, none⟩ = some (.int .i64 mb) := fun w1 h d' os => by simp [World.cell?, HGe.out w1 h d' os, HA.out.2.2.2]
  have rv : ∀ w1, BW w2 w1 → ∀ d' os, (grow (redrawn w1 d') os).cell? ⟨rb, 1, none⟩ = some (.int .i64 val) := fun w1 h d' os => by simp only [World.cell?, HGr.out w1 h d' os]; rfl
  have rf : ∀ w1, BW w2 w1 → ∀ d' os, (grow (redrawn w1 d') os).cell? ⟨rb, 2, none⟩ = some (.bool true) := fun w1 h d' os => by simp only [World.cell?, HGr.out w1 h d' os]; rfl
  refine wp_region_calm 21 99 [0, 1, 2, 3, 4, 5, 6, 7, 8, 9, 10, 11, 12, 13, 14, 15, 16, 17, 18, 19, 20] (by kernel_rfl) (by kernel_rfl) (by intro oz h; simp at h) (by intro oz h; simp at h) (by rfl) ?_
  simp only [List.take_succ_cons, List.take_zero]
  iterate 18
    apply wpCalm_want
    · rfl
    · exact bc_refl
    · exact ⟨_, Below.refl _ _⟩
    · intro w00 hC0 K hK
      go_big_quiet_op
      exact hK
  apply wpCalm_want
  · rfl
  · exact bc_refl
  · exact ⟨_, Below.refl _ _⟩
  · intro w00 hC0 K hK
    go_big_quiet_op
    apply Exists.intro
    refine ⟨fun p => ?_, ?_⟩
    · exact Calls.regrown_of (HC2.out _)
    · exact hK
  have hd3 := HD3.out
  try simp only [hd3]
  apply wpCalm_want
  · rfl
  · exact bc_refl
  · exact ⟨_, Below.refl _ _⟩
  · intro w00 hC0 K hK
    go_big_quiet_op
    exact hK
  apply wpCalm_want
  · rfl
  · exact bc_refl
  · exact ⟨_, Below.refl _ _⟩
  · intro w00 hC0 K hK
    go_big_quiet_op
    exact hK
  refine wpCalm_nil ?_
  intro w3 hbq
  try simp only [List.drop_succ_cons, List.drop_zero]
  have HUw3 := Lib.hid ((hbq.block _ (lt_of_block HU1.out)).trans HU1.out)
  have HEw3 := Lib.hid ((hbq.block _ (lt_of_block HE.out)).trans HE.out)
  have HOw3 := Lib.hid (HO1.out.below hbq)
  have HKw3 : Hid (Kept (fun k => k = rb) W w3) := Lib.hid (HK1.out.then hbq)
  clear hbq eA eB eM eN rv rf HGe HGr HU1 HE HO1 HK1
  have HU1 := HUw3
  have HE := HEw3
  have HO1 := HOw3
  have HK1 := HKw3
  clear HUw3 HEw3 HOw3 HKw3
  have hd3 := HD3.out
  go_wp2_with fail
  go_ret
  exact ⟨rfl, fun r' h => by cases h; exact ⟨u, HU1.out, HO1.out⟩, HK1.out⟩
set_option maxRecDepth 100000 in
set_option maxHeartbeats 4000000 in
theorem patchExtreme_any {g : FuncId} {lt : Int → Int → Bool} {od : Int → Int → Int} (hOrd : Ord g lt od) (eg : ∀ args w, (callFunc g args).run Tryz.prog w = .ok (.enter g args) w) {q : MQ} {c : MCh} {rb base : Nat} {r : MRes} {W : World} (hR : ResAt W rb base r) :
    Calls Tryz.prog 120 #[ptr rb, .agg (effC q c), fnV g #[]] W (PatchOut W rb base ((extP lt r.val r.fnd (inA q c) (inB q c) (msA q c) (msB q c)).map fun s => ⟨r.rows, s.1, s.2⟩)) := by
  obtain ⟨rows, val, fnd⟩ := r
  obtain ⟨u, hu, hO⟩ := hR
  have hE : (effC q c)[31]? = some (.bool (inA q c)) ∧ (effC q c)[23]? = some (.bool (inB q c)) ∧ (effC q c)[32]? = some (.int .i64 (msA q c)) ∧ (effC q c)[24]? = some (.int .i64 (msB q c)) := ⟨rfl, rfl, rfl, rfl⟩
  simp only at hu hO ⊢
  generalize inA q c = a at *
  generalize inB q c = b at *
  generalize msA q c = ma at *
  generalize msB q c = mb at *
  unfold extP
  cases b <;> cases fnd <;> cases a <;> cases h1 : lt val mb <;> cases h2 : lt val ma <;> cases h3 : lt ma val
  all_goals first
    | exact ext_100_xxx hOrd eg hu hO hE
    | exact ext_101_xxx hOrd eg hu hO hE
    | exact ext_110_1xx hOrd eg hu hO hE h1
    | exact ext_111_11x hOrd eg hu hO hE h1 h2
    | exact ext_111_10x hOrd eg hu hO hE h1 h2
    | exact ext_110_0xx hOrd eg hu hO hE h1
    | exact ext_111_0x1 hOrd eg hu hO hE h1 h3
    | exact ext_111_0x0 hOrd eg hu hO hE h1 h3
    | exact ext_000_xxx hOrd eg hu hO hE
    | exact ext_010_xxx hOrd eg hu hO hE
    | exact ext_001_xxx hOrd eg hu hO hE
    | exact ext_011_xx1 hOrd eg hu hO hE h3
    | exact ext_011_xx0 hOrd eg hu hO hE h3
end Go.Proofs.YtgbnjjgnihjfgaaGreat

