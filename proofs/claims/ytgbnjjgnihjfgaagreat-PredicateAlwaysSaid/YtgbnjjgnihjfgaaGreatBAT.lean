/- LD, L3 -/
import Derived.Test.YtgbnjjgnihjfgaaGreatProg
import Derived.WalkKit
import Derived.Below
import Derived.Lib.Hide
import Derived.Laws.StructEq
import Derived.Lib.QuietBelow
import Derived.Deep.RegionHeld3
import Derived.Deep.RegionWith
import Derived.IntWalk
import Derived.BigQuiet
import Derived.Maps.RangeWalk
import Derived.DeepKeys4
import Derived.OneCell
import Derived.StillTail
import Derived.Deep.CutRange
import Derived.Outline
import Derived.WalkSpells
import Derived.Carry
import Derived.Shelf.SlGeneric
import Derived.Shelf.SlSortCmp.WholeK
import Derived.Shelf.SlicesG.Cmp
import Derived.Ground.SlsfProg
import Derived.Ground.SlgcProg
import Derived.Sort.OwnSorted
import Derived.Deep.AppendLies
import Derived.Shelf.SlSortCmp.NoneTotal
import Derived.Deep.QuietTactic
import Derived.Laws.AppendOwnNone
import Derived.Laws.EntriesVeiled
import Derived.Lib.SliceRun
import Derived.Deep.Cut
import Derived.Laws.ResultCell
import Derived.ArgAppend
import Derived.Laws.Rows
import Derived.Great.BuildSlice
import Derived.Great.Frames
import Derived.Deep.DeepCutAuto
import Derived.Lib.AppendZeros
import Derived.Lib.Overlaps
import Derived.Laws.CopyRow
import Derived.Laws.AppendOwn
import Derived.Laws.Externs
import Derived.Deep.RegionLawGrows
import Derived.Test.YtgbnjjgnihjfgaaGreatBAG
import Derived.Test.YtgbnjjgnihjfgaaGreatBAM
import Derived.Test.YtgbnjjgnihjfgaaGreatBAJ
import Derived.Test.YtgbnjjgnihjfgaaGreatBAR
import Derived.Test.YtgbnjjgnihjfgaaGreatBAQ
import Derived.Test.YtgbnjjgnihjfgaaGreatBAO
import Derived.Test.YtgbnjjgnihjfgaaGreatBAP
import Derived.Test.YtgbnjjgnihjfgaaGreatBAL
import Derived.Test.YtgbnjjgnihjfgaaGreatBAA
import Derived.Test.YtgbnjjgnihjfgaaGreatBAI
import Derived.Test.YtgbnjjgnihjfgaaGreatBAK
import Derived.Test.YtgbnjjgnihjfgaaGreatBAD
import Derived.Test.YtgbnjjgnihjfgaaGreatBAN
import Derived.Test.YtgbnjjgnihjfgaaGreatBAS
import Derived.Test.YtgbnjjgnihjfgaaGreatBAH
import Derived.Test.YtgbnjjgnihjfgaaGreatBAB
import Derived.Test.YtgbnjjgnihjfgaaGreatBAE
import Derived.Test.YtgbnjjgnihjfgaaGreatBAC
import Derived.Test.YtgbnjjgnihjfgaaGreatBAF
section
set_option linter.unusedVariables false
set_option linter.unusedSimpArgs false
namespace Go.Proofs.YtgbnjjgnihjfgaaGreat
open Go.RowKit Go.Sort Go.ChangeMaps Go.MapKept

theorem cs2 : ∀ i, i < [cAdd, cGone].length → ∀ j : Nat, j < 10 → (#[.int .i64 0, .int .i64 5, .bool false, .int .i64 0, .int .i64 0, .int .i64 0, .bool true, .int .i64 12, .int .i64 3, .int .i64 0, .int .i64 0, .int .i64 6, .bool true, .int .i64 12, .int .i64 7, .int .i64 0, .bool false, .int .i64 0, .int .i64 0, .int .i64 0] : Array Value)[i * 10 + j]? = (chCells ([cAdd, cGone].getD i chZ))[j]? := by
  intro i hi j hj
  match i, hi with
  | 0, _ =>
    match j, hj with
    | 0, _ => rfl
    | 1, _ => rfl
    | 2, _ => rfl
    | 3, _ => rfl
    | 4, _ => rfl
    | 5, _ => rfl
    | 6, _ => rfl
    | 7, _ => rfl
    | 8, _ => rfl
    | 9, _ => rfl
  | 1, _ =>
    match j, hj with
    | 0, _ => rfl
    | 1, _ => rfl
    | 2, _ => rfl
    | 3, _ => rfl
    | 4, _ => rfl
    | 5, _ => rfl
    | 6, _ => rfl
    | 7, _ => rfl
    | 8, _ => rfl
    | 9, _ => rfl
theorem cs1 : ∀ i, i < [cAdd].length → ∀ j : Nat, j < 10 → (#[.int .i64 0, .int .i64 5, .bool false, .int .i64 0, .int .i64 0, .int .i64 0, .bool true, .int .i64 12, .int .i64 3, .int .i64 0] : Array Value)[i * 10 + j]? = (chCells ([cAdd].getD i chZ))[j]? := by
  intro i hi j hj
  match i, hi with
  | 0, _ =>
    match j, hj with
    | 0, _ => rfl
    | 1, _ => rfl
    | 2, _ => rfl
    | 3, _ => rfl
    | 4, _ => rfl
    | 5, _ => rfl
    | 6, _ => rfl
    | 7, _ => rfl
    | 8, _ => rfl
    | 9, _ => rfl
set_option maxRecDepth 100000 in
set_option maxHeartbeats 16000000 in
theorem sane7_any (W : World) : Calls Tryz.prog 10 #[] W fun e w' => e = .returned (.bool true) ∧ Below W.heap.size W w' := by
  go_enter Tryz.func10, Tryz.ntmps10
  go_upto_region 1 with fail
  go_upto_region 2 with fail
  have hn : (W.alloc (.cells #[.int .i64 5, .int .i64 0, .int .i64 1, .int .i64 10, .int .i64 19, .int .i64 2, .int .i64 0] 28)).heap[W.heap.size]? = some (.cells #[.int .i64 5, .int .i64 0, .int .i64 1, .int .i64 10, .int .i64 19, .int .i64 2, .int .i64 0] 28 (0, 0)) := heap_alloc_new _ _
  have hb : Below W.heap.size W (W.alloc (.cells #[.int .i64 5, .int .i64 0, .int .i64 1, .int .i64 10, .int .i64 19, .int .i64 2, .int .i64 0] 28)) := ba _ _
  generalize W.alloc (.cells #[.int .i64 5, .int .i64 0, .int .i64 1, .int .i64 10, .int .i64 19, .int .i64 2, .int .i64 0] 28) = v1 at hn hb ⊢
  have HB_v1 := Lib.hid hb
  clear hb
  have Hq_v1 := Lib.hid hn
  clear hn
  go_upto_region 3 with fail
  have hn : (v1.alloc (.cells #[.slice none 0 0, .int .i64 7, .bool true] 34)).heap[v1.heap.size]? = some (.cells #[.slice none 0 0, .int .i64 7, .bool true] 34 (0, 0)) := heap_alloc_new _ _
  have hb : Below v1.heap.size v1 (v1.alloc (.cells #[.slice none 0 0, .int .i64 7, .bool true] 34)) := ba _ _
  generalize v1.alloc (.cells #[.slice none 0 0, .int .i64 7, .bool true] 34) = v2 at hn hb ⊢
  have Hq_v2 := Lib.hid ((hb.block _ (lt_of_block Hq_v1.out)).trans Hq_v1.out)
  have HB_v2 := Lib.hid (bt HB_v1.out hb)
  clear Hq_v1
  clear hb
  have Hr_v2 := Lib.hid hn
  clear hn
  go_upto_region 4 with fail
  have hn : (v2.alloc (.cells #[.int .i64 0, .int .i64 5, .bool false, .int .i64 0, .int .i64 0, .int .i64 0, .bool true, .int .i64 12, .int .i64 3, .int .i64 0] 45)).heap[v2.heap.size]? = some (.cells #[.int .i64 0, .int .i64 5, .bool false, .int .i64 0, .int .i64 0, .int .i64 0, .bool true, .int .i64 12, .int .i64 3, .int .i64 0] 45 (0, 0)) := heap_alloc_new _ _
  have hb : Below v2.heap.size v2 (v2.alloc (.cells #[.int .i64 0, .int .i64 5, .bool false, .int .i64 0, .int .i64 0, .int .i64 0, .bool true, .int .i64 12, .int .i64 3, .int .i64 0] 45)) := ba _ _
  generalize v2.alloc (.cells #[.int .i64 0, .int .i64 5, .bool false, .int .i64 0, .int .i64 0, .int .i64 0, .bool true, .int .i64 12, .int .i64 3, .int .i64 0] 45) = v3 at hn hb ⊢
  have Hq_v3 := Lib.hid ((hb.block _ (lt_of_block Hq_v2.out)).trans Hq_v2.out)
  have Hr_v3 := Lib.hid ((hb.block _ (lt_of_block Hr_v2.out)).trans Hr_v2.out)
  have HB_v3 := Lib.hid (bt HB_v2.out hb)
  clear Hq_v2 Hr_v2
  clear hb
  have HAdd_v3 := Lib.hid hn
  clear hn
  go_upto_region 5 with fail
  have hn : (v3.alloc (.cells #[.int .i64 0, .int .i64 5, .bool false, .int .i64 0, .int .i64 0, .int .i64 0, .bool true, .int .i64 25, .int .i64 3, .int .i64 0] 45)).heap[v3.heap.size]? = some (.cells #[.int .i64 0, .int .i64 5, .bool false, .int .i64 0, .int .i64 0, .int .i64 0, .bool true, .int .i64 25, .int .i64 3, .int .i64 0] 45 (0, 0)) := heap_alloc_new _ _
  have hb : Below v3.heap.size v3 (v3.alloc (.cells #[.int .i64 0, .int .i64 5, .bool false, .int .i64 0, .int .i64 0, .int .i64 0, .bool true, .int .i64 25, .int .i64 3, .int .i64 0] 45)) := ba _ _
  generalize v3.alloc (.cells #[.int .i64 0, .int .i64 5, .bool false, .int .i64 0, .int .i64 0, .int .i64 0, .bool true, .int .i64 25, .int .i64 3, .int .i64 0] 45) = v4 at hn hb ⊢
  have Hq_v4 := Lib.hid ((hb.block _ (lt_of_block Hq_v3.out)).trans Hq_v3.out)
  have Hr_v4 := Lib.hid ((hb.block _ (lt_of_block Hr_v3.out)).trans Hr_v3.out)
  have HAdd_v4 := Lib.hid ((hb.block _ (lt_of_block HAdd_v3.out)).trans HAdd_v3.out)
  have HB_v4 := Lib.hid (bt HB_v3.out hb)
  clear Hq_v3 Hr_v3 HAdd_v3
  clear hb
  have HFar_v4 := Lib.hid hn
  clear hn
  go_upto_region 6 with fail
  have hn : (v4.alloc (.cells #[.int .i64 0, .int .i64 6, .bool true, .int .i64 12, .int .i64 7, .int .i64 0, .bool false, .int .i64 0, .int .i64 0, .int .i64 0] 45)).heap[v4.heap.size]? = some (.cells #[.int .i64 0, .int .i64 6, .bool true, .int .i64 12, .int .i64 7, .int .i64 0, .bool false, .int .i64 0, .int .i64 0, .int .i64 0] 45 (0, 0)) := heap_alloc_new _ _
  have hb : Below v4.heap.size v4 (v4.alloc (.cells #[.int .i64 0, .int .i64 6, .bool true, .int .i64 12, .int .i64 7, .int .i64 0, .bool false, .int .i64 0, .int .i64 0, .int .i64 0] 45)) := ba _ _
  generalize v4.alloc (.cells #[.int .i64 0, .int .i64 6, .bool true, .int .i64 12, .int .i64 7, .int .i64 0, .bool false, .int .i64 0, .int .i64 0, .int .i64 0] 45) = v5 at hn hb ⊢
  have Hq_v5 := Lib.hid ((hb.block _ (lt_of_block Hq_v4.out)).trans Hq_v4.out)
  have Hr_v5 := Lib.hid ((hb.block _ (lt_of_block Hr_v4.out)).trans Hr_v4.out)
  have HAdd_v5 := Lib.hid ((hb.block _ (lt_of_block HAdd_v4.out)).trans HAdd_v4.out)
  have HFar_v5 := Lib.hid ((hb.block _ (lt_of_block HFar_v4.out)).trans HFar_v4.out)
  have HB_v5 := Lib.hid (bt HB_v4.out hb)
  clear Hq_v4 Hr_v4 HAdd_v4 HFar_v4
  clear hb
  have HGone_v5 := Lib.hid hn
  clear hn
  go_upto_region 7 with fail
  have hn : (v5.alloc (.cells #[.int .i64 0, .int .i64 6, .bool true, .int .i64 12, .int .i64 7, .int .i64 0, .bool true, .int .i64 12, .int .i64 5, .int .i64 0] 45)).heap[v5.heap.size]? = some (.cells #[.int .i64 0, .int .i64 6, .bool true, .int .i64 12, .int .i64 7, .int .i64 0, .bool true, .int .i64 12, .int .i64 5, .int .i64 0] 45 (0, 0)) := heap_alloc_new _ _
  have hb : Below v5.heap.size v5 (v5.alloc (.cells #[.int .i64 0, .int .i64 6, .bool true, .int .i64 12, .int .i64 7, .int .i64 0, .bool true, .int .i64 12, .int .i64 5, .int .i64 0] 45)) := ba _ _
  generalize v5.alloc (.cells #[.int .i64 0, .int .i64 6, .bool true, .int .i64 12, .int .i64 7, .int .i64 0, .bool true, .int .i64 12, .int .i64 5, .int .i64 0] 45) = v6 at hn hb ⊢
  have Hq_v6 := Lib.hid ((hb.block _ (lt_of_block Hq_v5.out)).trans Hq_v5.out)
  have Hr_v6 := Lib.hid ((hb.block _ (lt_of_block Hr_v5.out)).trans Hr_v5.out)
  have HAdd_v6 := Lib.hid ((hb.block _ (lt_of_block HAdd_v5.out)).trans HAdd_v5.out)
  have HFar_v6 := Lib.hid ((hb.block _ (lt_of_block HFar_v5.out)).trans HFar_v5.out)
  have HGone_v6 := Lib.hid ((hb.block _ (lt_of_block HGone_v5.out)).trans HGone_v5.out)
  have HB_v6 := Lib.hid (bt HB_v5.out hb)
  clear Hq_v5 Hr_v5 HAdd_v5 HFar_v5 HGone_v5
  clear hb
  have HLess_v6 := Lib.hid hn
  clear hn
  go_upto_region 8 with fail
  have hn : (v6.alloc (.cells #[.int .i64 0, .int .i64 6, .bool true, .int .i64 12, .int .i64 9, .int .i64 1, .bool true, .int .i64 13, .int .i64 9, .int .i64 1] 45)).heap[v6.heap.size]? = some (.cells #[.int .i64 0, .int .i64 6, .bool true, .int .i64 12, .int .i64 9, .int .i64 1, .bool true, .int .i64 13, .int .i64 9, .int .i64 1] 45 (0, 0)) := heap_alloc_new _ _
  have hb : Below v6.heap.size v6 (v6.alloc (.cells #[.int .i64 0, .int .i64 6, .bool true, .int .i64 12, .int .i64 9, .int .i64 1, .bool true, .int .i64 13, .int .i64 9, .int .i64 1] 45)) := ba _ _
  generalize v6.alloc (.cells #[.int .i64 0, .int .i64 6, .bool true, .int .i64 12, .int .i64 9, .int .i64 1, .bool true, .int .i64 13, .int .i64 9, .int .i64 1] 45) = v7 at hn hb ⊢
  have Hq_v7 := Lib.hid ((hb.block _ (lt_of_block Hq_v6.out)).trans Hq_v6.out)
  have Hr_v7 := Lib.hid ((hb.block _ (lt_of_block Hr_v6.out)).trans Hr_v6.out)
  have HAdd_v7 := Lib.hid ((hb.block _ (lt_of_block HAdd_v6.out)).trans HAdd_v6.out)
  have HFar_v7 := Lib.hid ((hb.block _ (lt_of_block HFar_v6.out)).trans HFar_v6.out)
  have HGone_v7 := Lib.hid ((hb.block _ (lt_of_block HGone_v6.out)).trans HGone_v6.out)
  have HLess_v7 := Lib.hid ((hb.block _ (lt_of_block HLess_v6.out)).trans HLess_v6.out)
  have HB_v7 := Lib.hid (bt HB_v6.out hb)
  clear Hq_v6 Hr_v6 HAdd_v6 HFar_v6 HGone_v6 HLess_v6
  clear hb
  have HMoved_v7 := Lib.hid hn
  clear hn
  have hc := sp1 v7
  go_wp2_with (first | refine wpList_load_row rfl 28 _ rfl W.heap.size rfl 28 _ _ _ Hq_v7.out Tryz.underlying28 rfl (by kernel_rfl) ?_ | refine wpList_load_row rfl 34 _ rfl v1.heap.size rfl 34 _ _ _ Hr_v7.out Tryz.underlying34 rfl (by kernel_rfl) ?_ | refine wpList_load_row rfl 45 _ rfl v2.heap.size rfl 45 _ _ _ HAdd_v7.out Tryz.underlying45 rfl (by kernel_rfl) ?_)
  (with_reducible refine hc.mono ?_)
  rintro e v8 ⟨a0, n0, c0, rfl, hb_⟩
  clear hc
  have hb := hb_.out
  clear hb_
  have Hq_v8 := Lib.hid ((hb.block _ (lt_of_block Hq_v7.out)).trans Hq_v7.out)
  have Hr_v8 := Lib.hid ((hb.block _ (lt_of_block Hr_v7.out)).trans Hr_v7.out)
  have HAdd_v8 := Lib.hid ((hb.block _ (lt_of_block HAdd_v7.out)).trans HAdd_v7.out)
  have HFar_v8 := Lib.hid ((hb.block _ (lt_of_block HFar_v7.out)).trans HFar_v7.out)
  have HGone_v8 := Lib.hid ((hb.block _ (lt_of_block HGone_v7.out)).trans HGone_v7.out)
  have HLess_v8 := Lib.hid ((hb.block _ (lt_of_block HLess_v7.out)).trans HLess_v7.out)
  have HMoved_v8 := Lib.hid ((hb.block _ (lt_of_block HMoved_v7.out)).trans HMoved_v7.out)
  have HB_v8 := Lib.hid (bt HB_v7.out hb)
  clear Hq_v7 Hr_v7 HAdd_v7 HFar_v7 HGone_v7 HLess_v7 HMoved_v7
  clear hb
  go_upto_region 9 with fail
  have hn : (v8.alloc (.cells #[.slice a0 n0 c0, .int .i64 3, .bool true] 34)).heap[v8.heap.size]? = some (.cells #[.slice a0 n0 c0, .int .i64 3, .bool true] 34 (0, 0)) := heap_alloc_new _ _
  have hb : Below v8.heap.size v8 (v8.alloc (.cells #[.slice a0 n0 c0, .int .i64 3, .bool true] 34)) := ba _ _
  generalize v8.alloc (.cells #[.slice a0 n0 c0, .int .i64 3, .bool true] 34) = v9 at hn hb ⊢
  have Hq_v9 := Lib.hid ((hb.block _ (lt_of_block Hq_v8.out)).trans Hq_v8.out)
  have Hr_v9 := Lib.hid ((hb.block _ (lt_of_block Hr_v8.out)).trans Hr_v8.out)
  have HAdd_v9 := Lib.hid ((hb.block _ (lt_of_block HAdd_v8.out)).trans HAdd_v8.out)
  have HFar_v9 := Lib.hid ((hb.block _ (lt_of_block HFar_v8.out)).trans HFar_v8.out)
  have HGone_v9 := Lib.hid ((hb.block _ (lt_of_block HGone_v8.out)).trans HGone_v8.out)
  have HLess_v9 := Lib.hid ((hb.block _ (lt_of_block HLess_v8.out)).trans HLess_v8.out)
  have HMoved_v9 := Lib.hid ((hb.block _ (lt_of_block HMoved_v8.out)).trans HMoved_v8.out)
  have HB_v9 := Lib.hid (bt HB_v8.out hb)
  clear Hq_v8 Hr_v8 HAdd_v8 HFar_v8 HGone_v8 HLess_v8 HMoved_v8
  clear hb
  have Hp0_v9 := Lib.hid hn
  clear hn
  have hc := sp2 v9
  go_wp2_with (first | refine wpList_load_row rfl 28 _ rfl W.heap.size rfl 28 _ _ _ Hq_v9.out Tryz.underlying28 rfl (by kernel_rfl) ?_ | refine wpList_load_row rfl 34 _ rfl v1.heap.size rfl 34 _ _ _ Hr_v9.out Tryz.underlying34 rfl (by kernel_rfl) ?_ | refine wpList_load_row rfl 45 _ rfl v3.heap.size rfl 45 _ _ _ HFar_v9.out Tryz.underlying45 rfl (by kernel_rfl) ?_)
  (with_reducible refine hc.mono ?_)
  rintro e v10 ⟨a1, n1, c1, rfl, hb_⟩
  clear hc
  have hb := hb_.out
  clear hb_
  have Hq_v10 := Lib.hid ((hb.block _ (lt_of_block Hq_v9.out)).trans Hq_v9.out)
  have Hr_v10 := Lib.hid ((hb.block _ (lt_of_block Hr_v9.out)).trans Hr_v9.out)
  have HAdd_v10 := Lib.hid ((hb.block _ (lt_of_block HAdd_v9.out)).trans HAdd_v9.out)
  have HFar_v10 := Lib.hid ((hb.block _ (lt_of_block HFar_v9.out)).trans HFar_v9.out)
  have HGone_v10 := Lib.hid ((hb.block _ (lt_of_block HGone_v9.out)).trans HGone_v9.out)
  have HLess_v10 := Lib.hid ((hb.block _ (lt_of_block HLess_v9.out)).trans HLess_v9.out)
  have HMoved_v10 := Lib.hid ((hb.block _ (lt_of_block HMoved_v9.out)).trans HMoved_v9.out)
  have Hp0_v10 := Lib.hid ((hb.block _ (lt_of_block Hp0_v9.out)).trans Hp0_v9.out)
  have HB_v10 := Lib.hid (bt HB_v9.out hb)
  clear Hq_v9 Hr_v9 HAdd_v9 HFar_v9 HGone_v9 HLess_v9 HMoved_v9 Hp0_v9
  clear hb
  go_upto_region 10 with fail
  have hn : (v10.alloc (.cells #[.slice a1 n1 c1, .int .i64 7, .bool true] 34)).heap[v10.heap.size]? = some (.cells #[.slice a1 n1 c1, .int .i64 7, .bool true] 34 (0, 0)) := heap_alloc_new _ _
  have hb : Below v10.heap.size v10 (v10.alloc (.cells #[.slice a1 n1 c1, .int .i64 7, .bool true] 34)) := ba _ _
  generalize v10.alloc (.cells #[.slice a1 n1 c1, .int .i64 7, .bool true] 34) = v11 at hn hb ⊢
  have Hq_v11 := Lib.hid ((hb.block _ (lt_of_block Hq_v10.out)).trans Hq_v10.out)
  have Hr_v11 := Lib.hid ((hb.block _ (lt_of_block Hr_v10.out)).trans Hr_v10.out)
  have HAdd_v11 := Lib.hid ((hb.block _ (lt_of_block HAdd_v10.out)).trans HAdd_v10.out)
  have HFar_v11 := Lib.hid ((hb.block _ (lt_of_block HFar_v10.out)).trans HFar_v10.out)
  have HGone_v11 := Lib.hid ((hb.block _ (lt_of_block HGone_v10.out)).trans HGone_v10.out)
  have HLess_v11 := Lib.hid ((hb.block _ (lt_of_block HLess_v10.out)).trans HLess_v10.out)
  have HMoved_v11 := Lib.hid ((hb.block _ (lt_of_block HMoved_v10.out)).trans HMoved_v10.out)
  have Hp0_v11 := Lib.hid ((hb.block _ (lt_of_block Hp0_v10.out)).trans Hp0_v10.out)
  have HB_v11 := Lib.hid (bt HB_v10.out hb)
  clear Hq_v10 Hr_v10 HAdd_v10 HFar_v10 HGone_v10 HLess_v10 HMoved_v10 Hp0_v10
  clear hb
  have Hp1_v11 := Lib.hid hn
  clear hn
  have hc := sp3 v11
  go_wp2_with (first | refine wpList_load_row rfl 28 _ rfl W.heap.size rfl 28 _ _ _ Hq_v11.out Tryz.underlying28 rfl (by kernel_rfl) ?_ | refine wpList_load_row rfl 34 _ rfl v1.heap.size rfl 34 _ _ _ Hr_v11.out Tryz.underlying34 rfl (by kernel_rfl) ?_ | refine wpList_load_row rfl 45 _ rfl v4.heap.size rfl 45 _ _ _ HGone_v11.out Tryz.underlying45 rfl (by kernel_rfl) ?_)
  (with_reducible refine hc.mono ?_)
  rintro e v12 ⟨a2, n2, c2, rfl, hb_⟩
  clear hc
  have hb := hb_.out
  clear hb_
  have Hq_v12 := Lib.hid ((hb.block _ (lt_of_block Hq_v11.out)).trans Hq_v11.out)
  have Hr_v12 := Lib.hid ((hb.block _ (lt_of_block Hr_v11.out)).trans Hr_v11.out)
  have HAdd_v12 := Lib.hid ((hb.block _ (lt_of_block HAdd_v11.out)).trans HAdd_v11.out)
  have HFar_v12 := Lib.hid ((hb.block _ (lt_of_block HFar_v11.out)).trans HFar_v11.out)
  have HGone_v12 := Lib.hid ((hb.block _ (lt_of_block HGone_v11.out)).trans HGone_v11.out)
  have HLess_v12 := Lib.hid ((hb.block _ (lt_of_block HLess_v11.out)).trans HLess_v11.out)
  have HMoved_v12 := Lib.hid ((hb.block _ (lt_of_block HMoved_v11.out)).trans HMoved_v11.out)
  have Hp0_v12 := Lib.hid ((hb.block _ (lt_of_block Hp0_v11.out)).trans Hp0_v11.out)
  have Hp1_v12 := Lib.hid ((hb.block _ (lt_of_block Hp1_v11.out)).trans Hp1_v11.out)
  have HB_v12 := Lib.hid (bt HB_v11.out hb)
  clear Hq_v11 Hr_v11 HAdd_v11 HFar_v11 HGone_v11 HLess_v11 HMoved_v11 Hp0_v11 Hp1_v11
  clear hb
  go_upto_region 11 with fail
  have hn : (v12.alloc (.cells #[.slice a2 n2 c2, .int .i64 0, .bool false] 34)).heap[v12.heap.size]? = some (.cells #[.slice a2 n2 c2, .int .i64 0, .bool false] 34 (0, 0)) := heap_alloc_new _ _
  have hb : Below v12.heap.size v12 (v12.alloc (.cells #[.slice a2 n2 c2, .int .i64 0, .bool false] 34)) := ba _ _
  generalize v12.alloc (.cells #[.slice a2 n2 c2, .int .i64 0, .bool false] 34) = v13 at hn hb ⊢
  have Hq_v13 := Lib.hid ((hb.block _ (lt_of_block Hq_v12.out)).trans Hq_v12.out)
  have Hr_v13 := Lib.hid ((hb.block _ (lt_of_block Hr_v12.out)).trans Hr_v12.out)
  have HAdd_v13 := Lib.hid ((hb.block _ (lt_of_block HAdd_v12.out)).trans HAdd_v12.out)
  have HFar_v13 := Lib.hid ((hb.block _ (lt_of_block HFar_v12.out)).trans HFar_v12.out)
  have HGone_v13 := Lib.hid ((hb.block _ (lt_of_block HGone_v12.out)).trans HGone_v12.out)
  have HLess_v13 := Lib.hid ((hb.block _ (lt_of_block HLess_v12.out)).trans HLess_v12.out)
  have HMoved_v13 := Lib.hid ((hb.block _ (lt_of_block HMoved_v12.out)).trans HMoved_v12.out)
  have Hp0_v13 := Lib.hid ((hb.block _ (lt_of_block Hp0_v12.out)).trans Hp0_v12.out)
  have Hp1_v13 := Lib.hid ((hb.block _ (lt_of_block Hp1_v12.out)).trans Hp1_v12.out)
  have HB_v13 := Lib.hid (bt HB_v12.out hb)
  clear Hq_v12 Hr_v12 HAdd_v12 HFar_v12 HGone_v12 HLess_v12 HMoved_v12 Hp0_v12 Hp1_v12
  clear hb
  have Hp2_v13 := Lib.hid hn
  clear hn
  have hc := sp4 v13
  go_wp2_with (first | refine wpList_load_row rfl 28 _ rfl W.heap.size rfl 28 _ _ _ Hq_v13.out Tryz.underlying28 rfl (by kernel_rfl) ?_ | refine wpList_load_row rfl 34 _ rfl v1.heap.size rfl 34 _ _ _ Hr_v13.out Tryz.underlying34 rfl (by kernel_rfl) ?_ | refine wpList_load_row rfl 45 _ rfl v5.heap.size rfl 45 _ _ _ HLess_v13.out Tryz.underlying45 rfl (by kernel_rfl) ?_)
  (with_reducible refine hc.mono ?_)
  rintro e v14 ⟨a3, n3, c3, rfl, hb_⟩
  clear hc
  have hb := hb_.out
  clear hb_
  have Hq_v14 := Lib.hid ((hb.block _ (lt_of_block Hq_v13.out)).trans Hq_v13.out)
  have Hr_v14 := Lib.hid ((hb.block _ (lt_of_block Hr_v13.out)).trans Hr_v13.out)
  have HAdd_v14 := Lib.hid ((hb.block _ (lt_of_block HAdd_v13.out)).trans HAdd_v13.out)
  have HFar_v14 := Lib.hid ((hb.block _ (lt_of_block HFar_v13.out)).trans HFar_v13.out)
  have HGone_v14 := Lib.hid ((hb.block _ (lt_of_block HGone_v13.out)).trans HGone_v13.out)
  have HLess_v14 := Lib.hid ((hb.block _ (lt_of_block HLess_v13.out)).trans HLess_v13.out)
  have HMoved_v14 := Lib.hid ((hb.block _ (lt_of_block HMoved_v13.out)).trans HMoved_v13.out)
  have Hp0_v14 := Lib.hid ((hb.block _ (lt_of_block Hp0_v13.out)).trans Hp0_v13.out)
  have Hp1_v14 := Lib.hid ((hb.block _ (lt_of_block Hp1_v13.out)).trans Hp1_v13.out)
  have Hp2_v14 := Lib.hid ((hb.block _ (lt_of_block Hp2_v13.out)).trans Hp2_v13.out)
  have HB_v14 := Lib.hid (bt HB_v13.out hb)
  clear Hq_v13 Hr_v13 HAdd_v13 HFar_v13 HGone_v13 HLess_v13 HMoved_v13 Hp0_v13 Hp1_v13 Hp2_v13
  clear hb
  go_upto_region 12 with fail
  have hn : (v14.alloc (.cells #[.slice a3 n3 c3, .int .i64 5, .bool true] 34)).heap[v14.heap.size]? = some (.cells #[.slice a3 n3 c3, .int .i64 5, .bool true] 34 (0, 0)) := heap_alloc_new _ _
  have hb : Below v14.heap.size v14 (v14.alloc (.cells #[.slice a3 n3 c3, .int .i64 5, .bool true] 34)) := ba _ _
  generalize v14.alloc (.cells #[.slice a3 n3 c3, .int .i64 5, .bool true] 34) = v15 at hn hb ⊢
  have Hq_v15 := Lib.hid ((hb.block _ (lt_of_block Hq_v14.out)).trans Hq_v14.out)
  have Hr_v15 := Lib.hid ((hb.block _ (lt_of_block Hr_v14.out)).trans Hr_v14.out)
  have HAdd_v15 := Lib.hid ((hb.block _ (lt_of_block HAdd_v14.out)).trans HAdd_v14.out)
  have HFar_v15 := Lib.hid ((hb.block _ (lt_of_block HFar_v14.out)).trans HFar_v14.out)
  have HGone_v15 := Lib.hid ((hb.block _ (lt_of_block HGone_v14.out)).trans HGone_v14.out)
  have HLess_v15 := Lib.hid ((hb.block _ (lt_of_block HLess_v14.out)).trans HLess_v14.out)
  have HMoved_v15 := Lib.hid ((hb.block _ (lt_of_block HMoved_v14.out)).trans HMoved_v14.out)
  have Hp0_v15 := Lib.hid ((hb.block _ (lt_of_block Hp0_v14.out)).trans Hp0_v14.out)
  have Hp1_v15 := Lib.hid ((hb.block _ (lt_of_block Hp1_v14.out)).trans Hp1_v14.out)
  have Hp2_v15 := Lib.hid ((hb.block _ (lt_of_block Hp2_v14.out)).trans Hp2_v14.out)
  have HB_v15 := Lib.hid (bt HB_v14.out hb)
  clear Hq_v14 Hr_v14 HAdd_v14 HFar_v14 HGone_v14 HLess_v14 HMoved_v14 Hp0_v14 Hp1_v14 Hp2_v14
  clear hb
  have Hp3_v15 := Lib.hid hn
  clear hn
  go_wp2_with (first | refine wpList_load_row rfl 45 _ rfl v2.heap.size rfl 45 _ _ _ HAdd_v15.out Tryz.underlying45 rfl (by kernel_rfl) ?_ | refine wpList_load_row rfl 45 _ rfl v4.heap.size rfl 45 _ _ _ HGone_v15.out Tryz.underlying45 rfl (by kernel_rfl) ?_)
  have hn : (v15.alloc (.cells #[.int .i64 0, .int .i64 5, .bool false, .int .i64 0, .int .i64 0, .int .i64 0, .bool true, .int .i64 12, .int .i64 3, .int .i64 0, .int .i64 0, .int .i64 6, .bool true, .int .i64 12, .int .i64 7, .int .i64 0, .bool false, .int .i64 0, .int .i64 0, .int .i64 0] 45)).heap[v15.heap.size]? = some (.cells #[.int .i64 0, .int .i64 5, .bool false, .int .i64 0, .int .i64 0, .int .i64 0, .bool true, .int .i64 12, .int .i64 3, .int .i64 0, .int .i64 0, .int .i64 6, .bool true, .int .i64 12, .int .i64 7, .int .i64 0, .bool false, .int .i64 0, .int .i64 0, .int .i64 0] 45 (0, 0)) := heap_alloc_new _ _
  have hb : Below v15.heap.size v15 (v15.alloc (.cells #[.int .i64 0, .int .i64 5, .bool false, .int .i64 0, .int .i64 0, .int .i64 0, .bool true, .int .i64 12, .int .i64 3, .int .i64 0, .int .i64 0, .int .i64 6, .bool true, .int .i64 12, .int .i64 7, .int .i64 0, .bool false, .int .i64 0, .int .i64 0, .int .i64 0] 45)) := ba _ _
  generalize v15.alloc (.cells #[.int .i64 0, .int .i64 5, .bool false, .int .i64 0, .int .i64 0, .int .i64 0, .bool true, .int .i64 12, .int .i64 3, .int .i64 0, .int .i64 0, .int .i64 6, .bool true, .int .i64 12, .int .i64 7, .int .i64 0, .bool false, .int .i64 0, .int .i64 0, .int .i64 0] 45) = v16 at hn hb ⊢
  have Hq_v16 := Lib.hid ((hb.block _ (lt_of_block Hq_v15.out)).trans Hq_v15.out)
  have Hr_v16 := Lib.hid ((hb.block _ (lt_of_block Hr_v15.out)).trans Hr_v15.out)
  have HAdd_v16 := Lib.hid ((hb.block _ (lt_of_block HAdd_v15.out)).trans HAdd_v15.out)
  have HFar_v16 := Lib.hid ((hb.block _ (lt_of_block HFar_v15.out)).trans HFar_v15.out)
  have HGone_v16 := Lib.hid ((hb.block _ (lt_of_block HGone_v15.out)).trans HGone_v15.out)
  have HLess_v16 := Lib.hid ((hb.block _ (lt_of_block HLess_v15.out)).trans HLess_v15.out)
  have HMoved_v16 := Lib.hid ((hb.block _ (lt_of_block HMoved_v15.out)).trans HMoved_v15.out)
  have Hp0_v16 := Lib.hid ((hb.block _ (lt_of_block Hp0_v15.out)).trans Hp0_v15.out)
  have Hp1_v16 := Lib.hid ((hb.block _ (lt_of_block Hp1_v15.out)).trans Hp1_v15.out)
  have Hp2_v16 := Lib.hid ((hb.block _ (lt_of_block Hp2_v15.out)).trans Hp2_v15.out)
  have Hp3_v16 := Lib.hid ((hb.block _ (lt_of_block Hp3_v15.out)).trans Hp3_v15.out)
  have HB_v16 := Lib.hid (bt HB_v15.out hb)
  clear Hq_v15 Hr_v15 HAdd_v15 HFar_v15 HGone_v15 HLess_v15 HMoved_v15 Hp0_v15 Hp1_v15 Hp2_v15 Hp3_v15
  clear hb
  have HC1_v16 := Lib.hid hn
  clear hn
  have hC : ChS v16 (.slice (some ⟨v15.heap.size, 0, none⟩) 2 2) [cAdd, cGone] := ChS_mk HC1_v16.out cs2 (by decide)
  have hc := saC hC
  clear hC
  (with_reducible refine hc.mono ?_)
  rintro e v17 ⟨a4, n4, c4, rfl, hb_⟩
  clear hc
  have hb := hb_.out
  clear hb_
  have Hq_v17 := Lib.hid ((hb.block _ (lt_of_block Hq_v16.out)).trans Hq_v16.out)
  have Hr_v17 := Lib.hid ((hb.block _ (lt_of_block Hr_v16.out)).trans Hr_v16.out)
  have HAdd_v17 := Lib.hid ((hb.block _ (lt_of_block HAdd_v16.out)).trans HAdd_v16.out)
  have HFar_v17 := Lib.hid ((hb.block _ (lt_of_block HFar_v16.out)).trans HFar_v16.out)
  have HGone_v17 := Lib.hid ((hb.block _ (lt_of_block HGone_v16.out)).trans HGone_v16.out)
  have HLess_v17 := Lib.hid ((hb.block _ (lt_of_block HLess_v16.out)).trans HLess_v16.out)
  have HMoved_v17 := Lib.hid ((hb.block _ (lt_of_block HMoved_v16.out)).trans HMoved_v16.out)
  have Hp0_v17 := Lib.hid ((hb.block _ (lt_of_block Hp0_v16.out)).trans Hp0_v16.out)
  have Hp1_v17 := Lib.hid ((hb.block _ (lt_of_block Hp1_v16.out)).trans Hp1_v16.out)
  have Hp2_v17 := Lib.hid ((hb.block _ (lt_of_block Hp2_v16.out)).trans Hp2_v16.out)
  have Hp3_v17 := Lib.hid ((hb.block _ (lt_of_block Hp3_v16.out)).trans Hp3_v16.out)
  have HC1_v17 := Lib.hid ((hb.block _ (lt_of_block HC1_v16.out)).trans HC1_v16.out)
  have HB_v17 := Lib.hid (bt HB_v16.out hb)
  clear Hq_v16 Hr_v16 HAdd_v16 HFar_v16 HGone_v16 HLess_v16 HMoved_v16 Hp0_v16 Hp1_v16 Hp2_v16 Hp3_v16 HC1_v16
  clear hb
  go_upto_region 13 with fail
  have hn : (v17.alloc (.cells #[.slice a4 n4 c4, .int .i64 4, .bool false] 34)).heap[v17.heap.size]? = some (.cells #[.slice a4 n4 c4, .int .i64 4, .bool false] 34 (0, 0)) := heap_alloc_new _ _
  have hb : Below v17.heap.size v17 (v17.alloc (.cells #[.slice a4 n4 c4, .int .i64 4, .bool false] 34)) := ba _ _
  generalize v17.alloc (.cells #[.slice a4 n4 c4, .int .i64 4, .bool false] 34) = v18 at hn hb ⊢
  have Hq_v18 := Lib.hid ((hb.block _ (lt_of_block Hq_v17.out)).trans Hq_v17.out)
  have Hr_v18 := Lib.hid ((hb.block _ (lt_of_block Hr_v17.out)).trans Hr_v17.out)
  have HAdd_v18 := Lib.hid ((hb.block _ (lt_of_block HAdd_v17.out)).trans HAdd_v17.out)
  have HFar_v18 := Lib.hid ((hb.block _ (lt_of_block HFar_v17.out)).trans HFar_v17.out)
  have HGone_v18 := Lib.hid ((hb.block _ (lt_of_block HGone_v17.out)).trans HGone_v17.out)
  have HLess_v18 := Lib.hid ((hb.block _ (lt_of_block HLess_v17.out)).trans HLess_v17.out)
  have HMoved_v18 := Lib.hid ((hb.block _ (lt_of_block HMoved_v17.out)).trans HMoved_v17.out)
  have Hp0_v18 := Lib.hid ((hb.block _ (lt_of_block Hp0_v17.out)).trans Hp0_v17.out)
  have Hp1_v18 := Lib.hid ((hb.block _ (lt_of_block Hp1_v17.out)).trans Hp1_v17.out)
  have Hp2_v18 := Lib.hid ((hb.block _ (lt_of_block Hp2_v17.out)).trans Hp2_v17.out)
  have Hp3_v18 := Lib.hid ((hb.block _ (lt_of_block Hp3_v17.out)).trans Hp3_v17.out)
  have HC1_v18 := Lib.hid ((hb.block _ (lt_of_block HC1_v17.out)).trans HC1_v17.out)
  have HB_v18 := Lib.hid (bt HB_v17.out hb)
  clear Hq_v17 Hr_v17 HAdd_v17 HFar_v17 HGone_v17 HLess_v17 HMoved_v17 Hp0_v17 Hp1_v17 Hp2_v17 Hp3_v17 HC1_v17
  clear hb
  have HpC1_v18 := Lib.hid hn
  clear hn
  go_wp2_with (refine wpList_load_row rfl 45 _ rfl v2.heap.size rfl 45 _ _ _ HAdd_v18.out Tryz.underlying45 rfl (by kernel_rfl) ?_)
  have hn : (v18.alloc (.cells #[.int .i64 0, .int .i64 5, .bool false, .int .i64 0, .int .i64 0, .int .i64 0, .bool true, .int .i64 12, .int .i64 3, .int .i64 0] 45)).heap[v18.heap.size]? = some (.cells #[.int .i64 0, .int .i64 5, .bool false, .int .i64 0, .int .i64 0, .int .i64 0, .bool true, .int .i64 12, .int .i64 3, .int .i64 0] 45 (0, 0)) := heap_alloc_new _ _
  have hb : Below v18.heap.size v18 (v18.alloc (.cells #[.int .i64 0, .int .i64 5, .bool false, .int .i64 0, .int .i64 0, .int .i64 0, .bool true, .int .i64 12, .int .i64 3, .int .i64 0] 45)) := ba _ _
  generalize v18.alloc (.cells #[.int .i64 0, .int .i64 5, .bool false, .int .i64 0, .int .i64 0, .int .i64 0, .bool true, .int .i64 12, .int .i64 3, .int .i64 0] 45) = v19 at hn hb ⊢
  have Hq_v19 := Lib.hid ((hb.block _ (lt_of_block Hq_v18.out)).trans Hq_v18.out)
  have Hr_v19 := Lib.hid ((hb.block _ (lt_of_block Hr_v18.out)).trans Hr_v18.out)
  have HAdd_v19 := Lib.hid ((hb.block _ (lt_of_block HAdd_v18.out)).trans HAdd_v18.out)
  have HFar_v19 := Lib.hid ((hb.block _ (lt_of_block HFar_v18.out)).trans HFar_v18.out)
  have HGone_v19 := Lib.hid ((hb.block _ (lt_of_block HGone_v18.out)).trans HGone_v18.out)
  have HLess_v19 := Lib.hid ((hb.block _ (lt_of_block HLess_v18.out)).trans HLess_v18.out)
  have HMoved_v19 := Lib.hid ((hb.block _ (lt_of_block HMoved_v18.out)).trans HMoved_v18.out)
  have Hp0_v19 := Lib.hid ((hb.block _ (lt_of_block Hp0_v18.out)).trans Hp0_v18.out)
  have Hp1_v19 := Lib.hid ((hb.block _ (lt_of_block Hp1_v18.out)).trans Hp1_v18.out)
  have Hp2_v19 := Lib.hid ((hb.block _ (lt_of_block Hp2_v18.out)).trans Hp2_v18.out)
  have Hp3_v19 := Lib.hid ((hb.block _ (lt_of_block Hp3_v18.out)).trans Hp3_v18.out)
  have HC1_v19 := Lib.hid ((hb.block _ (lt_of_block HC1_v18.out)).trans HC1_v18.out)
  have HpC1_v19 := Lib.hid ((hb.block _ (lt_of_block HpC1_v18.out)).trans HpC1_v18.out)
  have HB_v19 := Lib.hid (bt HB_v18.out hb)
  clear Hq_v18 Hr_v18 HAdd_v18 HFar_v18 HGone_v18 HLess_v18 HMoved_v18 Hp0_v18 Hp1_v18 Hp2_v18 Hp3_v18 HC1_v18 HpC1_v18
  clear hb
  have HC2_v19 := Lib.hid hn
  clear hn
  have hC : ChS v19 (.slice (some ⟨v18.heap.size, 0, none⟩) 1 1) [cAdd] := ChS_mk HC2_v19.out cs1 (by decide)
  have hc := saR hC
  clear hC
  (with_reducible refine hc.mono ?_)
  rintro e v20 ⟨eg, ef, ec, rfl, hE, HEC, hb_⟩
  clear hc
  have hb := hb_.out
  clear hb_
  have Hq_v20 := Lib.hid ((hb.block _ (lt_of_block Hq_v19.out)).trans Hq_v19.out)
  have Hr_v20 := Lib.hid ((hb.block _ (lt_of_block Hr_v19.out)).trans Hr_v19.out)
  have HAdd_v20 := Lib.hid ((hb.block _ (lt_of_block HAdd_v19.out)).trans HAdd_v19.out)
  have HFar_v20 := Lib.hid ((hb.block _ (lt_of_block HFar_v19.out)).trans HFar_v19.out)
  have HGone_v20 := Lib.hid ((hb.block _ (lt_of_block HGone_v19.out)).trans HGone_v19.out)
  have HLess_v20 := Lib.hid ((hb.block _ (lt_of_block HLess_v19.out)).trans HLess_v19.out)
  have HMoved_v20 := Lib.hid ((hb.block _ (lt_of_block HMoved_v19.out)).trans HMoved_v19.out)
  have Hp0_v20 := Lib.hid ((hb.block _ (lt_of_block Hp0_v19.out)).trans Hp0_v19.out)
  have Hp1_v20 := Lib.hid ((hb.block _ (lt_of_block Hp1_v19.out)).trans Hp1_v19.out)
  have Hp2_v20 := Lib.hid ((hb.block _ (lt_of_block Hp2_v19.out)).trans Hp2_v19.out)
  have Hp3_v20 := Lib.hid ((hb.block _ (lt_of_block Hp3_v19.out)).trans Hp3_v19.out)
  have HC1_v20 := Lib.hid ((hb.block _ (lt_of_block HC1_v19.out)).trans HC1_v19.out)
  have HpC1_v20 := Lib.hid ((hb.block _ (lt_of_block HpC1_v19.out)).trans HpC1_v19.out)
  have HC2_v20 := Lib.hid ((hb.block _ (lt_of_block HC2_v19.out)).trans HC2_v19.out)
  have HB_v20 := Lib.hid (bt HB_v19.out hb)
  clear Hq_v19 Hr_v19 HAdd_v19 HFar_v19 HGone_v19 HLess_v19 HMoved_v19 Hp0_v19 Hp1_v19 Hp2_v19 Hp3_v19 HC1_v19 HpC1_v19 HC2_v19
  clear hb
  have HE_v20 := hE
  clear hE
  go_upto_region 14 with fail
  have hn : (v20.alloc (.cells #[.slice (some ⟨eg, ef, none⟩) 1 ec, .int .i64 0, .bool false] 34)).heap[v20.heap.size]? = some (.cells #[.slice (some ⟨eg, ef, none⟩) 1 ec, .int .i64 0, .bool false] 34 (0, 0)) := heap_alloc_new _ _
  have hb : Below v20.heap.size v20 (v20.alloc (.cells #[.slice (some ⟨eg, ef, none⟩) 1 ec, .int .i64 0, .bool false] 34)) := ba _ _
  generalize v20.alloc (.cells #[.slice (some ⟨eg, ef, none⟩) 1 ec, .int .i64 0, .bool false] 34) = v21 at hn hb ⊢
  have Hq_v21 := Lib.hid ((hb.block _ (lt_of_block Hq_v20.out)).trans Hq_v20.out)
  have Hr_v21 := Lib.hid ((hb.block _ (lt_of_block Hr_v20.out)).trans Hr_v20.out)
  have HAdd_v21 := Lib.hid ((hb.block _ (lt_of_block HAdd_v20.out)).trans HAdd_v20.out)
  have HFar_v21 := Lib.hid ((hb.block _ (lt_of_block HFar_v20.out)).trans HFar_v20.out)
  have HGone_v21 := Lib.hid ((hb.block _ (lt_of_block HGone_v20.out)).trans HGone_v20.out)
  have HLess_v21 := Lib.hid ((hb.block _ (lt_of_block HLess_v20.out)).trans HLess_v20.out)
  have HMoved_v21 := Lib.hid ((hb.block _ (lt_of_block HMoved_v20.out)).trans HMoved_v20.out)
  have Hp0_v21 := Lib.hid ((hb.block _ (lt_of_block Hp0_v20.out)).trans Hp0_v20.out)
  have Hp1_v21 := Lib.hid ((hb.block _ (lt_of_block Hp1_v20.out)).trans Hp1_v20.out)
  have Hp2_v21 := Lib.hid ((hb.block _ (lt_of_block Hp2_v20.out)).trans Hp2_v20.out)
  have Hp3_v21 := Lib.hid ((hb.block _ (lt_of_block Hp3_v20.out)).trans Hp3_v20.out)
  have HC1_v21 := Lib.hid ((hb.block _ (lt_of_block HC1_v20.out)).trans HC1_v20.out)
  have HpC1_v21 := Lib.hid ((hb.block _ (lt_of_block HpC1_v20.out)).trans HpC1_v20.out)
  have HC2_v21 := Lib.hid ((hb.block _ (lt_of_block HC2_v20.out)).trans HC2_v20.out)
  have HB_v21 := Lib.hid (bt HB_v20.out hb)
  have HE_v21 : Hid (v21.cell? ⟨eg, ef + 3, none⟩ = some (.int .i64 3) ∧ eg < v21.heap.size) := Lib.hid ⟨by rw [(bcell hb).1 eg _ HE_v20.out.2]; exact HE_v20.out.1, Nat.lt_of_lt_of_le HE_v20.out.2 hb.size⟩
  clear Hq_v20 Hr_v20 HAdd_v20 HFar_v20 HGone_v20 HLess_v20 HMoved_v20 Hp0_v20 Hp1_v20 Hp2_v20 Hp3_v20 HC1_v20 HpC1_v20 HC2_v20
  clear hb
  have HpC2_v21 := Lib.hid hn
  clear hn
  have x0 : v21.cell? ⟨v20.heap.size, 0, none⟩ = some (.slice (some ⟨eg, ef, none⟩) 1 ec) := by simp [World.cell?, HpC2_v21.out]
  go_upto_region 16 with fail
  clear x0
  have hc := stAdd v21
  go_wp2_with (first | refine wpList_load_row rfl 28 _ rfl W.heap.size rfl 28 _ _ _ Hq_v21.out Tryz.underlying28 rfl (by kernel_rfl) ?_ | refine wpList_load_row rfl 45 _ rfl v2.heap.size rfl 45 _ _ _ HAdd_v21.out Tryz.underlying45 rfl (by kernel_rfl) ?_)
  (with_reducible refine hc.mono ?_)
  rintro e v22 ⟨rfl, hb_⟩
  clear hc
  have hb := hb_.out
  clear hb_
  have Hq_v22 := Lib.hid ((hb.block _ (lt_of_block Hq_v21.out)).trans Hq_v21.out)
  have Hr_v22 := Lib.hid ((hb.block _ (lt_of_block Hr_v21.out)).trans Hr_v21.out)
  have HAdd_v22 := Lib.hid ((hb.block _ (lt_of_block HAdd_v21.out)).trans HAdd_v21.out)
  have HFar_v22 := Lib.hid ((hb.block _ (lt_of_block HFar_v21.out)).trans HFar_v21.out)
  have HGone_v22 := Lib.hid ((hb.block _ (lt_of_block HGone_v21.out)).trans HGone_v21.out)
  have HLess_v22 := Lib.hid ((hb.block _ (lt_of_block HLess_v21.out)).trans HLess_v21.out)
  have HMoved_v22 := Lib.hid ((hb.block _ (lt_of_block HMoved_v21.out)).trans HMoved_v21.out)
  have Hp0_v22 := Lib.hid ((hb.block _ (lt_of_block Hp0_v21.out)).trans Hp0_v21.out)
  have Hp1_v22 := Lib.hid ((hb.block _ (lt_of_block Hp1_v21.out)).trans Hp1_v21.out)
  have Hp2_v22 := Lib.hid ((hb.block _ (lt_of_block Hp2_v21.out)).trans Hp2_v21.out)
  have Hp3_v22 := Lib.hid ((hb.block _ (lt_of_block Hp3_v21.out)).trans Hp3_v21.out)
  have HC1_v22 := Lib.hid ((hb.block _ (lt_of_block HC1_v21.out)).trans HC1_v21.out)
  have HpC1_v22 := Lib.hid ((hb.block _ (lt_of_block HpC1_v21.out)).trans HpC1_v21.out)
  have HC2_v22 := Lib.hid ((hb.block _ (lt_of_block HC2_v21.out)).trans HC2_v21.out)
  have HpC2_v22 := Lib.hid ((hb.block _ (lt_of_block HpC2_v21.out)).trans HpC2_v21.out)
  have HB_v22 := Lib.hid (bt HB_v21.out hb)
  have HE_v22 : Hid (v22.cell? ⟨eg, ef + 3, none⟩ = some (.int .i64 3) ∧ eg < v22.heap.size) := Lib.hid ⟨by rw [(bcell hb).1 eg _ HE_v21.out.2]; exact HE_v21.out.1, Nat.lt_of_lt_of_le HE_v21.out.2 hb.size⟩
  clear Hq_v21 Hr_v21 HAdd_v21 HFar_v21 HGone_v21 HLess_v21 HMoved_v21 Hp0_v21 Hp1_v21 Hp2_v21 Hp3_v21 HC1_v21 HpC1_v21 HC2_v21 HpC2_v21
  clear hb
  have hc := stFar v22
  go_wp2_with (first | refine wpList_load_rowW (by rfl) 28 _ rfl W.heap.size rfl 28 _ _ _ Hq_v22.out Tryz.underlying28 rfl (by kernel_rfl) ?_ | refine wpList_load_rowW (by rfl) 45 _ rfl v3.heap.size rfl 45 _ _ _ HFar_v22.out Tryz.underlying45 rfl (by kernel_rfl) ?_)
  (with_reducible refine hc.mono ?_)
  rintro e v23 ⟨rfl, hb_⟩
  clear hc
  have hb := hb_.out
  clear hb_
  have Hq_v23 := Lib.hid ((hb.block _ (lt_of_block Hq_v22.out)).trans Hq_v22.out)
  have Hr_v23 := Lib.hid ((hb.block _ (lt_of_block Hr_v22.out)).trans Hr_v22.out)
  have HAdd_v23 := Lib.hid ((hb.block _ (lt_of_block HAdd_v22.out)).trans HAdd_v22.out)
  have HFar_v23 := Lib.hid ((hb.block _ (lt_of_block HFar_v22.out)).trans HFar_v22.out)
  have HGone_v23 := Lib.hid ((hb.block _ (lt_of_block HGone_v22.out)).trans HGone_v22.out)
  have HLess_v23 := Lib.hid ((hb.block _ (lt_of_block HLess_v22.out)).trans HLess_v22.out)
  have HMoved_v23 := Lib.hid ((hb.block _ (lt_of_block HMoved_v22.out)).trans HMoved_v22.out)
  have Hp0_v23 := Lib.hid ((hb.block _ (lt_of_block Hp0_v22.out)).trans Hp0_v22.out)
  have Hp1_v23 := Lib.hid ((hb.block _ (lt_of_block Hp1_v22.out)).trans Hp1_v22.out)
  have Hp2_v23 := Lib.hid ((hb.block _ (lt_of_block Hp2_v22.out)).trans Hp2_v22.out)
  have Hp3_v23 := Lib.hid ((hb.block _ (lt_of_block Hp3_v22.out)).trans Hp3_v22.out)
  have HC1_v23 := Lib.hid ((hb.block _ (lt_of_block HC1_v22.out)).trans HC1_v22.out)
  have HpC1_v23 := Lib.hid ((hb.block _ (lt_of_block HpC1_v22.out)).trans HpC1_v22.out)
  have HC2_v23 := Lib.hid ((hb.block _ (lt_of_block HC2_v22.out)).trans HC2_v22.out)
  have HpC2_v23 := Lib.hid ((hb.block _ (lt_of_block HpC2_v22.out)).trans HpC2_v22.out)
  have HB_v23 := Lib.hid (bt HB_v22.out hb)
  have HE_v23 : Hid (v23.cell? ⟨eg, ef + 3, none⟩ = some (.int .i64 3) ∧ eg < v23.heap.size) := Lib.hid ⟨by rw [(bcell hb).1 eg _ HE_v22.out.2]; exact HE_v22.out.1, Nat.lt_of_lt_of_le HE_v22.out.2 hb.size⟩
  clear Hq_v22 Hr_v22 HAdd_v22 HFar_v22 HGone_v22 HLess_v22 HMoved_v22 Hp0_v22 Hp1_v22 Hp2_v22 Hp3_v22 HC1_v22 HpC1_v22 HC2_v22 HpC2_v22
  clear hb
  have hc := stGone v23
  go_wp2_with (first | refine wpList_load_rowW (by rfl) 28 _ rfl W.heap.size rfl 28 _ _ _ Hq_v23.out Tryz.underlying28 rfl (by kernel_rfl) ?_ | refine wpList_load_rowW (by rfl) 45 _ rfl v4.heap.size rfl 45 _ _ _ HGone_v23.out Tryz.underlying45 rfl (by kernel_rfl) ?_)
  (with_reducible refine hc.mono ?_)
  rintro e v24 ⟨rfl, hb_⟩
  clear hc
  have hb := hb_.out
  clear hb_
  have Hq_v24 := Lib.hid ((hb.block _ (lt_of_block Hq_v23.out)).trans Hq_v23.out)
  have Hr_v24 := Lib.hid ((hb.block _ (lt_of_block Hr_v23.out)).trans Hr_v23.out)
  have HAdd_v24 := Lib.hid ((hb.block _ (lt_of_block HAdd_v23.out)).trans HAdd_v23.out)
  have HFar_v24 := Lib.hid ((hb.block _ (lt_of_block HFar_v23.out)).trans HFar_v23.out)
  have HGone_v24 := Lib.hid ((hb.block _ (lt_of_block HGone_v23.out)).trans HGone_v23.out)
  have HLess_v24 := Lib.hid ((hb.block _ (lt_of_block HLess_v23.out)).trans HLess_v23.out)
  have HMoved_v24 := Lib.hid ((hb.block _ (lt_of_block HMoved_v23.out)).trans HMoved_v23.out)
  have Hp0_v24 := Lib.hid ((hb.block _ (lt_of_block Hp0_v23.out)).trans Hp0_v23.out)
  have Hp1_v24 := Lib.hid ((hb.block _ (lt_of_block Hp1_v23.out)).trans Hp1_v23.out)
  have Hp2_v24 := Lib.hid ((hb.block _ (lt_of_block Hp2_v23.out)).trans Hp2_v23.out)
  have Hp3_v24 := Lib.hid ((hb.block _ (lt_of_block Hp3_v23.out)).trans Hp3_v23.out)
  have HC1_v24 := Lib.hid ((hb.block _ (lt_of_block HC1_v23.out)).trans HC1_v23.out)
  have HpC1_v24 := Lib.hid ((hb.block _ (lt_of_block HpC1_v23.out)).trans HpC1_v23.out)
  have HC2_v24 := Lib.hid ((hb.block _ (lt_of_block HC2_v23.out)).trans HC2_v23.out)
  have HpC2_v24 := Lib.hid ((hb.block _ (lt_of_block HpC2_v23.out)).trans HpC2_v23.out)
  have HB_v24 := Lib.hid (bt HB_v23.out hb)
  have HE_v24 : Hid (v24.cell? ⟨eg, ef + 3, none⟩ = some (.int .i64 3) ∧ eg < v24.heap.size) := Lib.hid ⟨by rw [(bcell hb).1 eg _ HE_v23.out.2]; exact HE_v23.out.1, Nat.lt_of_lt_of_le HE_v23.out.2 hb.size⟩
  clear Hq_v23 Hr_v23 HAdd_v23 HFar_v23 HGone_v23 HLess_v23 HMoved_v23 Hp0_v23 Hp1_v23 Hp2_v23 Hp3_v23 HC1_v23 HpC1_v23 HC2_v23 HpC2_v23
  clear hb
  have hc := stMoved v24
  go_wp2_with (first | refine wpList_load_rowW (by rfl) 28 _ rfl W.heap.size rfl 28 _ _ _ Hq_v24.out Tryz.underlying28 rfl (by kernel_rfl) ?_ | refine wpList_load_rowW (by rfl) 45 _ rfl v6.heap.size rfl 45 _ _ _ HMoved_v24.out Tryz.underlying45 rfl (by kernel_rfl) ?_)
  (with_reducible refine hc.mono ?_)
  rintro e v25 ⟨rfl, hb_⟩
  clear hc
  have hb := hb_.out
  clear hb_
  have Hq_v25 := Lib.hid ((hb.block _ (lt_of_block Hq_v24.out)).trans Hq_v24.out)
  have Hr_v25 := Lib.hid ((hb.block _ (lt_of_block Hr_v24.out)).trans Hr_v24.out)
  have HAdd_v25 := Lib.hid ((hb.block _ (lt_of_block HAdd_v24.out)).trans HAdd_v24.out)
  have HFar_v25 := Lib.hid ((hb.block _ (lt_of_block HFar_v24.out)).trans HFar_v24.out)
  have HGone_v25 := Lib.hid ((hb.block _ (lt_of_block HGone_v24.out)).trans HGone_v24.out)
  have HLess_v25 := Lib.hid ((hb.block _ (lt_of_block HLess_v24.out)).trans HLess_v24.out)
  have HMoved_v25 := Lib.hid ((hb.block _ (lt_of_block HMoved_v24.out)).trans HMoved_v24.out)
  have Hp0_v25 := Lib.hid ((hb.block _ (lt_of_block Hp0_v24.out)).trans Hp0_v24.out)
  have Hp1_v25 := Lib.hid ((hb.block _ (lt_of_block Hp1_v24.out)).trans Hp1_v24.out)
  have Hp2_v25 := Lib.hid ((hb.block _ (lt_of_block Hp2_v24.out)).trans Hp2_v24.out)
  have Hp3_v25 := Lib.hid ((hb.block _ (lt_of_block Hp3_v24.out)).trans Hp3_v24.out)
  have HC1_v25 := Lib.hid ((hb.block _ (lt_of_block HC1_v24.out)).trans HC1_v24.out)
  have HpC1_v25 := Lib.hid ((hb.block _ (lt_of_block HpC1_v24.out)).trans HpC1_v24.out)
  have HC2_v25 := Lib.hid ((hb.block _ (lt_of_block HC2_v24.out)).trans HC2_v24.out)
  have HpC2_v25 := Lib.hid ((hb.block _ (lt_of_block HpC2_v24.out)).trans HpC2_v24.out)
  have HB_v25 := Lib.hid (bt HB_v24.out hb)
  have HE_v25 : Hid (v25.cell? ⟨eg, ef + 3, none⟩ = some (.int .i64 3) ∧ eg < v25.heap.size) := Lib.hid ⟨by rw [(bcell hb).1 eg _ HE_v24.out.2]; exact HE_v24.out.1, Nat.lt_of_lt_of_le HE_v24.out.2 hb.size⟩
  clear Hq_v24 Hr_v24 HAdd_v24 HFar_v24 HGone_v24 HLess_v24 HMoved_v24 Hp0_v24 Hp1_v24 Hp2_v24 Hp3_v24 HC1_v24 HpC1_v24 HC2_v24 HpC2_v24
  clear hb
  go_upto_region 17 with fail
  have x0 : v25.cell? ⟨v8.heap.size, 1, none⟩ = some (.int .i64 3) := by simp [World.cell?, Hp0_v25.out]
  have x1 : v25.cell? ⟨v10.heap.size, 1, none⟩ = some (.int .i64 7) := by simp [World.cell?, Hp1_v25.out]
  have x3 : v25.cell? ⟨v14.heap.size, 1, none⟩ = some (.int .i64 5) := by simp [World.cell?, Hp3_v25.out]
  have x4 : v25.cell? ⟨v17.heap.size, 1, none⟩ = some (.int .i64 4) := by simp [World.cell?, HpC1_v25.out]
  have x5 : v25.cell? ⟨v20.heap.size, 0, none⟩ = some (.slice (some ⟨eg, ef, none⟩) 1 ec) := by simp [World.cell?, HpC2_v25.out]
  have y1 := HE_v25.out.1
  have y2 : v25.cell? ⟨eg, ef + 2 + 1, none⟩ = some (.int .i64 3) := y1
  go_wp2_with fail
  refine bodyPost_ret (v := .bool true) (by simp [results, Tryz.results10, go_sem]) rfl ?_
  exact ⟨rfl, HB_v25.out⟩
end Go.Proofs.YtgbnjjgnihjfgaaGreat
end

section
set_option linter.unusedVariables false
set_option linter.unusedSimpArgs false
namespace Go.Proofs.YtgbnjjgnihjfgaaGreat
open Go.RowKit Go.Sort Go.ChangeMaps Go.MapKept

/-- A slice that reads as n lists of six integers. -/
def XS (w : World) (v : Value) (n : Nat) : Prop :=
  ∃ a cap, v = .slice a n cap ∧ n ≤ cap ∧ cap ≤ 9223372036854775807 ∧ (1 ≤ n → ∃ b o, a = some ⟨b, o, none⟩ ∧ b < w.heap.size ∧ ∀ i j, i < n → j < 6 → ∃ z, I64 z ∧ w.cell? ⟨b, o + i * 6 + j, none⟩ = some (.int .i64 z))
/-- The changes that Log makes. -/
def Small (c : MCh) : Prop := 0 ≤ c.t ∧ c.t ≤ 2 ∧ 1 ≤ c.k ∧ c.k ≤ 9 ∧ 0 ≤ c.n.a ∧ c.n.a ≤ 9
/-- What Log returns. -/
def LogOut (W : World) (n : Nat) (e : Ending) (w' : World) : Prop :=
  ∃ R u, e = .returned u ∧ RecS w' u R ∧ Chn R ∧ R.length ≤ n ∧ (∀ r ∈ R, ∀ c ∈ r.chs, Small c) ∧ Below W.heap.size W w'
theorem XS.take {w : World} {v : Value} {n : Nat} (h : XS w v n) (m : Nat) (hm : m ≤ n) : ∃ a cap, v = .slice a n cap ∧ XS w (.slice a m cap) m := by
  obtain ⟨a, cap, e, h1, h2, h3⟩ := h
  refine ⟨a, cap, e, a, cap, rfl, by omega, h2, fun hh => ?_⟩
  obtain ⟨b, o, e1, hb, hc⟩ := h3 (by omega)
  exact ⟨b, o, e1, hb, fun i j hi hj => hc i j (by omega) hj⟩
theorem XS.below {w w1 : World} {v : Value} {n : Nat} (h : XS w v n) (hb1 : Below w.heap.size w w1) : XS w1 v n := by
  obtain ⟨a, cap, e, h1, h2, h3⟩ := h
  refine ⟨a, cap, e, h1, h2, fun hh => ?_⟩
  obtain ⟨b, o, e1, hb, hc⟩ := h3 hh
  refine ⟨b, o, e1, Nat.lt_of_lt_of_le hb hb1.size, fun i j hi hj => ?_⟩
  obtain ⟨z, hz, hcell⟩ := hc i j hi hj
  exact ⟨z, hz, (hb1.cell (p := ⟨b, o + i * 6 + j, none⟩) hb).trans hcell⟩
end Go.Proofs.YtgbnjjgnihjfgaaGreat
end
