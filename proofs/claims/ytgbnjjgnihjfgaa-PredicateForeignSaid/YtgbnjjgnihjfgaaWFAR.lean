/- LAW: PredicateForeign (under way). -/
import Derived.Test.YtgbnjjgnihjfgaaProg
import Derived.WalkKit
import Derived.Below
import Derived.Lib.Hide
import Derived.Laws.StructEq
import Derived.Lib.QuietBelow
import Derived.Deep.RegionHeld3
import Derived.Deep.RegionWith
import Derived.IntWalk
import Derived.BigQuiet
import Derived.Maps.RangeWalk
import Derived.DeepKeys4
import Derived.OneCell
import Derived.StillTail
import Derived.Deep.CutRange
import Derived.Outline
import Derived.WalkSpells
import Derived.Carry
import Derived.Shelf.SlGeneric
import Derived.Shelf.SlSortCmp.WholeK
import Derived.Shelf.SlicesG.Cmp
import Derived.Ground.SlsfProg
import Derived.Ground.SlgcProg
import Derived.Sort.OwnSorted
import Derived.Deep.AppendLies
import Derived.Shelf.SlSortCmp.NoneTotal
import Derived.Deep.QuietTactic
import Derived.Laws.AppendOwnNone
import Derived.Laws.EntriesVeiled
import Derived.Lib.SliceRun
import Derived.Deep.Cut
import Derived.Laws.ResultCell
import Derived.ArgAppend
import Derived.Laws.Rows
import Derived.Great.BuildSlice
import Derived.Great.Frames
import Derived.Deep.DeepCutAuto
import Derived.Lib.AppendZeros
import Derived.Lib.Overlaps
import Derived.Laws.CopyRow
import Derived.Laws.AppendOwn
import Derived.Laws.Externs
import Derived.Deep.RegionLawGrows
import Derived.Test.YtgbnjjgnihjfgaaRows
import Derived.ProofKit
import Derived.OpenShut
import Derived.Deep.Strs
import Derived.Deep.Slices
import Derived.Test.YtgbnjjgnihjfgaaWFAP
import Derived.Test.YtgbnjjgnihjfgaaWFAL
import Derived.Test.YtgbnjjgnihjfgaaWFAG
import Derived.Test.YtgbnjjgnihjfgaaWFAO
import Derived.Test.YtgbnjjgnihjfgaaWFAH
import Derived.Test.YtgbnjjgnihjfgaaWFAJ
import Derived.Test.YtgbnjjgnihjfgaaWFAE
import Derived.Test.YtgbnjjgnihjfgaaWFAD
import Derived.Test.YtgbnjjgnihjfgaaWFAB
import Derived.Test.YtgbnjjgnihjfgaaWFAI
import Derived.Test.YtgbnjjgnihjfgaaWFAQ
import Derived.Test.YtgbnjjgnihjfgaaWFAF
import Derived.Test.YtgbnjjgnihjfgaaWFAM
import Derived.Test.YtgbnjjgnihjfgaaWFAN
import Derived.Test.YtgbnjjgnihjfgaaWFAK
import Derived.Test.YtgbnjjgnihjfgaaWFAC
import Derived.Test.YtgbnjjgnihjfgaaWFAA
set_option linter.unusedVariables false
set_option linter.unusedSimpArgs false
namespace Go.Proofs.Ytgbnjjgnihjfgaa
open Go.RowKit Go.Sort Go.ChangeMaps Go.MapKept

theorem three (W : World) (a b c : Obj) : Below W.heap.size W (((W.alloc a).alloc b).alloc c) ∧ (((W.alloc a).alloc b).alloc c).heap[W.heap.size]? = some a ∧ (((W.alloc a).alloc b).alloc c).heap[W.heap.size + 1]? = some b ∧ (((W.alloc a).alloc b).alloc c).heap[W.heap.size + 1 + 1]? = some c := by
  have e1 := World.size_alloc W a
  have e2 := World.size_alloc (W.alloc a) b
  have h1 := heap_alloc_new W a
  have h2 := heap_alloc_new (W.alloc a) b
  have h3 := heap_alloc_new ((W.alloc a).alloc b) c
  rw [e1] at h2
  rw [e2, e1] at h3
  exact ⟨bt (bt (ba W _) (ba _ _)) (ba _ _), ((ba _ c).block _ (by omega)).trans (((ba _ b).block _ (by omega)).trans h1), ((ba _ c).block _ (by omega)).trans h2, h3⟩
set_option maxRecDepth 100000 in
set_option maxHeartbeats 16000000 in
theorem foreign_of {x : X5} (hx : x.Ok) {c : MCh} {r : MRes} {u : Value} {W : World} (hR : RowS W u r.rows) : Calls Try.prog 7 #[x5V x, chV c, .agg (resC u r.val r.fnd)] W fun e w' => e = .returned (.bool true) ∧ Below W.heap.size W w' := by
  obtain ⟨rows, val, fnd⟩ := r
  simp only at hR
  have HR := Lib.hid hR
  obtain ⟨ua, un, uc, rfl, -⟩ := id hR
  clear hR
  obtain ⟨q, Hq⟩ : ∃ q, Hid (qryF x = q) := ⟨_, Lib.hid rfl⟩
  have HQv : Hid (validB q = true) := Lib.hid (by rw [← Hq.out]; exact qryF_valid x)
  have HC24 := Lib.hid (fun w => queryF_any x hx w)
  rw [Hq.out] at HC24
  obtain ⟨tb, HTb⟩ : ∃ b, Hid (touchB q c = b) := ⟨_, Lib.hid rfl⟩
  have HC27 := Lib.hid (fun w => touches_any q c w)
  rw [HTb.out] at HC27
  have HB35 := Lib.hid (fun w => refBefore_any c w)
  have HB36 := Lib.hid (fun w => refAfter_any c w)
  have hcol := (valid_ok HQv.out).1.2.2.1
  have HV37 := Lib.hid (fun (r : MRow) (w : World) => refValue_any r.t r.k r.v.a r.v.b r.v.c q.column w hcol.1 hcol.2)
  clear hcol
  obtain ⟨⟨bt', bk, ⟨b1, b2, b3⟩⟩, Hbr⟩ : ∃ r, Hid (befR c = r) := ⟨_, Lib.hid rfl⟩
  obtain ⟨⟨at', ak, ⟨a1, a2, a3⟩⟩, Har⟩ : ∃ r, Hid (aftR c = r) := ⟨_, Lib.hid rfl⟩
  change Hid (∀ w, Calls Try.prog 35 #[chV c] w fun e w' => e = .returned (.tuple #[rowV (befR c), .bool c.had]) ∧ Below w.heap.size w w') at HB35
  change Hid (∀ w, Calls Try.prog 36 #[chV c] w fun e w' => e = .returned (.tuple #[rowV (aftR c), .bool c.has]) ∧ Below w.heap.size w w') at HB36
  rw [Hbr.out] at HB35
  rw [Har.out] at HB36
  have HVb := Lib.hid (fun w => HV37.out ⟨bt', bk, ⟨b1, b2, b3⟩⟩ w)
  have HVa := Lib.hid (fun w => HV37.out ⟨at', ak, ⟨a1, a2, a3⟩⟩ w)
  obtain ⟨vb, Hvb⟩ : ∃ z, Hid (vget ⟨bt', bk, ⟨b1, b2, b3⟩⟩ q.column = z) := ⟨_, Lib.hid rfl⟩
  obtain ⟨va, Hva⟩ : ∃ z, Hid (vget ⟨at', ak, ⟨a1, a2, a3⟩⟩ q.column = z) := ⟨_, Lib.hid rfl⟩
  simp only at HVb HVa
  rw [Hvb.out] at HVb
  rw [Hva.out] at HVa
  obtain ⟨nv, Hnv⟩ : ∃ z, Hid (nearV val = z) := ⟨_, Lib.hid rfl⟩
  clear HV37 Hq
  obtain ⟨qk, qt, qc, ql, qh, qy, qo⟩ := q
  obtain ⟨t, kk, had, ⟨oa, ob, oc⟩, has, ⟨na, nb, nc⟩⟩ := c
  obtain ⟨a, b, c, d, e⟩ := x
  unfold qV chV rowV at *
  simp only at *
  clear hx
  go_enter Try.func7, Try.ntmps7
  go_upto_region 1 with fail
  obtain ⟨hB0, h1, h2, h3⟩ := three W (.cells #[.int .i64 a, .int .i64 b, .int .i64 c, .int .i64 d, .int .i64 e] 52) (.cells #[.int .i64 t, .int .i64 kk, .bool had, .int .i64 oa, .int .i64 ob, .int .i64 oc, .bool has, .int .i64 na, .int .i64 nb, .int .i64 nc] 35) (.cells #[.slice ua un uc, .int .i64 val, .bool fnd] 46)
  generalize ((W.alloc (.cells #[.int .i64 a, .int .i64 b, .int .i64 c, .int .i64 d, .int .i64 e] 52)).alloc (.cells #[.int .i64 t, .int .i64 kk, .bool had, .int .i64 oa, .int .i64 ob, .int .i64 oc, .bool has, .int .i64 na, .int .i64 nb, .int .i64 nc] 35)).alloc (.cells #[.slice ua un uc, .int .i64 val, .bool fnd] 46) = v3 at hB0 h1 h2 h3 ⊢
  have HB_v3 := Lib.hid hB0
  have Hx_v3 := Lib.hid h1
  have Hc_v3 := Lib.hid h2
  have Hr_v3 := Lib.hid h3
  clear hB0 h1 h2 h3
  have hc := sane7_any v3
  go_wp2_with fail
  (with_reducible refine hc.mono ?_)
  rintro e v4 ⟨rfl, hb⟩
  clear hc
  have Hx_v4 := Lib.hid ((hb.block _ (lt_of_block Hx_v3.out)).trans Hx_v3.out)
  have Hc_v4 := Lib.hid ((hb.block _ (lt_of_block Hc_v3.out)).trans Hc_v3.out)
  have Hr_v4 := Lib.hid ((hb.block _ (lt_of_block Hr_v3.out)).trans Hr_v3.out)
  have HB_v4 := Lib.hid (bt HB_v3.out hb)
  clear Hx_v3 Hc_v3 Hr_v3
  clear hb
  have hc := HC24.out v4
  go_wp2_with (first | refine wpList_load_row rfl 52 _ rfl W.heap.size rfl 52 _ _ _ Hx_v4.out Try.underlying52 rfl (by kernel_rfl) ?_ | refine wpList_load_rowW (by rfl) 52 _ rfl W.heap.size rfl 52 _ _ _ Hx_v4.out Try.underlying52 rfl (by kernel_rfl) ?_)
  (with_reducible refine hc.mono ?_)
  rintro e v5 ⟨rfl, hb⟩
  clear hc
  have Hx_v5 := Lib.hid ((hb.block _ (lt_of_block Hx_v4.out)).trans Hx_v4.out)
  have Hc_v5 := Lib.hid ((hb.block _ (lt_of_block Hc_v4.out)).trans Hc_v4.out)
  have Hr_v5 := Lib.hid ((hb.block _ (lt_of_block Hr_v4.out)).trans Hr_v4.out)
  have HB_v5 := Lib.hid (bt HB_v4.out hb)
  clear Hx_v4 Hc_v4 Hr_v4
  clear hb
  go_upto_region 3 with fail
  have hn : (v5.alloc (.cells #[.int .i64 qk, .int .i64 qt, .int .i64 qc, .int .i64 ql, .int .i64 qh, .int .i64 qy, .int .i64 qo] 29)).heap[v5.heap.size]? = some (.cells #[.int .i64 qk, .int .i64 qt, .int .i64 qc, .int .i64 ql, .int .i64 qh, .int .i64 qy, .int .i64 qo] 29 (0, 0)) := heap_alloc_new _ _
  have hb : Below v5.heap.size v5 (v5.alloc (.cells #[.int .i64 qk, .int .i64 qt, .int .i64 qc, .int .i64 ql, .int .i64 qh, .int .i64 qy, .int .i64 qo] 29)) := ba _ _
  generalize v5.alloc (.cells #[.int .i64 qk, .int .i64 qt, .int .i64 qc, .int .i64 ql, .int .i64 qh, .int .i64 qy, .int .i64 qo] 29) = v6 at hn hb ⊢
  have Hx_v6 := Lib.hid ((hb.block _ (lt_of_block Hx_v5.out)).trans Hx_v5.out)
  have Hc_v6 := Lib.hid ((hb.block _ (lt_of_block Hc_v5.out)).trans Hc_v5.out)
  have Hr_v6 := Lib.hid ((hb.block _ (lt_of_block Hr_v5.out)).trans Hr_v5.out)
  have HB_v6 := Lib.hid (bt HB_v5.out hb)
  clear Hx_v5 Hc_v5 Hr_v5
  clear hb
  have Hq_v6 := Lib.hid hn
  clear hn
  have hc := near_any (r := ⟨rows, val, fnd⟩) (HR.out.below HB_v6.out)
  go_wp2_with (first | refine wpList_load_row rfl 46 _ rfl (W.heap.size + 1 + 1) rfl 46 _ _ _ Hr_v6.out Try.underlying46 rfl (by kernel_rfl) ?_ | refine wpList_load_rowW (by rfl) 46 _ rfl (W.heap.size + 1 + 1) rfl 46 _ _ _ Hr_v6.out Try.underlying46 rfl (by kernel_rfl) ?_)
  (with_reducible refine hc.mono ?_)
  rintro e v7 ⟨u1, rfl, hT, hb⟩
  clear hc
  obtain ⟨ya, yn, yc, rfl, -⟩ := id hT
  have HT_v7 := Lib.hid hT
  clear hT
  try simp only at HT_v7
  have Hx_v7 := Lib.hid ((hb.block _ (lt_of_block Hx_v6.out)).trans Hx_v6.out)
  have Hc_v7 := Lib.hid ((hb.block _ (lt_of_block Hc_v6.out)).trans Hc_v6.out)
  have Hr_v7 := Lib.hid ((hb.block _ (lt_of_block Hr_v6.out)).trans Hr_v6.out)
  have Hq_v7 := Lib.hid ((hb.block _ (lt_of_block Hq_v6.out)).trans Hq_v6.out)
  have HB_v7 := Lib.hid (bt HB_v6.out hb)
  clear Hx_v6 Hc_v6 Hr_v6 Hq_v6
  clear hb
  try simp only [Hnv.out]
  go_upto_region 4 with fail
  have hn : (v7.alloc (.cells #[.slice ya yn yc, .int .i64 nv, .bool fnd] 46)).heap[v7.heap.size]? = some (.cells #[.slice ya yn yc, .int .i64 nv, .bool fnd] 46 (0, 0)) := heap_alloc_new _ _
  have hb : Below v7.heap.size v7 (v7.alloc (.cells #[.slice ya yn yc, .int .i64 nv, .bool fnd] 46)) := ba _ _
  generalize v7.alloc (.cells #[.slice ya yn yc, .int .i64 nv, .bool fnd] 46) = v8 at hn hb ⊢
  have HT_v8 := Lib.hid (HT_v7.out.below hb)
  clear HT_v7
  have Hx_v8 := Lib.hid ((hb.block _ (lt_of_block Hx_v7.out)).trans Hx_v7.out)
  have Hc_v8 := Lib.hid ((hb.block _ (lt_of_block Hc_v7.out)).trans Hc_v7.out)
  have Hr_v8 := Lib.hid ((hb.block _ (lt_of_block Hr_v7.out)).trans Hr_v7.out)
  have Hq_v8 := Lib.hid ((hb.block _ (lt_of_block Hq_v7.out)).trans Hq_v7.out)
  have HB_v8 := Lib.hid (bt HB_v7.out hb)
  clear Hx_v7 Hc_v7 Hr_v7 Hq_v7
  clear hb
  have Hn_v8 := Lib.hid hn
  clear hn
  have hc := HC27.out v8
  go_wp2_with (first | refine wpList_load_row rfl 29 _ rfl v5.heap.size rfl 29 _ _ _ Hq_v8.out Try.underlying29 rfl (by kernel_rfl) ?_ | refine wpList_load_rowW (by rfl) 29 _ rfl v5.heap.size rfl 29 _ _ _ Hq_v8.out Try.underlying29 rfl (by kernel_rfl) ?_ | refine wpList_load_row rfl 35 _ rfl (W.heap.size + 1) rfl 35 _ _ _ Hc_v8.out Try.underlying35 rfl (by kernel_rfl) ?_ | refine wpList_load_rowW (by rfl) 35 _ rfl (W.heap.size + 1) rfl 35 _ _ _ Hc_v8.out Try.underlying35 rfl (by kernel_rfl) ?_)
  (with_reducible refine hc.mono ?_)
  rintro e v9 ⟨rfl, hb⟩
  clear hc
  have HT_v9 := Lib.hid (HT_v8.out.below hb)
  clear HT_v8
  have Hx_v9 := Lib.hid ((hb.block _ (lt_of_block Hx_v8.out)).trans Hx_v8.out)
  have Hc_v9 := Lib.hid ((hb.block _ (lt_of_block Hc_v8.out)).trans Hc_v8.out)
  have Hr_v9 := Lib.hid ((hb.block _ (lt_of_block Hr_v8.out)).trans Hr_v8.out)
  have Hq_v9 := Lib.hid ((hb.block _ (lt_of_block Hq_v8.out)).trans Hq_v8.out)
  have Hn_v9 := Lib.hid ((hb.block _ (lt_of_block Hn_v8.out)).trans Hn_v8.out)
  have HB_v9 := Lib.hid (bt HB_v8.out hb)
  clear Hx_v8 Hc_v8 Hr_v8 Hq_v8 Hn_v8
  clear hb
  have hc := HB35.out v9
  go_wp2_with (first | refine wpList_load_row rfl 35 _ rfl (W.heap.size + 1) rfl 35 _ _ _ Hc_v9.out Try.underlying35 rfl (by kernel_rfl) ?_ | refine wpList_load_rowW (by rfl) 35 _ rfl (W.heap.size + 1) rfl 35 _ _ _ Hc_v9.out Try.underlying35 rfl (by kernel_rfl) ?_)
  (with_reducible refine hc.mono ?_)
  rintro e v10 ⟨rfl, hb⟩
  clear hc
  have HT_v10 := Lib.hid (HT_v9.out.below hb)
  clear HT_v9
  have Hx_v10 := Lib.hid ((hb.block _ (lt_of_block Hx_v9.out)).trans Hx_v9.out)
  have Hc_v10 := Lib.hid ((hb.block _ (lt_of_block Hc_v9.out)).trans Hc_v9.out)
  have Hr_v10 := Lib.hid ((hb.block _ (lt_of_block Hr_v9.out)).trans Hr_v9.out)
  have Hq_v10 := Lib.hid ((hb.block _ (lt_of_block Hq_v9.out)).trans Hq_v9.out)
  have Hn_v10 := Lib.hid ((hb.block _ (lt_of_block Hn_v9.out)).trans Hn_v9.out)
  have HB_v10 := Lib.hid (bt HB_v9.out hb)
  clear Hx_v9 Hc_v9 Hr_v9 Hq_v9 Hn_v9
  clear hb
  go_upto_region 6 with fail
  have hn : (v10.alloc (.cells #[.int .i64 bt', .int .i64 bk, .int .i64 b1, .int .i64 b2, .int .i64 b3] 33)).heap[v10.heap.size]? = some (.cells #[.int .i64 bt', .int .i64 bk, .int .i64 b1, .int .i64 b2, .int .i64 b3] 33 (0, 0)) := heap_alloc_new _ _
  have hb : Below v10.heap.size v10 (v10.alloc (.cells #[.int .i64 bt', .int .i64 bk, .int .i64 b1, .int .i64 b2, .int .i64 b3] 33)) := ba _ _
  generalize v10.alloc (.cells #[.int .i64 bt', .int .i64 bk, .int .i64 b1, .int .i64 b2, .int .i64 b3] 33) = v11 at hn hb ⊢
  have HT_v11 := Lib.hid (HT_v10.out.below hb)
  clear HT_v10
  have Hx_v11 := Lib.hid ((hb.block _ (lt_of_block Hx_v10.out)).trans Hx_v10.out)
  have Hc_v11 := Lib.hid ((hb.block _ (lt_of_block Hc_v10.out)).trans Hc_v10.out)
  have Hr_v11 := Lib.hid ((hb.block _ (lt_of_block Hr_v10.out)).trans Hr_v10.out)
  have Hq_v11 := Lib.hid ((hb.block _ (lt_of_block Hq_v10.out)).trans Hq_v10.out)
  have Hn_v11 := Lib.hid ((hb.block _ (lt_of_block Hn_v10.out)).trans Hn_v10.out)
  have HB_v11 := Lib.hid (bt HB_v10.out hb)
  clear Hx_v10 Hc_v10 Hr_v10 Hq_v10 Hn_v10
  clear hb
  have Hb_v11 := Lib.hid hn
  clear hn
  have hc := HB36.out v11
  go_wp2_with (first | refine wpList_load_row rfl 35 _ rfl (W.heap.size + 1) rfl 35 _ _ _ Hc_v11.out Try.underlying35 rfl (by kernel_rfl) ?_ | refine wpList_load_rowW (by rfl) 35 _ rfl (W.heap.size + 1) rfl 35 _ _ _ Hc_v11.out Try.underlying35 rfl (by kernel_rfl) ?_)
  (with_reducible refine hc.mono ?_)
  rintro e v12 ⟨rfl, hb⟩
  clear hc
  have HT_v12 := Lib.hid (HT_v11.out.below hb)
  clear HT_v11
  have Hx_v12 := Lib.hid ((hb.block _ (lt_of_block Hx_v11.out)).trans Hx_v11.out)
  have Hc_v12 := Lib.hid ((hb.block _ (lt_of_block Hc_v11.out)).trans Hc_v11.out)
  have Hr_v12 := Lib.hid ((hb.block _ (lt_of_block Hr_v11.out)).trans Hr_v11.out)
  have Hq_v12 := Lib.hid ((hb.block _ (lt_of_block Hq_v11.out)).trans Hq_v11.out)
  have Hn_v12 := Lib.hid ((hb.block _ (lt_of_block Hn_v11.out)).trans Hn_v11.out)
  have Hb_v12 := Lib.hid ((hb.block _ (lt_of_block Hb_v11.out)).trans Hb_v11.out)
  have HB_v12 := Lib.hid (bt HB_v11.out hb)
  clear Hx_v11 Hc_v11 Hr_v11 Hq_v11 Hn_v11 Hb_v11
  clear hb
  go_upto_region 7 with fail
  have hn : (v12.alloc (.cells #[.int .i64 at', .int .i64 ak, .int .i64 a1, .int .i64 a2, .int .i64 a3] 33)).heap[v12.heap.size]? = some (.cells #[.int .i64 at', .int .i64 ak, .int .i64 a1, .int .i64 a2, .int .i64 a3] 33 (0, 0)) := heap_alloc_new _ _
  have hb : Below v12.heap.size v12 (v12.alloc (.cells #[.int .i64 at', .int .i64 ak, .int .i64 a1, .int .i64 a2, .int .i64 a3] 33)) := ba _ _
  generalize v12.alloc (.cells #[.int .i64 at', .int .i64 ak, .int .i64 a1, .int .i64 a2, .int .i64 a3] 33) = v13 at hn hb ⊢
  have HT_v13 := Lib.hid (HT_v12.out.below hb)
  clear HT_v12
  have Hx_v13 := Lib.hid ((hb.block _ (lt_of_block Hx_v12.out)).trans Hx_v12.out)
  have Hc_v13 := Lib.hid ((hb.block _ (lt_of_block Hc_v12.out)).trans Hc_v12.out)
  have Hr_v13 := Lib.hid ((hb.block _ (lt_of_block Hr_v12.out)).trans Hr_v12.out)
  have Hq_v13 := Lib.hid ((hb.block _ (lt_of_block Hq_v12.out)).trans Hq_v12.out)
  have Hn_v13 := Lib.hid ((hb.block _ (lt_of_block Hn_v12.out)).trans Hn_v12.out)
  have Hb_v13 := Lib.hid ((hb.block _ (lt_of_block Hb_v12.out)).trans Hb_v12.out)
  have HB_v13 := Lib.hid (bt HB_v12.out hb)
  clear Hx_v12 Hc_v12 Hr_v12 Hq_v12 Hn_v12 Hb_v12
  clear hb
  have Ha_v13 := Lib.hid hn
  clear hn
  have q2 : v13.cell? ⟨v5.heap.size, 2, none⟩ = some (.int .i64 qc) := by simp [World.cell?, Hq_v13.out]
  have hc := HVb.out v13
  go_wp2_with (first | refine wpList_load_row rfl 33 _ rfl v10.heap.size rfl 33 _ _ _ Hb_v13.out Try.underlying33 rfl (by kernel_rfl) ?_ | refine wpList_load_rowW (by rfl) 33 _ rfl v10.heap.size rfl 33 _ _ _ Hb_v13.out Try.underlying33 rfl (by kernel_rfl) ?_)
  (with_reducible refine hc.mono ?_)
  rintro e v14 ⟨rfl, hb⟩
  clear hc
  clear q2
  have HT_v14 := Lib.hid (HT_v13.out.below hb)
  clear HT_v13
  have Hx_v14 := Lib.hid ((hb.block _ (lt_of_block Hx_v13.out)).trans Hx_v13.out)
  have Hc_v14 := Lib.hid ((hb.block _ (lt_of_block Hc_v13.out)).trans Hc_v13.out)
  have Hr_v14 := Lib.hid ((hb.block _ (lt_of_block Hr_v13.out)).trans Hr_v13.out)
  have Hq_v14 := Lib.hid ((hb.block _ (lt_of_block Hq_v13.out)).trans Hq_v13.out)
  have Hn_v14 := Lib.hid ((hb.block _ (lt_of_block Hn_v13.out)).trans Hn_v13.out)
  have Hb_v14 := Lib.hid ((hb.block _ (lt_of_block Hb_v13.out)).trans Hb_v13.out)
  have Ha_v14 := Lib.hid ((hb.block _ (lt_of_block Ha_v13.out)).trans Ha_v13.out)
  have HB_v14 := Lib.hid (bt HB_v13.out hb)
  clear Hx_v13 Hc_v13 Hr_v13 Hq_v13 Hn_v13 Hb_v13 Ha_v13
  clear hb
  have q2 : v14.cell? ⟨v5.heap.size, 2, none⟩ = some (.int .i64 qc) := by simp [World.cell?, Hq_v14.out]
  have hc := HVa.out v14
  go_wp2_with (first | refine wpList_load_row rfl 33 _ rfl v12.heap.size rfl 33 _ _ _ Ha_v14.out Try.underlying33 rfl (by kernel_rfl) ?_ | refine wpList_load_rowW (by rfl) 33 _ rfl v12.heap.size rfl 33 _ _ _ Ha_v14.out Try.underlying33 rfl (by kernel_rfl) ?_)
  (with_reducible refine hc.mono ?_)
  rintro e v15 ⟨rfl, hb⟩
  clear hc
  clear q2
  have HT_v15 := Lib.hid (HT_v14.out.below hb)
  clear HT_v14
  have Hx_v15 := Lib.hid ((hb.block _ (lt_of_block Hx_v14.out)).trans Hx_v14.out)
  have Hc_v15 := Lib.hid ((hb.block _ (lt_of_block Hc_v14.out)).trans Hc_v14.out)
  have Hr_v15 := Lib.hid ((hb.block _ (lt_of_block Hr_v14.out)).trans Hr_v14.out)
  have Hq_v15 := Lib.hid ((hb.block _ (lt_of_block Hq_v14.out)).trans Hq_v14.out)
  have Hn_v15 := Lib.hid ((hb.block _ (lt_of_block Hn_v14.out)).trans Hn_v14.out)
  have Hb_v15 := Lib.hid ((hb.block _ (lt_of_block Hb_v14.out)).trans Hb_v14.out)
  have Ha_v15 := Lib.hid ((hb.block _ (lt_of_block Ha_v14.out)).trans Ha_v14.out)
  have HB_v15 := Lib.hid (bt HB_v14.out hb)
  clear Hx_v14 Hc_v14 Hr_v14 Hq_v14 Hn_v14 Hb_v14 Ha_v14
  clear hb
  go_upto_region 9 with fail
  have q3 : v15.cell? ⟨v5.heap.size, 3, none⟩ = some (.int .i64 ql) := by simp [World.cell?, Hq_v15.out]
  have q4 : v15.cell? ⟨v5.heap.size, 4, none⟩ = some (.int .i64 qh) := by simp [World.cell?, Hq_v15.out]
  obtain ⟨OO, HOO⟩ : ∃ o, Hid ((outS (⟨qk, qt, qc, ql, qh, qy, qo⟩ : MQ) had vb && outS (⟨qk, qt, qc, ql, qh, qy, qo⟩ : MQ) has va) = o) := ⟨_, Lib.hid rfl⟩
  go_cut [17] (fun s wx => s = .bool OO ∧ v15 = wx)
  case first => as_aux_lemma =>
    cases had
    · cases has
      · go_wp2_with fail
        go_meet
        refine ⟨?_, rfl⟩
        rw [← HOO.out]
        unfold outS
        first
          | (simp [true_and]; done)
          | (simp; intros; omega)
          | (simp; omega)
      · by_cases g3 : va < ql
        · go_wp2_with fail
          go_meet
          refine ⟨?_, rfl⟩
          rw [← HOO.out]
          unfold outS
          first
            | (simp [g3]; done)
            | (simp; intros; omega)
            | (simp; omega)
        · by_cases g4 : va > qh
          · go_wp2_with fail
            go_meet
            refine ⟨?_, rfl⟩
            rw [← HOO.out]
            unfold outS
            first
              | (simp [g3, g4]; done)
              | (simp; intros; omega)
              | (simp; omega)
          · go_wp2_with fail
            go_meet
            refine ⟨?_, rfl⟩
            rw [← HOO.out]
            unfold outS
            first
              | (simp [g3, g4]; done)
              | (simp; intros; omega)
              | (simp; omega)
    · by_cases g1 : vb < ql
      · cases has
        · go_wp2_with fail
          go_meet
          refine ⟨?_, rfl⟩
          rw [← HOO.out]
          unfold outS
          first
            | (simp [g1]; done)
            | (simp; intros; omega)
            | (simp; omega)
        · by_cases g3 : va < ql
          · go_wp2_with fail
            go_meet
            refine ⟨?_, rfl⟩
            rw [← HOO.out]
            unfold outS
            first
              | (simp [g1, g3]; done)
              | (simp; intros; omega)
              | (simp; omega)
          · by_cases g4 : va > qh
            · go_wp2_with fail
              go_meet
              refine ⟨?_, rfl⟩
              rw [← HOO.out]
              unfold outS
              first
                | (simp [g1, g3, g4]; done)
                | (simp; intros; omega)
                | (simp; omega)
            · go_wp2_with fail
              go_meet
              refine ⟨?_, rfl⟩
              rw [← HOO.out]
              unfold outS
              first
                | (simp [g1, g3, g4]; done)
                | (simp; intros; omega)
                | (simp; omega)
      · by_cases g2 : vb > qh
        · cases has
          · go_wp2_with fail
            go_meet
            refine ⟨?_, rfl⟩
            rw [← HOO.out]
            unfold outS
            first
              | (simp [g1, g2]; done)
              | (simp; intros; omega)
              | (simp; omega)
          · by_cases g3 : va < ql
            · go_wp2_with fail
              go_meet
              refine ⟨?_, rfl⟩
              rw [← HOO.out]
              unfold outS
              first
                | (simp [g1, g2, g3]; done)
                | (simp; intros; omega)
                | (simp; omega)
            · by_cases g4 : va > qh
              · go_wp2_with fail
                go_meet
                refine ⟨?_, rfl⟩
                rw [← HOO.out]
                unfold outS
                first
                  | (simp [g1, g2, g3, g4]; done)
                  | (simp; intros; omega)
                  | (simp; omega)
              · go_wp2_with fail
                go_meet
                refine ⟨?_, rfl⟩
                rw [← HOO.out]
                unfold outS
                first
                  | (simp [g1, g2, g3, g4]; done)
                  | (simp; intros; omega)
                  | (simp; omega)
        · go_wp2_with fail
          go_meet
          refine ⟨?_, rfl⟩
          rw [← HOO.out]
          unfold outS
          first
            | (simp [g1, g2]; done)
            | (simp; intros; omega)
            | (simp; omega)
  case rest => as_aux_lemma =>
    obtain ⟨hs_, hw_⟩ := hcut
    subst hw_
    subst hs_
    clear q3 q4
    have c0 : v15.cell? ⟨(W.heap.size + 1), 0, none⟩ = some (.int .i64 t) := by simp [World.cell?, Hc_v15.out]
    have q1 : v15.cell? ⟨v5.heap.size, 1, none⟩ = some (.int .i64 qt) := by simp [World.cell?, Hq_v15.out]
    obtain ⟨FF, HFF⟩ : ∃ f, Hid ((decide (¬ t = qt) || OO) = f) := ⟨_, Lib.hid rfl⟩
    go_upto_region 10 with fail
    go_cut [18] (fun s wx => s = .bool FF ∧ v15 = wx)
    case first => as_aux_lemma =>
      by_cases g : t = qt
      · have g' : (t != qt) = false := by simp [g]
        go_wp2_with fail
        go_meet
        refine ⟨?_, rfl⟩
        rw [← HFF.out]
        simp [g]
      · have g' : (t != qt) = true := by simp [g]
        go_wp2_with fail
        go_meet
        refine ⟨?_, rfl⟩
        rw [← HFF.out]
        simp [g]
    case rest => as_aux_lemma =>
      obtain ⟨hs_, hw_⟩ := hcut
      subst hw_
      subst hs_
      have HK : Hid (tb = true → FF = true → qk = 7 ∧ t = qo) := Lib.hid (fun h1 h2 => by
        have e1 := Hbr.out
        have e2 := Har.out
        have e3 := Hvb.out
        have e4 := Hva.out
        have e5 := HOO.out
        have e6 := HFF.out
        rw [← HTb.out] at h1
        rw [← e6, ← e5, ← e3, ← e4, ← e1, ← e2] at h2
        exact foreign_touch h2 h1)
      have q0 : v15.cell? ⟨v5.heap.size, 0, none⟩ = some (.int .i64 qk) := by simp [World.cell?, Hq_v15.out]
      have q6 : v15.cell? ⟨v5.heap.size, 6, none⟩ = some (.int .i64 qo) := by simp [World.cell?, Hq_v15.out]
      go_upto_region 11 with fail
      go_cut [103] (fun s wx => s = .bool false ∧ v15 = wx)
      case first => as_aux_lemma =>
        cases tb
        · go_wp2_with fail
          go_meet
          exact ⟨rfl, rfl⟩
        · cases FF
          · go_wp2_with fail
            go_meet
            exact ⟨rfl, rfl⟩
          · obtain ⟨k1, k2⟩ := HK.out rfl rfl
            have g1 : (qk == 7) = true := by simp [k1]
            have g2 : (t == qo) = true := by simp [k2]
            clear k1 k2 HK
            go_wp2_with fail
            go_meet
            exact ⟨rfl, rfl⟩
      case rest => as_aux_lemma =>
        obtain ⟨hs_, hw_⟩ := hcut
        subst hw_
        subst hs_
        clear c0 q0 q1 q6
        go_upto_region 13 with fail
        go_upto_region 15 with (first | refine wpList_load_row rfl 29 _ rfl v5.heap.size rfl 29 _ _ _ Hq_v15.out Try.underlying29 rfl (by kernel_rfl) ?_ | refine wpList_load_rowW (by rfl) 29 _ rfl v5.heap.size rfl 29 _ _ _ Hq_v15.out Try.underlying29 rfl (by kernel_rfl) ?_)
        have hn : (v15.alloc (.cells #[.int .i64 9, .int .i64 qt, .int .i64 qc, .int .i64 ql, .int .i64 qh, .int .i64 qy, .int .i64 qo] 29)).heap[v15.heap.size]? = some (.cells #[.int .i64 9, .int .i64 qt, .int .i64 qc, .int .i64 ql, .int .i64 qh, .int .i64 qy, .int .i64 qo] 29 (0, 0)) := heap_alloc_new _ _
        have hb : Below v15.heap.size v15 (v15.alloc (.cells #[.int .i64 9, .int .i64 qt, .int .i64 qc, .int .i64 ql, .int .i64 qh, .int .i64 qy, .int .i64 qo] 29)) := ba _ _
        generalize v15.alloc (.cells #[.int .i64 9, .int .i64 qt, .int .i64 qc, .int .i64 ql, .int .i64 qh, .int .i64 qy, .int .i64 qo] 29) = v16 at hn hb ⊢
        have HT_v16 := Lib.hid (HT_v15.out.below hb)
        clear HT_v15
        have Hx_v16 := Lib.hid ((hb.block _ (lt_of_block Hx_v15.out)).trans Hx_v15.out)
        have Hc_v16 := Lib.hid ((hb.block _ (lt_of_block Hc_v15.out)).trans Hc_v15.out)
        have Hr_v16 := Lib.hid ((hb.block _ (lt_of_block Hr_v15.out)).trans Hr_v15.out)
        have Hq_v16 := Lib.hid ((hb.block _ (lt_of_block Hq_v15.out)).trans Hq_v15.out)
        have Hn_v16 := Lib.hid ((hb.block _ (lt_of_block Hn_v15.out)).trans Hn_v15.out)
        have Hb_v16 := Lib.hid ((hb.block _ (lt_of_block Hb_v15.out)).trans Hb_v15.out)
        have Ha_v16 := Lib.hid ((hb.block _ (lt_of_block Ha_v15.out)).trans Ha_v15.out)
        have HB_v16 := Lib.hid (bt HB_v15.out hb)
        clear Hx_v15 Hc_v15 Hr_v15 Hq_v15 Hn_v15 Hb_v15 Ha_v15
        clear hb
        have Hbad_v16 := Lib.hid hn
        clear hn
        have HVC := Lib.hid (fun w => refValidChange_any (⟨t, kk, had, ⟨oa, ob, oc⟩, has, ⟨na, nb, nc⟩⟩ : MCh) w)
        unfold chV at HVC
        simp only at HVC
        obtain ⟨VC, HVCe⟩ : ∃ b, Hid (vc (⟨t, kk, had, ⟨oa, ob, oc⟩, has, ⟨na, nb, nc⟩⟩ : MCh) = b) := ⟨_, Lib.hid rfl⟩
        simp only [HVCe.out] at HVC
        have HVT : Hid (tb = true → VC = true) := Lib.hid (fun h => by
          rw [← HVCe.out]
          rw [← HTb.out] at h
          exact touch_vc h)
        have hc := HVC.out v16
        go_wp2_with (first | refine wpList_load_row rfl 35 _ rfl (W.heap.size + 1) rfl 35 _ _ _ Hc_v16.out Try.underlying35 rfl (by kernel_rfl) ?_ | refine wpList_load_rowW (by rfl) 35 _ rfl (W.heap.size + 1) rfl 35 _ _ _ Hc_v16.out Try.underlying35 rfl (by kernel_rfl) ?_)
        (with_reducible refine hc.mono ?_)
        rintro e v17 ⟨rfl, hb⟩
        clear hc
        have HT_v17 := Lib.hid (HT_v16.out.below hb)
        clear HT_v16
        have Hx_v17 := Lib.hid ((hb.block _ (lt_of_block Hx_v16.out)).trans Hx_v16.out)
        have Hc_v17 := Lib.hid ((hb.block _ (lt_of_block Hc_v16.out)).trans Hc_v16.out)
        have Hr_v17 := Lib.hid ((hb.block _ (lt_of_block Hr_v16.out)).trans Hr_v16.out)
        have Hq_v17 := Lib.hid ((hb.block _ (lt_of_block Hq_v16.out)).trans Hq_v16.out)
        have Hn_v17 := Lib.hid ((hb.block _ (lt_of_block Hn_v16.out)).trans Hn_v16.out)
        have Hb_v17 := Lib.hid ((hb.block _ (lt_of_block Hb_v16.out)).trans Hb_v16.out)
        have Ha_v17 := Lib.hid ((hb.block _ (lt_of_block Ha_v16.out)).trans Ha_v16.out)
        have Hbad_v17 := Lib.hid ((hb.block _ (lt_of_block Hbad_v16.out)).trans Hbad_v16.out)
        have HB_v17 := Lib.hid (bt HB_v16.out hb)
        clear Hx_v16 Hc_v16 Hr_v16 Hq_v16 Hn_v16 Hb_v16 Ha_v16 Hbad_v16
        clear hb
        have HP1 : Hid (∀ (w : World) (u : Value), RowS w u (rows.take 20) → Calls Try.prog 25 #[qV (⟨9, qt, qc, ql, qh, qy, qo⟩ : MQ), .agg (resC u nv fnd), chV (⟨t, kk, had, ⟨oa, ob, oc⟩, has, ⟨na, nb, nc⟩⟩ : MCh)] w fun e w' => ∃ a n cc, e = .returned (.tuple #[.agg #[.slice a n cc, .int .i64 nv, .bool fnd], .bool true]) ∧ RowS w' (.slice a n cc) (rows.take 20) ∧ Below w.heap.size w w') := Lib.hid (fun w u hR => by
          refine (Patch_any (q := (⟨9, qt, qc, ql, qh, qy, qo⟩ : MQ)) (c := (⟨t, kk, had, ⟨oa, ob, oc⟩, has, ⟨na, nb, nc⟩⟩ : MCh)) (r := ⟨rows.take 20, nv, fnd⟩) hR (by simp; omega)).mono ?_
          have e : patchF (⟨9, qt, qc, ql, qh, qy, qo⟩ : MQ) ⟨rows.take 20, nv, fnd⟩ (⟨t, kk, had, ⟨oa, ob, oc⟩, has, ⟨na, nb, nc⟩⟩ : MCh) = some ⟨rows.take 20, nv, fnd⟩ := by
            unfold patchF
            rw [if_neg (by rw [bad_touch (⟨qk, qt, qc, ql, qh, qy, qo⟩ : MQ) (⟨t, kk, had, ⟨oa, ob, oc⟩, has, ⟨na, nb, nc⟩⟩ : MCh)]; decide)]
          rw [e]
          rintro e w' ⟨u', rfl, ho, hb⟩
          obtain ⟨a, n, cc, rfl⟩ := own_form ho
          exact ⟨a, n, cc, rfl, ho.rowS, hb⟩)
        have HP2 : Hid (∀ (w : World) (u : Value), RowS w u (rows.take 20) → Calls Try.prog 25 #[qV (⟨qk, qt, qc, ql, qh, qy, qo⟩ : MQ), .agg (resC u nv fnd), chV (⟨t, kk, had, ⟨oa, ob, oc⟩, has, ⟨na, nb, nc⟩⟩ : MCh)] w fun e w' => ∃ a n cc v f kn, e = .returned (.tuple #[.agg #[.slice a n cc, .int .i64 v, .bool f], .bool kn]) ∧ (tb = false → kn = true ∧ v = nv ∧ f = fnd ∧ OwnR w' w.heap.size (.slice a n cc) (rows.take 20)) ∧ Below w.heap.size w w') := Lib.hid (fun w u hR => by
          refine (Patch_any (q := (⟨qk, qt, qc, ql, qh, qy, qo⟩ : MQ)) (c := (⟨t, kk, had, ⟨oa, ob, oc⟩, has, ⟨na, nb, nc⟩⟩ : MCh)) (r := ⟨rows.take 20, nv, fnd⟩) hR (by simp; omega)).mono ?_
          rintro e w' ⟨u', rfl, ho, hb⟩
          obtain ⟨a, n, cc, rfl⟩ := own_form ho
          refine ⟨a, n, cc, _, _, _, rfl, fun htb => ?_, hb⟩
          rw [← HTb.out] at htb
          have e : patchF (⟨qk, qt, qc, ql, qh, qy, qo⟩ : MQ) ⟨rows.take 20, nv, fnd⟩ (⟨t, kk, had, ⟨oa, ob, oc⟩, has, ⟨na, nb, nc⟩⟩ : MCh) = some ⟨rows.take 20, nv, fnd⟩ := by
            unfold patchF
            rw [if_neg (by rw [htb]; decide)]
          rw [e] at ho ⊢
          exact ⟨rfl, rfl, rfl, ho⟩)
        unfold qV chV resC at HP1 HP2
        simp only at HP1 HP2
        have HC27b := Lib.hid (fun w => touches_any (⟨9, qt, qc, ql, qh, qy, qo⟩ : MQ) (⟨t, kk, had, ⟨oa, ob, oc⟩, has, ⟨na, nb, nc⟩⟩ : MCh) w)
        rw [bad_touch (⟨qk, qt, qc, ql, qh, qy, qo⟩ : MQ) (⟨t, kk, had, ⟨oa, ob, oc⟩, has, ⟨na, nb, nc⟩⟩ : MCh)] at HC27b
        unfold qV chV at HC27b
        simp only at HC27b
        have HSm : Hid (∀ (w : World) (u v : Value), RowS w u (rows.take 20) → RowS w v (rows.take 20) → Calls Try.prog 29 #[.agg #[u, .int .i64 nv, .bool fnd], .agg #[v, .int .i64 nv, .bool fnd]] w fun e w' => e = .returned (.bool true) ∧ Below w.heap.size w w') := Lib.hid (fun w u v h h' => by
          have := same7_any h h' (x := nv) (y := nv) (f := fnd) (g := fnd)
          simpa using this)
        have hc := HP1.out _ _ HT_v17.out
        go_wp2_with (first | refine wpList_load_row rfl 29 _ rfl v15.heap.size rfl 29 _ _ _ Hbad_v17.out Try.underlying29 rfl (by kernel_rfl) ?_ | refine wpList_load_rowW (by rfl) 29 _ rfl v15.heap.size rfl 29 _ _ _ Hbad_v17.out Try.underlying29 rfl (by kernel_rfl) ?_ | refine wpList_load_row rfl 46 _ rfl v7.heap.size rfl 46 _ _ _ Hn_v17.out Try.underlying46 rfl (by kernel_rfl) ?_ | refine wpList_load_rowW (by rfl) 46 _ rfl v7.heap.size rfl 46 _ _ _ Hn_v17.out Try.underlying46 rfl (by kernel_rfl) ?_ | refine wpList_load_row rfl 35 _ rfl (W.heap.size + 1) rfl 35 _ _ _ Hc_v17.out Try.underlying35 rfl (by kernel_rfl) ?_ | refine wpList_load_rowW (by rfl) 35 _ rfl (W.heap.size + 1) rfl 35 _ _ _ Hc_v17.out Try.underlying35 rfl (by kernel_rfl) ?_)
        (with_reducible refine hc.mono ?_)
        rintro e v18 ⟨ma, mn, mc, rfl, hM, hb⟩
        clear hc
        have HM_v18 := Lib.hid hM
        clear hM
        have HT_v18 := Lib.hid (HT_v17.out.below hb)
        clear HT_v17
        have Hx_v18 := Lib.hid ((hb.block _ (lt_of_block Hx_v17.out)).trans Hx_v17.out)
        have Hc_v18 := Lib.hid ((hb.block _ (lt_of_block Hc_v17.out)).trans Hc_v17.out)
        have Hr_v18 := Lib.hid ((hb.block _ (lt_of_block Hr_v17.out)).trans Hr_v17.out)
        have Hq_v18 := Lib.hid ((hb.block _ (lt_of_block Hq_v17.out)).trans Hq_v17.out)
        have Hn_v18 := Lib.hid ((hb.block _ (lt_of_block Hn_v17.out)).trans Hn_v17.out)
        have Hb_v18 := Lib.hid ((hb.block _ (lt_of_block Hb_v17.out)).trans Hb_v17.out)
        have Ha_v18 := Lib.hid ((hb.block _ (lt_of_block Ha_v17.out)).trans Ha_v17.out)
        have Hbad_v18 := Lib.hid ((hb.block _ (lt_of_block Hbad_v17.out)).trans Hbad_v17.out)
        have HB_v18 := Lib.hid (bt HB_v17.out hb)
        clear Hx_v17 Hc_v17 Hr_v17 Hq_v17 Hn_v17 Hb_v17 Ha_v17 Hbad_v17
        clear hb
        have HKB_v18 : Hid (Below v18.heap.size v18 v18) := Lib.hid (Below.refl _ _)
        have HqK := Lib.hid Hq_v18.out
        have HnK := Lib.hid Hn_v18.out
        have HTK := Lib.hid HT_v18.out
        have HBK := Lib.hid HB_v18.out
        go_upto_region 17 with fail
        have hn : (v18.alloc (.cells #[.slice ma mn mc, .int .i64 nv, .bool fnd] 46)).heap[v18.heap.size]? = some (.cells #[.slice ma mn mc, .int .i64 nv, .bool fnd] 46 (0, 0)) := heap_alloc_new _ _
        have hb : Below v18.heap.size v18 (v18.alloc (.cells #[.slice ma mn mc, .int .i64 nv, .bool fnd] 46)) := ba _ _
        generalize v18.alloc (.cells #[.slice ma mn mc, .int .i64 nv, .bool fnd] 46) = v19 at hn hb ⊢
        have HKB_v19 := Lib.hid (bt HKB_v18.out hb)
        clear HKB_v18
        have HT_v19 := Lib.hid (HT_v18.out.below hb)
        clear HT_v18
        have HM_v19 := Lib.hid (HM_v18.out.below hb)
        clear HM_v18
        have Hx_v19 := Lib.hid ((hb.block _ (lt_of_block Hx_v18.out)).trans Hx_v18.out)
        have Hc_v19 := Lib.hid ((hb.block _ (lt_of_block Hc_v18.out)).trans Hc_v18.out)
        have Hr_v19 := Lib.hid ((hb.block _ (lt_of_block Hr_v18.out)).trans Hr_v18.out)
        have Hq_v19 := Lib.hid ((hb.block _ (lt_of_block Hq_v18.out)).trans Hq_v18.out)
        have Hn_v19 := Lib.hid ((hb.block _ (lt_of_block Hn_v18.out)).trans Hn_v18.out)
        have Hb_v19 := Lib.hid ((hb.block _ (lt_of_block Hb_v18.out)).trans Hb_v18.out)
        have Ha_v19 := Lib.hid ((hb.block _ (lt_of_block Ha_v18.out)).trans Ha_v18.out)
        have Hbad_v19 := Lib.hid ((hb.block _ (lt_of_block Hbad_v18.out)).trans Hbad_v18.out)
        have HB_v19 := Lib.hid (bt HB_v18.out hb)
        clear Hx_v18 Hc_v18 Hr_v18 Hq_v18 Hn_v18 Hb_v18 Ha_v18 Hbad_v18
        clear hb
        have Hm_v19 := Lib.hid hn
        clear hn
        go_cut [134] (fun s wx => s = .bool false ∧ Hid (Below v19.heap.size v19 wx))
        case first => as_aux_lemma =>
          have hc := HC27b.out v19
          go_wp2_with (first | refine wpList_load_row rfl 29 _ rfl v15.heap.size rfl 29 _ _ _ Hbad_v19.out Try.underlying29 rfl (by kernel_rfl) ?_ | refine wpList_load_rowW (by rfl) 29 _ rfl v15.heap.size rfl 29 _ _ _ Hbad_v19.out Try.underlying29 rfl (by kernel_rfl) ?_ | refine wpList_load_row rfl 35 _ rfl (W.heap.size + 1) rfl 35 _ _ _ Hc_v19.out Try.underlying35 rfl (by kernel_rfl) ?_ | refine wpList_load_rowW (by rfl) 35 _ rfl (W.heap.size + 1) rfl 35 _ _ _ Hc_v19.out Try.underlying35 rfl (by kernel_rfl) ?_)
          (with_reducible refine hc.mono ?_)
          rintro e v20 ⟨rfl, hb⟩
          clear hc
          have HJ := Lib.hid hb
          have HKB_v20 := Lib.hid (bt HKB_v19.out hb)
          clear HKB_v19
          have HT_v20 := Lib.hid (HT_v19.out.below hb)
          clear HT_v19
          have HM_v20 := Lib.hid (HM_v19.out.below hb)
          clear HM_v19
          have Hx_v20 := Lib.hid ((hb.block _ (lt_of_block Hx_v19.out)).trans Hx_v19.out)
          have Hc_v20 := Lib.hid ((hb.block _ (lt_of_block Hc_v19.out)).trans Hc_v19.out)
          have Hr_v20 := Lib.hid ((hb.block _ (lt_of_block Hr_v19.out)).trans Hr_v19.out)
          have Hq_v20 := Lib.hid ((hb.block _ (lt_of_block Hq_v19.out)).trans Hq_v19.out)
          have Hn_v20 := Lib.hid ((hb.block _ (lt_of_block Hn_v19.out)).trans Hn_v19.out)
          have Hb_v20 := Lib.hid ((hb.block _ (lt_of_block Hb_v19.out)).trans Hb_v19.out)
          have Ha_v20 := Lib.hid ((hb.block _ (lt_of_block Ha_v19.out)).trans Ha_v19.out)
          have Hbad_v20 := Lib.hid ((hb.block _ (lt_of_block Hbad_v19.out)).trans Hbad_v19.out)
          have Hm_v20 := Lib.hid ((hb.block _ (lt_of_block Hm_v19.out)).trans Hm_v19.out)
          have HB_v20 := Lib.hid (bt HB_v19.out hb)
          clear Hx_v19 Hc_v19 Hr_v19 Hq_v19 Hn_v19 Hb_v19 Ha_v19 Hbad_v19 Hm_v19
          clear hb
          have hc := HSm.out _ _ _ HM_v20.out HT_v20.out
          go_wp2_with (first | refine wpList_load_row rfl 46 _ rfl v18.heap.size rfl 46 _ _ _ Hm_v20.out Try.underlying46 rfl (by kernel_rfl) ?_ | refine wpList_load_rowW (by rfl) 46 _ rfl v18.heap.size rfl 46 _ _ _ Hm_v20.out Try.underlying46 rfl (by kernel_rfl) ?_ | refine wpList_load_row rfl 46 _ rfl v7.heap.size rfl 46 _ _ _ Hn_v20.out Try.underlying46 rfl (by kernel_rfl) ?_ | refine wpList_load_rowW (by rfl) 46 _ rfl v7.heap.size rfl 46 _ _ _ Hn_v20.out Try.underlying46 rfl (by kernel_rfl) ?_)
          (with_reducible refine hc.mono ?_)
          rintro e v21 ⟨rfl, hb⟩
          clear hc
          have HJ2 := Lib.hid (bt HJ.out hb)
          clear hb
          cases VC
          · have htb : tb = false := by
              cases tb
              · rfl
              · exact absurd (HVT.out rfl) (by decide)
            subst htb
            go_wp2_with fail
            go_meet
            exact ⟨rfl, HJ2⟩
          · go_wp2_with fail
            go_meet
            exact ⟨rfl, HJ2⟩
        case rest => as_aux_lemma =>
          obtain ⟨hs_, hJ⟩ := hcut
          subst hs_
          rename World => v25
          have hb := hJ.out
          clear hJ
          have HKB_v25 := Lib.hid (bt HKB_v19.out hb)
          clear HKB_v19
          have HT_v25 := Lib.hid (HT_v19.out.below hb)
          clear HT_v19
          have HM_v25 := Lib.hid (HM_v19.out.below hb)
          clear HM_v19
          have Hx_v25 := Lib.hid ((hb.block _ (lt_of_block Hx_v19.out)).trans Hx_v19.out)
          have Hc_v25 := Lib.hid ((hb.block _ (lt_of_block Hc_v19.out)).trans Hc_v19.out)
          have Hr_v25 := Lib.hid ((hb.block _ (lt_of_block Hr_v19.out)).trans Hr_v19.out)
          have Hq_v25 := Lib.hid ((hb.block _ (lt_of_block Hq_v19.out)).trans Hq_v19.out)
          have Hn_v25 := Lib.hid ((hb.block _ (lt_of_block Hn_v19.out)).trans Hn_v19.out)
          have Hb_v25 := Lib.hid ((hb.block _ (lt_of_block Hb_v19.out)).trans Hb_v19.out)
          have Ha_v25 := Lib.hid ((hb.block _ (lt_of_block Ha_v19.out)).trans Ha_v19.out)
          have Hbad_v25 := Lib.hid ((hb.block _ (lt_of_block Hbad_v19.out)).trans Hbad_v19.out)
          have Hm_v25 := Lib.hid ((hb.block _ (lt_of_block Hm_v19.out)).trans Hm_v19.out)
          have HB_v25 := Lib.hid (bt HB_v19.out hb)
          clear Hx_v19 Hc_v19 Hr_v19 Hq_v19 Hn_v19 Hb_v19 Ha_v19 Hbad_v19 Hm_v19
          clear hb
          go_upto_region 19 with fail
          have HmP := Lib.hid (lt_of_block Hm_v25.out)
          have hc := HP2.out _ _ HT_v25.out
          go_wp2_with (first | refine wpList_load_row rfl 29 _ rfl v5.heap.size rfl 29 _ _ _ Hq_v25.out Try.underlying29 rfl (by kernel_rfl) ?_ | refine wpList_load_rowW (by rfl) 29 _ rfl v5.heap.size rfl 29 _ _ _ Hq_v25.out Try.underlying29 rfl (by kernel_rfl) ?_ | refine wpList_load_row rfl 46 _ rfl v7.heap.size rfl 46 _ _ _ Hn_v25.out Try.underlying46 rfl (by kernel_rfl) ?_ | refine wpList_load_rowW (by rfl) 46 _ rfl v7.heap.size rfl 46 _ _ _ Hn_v25.out Try.underlying46 rfl (by kernel_rfl) ?_ | refine wpList_load_row rfl 35 _ rfl (W.heap.size + 1) rfl 35 _ _ _ Hc_v25.out Try.underlying35 rfl (by kernel_rfl) ?_ | refine wpList_load_rowW (by rfl) 35 _ rfl (W.heap.size + 1) rfl 35 _ _ _ Hc_v25.out Try.underlying35 rfl (by kernel_rfl) ?_)
          (with_reducible refine hc.mono ?_)
          rintro e v26 ⟨pa, pn, pc, pv, pf, pk, rfl, hP, hb⟩
          clear hc
          have HPP := Lib.hid hP
          clear hP
          have HKB_v26 := Lib.hid (bt HKB_v25.out hb)
          clear HKB_v25
          have HT_v26 := Lib.hid (HT_v25.out.below hb)
          clear HT_v25
          have HM_v26 := Lib.hid (HM_v25.out.below hb)
          clear HM_v25
          have Hx_v26 := Lib.hid ((hb.block _ (lt_of_block Hx_v25.out)).trans Hx_v25.out)
          have Hc_v26 := Lib.hid ((hb.block _ (lt_of_block Hc_v25.out)).trans Hc_v25.out)
          have Hr_v26 := Lib.hid ((hb.block _ (lt_of_block Hr_v25.out)).trans Hr_v25.out)
          have Hq_v26 := Lib.hid ((hb.block _ (lt_of_block Hq_v25.out)).trans Hq_v25.out)
          have Hn_v26 := Lib.hid ((hb.block _ (lt_of_block Hn_v25.out)).trans Hn_v25.out)
          have Hb_v26 := Lib.hid ((hb.block _ (lt_of_block Hb_v25.out)).trans Hb_v25.out)
          have Ha_v26 := Lib.hid ((hb.block _ (lt_of_block Ha_v25.out)).trans Ha_v25.out)
          have Hbad_v26 := Lib.hid ((hb.block _ (lt_of_block Hbad_v25.out)).trans Hbad_v25.out)
          have Hm_v26 := Lib.hid ((hb.block _ (lt_of_block Hm_v25.out)).trans Hm_v25.out)
          have HB_v26 := Lib.hid (bt HB_v25.out hb)
          clear Hx_v25 Hc_v25 Hr_v25 Hq_v25 Hn_v25 Hb_v25 Ha_v25 Hbad_v25 Hm_v25
          clear hb
          go_upto_region 20 with (refine wpList_store_row rfl 46 _ _ rfl v18.heap.size #[.slice pa pn pc, .int .i64 pv, .bool pf] rfl rfl 46 _ Hm_v26.out (by kernel_rfl) rfl (by simp [Value.oneCell']) ?_)
          generalize hwS : v26.setRow v18.heap.size #[.slice pa pn pc, .int .i64 pv, .bool pf] = vS
          have HmS : Hid (vS.heap[v18.heap.size]? = some (.cells #[.slice pa pn pc, .int .i64 pv, .bool pf] 46 (0, 0))) := Lib.hid (by rw [← hwS]; exact setRow_heap _ _ _ _ _ _ Hm_v26.out)
          have HKS : Hid (Below v18.heap.size v18 vS) := Lib.hid (by rw [← hwS]; exact below_row HKB_v26.out (Nat.le_refl _) _)
          have HqS := Lib.hid ((HKS.out.block _ (lt_of_block HqK.out)).trans HqK.out)
          have HnS := Lib.hid ((HKS.out.block _ (lt_of_block HnK.out)).trans HnK.out)
          have HTS := Lib.hid (HTK.out.below HKS.out)
          have HBS := Lib.hid (bt HBK.out HKS.out)
          have hlm := HmP.out
          have HPS : Hid (tb = false → pk = true ∧ pv = nv ∧ pf = fnd ∧ RowS vS (.slice pa pn pc) (rows.take 20)) := Lib.hid (fun ht => by
            obtain ⟨h1, h2, h3, h4⟩ := HPP.out ht
            refine ⟨h1, h2, h3, ?_⟩
            rw [← hwS]
            exact (h4.kept (F := fun k => k = v18.heap.size) (kept_row (F := fun k => k = v18.heap.size) (Kept.of_below (Below.refl _ _)) (.inl rfl) _) (fun i hi e => by have e' : i = v18.heap.size := e; omega)).rowS)
          have HRV := Lib.hid (fun w => rvalid_any (⟨qk, qt, qc, ql, qh, qy, qo⟩ : MQ) w)
          rw [HQv.out] at HRV
          unfold qV at HRV
          simp only at HRV
          cases tb
          · obtain ⟨rfl, rfl, rfl, hP⟩ := HPS.out rfl
            have hc := HSm.out _ _ _ hP HTS.out
            clear hP
            go_wp2_with (first | refine wpList_load_rowW (by rfl) 46 _ rfl v18.heap.size rfl 46 _ _ _ HmS.out Try.underlying46 rfl (by kernel_rfl) ?_ | refine wpList_load_rowW (by rfl) 46 _ rfl v7.heap.size rfl 46 _ _ _ HnS.out Try.underlying46 rfl (by kernel_rfl) ?_)
            (with_reducible refine hc.mono ?_)
            rintro e vT ⟨rfl, hb⟩
            have HqT := Lib.hid ((hb.block _ (lt_of_block HqS.out)).trans HqS.out)
            have HBT := Lib.hid (bt HBS.out hb)
            clear hb hc
            have hc := HRV.out vT
            go_wp2_with (refine wpList_load_rowW (by rfl) 29 _ rfl v5.heap.size rfl 29 _ _ _ HqT.out Try.underlying29 rfl (by kernel_rfl) ?_)
            (with_reducible refine hc.mono ?_)
            rintro e vU ⟨rfl, hb⟩
            have HBU := Lib.hid (bt HBT.out hb)
            clear hb hc
            go_wp2_with fail
            refine bodyPost_ret (v := .bool true) (by simp [results, Try.results7, go_sem]) rfl ?_
            exact ⟨rfl, HBU.out⟩
          · have hc := HRV.out vS
            go_wp2_with (refine wpList_load_rowW (by rfl) 29 _ rfl v5.heap.size rfl 29 _ _ _ HqS.out Try.underlying29 rfl (by kernel_rfl) ?_)
            (with_reducible refine hc.mono ?_)
            rintro e vU ⟨rfl, hb⟩
            have HBU := Lib.hid (bt HBS.out hb)
            clear hb hc
            go_wp2_with fail
            refine bodyPost_ret (v := .bool true) (by simp [results, Try.results7, go_sem]) rfl ?_
            exact ⟨rfl, HBU.out⟩
end Go.Proofs.Ytgbnjjgnihjfgaa

