/- PD, PE, PF -/
import Derived.Test.YtgbnjjgnihjfgaaGreatProg
import Derived.WalkKit
import Derived.Below
import Derived.Lib.Hide
import Derived.Laws.StructEq
import Derived.Lib.QuietBelow
import Derived.Deep.RegionHeld3
import Derived.Deep.RegionWith
import Derived.IntWalk
import Derived.BigQuiet
import Derived.Maps.RangeWalk
import Derived.DeepKeys4
import Derived.OneCell
import Derived.StillTail
import Derived.Deep.CutRange
import Derived.Outline
import Derived.WalkSpells
import Derived.Carry
import Derived.Shelf.SlGeneric
import Derived.Shelf.SlSortCmp.WholeK
import Derived.Shelf.SlicesG.Cmp
import Derived.Ground.SlsfProg
import Derived.Ground.SlgcProg
import Derived.Sort.OwnSorted
import Derived.Deep.AppendLies
import Derived.Shelf.SlSortCmp.NoneTotal
import Derived.Deep.QuietTactic
import Derived.Laws.AppendOwnNone
import Derived.Laws.EntriesVeiled
import Derived.Lib.SliceRun
import Derived.Deep.Cut
import Derived.Laws.ResultCell
import Derived.ArgAppend
import Derived.Laws.Rows
import Derived.Great.BuildSlice
import Derived.Great.Frames
import Derived.Deep.DeepCutAuto
import Derived.Test.YtgbnjjgnihjfgaaGreatBAG
import Derived.Test.YtgbnjjgnihjfgaaGreatBAJ
import Derived.Test.YtgbnjjgnihjfgaaGreatBAH
import Derived.Test.YtgbnjjgnihjfgaaGreatBAE
import Derived.Test.YtgbnjjgnihjfgaaGreatBAB
import Derived.Test.YtgbnjjgnihjfgaaGreatBAA
import Derived.Test.YtgbnjjgnihjfgaaGreatBAI
import Derived.Test.YtgbnjjgnihjfgaaGreatBAC
import Derived.Test.YtgbnjjgnihjfgaaGreatBAD
import Derived.Test.YtgbnjjgnihjfgaaGreatBAF
section
set_option linter.unusedVariables false
set_option linter.unusedSimpArgs false
namespace Go.Proofs.YtgbnjjgnihjfgaaGreat
open Go.RowKit Go.Sort Go.ChangeMaps Go.MapKept

theorem side_any (q : MQ) (r : MRow) (ex : Bool) {qb : Nat} (W : World) (HQ : W.heap[qb]? = some (.cells (qC q) 28 (0, 0))) (hc : I64 q.column) (hy : I64 q.by_) :
    Calls Tryz.prog 89 #[rowV r, .bool ex, ptr qb] W fun e w' => e = .returned (sideV (sideQ q r ex)) ∧ Below W.heap.size W w' := by
  obtain ⟨k, t, c, l, h, y, o⟩ := q
  obtain ⟨rt, rk, ⟨ra, rb, rc⟩⟩ := r
  simp only at hc hy
  have HV := fun w => value_any rt rk ra rb rc c w hc.1 hc.2
  have HY := fun w => value_any rt rk ra rb rc y w hy.1 hy.2
  have E : ∀ b : Bool, selR t c l h ⟨rt, rk, ⟨ra, rb, rc⟩⟩ = b → sideV (sideQ ⟨k, t, c, l, h, y, o⟩ ⟨rt, rk, ⟨ra, rb, rc⟩⟩ true) = .agg #[.int .i64 rt, .int .i64 rk, .int .i64 ra, .int .i64 rb, .int .i64 rc, .bool true, .bool b, .int .i64 (if b then vget ⟨rt, rk, ⟨ra, rb, rc⟩⟩ y else 0)] := fun b hb => by
    simp only [sideV, sideC, sideQ, inQ, msQ, Bool.true_and]
    rw [hb]
  cases ex
  · exact side_no k t c l h y o rt rk ra rb rc _ _ W HQ HV HY
  · by_cases h1 : rt = t
    · by_cases h2 : vget ⟨rt, rk, ⟨ra, rb, rc⟩⟩ c < l
      · rw [E false (by unfold selR; simp; omega)]
        exact side_low k t c l h y o rt rk ra rb rc _ _ W HQ HV HY h1 h2
      · by_cases h3 : h < vget ⟨rt, rk, ⟨ra, rb, rc⟩⟩ c
        · rw [E false (by unfold selR; simp; omega)]
          exact side_high k t c l h y o rt rk ra rb rc _ _ W HQ HV HY h1 h2 h3
        · rw [E true (by unfold selR; simp; omega)]
          exact side_in k t c l h y o rt rk ra rb rc _ _ W HQ HV HY h1 h2 h3
    · rw [E false (by unfold selR; simp [h1])]
      exact side_table k t c l h y o rt rk ra rb rc _ _ W HQ HV HY h1

set_option maxRecDepth 100000 in
set_option maxHeartbeats 8000000 in
theorem effectOf_any (q : MQ) (c : MCh) (W : World) (hc : I64 q.column) (hy : I64 q.by_) : Calls Tryz.prog 44 #[qV q, chV c] W fun e w' => e = .returned (.agg (effC q c)) ∧ Below W.heap.size W w' := by
  have HS := Lib.hid (fun (r : MRow) (ex : Bool) (qb : Nat) (w : World) (h : w.heap[qb]? = some (.cells (qC q) 28 (0, 0))) => side_any q r ex w h hc hy)
  have HBf : Hid (∀ w, Calls Tryz.prog 90 #[chV c] w fun e w' => e = .returned (.tuple #[rowV (befR c), .bool c.had]) ∧ Below w.heap.size w w') := Lib.hid (before_any c)
  have HAf : Hid (∀ w, Calls Tryz.prog 81 #[chV c] w fun e w' => e = .returned (.tuple #[rowV (aftR c), .bool c.has]) ∧ Below w.heap.size w w') := Lib.hid (after_any c)
  obtain ⟨E, HE⟩ : ∃ E, Hid (effC q c = E) := ⟨_, Lib.hid rfl⟩
  have HEx : Hid (E = #[.int .i64 q.kind, .int .i64 q.table, .int .i64 q.column, .int .i64 q.low, .int .i64 q.high, .int .i64 q.by_, .int .i64 q.other,
    .int .i64 c.t, .int .i64 c.k, .bool c.had, .int .i64 c.o.a, .int .i64 c.o.b, .int .i64 c.o.c, .bool c.has, .int .i64 c.n.a, .int .i64 c.n.b, .int .i64 c.n.c,
    .int .i64 (befR c).t, .int .i64 (befR c).k, .int .i64 (befR c).v.a, .int .i64 (befR c).v.b, .int .i64 (befR c).v.c, .bool c.had, .bool (sideQ q (befR c) c.had).inn, .int .i64 (sideQ q (befR c) c.had).ms,
    .int .i64 (aftR c).t, .int .i64 (aftR c).k, .int .i64 (aftR c).v.a, .int .i64 (aftR c).v.b, .int .i64 (aftR c).v.c, .bool c.has, .bool (sideQ q (aftR c) c.has).inn, .int .i64 (sideQ q (aftR c) c.has).ms]) := Lib.hid (by rw [← HE.out]; rfl)
  have HSb := Lib.hid (HS.out (befR c) c.had)
  have HSa := Lib.hid (HS.out (aftR c) c.has)
  rw [HE.out]
  clear HE HS hc hy
  unfold sideV sideC at HSb HSa
  have e1 : (sideQ q (befR c) c.had).row = befR c := rfl
  have e2 : (sideQ q (befR c) c.had).ex = c.had := rfl
  have e3 : (sideQ q (aftR c) c.has).row = aftR c := rfl
  have e4 : (sideQ q (aftR c) c.has).ex = c.has := rfl
  simp only [e1, e2, e3, e4] at HSb HSa
  clear e1 e2 e3 e4
  generalize (sideQ q (befR c) c.had).inn = ib at *
  generalize (sideQ q (befR c) c.had).ms = mb at *
  generalize (sideQ q (aftR c) c.has).inn = ia at *
  generalize (sideQ q (aftR c) c.has).ms = ma at *
  unfold rowV at *
  generalize befR c = rb at *
  generalize aftR c = ra at *
  obtain ⟨bt', bk, ⟨b1, b2, b3⟩⟩ := rb
  obtain ⟨at', ak, ⟨a1, a2, a3⟩⟩ := ra
  obtain ⟨t, k, had, ⟨oa, ob, oc⟩, has, ⟨na, nb, nc⟩⟩ := c
  obtain ⟨qk, qt, qc, ql, qh, qy, qo⟩ := q
  unfold qV chV at *
  unfold qC ptr at *
  simp only at *
  go_enter Tryz.func44, Tryz.ntmps44
  go_upto_region 1 with fail
  generalize hw0 : ((W.alloc (.cells #[.int .i64 qk, .int .i64 qt, .int .i64 qc, .int .i64 ql, .int .i64 qh, .int .i64 qy, .int .i64 qo] 28)).alloc (.cells #[.int .i64 t, .int .i64 k, .bool had, .int .i64 oa, .int .i64 ob, .int .i64 oc, .bool has, .int .i64 na, .int .i64 nb, .int .i64 nc] 45)).alloc _ = w0
  have HB0 : Hid (Below W.heap.size W w0) := Lib.hid (by rw [← hw0]; exact bt (bt (ba W _) (ba _ _)) (ba _ _))
  have HQ0 : Hid (w0.heap[W.heap.size]? = some (.cells #[.int .i64 qk, .int .i64 qt, .int .i64 qc, .int .i64 ql, .int .i64 qh, .int .i64 qy, .int .i64 qo] 28 (0, 0))) := Lib.hid (by
    rw [← hw0]
    exact ((ba ((W.alloc _).alloc _) _).block _ (by simp; omega)).trans (((ba (W.alloc _) _).block _ (by simp)).trans (heap_alloc_new W _)))
  have HC0 : Hid (w0.heap[W.heap.size + 1]? = some (.cells #[.int .i64 t, .int .i64 k, .bool had, .int .i64 oa, .int .i64 ob, .int .i64 oc, .bool has, .int .i64 na, .int .i64 nb, .int .i64 nc] 45 (0, 0))) := Lib.hid (by
    rw [← hw0]
    have h := heap_alloc_new (W.alloc (.cells #[.int .i64 qk, .int .i64 qt, .int .i64 qc, .int .i64 ql, .int .i64 qh, .int .i64 qy, .int .i64 qo] 28)) (.cells #[.int .i64 t, .int .i64 k, .bool had, .int .i64 oa, .int .i64 ob, .int .i64 oc, .bool has, .int .i64 na, .int .i64 nb, .int .i64 nc] 45)
    rw [World.size_alloc] at h
    exact ((ba ((W.alloc _).alloc _) _).block _ (by simp)).trans h)
  have HZ0 : Hid (∃ old : Array Value, old.size = 33 ∧ w0.heap[W.heap.size + 1 + 1]? = some (.cells old 97 (0, 0))) := Lib.hid (by
    rw [← hw0]
    have h := heap_alloc_new ((W.alloc (.cells #[.int .i64 qk, .int .i64 qt, .int .i64 qc, .int .i64 ql, .int .i64 qh, .int .i64 qy, .int .i64 qo] 28)).alloc (.cells #[.int .i64 t, .int .i64 k, .bool had, .int .i64 oa, .int .i64 ob, .int .i64 oc, .bool has, .int .i64 na, .int .i64 nb, .int .i64 nc] 45)) (.cells #[.int .i64 0, .int .i64 0, .int .i64 0, .int .i64 0, .int .i64 0, .int .i64 0, .int .i64 0, .int .i64 0, .int .i64 0, .bool false, .int .i64 0, .int .i64 0, .int .i64 0, .bool false, .int .i64 0, .int .i64 0, .int .i64 0, .int .i64 0, .int .i64 0, .int .i64 0, .int .i64 0, .int .i64 0, .bool false, .bool false, .int .i64 0, .int .i64 0, .int .i64 0, .int .i64 0, .int .i64 0, .int .i64 0, .bool false, .bool false, .int .i64 0] 97)
    rw [World.size_alloc, World.size_alloc] at h
    exact ⟨#[.int .i64 0, .int .i64 0, .int .i64 0, .int .i64 0, .int .i64 0, .int .i64 0, .int .i64 0, .int .i64 0, .int .i64 0, .bool false, .int .i64 0, .int .i64 0, .int .i64 0, .bool false, .int .i64 0, .int .i64 0, .int .i64 0, .int .i64 0, .int .i64 0, .int .i64 0, .int .i64 0, .int .i64 0, .bool false, .bool false, .int .i64 0, .int .i64 0, .int .i64 0, .int .i64 0, .int .i64 0, .int .i64 0, .bool false, .bool false, .int .i64 0], rfl, h⟩)
  obtain ⟨old, Hold⟩ : ∃ old, Hid (old.size = 33 ∧ w0.heap[W.heap.size + 1 + 1]? = some (.cells old 97 (0, 0))) := HZ0.out.imp fun _ h => Lib.hid h
  clear hw0 HZ0
  go_upto_region 2 with fail
  have HGq : Hid (∀ w1, BW w0 w1 → ∀ d' os, (grow (redrawn w1 d') os).heap[W.heap.size]? = some (.cells #[.int .i64 qk, .int .i64 qt, .int .i64 qc, .int .i64 ql, .int .i64 qh, .int .i64 qy, .int .i64 qo] 28 (0, 0))) := Lib.hid (fun w1 h d' os => ((show Below w0.heap.size w0 (grow (redrawn w1 d') os) from bt h (below_regrown w1 d' os)).block _ (lt_of_block HQ0.out)).trans HQ0.out)
  have HGc : Hid (∀ w1, BW w0 w1 → ∀ d' os, (grow (redrawn w1 d') os).heap[W.heap.size + 1]? = some (.cells #[.int .i64 t, .int .i64 k, .bool had, .int .i64 oa, .int .i64 ob, .int .i64 oc, .bool has, .int .i64 na, .int .i64 nb, .int .i64 nc] 45 (0, 0))) := Lib.hid (fun w1 h d' os => ((show Below w0.heap.size w0 (grow (redrawn w1 d') os) from bt h (below_regrown w1 d' os)).block _ (lt_of_block HC0.out)).trans HC0.out)
  have q0 : ∀ w1, BW w0 w1 → ∀ d' os, (grow (redrawn w1 d') os).cell? ⟨W.heap.size, 0, none⟩ = some (.int .i64 qk) := fun w1 h d' os => by simp [World.cell?, HGq.out w1 h d' os]
  have q1 : ∀ w1, BW w0 w1 → ∀ d' os, (grow (redrawn w1 d') os).cell? ⟨W.heap.size, 1, none⟩ = some (.int .i64 qt) := fun w1 h d' os => by simp [World.cell?, HGq.out w1 h d' os]
  have q2 : ∀ w1, BW w0 w1 → ∀ d' os, (grow (redrawn w1 d') os).cell? ⟨W.heap.size, 2, none⟩ = some (.int .i64 qc) := fun w1 h d' os => by simp [World.cell?, HGq.out w1 h d' os]
  have q3 : ∀ w1, BW w0 w1 → ∀ d' os, (grow (redrawn w1 d') os).cell? ⟨W.heap.size, 3, none⟩ = some (.int .i64 ql) := fun w1 h d' os => by simp [World.cell?, HGq.out w1 h d' os]
  have q4 : ∀ w1, BW w0 w1 → ∀ d' os, (grow (redrawn w1 d') os).cell? ⟨W.heap.size, 4, none⟩ = some (.int .i64 qh) := fun w1 h d' os => by simp [World.cell?, HGq.out w1 h d' os]
  have q5 : ∀ w1, BW w0 w1 → ∀ d' os, (grow (redrawn w1 d') os).cell? ⟨W.heap.size, 5, none⟩ = some (.int .i64 qy) := fun w1 h d' os => by simp [World.cell?, HGq.out w1 h d' os]
  have q6 : ∀ w1, BW w0 w1 → ∀ d' os, (grow (redrawn w1 d') os).cell? ⟨W.heap.size, 6, none⟩ = some (.int .i64 qo) := fun w1 h d' os => by simp [World.cell?, HGq.out w1 h d' os]
  have c0 : ∀ w1, BW w0 w1 → ∀ d' os, (grow (redrawn w1 d') os).cell? ⟨W.heap.size + 1, 0, none⟩ = some (.int .i64 t) := fun w1 h d' os => by simp [World.cell?, HGc.out w1 h d' os]
  have c1 : ∀ w1, BW w0 w1 → ∀ d' os, (grow (redrawn w1 d') os).cell? ⟨W.heap.size + 1, 1, none⟩ = some (.int .i64 k) := fun w1 h d' os => by simp [World.cell?, HGc.out w1 h d' os]
  have c2 : ∀ w1, BW w0 w1 → ∀ d' os, (grow (redrawn w1 d') os).cell? ⟨W.heap.size + 1, 2, none⟩ = some (.bool had) := fun w1 h d' os => by simp [World.cell?, HGc.out w1 h d' os]
  have c3 : ∀ w1, BW w0 w1 → ∀ d' os, (grow (redrawn w1 d') os).cell? ⟨W.heap.size + 1, 3, none⟩ = some (.int .i64 oa) := fun w1 h d' os => by simp [World.cell?, HGc.out w1 h d' os]
  have c4 : ∀ w1, BW w0 w1 → ∀ d' os, (grow (redrawn w1 d') os).cell? ⟨W.heap.size + 1, 4, none⟩ = some (.int .i64 ob) := fun w1 h d' os => by simp [World.cell?, HGc.out w1 h d' os]
  have c5 : ∀ w1, BW w0 w1 → ∀ d' os, (grow (redrawn w1 d') os).cell? ⟨W.heap.size + 1, 5, none⟩ = some (.int .i64 oc) := fun w1 h d' os => by simp [World.cell?, HGc.out w1 h d' os]
  have c6 : ∀ w1, BW w0 w1 → ∀ d' os, (grow (redrawn w1 d') os).cell? ⟨W.heap.size + 1, 6, none⟩ = some (.bool has) := fun w1 h d' os => by simp [World.cell?, HGc.out w1 h d' os]
  have c7 : ∀ w1, BW w0 w1 → ∀ d' os, (grow (redrawn w1 d') os).cell? ⟨W.heap.size + 1, 7, none⟩ = some (.int .i64 na) := fun w1 h d' os => by simp [World.cell?, HGc.out w1 h d' os]
  have c8 : ∀ w1, BW w0 w1 → ∀ d' os, (grow (redrawn w1 d') os).cell? ⟨W.heap.size + 1, 8, none⟩ = some (.int .i64 nb) := fun w1 h d' os => by simp [World.cell?, HGc.out w1 h d' os]
  have c9 : ∀ w1, BW w0 w1 → ∀ d' os, (grow (redrawn w1 d') os).cell? ⟨W.heap.size + 1, 9, none⟩ = some (.int .i64 nc) := fun w1 h d' os => by simp [World.cell?, HGc.out w1 h d' os]
  refine wp_region_calm 15 99 [0, 1, 2, 3, 4, 5, 6, 7, 8, 9, 10, 11, 12, 13, 14] (by kernel_rfl) (by kernel_rfl) (by intro oz h; simp at h) (by intro oz h; simp at h) (by rfl) ?_
  simp only [List.take_succ_cons, List.take_zero]
  iterate 4
    apply wpCalm_want
    · rfl
    · exact bc_refl
    · exact ⟨_, Below.refl _ _⟩
    · intro w00 hC0 K hK
      go_big_quiet_op
      exact hK
  apply wpCalm_want
  · rfl
  · exact bc_refl
  · exact ⟨_, Below.refl _ _⟩
  · intro w00 hC0 K hK
    go_big_quiet_op
    apply Exists.intro
    refine ⟨fun p => ?_, ?_⟩
    · exact Calls.regrown_of (HBf.out _)
    · exact hK
  iterate 2
    apply wpCalm_want
    · rfl
    · exact bc_refl
    · exact ⟨_, Below.refl _ _⟩
    · intro w00 hC0 K hK
      go_big_quiet_op
      exact hK
  apply wpCalm_want
  · rfl
  · exact bc_refl
  · exact ⟨_, Below.refl _ _⟩
  · intro w00 hC0 K hK
    go_big_quiet_op
    apply Exists.intro
    refine ⟨fun p => ?_, ?_⟩
    · exact Calls.regrown_of (HSb.out _ _ (HGq.out _ hC0 _ _))
    · exact hK
  iterate 2
    apply wpCalm_want
    · rfl
    · exact bc_refl
    · exact ⟨_, Below.refl _ _⟩
    · intro w00 hC0 K hK
      go_big_quiet_op
      exact hK
  apply wpCalm_want
  · rfl
  · exact bc_refl
  · exact ⟨_, Below.refl _ _⟩
  · intro w00 hC0 K hK
    go_big_quiet_op
    apply Exists.intro
    refine ⟨fun p => ?_, ?_⟩
    · exact Calls.regrown_of (HAf.out _)
    · exact hK
  iterate 2
    apply wpCalm_want
    · rfl
    · exact bc_refl
    · exact ⟨_, Below.refl _ _⟩
    · intro w00 hC0 K hK
      go_big_quiet_op
      exact hK
  apply wpCalm_want
  · rfl
  · exact bc_refl
  · exact ⟨_, Below.refl _ _⟩
  · intro w00 hC0 K hK
    go_big_quiet_op
    apply Exists.intro
    refine ⟨fun p => ?_, ?_⟩
    · exact Calls.regrown_of (HSa.out _ _ (HGq.out _ hC0 _ _))
    · exact hK
  apply wpCalm_want
  · rfl
  · exact bc_refl
  · exact ⟨_, Below.refl _ _⟩
  · intro w00 hC0 K hK
    go_big_quiet_op
    exact hK
  refine wpCalm_nil ?_
  intro w2 hbq
  try simp only [List.drop_succ_cons, List.drop_zero]
  have HB2 := Lib.hid (bt HB0.out hbq)
  have HS2 := Lib.hid ((hbq.block _ (lt_of_block Hold.out.2)).trans Hold.out.2)
  have HEs : Hid (E.size = 33) := Lib.hid (by rw [HEx.out]; rfl)
  clear hbq q0 q1 q2 q3 q4 q5 q6 c0 c1 c2 c3 c4 c5 c6 c7 c8 c9
  go_wp2_with (refine wpList_store_row rfl 97 _ _ rfl (W.heap.size + 1 + 1) #[.int .i64 qk, .int .i64 qt, .int .i64 qc, .int .i64 ql, .int .i64 qh, .int .i64 qy, .int .i64 qo, .int .i64 t, .int .i64 k, .bool had, .int .i64 oa, .int .i64 ob, .int .i64 oc, .bool has, .int .i64 na, .int .i64 nb, .int .i64 nc, .int .i64 bt', .int .i64 bk, .int .i64 b1, .int .i64 b2, .int .i64 b3, .bool had, .bool ib, .int .i64 mb, .int .i64 at', .int .i64 ak, .int .i64 a1, .int .i64 a2, .int .i64 a3, .bool has, .bool ia, .int .i64 ma] rfl rfl 97 _ HS2.out (by kernel_rfl) Hold.out.1 (by simp [Value.oneCell']) ?_)
  refine bodyPost_ret (v := .agg #[.int .i64 qk, .int .i64 qt, .int .i64 qc, .int .i64 ql, .int .i64 qh, .int .i64 qy, .int .i64 qo, .int .i64 t, .int .i64 k, .bool had, .int .i64 oa, .int .i64 ob, .int .i64 oc, .bool has, .int .i64 na, .int .i64 nb, .int .i64 nc, .int .i64 bt', .int .i64 bk, .int .i64 b1, .int .i64 b2, .int .i64 b3, .bool had, .bool ib, .int .i64 mb, .int .i64 at', .int .i64 ak, .int .i64 a1, .int .i64 a2, .int .i64 a3, .bool has, .bool ia, .int .i64 ma]) (results_cell_row rfl _ _ (W.heap.size + 1 + 1) 97 _ (0, 0) _ rfl (setRow_heap _ _ _ _ _ _ HS2.out) Tryz.underlying97 rfl (by kernel_rfl)) rfl ⟨by rw [HEx.out], below_row HB2.out (by omega) _⟩
end Go.Proofs.YtgbnjjgnihjfgaaGreat
end

section
set_option linter.unusedVariables false
set_option linter.unusedSimpArgs false
namespace Go.Proofs.YtgbnjjgnihjfgaaGreat
open Go.RowKit Go.Sort Go.ChangeMaps Go.MapKept

section
variable {P : Program} {ops : Array Oper} {rest : List Oper} {o : Oper} {a : Act} {w : World} {Q : Exit → Act → World → Prop}
/-- The load of a whole row, of an operation whose guard is met. -/
theorem wpList_load_rowW (hwt : Region.wanted o (yielded ops a.tmps) = true) (ty : TypeId) (x : Operand) (ho : o.op = .load ty x)
    (g : Nat) (hx : a.eval x = .pointer (some ⟨g, 0, none⟩)) (t : TypeId) (cs : Array Value) (fr : Nat × Nat) (d : TypeDesc) (hg : w.heap[g]? = some (.cells cs t fr))
    (hu : P.underlying ty = some d) (hd : (match d with | .struct _ | .array _ _ => true | _ => false) = true) (hi : (P.info? ty).map (·.size) = some cs.size)
    (h : wpList P ops Q rest (a.put o.dst (.agg cs)) w) : wpList P ops Q (o :: rest) a w :=
  wpList_step fun K hK => by
    rw [if_pos hwt]
    exact wp_load_row ty x ho g hx t cs fr d hg hu hd hi (hK _ _ h)
end
set_option maxRecDepth 100000 in
set_option maxHeartbeats 4000000 in
theorem test1_any (q : MQ) (c : MCh) (W : World) : Calls Tryz.prog 86 #[.agg (effC q c)] W fun e w' => e = .returned (.bool (inB q c != inA q c || msB q c != msA q c)) ∧ Below W.heap.size W w' := by
  have HE : Hid (EffAt (W.alloc (.cells (effC q c) 97)) W.heap.size q c) := Lib.hid (EffAt.new W q c)
  have HB : Hid (Below W.heap.size W (W.alloc (.cells (effC q c) 97))) := Lib.hid (ba W _)
  have HS : Hid ((effC q c).size = 33) := Lib.hid rfl
  have HC := Lib.hid (fun w => crosses_any q c w)
  have HW := Lib.hid (fun w => weighs_any q c w)
  unfold EffAt at HE
  generalize (inB q c != inA q c) = x at *
  generalize (msB q c != msA q c) = y at *
  generalize effC q c = E at *
  go_enter Tryz.func86, Tryz.ntmps86
  go_upto_region 1 with fail
  generalize W.alloc (.cells E 97) = w0 at *
  go_wp2_with (refine wpList_load_row rfl 97 _ rfl W.heap.size rfl 97 _ _ _ HE.out Tryz.underlying97 rfl (by rw [HS.out]; kernel_rfl) ?_)
  (with_reducible refine (HC.out _).mono ?_)
  rintro e w1 ⟨rfl, hb⟩
  have HB1 := Lib.hid (bt HB.out hb)
  have HE1 := Lib.hid ((hb.block _ (lt_of_block HE.out)).trans HE.out)
  clear hb
  cases x
  · go_wp2_with (refine wpList_load_rowW (by rfl) 97 _ rfl W.heap.size rfl 97 _ _ _ HE1.out Tryz.underlying97 rfl (by rw [HS.out]; kernel_rfl) ?_)
    (with_reducible refine (HW.out _).mono ?_)
    rintro e w2 ⟨rfl, hb⟩
    have HB2 := Lib.hid (bt HB1.out hb)
    clear hb
    go_wp2_with fail
    go_ret
    exact ⟨rfl, HB2.out⟩
  · go_wp2_with fail
    go_ret
    exact ⟨rfl, HB1.out⟩
set_option maxRecDepth 100000 in
set_option maxHeartbeats 4000000 in
theorem test2_any (q : MQ) (c : MCh) (W : World) : Calls Tryz.prog 87 #[.agg (effC q c)] W fun e w' => e = .returned (.bool (inB q c != inA q c || msB q c != msA q c)) ∧ Below W.heap.size W w' := by
  have HE : Hid (EffAt (W.alloc (.cells (effC q c) 97)) W.heap.size q c) := Lib.hid (EffAt.new W q c)
  have HB : Hid (Below W.heap.size W (W.alloc (.cells (effC q c) 97))) := Lib.hid (ba W _)
  have HS : Hid ((effC q c).size = 33) := Lib.hid rfl
  have HC := Lib.hid (fun w => crosses_any q c w)
  have HW := Lib.hid (fun w => weighs_any q c w)
  unfold EffAt at HE
  generalize (inB q c != inA q c) = x at *
  generalize (msB q c != msA q c) = y at *
  generalize effC q c = E at *
  go_enter Tryz.func87, Tryz.ntmps87
  go_upto_region 1 with fail
  generalize W.alloc (.cells E 97) = w0 at *
  go_wp2_with (refine wpList_load_row rfl 97 _ rfl W.heap.size rfl 97 _ _ _ HE.out Tryz.underlying97 rfl (by rw [HS.out]; kernel_rfl) ?_)
  (with_reducible refine (HC.out _).mono ?_)
  rintro e w1 ⟨rfl, hb⟩
  have HB1 := Lib.hid (bt HB.out hb)
  have HE1 := Lib.hid ((hb.block _ (lt_of_block HE.out)).trans HE.out)
  clear hb
  cases x
  · go_wp2_with (refine wpList_load_rowW (by rfl) 97 _ rfl W.heap.size rfl 97 _ _ _ HE1.out Tryz.underlying97 rfl (by rw [HS.out]; kernel_rfl) ?_)
    (with_reducible refine (HW.out _).mono ?_)
    rintro e w2 ⟨rfl, hb⟩
    have HB2 := Lib.hid (bt HB1.out hb)
    clear hb
    go_wp2_with fail
    go_ret
    exact ⟨rfl, HB2.out⟩
  · go_wp2_with fail
    go_ret
    exact ⟨rfl, HB1.out⟩
set_option maxRecDepth 100000 in
set_option maxHeartbeats 4000000 in
theorem test3_any (q : MQ) (c : MCh) (W : World) : Calls Tryz.prog 88 #[.agg (effC q c)] W fun e w' => e = .returned (.bool (inB q c || inA q c || decide (c.t = q.other))) ∧ Below W.heap.size W w' := by
  have HE : Hid (EffAt (W.alloc (.cells (effC q c) 97)) W.heap.size q c) := Lib.hid (EffAt.new W q c)
  have HB : Hid (Below W.heap.size W (W.alloc (.cells (effC q c) 97))) := Lib.hid (ba W _)
  have HS : Hid ((effC q c).size = 33) := Lib.hid rfl
  have HC := Lib.hid (fun w => reaches_any q c w)
  have H6 : Hid ((effC q c)[6]? = some (.int .i64 q.other)) := Lib.hid rfl
  have H7 : Hid ((effC q c)[7]? = some (.int .i64 c.t)) := Lib.hid rfl
  unfold EffAt at HE
  generalize (inB q c || inA q c) = x at *
  generalize q.other = oo at *
  generalize c.t = tt at *
  generalize effC q c = E at *
  go_enter Tryz.func88, Tryz.ntmps88
  go_upto_region 1 with fail
  generalize W.alloc (.cells E 97) = w0 at *
  go_wp2_with (refine wpList_load_row rfl 97 _ rfl W.heap.size rfl 97 _ _ _ HE.out Tryz.underlying97 rfl (by rw [HS.out]; kernel_rfl) ?_)
  (with_reducible refine (HC.out _).mono ?_)
  rintro e w1 ⟨rfl, hb⟩
  have HB1 := Lib.hid (bt HB.out hb)
  have HE1 := Lib.hid ((hb.block _ (lt_of_block HE.out)).trans HE.out)
  clear hb
  cases x
  · have c6 : w1.cell? ⟨W.heap.size, 6, none⟩ = some (.int .i64 oo) := by simp [World.cell?, HE1.out, H6.out]
    have c7 : w1.cell? ⟨W.heap.size, 7, none⟩ = some (.int .i64 tt) := by simp [World.cell?, HE1.out, H7.out]
    by_cases h : tt = oo
    · have d1 : (tt == oo) = true := by simp [h]
      have e1 : (false || decide (tt = oo)) = true := by simp [h]
      have E1 := Lib.hid e1
      clear h e1
      go_wp2_with fail
      go_ret
      exact ⟨by first | (rw [E1.out]; done) | (rw [E1.out]; rfl), HB1.out⟩
    · have d1 : (tt == oo) = false := by simp [h]
      have e1 : (false || decide (tt = oo)) = false := by simp [h]
      have E1 := Lib.hid e1
      clear h e1
      go_wp2_with fail
      go_ret
      exact ⟨by first | (rw [E1.out]; done) | (rw [E1.out]; rfl), HB1.out⟩
  · go_wp2_with fail
    go_ret
    exact ⟨rfl, HB1.out⟩
end Go.Proofs.YtgbnjjgnihjfgaaGreat
end

section
set_option linter.unusedVariables false
set_option linter.unusedSimpArgs false
namespace Go.Proofs.YtgbnjjgnihjfgaaGreat
open Go.RowKit Go.Sort Go.ChangeMaps Go.MapKept

/-- A result in a variable of its own; its rows lie in memory from base on. -/
def ResAt (w : World) (rb base : Nat) (r : MRes) : Prop := ∃ u, w.heap[rb]? = some (.cells (resC u r.val r.fnd) 34 (0, 0)) ∧ OwnR w base u r.rows
theorem own_ne {w : World} {base b : Nat} {u : Value} {M : List MRow} {cs : Array Value} {t : TypeId} {fr : Nat × Nat} (h : OwnR w base u M) (hb : w.heap[b]? = some (.cells cs t fr)) (ht : t ≠ 57) : ∀ i, u.ownBlock = some i → i ≠ b := by
  intro i hi e
  obtain ⟨_, cur, hc⟩ := own_type h hi
  subst e
  rw [hc] at hb
  simp at hb
  exact ht hb.2.1.symm
theorem ResAt.lt {w : World} {rb base : Nat} {r : MRes} (h : ResAt w rb base r) : rb < w.heap.size := by
  obtain ⟨u, h1, _⟩ := h
  exact lt_of_block h1
theorem ResAt.below {w w' : World} {rb base : Nat} {r : MRes} (h : ResAt w rb base r) (k : Below w.heap.size w w') : ResAt w' rb base r := by
  obtain ⟨u, h1, h2⟩ := h
  exact ⟨u, (k.block _ (lt_of_block h1)).trans h1, h2.below k⟩
theorem own_setc {w : World} {base b j : Nat} {u x : Value} {M : List MRow} {cs : Array Value} {fr : Nat × Nat} (h : OwnR w base u M) (hb : w.heap[b]? = some (.cells cs 34 fr)) : OwnR (w.setCell ⟨b, j, none⟩ x) base u M :=
  h.kept' (F := fun k => k = b) (Kept.setCell (F := fun i => i = b) (p := ⟨b, j, none⟩) (Kept.of_below (Below.refl _ _)) (.inl rfl) x) (fun i hi e => own_ne h hb (by decide) i hi e)
/-- What a patch leaves. -/
def PatchOut (W : World) (rb base : Nat) (r : Option MRes) (e : Ending) (w' : World) : Prop :=
  e = .returned (.bool r.isSome) ∧ (∀ r', r = some r' → ResAt w' rb base r') ∧ Kept (fun k => k = rb) W w'

set_option maxRecDepth 100000 in
set_option maxHeartbeats 4000000 in
theorem patchCount_any {q : MQ} {c : MCh} {rb base : Nat} {r : MRes} {W : World} (hR : ResAt W rb base r) : Calls Tryz.prog 117 #[ptr rb, .agg (effC q c)] W (PatchOut W rb base (some ⟨r.rows, cntP r.val (inA q c) (inB q c), r.fnd⟩)) := by
  obtain ⟨rows, val, fnd⟩ := r
  obtain ⟨u, hu, hO⟩ := hR
  have HU := Lib.hid hu
  have HO := Lib.hid hO
  have HE : Hid (EffAt (W.alloc (.cells (effC q c) 97)) W.heap.size q c) := Lib.hid (EffAt.new W q c)
  have HB : Hid (Below W.heap.size W (W.alloc (.cells (effC q c) 97))) := Lib.hid (ba W _)
  have hlt := lt_of_block hu
  have hne : ¬ rb = W.heap.size := by omega
  have hne2 : ¬ W.heap.size = rb := by omega
  simp only at HU HO hu hO ⊢
  have HA : Hid ((effC q c)[31]? = some (.bool (inA q c)) ∧ (effC q c)[23]? = some (.bool (inB q c))) := Lib.hid ⟨rfl, rfl⟩
  unfold EffAt at HE
  generalize inA q c = ia at *
  generalize inB q c = ib at *
  generalize effC q c = E at *
  clear hu hO
  have HU1 := Lib.hid ((HB.out.block _ (lt_of_block HU.out)).trans HU.out)
  have HO1 := Lib.hid (HO.out.below HB.out)
  have hz : W.heap.size < (W.alloc (.cells E 97)).heap.size := by simp
  go_enter Tryz.func117, Tryz.ntmps117
  go_upto_region 1 with fail
  have HK1 : Hid (Kept (fun k => k = rb) W (W.alloc (.cells E 97))) := Lib.hid (Kept.of_below HB.out)
  generalize W.alloc (.cells E 97) = w0 at *
  have eA : w0.cell? ⟨W.heap.size, 31, none⟩ = some (.bool ia) := by simp [World.cell?, HE.out, HA.out.1]
  have eB : w0.cell? ⟨W.heap.size, 23, none⟩ = some (.bool ib) := by simp [World.cell?, HE.out, HA.out.2]
  have rv : w0.cell? ⟨rb, 1, none⟩ = some (.int .i64 val) := by simp only [World.cell?, HU1.out]; rfl
  have rf : w0.frozen? ⟨rb, 1, none⟩ = false := by simp [World.frozen?, HU1.out]
  have HS1 : Hid (∀ n, ResAt (w0.setCell ⟨rb, 1, none⟩ (.int .i64 n)) rb base ⟨rows, n, fnd⟩ ∧ Kept (fun k => k = rb) W (w0.setCell ⟨rb, 1, none⟩ (.int .i64 n))) := Lib.hid (fun n => ⟨⟨u, setC_heap HU1.out 1 _, own_setc HO1.out HU1.out⟩, Kept.setCell (F := fun i => i = rb) (p := ⟨rb, 1, none⟩) HK1.out (.inl rfl) _⟩)
  have HS2 : Hid (∀ m n, ResAt ((w0.setCell ⟨rb, 1, none⟩ (.int .i64 m)).setCell ⟨rb, 1, none⟩ (.int .i64 n)) rb base ⟨rows, n, fnd⟩ ∧ Kept (fun k => k = rb) W ((w0.setCell ⟨rb, 1, none⟩ (.int .i64 m)).setCell ⟨rb, 1, none⟩ (.int .i64 n))) := Lib.hid (fun m n => ⟨⟨u, setC_heap (setC_heap HU1.out 1 _) 1 _, own_setc (own_setc HO1.out HU1.out) (setC_heap HU1.out 1 _)⟩, Kept.setCell (F := fun i => i = rb) (p := ⟨rb, 1, none⟩) (Kept.setCell (F := fun i => i = rb) (p := ⟨rb, 1, none⟩) HK1.out (.inl rfl) _) (.inl rfl) _⟩)
  have HS0 : Hid (ResAt w0 rb base ⟨rows, val, fnd⟩) := Lib.hid ⟨u, HU1.out, HO1.out⟩
  unfold cntP
  cases ia <;> cases ib
  all_goals
    go_wp2_with fail
    go_ret
    first
      | exact ⟨rfl, fun r' h => by cases h; exact HS0.out, HK1.out⟩
      | exact ⟨rfl, fun r' h => by cases h; exact (HS1.out _).1, (HS1.out _).2⟩
      | exact ⟨rfl, fun r' h => by cases h; exact (HS2.out _ _).1, (HS2.out _ _).2⟩

set_option maxRecDepth 100000 in
set_option maxHeartbeats 4000000 in
theorem patchSum_any {q : MQ} {c : MCh} {rb base : Nat} {r : MRes} {W : World} (hR : ResAt W rb base r) : Calls Tryz.prog 118 #[ptr rb, .agg (effC q c)] W (PatchOut W rb base (some ⟨r.rows, wrap64 (r.val + wrap64 (msA q c - msB q c)), r.fnd⟩)) := by
  obtain ⟨rows, val, fnd⟩ := r
  obtain ⟨u, hu, hO⟩ := hR
  have HU := Lib.hid hu
  have HO := Lib.hid hO
  have HE : Hid (EffAt (W.alloc (.cells (effC q c) 97)) W.heap.size q c) := Lib.hid (EffAt.new W q c)
  have HB : Hid (Below W.heap.size W (W.alloc (.cells (effC q c) 97))) := Lib.hid (ba W _)
  have hlt := lt_of_block hu
  have hne : ¬ rb = W.heap.size := by omega
  have hne2 : ¬ W.heap.size = rb := by omega
  simp only at HU HO hu hO ⊢
  have HA : Hid ((effC q c)[32]? = some (.int .i64 (msA q c)) ∧ (effC q c)[24]? = some (.int .i64 (msB q c))) := Lib.hid ⟨rfl, rfl⟩
  unfold EffAt at HE
  generalize msA q c = ia at *
  generalize msB q c = ib at *
  generalize effC q c = E at *
  clear hu hO
  have HU1 := Lib.hid ((HB.out.block _ (lt_of_block HU.out)).trans HU.out)
  have HO1 := Lib.hid (HO.out.below HB.out)
  have hz : W.heap.size < (W.alloc (.cells E 97)).heap.size := by simp
  go_enter Tryz.func118, Tryz.ntmps118
  go_upto_region 1 with fail
  have HK1 : Hid (Kept (fun k => k = rb) W (W.alloc (.cells E 97))) := Lib.hid (Kept.of_below HB.out)
  generalize W.alloc (.cells E 97) = w0 at *
  have HGe : Hid (∀ w1, BW w0 w1 → ∀ d' os, (grow (redrawn w1 d') os).heap[W.heap.size]? = some (.cells E 97 (0, 0))) := Lib.hid (fun w1 h d' os => ((show Below w0.heap.size w0 (grow (redrawn w1 d') os) from bt h (below_regrown w1 d' os)).block _ (lt_of_block HE.out)).trans HE.out)
  have HGr : Hid (∀ w1, BW w0 w1 → ∀ d' os, (grow (redrawn w1 d') os).heap[rb]? = some (.cells (resC u val fnd) 34 (0, 0))) := Lib.hid (fun w1 h d' os => ((show Below w0.heap.size w0 (grow (redrawn w1 d') os) from bt h (below_regrown w1 d' os)).block _ (lt_of_block HU1.out)).trans HU1.out)
  have eA : ∀ w1, BW w0 w1 → ∀ d' os, (grow (redrawn w1 d') os).cell? ⟨W.heap.size, 32, none⟩ = some (.int .i64 ia) := fun w1 h d' os => by simp [World.cell?, HGe.out w1 h d' os, HA.out.1]
  have eB : ∀ w1, BW w0 w1 → ∀ d' os, (grow (redrawn w1 d') os).cell? ⟨W.heap.size, 24, none⟩ = some (.int .i64 ib) := fun w1 h d' os => by simp [World.cell?, HGe.out w1 h d' os, HA.out.2]
  have rv : ∀ w1, BW w0 w1 → ∀ d' os, (grow (redrawn w1 d') os).cell? ⟨rb, 1, none⟩ = some (.int .i64 val) := fun w1 h d' os => by simp only [World.cell?, HGr.out w1 h d' os]; rfl
  refine wp_region_calm 14 99 [0, 1, 2, 3, 4, 5, 6, 7, 8, 9, 10, 11, 12, 13] (by kernel_rfl) (by kernel_rfl) (by intro oz h; simp at h) (by intro oz h; simp at h) (by rfl) ?_
  simp only [List.take_succ_cons, List.take_zero]
  iterate 14
    apply wpCalm_want
    · rfl
    · exact bc_refl
    · exact ⟨_, Below.refl _ _⟩
    · intro w00 hC0 K hK
      go_big_quiet_op
      exact hK
  refine wpCalm_nil ?_
  intro w2 hbq
  try simp only [List.drop_succ_cons, List.drop_zero]
  have HU2 := Lib.hid ((hbq.block _ (lt_of_block HU1.out)).trans HU1.out)
  have HO2 := Lib.hid (HO1.out.below hbq)
  have HK2 : Hid (Kept (fun k => k = rb) W w2) := Lib.hid (HK1.out.then hbq)
  have rc : ∃ v, w2.cell? ⟨rb, 1, none⟩ = some v := ⟨.int .i64 val, by simp only [World.cell?, HU2.out]; rfl⟩
  have rv2 : w2.cell? ⟨rb, 1, none⟩ = some (.int .i64 val) := by simp only [World.cell?, HU2.out]; rfl
  have rf : w2.frozen? ⟨rb, 1, none⟩ = false := by simp [World.frozen?, HU2.out]
  clear hbq eA eB rv rc
  have HS1 : Hid (∀ n, ResAt (w2.setCell ⟨rb, 1, none⟩ (.int .i64 n)) rb base ⟨rows, n, fnd⟩ ∧ Kept (fun k => k = rb) W (w2.setCell ⟨rb, 1, none⟩ (.int .i64 n))) := Lib.hid (fun n => ⟨⟨u, setC_heap HU2.out 1 _, own_setc HO2.out HU2.out⟩, Kept.setCell (F := fun i => i = rb) (p := ⟨rb, 1, none⟩) HK2.out (.inl rfl) _⟩)
  go_wp2_with fail
  go_ret
  exact ⟨rfl, fun r' h => by cases h; exact (HS1.out _).1, (HS1.out _).2⟩
end Go.Proofs.YtgbnjjgnihjfgaaGreat
end
