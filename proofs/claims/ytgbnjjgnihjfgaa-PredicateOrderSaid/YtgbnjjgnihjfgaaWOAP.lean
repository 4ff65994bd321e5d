/- QH, QI, QJ -/
import Derived.Test.YtgbnjjgnihjfgaaProg
import Derived.WalkKit
import Derived.Below
import Derived.Lib.Hide
import Derived.Laws.StructEq
import Derived.Lib.QuietBelow
import Derived.Deep.RegionHeld3
import Derived.Deep.RegionWith
import Derived.IntWalk
import Derived.BigQuiet
import Derived.Maps.RangeWalk
import Derived.DeepKeys4
import Derived.OneCell
import Derived.StillTail
import Derived.Deep.CutRange
import Derived.Outline
import Derived.WalkSpells
import Derived.Carry
import Derived.Shelf.SlGeneric
import Derived.Shelf.SlSortCmp.WholeK
import Derived.Shelf.SlicesG.Cmp
import Derived.Ground.SlsfProg
import Derived.Ground.SlgcProg
import Derived.Sort.OwnSorted
import Derived.Deep.AppendLies
import Derived.Shelf.SlSortCmp.NoneTotal
import Derived.Deep.QuietTactic
import Derived.Laws.AppendOwnNone
import Derived.Laws.EntriesVeiled
import Derived.Lib.SliceRun
import Derived.Deep.Cut
import Derived.Laws.ResultCell
import Derived.ArgAppend
import Derived.Laws.Rows
import Derived.Great.BuildSlice
import Derived.Great.Frames
import Derived.Deep.DeepCutAuto
import Derived.Lib.AppendZeros
import Derived.Lib.Overlaps
import Derived.Laws.CopyRow
import Derived.Laws.AppendOwn
import Derived.Laws.Externs
import Derived.Deep.RegionLawGrows
import Derived.Test.YtgbnjjgnihjfgaaWOAM
import Derived.Test.YtgbnjjgnihjfgaaWOAI
import Derived.Test.YtgbnjjgnihjfgaaWOAF
import Derived.Test.YtgbnjjgnihjfgaaWOAO
import Derived.Test.YtgbnjjgnihjfgaaWOAK
import Derived.Test.YtgbnjjgnihjfgaaWOAL
import Derived.Test.YtgbnjjgnihjfgaaWOAH
import Derived.Test.YtgbnjjgnihjfgaaWOAN
import Derived.Test.YtgbnjjgnihjfgaaWOAB
import Derived.Test.YtgbnjjgnihjfgaaWOAC
import Derived.Test.YtgbnjjgnihjfgaaWOAD
import Derived.Test.YtgbnjjgnihjfgaaWOAA
import Derived.Test.YtgbnjjgnihjfgaaWOAG
import Derived.Test.YtgbnjjgnihjfgaaWOAJ
import Derived.Test.YtgbnjjgnihjfgaaWOAE
section
set_option linter.unusedVariables false
set_option linter.unusedSimpArgs false
namespace Go.Proofs.Ytgbnjjgnihjfgaa
open Go.RowKit Go.Sort Go.ChangeMaps Go.MapKept

theorem four (W : World) (a b c d : Obj) : Below W.heap.size W ((((W.alloc a).alloc b).alloc c).alloc d) ∧ ((((W.alloc a).alloc b).alloc c).alloc d).heap[W.heap.size]? = some a ∧ ((((W.alloc a).alloc b).alloc c).alloc d).heap[W.heap.size + 1]? = some b ∧ ((((W.alloc a).alloc b).alloc c).alloc d).heap[W.heap.size + 1 + 1]? = some c ∧ ((((W.alloc a).alloc b).alloc c).alloc d).heap[W.heap.size + 1 + 1 + 1]? = some d := by
  have e1 := World.size_alloc W a
  have e2 := World.size_alloc (W.alloc a) b
  have e3 := World.size_alloc ((W.alloc a).alloc b) c
  have h1 := heap_alloc_new W a
  have h2 := heap_alloc_new (W.alloc a) b
  have h3 := heap_alloc_new ((W.alloc a).alloc b) c
  have h4 := heap_alloc_new (((W.alloc a).alloc b).alloc c) d
  rw [e1] at h2
  rw [e2, e1] at h3
  rw [e3, e2, e1] at h4
  exact ⟨bt (bt (bt (ba W _) (ba _ _)) (ba _ _)) (ba _ _), ((ba _ d).block _ (by omega)).trans (((ba _ c).block _ (by omega)).trans (((ba _ b).block _ (by omega)).trans h1)), ((ba _ d).block _ (by omega)).trans (((ba _ c).block _ (by omega)).trans h2), ((ba _ d).block _ (by omega)).trans h3, h4⟩
/-- A zero result. -/
def resZ : MRes := ⟨[], 0, false⟩
/-- What patch, Patch and Apply return. -/
def PatchRes (W : World) (base : Nat) (r : Option MRes) (e : Ending) (w' : World) : Prop := ∃ u, e = .returned (.tuple #[.agg (resC u (r.getD resZ).val (r.getD resZ).fnd), .bool r.isSome]) ∧ OwnR w' base u (r.getD resZ).rows ∧ Below W.heap.size W w'
set_option maxRecDepth 100000 in
set_option maxHeartbeats 8000000 in
theorem patch_at {q : MQ} {c : MCh} {r : MRes} {u : Value} {W : World} {base : Nat} {RP : Option MRes} {g : FuncId} (hv : validB q = true) (hO : OwnR W base u r.rows) (hb : base ≤ W.heap.size) (eg : ∀ args w, (callFunc g args).run Try.prog w = .ok (.enter g args) w) (hl : lookG patchersL q.kind = some (fnV g #[]))
    (hg : ∀ w rb, ResAt w rb base r → base ≤ w.heap.size → Calls Try.prog g #[ptr rb, .agg (effC q c)] w (PatchOut w rb base RP)) : Calls Try.prog 70 #[qV q, .agg (resC u r.val r.fnd), chV c] W (PatchRes W base RP) := by
  have hk := valid_ok hv
  have HBs : Hid (base ≤ W.heap.size) := Lib.hid hb
  have HF := Lib.hid (fun w => effectOf_any q c w hk.1.2.2.1 hk.1.2.2.2.2.2.1)
  have HG := Lib.hid hg
  have HO := Lib.hid hO
  have HL := Lib.hid (fun (w : World) (mb : Nat) (h : GMap w mb patchersL) => h.look Try.underlying173 (k := q.kind) hk.1.1 hl)
  obtain ⟨E, HEE⟩ : ∃ E, Hid (effC q c = E) := ⟨_, Lib.hid rfl⟩
  rw [HEE.out] at HF HG
  obtain ⟨ua, un, uc, rfl⟩ := hO.form
  clear hk hv hg HEE hl hO hb
  obtain ⟨rows, val, fnd⟩ := r
  simp only at HO ⊢
  obtain ⟨t, k, had, ⟨oa, ob, oc⟩, has, ⟨na, nb, nc⟩⟩ := c
  obtain ⟨qk, qt, qc, ql, qh, qy, qo⟩ := q
  unfold qV chV fnV at *
  simp only at *
  go_enter Try.func70, Try.ntmps70
  go_upto_region 1 with fail
  obtain ⟨w0, Hw0⟩ : ∃ w0, Hid ((((W.alloc (.cells #[.int .i64 qk, .int .i64 qt, .int .i64 qc, .int .i64 ql, .int .i64 qh, .int .i64 qy, .int .i64 qo] 29)).alloc (.cells #[.slice ua un uc, .int .i64 val, .bool fnd] 46)).alloc (.cells #[.int .i64 t, .int .i64 k, .bool had, .int .i64 oa, .int .i64 ob, .int .i64 oc, .bool has, .int .i64 na, .int .i64 nb, .int .i64 nc] 35)).alloc (.cells #[.slice none 0 0, .int .i64 0, .bool false] 46) = w0) := ⟨_, Lib.hid rfl⟩
  obtain ⟨hB0, hQ0, hR0, hC0, hZ0⟩ := four W (.cells #[.int .i64 qk, .int .i64 qt, .int .i64 qc, .int .i64 ql, .int .i64 qh, .int .i64 qy, .int .i64 qo] 29) (.cells #[.slice ua un uc, .int .i64 val, .bool fnd] 46) (.cells #[.int .i64 t, .int .i64 k, .bool had, .int .i64 oa, .int .i64 ob, .int .i64 oc, .bool has, .int .i64 na, .int .i64 nb, .int .i64 nc] 35) (.cells #[.slice none 0 0, .int .i64 0, .bool false] 46)
  rw [Hw0.out] at hB0 hQ0 hR0 hC0 hZ0 ⊢
  clear Hw0
  have HB0 := Lib.hid hB0
  have HQ0 := Lib.hid hQ0
  have HR0 := Lib.hid hR0
  have HC0 := Lib.hid hC0
  have HZ0 := Lib.hid hZ0
  clear hB0 hQ0 hR0 hC0 hZ0
  have HBd : Hid (Below w0.heap.size w0 w0.drew) := Lib.hid (below_drew _)
  have HK : Hid (∀ w : World, w.heap[W.heap.size]? = some (.cells #[.int .i64 qk, .int .i64 qt, .int .i64 qc, .int .i64 ql, .int .i64 qh, .int .i64 qy, .int .i64 qo] 29 (0, 0)) → w.heap[W.heap.size + 1 + 1]? = some (.cells #[.int .i64 t, .int .i64 k, .bool had, .int .i64 oa, .int .i64 ob, .int .i64 oc, .bool has, .int .i64 na, .int .i64 nb, .int .i64 nc] 35 (0, 0)) → w.cell? ⟨W.heap.size, 0, none⟩ = some (.int .i64 qk) ∧ w.cell? ⟨W.heap.size, 1, none⟩ = some (.int .i64 qt) ∧ w.cell? ⟨W.heap.size, 2, none⟩ = some (.int .i64 qc) ∧ w.cell? ⟨W.heap.size, 3, none⟩ = some (.int .i64 ql) ∧ w.cell? ⟨W.heap.size, 4, none⟩ = some (.int .i64 qh) ∧ w.cell? ⟨W.heap.size, 5, none⟩ = some (.int .i64 qy) ∧ w.cell? ⟨W.heap.size, 6, none⟩ = some (.int .i64 qo) ∧ w.cell? ⟨W.heap.size + 1 + 1, 0, none⟩ = some (.int .i64 t) ∧ w.cell? ⟨W.heap.size + 1 + 1, 1, none⟩ = some (.int .i64 k) ∧ w.cell? ⟨W.heap.size + 1 + 1, 2, none⟩ = some (.bool had) ∧ w.cell? ⟨W.heap.size + 1 + 1, 3, none⟩ = some (.int .i64 oa) ∧ w.cell? ⟨W.heap.size + 1 + 1, 4, none⟩ = some (.int .i64 ob) ∧ w.cell? ⟨W.heap.size + 1 + 1, 5, none⟩ = some (.int .i64 oc) ∧ w.cell? ⟨W.heap.size + 1 + 1, 6, none⟩ = some (.bool has) ∧ w.cell? ⟨W.heap.size + 1 + 1, 7, none⟩ = some (.int .i64 na) ∧ w.cell? ⟨W.heap.size + 1 + 1, 8, none⟩ = some (.int .i64 nb) ∧ w.cell? ⟨W.heap.size + 1 + 1, 9, none⟩ = some (.int .i64 nc)) := Lib.hid (fun w h1 h2 => by
    refine ⟨?_, ?_, ?_, ?_, ?_, ?_, ?_, ?_, ?_, ?_, ?_, ?_, ?_, ?_, ?_, ?_, ?_⟩ <;> simp [World.cell?, h1, h2])
  have HKb := Lib.hid (fun (w : World) (h : Hid (Below w0.heap.size w0 w)) => HK.out w ((h.out.block _ (lt_of_block HQ0.out)).trans HQ0.out) ((h.out.block _ (lt_of_block HC0.out)).trans HC0.out))
  have HKk := Lib.hid (fun (w w' : World) (h : Hid (Below w0.heap.size w0 w)) (k : Hid (Kept (fun i => i = W.heap.size + 1) w w')) => HK.out w' ((k.out.block _ (Nat.lt_of_lt_of_le (lt_of_block HQ0.out) h.out.size) (by omega)).trans ((h.out.block _ (lt_of_block HQ0.out)).trans HQ0.out)) ((k.out.block _ (Nat.lt_of_lt_of_le (lt_of_block HC0.out) h.out.size) (by omega)).trans ((h.out.block _ (lt_of_block HC0.out)).trans HC0.out)))
  have H117 : Hid (∀ w, Hid (Below w0.heap.size w0 w) → Calls Try.prog 117 #[] w fun e w' => ∃ mb, e = .returned (.map (some mb)) ∧ Hid (GMap w' mb patchersL) ∧ Hid (Below w0.heap.size w0 w')) := Lib.hid (fun w hb => (patchers_any w).mono fun e w' ⟨mb, h1, h2, h3⟩ => ⟨mb, h1, Lib.hid h2, Lib.hid (bt hb.out h3)⟩)
  have H78 : Hid (∀ w, Hid (Below w0.heap.size w0 w) → Calls Try.prog 78 #[.agg #[.int .i64 qk, .int .i64 qt, .int .i64 qc, .int .i64 ql, .int .i64 qh, .int .i64 qy, .int .i64 qo], .agg #[.int .i64 t, .int .i64 k, .bool had, .int .i64 oa, .int .i64 ob, .int .i64 oc, .bool has, .int .i64 na, .int .i64 nb, .int .i64 nc]] w fun e w' => e = .returned (.agg E) ∧ Hid (Below w.heap.size w w') ∧ Hid (Below w0.heap.size w0 w')) := Lib.hid (fun w hb => (HF.out w).mono fun e w' hw => ⟨hw.1, Lib.hid hw.2, Lib.hid (bt hb.out hw.2)⟩)
  have Hg : Hid (∀ w, Hid (Below w0.heap.size w0 w) → Calls Try.prog g #[.pointer (some ⟨W.heap.size + 1, 0, none⟩), .agg E] w fun e w' => ∃ bb, e = .returned (.bool bb) ∧ Hid (bb = RP.isSome) ∧ Hid (∀ r', RP = some r' → ResAt w' (W.heap.size + 1) base r') ∧ Hid (Kept (fun i => i = W.heap.size + 1) w w')) := Lib.hid (fun w hb => (HG.out w (W.heap.size + 1) ⟨_, (hb.out.block _ (lt_of_block HR0.out)).trans HR0.out, HO.out.below (bt HB0.out hb.out)⟩ (by have := HBs.out; have := HB0.out.size; have := hb.out.size; omega)).mono fun e w' ⟨h1, h2, h3⟩ => ⟨_, h1, Lib.hid rfl, Lib.hid h2, Lib.hid h3⟩)
  clear HF HG HK
  go_region_held3 (fun w => w.cell? ⟨W.heap.size, 0, none⟩ = some (.int .i64 qk) ∧ w.cell? ⟨W.heap.size, 1, none⟩ = some (.int .i64 qt) ∧ w.cell? ⟨W.heap.size, 2, none⟩ = some (.int .i64 qc) ∧ w.cell? ⟨W.heap.size, 3, none⟩ = some (.int .i64 ql) ∧ w.cell? ⟨W.heap.size, 4, none⟩ = some (.int .i64 qh) ∧ w.cell? ⟨W.heap.size, 5, none⟩ = some (.int .i64 qy) ∧ w.cell? ⟨W.heap.size, 6, none⟩ = some (.int .i64 qo) ∧ w.cell? ⟨W.heap.size + 1 + 1, 0, none⟩ = some (.int .i64 t) ∧ w.cell? ⟨W.heap.size + 1 + 1, 1, none⟩ = some (.int .i64 k) ∧ w.cell? ⟨W.heap.size + 1 + 1, 2, none⟩ = some (.bool had) ∧ w.cell? ⟨W.heap.size + 1 + 1, 3, none⟩ = some (.int .i64 oa) ∧ w.cell? ⟨W.heap.size + 1 + 1, 4, none⟩ = some (.int .i64 ob) ∧ w.cell? ⟨W.heap.size + 1 + 1, 5, none⟩ = some (.int .i64 oc) ∧ w.cell? ⟨W.heap.size + 1 + 1, 6, none⟩ = some (.bool has) ∧ w.cell? ⟨W.heap.size + 1 + 1, 7, none⟩ = some (.int .i64 na) ∧ w.cell? ⟨W.heap.size + 1 + 1, 8, none⟩ = some (.int .i64 nb) ∧ w.cell? ⟨W.heap.size + 1 + 1, 9, none⟩ = some (.int .i64 nc))
    (first | exact HKb.out _ HBd | exact HKb.out _ HB3 | exact HKb.out _ HB4 | exact HKk.out _ _ HB4 HK5)
    (first
      | (go_at_call 117; (with_reducible refine (H117.out _ HBd).mono ?_); rintro e w3 ⟨mb, rfl, HM, HB3⟩; have l3 := HL.out _ _ HM.out)
      | (go_at_call 78; (with_reducible refine (H78.out _ HB3).mono ?_); rintro e w4 ⟨rfl, HB34, HB4⟩; have l4 := HL.out _ _ (HM.out.below HB34.out))
      | ((with_reducible refine (Hg.out _ HB4).mono ?_); rintro e w5 ⟨bb, rfl, HBB, HPr, HK5⟩))
  all_goals
    have HB5 : Hid (Below W.heap.size W w5) := Lib.hid ((bt HB0.out HB4.out).trans (HK5.out.below (n := W.heap.size) (by have := HB0.out.size; have := HB4.out.size; omega) (fun k e => by omega)))
    have HZ5 : Hid (w5.heap[W.heap.size + 1 + 1 + 1]? = some (.cells #[.slice none 0 0, .int .i64 0, .bool false] 46 (0, 0))) := Lib.hid ((HK5.out.block _ (Nat.lt_of_lt_of_le (lt_of_block HZ0.out) HB4.out.size) (by omega)).trans ((HB4.out.block _ (lt_of_block HZ0.out)).trans HZ0.out))
    have HP5 := HPr
    have HBb := HBB
    clear HL H117 H78 Hg HKb HKk HPr HBB l3 HM HB3 HK5 HB4 HB0
    cases RP with
    | none =>
      obtain rfl : bb = false := HBb.out.trans rfl
      clear HP5 HBb
      go_wp2_with (refine wpList_store_row rfl 46 _ _ rfl (W.heap.size + 1 + 1 + 1) #[.slice none 0 0, .int .i64 0, .bool false] rfl rfl 46 _ HZ5.out (by kernel_rfl) rfl (by simp [Value.oneCell']) ?_)
      generalize hw6 : w5.setRow _ _ = w6
      have HZ6 : Hid (w6.heap[W.heap.size + 1 + 1 + 1]? = some (.cells #[.slice none 0 0, .int .i64 0, .bool false] 46 (0, 0))) := Lib.hid (by rw [← hw6]; exact setRow_heap _ _ _ _ _ _ HZ5.out)
      have HB6 : Hid (Below W.heap.size W w6) := Lib.hid (by rw [← hw6]; exact below_row HB5.out (by omega) _)
      refine bodyPost_ret (v := .tuple #[.agg #[.slice none 0 0, .int .i64 0, .bool false], .bool false]) (by simp [results, Try.results70, go_sem, World.cell?, HZ6.out]) rfl ?_
      exact ⟨_, rfl, OwnR.nil _ _, HB6.out⟩
    | some r' =>
      obtain rfl : bb = true := HBb.out.trans rfl
      obtain ⟨u', hu', hO'⟩ := HP5.out r' rfl
      obtain ⟨ya, yn, yc, rfl⟩ := hO'.form
      have HU5 := Lib.hid hu'
      have HO5 := Lib.hid hO'
      clear HP5 HBb hu' hO'
      obtain ⟨rows', val', fnd'⟩ := r'
      simp only at HU5 HO5
      go_wp2_with (first
        | refine wpList_load_row rfl 46 _ rfl (W.heap.size + 1) rfl 46 #[.slice ya yn yc, .int .i64 val', .bool fnd'] _ _ HU5.out Try.underlying46 rfl (by kernel_rfl) ?_
        | refine wpList_store_row rfl 46 _ _ rfl (W.heap.size + 1 + 1 + 1) #[.slice ya yn yc, .int .i64 val', .bool fnd'] rfl rfl 46 _ HZ5.out (by kernel_rfl) rfl (by simp [Value.oneCell']) ?_)
      generalize hw6 : w5.setRow _ _ = w6
      have HZ6 : Hid (w6.heap[W.heap.size + 1 + 1 + 1]? = some (.cells #[.slice ya yn yc, .int .i64 val', .bool fnd'] 46 (0, 0))) := Lib.hid (by rw [← hw6]; exact setRow_heap _ _ _ _ _ _ HZ5.out)
      have HB6 : Hid (Below W.heap.size W w6) := Lib.hid (by rw [← hw6]; exact below_row HB5.out (by omega) _)
      have HO6 : Hid (OwnR w6 base (.slice ya yn yc) rows') := Lib.hid (by
        rw [← hw6]
        exact HO5.out.kept' (F := fun k => k = W.heap.size + 1 + 1 + 1) (kept_row (F := fun k => k = W.heap.size + 1 + 1 + 1) (Kept.of_below (Below.refl _ _)) (.inl rfl) _) (fun i hi e => own_ne HO5.out HZ5.out (by decide) i hi e))
      refine bodyPost_ret (v := .tuple #[.agg #[.slice ya yn yc, .int .i64 val', .bool fnd'], .bool true]) (by simp [results, Try.results70, go_sem, World.cell?, HZ6.out]) rfl ?_
      exact ⟨_, rfl, HO6.out, HB6.out⟩
end Go.Proofs.Ytgbnjjgnihjfgaa
end

section
set_option linter.unusedVariables false
set_option linter.unusedSimpArgs false
namespace Go.Proofs.Ytgbnjjgnihjfgaa
open Go.RowKit Go.Sort Go.ChangeMaps Go.MapKept

set_option maxRecDepth 100000 in
set_option maxHeartbeats 4000000 in
theorem patchJoin_same {q : MQ} {c : MCh} {rb base : Nat} {W : World} (he : q.table = q.other) : Calls Try.prog 160 #[ptr rb, .agg (effC q c)] W (PatchOut W rb base none) := by
  have HE : Hid (EffAt (W.alloc (.cells (effC q c) 132)) W.heap.size q c) := Lib.hid (EffAt.new W q c)
  have HB : Hid (Below W.heap.size W (W.alloc (.cells (effC q c) 132))) := Lib.hid (ba W _)
  unfold EffAt at HE
  have HA : Hid ((effC q c)[1]? = some (.int .i64 q.table) ∧ (effC q c)[6]? = some (.int .i64 q.other)) := Lib.hid ⟨rfl, rfl⟩
  generalize q.table = qt at *
  generalize q.other = qo at *
  generalize effC q c = E at *
  have d1 : (qt == qo) = true := by simp [he]
  clear he
  unfold ptr
  go_enter Try.func160, Try.ntmps160
  go_upto_region 1 with fail
  generalize W.alloc (.cells E 132) = w0 at *
  have c1 : w0.cell? ⟨W.heap.size, 1, none⟩ = some (.int .i64 qt) := by simp [World.cell?, HE.out, HA.out]
  have c6 : w0.cell? ⟨W.heap.size, 6, none⟩ = some (.int .i64 qo) := by simp [World.cell?, HE.out, HA.out]
  go_wp2_with fail
  go_ret
  exact ⟨rfl, fun r' h => (by cases h), Kept.of_below HB.out⟩
/-- **patch, of whatever kind.** -/
theorem patch_any {q : MQ} {c : MCh} {r : MRes} {u : Value} {W : World} {base : Nat} (hv : validB q = true) (hO : OwnR W base u r.rows) (hb : base ≤ W.heap.size) (hl : r.rows.length ≤ 39999) : Calls Try.prog 70 #[qV q, .agg (resC u r.val r.fnd), chV c] W (PatchRes W base (patchM q r c)) := by
  have hk := valid_ok hv
  have hq : I64 q.column := hk.1.2.2.1
  have hlk : ∀ (k : Int) (v : Value), q.kind = k → lookG patchersL k = some v → lookG patchersL q.kind = some v := fun k v h h' => by rw [h]; exact h'
  unfold patchM
  obtain h | h | h | h | h | h | h : q.kind = 1 ∨ q.kind = 2 ∨ q.kind = 3 ∨ q.kind = 4 ∨ q.kind = 5 ∨ q.kind = 6 ∨ q.kind = 7 := by have := hk.2; omega
  · rw [if_pos (by omega)]
    exact patch_at hv hO hb (enters_of Try.func153 (by kernel_rfl) rfl) (hlk _ _ h rfl) (fun w rb hR hb' => patchRows_any hR hl hb' hq)
  · rw [if_pos (by omega)]
    exact patch_at hv hO hb (enters_of Try.func153 (by kernel_rfl) rfl) (hlk _ _ h rfl) (fun w rb hR hb' => patchRows_any hR hl hb' hq)
  · rw [if_neg (by omega), if_pos (by omega)]
    exact patch_at hv hO hb (enters_of Try.func154 (by kernel_rfl) rfl) (hlk _ _ h rfl) (fun w rb hR hb' => patchCount_any hR)
  · rw [if_neg (by omega), if_neg (by omega), if_pos (by omega)]
    exact patch_at hv hO hb (enters_of Try.func155 (by kernel_rfl) rfl) (hlk _ _ h rfl) (fun w rb hR hb' => patchSum_any hR)
  · rw [if_neg (by omega), if_neg (by omega), if_neg (by omega), if_pos (by omega)]
    exact patch_at hv hO hb (enters_of Try.func156 (by kernel_rfl) rfl) (hlk _ _ h rfl) (fun w rb hR hb' => patchMin_any hR)
  · rw [if_neg (by omega), if_neg (by omega), if_neg (by omega), if_neg (by omega), if_pos (by omega)]
    exact patch_at hv hO hb (enters_of Try.func158 (by kernel_rfl) rfl) (hlk _ _ h rfl) (fun w rb hR hb' => patchMax_any hR)
  · rw [if_neg (by omega), if_neg (by omega), if_neg (by omega), if_neg (by omega), if_neg (by omega)]
    by_cases he : q.table = q.other
    · rw [if_pos he]
      exact patch_at hv hO hb (enters_of Try.func160 (by kernel_rfl) rfl) (hlk _ _ h rfl) (fun w rb hR hb' => patchJoin_same he)
    · rw [if_neg he]
      by_cases hc : c.t = q.other
      · rw [if_pos hc]
        exact patch_at hv hO hb (enters_of Try.func160 (by kernel_rfl) rfl) (hlk _ _ h rfl) (fun w rb hR hb' => patchJoin_right hR hb' hq hl he hc)
      · rw [if_neg hc]
        exact patch_at hv hO hb (enters_of Try.func160 (by kernel_rfl) rfl) (hlk _ _ h rfl) (fun w rb hR hb' => patchJoin_left hR hb' hq hl he hc)
/-- What Patch makes of a result. -/
def patchF (q : MQ) (r : MRes) (c : MCh) : Option MRes := if touchB q c then patchM q r c else some r
theorem touch_valid {q : MQ} {c : MCh} (h : touchB q c = true) : validB q = true := by
  unfold touchB at h
  cases hv : validB q
  · rw [hv] at h
    simp at h
  · rfl
set_option maxRecDepth 100000 in
set_option maxHeartbeats 8000000 in
/-- **Patch.** -/
theorem Patch_any {q : MQ} {c : MCh} {r : MRes} {u : Value} {W : World} (hR : RowS W u r.rows) (hl : r.rows.length ≤ 39999) : Calls Try.prog 25 #[qV q, .agg (resC u r.val r.fnd), chV c] W (PatchRes W W.heap.size (patchF q r c)) := by
  have HT := Lib.hid (fun w => touches_any q c w)
  have HP := Lib.hid (fun (ht : touchB q c = true) (w : World) (base : Nat) (v : Value) (h : OwnR w base v r.rows) (h2 : base ≤ w.heap.size) => patch_any (c := c) (touch_valid ht) h h2 hl)
  have HL : Hid (r.rows.length ≤ 39999) := Lib.hid hl
  have HR := Lib.hid hR
  have HPF : Hid (patchF q r c = if touchB q c then patchM q r c else some r) := Lib.hid rfl
  obtain ⟨RF, HRF⟩ : ∃ RF, Hid (patchF q r c = RF) := ⟨_, Lib.hid rfl⟩
  rw [HRF.out] at HPF ⊢
  obtain ⟨RM, HRM⟩ : ∃ RM, Hid (patchM q r c = RM) := ⟨_, Lib.hid rfl⟩
  rw [HRM.out] at HPF HP
  obtain ⟨tb, HTB⟩ : ∃ tb, Hid (touchB q c = tb) := ⟨_, Lib.hid rfl⟩
  rw [HTB.out] at HPF HP HT
  obtain ⟨ua, un, uc, rfl, -⟩ := id hR
  clear hR hl HRF HRM HTB
  obtain ⟨rows, val, fnd⟩ := r
  simp only at HL HR HP
  obtain ⟨t, k, had, ⟨oa, ob, oc⟩, has, ⟨na, nb, nc⟩⟩ := c
  obtain ⟨qk, qt, qc, ql, qh, qy, qo⟩ := q
  unfold qV chV at *
  simp only at *
  go_enter Try.func25, Try.ntmps25
  go_upto_region 1 with fail
  obtain ⟨w0, Hw0⟩ : ∃ w0, Hid ((((W.alloc (.cells #[.int .i64 qk, .int .i64 qt, .int .i64 qc, .int .i64 ql, .int .i64 qh, .int .i64 qy, .int .i64 qo] 29)).alloc (.cells #[.slice ua un uc, .int .i64 val, .bool fnd] 46)).alloc (.cells #[.int .i64 t, .int .i64 k, .bool had, .int .i64 oa, .int .i64 ob, .int .i64 oc, .bool has, .int .i64 na, .int .i64 nb, .int .i64 nc] 35)).alloc (.cells #[.slice none 0 0, .int .i64 0, .bool false] 46) = w0) := ⟨_, Lib.hid rfl⟩
  obtain ⟨hB0, hQ0, hR0, hC0, hZ0⟩ := four W (.cells #[.int .i64 qk, .int .i64 qt, .int .i64 qc, .int .i64 ql, .int .i64 qh, .int .i64 qy, .int .i64 qo] 29) (.cells #[.slice ua un uc, .int .i64 val, .bool fnd] 46) (.cells #[.int .i64 t, .int .i64 k, .bool had, .int .i64 oa, .int .i64 ob, .int .i64 oc, .bool has, .int .i64 na, .int .i64 nb, .int .i64 nc] 35) (.cells #[.slice none 0 0, .int .i64 0, .bool false] 46)
  rw [Hw0.out] at hB0 hQ0 hR0 hC0 hZ0 ⊢
  clear Hw0
  have HB0 := Lib.hid hB0
  have HQ0 := Lib.hid hQ0
  have HR0 := Lib.hid hR0
  have HC0 := Lib.hid hC0
  have HZ0 := Lib.hid hZ0
  have HCl := Lib.hid (clone_rows (HR.out.below hB0) (by have := HL.out; omega))
  clear hB0 hQ0 hR0 hC0 hZ0
  have r0 : w0.cell? ⟨W.heap.size + 1, 0, none⟩ = some (.slice ua un uc) := by simp [World.cell?, HR0.out]
  go_wp2_with fail
  (with_reducible refine HCl.out.mono ?_)
  rintro e w1 ⟨v1, rfl, hO1, hb1⟩
  obtain ⟨va, vn, vcap, rfl⟩ := hO1.form
  have HQ1 := Lib.hid ((hb1.block _ (lt_of_block HQ0.out)).trans HQ0.out)
  have HR1 := Lib.hid ((hb1.block _ (lt_of_block HR0.out)).trans HR0.out)
  have HC1 := Lib.hid ((hb1.block _ (lt_of_block HC0.out)).trans HC0.out)
  have HZ1 := Lib.hid ((hb1.block _ (lt_of_block HZ0.out)).trans HZ0.out)
  have HB1 := Lib.hid (bt HB0.out hb1)
  have HO1 := Lib.hid hO1
  have hz0 : W.heap.size ≤ w0.heap.size := HB0.out.size
  have hz1 : w0.heap.size ≤ w1.heap.size := hb1.size
  clear hO1 hb1 r0 HCl HR HQ0 HR0 HC0 HZ0
  have r0 : w1.cell? ⟨W.heap.size + 1, 0, none⟩ = some (.slice ua un uc) := by simp [World.cell?, HR1.out]
  have rf : w1.frozen? ⟨W.heap.size + 1, 0, none⟩ = false := by simp [World.frozen?, HR1.out]
  go_upto_region 2 with fail
  generalize hw2 : w1.setCell ⟨W.heap.size + 1, 0, none⟩ (.slice va vn vcap) = w2
  have HQ2 : Hid (w2.heap[W.heap.size]? = some (.cells #[.int .i64 qk, .int .i64 qt, .int .i64 qc, .int .i64 ql, .int .i64 qh, .int .i64 qy, .int .i64 qo] 29 (0, 0))) := Lib.hid (by rw [← hw2, Below.heap_setCell _ _ _ _ (by show ¬ W.heap.size = W.heap.size + 1; omega)]; exact HQ1.out)
  have HC2 : Hid (w2.heap[W.heap.size + 1 + 1]? = some (.cells #[.int .i64 t, .int .i64 k, .bool had, .int .i64 oa, .int .i64 ob, .int .i64 oc, .bool has, .int .i64 na, .int .i64 nb, .int .i64 nc] 35 (0, 0))) := Lib.hid (by rw [← hw2, Below.heap_setCell _ _ _ _ (by show ¬ W.heap.size + 1 + 1 = W.heap.size + 1; omega)]; exact HC1.out)
  have HZ2 : Hid (w2.heap[W.heap.size + 1 + 1 + 1]? = some (.cells #[.slice none 0 0, .int .i64 0, .bool false] 46 (0, 0))) := Lib.hid (by rw [← hw2, Below.heap_setCell _ _ _ _ (by show ¬ W.heap.size + 1 + 1 + 1 = W.heap.size + 1; omega)]; exact HZ1.out)
  have HR2 : Hid (w2.heap[W.heap.size + 1]? = some (.cells #[.slice va vn vcap, .int .i64 val, .bool fnd] 46 (0, 0))) := Lib.hid (by rw [← hw2]; exact setC_heap HR1.out 0 _)
  have HO2 : Hid (OwnR w2 w0.heap.size (.slice va vn vcap) rows) := Lib.hid (by rw [← hw2]; exact own_setc HO1.out HR1.out)
  have HB2 : Hid (Below W.heap.size W w2) := Lib.hid (by
    have h := (Kept.setCell (F := fun i => i = W.heap.size + 1) (p := ⟨W.heap.size + 1, 0, none⟩) (Kept.of_below HB1.out) (.inl rfl) (.slice va vn vcap)).below (Nat.le_refl _) (fun k e => by omega)
    rw [hw2] at h
    exact h)
  have hz2 : w0.heap.size ≤ w2.heap.size := by
    rw [← hw2]
    simpa using hz1
  clear hw2 r0 rf HQ1 HR1 HC1 HZ1 HB1 HO1 hz1
  have HT2 := Lib.hid (HT.out w2)
  clear HT
  go_wp2_with (first
    | refine wpList_load_row rfl 29 _ rfl W.heap.size rfl 29 _ _ _ HQ2.out Try.underlying29 rfl (by kernel_rfl) ?_
    | refine wpList_load_row rfl 35 _ rfl (W.heap.size + 1 + 1) rfl 35 _ _ _ HC2.out Try.underlying35 rfl (by kernel_rfl) ?_)
  (with_reducible refine HT2.out.mono ?_)
  rintro e w3 ⟨rfl, hb3⟩
  have HQ3 := Lib.hid ((hb3.block _ (lt_of_block HQ2.out)).trans HQ2.out)
  have HR3 := Lib.hid ((hb3.block _ (lt_of_block HR2.out)).trans HR2.out)
  have HC3 := Lib.hid ((hb3.block _ (lt_of_block HC2.out)).trans HC2.out)
  have HZ3 := Lib.hid ((hb3.block _ (lt_of_block HZ2.out)).trans HZ2.out)
  have HB3 := Lib.hid (bt HB2.out hb3)
  have HO3 := Lib.hid (HO2.out.below hb3)
  have hz3 : w0.heap.size ≤ w3.heap.size := Nat.le_trans hz2 hb3.size
  clear hb3 HT2 HQ2 HR2 HC2 HZ2 HB2 HO2 hz2
  cases tb
  · have HPG : Hid (RF = some ⟨rows, val, fnd⟩) := Lib.hid (by have h := HPF.out; simpa using h)
    clear HPF HP
    go_wp2_with (first
      | refine wpList_load_row rfl 46 _ rfl (W.heap.size + 1) rfl 46 #[.slice va vn vcap, .int .i64 val, .bool fnd] _ _ HR3.out Try.underlying46 rfl (by kernel_rfl) ?_
      | refine wpList_store_row rfl 46 _ _ rfl (W.heap.size + 1 + 1 + 1) #[.slice va vn vcap, .int .i64 val, .bool fnd] rfl rfl 46 _ HZ3.out (by kernel_rfl) rfl (by simp [Value.oneCell']) ?_)
    generalize hw6 : w3.setRow _ _ = w6
    have HZ6 : Hid (w6.heap[W.heap.size + 1 + 1 + 1]? = some (.cells #[.slice va vn vcap, .int .i64 val, .bool fnd] 46 (0, 0))) := Lib.hid (by rw [← hw6]; exact setRow_heap _ _ _ _ _ _ HZ3.out)
    have HB6 : Hid (Below W.heap.size W w6) := Lib.hid (by rw [← hw6]; exact below_row HB3.out (by omega) _)
    have HO6 : Hid (OwnR w6 W.heap.size (.slice va vn vcap) rows) := Lib.hid (by
      rw [← hw6]
      exact (HO3.out.mono (by omega)).kept' (F := fun k => k = W.heap.size + 1 + 1 + 1) (kept_row (F := fun k => k = W.heap.size + 1 + 1 + 1) (Kept.of_below (Below.refl _ _)) (.inl rfl) _) (fun i hi e => own_ne HO3.out HZ3.out (by decide) i hi e))
    refine bodyPost_ret (v := .tuple #[.agg #[.slice va vn vcap, .int .i64 val, .bool fnd], .bool true]) (by simp [results, Try.results25, go_sem, World.cell?, HZ6.out]) rfl ?_
    rw [HPG.out]
    exact ⟨_, rfl, HO6.out, HB6.out⟩
  · have HPG : Hid (RF = RM) := Lib.hid (by have h := HPF.out; simpa using h)
    have HP3 := Lib.hid (HP.out rfl w3 _ _ HO3.out hz3)
    clear HPF HP
    go_wp2_with (first
      | refine wpList_load_row rfl 29 _ rfl W.heap.size rfl 29 _ _ _ HQ3.out Try.underlying29 rfl (by kernel_rfl) ?_
      | refine wpList_load_row rfl 46 _ rfl (W.heap.size + 1) rfl 46 _ _ _ HR3.out Try.underlying46 rfl (by kernel_rfl) ?_
      | refine wpList_load_row rfl 35 _ rfl (W.heap.size + 1 + 1) rfl 35 _ _ _ HC3.out Try.underlying35 rfl (by kernel_rfl) ?_)
    (with_reducible refine HP3.out.mono ?_)
    rintro e w4 ⟨u4, rfl, hO4, hb4⟩
    have HZ4 := Lib.hid ((hb4.block _ (lt_of_block HZ3.out)).trans HZ3.out)
    have HB4 := Lib.hid (bt HB3.out hb4)
    obtain ⟨ya, yn, yc, rfl⟩ := hO4.form
    have HO4 := Lib.hid hO4
    obtain ⟨⟨rows', val', fnd'⟩, HRd⟩ : ∃ x, Hid (RM.getD resZ = x) := ⟨_, Lib.hid rfl⟩
    have hv : (RM.getD resZ).val = val' := by rw [HRd.out]
    have hf : (RM.getD resZ).fnd = fnd' := by rw [HRd.out]
    rw [HRd.out] at HO4
    simp only [hv, hf] at HO4 ⊢
    obtain ⟨bb, HBB⟩ : ∃ bb, Hid (RM.isSome = bb) := ⟨_, Lib.hid rfl⟩
    rw [HBB.out]
    clear hb4 hO4 HP3 hv hf
    go_wp2_with (refine wpList_store_row rfl 46 _ _ rfl (W.heap.size + 1 + 1 + 1) #[.slice ya yn yc, .int .i64 val', .bool fnd'] rfl rfl 46 _ HZ4.out (by kernel_rfl) rfl (by simp [Value.oneCell']) ?_)
    generalize hw6 : w4.setRow _ _ = w6
    have HZ6 : Hid (w6.heap[W.heap.size + 1 + 1 + 1]? = some (.cells #[.slice ya yn yc, .int .i64 val', .bool fnd'] 46 (0, 0))) := Lib.hid (by rw [← hw6]; exact setRow_heap _ _ _ _ _ _ HZ4.out)
    have HB6 : Hid (Below W.heap.size W w6) := Lib.hid (by rw [← hw6]; exact below_row HB4.out (by omega) _)
    have HO6 : Hid (OwnR w6 W.heap.size (.slice ya yn yc) rows') := Lib.hid (by
      rw [← hw6]
      exact (HO4.out.mono (by omega)).kept' (F := fun k => k = W.heap.size + 1 + 1 + 1) (kept_row (F := fun k => k = W.heap.size + 1 + 1 + 1) (Kept.of_below (Below.refl _ _)) (.inl rfl) _) (fun i hi e => own_ne HO4.out HZ4.out (by decide) i hi e))
    refine bodyPost_ret (v := .tuple #[.agg #[.slice ya yn yc, .int .i64 val', .bool fnd'], .bool bb]) (by simp [results, Try.results25, go_sem, World.cell?, HZ6.out]) rfl ?_
    rw [HPG.out]
    exact ⟨_, by rw [HRd.out, HBB.out], by rw [HRd.out]; exact HO6.out, HB6.out⟩
end Go.Proofs.Ytgbnjjgnihjfgaa
end

section
set_option linter.unusedVariables false
set_option linter.unusedSimpArgs false
namespace Go.Proofs.Ytgbnjjgnihjfgaa
open Go.RowKit Go.Sort Go.ChangeMaps Go.MapKept

theorem prs_half : ∀ l : List MRow, 2 * (prs l).length ≤ l.length
  | [] => by simp [prs]
  | [x] => by simp [prs]
  | x :: y :: l => by
    have := prs_half l
    simp only [prs, List.length_cons]
    omega
theorem rowsP_len (q : MQ) (l : List MRow) (c : MCh) : (rowsP q l c).length ≤ l.length + 1 := by
  have hf : ∀ p : MRow → Bool, (l.filter p).length ≤ l.length := fun p => List.length_filter_le p l
  unfold rowsP
  split
  · rw [(ins_perm _ _ _).length_eq, List.length_cons]
    exact Nat.succ_le_succ (hf _)
  · exact Nat.le_trans (hf _) (by omega)
theorem leftP_len {q : MQ} {ps s : List PR} {c : MCh} (hp : leftP q ps c = some s) : s.length ≤ ps.length + 1 := by
  unfold leftP at hp
  have hf : ∀ p : PR → Bool, (ps.filter p).length ≤ ps.length := fun p => List.length_filter_le p ps
  split at hp
  · cases hp
    exact Nat.le_trans (hf _) (by omega)
  · split at hp
    · split at hp
      · cases hp
        exact Nat.le_trans (hf _) (by omega)
      · cases hp
    · cases hp
      refine Nat.le_trans (Nat.le_of_eq (ins_perm _ _ _).length_eq) ?_
      rw [List.length_cons]
      exact Nat.succ_le_succ (hf _)
theorem rightP_len {ps s : List PR} {c : MCh} (hp : rightP ps c = some s) : s.length ≤ ps.length := by
  unfold rightP at hp
  have hf : ∀ p : PR → Bool, (ps.filter p).length ≤ ps.length := fun p => List.length_filter_le p ps
  split at hp
  · cases hp
  · split at hp
    · cases hp
      exact hf _
    · cases hp
      rw [List.length_map]
      exact Nat.le_refl _
theorem patchM_len {q : MQ} {r r' : MRes} {c : MCh} (h : patchM q r c = some r') : r'.rows.length ≤ r.rows.length + 2 := by
  unfold patchM at h
  have hr := rowsP_len q r.rows c
  have hh := prs_half r.rows
  split at h
  · cases h
    simp only
    omega
  · split at h
    · cases h
      simp only
      omega
    · split at h
      · cases h
        simp only
        omega
      · split at h
        · obtain ⟨s, _, rfl⟩ := Option.map_eq_some_iff.1 h
          simp only
          omega
        · split at h
          · obtain ⟨s, _, rfl⟩ := Option.map_eq_some_iff.1 h
            simp only
            omega
          · split at h
            · cases h
            · obtain ⟨s, hs, rfl⟩ := Option.map_eq_some_iff.1 h
              simp only
              rw [unprs_len]
              split at hs
              · have := rightP_len hs
                omega
              · have := leftP_len hs
                omega
/-- What Apply returns. -/
def AppRes (W : World) (s : Option MRes × Bool) (e : Ending) (w' : World) : Prop := ∃ u, e = .returned (.tuple #[.agg (resC u (s.1.getD resZ).val (s.1.getD resZ).fnd), .bool s.2, .bool s.1.isSome]) ∧ OwnR w' W.heap.size u (s.1.getD resZ).rows ∧ Below W.heap.size W w'
theorem fold_none (q : MQ) (l : List MCh) (t : Bool) : l.foldl (applyF q) (none, t) = (none, t) := applyF_none q t l
theorem fold_at {q : MQ} {cs : List MCh} {s : Option MRes × Bool} {k : Nat} (hk : k < cs.length) : (cs.take (k + 1)).foldl (applyF q) s = applyF q ((cs.take k).foldl (applyF q) s) (cs.getD k chZ) := by
  rw [take_snoc' (d := chZ) hk, List.foldl_append]
  rfl
theorem fold_end {q : MQ} {cs : List MCh} {s : Option MRes × Bool} {k : Nat} {t : Bool} (h : (cs.take k).foldl (applyF q) s = (none, t)) : cs.foldl (applyF q) s = (none, t) := by
  conv => lhs; rw [← List.take_append_drop k cs]
  rw [List.foldl_append, h, fold_none]
set_option maxRecDepth 100000 in
set_option maxHeartbeats 8000000 in
/-- **Apply.** -/
theorem Apply_any {q : MQ} {cs : List MCh} {r : MRes} {u cv : Value} {pos : Int} {W : World} (hR : RowS W u r.rows) (hl : r.rows.length + 2 * cs.length ≤ 39999) (hC : ChS W cv cs) : Calls Try.prog 32 #[qV q, .agg (resC u r.val r.fnd), .agg #[.int .i64 pos, cv]] W (AppRes W (applyM q r cs)) := by
  have HT := Lib.hid (fun c w => touches_any q c w)
  have HP := Lib.hid (fun (c : MCh) (r : MRes) (ht : touchB q c = true) (w : World) (base : Nat) (v : Value) (h : OwnR w base v r.rows) (h2 : base ≤ w.heap.size) (hl : r.rows.length ≤ 39999) => patch_any (c := c) (touch_valid ht) h h2 hl)
  have HL : Hid (r.rows.length + 2 * cs.length ≤ 39999) := Lib.hid hl
  have HR := Lib.hid hR
  have HCs := Lib.hid hC
  obtain ⟨SF, HSF⟩ : ∃ SF, Hid (applyM q r cs = SF) := ⟨_, Lib.hid rfl⟩
  have HFo : Hid (cs.foldl (applyF q) (some r, false) = SF) := Lib.hid HSF.out
  rw [HSF.out]
  obtain ⟨ua, un, uc, rfl, -⟩ := id hR
  obtain ⟨ca, n, ccap, rfl, hn, hc1, hc2, -⟩ := id hC
  have HN : Hid (n = cs.length) := Lib.hid hn
  have hnl : n ≤ 39999 := by omega
  clear hR hl hC HSF hn hc2
  obtain ⟨rows, val, fnd⟩ := r
  simp only at HL HR
  obtain ⟨FA, HFA⟩ : ∃ FA, Hid (applyF q = FA) := ⟨_, Lib.hid rfl⟩
  have HF1 : Hid (∀ r t c, touchB q c = false → FA (some r, t) c = (some r, t)) := Lib.hid (fun r t c h => by rw [← HFA.out]; simp [applyF, h])
  have HF2 : Hid (∀ r t c, touchB q c = true → FA (some r, t) c = (patchM q r c, true)) := Lib.hid (fun r t c h => by rw [← HFA.out]; simp [applyF, h])
  have HFe := Lib.hid (fun (k : Nat) (t : Bool) (h : (cs.take k).foldl FA (some ⟨rows, val, fnd⟩, false) = (none, t)) => (by rw [← HFo.out, HFA.out]; rw [← HFA.out] at h ⊢; exact fold_end h : SF = (none, t)))
  have HFs := Lib.hid (fun (k : Nat) (hk : k < cs.length) => (by rw [← HFA.out]; exact fold_at hk : (cs.take (k + 1)).foldl FA (some ⟨rows, val, fnd⟩, false) = FA ((cs.take k).foldl FA (some ⟨rows, val, fnd⟩, false)) (cs.getD k chZ)))
  rw [HFA.out] at HFo
  clear HFA
  obtain ⟨TB, HTB⟩ : ∃ TB, Hid (touchB q = TB) := ⟨_, Lib.hid rfl⟩
  obtain ⟨PM, HPM⟩ : ∃ PM, Hid (patchM q = PM) := ⟨_, Lib.hid rfl⟩
  have HPl : Hid (∀ r r' c, PM r c = some r' → r'.rows.length ≤ r.rows.length + 2) := Lib.hid (fun r r' c h => by rw [← HPM.out] at h; exact patchM_len h)
  rw [HTB.out] at HT HP HF1 HF2
  rw [HPM.out] at HP HF2
  clear HTB HPM
  obtain ⟨qk, qt, qc, ql, qh, qy, qo⟩ := q
  unfold qV at *
  simp only at HT HP
  go_enter Try.func32, Try.ntmps32
  go_upto_region 1 with fail
  obtain ⟨w0, Hw0⟩ : ∃ w0, Hid ((((W.alloc (.cells #[.int .i64 qk, .int .i64 qt, .int .i64 qc, .int .i64 ql, .int .i64 qh, .int .i64 qy, .int .i64 qo] 29)).alloc (.cells #[.slice ua un uc, .int .i64 val, .bool fnd] 46)).alloc (.cells #[.int .i64 pos, .slice ca n ccap] 38)).alloc (.cells #[.slice none 0 0, .int .i64 0, .bool false] 46) = w0) := ⟨_, Lib.hid rfl⟩
  obtain ⟨hB0, hQ0, hR0, hC0, hZ0⟩ := four W (.cells #[.int .i64 qk, .int .i64 qt, .int .i64 qc, .int .i64 ql, .int .i64 qh, .int .i64 qy, .int .i64 qo] 29) (.cells #[.slice ua un uc, .int .i64 val, .bool fnd] 46) (.cells #[.int .i64 pos, .slice ca n ccap] 38) (.cells #[.slice none 0 0, .int .i64 0, .bool false] 46)
  rw [Hw0.out] at hB0 hQ0 hR0 hC0 hZ0 ⊢
  clear Hw0
  have HB0 := Lib.hid hB0
  have HQ0 := Lib.hid hQ0
  have HR0 := Lib.hid hR0
  have HC0 := Lib.hid hC0
  have HZ0 := Lib.hid hZ0
  have HCl := Lib.hid (clone_rows (HR.out.below hB0) (by have := HL.out; omega))
  clear hB0 hQ0 hR0 hC0 hZ0
  have r0 : w0.cell? ⟨W.heap.size + 1, 0, none⟩ = some (.slice ua un uc) := by simp [World.cell?, HR0.out]
  go_wp2_with fail
  (with_reducible refine HCl.out.mono ?_)
  rintro e w1 ⟨v1, rfl, hO1, hb1⟩
  obtain ⟨va, vn, vcap, rfl⟩ := hO1.form
  have HQ1 := Lib.hid ((hb1.block _ (lt_of_block HQ0.out)).trans HQ0.out)
  have HR1 := Lib.hid ((hb1.block _ (lt_of_block HR0.out)).trans HR0.out)
  have HC1 := Lib.hid ((hb1.block _ (lt_of_block HC0.out)).trans HC0.out)
  have HZ1 := Lib.hid ((hb1.block _ (lt_of_block HZ0.out)).trans HZ0.out)
  have HB1 := Lib.hid (bt HB0.out hb1)
  have HO1 := Lib.hid hO1
  have hz0 : W.heap.size ≤ w0.heap.size := HB0.out.size
  have hz1 : w0.heap.size ≤ w1.heap.size := hb1.size
  clear hO1 hb1 r0 HCl HR HQ0 HR0 HC0 HZ0
  have r0 : w1.cell? ⟨W.heap.size + 1, 0, none⟩ = some (.slice ua un uc) := by simp [World.cell?, HR1.out]
  have rf : w1.frozen? ⟨W.heap.size + 1, 0, none⟩ = false := by simp [World.frozen?, HR1.out]
  go_upto_region 2 with fail
  generalize hw2 : w1.setCell ⟨W.heap.size + 1, 0, none⟩ (.slice va vn vcap) = w2
  have HQ2 : Hid (w2.heap[W.heap.size]? = some (.cells #[.int .i64 qk, .int .i64 qt, .int .i64 qc, .int .i64 ql, .int .i64 qh, .int .i64 qy, .int .i64 qo] 29 (0, 0))) := Lib.hid (by rw [← hw2, Below.heap_setCell _ _ _ _ (by show ¬ W.heap.size = W.heap.size + 1; omega)]; exact HQ1.out)
  have HC2 : Hid (w2.heap[W.heap.size + 1 + 1]? = some (.cells #[.int .i64 pos, .slice ca n ccap] 38 (0, 0))) := Lib.hid (by rw [← hw2, Below.heap_setCell _ _ _ _ (by show ¬ W.heap.size + 1 + 1 = W.heap.size + 1; omega)]; exact HC1.out)
  have HZ2 : Hid (w2.heap[W.heap.size + 1 + 1 + 1]? = some (.cells #[.slice none 0 0, .int .i64 0, .bool false] 46 (0, 0))) := Lib.hid (by rw [← hw2, Below.heap_setCell _ _ _ _ (by show ¬ W.heap.size + 1 + 1 + 1 = W.heap.size + 1; omega)]; exact HZ1.out)
  have HR2 : Hid (w2.heap[W.heap.size + 1]? = some (.cells #[.slice va vn vcap, .int .i64 val, .bool fnd] 46 (0, 0))) := Lib.hid (by rw [← hw2]; exact setC_heap HR1.out 0 _)
  have HO2 : Hid (OwnR w2 w0.heap.size (.slice va vn vcap) rows) := Lib.hid (by rw [← hw2]; exact own_setc HO1.out HR1.out)
  have HB2 : Hid (Below W.heap.size W w2) := Lib.hid (by
    have h := (Kept.setCell (F := fun i => i = W.heap.size + 1) (p := ⟨W.heap.size + 1, 0, none⟩) (Kept.of_below HB1.out) (.inl rfl) (.slice va vn vcap)).below (Nat.le_refl _) (fun k e => by omega)
    rw [hw2] at h
    exact h)
  have HZz2 : Hid (w0.heap.size ≤ w2.heap.size) := Lib.hid (by
    rw [← hw2]
    simpa using hz1)
  clear hw2 r0 rf HQ1 HR1 HC1 HZ1 HB1 HO1 hz1
  have c1 : w2.cell? ⟨W.heap.size + 1 + 1, 1, none⟩ = some (.slice ca n ccap) := by simp [World.cell?, HC2.out]
  go_wp2_with fail
  go_loopw [9, 20] (fun tv i wr => ∃ (k : Nat) (tb : Bool) (r : MRes) (u : Value), k ≤ n ∧ i = .int .i64 k ∧ tv = .bool tb ∧ Hid ((cs.take k).foldl FA (some ⟨rows, val, fnd⟩, false) = (some r, tb)) ∧ Hid (wr.heap[W.heap.size + 1]? = some (.cells #[u, .int .i64 r.val, .bool r.fnd] 46 (0, 0))) ∧ Hid (OwnR wr w0.heap.size u r.rows ∧ w0.heap.size ≤ wr.heap.size ∧ r.rows.length ≤ rows.length + 2 * k) ∧ Hid (Below W.heap.size W wr) ∧ Hid (wr.heap[W.heap.size]? = some (.cells #[.int .i64 qk, .int .i64 qt, .int .i64 qc, .int .i64 ql, .int .i64 qh, .int .i64 qy, .int .i64 qo] 29 (0, 0))) ∧ Hid (wr.heap[W.heap.size + 1 + 1 + 1]? = some (.cells #[.slice none 0 0, .int .i64 0, .bool false] 46 (0, 0)))) (fun tv i _ => n - (intOf i).toNat)
  case atStart => exact ⟨0, false, ⟨rows, val, fnd⟩, _, by omega, rfl, rfl, Lib.hid rfl, HR2, Lib.hid ⟨HO2.out, HZz2.out, by simp⟩, HB2, HQ2, HZ2⟩
  case round =>
    obtain ⟨k, tb, ⟨rws, rv, rfo⟩, u, hk, rfl, rfl, HS, HRr, HO, HB, HQr, HZr⟩ := hrel
    simp only at HRr HO
    obtain ⟨xa, xn, xc, rfl⟩ := HO.out.1.form
    have HOr := Lib.hid HO.out.1
    have HZr2 := Lib.hid HO.out.2
    by_cases hlt : k < n
    · obtain ⟨_, n', _, e1, -, -, -, hcell⟩ := HCs.out.below HB.out
      simp at e1
      obtain ⟨rfl, hnn, rfl⟩ := e1
      obtain ⟨cb, co, rfl, hcb, hcs⟩ := hcell (by omega)
      have H1 := hcs k (by omega)
      have hkc : k < cs.length := by have := HN.out; omega
      have HFk := Lib.hid (HFs.out k hkc)
      obtain ⟨⟨t, kk, had, ⟨oa, ob, oc⟩, has, ⟨na, nb, nc⟩⟩, Hc⟩ : ∃ c, Hid (cs.getD k chZ = c) := ⟨_, Lib.hid rfl⟩
      rw [Hc.out] at H1 HFk
      rw [HS.out] at HFk
      obtain ⟨y0, y1, y2, y3, y4, y5, y6, y7, y8, y9⟩ := H1.cells
      clear hcell hcs hnn H1 Hc hkc c1
      obtain ⟨cc, Hcc⟩ : ∃ cc : MCh, Hid ((⟨t, kk, had, ⟨oa, ob, oc⟩, has, ⟨na, nb, nc⟩⟩ : MCh) = cc) := ⟨_, Lib.hid rfl⟩
      have HTw := Lib.hid (fun w => HT.out ⟨t, kk, had, ⟨oa, ob, oc⟩, has, ⟨na, nb, nc⟩⟩ w)
      have HPw := Lib.hid (fun r ht w b v h h2 hl => HP.out ⟨t, kk, had, ⟨oa, ob, oc⟩, has, ⟨na, nb, nc⟩⟩ r ht w b v h h2 hl)
      unfold chV at HTw HPw
      simp only at HTw HPw
      rw [Hcc.out] at HFk HTw HPw
      go_upto_region 6 with fail
      generalize hw3 : wr.alloc _ = w3
      have HX3 : Hid (w3.heap[wr.heap.size]? = some (.cells #[.int .i64 t, .int .i64 kk, .bool had, .int .i64 oa, .int .i64 ob, .int .i64 oc, .bool has, .int .i64 na, .int .i64 nb, .int .i64 nc] 35 (0, 0))) := Lib.hid (by rw [← hw3]; exact heap_alloc_new wr _)
      have hb3 : Below wr.heap.size wr w3 := by rw [← hw3]; exact ba wr _
      have HQ3 := Lib.hid ((hb3.block _ (lt_of_block HQr.out)).trans HQr.out)
      have HR3 := Lib.hid ((hb3.block _ (lt_of_block HRr.out)).trans HRr.out)
      have HZ3 := Lib.hid ((hb3.block _ (lt_of_block HZr.out)).trans HZr.out)
      have HB3 := Lib.hid (bt HB.out hb3)
      have HO3 := Lib.hid (HOr.out.below hb3)
      have HZz3 : Hid (w0.heap.size ≤ w3.heap.size) := Lib.hid (Nat.le_trans HZr2.out.1 hb3.size)
      have hrz : W.heap.size + 1 + 1 + 1 < wr.heap.size := lt_of_block HZr.out
      clear hw3 hb3 y0 y1 y2 y3 y4 y5 y6 y7 y8 y9 hcb
      obtain ⟨tc, HTc⟩ : ∃ tc, Hid (TB cc = tc) := ⟨_, Lib.hid rfl⟩
      have HT3 := Lib.hid (HTw.out w3)
      rw [HTc.out] at HT3
      clear HTw
      go_wp2_with (first
        | refine wpList_load_row rfl 29 _ rfl W.heap.size rfl 29 _ _ _ HQ3.out Try.underlying29 rfl (by kernel_rfl) ?_
        | refine wpList_load_row rfl 35 _ rfl wr.heap.size rfl 35 _ _ _ HX3.out Try.underlying35 rfl (by kernel_rfl) ?_)
      (with_reducible refine HT3.out.mono ?_)
      rintro e w4 ⟨rfl, hb4⟩
      have HQ4 := Lib.hid ((hb4.block _ (lt_of_block HQ3.out)).trans HQ3.out)
      have HR4 := Lib.hid ((hb4.block _ (lt_of_block HR3.out)).trans HR3.out)
      have HZ4 := Lib.hid ((hb4.block _ (lt_of_block HZ3.out)).trans HZ3.out)
      have HX4 := Lib.hid ((hb4.block _ (lt_of_block HX3.out)).trans HX3.out)
      have HB4 := Lib.hid (bt HB3.out hb4)
      have HO4 := Lib.hid (HO3.out.below hb4)
      have HZz4 : Hid (w0.heap.size ≤ w4.heap.size) := Lib.hid (Nat.le_trans HZz3.out hb4.size)
      clear hb4 HT3
      cases tc
      · have HSn : Hid ((cs.take (k + 1)).foldl FA (some ⟨rows, val, fnd⟩, false) = (some ⟨rws, rv, rfo⟩, tb)) := Lib.hid (by rw [HFk.out, HF1.out _ _ _ HTc.out])
        clear HPw HFk
        go_wp2_with fail
        exact ⟨⟨k + 1, tb, ⟨rws, rv, rfo⟩, _, by omega, by go_num, rfl, HSn, HR4, Lib.hid ⟨HO4.out, HZz4.out, by have := HZr2.out.2; simp only at this ⊢; omega⟩, HB4, HQ4, HZ4⟩, by simp [intOf]; omega⟩
      · have HFn : Hid ((cs.take (k + 1)).foldl FA (some ⟨rows, val, fnd⟩, false) = (PM ⟨rws, rv, rfo⟩ cc, true)) := Lib.hid (by rw [HFk.out, HF2.out _ _ _ HTc.out])
        have HP4 := Lib.hid (HPw.out ⟨rws, rv, rfo⟩ HTc.out w4 _ _ HO4.out HZz4.out (by have := HZr2.out.2; have := HL.out; have := HN.out; simp only at *; omega))
        have HPlk := Lib.hid (fun r' => HPl.out ⟨rws, rv, rfo⟩ r' cc)
        obtain ⟨RM, HRM⟩ : ∃ RM, Hid (PM ⟨rws, rv, rfo⟩ cc = RM) := ⟨_, Lib.hid rfl⟩
        rw [HRM.out] at HFn HP4 HPlk
        clear HPw HFk HRM
        go_wp2_with (first
          | refine wpList_load_row rfl 29 _ rfl W.heap.size rfl 29 _ _ _ HQ4.out Try.underlying29 rfl (by kernel_rfl) ?_
          | refine wpList_load_row rfl 46 _ rfl (W.heap.size + 1) rfl 46 _ _ _ HR4.out Try.underlying46 rfl (by kernel_rfl) ?_
          | refine wpList_load_row rfl 35 _ rfl wr.heap.size rfl 35 _ _ _ HX4.out Try.underlying35 rfl (by kernel_rfl) ?_)
        (with_reducible refine HP4.out.mono ?_)
        rintro e w5 ⟨u5, rfl, hO5, hb5⟩
        have HQ5 := Lib.hid ((hb5.block _ (lt_of_block HQ4.out)).trans HQ4.out)
        have HR5 := Lib.hid ((hb5.block _ (lt_of_block HR4.out)).trans HR4.out)
        have HZ5 := Lib.hid ((hb5.block _ (lt_of_block HZ4.out)).trans HZ4.out)
        have HB5 := Lib.hid (bt HB4.out hb5)
        obtain ⟨ya, yn, yc, rfl⟩ := hO5.form
        have HO5 := Lib.hid hO5
        have HZz5 : Hid (w0.heap.size ≤ w5.heap.size) := Lib.hid (Nat.le_trans HZz4.out hb5.size)
        obtain ⟨⟨rows', val', fnd'⟩, HRd⟩ : ∃ x, Hid (RM.getD resZ = x) := ⟨_, Lib.hid rfl⟩
        have hv : (RM.getD resZ).val = val' := by rw [HRd.out]
        have hf : (RM.getD resZ).fnd = fnd' := by rw [HRd.out]
        rw [HRd.out] at HO5
        simp only [hv, hf] at HO5 ⊢
        obtain ⟨bb, HBB⟩ : ∃ bb, Hid (RM.isSome = bb) := ⟨_, Lib.hid rfl⟩
        rw [HBB.out]
        clear hb5 hO5 HP4 hv hf
        go_upto_region 8 with (refine wpList_store_row rfl 46 _ _ rfl (W.heap.size + 1) #[.slice ya yn yc, .int .i64 val', .bool fnd'] rfl rfl 46 _ HR5.out (by kernel_rfl) rfl (by simp [Value.oneCell']) ?_)
        generalize hw6 : w5.setRow _ _ = w6
        have HR6 : Hid (w6.heap[W.heap.size + 1]? = some (.cells #[.slice ya yn yc, .int .i64 val', .bool fnd'] 46 (0, 0))) := Lib.hid (by rw [← hw6]; exact setRow_heap _ _ _ _ _ _ HR5.out)
        have HQ6 : Hid (w6.heap[W.heap.size]? = some (.cells #[.int .i64 qk, .int .i64 qt, .int .i64 qc, .int .i64 ql, .int .i64 qh, .int .i64 qy, .int .i64 qo] 29 (0, 0))) := Lib.hid (by rw [← hw6, setRow_other _ _ _ _ (by omega)]; exact HQ5.out)
        have HZ6 : Hid (w6.heap[W.heap.size + 1 + 1 + 1]? = some (.cells #[.slice none 0 0, .int .i64 0, .bool false] 46 (0, 0))) := Lib.hid (by rw [← hw6, setRow_other _ _ _ _ (by omega)]; exact HZ5.out)
        have HB6 : Hid (Below W.heap.size W w6) := Lib.hid (by rw [← hw6]; exact below_row HB5.out (by omega) _)
        have HO6 : Hid (OwnR w6 w0.heap.size (.slice ya yn yc) rows') := Lib.hid (by
          rw [← hw6]
          exact HO5.out.kept' (F := fun k => k = W.heap.size + 1) (kept_row (F := fun k => k = W.heap.size + 1) (Kept.of_below (Below.refl _ _)) (.inl rfl) _) (fun i hi e => own_ne HO5.out HR5.out (by decide) i hi e))
        have HZz6 : Hid (w0.heap.size ≤ w6.heap.size) := Lib.hid (by rw [← hw6, setRow_size]; exact HZz5.out)
        clear hw6
        cases bb
        · have HNo : Hid (RM = none) := Lib.hid (by have h := HBB.out; cases RM with | none => rfl | some _ => simp at h)
          have HSe : Hid (SF = (none, true)) := Lib.hid (HFe.out (k + 1) true (by rw [HFn.out, HNo.out]))
          go_wp2_with (refine wpList_store_row rfl 46 _ _ rfl (W.heap.size + 1 + 1 + 1) #[.slice none 0 0, .int .i64 0, .bool false] rfl rfl 46 _ HZ6.out (by kernel_rfl) rfl (by simp [Value.oneCell']) ?_)
          generalize hw7 : w6.setRow _ _ = w7
          have HZ7 : Hid (w7.heap[W.heap.size + 1 + 1 + 1]? = some (.cells #[.slice none 0 0, .int .i64 0, .bool false] 46 (0, 0))) := Lib.hid (by rw [← hw7]; exact setRow_heap _ _ _ _ _ _ HZ6.out)
          have HB7 : Hid (Below W.heap.size W w7) := Lib.hid (by rw [← hw7]; exact below_row HB6.out (by omega) _)
          refine bodyPost_ret (v := .tuple #[.agg #[.slice none 0 0, .int .i64 0, .bool false], .bool true, .bool false]) (by simp [results, Try.results32, go_sem, World.cell?, HZ7.out]) rfl ?_
          rw [HSe.out]
          exact ⟨_, rfl, OwnR.nil _ _, HB7.out⟩
        · have HSo : Hid (RM = some ⟨rows', val', fnd'⟩) := Lib.hid (by
            have h := HBB.out
            have h2 := HRd.out
            cases RM with
            | none => simp at h
            | some _ => simpa using h2)
          have HSn : Hid ((cs.take (k + 1)).foldl FA (some ⟨rows, val, fnd⟩, false) = (some ⟨rows', val', fnd'⟩, true)) := Lib.hid (by rw [HFn.out, HSo.out])
          go_wp2_with fail
          exact ⟨⟨k + 1, true, ⟨rows', val', fnd'⟩, _, by omega, by go_num, rfl, HSn, HR6, Lib.hid ⟨HO6.out, HZz6.out, by have := HPlk.out _ HSo.out; have := HZr2.out.2; simp only at *; omega⟩, HB6, HQ6, HZ6⟩, by simp [intOf]; omega⟩
    · obtain rfl : k = n := by omega
      have HSe : Hid (SF = (some ⟨rws, rv, rfo⟩, tb)) := Lib.hid (by
        rw [← HFo.out, ← HS.out, HN.out, List.take_length])
      have hrz : W.heap.size + 1 + 1 + 1 < wr.heap.size := lt_of_block HZr.out
      go_wp2_with (first
        | refine wpList_load_row rfl 46 _ rfl (W.heap.size + 1) rfl 46 _ _ _ HRr.out Try.underlying46 rfl (by kernel_rfl) ?_
        | refine wpList_store_row rfl 46 _ _ rfl (W.heap.size + 1 + 1 + 1) #[.slice xa xn xc, .int .i64 rv, .bool rfo] rfl rfl 46 _ HZr.out (by kernel_rfl) rfl (by simp [Value.oneCell']) ?_)
      generalize hw6 : wr.setRow _ _ = w6
      have HZ6 : Hid (w6.heap[W.heap.size + 1 + 1 + 1]? = some (.cells #[.slice xa xn xc, .int .i64 rv, .bool rfo] 46 (0, 0))) := Lib.hid (by rw [← hw6]; exact setRow_heap _ _ _ _ _ _ HZr.out)
      have HB6 : Hid (Below W.heap.size W w6) := Lib.hid (by rw [← hw6]; exact below_row HB.out (by omega) _)
      have HO6 : Hid (OwnR w6 W.heap.size (.slice xa xn xc) rws) := Lib.hid (by
        rw [← hw6]
        exact (HOr.out.mono (by omega)).kept' (F := fun k => k = W.heap.size + 1 + 1 + 1) (kept_row (F := fun k => k = W.heap.size + 1 + 1 + 1) (Kept.of_below (Below.refl _ _)) (.inl rfl) _) (fun i hi e => own_ne HOr.out HZr.out (by decide) i hi e))
      refine bodyPost_ret (v := .tuple #[.agg #[.slice xa xn xc, .int .i64 rv, .bool rfo], .bool tb, .bool true]) (by simp [results, Try.results32, go_sem, World.cell?, HZ6.out]) rfl ?_
      rw [HSe.out]
      exact ⟨_, rfl, HO6.out, HB6.out⟩
end Go.Proofs.Ytgbnjjgnihjfgaa
end
