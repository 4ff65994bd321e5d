/- QFL, QFR, QH, QI -/
import Derived.Test.YtgbnjjgnihjfgaaProg
import Derived.WalkKit
import Derived.Below
import Derived.Lib.Hide
import Derived.Laws.StructEq
import Derived.Lib.QuietBelow
import Derived.Deep.RegionHeld3
import Derived.Deep.RegionWith
import Derived.IntWalk
import Derived.BigQuiet
import Derived.Maps.RangeWalk
import Derived.DeepKeys4
import Derived.OneCell
import Derived.StillTail
import Derived.Deep.CutRange
import Derived.Outline
import Derived.WalkSpells
import Derived.Carry
import Derived.Shelf.SlGeneric
import Derived.Shelf.SlSortCmp.WholeK
import Derived.Shelf.SlicesG.Cmp
import Derived.Ground.SlsfProg
import Derived.Ground.SlgcProg
import Derived.Sort.OwnSorted
import Derived.Deep.AppendLies
import Derived.Shelf.SlSortCmp.NoneTotal
import Derived.Deep.QuietTactic
import Derived.Laws.AppendOwnNone
import Derived.Laws.EntriesVeiled
import Derived.Lib.SliceRun
import Derived.Deep.Cut
import Derived.Laws.ResultCell
import Derived.ArgAppend
import Derived.Laws.Rows
import Derived.Great.BuildSlice
import Derived.Great.Frames
import Derived.Deep.DeepCutAuto
import Derived.Lib.AppendZeros
import Derived.Lib.Overlaps
import Derived.Laws.CopyRow
import Derived.Laws.AppendOwn
import Derived.Laws.Externs
import Derived.Deep.RegionLawGrows
import Derived.Test.YtgbnjjgnihjfgaaWFAL
import Derived.Test.YtgbnjjgnihjfgaaWFAG
import Derived.Test.YtgbnjjgnihjfgaaWFAJ
import Derived.Test.YtgbnjjgnihjfgaaWFAH
import Derived.Test.YtgbnjjgnihjfgaaWFAI
import Derived.Test.YtgbnjjgnihjfgaaWFAE
import Derived.Test.YtgbnjjgnihjfgaaWFAD
import Derived.Test.YtgbnjjgnihjfgaaWFAB
import Derived.Test.YtgbnjjgnihjfgaaWFAF
import Derived.Test.YtgbnjjgnihjfgaaWFAM
import Derived.Test.YtgbnjjgnihjfgaaWFAN
import Derived.Test.YtgbnjjgnihjfgaaWFAC
import Derived.Test.YtgbnjjgnihjfgaaWFAA
import Derived.Test.YtgbnjjgnihjfgaaWFAK
section
set_option linter.unusedVariables false
set_option linter.unusedSimpArgs false
namespace Go.Proofs.Ytgbnjjgnihjfgaa
open Go.RowKit Go.Sort Go.ChangeMaps Go.MapKept

set_option maxRecDepth 100000 in
set_option maxHeartbeats 8000000 in
theorem patchJoin_left {q : MQ} {c : MCh} {rb base : Nat} {r : MRes} {W : World} (hR : ResAt W rb base r) (hb : base ≤ W.heap.size) (hq : I64 q.column) (hl : r.rows.length ≤ 39999) (hne : ¬ q.table = q.other) (hc : ¬ c.t = q.other) : Calls Try.prog 160 #[ptr rb, .agg (effC q c)] W (PatchOut W rb base ((leftP q (prs r.rows) c).map fun ps => ⟨unprs ps, r.val, r.fnd⟩)) := by
  obtain ⟨rows, val, fnd⟩ := r
  obtain ⟨u, hu, hO⟩ := hR
  have HU := Lib.hid hu
  have HO := Lib.hid hO
  have HL : Hid (rows.length ≤ 39999) := Lib.hid hl
  have HBs : Hid (base ≤ W.heap.size) := Lib.hid hb
  have HE : Hid (EffAt (W.alloc (.cells (effC q c) 132)) W.heap.size q c) := Lib.hid (EffAt.new W q c)
  have HB : Hid (Below W.heap.size W (W.alloc (.cells (effC q c) 132))) := Lib.hid (ba W _)
  have hlt := lt_of_block hu
  have hrz : ¬ rb = W.heap.size := by omega
  have hrz2 : ¬ W.heap.size = rb := by omega
  simp only at HU HO HL hu hO hl ⊢
  obtain ⟨ua, un, uc, rfl⟩ := hO.form
  have HG := Lib.hid (fun (w : World) (b : Nat) (v : Value) (h : OwnP w b v (prs rows)) (h2 : b ≤ w.heap.size) => left_out (q := q) (c := c) hq h h2 (by have := prs_len rows; omega))
  have HR := Lib.hid (HO.out.below HB.out).rowS
  obtain ⟨RP, HRP⟩ : ∃ RP, Hid (leftP q (prs rows) c = RP) := ⟨_, Lib.hid rfl⟩
  rw [HRP.out] at HG ⊢
  clear HRP hu hO hl hb hq
  unfold EffAt at HE
  have HS : Hid ((effC q c).size = 33) := Lib.hid rfl
  have HA : Hid ((effC q c)[1]? = some (.int .i64 q.table) ∧ (effC q c)[6]? = some (.int .i64 q.other) ∧ (effC q c)[7]? = some (.int .i64 c.t)) := Lib.hid ⟨rfl, rfl, rfl⟩
  generalize q.table = qt at *
  generalize q.other = qo at *
  generalize c.t = ct at *
  generalize effC q c = E at *
  have d1 : (qt == qo) = false := by simp [hne]
  have d2 : (ct == qo) = false := by simp [hc]
  clear hne hc
  unfold ptr
  go_enter Try.func160, Try.ntmps160
  go_upto_region 1 with fail
  have HK0 : Hid (Kept (fun k => k = rb) W (W.alloc (.cells E 132))) := Lib.hid (Kept.of_below HB.out)
  have HU0 := Lib.hid ((HB.out.block _ (lt_of_block HU.out)).trans HU.out)
  generalize W.alloc (.cells E 132) = w0 at *
  have c1 : w0.cell? ⟨W.heap.size, 1, none⟩ = some (.int .i64 qt) := by simp [World.cell?, HE.out, HA.out]
  have c6 : w0.cell? ⟨W.heap.size, 6, none⟩ = some (.int .i64 qo) := by simp [World.cell?, HE.out, HA.out]
  have c7 : w0.cell? ⟨W.heap.size, 7, none⟩ = some (.int .i64 ct) := by simp [World.cell?, HE.out, HA.out]
  go_upto_region 6 with fail
  clear c1 c6 c7
  have HBd : Hid (Below w0.heap.size w0 w0.drew) := Lib.hid (below_drew _)
  have H173 : Hid (∀ w, Hid (Below w0.heap.size w0 w) → Calls Try.prog 173 #[.slice ua un uc] w fun e w' => ∃ v, e = .returned v ∧ Hid (OwnP w' w.heap.size v (prs rows) ∧ w0.heap.size ≤ w.heap.size) ∧ Hid (Below w0.heap.size w0 w')) := Lib.hid (fun w hb => (pairsOf_any (HR.out.below hb.out) (by have := HL.out; omega)).mono fun e w' ⟨v, h1, h2, h3⟩ => ⟨v, h1, Lib.hid ⟨h2, hb.out.size⟩, Lib.hid (bt hb.out h3)⟩)
  have Hg : Hid (∀ (w : World) (b : Nat) (v : Value), Hid (Below w0.heap.size w0 w) → Hid (OwnP w b v (prs rows) ∧ w0.heap.size ≤ b) → Calls Try.prog 171 #[v, .agg E] w fun e w' => ∃ v' bb, e = .returned (.tuple #[v', .bool bb]) ∧ Hid (bb = RP.isSome) ∧ Hid (∃ r, PrS w' v' r ∧ r.length ≤ 40000 ∧ ∀ s, RP = some s → r = s) ∧ Hid (Below w0.heap.size w0 w')) := Lib.hid (fun w b v hb ho => (HG.out w w0.heap.size v (ho.out.1.mono ho.out.2) hb.out.size).mono fun e w' ⟨v', bb, h1, h2, h3, h4⟩ => ⟨v', bb, h1, Lib.hid h2, Lib.hid h3, Lib.hid (hb.out.trans h4)⟩)
  clear HG HR
  refine wp_region_held_drew (S := fun w => Below w0.heap.size w0 w) (by kernel_rfl) (HBd.out) (fun hHeld => ?_)
  refine wpAnyH_take (i := 0) (v := .func (.func 171) #[] #[]) rfl (by kernel_rfl) (by kernel_rfl) (by kernel_rfl) (fun _ _ _ h => h) (Or.inl ⟨by rfl, ?_⟩) hHeld ?_
  · intro w hSw
    go_simp
  try simp only [Act.put, List.setIfInBounds_toArray, List.set_cons_zero, List.set_cons_succ]
  refine wpAnyH_take (i := 1) (v := .pointer (some ⟨rb, 0, none⟩)) rfl (by kernel_rfl) (by kernel_rfl) (by kernel_rfl) (fun _ _ _ h => h) (Or.inl ⟨by rfl, ?_⟩) hHeld ?_
  · intro w hSw
    go_simp
  try simp only [Act.put, List.setIfInBounds_toArray, List.set_cons_zero, List.set_cons_succ]
  refine wpAnyH_take (i := 2) (v := .pointer (some ⟨rb, 0, none⟩)) rfl (by kernel_rfl) (by kernel_rfl) (by kernel_rfl) (fun _ _ _ h => h) (Or.inl ⟨by rfl, ?_⟩) hHeld ?_
  · intro w hSw
    go_simp
  try simp only [Act.put, List.setIfInBounds_toArray, List.set_cons_zero, List.set_cons_succ]
  refine wpAnyH_take (i := 3) (v := .pointer (some ⟨rb, 0, none⟩)) rfl (by kernel_rfl) (by kernel_rfl) (by kernel_rfl) (fun _ _ _ h => h) (Or.inl ⟨by rfl, ?_⟩) hHeld ?_
  · intro w hSw
    go_simp
  try simp only [Act.put, List.setIfInBounds_toArray, List.set_cons_zero, List.set_cons_succ]
  refine wpAnyH_take (i := 4) (v := .slice ua un uc) rfl (by kernel_rfl) (by kernel_rfl) (by kernel_rfl) (fun _ _ _ h => h) (Or.inl ⟨by rfl, ?_⟩) hHeld ?_
  · intro w hSw
    have r0 : w.cell? ⟨rb, 0, none⟩ = some (.slice ua un uc) := by simp only [World.cell?, (hSw.block _ (lt_of_block HU0.out)).trans HU0.out]; rfl
    go_simp
  try simp only [Act.put, List.setIfInBounds_toArray, List.set_cons_zero, List.set_cons_succ]
  refine wpAnyH_take (i := 6) rfl (by kernel_rfl) (by kernel_rfl) (by kernel_rfl) (fun _ _ _ h => h) (yields_row 132 _ rfl (by rfl) W.heap.size rfl 132 E (0, 0) _ (fun w hSw => (hSw.block _ (lt_of_block HE.out)).trans HE.out) Try.underlying132 rfl (by rw [HS.out]; kernel_rfl)) hHeld ?_
  try simp only [Act.put, List.setIfInBounds_toArray, List.set_cons_zero, List.set_cons_succ]
  refine wpAnyH_ready (rs := [5]) (by kernel_rfl) (by simp) ?_
  refine AllReadyH.cons rfl (fun K hK => ?_) AllReadyH.nil
  go_simp
  go_at_call 173
  (with_reducible refine (H173.out _ HBd).mono ?_)
  rintro e w1 ⟨v1, rfl, HO1, HB1⟩
  refine hK.out _ _ HB1.out (fun hHeld => ?_)
  clear hK K
  try simp only [Act.put, List.setIfInBounds_toArray, List.set_cons_zero, List.set_cons_succ]
  refine wpAnyH_ready (rs := [7]) (by kernel_rfl) (by simp) ?_
  refine AllReadyH.cons rfl (fun K hK => ?_) AllReadyH.nil
  go_simp
  go_at_call 171
  (with_reducible refine (Hg.out _ _ _ HB1 (Lib.hid ⟨HO1.out.1, HO1.out.2⟩)).mono ?_)
  rintro e w2 ⟨v2, bb, rfl, HBB, HPr, HB2⟩
  refine hK.out _ _ HB2.out (fun hHeld => ?_)
  clear hK K
  try simp only [Act.put, List.setIfInBounds_toArray, List.set_cons_zero, List.set_cons_succ]
  refine wpAnyH_take (i := 8) (v := .tuple #[v2, .bool bb]) rfl (by kernel_rfl) (by kernel_rfl) (by kernel_rfl) (fun _ _ _ h => h) (Or.inl ⟨by rfl, ?_⟩) hHeld ?_
  · intro w hSw
    go_simp
  try simp only [Act.put, List.setIfInBounds_toArray, List.set_cons_zero, List.set_cons_succ]
  refine wpAnyH_take (i := 9) (v := v2) rfl (by kernel_rfl) (by kernel_rfl) (by kernel_rfl) (fun _ _ _ h => h) (Or.inl ⟨by rfl, ?_⟩) hHeld ?_
  · intro w hSw
    go_simp
  try simp only [Act.put, List.setIfInBounds_toArray, List.set_cons_zero, List.set_cons_succ]
  refine wpAnyH_take (i := 10) (v := .bool bb) rfl (by kernel_rfl) (by kernel_rfl) (by kernel_rfl) (fun _ _ _ h => h) (Or.inl ⟨by rfl, ?_⟩) hHeld ?_
  · intro w hSw
    go_simp
  try simp only [Act.put, List.setIfInBounds_toArray, List.set_cons_zero, List.set_cons_succ]
  refine wpAnyH_take (i := 11) (v := v2) rfl (by kernel_rfl) (by kernel_rfl) (by kernel_rfl) (fun _ _ _ h => h) (Or.inl ⟨by rfl, ?_⟩) hHeld ?_
  · intro w hSw
    go_simp
  try simp only [Act.put, List.setIfInBounds_toArray, List.set_cons_zero, List.set_cons_succ]
  refine wpAnyH_take (i := 12) (v := .bool bb) rfl (by kernel_rfl) (by kernel_rfl) (by kernel_rfl) (fun _ _ _ h => h) (Or.inl ⟨by rfl, ?_⟩) hHeld ?_
  · intro w hSw
    go_simp
  try simp only [Act.put, List.setIfInBounds_toArray, List.set_cons_zero, List.set_cons_succ]
  refine wpAnyH_done (by kernel_rfl) ?_ _
  obtain ⟨PR0, hps, hpl, hpe⟩ := HPr.out
  have HRw := Lib.hid (rowsOf_any hps hpl)
  have HPe := Lib.hid hpe
  clear hps hpl hpe
  have HU2 := Lib.hid ((HB2.out.block _ (lt_of_block HU0.out)).trans HU0.out)
  have HK2 : Hid (Kept (fun k => k = rb) W w2) := Lib.hid (HK0.out.then HB2.out)
  go_wp2_with fail
  (with_reducible refine HRw.out.mono ?_)
  rintro e w3 ⟨v3, rfl, hO3, hB3⟩
  obtain ⟨ya, yn, yc, rfl⟩ := hO3.form
  have HU3 := Lib.hid ((hB3.block _ (lt_of_block HU2.out)).trans HU2.out)
  have HK3 : Hid (Kept (fun k => k = rb) W w3) := Lib.hid (HK2.out.then hB3)
  have HRf : Hid (ResAt (w3.setCell ⟨rb, 0, none⟩ (.slice ya yn yc)) rb base ⟨unprs PR0, val, fnd⟩ ∧ Kept (fun k => k = rb) W (w3.setCell ⟨rb, 0, none⟩ (.slice ya yn yc))) := Lib.hid ⟨⟨.slice ya yn yc, setC_heap HU3.out 0 _, (own_setc hO3 HU3.out).mono (by have := HBs.out; have := HB.out.size; have := HB2.out.size; omega)⟩, Kept.setCell (F := fun i => i = rb) (p := ⟨rb, 0, none⟩) HK3.out (.inl rfl) _⟩
  have r0 : w3.cell? ⟨rb, 0, none⟩ = some (.slice ua un uc) := by simp only [World.cell?, HU3.out]; rfl
  have rf : w3.frozen? ⟨rb, 0, none⟩ = false := by simp [World.frozen?, HU3.out]
  clear hO3 hB3 HU2 HU3 HK2
  go_wp2_with fail
  refine bodyPost_ret (v := .bool bb) (by simp [results, Try.results160, go_sem]) rfl ?_
  exact ⟨by rw [HBB.out, Option.isSome_map], fun r' h => by
    obtain ⟨s, h1, rfl⟩ := Option.map_eq_some_iff.1 h
    rw [← HPe.out s h1]
    exact HRf.out.1, HRf.out.2⟩
end Go.Proofs.Ytgbnjjgnihjfgaa
end

section
set_option linter.unusedVariables false
set_option linter.unusedSimpArgs false
namespace Go.Proofs.Ytgbnjjgnihjfgaa
open Go.RowKit Go.Sort Go.ChangeMaps Go.MapKept

set_option maxRecDepth 100000 in
set_option maxHeartbeats 8000000 in
theorem patchJoin_right {q : MQ} {c : MCh} {rb base : Nat} {r : MRes} {W : World} (hR : ResAt W rb base r) (hb : base ≤ W.heap.size) (hq : I64 q.column) (hl : r.rows.length ≤ 39999) (hne : ¬ q.table = q.other) (hc : c.t = q.other) : Calls Try.prog 160 #[ptr rb, .agg (effC q c)] W (PatchOut W rb base ((rightP (prs r.rows) c).map fun ps => ⟨unprs ps, r.val, r.fnd⟩)) := by
  obtain ⟨rows, val, fnd⟩ := r
  obtain ⟨u, hu, hO⟩ := hR
  have HU := Lib.hid hu
  have HO := Lib.hid hO
  have HL : Hid (rows.length ≤ 39999) := Lib.hid hl
  have HBs : Hid (base ≤ W.heap.size) := Lib.hid hb
  have HE : Hid (EffAt (W.alloc (.cells (effC q c) 132)) W.heap.size q c) := Lib.hid (EffAt.new W q c)
  have HB : Hid (Below W.heap.size W (W.alloc (.cells (effC q c) 132))) := Lib.hid (ba W _)
  have hlt := lt_of_block hu
  have hrz : ¬ rb = W.heap.size := by omega
  have hrz2 : ¬ W.heap.size = rb := by omega
  simp only at HU HO HL hu hO hl ⊢
  obtain ⟨ua, un, uc, rfl⟩ := hO.form
  have HG := Lib.hid (fun (w : World) (b : Nat) (v : Value) (h : OwnP w b v (prs rows)) (h2 : b ≤ w.heap.size) => right_out (q := q) (c := c)  h h2 (by have := prs_len rows; omega))
  have HR := Lib.hid (HO.out.below HB.out).rowS
  obtain ⟨RP, HRP⟩ : ∃ RP, Hid (rightP (prs rows) c = RP) := ⟨_, Lib.hid rfl⟩
  rw [HRP.out] at HG ⊢
  clear HRP hu hO hl hb hq
  unfold EffAt at HE
  have HS : Hid ((effC q c).size = 33) := Lib.hid rfl
  have HA : Hid ((effC q c)[1]? = some (.int .i64 q.table) ∧ (effC q c)[6]? = some (.int .i64 q.other) ∧ (effC q c)[7]? = some (.int .i64 c.t)) := Lib.hid ⟨rfl, rfl, rfl⟩
  generalize q.table = qt at *
  generalize q.other = qo at *
  generalize c.t = ct at *
  generalize effC q c = E at *
  have d1 : (qt == qo) = false := by simp [hne]
  have d2 : (ct == qo) = true := by simp [hc]
  clear hne hc
  unfold ptr
  go_enter Try.func160, Try.ntmps160
  go_upto_region 1 with fail
  have HK0 : Hid (Kept (fun k => k = rb) W (W.alloc (.cells E 132))) := Lib.hid (Kept.of_below HB.out)
  have HU0 := Lib.hid ((HB.out.block _ (lt_of_block HU.out)).trans HU.out)
  generalize W.alloc (.cells E 132) = w0 at *
  have c1 : w0.cell? ⟨W.heap.size, 1, none⟩ = some (.int .i64 qt) := by simp [World.cell?, HE.out, HA.out]
  have c6 : w0.cell? ⟨W.heap.size, 6, none⟩ = some (.int .i64 qo) := by simp [World.cell?, HE.out, HA.out]
  have c7 : w0.cell? ⟨W.heap.size, 7, none⟩ = some (.int .i64 ct) := by simp [World.cell?, HE.out, HA.out]
  go_upto_region 6 with fail
  clear c1 c6 c7
  have HBd : Hid (Below w0.heap.size w0 w0.drew) := Lib.hid (below_drew _)
  have H173 : Hid (∀ w, Hid (Below w0.heap.size w0 w) → Calls Try.prog 173 #[.slice ua un uc] w fun e w' => ∃ v, e = .returned v ∧ Hid (OwnP w' w.heap.size v (prs rows) ∧ w0.heap.size ≤ w.heap.size) ∧ Hid (Below w0.heap.size w0 w')) := Lib.hid (fun w hb => (pairsOf_any (HR.out.below hb.out) (by have := HL.out; omega)).mono fun e w' ⟨v, h1, h2, h3⟩ => ⟨v, h1, Lib.hid ⟨h2, hb.out.size⟩, Lib.hid (bt hb.out h3)⟩)
  have Hg : Hid (∀ (w : World) (b : Nat) (v : Value), Hid (Below w0.heap.size w0 w) → Hid (OwnP w b v (prs rows) ∧ w0.heap.size ≤ b) → Calls Try.prog 172 #[v, .agg E] w fun e w' => ∃ v' bb, e = .returned (.tuple #[v', .bool bb]) ∧ Hid (bb = RP.isSome) ∧ Hid (∃ r, PrS w' v' r ∧ r.length ≤ 40000 ∧ ∀ s, RP = some s → r = s) ∧ Hid (Below w0.heap.size w0 w')) := Lib.hid (fun w b v hb ho => (HG.out w w0.heap.size v (ho.out.1.mono ho.out.2) hb.out.size).mono fun e w' ⟨v', bb, h1, h2, h3, h4⟩ => ⟨v', bb, h1, Lib.hid h2, Lib.hid h3, Lib.hid (hb.out.trans h4)⟩)
  clear HG HR
  refine wp_region_held_drew (S := fun w => Below w0.heap.size w0 w) (by kernel_rfl) (HBd.out) (fun hHeld => ?_)
  refine wpAnyH_take (i := 0) (v := .func (.func 172) #[] #[]) rfl (by kernel_rfl) (by kernel_rfl) (by kernel_rfl) (fun _ _ _ h => h) (Or.inl ⟨by rfl, ?_⟩) hHeld ?_
  · intro w hSw
    go_simp
  try simp only [Act.put, List.setIfInBounds_toArray, List.set_cons_zero, List.set_cons_succ]
  refine wpAnyH_take (i := 1) (v := .pointer (some ⟨rb, 0, none⟩)) rfl (by kernel_rfl) (by kernel_rfl) (by kernel_rfl) (fun _ _ _ h => h) (Or.inl ⟨by rfl, ?_⟩) hHeld ?_
  · intro w hSw
    go_simp
  try simp only [Act.put, List.setIfInBounds_toArray, List.set_cons_zero, List.set_cons_succ]
  refine wpAnyH_take (i := 2) (v := .pointer (some ⟨rb, 0, none⟩)) rfl (by kernel_rfl) (by kernel_rfl) (by kernel_rfl) (fun _ _ _ h => h) (Or.inl ⟨by rfl, ?_⟩) hHeld ?_
  · intro w hSw
    go_simp
  try simp only [Act.put, List.setIfInBounds_toArray, List.set_cons_zero, List.set_cons_succ]
  refine wpAnyH_take (i := 3) (v := .pointer (some ⟨rb, 0, none⟩)) rfl (by kernel_rfl) (by kernel_rfl) (by kernel_rfl) (fun _ _ _ h => h) (Or.inl ⟨by rfl, ?_⟩) hHeld ?_
  · intro w hSw
    go_simp
  try simp only [Act.put, List.setIfInBounds_toArray, List.set_cons_zero, List.set_cons_succ]
  refine wpAnyH_take (i := 4) (v := .slice ua un uc) rfl (by kernel_rfl) (by kernel_rfl) (by kernel_rfl) (fun _ _ _ h => h) (Or.inl ⟨by rfl, ?_⟩) hHeld ?_
  · intro w hSw
    have r0 : w.cell? ⟨rb, 0, none⟩ = some (.slice ua un uc) := by simp only [World.cell?, (hSw.block _ (lt_of_block HU0.out)).trans HU0.out]; rfl
    go_simp
  try simp only [Act.put, List.setIfInBounds_toArray, List.set_cons_zero, List.set_cons_succ]
  refine wpAnyH_take (i := 6) rfl (by kernel_rfl) (by kernel_rfl) (by kernel_rfl) (fun _ _ _ h => h) (yields_row 132 _ rfl (by rfl) W.heap.size rfl 132 E (0, 0) _ (fun w hSw => (hSw.block _ (lt_of_block HE.out)).trans HE.out) Try.underlying132 rfl (by rw [HS.out]; kernel_rfl)) hHeld ?_
  try simp only [Act.put, List.setIfInBounds_toArray, List.set_cons_zero, List.set_cons_succ]
  refine wpAnyH_ready (rs := [5]) (by kernel_rfl) (by simp) ?_
  refine AllReadyH.cons rfl (fun K hK => ?_) AllReadyH.nil
  go_simp
  go_at_call 173
  (with_reducible refine (H173.out _ HBd).mono ?_)
  rintro e w1 ⟨v1, rfl, HO1, HB1⟩
  refine hK.out _ _ HB1.out (fun hHeld => ?_)
  clear hK K
  try simp only [Act.put, List.setIfInBounds_toArray, List.set_cons_zero, List.set_cons_succ]
  refine wpAnyH_ready (rs := [7]) (by kernel_rfl) (by simp) ?_
  refine AllReadyH.cons rfl (fun K hK => ?_) AllReadyH.nil
  go_simp
  go_at_call 172
  (with_reducible refine (Hg.out _ _ _ HB1 (Lib.hid ⟨HO1.out.1, HO1.out.2⟩)).mono ?_)
  rintro e w2 ⟨v2, bb, rfl, HBB, HPr, HB2⟩
  refine hK.out _ _ HB2.out (fun hHeld => ?_)
  clear hK K
  try simp only [Act.put, List.setIfInBounds_toArray, List.set_cons_zero, List.set_cons_succ]
  refine wpAnyH_take (i := 8) (v := .tuple #[v2, .bool bb]) rfl (by kernel_rfl) (by kernel_rfl) (by kernel_rfl) (fun _ _ _ h => h) (Or.inl ⟨by rfl, ?_⟩) hHeld ?_
  · intro w hSw
    go_simp
  try simp only [Act.put, List.setIfInBounds_toArray, List.set_cons_zero, List.set_cons_succ]
  refine wpAnyH_take (i := 9) (v := v2) rfl (by kernel_rfl) (by kernel_rfl) (by kernel_rfl) (fun _ _ _ h => h) (Or.inl ⟨by rfl, ?_⟩) hHeld ?_
  · intro w hSw
    go_simp
  try simp only [Act.put, List.setIfInBounds_toArray, List.set_cons_zero, List.set_cons_succ]
  refine wpAnyH_take (i := 10) (v := .bool bb) rfl (by kernel_rfl) (by kernel_rfl) (by kernel_rfl) (fun _ _ _ h => h) (Or.inl ⟨by rfl, ?_⟩) hHeld ?_
  · intro w hSw
    go_simp
  try simp only [Act.put, List.setIfInBounds_toArray, List.set_cons_zero, List.set_cons_succ]
  refine wpAnyH_take (i := 11) (v := v2) rfl (by kernel_rfl) (by kernel_rfl) (by kernel_rfl) (fun _ _ _ h => h) (Or.inl ⟨by rfl, ?_⟩) hHeld ?_
  · intro w hSw
    go_simp
  try simp only [Act.put, List.setIfInBounds_toArray, List.set_cons_zero, List.set_cons_succ]
  refine wpAnyH_take (i := 12) (v := .bool bb) rfl (by kernel_rfl) (by kernel_rfl) (by kernel_rfl) (fun _ _ _ h => h) (Or.inl ⟨by rfl, ?_⟩) hHeld ?_
  · intro w hSw
    go_simp
  try simp only [Act.put, List.setIfInBounds_toArray, List.set_cons_zero, List.set_cons_succ]
  refine wpAnyH_done (by kernel_rfl) ?_ _
  obtain ⟨PR0, hps, hpl, hpe⟩ := HPr.out
  have HRw := Lib.hid (rowsOf_any hps hpl)
  have HPe := Lib.hid hpe
  clear hps hpl hpe
  have HU2 := Lib.hid ((HB2.out.block _ (lt_of_block HU0.out)).trans HU0.out)
  have HK2 : Hid (Kept (fun k => k = rb) W w2) := Lib.hid (HK0.out.then HB2.out)
  go_wp2_with fail
  (with_reducible refine HRw.out.mono ?_)
  rintro e w3 ⟨v3, rfl, hO3, hB3⟩
  obtain ⟨ya, yn, yc, rfl⟩ := hO3.form
  have HU3 := Lib.hid ((hB3.block _ (lt_of_block HU2.out)).trans HU2.out)
  have HK3 : Hid (Kept (fun k => k = rb) W w3) := Lib.hid (HK2.out.then hB3)
  have HRf : Hid (ResAt (w3.setCell ⟨rb, 0, none⟩ (.slice ya yn yc)) rb base ⟨unprs PR0, val, fnd⟩ ∧ Kept (fun k => k = rb) W (w3.setCell ⟨rb, 0, none⟩ (.slice ya yn yc))) := Lib.hid ⟨⟨.slice ya yn yc, setC_heap HU3.out 0 _, (own_setc hO3 HU3.out).mono (by have := HBs.out; have := HB.out.size; have := HB2.out.size; omega)⟩, Kept.setCell (F := fun i => i = rb) (p := ⟨rb, 0, none⟩) HK3.out (.inl rfl) _⟩
  have r0 : w3.cell? ⟨rb, 0, none⟩ = some (.slice ua un uc) := by simp only [World.cell?, HU3.out]; rfl
  have rf : w3.frozen? ⟨rb, 0, none⟩ = false := by simp [World.frozen?, HU3.out]
  clear hO3 hB3 HU2 HU3 HK2
  go_wp2_with fail
  refine bodyPost_ret (v := .bool bb) (by simp [results, Try.results160, go_sem]) rfl ?_
  exact ⟨by rw [HBB.out, Option.isSome_map], fun r' h => by
    obtain ⟨s, h1, rfl⟩ := Option.map_eq_some_iff.1 h
    rw [← HPe.out s h1]
    exact HRf.out.1, HRf.out.2⟩
end Go.Proofs.Ytgbnjjgnihjfgaa
end

section
set_option linter.unusedVariables false
set_option linter.unusedSimpArgs false
namespace Go.Proofs.Ytgbnjjgnihjfgaa
open Go.RowKit Go.Sort Go.ChangeMaps Go.MapKept

theorem four (W : World) (a b c d : Obj) : Below W.heap.size W ((((W.alloc a).alloc b).alloc c).alloc d) ∧ ((((W.alloc a).alloc b).alloc c).alloc d).heap[W.heap.size]? = some a ∧ ((((W.alloc a).alloc b).alloc c).alloc d).heap[W.heap.size + 1]? = some b ∧ ((((W.alloc a).alloc b).alloc c).alloc d).heap[W.heap.size + 1 + 1]? = some c ∧ ((((W.alloc a).alloc b).alloc c).alloc d).heap[W.heap.size + 1 + 1 + 1]? = some d := by
  have e1 := World.size_alloc W a
  have e2 := World.size_alloc (W.alloc a) b
  have e3 := World.size_alloc ((W.alloc a).alloc b) c
  have h1 := heap_alloc_new W a
  have h2 := heap_alloc_new (W.alloc a) b
  have h3 := heap_alloc_new ((W.alloc a).alloc b) c
  have h4 := heap_alloc_new (((W.alloc a).alloc b).alloc c) d
  rw [e1] at h2
  rw [e2, e1] at h3
  rw [e3, e2, e1] at h4
  exact ⟨bt (bt (bt (ba W _) (ba _ _)) (ba _ _)) (ba _ _), ((ba _ d).block _ (by omega)).trans (((ba _ c).block _ (by omega)).trans (((ba _ b).block _ (by omega)).trans h1)), ((ba _ d).block _ (by omega)).trans (((ba _ c).block _ (by omega)).trans h2), ((ba _ d).block _ (by omega)).trans h3, h4⟩
/-- A zero result. -/
def resZ : MRes := ⟨[], 0, false⟩
/-- What patch, Patch and Apply return. -/
def PatchRes (W : World) (base : Nat) (r : Option MRes) (e : Ending) (w' : World) : Prop := ∃ u, e = .returned (.tuple #[.agg (resC u (r.getD resZ).val (r.getD resZ).fnd), .bool r.isSome]) ∧ OwnR w' base u (r.getD resZ).rows ∧ Below W.heap.size W w'
set_option maxRecDepth 100000 in
set_option maxHeartbeats 8000000 in
theorem patch_at {q : MQ} {c : MCh} {r : MRes} {u : Value} {W : World} {base : Nat} {RP : Option MRes} {g : FuncId} (hv : validB q = true) (hO : OwnR W base u r.rows) (hb : base ≤ W.heap.size) (eg : ∀ args w, (callFunc g args).run Try.prog w = .ok (.enter g args) w) (hl : lookG patchersL q.kind = some (fnV g #[]))
    (hg : ∀ w rb, ResAt w rb base r → base ≤ w.heap.size → Calls Try.prog g #[ptr rb, .agg (effC q c)] w (PatchOut w rb base RP)) : Calls Try.prog 70 #[qV q, .agg (resC u r.val r.fnd), chV c] W (PatchRes W base RP) := by
  have hk := valid_ok hv
  have HBs : Hid (base ≤ W.heap.size) := Lib.hid hb
  have HF := Lib.hid (fun w => effectOf_any q c w hk.1.2.2.1 hk.1.2.2.2.2.2.1)
  have HG := Lib.hid hg
  have HO := Lib.hid hO
  have HL := Lib.hid (fun (w : World) (mb : Nat) (h : GMap w mb patchersL) => h.look Try.underlying173 (k := q.kind) hk.1.1 hl)
  obtain ⟨E, HEE⟩ : ∃ E, Hid (effC q c = E) := ⟨_, Lib.hid rfl⟩
  rw [HEE.out] at HF HG
  obtain ⟨ua, un, uc, rfl⟩ := hO.form
  clear hk hv hg HEE hl hO hb
  obtain ⟨rows, val, fnd⟩ := r
  simp only at HO ⊢
  obtain ⟨t, k, had, ⟨oa, ob, oc⟩, has, ⟨na, nb, nc⟩⟩ := c
  obtain ⟨qk, qt, qc, ql, qh, qy, qo⟩ := q
  unfold qV chV fnV at *
  simp only at *
  go_enter Try.func70, Try.ntmps70
  go_upto_region 1 with fail
  obtain ⟨w0, Hw0⟩ : ∃ w0, Hid ((((W.alloc (.cells #[.int .i64 qk, .int .i64 qt, .int .i64 qc, .int .i64 ql, .int .i64 qh, .int .i64 qy, .int .i64 qo] 29)).alloc (.cells #[.slice ua un uc, .int .i64 val, .bool fnd] 46)).alloc (.cells #[.int .i64 t, .int .i64 k, .bool had, .int .i64 oa, .int .i64 ob, .int .i64 oc, .bool has, .int .i64 na, .int .i64 nb, .int .i64 nc] 35)).alloc (.cells #[.slice none 0 0, .int .i64 0, .bool false] 46) = w0) := ⟨_, Lib.hid rfl⟩
  obtain ⟨hB0, hQ0, hR0, hC0, hZ0⟩ := four W (.cells #[.int .i64 qk, .int .i64 qt, .int .i64 qc, .int .i64 ql, .int .i64 qh, .int .i64 qy, .int .i64 qo] 29) (.cells #[.slice ua un uc, .int .i64 val, .bool fnd] 46) (.cells #[.int .i64 t, .int .i64 k, .bool had, .int .i64 oa, .int .i64 ob, .int .i64 oc, .bool has, .int .i64 na, .int .i64 nb, .int .i64 nc] 35) (.cells #[.slice none 0 0, .int .i64 0, .bool false] 46)
  rw [Hw0.out] at hB0 hQ0 hR0 hC0 hZ0 ⊢
  clear Hw0
  have HB0 := Lib.hid hB0
  have HQ0 := Lib.hid hQ0
  have HR0 := Lib.hid hR0
  have HC0 := Lib.hid hC0
  have HZ0 := Lib.hid hZ0
  clear hB0 hQ0 hR0 hC0 hZ0
  have HBd : Hid (Below w0.heap.size w0 w0.drew) := Lib.hid (below_drew _)
  have HK : Hid (∀ w : World, w.heap[W.heap.size]? = some (.cells #[.int .i64 qk, .int .i64 qt, .int .i64 qc, .int .i64 ql, .int .i64 qh, .int .i64 qy, .int .i64 qo] 29 (0, 0)) → w.heap[W.heap.size + 1 + 1]? = some (.cells #[.int .i64 t, .int .i64 k, .bool had, .int .i64 oa, .int .i64 ob, .int .i64 oc, .bool has, .int .i64 na, .int .i64 nb, .int .i64 nc] 35 (0, 0)) → w.cell? ⟨W.heap.size, 0, none⟩ = some (.int .i64 qk) ∧ w.cell? ⟨W.heap.size, 1, none⟩ = some (.int .i64 qt) ∧ w.cell? ⟨W.heap.size, 2, none⟩ = some (.int .i64 qc) ∧ w.cell? ⟨W.heap.size, 3, none⟩ = some (.int .i64 ql) ∧ w.cell? ⟨W.heap.size, 4, none⟩ = some (.int .i64 qh) ∧ w.cell? ⟨W.heap.size, 5, none⟩ = some (.int .i64 qy) ∧ w.cell? ⟨W.heap.size, 6, none⟩ = some (.int .i64 qo) ∧ w.cell? ⟨W.heap.size + 1 + 1, 0, none⟩ = some (.int .i64 t) ∧ w.cell? ⟨W.heap.size + 1 + 1, 1, none⟩ = some (.int .i64 k) ∧ w.cell? ⟨W.heap.size + 1 + 1, 2, none⟩ = some (.bool had) ∧ w.cell? ⟨W.heap.size + 1 + 1, 3, none⟩ = some (.int .i64 oa) ∧ w.cell? ⟨W.heap.size + 1 + 1, 4, none⟩ = some (.int .i64 ob) ∧ w.cell? ⟨W.heap.size + 1 + 1, 5, none⟩ = some (.int .i64 oc) ∧ w.cell? ⟨W.heap.size + 1 + 1, 6, none⟩ = some (.bool has) ∧ w.cell? ⟨W.heap.size + 1 + 1, 7, none⟩ = some (.int .i64 na) ∧ w.cell? ⟨W.heap.size + 1 + 1, 8, none⟩ = some (.int .i64 nb) ∧ w.cell? ⟨W.heap.size + 1 + 1, 9, none⟩ = some (.int .i64 nc)) := Lib.hid (fun w h1 h2 => by
    refine ⟨?_, ?_, ?_, ?_, ?_, ?_, ?_, ?_, ?_, ?_, ?_, ?_, ?_, ?_, ?_, ?_, ?_⟩ <;> simp [World.cell?, h1, h2])
  have HKb := Lib.hid (fun (w : World) (h : Hid (Below w0.heap.size w0 w)) => HK.out w ((h.out.block _ (lt_of_block HQ0.out)).trans HQ0.out) ((h.out.block _ (lt_of_block HC0.out)).trans HC0.out))
  have HKk := Lib.hid (fun (w w' : World) (h : Hid (Below w0.heap.size w0 w)) (k : Hid (Kept (fun i => i = W.heap.size + 1) w w')) => HK.out w' ((k.out.block _ (Nat.lt_of_lt_of_le (lt_of_block HQ0.out) h.out.size) (by omega)).trans ((h.out.block _ (lt_of_block HQ0.out)).trans HQ0.out)) ((k.out.block _ (Nat.lt_of_lt_of_le (lt_of_block HC0.out) h.out.size) (by omega)).trans ((h.out.block _ (lt_of_block HC0.out)).trans HC0.out)))
  have H117 : Hid (∀ w, Hid (Below w0.heap.size w0 w) → Calls Try.prog 117 #[] w fun e w' => ∃ mb, e = .returned (.map (some mb)) ∧ Hid (GMap w' mb patchersL) ∧ Hid (Below w0.heap.size w0 w')) := Lib.hid (fun w hb => (patchers_any w).mono fun e w' ⟨mb, h1, h2, h3⟩ => ⟨mb, h1, Lib.hid h2, Lib.hid (bt hb.out h3)⟩)
  have H78 : Hid (∀ w, Hid (Below w0.heap.size w0 w) → Calls Try.prog 78 #[.agg #[.int .i64 qk, .int .i64 qt, .int .i64 qc, .int .i64 ql, .int .i64 qh, .int .i64 qy, .int .i64 qo], .agg #[.int .i64 t, .int .i64 k, .bool had, .int .i64 oa, .int .i64 ob, .int .i64 oc, .bool has, .int .i64 na, .int .i64 nb, .int .i64 nc]] w fun e w' => e = .returned (.agg E) ∧ Hid (Below w.heap.size w w') ∧ Hid (Below w0.heap.size w0 w')) := Lib.hid (fun w hb => (HF.out w).mono fun e w' hw => ⟨hw.1, Lib.hid hw.2, Lib.hid (bt hb.out hw.2)⟩)
  have Hg : Hid (∀ w, Hid (Below w0.heap.size w0 w) → Calls Try.prog g #[.pointer (some ⟨W.heap.size + 1, 0, none⟩), .agg E] w fun e w' => ∃ bb, e = .returned (.bool bb) ∧ Hid (bb = RP.isSome) ∧ Hid (∀ r', RP = some r' → ResAt w' (W.heap.size + 1) base r') ∧ Hid (Kept (fun i => i = W.heap.size + 1) w w')) := Lib.hid (fun w hb => (HG.out w (W.heap.size + 1) ⟨_, (hb.out.block _ (lt_of_block HR0.out)).trans HR0.out, HO.out.below (bt HB0.out hb.out)⟩ (by have := HBs.out; have := HB0.out.size; have := hb.out.size; omega)).mono fun e w' ⟨h1, h2, h3⟩ => ⟨_, h1, Lib.hid rfl, Lib.hid h2, Lib.hid h3⟩)
  clear HF HG HK
  go_region_held3 (fun w => w.cell? ⟨W.heap.size, 0, none⟩ = some (.int .i64 qk) ∧ w.cell? ⟨W.heap.size, 1, none⟩ = some (.int .i64 qt) ∧ w.cell? ⟨W.heap.size, 2, none⟩ = some (.int .i64 qc) ∧ w.cell? ⟨W.heap.size, 3, none⟩ = some (.int .i64 ql) ∧ w.cell? ⟨W.heap.size, 4, none⟩ = some (.int .i64 qh) ∧ w.cell? ⟨W.heap.size, 5, none⟩ = some (.int .i64 qy) ∧ w.cell? ⟨W.heap.size, 6, none⟩ = some (.int .i64 qo) ∧ w.cell? ⟨W.heap.size + 1 + 1, 0, none⟩ = some (.int .i64 t) ∧ w.cell? ⟨W.heap.size + 1 + 1, 1, none⟩ = some (.int .i64 k) ∧ w.cell? ⟨W.heap.size + 1 + 1, 2, none⟩ = some (.bool had) ∧ w.cell? ⟨W.heap.size + 1 + 1, 3, none⟩ = some (.int .i64 oa) ∧ w.cell? ⟨W.heap.size + 1 + 1, 4, none⟩ = some (.int .i64 ob) ∧ w.cell? ⟨W.heap.size + 1 + 1, 5, none⟩ = some (.int .i64 oc) ∧ w.cell? ⟨W.heap.size + 1 + 1, 6, none⟩ = some (.bool has) ∧ w.cell? ⟨W.heap.size + 1 + 1, 7, none⟩ = some (.int .i64 na) ∧ w.cell? ⟨W.heap.size + 1 + 1, 8, none⟩ = some (.int .i64 nb) ∧ w.cell? ⟨W.heap.size + 1 + 1, 9, none⟩ = some (.int .i64 nc))
    (first | exact HKb.out _ HBd | exact HKb.out _ HB3 | exact HKb.out _ HB4 | exact HKk.out _ _ HB4 HK5)
    (first
      | (go_at_call 117; (with_reducible refine (H117.out _ HBd).mono ?_); rintro e w3 ⟨mb, rfl, HM, HB3⟩; have l3 := HL.out _ _ HM.out)
      | (go_at_call 78; (with_reducible refine (H78.out _ HB3).mono ?_); rintro e w4 ⟨rfl, HB34, HB4⟩; have l4 := HL.out _ _ (HM.out.below HB34.out))
      | ((with_reducible refine (Hg.out _ HB4).mono ?_); rintro e w5 ⟨bb, rfl, HBB, HPr, HK5⟩))
  all_goals
    have HB5 : Hid (Below W.heap.size W w5) := Lib.hid ((bt HB0.out HB4.out).trans (HK5.out.below (n := W.heap.size) (by have := HB0.out.size; have := HB4.out.size; omega) (fun k e => by omega)))
    have HZ5 : Hid (w5.heap[W.heap.size + 1 + 1 + 1]? = some (.cells #[.slice none 0 0, .int .i64 0, .bool false] 46 (0, 0))) := Lib.hid ((HK5.out.block _ (Nat.lt_of_lt_of_le (lt_of_block HZ0.out) HB4.out.size) (by omega)).trans ((HB4.out.block _ (lt_of_block HZ0.out)).trans HZ0.out))
    have HP5 := HPr
    have HBb := HBB
    clear HL H117 H78 Hg HKb HKk HPr HBB l3 HM HB3 HK5 HB4 HB0
    cases RP with
    | none =>
      obtain rfl : bb = false := HBb.out.trans rfl
      clear HP5 HBb
      go_wp2_with (refine wpList_store_row rfl 46 _ _ rfl (W.heap.size + 1 + 1 + 1) #[.slice none 0 0, .int .i64 0, .bool false] rfl rfl 46 _ HZ5.out (by kernel_rfl) rfl (by simp [Value.oneCell']) ?_)
      generalize hw6 : w5.setRow _ _ = w6
      have HZ6 : Hid (w6.heap[W.heap.size + 1 + 1 + 1]? = some (.cells #[.slice none 0 0, .int .i64 0, .bool false] 46 (0, 0))) := Lib.hid (by rw [← hw6]; exact setRow_heap _ _ _ _ _ _ HZ5.out)
      have HB6 : Hid (Below W.heap.size W w6) := Lib.hid (by rw [← hw6]; exact below_row HB5.out (by omega) _)
      refine bodyPost_ret (v := .tuple #[.agg #[.slice none 0 0, .int .i64 0, .bool false], .bool false]) (by simp [results, Try.results70, go_sem, World.cell?, HZ6.out]) rfl ?_
      exact ⟨_, rfl, OwnR.nil _ _, HB6.out⟩
    | some r' =>
      obtain rfl : bb = true := HBb.out.trans rfl
      obtain ⟨u', hu', hO'⟩ := HP5.out r' rfl
      obtain ⟨ya, yn, yc, rfl⟩ := hO'.form
      have HU5 := Lib.hid hu'
      have HO5 := Lib.hid hO'
      clear HP5 HBb hu' hO'
      obtain ⟨rows', val', fnd'⟩ := r'
      simp only at HU5 HO5
      go_wp2_with (first
        | refine wpList_load_row rfl 46 _ rfl (W.heap.size + 1) rfl 46 #[.slice ya yn yc, .int .i64 val', .bool fnd'] _ _ HU5.out Try.underlying46 rfl (by kernel_rfl) ?_
        | refine wpList_store_row rfl 46 _ _ rfl (W.heap.size + 1 + 1 + 1) #[.slice ya yn yc, .int .i64 val', .bool fnd'] rfl rfl 46 _ HZ5.out (by kernel_rfl) rfl (by simp [Value.oneCell']) ?_)
      generalize hw6 : w5.setRow _ _ = w6
      have HZ6 : Hid (w6.heap[W.heap.size + 1 + 1 + 1]? = some (.cells #[.slice ya yn yc, .int .i64 val', .bool fnd'] 46 (0, 0))) := Lib.hid (by rw [← hw6]; exact setRow_heap _ _ _ _ _ _ HZ5.out)
      have HB6 : Hid (Below W.heap.size W w6) := Lib.hid (by rw [← hw6]; exact below_row HB5.out (by omega) _)
      have HO6 : Hid (OwnR w6 base (.slice ya yn yc) rows') := Lib.hid (by
        rw [← hw6]
        exact HO5.out.kept' (F := fun k => k = W.heap.size + 1 + 1 + 1) (kept_row (F := fun k => k = W.heap.size + 1 + 1 + 1) (Kept.of_below (Below.refl _ _)) (.inl rfl) _) (fun i hi e => own_ne HO5.out HZ5.out (by decide) i hi e))
      refine bodyPost_ret (v := .tuple #[.agg #[.slice ya yn yc, .int .i64 val', .bool fnd'], .bool true]) (by simp [results, Try.results70, go_sem, World.cell?, HZ6.out]) rfl ?_
      exact ⟨_, rfl, HO6.out, HB6.out⟩
end Go.Proofs.Ytgbnjjgnihjfgaa
end

section
set_option linter.unusedVariables false
set_option linter.unusedSimpArgs false
namespace Go.Proofs.Ytgbnjjgnihjfgaa
open Go.RowKit Go.Sort Go.ChangeMaps Go.MapKept

set_option maxRecDepth 100000 in
set_option maxHeartbeats 4000000 in
theorem patchJoin_same {q : MQ} {c : MCh} {rb base : Nat} {W : World} (he : q.table = q.other) : Calls Try.prog 160 #[ptr rb, .agg (effC q c)] W (PatchOut W rb base none) := by
  have HE : Hid (EffAt (W.alloc (.cells (effC q c) 132)) W.heap.size q c) := Lib.hid (EffAt.new W q c)
  have HB : Hid (Below W.heap.size W (W.alloc (.cells (effC q c) 132))) := Lib.hid (ba W _)
  unfold EffAt at HE
  have HA : Hid ((effC q c)[1]? = some (.int .i64 q.table) ∧ (effC q c)[6]? = some (.int .i64 q.other)) := Lib.hid ⟨rfl, rfl⟩
  generalize q.table = qt at *
  generalize q.other = qo at *
  generalize effC q c = E at *
  have d1 : (qt == qo) = true := by simp [he]
  clear he
  unfold ptr
  go_enter Try.func160, Try.ntmps160
  go_upto_region 1 with fail
  generalize W.alloc (.cells E 132) = w0 at *
  have c1 : w0.cell? ⟨W.heap.size, 1, none⟩ = some (.int .i64 qt) := by simp [World.cell?, HE.out, HA.out]
  have c6 : w0.cell? ⟨W.heap.size, 6, none⟩ = some (.int .i64 qo) := by simp [World.cell?, HE.out, HA.out]
  go_wp2_with fail
  go_ret
  exact ⟨rfl, fun r' h => (by cases h), Kept.of_below HB.out⟩
/-- **patch, of whatever kind.** -/
theorem patch_any {q : MQ} {c : MCh} {r : MRes} {u : Value} {W : World} {base : Nat} (hv : validB q = true) (hO : OwnR W base u r.rows) (hb : base ≤ W.heap.size) (hl : r.rows.length ≤ 39999) : Calls Try.prog 70 #[qV q, .agg (resC u r.val r.fnd), chV c] W (PatchRes W base (patchM q r c)) := by
  have hk := valid_ok hv
  have hq : I64 q.column := hk.1.2.2.1
  have hlk : ∀ (k : Int) (v : Value), q.kind = k → lookG patchersL k = some v → lookG patchersL q.kind = some v := fun k v h h' => by rw [h]; exact h'
  unfold patchM
  obtain h | h | h | h | h | h | h : q.kind = 1 ∨ q.kind = 2 ∨ q.kind = 3 ∨ q.kind = 4 ∨ q.kind = 5 ∨ q.kind = 6 ∨ q.kind = 7 := by have := hk.2; omega
  · rw [if_pos (by omega)]
    exact patch_at hv hO hb (enters_of Try.func153 (by kernel_rfl) rfl) (hlk _ _ h rfl) (fun w rb hR hb' => patchRows_any hR hl hb' hq)
  · rw [if_pos (by omega)]
    exact patch_at hv hO hb (enters_of Try.func153 (by kernel_rfl) rfl) (hlk _ _ h rfl) (fun w rb hR hb' => patchRows_any hR hl hb' hq)
  · rw [if_neg (by omega), if_pos (by omega)]
    exact patch_at hv hO hb (enters_of Try.func154 (by kernel_rfl) rfl) (hlk _ _ h rfl) (fun w rb hR hb' => patchCount_any hR)
  · rw [if_neg (by omega), if_neg (by omega), if_pos (by omega)]
    exact patch_at hv hO hb (enters_of Try.func155 (by kernel_rfl) rfl) (hlk _ _ h rfl) (fun w rb hR hb' => patchSum_any hR)
  · rw [if_neg (by omega), if_neg (by omega), if_neg (by omega), if_pos (by omega)]
    exact patch_at hv hO hb (enters_of Try.func156 (by kernel_rfl) rfl) (hlk _ _ h rfl) (fun w rb hR hb' => patchMin_any hR)
  · rw [if_neg (by omega), if_neg (by omega), if_neg (by omega), if_neg (by omega), if_pos (by omega)]
    exact patch_at hv hO hb (enters_of Try.func158 (by kernel_rfl) rfl) (hlk _ _ h rfl) (fun w rb hR hb' => patchMax_any hR)
  · rw [if_neg (by omega), if_neg (by omega), if_neg (by omega), if_neg (by omega), if_neg (by omega)]
    by_cases he : q.table = q.other
    · rw [if_pos he]
      exact patch_at hv hO hb (enters_of Try.func160 (by kernel_rfl) rfl) (hlk _ _ h rfl) (fun w rb hR hb' => patchJoin_same he)
    · rw [if_neg he]
      by_cases hc : c.t = q.other
      · rw [if_pos hc]
        exact patch_at hv hO hb (enters_of Try.func160 (by kernel_rfl) rfl) (hlk _ _ h rfl) (fun w rb hR hb' => patchJoin_right hR hb' hq hl he hc)
      · rw [if_neg hc]
        exact patch_at hv hO hb (enters_of Try.func160 (by kernel_rfl) rfl) (hlk _ _ h rfl) (fun w rb hR hb' => patchJoin_left hR hb' hq hl he hc)
/-- What Patch makes of a result. -/
def patchF (q : MQ) (r : MRes) (c : MCh) : Option MRes := if touchB q c then patchM q r c else some r
theorem touch_valid {q : MQ} {c : MCh} (h : touchB q c = true) : validB q = true := by
  unfold touchB at h
  cases hv : validB q
  · rw [hv] at h
    simp at h
  · rfl
set_option maxRecDepth 100000 in
set_option maxHeartbeats 8000000 in
/-- **Patch.** -/
theorem Patch_any {q : MQ} {c : MCh} {r : MRes} {u : Value} {W : World} (hR : RowS W u r.rows) (hl : r.rows.length ≤ 39999) : Calls Try.prog 25 #[qV q, .agg (resC u r.val r.fnd), chV c] W (PatchRes W W.heap.size (patchF q r c)) := by
  have HT := Lib.hid (fun w => touches_any q c w)
  have HP := Lib.hid (fun (ht : touchB q c = true) (w : World) (base : Nat) (v : Value) (h : OwnR w base v r.rows) (h2 : base ≤ w.heap.size) => patch_any (c := c) (touch_valid ht) h h2 hl)
  have HL : Hid (r.rows.length ≤ 39999) := Lib.hid hl
  have HR := Lib.hid hR
  have HPF : Hid (patchF q r c = if touchB q c then patchM q r c else some r) := Lib.hid rfl
  obtain ⟨RF, HRF⟩ : ∃ RF, Hid (patchF q r c = RF) := ⟨_, Lib.hid rfl⟩
  rw [HRF.out] at HPF ⊢
  obtain ⟨RM, HRM⟩ : ∃ RM, Hid (patchM q r c = RM) := ⟨_, Lib.hid rfl⟩
  rw [HRM.out] at HPF HP
  obtain ⟨tb, HTB⟩ : ∃ tb, Hid (touchB q c = tb) := ⟨_, Lib.hid rfl⟩
  rw [HTB.out] at HPF HP HT
  obtain ⟨ua, un, uc, rfl, -⟩ := id hR
  clear hR hl HRF HRM HTB
  obtain ⟨rows, val, fnd⟩ := r
  simp only at HL HR HP
  obtain ⟨t, k, had, ⟨oa, ob, oc⟩, has, ⟨na, nb, nc⟩⟩ := c
  obtain ⟨qk, qt, qc, ql, qh, qy, qo⟩ := q
  unfold qV chV at *
  simp only at *
  go_enter Try.func25, Try.ntmps25
  go_upto_region 1 with fail
  obtain ⟨w0, Hw0⟩ : ∃ w0, Hid ((((W.alloc (.cells #[.int .i64 qk, .int .i64 qt, .int .i64 qc, .int .i64 ql, .int .i64 qh, .int .i64 qy, .int .i64 qo] 29)).alloc (.cells #[.slice ua un uc, .int .i64 val, .bool fnd] 46)).alloc (.cells #[.int .i64 t, .int .i64 k, .bool had, .int .i64 oa, .int .i64 ob, .int .i64 oc, .bool has, .int .i64 na, .int .i64 nb, .int .i64 nc] 35)).alloc (.cells #[.slice none 0 0, .int .i64 0, .bool false] 46) = w0) := ⟨_, Lib.hid rfl⟩
  obtain ⟨hB0, hQ0, hR0, hC0, hZ0⟩ := four W (.cells #[.int .i64 qk, .int .i64 qt, .int .i64 qc, .int .i64 ql, .int .i64 qh, .int .i64 qy, .int .i64 qo] 29) (.cells #[.slice ua un uc, .int .i64 val, .bool fnd] 46) (.cells #[.int .i64 t, .int .i64 k, .bool had, .int .i64 oa, .int .i64 ob, .int .i64 oc, .bool has, .int .i64 na, .int .i64 nb, .int .i64 nc] 35) (.cells #[.slice none 0 0, .int .i64 0, .bool false] 46)
  rw [Hw0.out] at hB0 hQ0 hR0 hC0 hZ0 ⊢
  clear Hw0
  have HB0 := Lib.hid hB0
  have HQ0 := Lib.hid hQ0
  have HR0 := Lib.hid hR0
  have HC0 := Lib.hid hC0
  have HZ0 := Lib.hid hZ0
  have HCl := Lib.hid (clone_rows (HR.out.below hB0) (by have := HL.out; omega))
  clear hB0 hQ0 hR0 hC0 hZ0
  have r0 : w0.cell? ⟨W.heap.size + 1, 0, none⟩ = some (.slice ua un uc) := by simp [World.cell?, HR0.out]
  go_wp2_with fail
  (with_reducible refine HCl.out.mono ?_)
  rintro e w1 ⟨v1, rfl, hO1, hb1⟩
  obtain ⟨va, vn, vcap, rfl⟩ := hO1.form
  have HQ1 := Lib.hid ((hb1.block _ (lt_of_block HQ0.out)).trans HQ0.out)
  have HR1 := Lib.hid ((hb1.block _ (lt_of_block HR0.out)).trans HR0.out)
  have HC1 := Lib.hid ((hb1.block _ (lt_of_block HC0.out)).trans HC0.out)
  have HZ1 := Lib.hid ((hb1.block _ (lt_of_block HZ0.out)).trans HZ0.out)
  have HB1 := Lib.hid (bt HB0.out hb1)
  have HO1 := Lib.hid hO1
  have hz0 : W.heap.size ≤ w0.heap.size := HB0.out.size
  have hz1 : w0.heap.size ≤ w1.heap.size := hb1.size
  clear hO1 hb1 r0 HCl HR HQ0 HR0 HC0 HZ0
  have r0 : w1.cell? ⟨W.heap.size + 1, 0, none⟩ = some (.slice ua un uc) := by simp [World.cell?, HR1.out]
  have rf : w1.frozen? ⟨W.heap.size + 1, 0, none⟩ = false := by simp [World.frozen?, HR1.out]
  go_upto_region 2 with fail
  generalize hw2 : w1.setCell ⟨W.heap.size + 1, 0, none⟩ (.slice va vn vcap) = w2
  have HQ2 : Hid (w2.heap[W.heap.size]? = some (.cells #[.int .i64 qk, .int .i64 qt, .int .i64 qc, .int .i64 ql, .int .i64 qh, .int .i64 qy, .int .i64 qo] 29 (0, 0))) := Lib.hid (by rw [← hw2, Below.heap_setCell _ _ _ _ (by show ¬ W.heap.size = W.heap.size + 1; omega)]; exact HQ1.out)
  have HC2 : Hid (w2.heap[W.heap.size + 1 + 1]? = some (.cells #[.int .i64 t, .int .i64 k, .bool had, .int .i64 oa, .int .i64 ob, .int .i64 oc, .bool has, .int .i64 na, .int .i64 nb, .int .i64 nc] 35 (0, 0))) := Lib.hid (by rw [← hw2, Below.heap_setCell _ _ _ _ (by show ¬ W.heap.size + 1 + 1 = W.heap.size + 1; omega)]; exact HC1.out)
  have HZ2 : Hid (w2.heap[W.heap.size + 1 + 1 + 1]? = some (.cells #[.slice none 0 0, .int .i64 0, .bool false] 46 (0, 0))) := Lib.hid (by rw [← hw2, Below.heap_setCell _ _ _ _ (by show ¬ W.heap.size + 1 + 1 + 1 = W.heap.size + 1; omega)]; exact HZ1.out)
  have HR2 : Hid (w2.heap[W.heap.size + 1]? = some (.cells #[.slice va vn vcap, .int .i64 val, .bool fnd] 46 (0, 0))) := Lib.hid (by rw [← hw2]; exact setC_heap HR1.out 0 _)
  have HO2 : Hid (OwnR w2 w0.heap.size (.slice va vn vcap) rows) := Lib.hid (by rw [← hw2]; exact own_setc HO1.out HR1.out)
  have HB2 : Hid (Below W.heap.size W w2) := Lib.hid (by
    have h := (Kept.setCell (F := fun i => i = W.heap.size + 1) (p := ⟨W.heap.size + 1, 0, none⟩) (Kept.of_below HB1.out) (.inl rfl) (.slice va vn vcap)).below (Nat.le_refl _) (fun k e => by omega)
    rw [hw2] at h
    exact h)
  have hz2 : w0.heap.size ≤ w2.heap.size := by
    rw [← hw2]
    simpa using hz1
  clear hw2 r0 rf HQ1 HR1 HC1 HZ1 HB1 HO1 hz1
  have HT2 := Lib.hid (HT.out w2)
  clear HT
  go_wp2_with (first
    | refine wpList_load_row rfl 29 _ rfl W.heap.size rfl 29 _ _ _ HQ2.out Try.underlying29 rfl (by kernel_rfl) ?_
    | refine wpList_load_row rfl 35 _ rfl (W.heap.size + 1 + 1) rfl 35 _ _ _ HC2.out Try.underlying35 rfl (by kernel_rfl) ?_)
  (with_reducible refine HT2.out.mono ?_)
  rintro e w3 ⟨rfl, hb3⟩
  have HQ3 := Lib.hid ((hb3.block _ (lt_of_block HQ2.out)).trans HQ2.out)
  have HR3 := Lib.hid ((hb3.block _ (lt_of_block HR2.out)).trans HR2.out)
  have HC3 := Lib.hid ((hb3.block _ (lt_of_block HC2.out)).trans HC2.out)
  have HZ3 := Lib.hid ((hb3.block _ (lt_of_block HZ2.out)).trans HZ2.out)
  have HB3 := Lib.hid (bt HB2.out hb3)
  have HO3 := Lib.hid (HO2.out.below hb3)
  have hz3 : w0.heap.size ≤ w3.heap.size := Nat.le_trans hz2 hb3.size
  clear hb3 HT2 HQ2 HR2 HC2 HZ2 HB2 HO2 hz2
  cases tb
  · have HPG : Hid (RF = some ⟨rows, val, fnd⟩) := Lib.hid (by have h := HPF.out; simpa using h)
    clear HPF HP
    go_wp2_with (first
      | refine wpList_load_row rfl 46 _ rfl (W.heap.size + 1) rfl 46 #[.slice va vn vcap, .int .i64 val, .bool fnd] _ _ HR3.out Try.underlying46 rfl (by kernel_rfl) ?_
      | refine wpList_store_row rfl 46 _ _ rfl (W.heap.size + 1 + 1 + 1) #[.slice va vn vcap, .int .i64 val, .bool fnd] rfl rfl 46 _ HZ3.out (by kernel_rfl) rfl (by simp [Value.oneCell']) ?_)
    generalize hw6 : w3.setRow _ _ = w6
    have HZ6 : Hid (w6.heap[W.heap.size + 1 + 1 + 1]? = some (.cells #[.slice va vn vcap, .int .i64 val, .bool fnd] 46 (0, 0))) := Lib.hid (by rw [← hw6]; exact setRow_heap _ _ _ _ _ _ HZ3.out)
    have HB6 : Hid (Below W.heap.size W w6) := Lib.hid (by rw [← hw6]; exact below_row HB3.out (by omega) _)
    have HO6 : Hid (OwnR w6 W.heap.size (.slice va vn vcap) rows) := Lib.hid (by
      rw [← hw6]
      exact (HO3.out.mono (by omega)).kept' (F := fun k => k = W.heap.size + 1 + 1 + 1) (kept_row (F := fun k => k = W.heap.size + 1 + 1 + 1) (Kept.of_below (Below.refl _ _)) (.inl rfl) _) (fun i hi e => own_ne HO3.out HZ3.out (by decide) i hi e))
    refine bodyPost_ret (v := .tuple #[.agg #[.slice va vn vcap, .int .i64 val, .bool fnd], .bool true]) (by simp [results, Try.results25, go_sem, World.cell?, HZ6.out]) rfl ?_
    rw [HPG.out]
    exact ⟨_, rfl, HO6.out, HB6.out⟩
  · have HPG : Hid (RF = RM) := Lib.hid (by have h := HPF.out; simpa using h)
    have HP3 := Lib.hid (HP.out rfl w3 _ _ HO3.out hz3)
    clear HPF HP
    go_wp2_with (first
      | refine wpList_load_row rfl 29 _ rfl W.heap.size rfl 29 _ _ _ HQ3.out Try.underlying29 rfl (by kernel_rfl) ?_
      | refine wpList_load_row rfl 46 _ rfl (W.heap.size + 1) rfl 46 _ _ _ HR3.out Try.underlying46 rfl (by kernel_rfl) ?_
      | refine wpList_load_row rfl 35 _ rfl (W.heap.size + 1 + 1) rfl 35 _ _ _ HC3.out Try.underlying35 rfl (by kernel_rfl) ?_)
    (with_reducible refine HP3.out.mono ?_)
    rintro e w4 ⟨u4, rfl, hO4, hb4⟩
    have HZ4 := Lib.hid ((hb4.block _ (lt_of_block HZ3.out)).trans HZ3.out)
    have HB4 := Lib.hid (bt HB3.out hb4)
    obtain ⟨ya, yn, yc, rfl⟩ := hO4.form
    have HO4 := Lib.hid hO4
    obtain ⟨⟨rows', val', fnd'⟩, HRd⟩ : ∃ x, Hid (RM.getD resZ = x) := ⟨_, Lib.hid rfl⟩
    have hv : (RM.getD resZ).val = val' := by rw [HRd.out]
    have hf : (RM.getD resZ).fnd = fnd' := by rw [HRd.out]
    rw [HRd.out] at HO4
    simp only [hv, hf] at HO4 ⊢
    obtain ⟨bb, HBB⟩ : ∃ bb, Hid (RM.isSome = bb) := ⟨_, Lib.hid rfl⟩
    rw [HBB.out]
    clear hb4 hO4 HP3 hv hf
    go_wp2_with (refine wpList_store_row rfl 46 _ _ rfl (W.heap.size + 1 + 1 + 1) #[.slice ya yn yc, .int .i64 val', .bool fnd'] rfl rfl 46 _ HZ4.out (by kernel_rfl) rfl (by simp [Value.oneCell']) ?_)
    generalize hw6 : w4.setRow _ _ = w6
    have HZ6 : Hid (w6.heap[W.heap.size + 1 + 1 + 1]? = some (.cells #[.slice ya yn yc, .int .i64 val', .bool fnd'] 46 (0, 0))) := Lib.hid (by rw [← hw6]; exact setRow_heap _ _ _ _ _ _ HZ4.out)
    have HB6 : Hid (Below W.heap.size W w6) := Lib.hid (by rw [← hw6]; exact below_row HB4.out (by omega) _)
    have HO6 : Hid (OwnR w6 W.heap.size (.slice ya yn yc) rows') := Lib.hid (by
      rw [← hw6]
      exact (HO4.out.mono (by omega)).kept' (F := fun k => k = W.heap.size + 1 + 1 + 1) (kept_row (F := fun k => k = W.heap.size + 1 + 1 + 1) (Kept.of_below (Below.refl _ _)) (.inl rfl) _) (fun i hi e => own_ne HO4.out HZ4.out (by decide) i hi e))
    refine bodyPost_ret (v := .tuple #[.agg #[.slice ya yn yc, .int .i64 val', .bool fnd'], .bool bb]) (by simp [results, Try.results25, go_sem, World.cell?, HZ6.out]) rfl ?_
    rw [HPG.out]
    exact ⟨_, by rw [HRd.out, HBB.out], by rw [HRd.out]; exact HO6.out, HB6.out⟩
end Go.Proofs.Ytgbnjjgnihjfgaa
end
