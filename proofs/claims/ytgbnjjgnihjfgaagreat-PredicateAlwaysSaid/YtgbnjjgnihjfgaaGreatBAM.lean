/- PW, PY, PZ, PL, PI, PJ, A8 -/
import Derived.Test.YtgbnjjgnihjfgaaGreatProg
import Derived.WalkKit
import Derived.Below
import Derived.Lib.Hide
import Derived.Laws.StructEq
import Derived.Lib.QuietBelow
import Derived.Deep.RegionHeld3
import Derived.Deep.RegionWith
import Derived.IntWalk
import Derived.BigQuiet
import Derived.Maps.RangeWalk
import Derived.DeepKeys4
import Derived.OneCell
import Derived.StillTail
import Derived.Deep.CutRange
import Derived.Outline
import Derived.WalkSpells
import Derived.Carry
import Derived.Shelf.SlGeneric
import Derived.Shelf.SlSortCmp.WholeK
import Derived.Shelf.SlicesG.Cmp
import Derived.Ground.SlsfProg
import Derived.Ground.SlgcProg
import Derived.Sort.OwnSorted
import Derived.Deep.AppendLies
import Derived.Shelf.SlSortCmp.NoneTotal
import Derived.Deep.QuietTactic
import Derived.Laws.AppendOwnNone
import Derived.Laws.EntriesVeiled
import Derived.Lib.SliceRun
import Derived.Deep.Cut
import Derived.Laws.ResultCell
import Derived.ArgAppend
import Derived.Laws.Rows
import Derived.Great.BuildSlice
import Derived.Great.Frames
import Derived.Deep.DeepCutAuto
import Derived.Test.YtgbnjjgnihjfgaaGreatBAG
import Derived.Test.YtgbnjjgnihjfgaaGreatBAJ
import Derived.Test.YtgbnjjgnihjfgaaGreatBAH
import Derived.Test.YtgbnjjgnihjfgaaGreatBAK
import Derived.Test.YtgbnjjgnihjfgaaGreatBAE
import Derived.Test.YtgbnjjgnihjfgaaGreatBAB
import Derived.Test.YtgbnjjgnihjfgaaGreatBAA
import Derived.Test.YtgbnjjgnihjfgaaGreatBAI
import Derived.Test.YtgbnjjgnihjfgaaGreatBAC
import Derived.Test.YtgbnjjgnihjfgaaGreatBAD
import Derived.Test.YtgbnjjgnihjfgaaGreatBAF
import Derived.Lib.AppendZeros
import Derived.Lib.Overlaps
import Derived.Laws.CopyRow
import Derived.Laws.AppendOwn
import Derived.Laws.Externs
import Derived.Deep.RegionLawGrows
section
set_option linter.unusedVariables false
set_option linter.unusedSimpArgs false
namespace Go.Proofs.YtgbnjjgnihjfgaaGreat
open Go.RowKit Go.Sort Go.ChangeMaps Go.MapKept

set_option maxRecDepth 100000 in
set_option maxHeartbeats 4000000 in
theorem effPrec_any (q : MQ) (c : MCh) (r : MRow) (hq : I64 q.column) (W : World) : Calls Tryz.prog 137 #[.agg (effC q c), rowV r] W fun e w' => e = .returned (.bool (precQ q (aftR c) r)) ∧ Below W.heap.size W w' := by
  have HA : Hid ((effC q c)[25]? = some (.int .i64 (aftR c).t) ∧ (effC q c)[26]? = some (.int .i64 (aftR c).k) ∧ (effC q c)[27]? = some (.int .i64 (aftR c).v.a) ∧ (effC q c)[28]? = some (.int .i64 (aftR c).v.b) ∧ (effC q c)[29]? = some (.int .i64 (aftR c).v.c) ∧ (effC q c)[2]? = some (.int .i64 q.column)) := Lib.hid ⟨rfl, rfl, rfl, rfl, rfl, rfl⟩
  have HP : Hid (precQ q (aftR c) r = decide (cmpR q.column (aftR c) r < 0)) := Lib.hid (by
    unfold precQ
    rw [decide_eq_decide]
    exact (cmpR_neg _ _ _).symm)
  rw [HP.out]
  clear HP
  generalize effC q c = E at *
  generalize q.column = col at *
  generalize aftR c = x at *
  obtain ⟨at', ak, ⟨a1, a2, a3⟩⟩ := x
  obtain ⟨rt, rk, ⟨r1, r2, r3⟩⟩ := r
  simp only at HA
  have HV1 := Lib.hid (fun w => value_any at' ak a1 a2 a3 col w hq.1 hq.2)
  have HV2 := Lib.hid (fun w => value_any rt rk r1 r2 r3 col w hq.1 hq.2)
  obtain ⟨vx, Hvx⟩ : ∃ v, Hid (vget ⟨at', ak, ⟨a1, a2, a3⟩⟩ col = v) := ⟨_, Lib.hid rfl⟩
  obtain ⟨vy, Hvy⟩ : ∃ v, Hid (vget ⟨rt, rk, ⟨r1, r2, r3⟩⟩ col = v) := ⟨_, Lib.hid rfl⟩
  have HR : Hid (cmpR col ⟨at', ak, ⟨a1, a2, a3⟩⟩ ⟨rt, rk, ⟨r1, r2, r3⟩⟩ = orI (Lib.compareInt vx vy) (Lib.compareInt ak rk)) := Lib.hid (by rw [← Hvx.out, ← Hvy.out]; rfl)
  rw [Hvx.out] at HV1
  rw [Hvy.out] at HV2
  rw [HR.out]
  have HC1 := Lib.hid (fun w => (Tryz.cmp_Compare_int vx vy w).mono fun e w' (h : _ ∧ w' = w) => (⟨h.1, by rw [h.2]; exact Below.refl _ _⟩ : e = .returned (.int .i64 (Lib.compareInt vx vy)) ∧ Below w.heap.size w w'))
  have HC2 := Lib.hid (fun w => (Tryz.cmp_Compare_int ak rk w).mono fun e w' (h : _ ∧ w' = w) => (⟨h.1, by rw [h.2]; exact Below.refl _ _⟩ : e = .returned (.int .i64 (Lib.compareInt ak rk)) ∧ Below w.heap.size w w'))
  generalize Lib.compareInt vx vy = c1 at *
  generalize Lib.compareInt ak rk = c2 at *
  have HO := Lib.hid (fun (g : Nat) (w : World) (h0 : w.cell? ⟨g, 0, none⟩ = some (.int .i64 c1)) (h1 : w.cell? ⟨g, 1, none⟩ = some (.int .i64 c2)) => or_two g c1 c2 w h0 h1)
  generalize orI c1 c2 = oo at *
  have HE0 : Hid ((W.alloc (.cells E 97)).heap[W.heap.size]? = some (.cells E 97 (0, 0))) := Lib.hid (heap_alloc_new W _)
  clear hq Hvx Hvy HR
  go_enter Tryz.func137, Tryz.ntmps137
  go_upto_region 1 with fail
  generalize hw0 : (W.alloc (.cells E 97)).alloc (.cells #[.int .i64 rt, .int .i64 rk, .int .i64 r1, .int .i64 r2, .int .i64 r3] 57) = w0
  have HB0 : Hid (Below W.heap.size W w0) := Lib.hid (by rw [← hw0]; exact bt (ba W _) (ba _ _))
  have HE : Hid (w0.heap[W.heap.size]? = some (.cells E 97 (0, 0))) := Lib.hid (by
    rw [← hw0]
    exact ((ba (W.alloc _) _).block _ (by simp)).trans (heap_alloc_new W _))
  have HX : Hid (w0.heap[W.heap.size + 1]? = some (.cells #[.int .i64 rt, .int .i64 rk, .int .i64 r1, .int .i64 r2, .int .i64 r3] 57 (0, 0))) := Lib.hid (by
    rw [← hw0]
    have h := heap_alloc_new (W.alloc (.cells E 97)) (.cells #[.int .i64 rt, .int .i64 rk, .int .i64 r1, .int .i64 r2, .int .i64 r3] 57)
    rw [World.size_alloc] at h
    exact h)
  clear hw0 HE0
  have e25 : w0.cell? ⟨W.heap.size, 25, none⟩ = some (.int .i64 at') := by simp [World.cell?, HE.out, HA.out]
  have e26 : w0.cell? ⟨W.heap.size, 26, none⟩ = some (.int .i64 ak) := by simp [World.cell?, HE.out, HA.out]
  have e27 : w0.cell? ⟨W.heap.size, 27, none⟩ = some (.int .i64 a1) := by simp [World.cell?, HE.out, HA.out]
  have e28 : w0.cell? ⟨W.heap.size, 28, none⟩ = some (.int .i64 a2) := by simp [World.cell?, HE.out, HA.out]
  have e29 : w0.cell? ⟨W.heap.size, 29, none⟩ = some (.int .i64 a3) := by simp [World.cell?, HE.out, HA.out]
  have e2 : w0.cell? ⟨W.heap.size, 2, none⟩ = some (.int .i64 col) := by simp [World.cell?, HE.out, HA.out]
  go_wp2_with fail
  (with_reducible refine (HV1.out _).mono ?_)
  rintro e w1 ⟨rfl, hb⟩
  have HB1 := Lib.hid (bt HB0.out hb)
  have HE1 := Lib.hid ((hb.block _ (lt_of_block HE.out)).trans HE.out)
  have HX1 := Lib.hid ((hb.block _ (lt_of_block HX.out)).trans HX.out)
  clear hb e25 e26 e27 e28 e29 e2
  go_upto_region 2 with fail
  have HGe : Hid (∀ w2, BW w1 w2 → ∀ d' os, (grow (redrawn w2 d') os).heap[W.heap.size]? = some (.cells E 97 (0, 0))) := Lib.hid (fun w2 h d' os => ((show Below w1.heap.size w1 (grow (redrawn w2 d') os) from bt h (below_regrown w2 d' os)).block _ (lt_of_block HE1.out)).trans HE1.out)
  have HGx : Hid (∀ w2, BW w1 w2 → ∀ d' os, (grow (redrawn w2 d') os).heap[W.heap.size + 1]? = some (.cells #[.int .i64 rt, .int .i64 rk, .int .i64 r1, .int .i64 r2, .int .i64 r3] 57 (0, 0))) := Lib.hid (fun w2 h d' os => ((show Below w1.heap.size w1 (grow (redrawn w2 d') os) from bt h (below_regrown w2 d' os)).block _ (lt_of_block HX1.out)).trans HX1.out)
  have e2 : ∀ wz, BW w1 wz → ∀ d' os, (grow (redrawn wz d') os).cell? ⟨W.heap.size, 2, none⟩ = some (.int .i64 col) := fun wz h d' os => by simp [World.cell?, HGe.out wz h d' os, HA.out]
  have e26 : ∀ wz, BW w1 wz → ∀ d' os, (grow (redrawn wz d') os).cell? ⟨W.heap.size, 26, none⟩ = some (.int .i64 ak) := fun wz h d' os => by simp [World.cell?, HGe.out wz h d' os, HA.out]
  have x0 : ∀ wz, BW w1 wz → ∀ d' os, (grow (redrawn wz d') os).cell? ⟨W.heap.size + 1, 0, none⟩ = some (.int .i64 rt) := fun wz h d' os => by simp [World.cell?, HGx.out wz h d' os]
  have x1 : ∀ wz, BW w1 wz → ∀ d' os, (grow (redrawn wz d') os).cell? ⟨W.heap.size + 1, 1, none⟩ = some (.int .i64 rk) := fun wz h d' os => by simp [World.cell?, HGx.out wz h d' os]
  have x2 : ∀ wz, BW w1 wz → ∀ d' os, (grow (redrawn wz d') os).cell? ⟨W.heap.size + 1, 2, none⟩ = some (.int .i64 r1) := fun wz h d' os => by simp [World.cell?, HGx.out wz h d' os]
  have x3 : ∀ wz, BW w1 wz → ∀ d' os, (grow (redrawn wz d') os).cell? ⟨W.heap.size + 1, 3, none⟩ = some (.int .i64 r2) := fun wz h d' os => by simp [World.cell?, HGx.out wz h d' os]
  have x4 : ∀ wz, BW w1 wz → ∀ d' os, (grow (redrawn wz d') os).cell? ⟨W.heap.size + 1, 4, none⟩ = some (.int .i64 r3) := fun wz h d' os => by simp [World.cell?, HGx.out wz h d' os]
  refine wp_region_calm 14 99 [0, 1, 2, 3, 4, 5, 6, 7, 8, 9, 10, 11, 12, 13] (by kernel_rfl) (by kernel_rfl) (by intro oz h; simp at h) (by intro oz h; simp at h) (by rfl) ?_
  simp only [List.take_succ_cons, List.take_zero]
  iterate 5
    apply wpCalm_want
    · rfl
    · exact bc_refl
    · exact ⟨_, Below.refl _ _⟩
    · intro w00 hC0 K hK
      go_big_quiet_op
      exact hK
  apply wpCalm_want
  · rfl
  · exact bc_refl
  · exact ⟨_, Below.refl _ _⟩
  · intro w00 hC0 K hK
    go_big_quiet_op
    apply Exists.intro
    refine ⟨fun p => ?_, ?_⟩
    · exact Calls.regrown_of (HV2.out _)
    · exact hK
  apply wpCalm_want
  · rfl
  · exact bc_refl
  · exact ⟨_, Below.refl _ _⟩
  · intro w00 hC0 K hK
    go_big_quiet_op
    apply Exists.intro
    refine ⟨fun p => ?_, ?_⟩
    · exact Calls.regrown_of (HC1.out _)
    · exact hK
  iterate 6
    apply wpCalm_want
    · rfl
    · exact bc_refl
    · exact ⟨_, Below.refl _ _⟩
    · intro w00 hC0 K hK
      go_big_quiet_op
      exact hK
  apply wpCalm_want
  · rfl
  · exact bc_refl
  · exact ⟨_, Below.refl _ _⟩
  · intro w00 hC0 K hK
    go_big_quiet_op
    apply Exists.intro
    refine ⟨fun p => ?_, ?_⟩
    · exact Calls.regrown_of (HC2.out _)
    · exact hK
  refine wpCalm_nil ?_
  intro w2 hbq
  try simp only [List.drop_succ_cons, List.drop_zero]
  have HB2 := Lib.hid (bt HB1.out hbq)
  clear hbq e2 e26 x0 x1 x2 x3 x4 HGe HGx
  go_wp2_with fail
  (with_reducible refine (HO.out _ _ (by simp [go_sem]) (by simp [go_sem])).mono ?_)
  rintro e w3 ⟨rfl, hw3⟩
  have HB3 : Hid (Below W.heap.size W w3) := Lib.hid (by rw [← hw3]; exact bt HB2.out (ba _ _))
  clear hw3
  go_wp2_with fail
  go_ret
  exact ⟨rfl, HB3.out⟩
end Go.Proofs.YtgbnjjgnihjfgaaGreat
end

section
set_option linter.unusedVariables false
set_option linter.unusedSimpArgs false
namespace Go.Proofs.YtgbnjjgnihjfgaaGreat
open Go.RowKit Go.Sort Go.ChangeMaps Go.MapKept

set_option maxRecDepth 100000 in
set_option maxHeartbeats 8000000 in
theorem without_any {W : World} {va : Value} {L : List MRow} (hR : RowS W va L) (hl : L.length ≤ 40000) {g : FuncId} {cb : Array Value} {sel : MRow → Bool} (eg : ∀ args w, (callFunc g args).run Tryz.prog w = .ok (.enter g args) w) (hsel : Chooses W g cb sel) :
    Calls Tryz.prog 134 #[va, .func (.func g) #[] cb] W fun e w' => ∃ v, e = .returned v ∧ OwnR w' W.heap.size v (L.filter fun r => !sel r) ∧ Below W.heap.size W w' := by
  obtain ⟨i0, hI, hZ0, hZ1, hZ2⟩ := info_parts Tryz.info57
  have HR := Lib.hid hR
  have HSel := Lib.hid hsel
  obtain ⟨a, n, cap, rfl, hn, hc1, hc2, _⟩ := hR
  have HN := Lib.hid hn
  have hn2 : n ≤ 9223372036854775807 := by omega
  have HLl : Hid (L.length ≤ 40000) := Lib.hid hl
  clear hsel hn hl
  go_enter Tryz.func134, Tryz.ntmps134
  go_wp2_with fail
  go_loopw [5, 10] (fun v i wr => ∃ k : Nat, k ≤ n ∧ i = .int .i64 k ∧ Hid (OwnR wr W.heap.size v ((L.take k).filter fun r => !sel r)) ∧ Hid (Below W.heap.size W wr)) (fun v i _ => n - (intOf i).toNat)
  case atStart => exact ⟨0, by omega, rfl, Lib.hid (OwnR.nil _ _), Lib.hid (Below.refl _ _)⟩
  case round =>
    obtain ⟨k, hk, rfl, HO, HB⟩ := hrel
    obtain ⟨v, hvv⟩ : ∃ v, v = u5 := ⟨_, rfl⟩
    subst hvv
    by_cases hlt : k < n
    · obtain ⟨_, n', _, e1, -, -, -, hcell⟩ := HR.out.below HB.out
      simp at e1
      obtain ⟨rfl, hnn, rfl⟩ := e1
      obtain ⟨vb, vo, rfl, hvb, hcs⟩ := hcell (by omega)
      have HRm := hcs k (by omega)
      clear hcs hcell hnn
      obtain ⟨⟨rt, rk, ⟨ra, rb, rc⟩⟩, Hr⟩ : ∃ r, Hid (L.getD k rowZ = r) := ⟨_, Lib.hid rfl⟩
      rw [Hr.out] at HRm
      obtain ⟨y0, y1, y2, y3, y4⟩ := HRm.cells
      simp only at y0 y1 y2 y3 y4
      clear HRm
      have HTk : Hid (L.take (k + 1) = L.take k ++ [⟨rt, rk, ⟨ra, rb, rc⟩⟩]) := Lib.hid (by rw [take_snoc' (d := rowZ) (by have := HN.out; omega), Hr.out])
      have hlen : ((L.take k).filter fun r => !sel r).length ≤ 40000 := by
        have h1 := List.length_filter_le (fun r => !sel r) (L.take k)
        have h2 := List.length_take_le k L
        have h3 := HLl.out
        have h4 := HN.out
        omega
      go_wp2_with fail
      refine (HSel.out _ ⟨rt, rk, ⟨ra, rb, rc⟩⟩ (bt HB.out (ba wr _))).mono ?_
      rintro e w2 ⟨rfl, hb2⟩
      have HY2 : Hid (RowAt w2 wr.heap.size ⟨rt, rk, ⟨ra, rb, rc⟩⟩) := Lib.hid (rowAt_of (t := 57) ((hb2.block _ (by simp)).trans (MapKept.heap_alloc wr _).1))
      have HB12 : Hid (Below wr.heap.size wr w2) := Lib.hid (bt (ba wr _) hb2)
      obtain ⟨bq, Hbq⟩ : ∃ bq, Hid (sel ⟨rt, rk, ⟨ra, rb, rc⟩⟩ = bq) := ⟨_, Lib.hid rfl⟩
      rw [Hbq.out]
      clear hb2 y0 y1 y2 y3 y4
      have HB2 := Lib.hid (bt HB.out HB12.out)
      cases bq
      · obtain ⟨y0, y1, y2, y3, y4⟩ := HY2.out
        simp only at y0 y1 y2 y3 y4
        have HO2 : Hid (w2.ownsRow W.heap.size 57 5 v ((L.take k).filter fun r => !sel r).length (flat ((L.take k).filter fun r => !sel r))) := Lib.hid (HO.out.below HB12.out)
        have hzw : W.heap.size ≤ w2.heap.size := HB2.out.size
        go_wp2_with (at_builtin; go_loud (refine wpList_append_own _ rfl _ _ 32 rfl W.heap.size 57 i0 (.agg #[.int .i64 0, .int .i64 0, .int .i64 0, .int .i64 0, .int .i64 0]) 5 40 Tryz.underlying32 hI hZ0 hZ1 hZ2 rfl (by decide) _ _ _ rfl (HO2.out.alloc _) ⟨w2.heap.size, 0, none⟩ 1 1 [.int .i64 rt, .int .i64 rk, .int .i64 ra, .int .i64 rb, .int .i64 rc] rfl rfl (World.news_of_block (cs := #[.int .i64 rt, .int .i64 rk, .int .i64 ra, .int .i64 rb, .int .i64 rc]) (t := 57) (fr := (0, 0)) (heap_alloc_new w2 _)) (by simp [Value.oneCell']) (by unfold maxLen; omega) (by omega) (by simp; omega) ?_); intro v' w3 hown' hgrow _)
        have HOn : Hid (OwnR w3 W.heap.size v' ((L.take (k + 1)).filter fun r => !sel r)) := Lib.hid (by
          rw [HTk.out, List.filter_append, List.filter_cons_of_pos (by rw [Hbq.out]; rfl), List.filter_nil]
          unfold OwnR
          rw [List.length_append, flat_app]
          exact hown')
        have hge : ∀ k, v.ownBlock = some k → W.heap.size ≤ k := fun k e => OwnR.own_ge HO.out e
        have hKg : Kept (fun k => v.ownBlock = some k) w2 w3 := (Kept.of_below (F := fun k => v.ownBlock = some k) (ba w2 _)).trans (kept_grown hgrow) (fun _ _ f => f)
        have HBn : Hid (Below W.heap.size W w3) := Lib.hid (((Kept.of_below (F := fun k => v.ownBlock = some k) HB2.out).trans hKg (fun _ _ f => f)).below (Nat.le_refl _) (fun k e => hge _ e))
        clear hown' hgrow hKg hge
        go_wp2_with fail
        exact ⟨⟨k + 1, by omega, by go_num, HOn, HBn⟩, by simp [intOf]; omega⟩
      · have HOn : Hid (OwnR w2 W.heap.size v ((L.take (k + 1)).filter fun r => !sel r)) := Lib.hid (by
          rw [HTk.out, List.filter_append, List.filter_cons_of_neg (by rw [Hbq.out]; decide), List.filter_nil, List.append_nil]
          exact HO.out.below HB12.out)
        go_wp2_with fail
        exact ⟨⟨k + 1, by omega, by go_num, HOn, HB2⟩, by simp [intOf]; omega⟩
    · obtain rfl : k = n := by omega
      have HOe : Hid (OwnR wr W.heap.size v (L.filter fun r => !sel r)) := Lib.hid (by
        have h := HO.out
        rw [HN.out, List.take_length] at h
        exact h)
      go_wp2_with fail
      go_ret
      exact ⟨v, rfl, HOe.out, HB.out⟩

end Go.Proofs.YtgbnjjgnihjfgaaGreat
end

section
set_option linter.unusedVariables false
set_option linter.unusedSimpArgs false
namespace Go.Proofs.YtgbnjjgnihjfgaaGreat
open Go.RowKit Go.Sort Go.ChangeMaps Go.MapKept

/-- A function, perhaps with its first arguments bound, that says yes or no of a row. -/
def Tells (W : World) (g : FuncId) (fs cb : Array Value) (p : MRow → Bool) : Prop :=
  ∀ (W' : World) (r : MRow), Below W.heap.size W W' → Calls Tryz.prog g (fs ++ #[rowV r] ++ cb) W' fun e w' => e = .returned (.bool (p r)) ∧ Below W'.heap.size W' w'
def idxI {α : Type} (p : α → Bool) (L : List α) : Int := if L.findIdx p < L.length then L.findIdx p else -1
theorem idx_hit {α : Type} {p : α → Bool} {L : List α} {k : Nat} (hk : k < L.length) (h : k ≤ L.findIdx p) (hp : p L[k] = true) : L.findIdx p = k := by
  rcases Nat.lt_or_ge k (L.findIdx p) with h1 | h1
  · have := List.not_of_lt_findIdx h1
    rw [hp] at this
    cases this
  · omega
theorem idx_miss {α : Type} {p : α → Bool} {L : List α} {k : Nat} (hk : k < L.length) (h : k ≤ L.findIdx p) (hp : p L[k] = false) : k + 1 ≤ L.findIdx p := by
  rcases Nat.lt_or_ge k (L.findIdx p) with h1 | h1
  · omega
  · have e : L.findIdx p = k := by omega
    have := List.findIdx_getElem (xs := L) (p := p) (w := by omega)
    simp only [e] at this
    rw [hp] at this
    cases this
theorem getD_at {α : Type} {L : List α} {k : Nat} (d : α) (hk : k < L.length) : L.getD k d = L[k] := by
  rw [List.getD_eq_getElem?_getD, List.getElem?_eq_getElem hk]
  rfl

set_option maxRecDepth 100000 in
set_option maxHeartbeats 8000000 in
theorem indexFunc_any {W : World} {va : Value} {L : List MRow} (hR : RowS W va L) {g : FuncId} {fs cb : Array Value} {p : MRow → Bool} (eg : ∀ args w, (callFunc g args).run Tryz.prog w = .ok (.enter g args) w) (hsel : Tells W g fs cb p) :
    Calls Tryz.prog 161 #[va, .func (.func g) fs cb] W fun e w' => e = .returned (.int .i64 (idxI p L)) ∧ Below W.heap.size W w' := by
  have HR := Lib.hid hR
  have HSel := Lib.hid hsel
  obtain ⟨a, n, cap, rfl, hn, hc1, hc2, _⟩ := hR
  have HN := Lib.hid hn
  have hn2 : n ≤ 9223372036854775807 := by omega
  clear hsel hn
  go_enter Tryz.func161, Tryz.ntmps161
  go_wp2_with fail
  go_loopw [8] (fun i wr => ∃ k : Nat, k ≤ n ∧ i = .int .i64 k ∧ Hid (k ≤ L.findIdx p) ∧ Hid (Below W.heap.size W wr)) (fun i _ => n - (intOf i).toNat)
  case atStart => exact ⟨0, by omega, rfl, Lib.hid (Nat.zero_le _), Lib.hid (Below.refl _ _)⟩
  case round =>
    obtain ⟨k, hk, rfl, HI, HB⟩ := hrel
    by_cases hlt : k < n
    · obtain ⟨_, n', _, e1, -, -, -, hcell⟩ := HR.out.below HB.out
      simp at e1
      obtain ⟨rfl, hnn, rfl⟩ := e1
      obtain ⟨vb, vo, rfl, hvb, hcs⟩ := hcell (by omega)
      have HRm := hcs k (by omega)
      clear hcs hcell hnn
      have HKL : Hid (k < L.length) := Lib.hid (by have := HN.out; omega)
      obtain ⟨⟨rt, rk, ⟨ra, rb, rc⟩⟩, Hr⟩ : ∃ r, Hid (L.getD k rowZ = r) := ⟨_, Lib.hid rfl⟩
      rw [Hr.out] at HRm
      obtain ⟨y0, y1, y2, y3, y4⟩ := HRm.cells
      simp only at y0 y1 y2 y3 y4
      clear HRm
      go_wp2_with fail
      refine (HSel.out _ ⟨rt, rk, ⟨ra, rb, rc⟩⟩ HB.out).mono ?_
      rintro e w2 ⟨rfl, hb2⟩
      have HB2 := Lib.hid (bt HB.out hb2)
      obtain ⟨bq, Hbq⟩ : ∃ bq, Hid (p ⟨rt, rk, ⟨ra, rb, rc⟩⟩ = bq) := ⟨_, Lib.hid rfl⟩
      have HPk : Hid (p (L[k]'HKL.out) = bq) := Lib.hid (by rw [← getD_at rowZ HKL.out, Hr.out]; exact Hbq.out)
      rw [Hbq.out]
      clear hb2 y0 y1 y2 y3 y4
      cases bq
      · have HIn : Hid (k + 1 ≤ L.findIdx p) := Lib.hid (idx_miss HKL.out HI.out HPk.out)
        go_wp2_with fail
        exact ⟨⟨k + 1, by omega, by go_num, HIn, HB2⟩, by simp [intOf]; omega⟩
      · have HIn : Hid (idxI p L = k) := Lib.hid (by unfold idxI; rw [idx_hit HKL.out HI.out HPk.out, if_pos HKL.out])
        go_wp2_with fail
        go_ret
        exact ⟨by rw [HIn.out]; rfl, HB2.out⟩
    · obtain rfl : k = n := by omega
      have HIn : Hid (idxI p L = -1) := Lib.hid (by unfold idxI; rw [if_neg (by have := HI.out; have := HN.out; omega)])
      go_wp2_with fail
      go_ret
      exact ⟨by rw [HIn.out]; rfl, HB.out⟩

end Go.Proofs.YtgbnjjgnihjfgaaGreat
end

section
set_option linter.unusedVariables false
set_option linter.unusedSimpArgs false
namespace Go.Proofs.YtgbnjjgnihjfgaaGreat
open Go.RowKit Go.Sort Go.ChangeMaps Go.MapKept

section
variable {P : Program}
/-- copy, of elements of K cells, into a block that is plain memory. -/
theorem run_copy_rowK (w : World) (K : Nat) (dT sT ty elem : TypeId) (g o dLen dCap : Nat) (a : Addr) (sLen sCap : Nat) (cur : Array Value) (t : TypeId) (cs : List Value)
    (hu : P.underlying dT = some (.slice elem)) (hs : (P.info? elem).map (·.size) = some K)
    (hg : w.heap[g]? = some (.cells cur t (0, 0))) (hn : cs.length = Nat.min sLen dLen * K)
    (hsrc : ∀ j v, cs[j]? = some v → w.cell? (a.add j) = some v) (hfit : o + cs.length ≤ cur.size) (h1 : ∀ v ∈ cs, v.oneCell' = true) :
    (Builtin.copy_ #[dT, sT] ty #[.slice (some ⟨g, o, none⟩) dLen dCap, .slice (some a) sLen sCap]).run P w =
      .ok (goInt (Nat.min sLen dLen)) (w.setRow g (cur.toList.take o ++ cs ++ cur.toList.drop (o + cs.length)).toArray) := by
  have hl := run_loadCells_list (P := P) w a cs hsrc
  have hst := run_storeCells_at P g o t cs 0 cur w hg (by simpa using hfit) h1
  cases hq : P.info? elem with
  | none => simp [hq] at hs
  | some i =>
    have hi : i.size = K := by simpa [hq] using hs
    simp [Builtin.copy_, run_underlying hu, Builtin.lenOf, Builtin.firstCells, sizeOf, typeInfo, hq, hi, ← hn, hl, hst]
theorem wpList_copy_runK (w : World) {ops : Array Oper} {rest : List Oper} {o : Oper} {a : Act} {Q : Exit → Act → World → Prop} (hgd : o.guard = none) (d s : Operand) (t t' : TypeId)
    (ho : o.op = .call { callee := .builtin .copy, args := #[d, s], argTypes := #[t, t'] }) (v u : Value) (hd : a.eval d = v) (hs : a.eval s = u) {v' : Value} {w' : World}
    (hr : (Builtin.copy_ #[t, t'] o.type #[v, u]).run P w = .ok v' w') (h : wpList P ops Q rest (a.put o.dst v') w') : wpList P ops Q (o :: rest) a w :=
  wpList_plain hgd fun _ hK => by
    unfold Oper.wp execOp
    simp only [ho, resolve, invoke, builtin, Sem.run_bind, Sem.run_pure, Result.andThen_ok, List.map_toArray, List.map_cons, List.map_nil, hd, hs, hr]
    exact hK _ _ h
/-- append(s, make(S, m)...) where s must grow. -/
theorem run_append_zeros_grows (w : World) (t tn ty e : TypeId) (i : TypeInfo) (z : Value) (size bytes : Nat) (kn : IntKind) (ht : P.underlying t = some (.slice e)) (htn : P.underlying tn = some (.int kn)) (hi : P.info? e = some i) (hz : i.zero = some z)
    (hsize : i.size = size) (hby : i.bytes = bytes) (hzs : z.cells.size = size) (hsz : 0 < size)
    (b : Addr) (n cap : Nat) (olds : List Value) (hlo : olds.length = n * size) (holds : ∀ j u, olds[j]? = some u → w.cell? (b.add j) = some u)
    (m : Nat) (hm : 0 < m) (hg : cap < n + m) (h63 : n + m ≤ maxLen) (hbytes : (n + m) * bytes ≤ 140737488355328) :
    ∃ v' w', (Builtin.append_ #[t, tn] ty #[.slice (some b) n cap, .int .i64 (m : Int)]).run P w = .ok v' w' ∧ w'.ownsRow w.heap.size e size v' (n + m) (olds ++ (Builtin.zeroCells z.cells m).toList) ∧ w.grownBy w' none := by
  subst hsize
  subst hby
  have hsmall : n + m ≤ 9223372036854775807 := by simp only [maxLen] at h63; omega
  have hzl : (Builtin.zeroCells z.cells m).size = m * i.size := by rw [size_zeroCells, hzs]
  have hlen : (olds ++ (Builtin.zeroCells z.cells m).toList).length = (n + m) * i.size := by rw [List.length_append, hlo, Array.length_toList, hzl, Nat.add_mul]
  have hge := grownCap_ge w (n + m) cap e
  have hcm : grownCap w (n + m) cap e ≤ maxLen := grownCap_le_maxLen w (n + m) cap e h63
  have hr : (Builtin.append_ #[t, tn] ty #[.slice (some b) n cap, .int .i64 (m : Int)]).run P w = .ok (.slice (some ⟨w.heap.size, 0, none⟩) (n + m) (grownCap w (n + m) cap e)) (w.drew.alloc (.cells (olds.toArray ++ Builtin.zeroCells z.cells m ++ Builtin.zeroCells z.cells (grownCap w (n + m) cap e - (n + m))) e)) := by
    have hnc : ¬ (n + m ≤ cap) := by omega
    have hw : IntKind.i64.wrap (m : Int) = m := by rw [IntKind.wrap_i64]; omega
    have hneg : ¬ ((m : Int) < 0) := by omega
    have h63' : ¬ (9223372036854775807 < ((n : Int) + (m : Int))) := by omega
    have h48' : ¬ (281474976710656 < Builtin.nextslicecap (n + m) cap * i.bytes) := by have := growslice_fits hg hbytes; omega
    have h48i : ¬ (281474976710656 < (m : Int) * (i.bytes : Int)) := by
      have h1 : m * i.bytes ≤ (n + m) * i.bytes := Nat.mul_le_mul_right _ (by omega)
      rw [← Int.natCast_mul]
      omega
    have hns : ¬ (m * i.size = 0) := Nat.mul_ne_zero (by omega) (by omega)
    have hm0 : ¬ m = 0 := by omega
    have hs0 : ¬ i.size = 0 := by omega
    have hfo := run_firstCells_some (P := P) w.drew i.size n b n cap olds hlo (by simpa using holds)
    simp [Builtin.append_, run_underlying ht, run_underlying htn, sizeOf, typeInfo, zeroValue, hi, hz, asInt, asIntOf, hw, hneg, hnc, hns, hm0, hs0, h63', h48', h48i, Question.forced, hfo, newRow, grownCap]
  refine ⟨_, _, hr, ⟨hlen, .inr ⟨w.heap.size, _, _, rfl, Nat.le_refl _, heap_alloc_new w.drew _, hge, hcm, ?_, ?_⟩⟩, ⟨rfl, rfl, rfl, by simp, fun k hk _ => (ba w.drew _).block k hk⟩⟩
  · simp only [Array.size_append, List.size_toArray, size_zeroCells, hzs, hlo, ← Nat.add_mul]
    congr 1
    omega
  · simp only [Array.toList_append, List.append_assoc]
    rw [← List.append_assoc, ← hlen]
    exact List.take_left
end
end Go.Proofs.YtgbnjjgnihjfgaaGreat
end

section
set_option linter.unusedVariables false
set_option linter.unusedSimpArgs false
namespace Go.Proofs.YtgbnjjgnihjfgaaGreat
open Go.RowKit Go.Sort Go.ChangeMaps Go.MapKept

theorem news_at {w : World} {xb : Nat} {ys : List Value} {t : TypeId} (h : w.heap[xb]? = some (.cells ys.toArray t (0, 0))) : ∀ j u, ys[j]? = some u → w.cell? ((⟨xb, 0, none⟩ : Addr).add j) = some u := fun j u hj => by
  rw [Addr.add_lit, Nat.zero_add]
  simp [World.cell?, h, hj]
theorem splice_two {A B C ys : List Value} {n k s : Nat} (hA : A.length = k * s) (hy : ys.length = s) (hB : B.length = (n - k) * s) (hk : k ≤ n) (hC : (n + 1) * s ≤ C.length) (hCA : C.take (k * s) = A) :
    (((C.take (k * s) ++ ys ++ C.drop (k * s + ys.length)).take ((k + 1) * s) ++ B ++ (C.take (k * s) ++ ys ++ C.drop (k * s + ys.length)).drop ((k + 1) * s + B.length)).take ((n + 1) * s)) = A ++ (ys ++ B) := by
  have e1 : (k + 1) * s = k * s + s := Nat.succ_mul k s
  have e2 : (n + 1) * s = n * s + s := Nat.succ_mul n s
  have e3 : (n - k) * s + k * s = n * s := by rw [← Nat.add_mul]; congr 1; omega
  have h1 : (C.take (k * s) ++ ys ++ C.drop (k * s + ys.length)).take ((k + 1) * s) = A ++ ys := by
    rw [hCA, List.take_append_of_le_length (by rw [List.length_append, hA, hy]; omega), List.take_of_length_le (by rw [List.length_append, hA, hy]; omega)]
  rw [h1, List.take_append_of_le_length (by rw [List.length_append, List.length_append, hA, hy, hB]; omega), List.take_of_length_le (by rw [List.length_append, List.length_append, hA, hy, hB]; omega), List.append_assoc]
set_option maxRecDepth 100000 in
set_option maxHeartbeats 4000000 in
theorem insR_end {W : World} {base : Nat} {v : Value} {n : Nat} {xs : List Value} (h : W.ownsRow base 57 5 v n xs) (hb : base ≤ W.heap.size) (hn : n ≤ 40000) {xb : Nat} {ys : List Value} (hy : W.heap[xb]? = some (.cells ys.toArray 57 (0, 0))) (hyl : ys.length = 5) (h1 : ∀ u ∈ ys, u.oneCell' = true) :
    Calls Tryz.prog 162 #[v, .int .i64 (n : Int), .slice (some ⟨xb, 0, none⟩) 1 1] W fun e w' => ∃ v', e = .returned v' ∧ w'.ownsRow base 57 5 v' (n + 1) (xs ++ ys) ∧ Kept (fun i => v.ownBlock = some i) W w' := by
  obtain ⟨i0, hI, hZ0, hZ1, hZ2⟩ := info_parts Tryz.info57
  have H := Lib.hid h
  have HY := Lib.hid (news_at hy)
  have HYl := Lib.hid hyl
  have H1 := Lib.hid h1
  have hlen := h.1
  rcases h.2 with ⟨rfl, hn0⟩ | ⟨g, cap, cur, rfl, hg, hcur, hnc, hcm, hcs, ht⟩
  · subst hn0
    clear h hy hyl h1 hlen
    go_enter Tryz.func162, Tryz.ntmps162
    go_wp2_with (at_builtin; refine wpList_append_own _ rfl _ _ 32 rfl base 57 i0 (.agg #[.int .i64 0, .int .i64 0, .int .i64 0, .int .i64 0, .int .i64 0]) 5 40 Tryz.underlying32 hI hZ0 hZ1 hZ2 rfl (by decide) _ 0 xs rfl H.out ⟨xb, 0, none⟩ 1 1 ys rfl (by rw [HYl.out]) HY.out H1.out (by unfold maxLen; omega) (by omega) hb ?_; intro v' w3 hown' hgrow _; have HW := Lib.hid hown'; have HG := Lib.hid hgrow; clear hown' hgrow)
    go_ret
    exact ⟨v', rfl, HW.out, kept_grown HG.out⟩
  · by_cases hcn : cap = n
    · subst hcn
      have hz : ¬ (1 : Int) = 0 := by omega
      clear h hy hyl h1 hlen hcs ht hcur hg
      unfold maxLen at hcm
      go_enter Tryz.func162, Tryz.ntmps162
      go_wp2_with (at_builtin; refine wpList_append_own _ rfl _ _ 32 rfl base 57 i0 (.agg #[.int .i64 0, .int .i64 0, .int .i64 0, .int .i64 0, .int .i64 0]) 5 40 Tryz.underlying32 hI hZ0 hZ1 hZ2 rfl (by decide) _ cap xs rfl H.out ⟨xb, 0, none⟩ 1 1 ys rfl (by rw [HYl.out]) HY.out H1.out (by unfold maxLen; omega) (by omega) hb ?_; intro v' w3 hown' hgrow _; have HW := Lib.hid hown'; have HG := Lib.hid hgrow; clear hown' hgrow)
      go_ret
      exact ⟨v', rfl, HW.out, kept_grown HG.out⟩
    · have hcn2 : ¬ n = cap := fun e => hcn e.symm
      clear h hy hyl h1 hlen hcs ht hcur hg
      unfold maxLen at hcm
      go_enter Tryz.func162, Tryz.ntmps162
      go_wp2_with (at_builtin; refine wpList_append_own _ rfl _ _ 32 rfl base 57 i0 (.agg #[.int .i64 0, .int .i64 0, .int .i64 0, .int .i64 0, .int .i64 0]) 5 40 Tryz.underlying32 hI hZ0 hZ1 hZ2 rfl (by decide) _ n xs rfl H.out ⟨xb, 0, none⟩ 1 1 ys rfl (by rw [HYl.out]) HY.out H1.out (by unfold maxLen; omega) (by omega) hb ?_; intro v' w3 hown' hgrow _; have HW := Lib.hid hown'; have HG := Lib.hid hgrow; clear hown' hgrow)
      go_ret
      exact ⟨v', rfl, HW.out, kept_grown HG.out⟩

set_option maxRecDepth 100000 in
set_option maxHeartbeats 8000000 in
theorem insR_grow {W : World} {base g n k : Nat} {cur : Array Value} {xs : List Value} (hk : k < n) (hb : base ≤ W.heap.size) (hn : n ≤ 40000) (hcur : W.heap[g]? = some (.cells cur 57 (0, 0))) (hcs : cur.toList = xs) (hxl : xs.length = n * 5) (hx1 : ∀ u ∈ xs, u.oneCell' = true) {xb : Nat} {ys : List Value} (hy : W.heap[xb]? = some (.cells ys.toArray 57 (0, 0))) (hyl : ys.length = 5) (h1 : ∀ u ∈ ys, u.oneCell' = true) :
    Calls Tryz.prog 162 #[.slice (some ⟨g, 0, none⟩) n n, .int .i64 (k : Int), .slice (some ⟨xb, 0, none⟩) 1 1] W fun e w' => ∃ v', e = .returned v' ∧ w'.ownsRow base 57 5 v' (n + 1) (xs.take (k * 5) ++ (ys ++ xs.drop (k * 5))) ∧ Below W.heap.size W w' := by
  obtain ⟨i0, hI, hZ0, hZ1, hZ2⟩ := info_parts Tryz.info57
  have HSz : Hid ((Tryz.prog.info? 57).map (·.size) = some 5) := Lib.hid (by rw [hI]; simp [hZ1])
  have HCur := Lib.hid hcur
  have HY := Lib.hid (news_at hy)
  have HYb := Lib.hid hy
  have HYl := Lib.hid hyl
  have H1 := Lib.hid h1
  have HX1 := Lib.hid hx1
  have HXl := Lib.hid hxl
  have HAl : Hid ((xs.take (k * 5)).length = k * 5) := Lib.hid (by rw [List.length_take, hxl]; omega)
  have HBl : Hid ((xs.drop (k * 5)).length = (n - k) * 5) := Lib.hid (by rw [List.length_drop, hxl]; omega)
  have HCell : Hid (∀ j u, xs[j]? = some u → W.cell? ⟨g, j, none⟩ = some u) := Lib.hid (fun j u hj => by
    simp only [World.cell?, hcur]
    rw [← hcs] at hj
    simpa using hj)
  obtain ⟨v2, w1, hr, hown, hgrow⟩ := run_append_zeros_grows (P := Tryz.prog) W 32 3 32 57 i0 (.agg #[.int .i64 0, .int .i64 0, .int .i64 0, .int .i64 0, .int .i64 0]) 5 40 .i64 Tryz.underlying32 Tryz.underlying3 hI hZ0 hZ1 hZ2 rfl (by decide) ⟨g, 0, none⟩ k n (xs.take (k * 5)) HAl.out (fun j u hj => by rw [Addr.add_lit, Nat.zero_add]; exact HCell.out j u (by rw [List.getElem?_take] at hj; split at hj; exact hj; cases hj)) (n + 1 - k) (by omega) (by omega) (by unfold maxLen; omega) (by omega)
  have HR := Lib.hid hr
  have e1 : k + (n + 1 - k) = n + 1 := by omega
  rw [e1] at hown
  obtain ⟨hol, hnil | ⟨g2, cap2, cur2, rfl, hg2, hc2, hn2, hm2, hs2, ht2⟩⟩ := hown
  · exact absurd hnil.2 (by omega)
  have HC2 := Lib.hid hc2
  have HS2 := Lib.hid hs2
  have HT2 := Lib.hid ht2
  have HG2 : Hid (W.heap.size ≤ g2) := Lib.hid hg2
  have HBw1 : Hid (Below W.heap.size W w1) := Lib.hid (by
    exact ⟨hgrow.os, hgrow.tape, hgrow.output, hgrow.size, fun i hi => hgrow.block i hi (by simp)⟩)
  have HYb1 := Lib.hid ((HBw1.out.block _ (lt_of_block HYb.out)).trans HYb.out)
  have HCur1 := Lib.hid ((HBw1.out.block _ (lt_of_block HCur.out)).trans HCur.out)
  have hne1 : ¬ xb = g2 := fun e => by have := lt_of_block HYb.out; have := HG2.out; omega
  have hgne : ¬ g = g2 := fun e => by have := lt_of_block HCur.out; have := HG2.out; omega
  have HCp1 := Lib.hid (run_copy_rowK (P := Tryz.prog) w1 5 32 32 3 57 g2 (k * 5) (n + 1 - k) (cap2 - k) ⟨xb, 0, none⟩ 1 1 cur2 57 ys Tryz.underlying32 HSz.out HC2.out (by rw [HYl.out, show Nat.min 1 (n + 1 - k) = 1 from Nat.min_eq_left (by omega)]) (news_at HYb1.out) (by rw [HYl.out, HS2.out]; omega) H1.out)
  generalize hw2 : w1.setRow g2 _ = w2 at HCp1
  have HC3 : Hid (w2.heap[g2]? = some (.cells (cur2.toList.take (k * 5) ++ ys ++ cur2.toList.drop (k * 5 + ys.length)).toArray 57 (0, 0))) := Lib.hid (by rw [← hw2]; exact setRow_heap _ _ _ _ _ _ HC2.out)
  have HBw2 : Hid (Below W.heap.size W w2) := Lib.hid (by rw [← hw2]; exact below_row HBw1.out HG2.out _)
  have HCur2 := Lib.hid ((HBw2.out.block _ (lt_of_block HCur.out)).trans HCur.out)
  have HSz3 : Hid ((cur2.toList.take (k * 5) ++ ys ++ cur2.toList.drop (k * 5 + ys.length)).length = cap2 * 5) := Lib.hid (by
    have := HS2.out
    have := HYl.out
    simp only [List.length_append, List.length_take, List.length_drop, Array.length_toList]
    omega)
  have HCp2 : Hid (∀ w3, Below w2.heap.size w2 w3 → ∃ w4, (Builtin.copy_ #[32, 32] 3 #[.slice (some ⟨g2, (k + 1) * 5, none⟩) (n - k) (cap2 - (k + 1)), .slice (some ⟨g, k * 5, none⟩) (n - k) (n - k)]).run Tryz.prog w3 = .ok (goInt ((n - k : Nat) : Int)) w4 ∧ Hid (w4.ownsRow base 57 5 (.slice (some ⟨g2, 0, none⟩) (n + 1) cap2) (n + 1) (xs.take (k * 5) ++ (ys ++ xs.drop (k * 5)))) ∧ Hid (Below W.heap.size W w4)) := Lib.hid (fun w3 hb3 => by
    have h3 := (hb3.block _ (lt_of_block HC3.out)).trans HC3.out
    have hc3 := (hb3.block _ (lt_of_block HCur2.out)).trans HCur2.out
    have e2 : Nat.min (n - k) (n - k) = n - k := Nat.min_self _
    have hs4 : (k + 1) * 5 + (xs.drop (k * 5)).length ≤ cap2 * 5 := by rw [HBl.out]; omega
    have hr := run_copy_rowK (P := Tryz.prog) w3 5 32 32 3 57 g2 ((k + 1) * 5) (n - k) (cap2 - (k + 1)) ⟨g, k * 5, none⟩ (n - k) (n - k) _ 57 (xs.drop (k * 5)) Tryz.underlying32 HSz.out h3 (by rw [HBl.out, e2]) (fun j u hj => by
      rw [Addr.add_lit]
      simp only [World.cell?, hc3]
      rw [List.getElem?_drop, ← hcs] at hj
      simpa using hj) (by rw [List.size_toArray, HSz3.out]; exact hs4) (fun u hu => HX1.out u (List.mem_of_mem_drop hu))
    rw [e2] at hr
    refine ⟨_, hr, Lib.hid ⟨?_, .inr ⟨g2, cap2, _, rfl, by have := HG2.out; omega, setRow_heap _ _ _ _ _ _ h3, hn2, hm2, ?_, ?_⟩⟩, Lib.hid (below_row (bt HBw2.out hb3) HG2.out _)⟩
    · rw [List.length_append, List.length_append, HAl.out, HYl.out, HBl.out]; omega
    · have := HSz3.out
      have := HBl.out
      simp only [List.size_toArray, List.length_append, List.length_take, List.length_drop] at *
      omega
    · simp only [List.toList_toArray]
      exact splice_two (n := n) (k := k) (s := 5) HAl.out HYl.out HBl.out (by omega) (by have := HS2.out; rw [Array.length_toList]; omega) (by
        have h := HT2.out
        have h5 : (cur2.toList.take ((n + 1) * 5)).take (k * 5) = xs.take (k * 5) := by
          rw [h, List.take_append_of_le_length (by rw [HAl.out]; omega), List.take_of_length_le (by rw [HAl.out]; omega)]
        rw [List.take_take, Nat.min_eq_left (by omega)] at h5
        exact h5))
  have ec : ((n + 1 - k : Nat) : Int) = (n : Int) + 1 - k := by omega
  rw [ec] at HR
  have hkn : ¬ (k : Int) = (n : Int) := by omega
  have hkc : ¬ cap2 = k := by omega
  have hkc1 : ¬ cap2 = k + 1 := by omega
  have hnk : ¬ n = k := by omega
  have hz1 : ¬ (1 : Int) = 0 := by omega
  have TN1 : Hid (((k : Int) + 1).toNat = k + 1) := Lib.hid (by omega)
  have HW1 : Hid (wrap64 ((k : Int) + 1) = (k : Int) + 1) := Lib.hid (by unfold wrap64; omega)
  unfold maxLen at hm2
  clear hw2 hr hgrow hol hg2 hc2 hs2 ht2 hcur hcs hxl hx1 hy hyl h1 e1 ec hI hZ0 hZ1 hZ2 hb
  go_enter Tryz.func162, Tryz.ntmps162
  go_wp2_with (first
    | (at_builtin; refine Lib.wpList_append_run W rfl _ _ 32 3 rfl _ _ rfl rfl _ _ HR.out ?_)
    | (refine wpList_copy_runK w1 rfl (.tmp 43) (.tmp 44) 32 32 rfl _ _ rfl rfl HCp1.out ?_))
  go_frame
  refine wp_region_calm 8 99 [0, 1, 2, 3, 4, 5, 6, 7] (by kernel_rfl) (by kernel_rfl) (by intro oz h; simp at h) (by intro oz h; simp at h) (by rfl) ?_
  simp only [List.take_succ_cons, List.take_zero]
  iterate 4
    apply wpCalm_want
    · rfl
    · exact bc_refl
    · exact ⟨_, Below.refl _ _⟩
    · intro w00 hC0 K hK
      go_big_quiet_op
      exact hK
  have hw1 := HW1.out
  have tn1 := TN1.out
  try simp only [hw1, tn1]
  apply wpCalm_want
  · rfl
  · exact bc_refl
  · exact ⟨_, Below.refl _ _⟩
  · intro w00 hC0 K hK
    go_big_quiet_op
    exact hK
  try simp only [hw1, tn1]
  iterate 3
    apply wpCalm_want
    · rfl
    · exact bc_refl
    · exact ⟨_, Below.refl _ _⟩
    · intro w00 hC0 K hK
      go_big_quiet_op
      exact hK
  refine wpCalm_nil ?_
  intro w3 hbq
  try simp only [List.drop_succ_cons, List.drop_zero]
  obtain ⟨w4, hr4, HO4, HB4⟩ := HCp2.out w3 hbq
  have HR4 := Lib.hid hr4
  clear hr4 hbq
  refine wpList_copy_runK w3 rfl (.tmp 50) (.tmp 53) 32 32 rfl _ _ rfl rfl HR4.out ?_
  go_wp2_with fail
  go_ret
  exact ⟨_, rfl, HO4.out, HB4.out⟩

end Go.Proofs.YtgbnjjgnihjfgaaGreat
end

section
set_option linter.unusedVariables false
set_option linter.unusedSimpArgs false
namespace Go.Proofs.YtgbnjjgnihjfgaaGreat
open Go.RowKit Go.Sort Go.ChangeMaps Go.MapKept

theorem kept_row {F : Nat → Prop} {A B : World} (h : Kept F A B) {g : Nat} (hg : F g ∨ A.heap.size ≤ g) (cs : Array Value) : Kept F A (B.setRow g cs) :=
  ⟨h.os, h.tape, h.output, by have := h.size; simpa [World.setRow] using this, fun k hk hf => by
    rw [setRow_other _ _ _ _ (fun e => by
      rcases hg with hg | hg
      · exact hf (e ▸ hg)
      · omega)]
    exact h.block k hk hf⟩
theorem splice_room {xs C ys : List Value} {n k s : Nat} (hy : ys.length = s) (hk : k ≤ n) (hxl : xs.length = n * s) (hC : (n + 1) * s ≤ C.length) (hCx : C.take (n * s) = xs) :
    (((C.take ((k + 1) * s) ++ xs.drop (k * s) ++ C.drop ((k + 1) * s + (xs.drop (k * s)).length)).take (k * s) ++ ys ++ (C.take ((k + 1) * s) ++ xs.drop (k * s) ++ C.drop ((k + 1) * s + (xs.drop (k * s)).length)).drop (k * s + ys.length)).take ((n + 1) * s)) = xs.take (k * s) ++ (ys ++ xs.drop (k * s)) := by
  have e1 : (k + 1) * s = k * s + s := Nat.succ_mul k s
  have e2 : (n + 1) * s = n * s + s := Nat.succ_mul n s
  have hkn : k * s ≤ n * s := Nat.mul_le_mul_right s hk
  have hdl : (xs.drop (k * s)).length = n * s - k * s := by rw [List.length_drop, hxl]
  have hA : (C.take ((k + 1) * s) ++ xs.drop (k * s) ++ C.drop ((k + 1) * s + (xs.drop (k * s)).length)).take (k * s) = xs.take (k * s) := by
    rw [List.append_assoc, List.take_append_of_le_length (by rw [List.length_take]; omega), List.take_take, Nat.min_eq_left (by omega), ← hCx, List.take_take, Nat.min_eq_left hkn]
  have hB : (C.take ((k + 1) * s) ++ xs.drop (k * s) ++ C.drop ((k + 1) * s + (xs.drop (k * s)).length)).drop (k * s + ys.length) = xs.drop (k * s) ++ C.drop ((k + 1) * s + (xs.drop (k * s)).length) := by
    rw [List.append_assoc, List.drop_append, List.drop_eq_nil_of_le (by rw [List.length_take]; omega), List.nil_append, List.length_take, show k * s + ys.length - min ((k + 1) * s) C.length = 0 by omega, List.drop_zero]
  have hl1 : (xs.take (k * s)).length = k * s := by rw [List.length_take]; omega
  generalize C.drop ((k + 1) * s + (xs.drop (k * s)).length) = R at hA hB ⊢
  rw [hA, hB]
  have e5 : xs.take (k * s) ++ ys ++ (xs.drop (k * s) ++ R) = (xs.take (k * s) ++ (ys ++ xs.drop (k * s))) ++ R := by simp only [List.append_assoc]
  have hl5 : (xs.take (k * s) ++ (ys ++ xs.drop (k * s))).length = (n + 1) * s := by rw [List.length_append, List.length_append, hl1, hy, hdl]; omega
  rw [e5, ← hl5, List.take_left]
set_option maxRecDepth 100000 in
set_option maxHeartbeats 8000000 in
theorem insR_room {W : World} {base g n k cap : Nat} {cur : Array Value} {xs : List Value} (hk : k < n) (hg : base ≤ g) (hn : n ≤ 40000) (hnc : n < cap) (hcm : cap ≤ maxLen) (hcur : W.heap[g]? = some (.cells cur 57 (0, 0))) (hcs : cur.size = cap * 5) (ht : cur.toList.take (n * 5) = xs) (hx1 : ∀ u ∈ xs, u.oneCell' = true) {xb : Nat} {ys : List Value} (hy : W.heap[xb]? = some (.cells ys.toArray 57 (0, 0))) (hyl : ys.length = 5) (h1 : ∀ u ∈ ys, u.oneCell' = true) (hne : ¬ xb = g) :
    Calls Tryz.prog 162 #[.slice (some ⟨g, 0, none⟩) n cap, .int .i64 (k : Int), .slice (some ⟨xb, 0, none⟩) 1 1] W fun e w' => ∃ v', e = .returned v' ∧ w'.ownsRow base 57 5 v' (n + 1) (xs.take (k * 5) ++ (ys ++ xs.drop (k * 5))) ∧ Kept (fun i => i = g) W w' := by
  obtain ⟨i0, hI, hZ0, hZ1, hZ2⟩ := info_parts Tryz.info57
  have HSz : Hid ((Tryz.prog.info? 57).map (·.size) = some 5) := Lib.hid (by rw [hI]; simp [hZ1])
  have HZs : Hid (∀ w, (Go.sizeOf 57).run Tryz.prog w = .ok 5 w) := Lib.hid (fun w => by simp [sizeOf, typeInfo, hI, hZ1])
  have HCur := Lib.hid hcur
  have HCs := Lib.hid hcs
  have HT := Lib.hid ht
  have HYb := Lib.hid hy
  have HYl := Lib.hid hyl
  have H1 := Lib.hid h1
  have HX1 := Lib.hid hx1
  have hcl : n * 5 + 5 ≤ cap * 5 := by omega
  have HXl : Hid (xs.length = n * 5) := Lib.hid (by rw [← ht, List.length_take, Array.length_toList, hcs]; omega)
  have HBl : Hid ((xs.drop (k * 5)).length = (n - k) * 5) := Lib.hid (by rw [List.length_drop, HXl.out]; omega)
  have hov : ∀ lb cb, (callFunc 178 #[.slice (some ⟨xb, 0, none⟩) 1 1, .slice (some ⟨g, (k + 1) * 5, none⟩) lb cb]).run Tryz.prog W = .ok (.value (.bool false)) W := fun lb cb => by
    rw [run_callFunc_extern Tryz.func178 (by kernel_rfl) (by kernel_rfl) (by kernel_rfl) (e := Extern.SlicesOverlaps.overlaps #[32, 32] #[4]) (by kernel_rfl),
      Lib.run_overlaps_apart W 32 4 57 Tryz.underlying32 5 HZs.out ⟨xb, 0, none⟩ ⟨g, (k + 1) * 5, none⟩ 1 1 lb cb hne 57 57 ys.toArray.size cur.size (by simp [World.shape?, hy]) (by simp [World.shape?, hcur]) (by rw [hcs]; omega) (by simp [World.frozen?, hy]) (by simp [World.frozen?, hy])]
    rfl
  have HCp1 : Hid (∀ w3, Below W.heap.size W w3 → ∃ w4, (Builtin.copy_ #[32, 32] 3 #[.slice (some ⟨g, (k + 1) * 5, none⟩) (n - k) (cap - (k + 1)), .slice (some ⟨g, k * 5, none⟩) (n + 1 - k) (cap - k)]).run Tryz.prog w3 = .ok (goInt ((n - k : Nat) : Int)) w4 ∧ Hid (∃ w5, (Builtin.copy_ #[32, 32] 3 #[.slice (some ⟨g, k * 5, none⟩) (n + 1 - k) (cap - k), .slice (some ⟨xb, 0, none⟩) 1 1]).run Tryz.prog w4 = .ok (goInt 1) w5 ∧ Hid (w5.ownsRow base 57 5 (.slice (some ⟨g, 0, none⟩) (n + 1) cap) (n + 1) (xs.take (k * 5) ++ (ys ++ xs.drop (k * 5)))) ∧ Hid (Kept (fun i => i = g) W w5))) := Lib.hid (fun w3 hb3 => by
    have h3 := (hb3.block _ (lt_of_block HCur.out)).trans HCur.out
    have hy3 := (hb3.block _ (lt_of_block HYb.out)).trans HYb.out
    have e2 : Nat.min (n + 1 - k) (n - k) = n - k := Nat.min_eq_right (by omega)
    have hr := run_copy_rowK (P := Tryz.prog) w3 5 32 32 3 57 g ((k + 1) * 5) (n - k) (cap - (k + 1)) ⟨g, k * 5, none⟩ (n + 1 - k) (cap - k) _ 57 (xs.drop (k * 5)) Tryz.underlying32 HSz.out h3 (by rw [HBl.out, e2]) (fun j u hj => by
      rw [Addr.add_lit]
      simp only [World.cell?, h3]
      have hj2 := (List.getElem?_eq_some_iff.1 hj).1
      rw [List.getElem?_drop, ← HT.out, List.getElem?_take] at hj
      split at hj
      · simpa using hj
      · cases hj) (by rw [HBl.out, HCs.out]; omega) (fun u hu => HX1.out u (List.mem_of_mem_drop hu))
    rw [e2] at hr
    refine ⟨_, hr, Lib.hid ?_⟩
    generalize hw4 : w3.setRow g _ = w4
    have h4 : w4.heap[g]? = some (.cells (cur.toList.take ((k + 1) * 5) ++ xs.drop (k * 5) ++ cur.toList.drop ((k + 1) * 5 + (xs.drop (k * 5)).length)).toArray 57 (0, 0)) := by rw [← hw4]; exact setRow_heap _ _ _ _ _ _ h3
    have hk4 : Kept (fun i => i = g) W w4 := by
      rw [← hw4]
      exact kept_row (F := fun i => i = g) (Kept.of_below hb3) (.inl rfl) _
    have hy4 : w4.heap[xb]? = some (.cells ys.toArray 57 (0, 0)) := (hk4.block _ (lt_of_block HYb.out) hne).trans HYb.out
    have hs4 : (cur.toList.take ((k + 1) * 5) ++ xs.drop (k * 5) ++ cur.toList.drop ((k + 1) * 5 + (xs.drop (k * 5)).length)).length = cap * 5 := by
      simp only [List.length_append, List.length_take, Array.length_toList, HBl.out, List.length_drop (l := cur.toList), HCs.out]
      omega
    have e3 : Nat.min 1 (n + 1 - k) = 1 := Nat.min_eq_left (by omega)
    have hr2 := run_copy_rowK (P := Tryz.prog) w4 5 32 32 3 57 g (k * 5) (n + 1 - k) (cap - k) ⟨xb, 0, none⟩ 1 1 _ 57 ys Tryz.underlying32 HSz.out h4 (by rw [HYl.out, e3]) (news_at hy4) (by rw [List.size_toArray, hs4, HYl.out]; omega) H1.out
    rw [e3] at hr2
    refine ⟨_, hr2, Lib.hid ⟨?_, .inr ⟨g, cap, _, rfl, hg, setRow_heap _ _ _ _ _ _ h4, hnc, hcm, ?_, ?_⟩⟩, Lib.hid (kept_row (F := fun i => i = g) hk4 (.inl rfl) _)⟩
    · rw [List.length_append, List.length_append, List.length_take, HXl.out, HYl.out, HBl.out]; omega
    · have := HYl.out
      simp only [List.size_toArray, List.length_append, List.length_take, List.length_drop, Array.length_toList] at *
      omega
    · simp only [List.toList_toArray]
      exact splice_room (n := n) (k := k) (s := 5) HYl.out (by omega) HXl.out (by rw [Array.length_toList, HCs.out]; omega) HT.out)
  have hkn : ¬ (k : Int) = (n : Int) := by omega
  have hkc : ¬ cap = k := by omega
  have hkc1 : ¬ cap = k + 1 := by omega
  have hz1 : ¬ (1 : Int) = 0 := by omega
  have TN1 : Hid (((k : Int) + 1).toNat = k + 1) := Lib.hid (by omega)
  have HW1 : Hid (wrap64 ((k : Int) + 1) = (k : Int) + 1) := Lib.hid (by unfold wrap64; omega)
  unfold maxLen at hcm
  have tn1 := TN1.out
  clear hcur hcs ht hx1 hy hyl h1 hI hZ0 hZ1 hZ2 hg hcl
  go_enter Tryz.func162, Tryz.ntmps162
  go_wp2_with (simp only [hov])
  try go_frame
  clear tn1 hov
  refine wp_region_calm 8 99 [0, 1, 2, 3, 4, 5, 6, 7] (by kernel_rfl) (by kernel_rfl) (by intro oz h; simp at h) (by intro oz h; simp at h) (by rfl) ?_
  simp only [List.take_succ_cons, List.take_zero]
  iterate 4
    apply wpCalm_want
    · rfl
    · exact bc_refl
    · exact ⟨_, Below.refl _ _⟩
    · intro w00 hC0 K hK
      go_big_quiet_op
      exact hK
  have hw1 := HW1.out
  have tn1 := TN1.out
  try simp only [hw1, tn1]
  apply wpCalm_want
  · rfl
  · exact bc_refl
  · exact ⟨_, Below.refl _ _⟩
  · intro w00 hC0 K hK
    go_big_quiet_op
    exact hK
  try simp only [hw1, tn1]
  iterate 3
    apply wpCalm_want
    · rfl
    · exact bc_refl
    · exact ⟨_, Below.refl _ _⟩
    · intro w00 hC0 K hK
      go_big_quiet_op
      exact hK
  refine wpCalm_nil ?_
  intro w3 hbq
  try simp only [List.drop_succ_cons, List.drop_zero]
  obtain ⟨w4, hr4, HN4⟩ := HCp1.out w3 hbq
  obtain ⟨w5, hr5, HO5, HK5⟩ := HN4.out
  have HR4 := Lib.hid hr4
  have HR5 := Lib.hid hr5
  clear hr4 hr5 hbq
  refine wpList_copy_runK w3 rfl (.tmp 73) (.tmp 76) 32 32 rfl _ _ rfl rfl HR4.out ?_
  go_wp2_with (refine wpList_copy_runK w4 rfl (.tmp 80) (.tmp 81) 32 32 rfl _ _ rfl rfl HR5.out ?_)
  go_ret
  exact ⟨_, rfl, HO5.out, HK5.out⟩

end Go.Proofs.YtgbnjjgnihjfgaaGreat
end

section
section
set_option linter.unusedVariables false
set_option linter.unusedSimpArgs false
namespace Go.Proofs.YtgbnjjgnihjfgaaGreat
open Go.RowKit Go.Sort Go.ChangeMaps Go.MapKept

end Go.Proofs.YtgbnjjgnihjfgaaGreat
end

section
set_option linter.unusedVariables false
set_option linter.unusedSimpArgs false
namespace Go.Proofs.YtgbnjjgnihjfgaaGreat
open Go.RowKit Go.Sort Go.ChangeMaps Go.MapKept

theorem flat_cons (r : MRow) (M : List MRow) : flat (r :: M) = rcl r ++ flat M := rfl
theorem flat_take (M : List MRow) : ∀ q : Nat, (flat M).take (q * 5) = flat (M.take q) := by
  induction M with
  | nil => intro q; simp [flat]
  | cons r M ih =>
    intro q
    cases q with
    | zero => simp [flat]
    | succ q =>
      rw [flat_cons, List.take_succ_cons, flat_cons, ← ih, show (q + 1) * 5 = (rcl r).length + q * 5 by rw [rcl_len]; omega, List.take_length_add_append]
theorem flat_drop (M : List MRow) : ∀ q : Nat, (flat M).drop (q * 5) = flat (M.drop q) := by
  induction M with
  | nil => intro q; simp [flat]
  | cons r M ih =>
    intro q
    cases q with
    | zero => simp
    | succ q =>
      rw [flat_cons, List.drop_succ_cons, ← ih, show (q + 1) * 5 = (rcl r).length + q * 5 by rw [rcl_len]; omega, List.drop_length_add_append]
end Go.Proofs.YtgbnjjgnihjfgaaGreat
end

section
set_option linter.unusedVariables false
set_option linter.unusedSimpArgs false
namespace Go.Proofs.YtgbnjjgnihjfgaaGreat
open Go.RowKit Go.Sort Go.ChangeMaps Go.MapKept

end Go.Proofs.YtgbnjjgnihjfgaaGreat
end
end
