/- PN, PQ, LB -/
import Derived.Test.YtgbnjjgnihjfgaaProg
import Derived.WalkKit
import Derived.Below
import Derived.Lib.Hide
import Derived.Laws.StructEq
import Derived.Lib.QuietBelow
import Derived.Deep.RegionHeld3
import Derived.Deep.RegionWith
import Derived.IntWalk
import Derived.BigQuiet
import Derived.Maps.RangeWalk
import Derived.DeepKeys4
import Derived.OneCell
import Derived.StillTail
import Derived.Deep.CutRange
import Derived.Outline
import Derived.WalkSpells
import Derived.Carry
import Derived.Shelf.SlGeneric
import Derived.Shelf.SlSortCmp.WholeK
import Derived.Shelf.SlicesG.Cmp
import Derived.Ground.SlsfProg
import Derived.Ground.SlgcProg
import Derived.Sort.OwnSorted
import Derived.Deep.AppendLies
import Derived.Shelf.SlSortCmp.NoneTotal
import Derived.Deep.QuietTactic
import Derived.Laws.AppendOwnNone
import Derived.Laws.EntriesVeiled
import Derived.Lib.SliceRun
import Derived.Deep.Cut
import Derived.Laws.ResultCell
import Derived.ArgAppend
import Derived.Laws.Rows
import Derived.Great.BuildSlice
import Derived.Great.Frames
import Derived.Deep.DeepCutAuto
import Derived.Lib.AppendZeros
import Derived.Lib.Overlaps
import Derived.Laws.CopyRow
import Derived.Laws.AppendOwn
import Derived.Laws.Externs
import Derived.Deep.RegionLawGrows
import Derived.Test.YtgbnjjgnihjfgaaWFAG
import Derived.Test.YtgbnjjgnihjfgaaWFAH
import Derived.Test.YtgbnjjgnihjfgaaWFAE
import Derived.Test.YtgbnjjgnihjfgaaWFAI
import Derived.Test.YtgbnjjgnihjfgaaWFAC
import Derived.Test.YtgbnjjgnihjfgaaWFAD
import Derived.Test.YtgbnjjgnihjfgaaWFAB
import Derived.Test.YtgbnjjgnihjfgaaWFAF
import Derived.Test.YtgbnjjgnihjfgaaWFAA
section
set_option linter.unusedVariables false
set_option linter.unusedSimpArgs false
namespace Go.Proofs.Ytgbnjjgnihjfgaa
open Go.RowKit Go.Sort Go.ChangeMaps Go.MapKept

theorem quiet_load_row {P : Program} {o : Oper} {a : Act} {w0 : World} {K : Act → Prop} (ty : TypeId) (x : Operand) (ho : o.op = .load ty x) (g : Nat) (hx : a.eval x = .pointer (some ⟨g, 0, none⟩)) (t : TypeId) (cs : Array Value) (fr : Nat × Nat) (d : TypeDesc)
    (hg : ∀ w, BC w0 w → w.heap[g]? = some (.cells cs t fr)) (hu : P.underlying ty = some d) (hd : (match d with | .struct _ | .array _ _ => true | _ => false) = true) (hi : (P.info? ty).map (·.size) = some cs.size)
    (h : K (a.put o.dst (.agg cs))) : o.quiet P a (BC w0) K :=
  ⟨.agg cs, fun w hw => by
    unfold Oper.quietAt execOp
    simp only [ho, hx, Instr.loadAt, Instr.sureAddr, Sem.run_bind, Sem.run_pure, Result.andThen_ok, run_loadVar_row w g t ty cs fr d (hg w hw) hu hd hi]
    exact ⟨rfl, rfl⟩, h⟩
theorem worldless_move {P : Program} {o : Oper} (x : Operand) (h : o.op = .move x) : Worldless P o := by
  intro a D w v hq w'
  unfold Oper.quietAt at hq
  simp only [execOp, h] at hq ⊢
  simp [Oper.quietUpon, Sem.run] at hq ⊢
  exact hq
set_option maxRecDepth 100000 in
set_option maxHeartbeats 4000000 in
theorem rowSel_any {q : MQ} {c : MCh} {eb : Nat} {w : World} (hE : EffAt w eb q c) (r : MRow) : Calls Try.prog 168 #[rowV r, ptr eb] w fun e w' => e = .returned (.bool (atk c.t c.k r)) ∧ Below w.heap.size w w' := by
  obtain ⟨rt, rk, ⟨r1, r2, r3⟩⟩ := r
  have HA : Hid ((effC q c)[7]? = some (.int .i64 c.t) ∧ (effC q c)[8]? = some (.int .i64 c.k)) := Lib.hid ⟨rfl, rfl⟩
  have HE := Lib.hid hE
  unfold EffAt at HE
  clear hE
  have HT : Hid (∀ b, (decide (rt = c.t ∧ rk = c.k)) = b → Ending.returned (.bool b) = .returned (.bool (atk c.t c.k ⟨rt, rk, ⟨r1, r2, r3⟩⟩))) := Lib.hid (fun b hb => by unfold atk; rw [hb])
  generalize effC q c = E at *
  generalize c.t = ct at *
  generalize c.k = ck at *
  go_enter Try.func168, Try.ntmps168
  go_upto_region 1 with fail
  have HE0 := Lib.hid (((ba w (.cells #[.int .i64 rt, .int .i64 rk, .int .i64 r1, .int .i64 r2, .int .i64 r3] 33)).block _ (lt_of_block HE.out)).trans HE.out)
  have HR : Hid ((w.alloc (.cells #[.int .i64 rt, .int .i64 rk, .int .i64 r1, .int .i64 r2, .int .i64 r3] 33)).heap[w.heap.size]? = some (.cells #[.int .i64 rt, .int .i64 rk, .int .i64 r1, .int .i64 r2, .int .i64 r3] 33 (0, 0))) := Lib.hid (heap_alloc_new w _)
  have HB : Hid (Below w.heap.size w (w.alloc (.cells #[.int .i64 rt, .int .i64 rk, .int .i64 r1, .int .i64 r2, .int .i64 r3] 33))) := Lib.hid (ba w _)
  generalize w.alloc (.cells #[.int .i64 rt, .int .i64 rk, .int .i64 r1, .int .i64 r2, .int .i64 r3] 33) = w0 at *
  have x0 : w0.cell? ⟨w.heap.size, 0, none⟩ = some (.int .i64 rt) := by simp [World.cell?, HR.out]
  have x1 : w0.cell? ⟨w.heap.size, 1, none⟩ = some (.int .i64 rk) := by simp [World.cell?, HR.out]
  have e7 : w0.cell? ⟨eb, 7, none⟩ = some (.int .i64 ct) := by simp [World.cell?, HE0.out, HA.out]
  have e8 : w0.cell? ⟨eb, 8, none⟩ = some (.int .i64 ck) := by simp [World.cell?, HE0.out, HA.out]
  by_cases h1 : rt = ct
  · have d1 : (rt == ct) = true := by simp [h1]
    by_cases h2 : rk = ck
    · have d2 : (rk == ck) = true := by simp [h2]
      have HF := Lib.hid (HT.out true (by simp [h1, h2]))
      clear h1 h2 HT
      go_wp2_with fail
      go_ret
      exact ⟨HF.out, HB.out⟩
    · have d2 : (rk == ck) = false := by simp [h2]
      have HF := Lib.hid (HT.out false (by simp [h2]))
      clear h1 h2 HT
      go_wp2_with fail
      go_ret
      exact ⟨HF.out, HB.out⟩
  · have d1 : (rt == ct) = false := by simp [h1]
    have HF := Lib.hid (HT.out false (by simp [h1]))
    clear h1 HT
    go_wp2_with fail
    go_ret
    exact ⟨HF.out, HB.out⟩
set_option maxRecDepth 100000 in
set_option maxHeartbeats 8000000 in
theorem patchRows_any {q : MQ} {c : MCh} {rb base : Nat} {r : MRes} {W : World} (hR : ResAt W rb base r) (hl : r.rows.length ≤ 39999) (hb : base ≤ W.heap.size) (hq : I64 q.column) : Calls Try.prog 153 #[ptr rb, .agg (effC q c)] W (PatchOut W rb base (some ⟨rowsP q r.rows c, r.val, r.fnd⟩)) := by
  obtain ⟨rows, val, fnd⟩ := r
  obtain ⟨u, hu, hO⟩ := hR
  have HU := Lib.hid hu
  have HO := Lib.hid hO
  have HL := Lib.hid hl
  have hlt := lt_of_block hu
  have hne : ¬ rb = W.heap.size := by omega
  have hne2 : ¬ W.heap.size = rb := by omega
  have HE : Hid (EffAt (W.alloc (.cells (effC q c) 132)) W.heap.size q c) := Lib.hid (EffAt.new W q c)
  have HB : Hid (Below W.heap.size W (W.alloc (.cells (effC q c) 132))) := Lib.hid (ba W _)
  simp only at HU HO HL hu hO hl ⊢
  obtain ⟨ua, un, uc, rfl⟩ := hO.form
  have HWi := Lib.hid (fun (w0 : World) (h0 : EffAt w0 W.heap.size q c) (hr : RowS w0 (.slice ua un uc) rows) => without_any hr (by have := HL.out; omega) (enters_of Try.func168 (by kernel_rfl) rfl) (show Chooses w0 168 #[ptr W.heap.size] (atk c.t c.k) from fun W' r hb => rowSel_any (h0.below hb) r))
  have HIn := Lib.hid (fun (w0 : World) (b : Nat) (v : Value) (M : List MRow) (h0 : OwnR w0 b v M) (hb0 : b ≤ w0.heap.size) (hm : M.length ≤ 40000) => insert_any h0 hb0 hm (aftR c) (fs := #[.agg (effC q c)]) (cb := #[]) (p := precQ q (aftR c)) (enters_of Try.func170 (by kernel_rfl) rfl) (fun W' r hb => effPrec_any q c r hq W'))
  have HA : Hid ((effC q c)[31]? = some (.bool (inA q c)) ∧ (effC q c)[25]? = some (.int .i64 (aftR c).t) ∧ (effC q c)[26]? = some (.int .i64 (aftR c).k) ∧ (effC q c)[27]? = some (.int .i64 (aftR c).v.a) ∧ (effC q c)[28]? = some (.int .i64 (aftR c).v.b) ∧ (effC q c)[29]? = some (.int .i64 (aftR c).v.c)) := Lib.hid ⟨rfl, rfl, rfl, rfl, rfl, rfl⟩
  have HS : Hid ((effC q c).size = 33) := Lib.hid rfl
  have HP : Hid (rowsP q rows c = if inA q c then insB (precQ q (aftR c)) (aftR c) (rows.filter fun r => !atk c.t c.k r) else rows.filter fun r => !atk c.t c.k r) := Lib.hid rfl
  have HFl : Hid ((rows.filter fun r => !atk c.t c.k r).length ≤ 40000) := Lib.hid (by have := List.length_filter_le (fun r => !atk c.t c.k r) rows; omega)
  obtain ⟨RP, HRP⟩ : ∃ RP, Hid (rowsP q rows c = RP) := ⟨_, Lib.hid rfl⟩
  rw [HRP.out] at HP ⊢
  have HBs : Hid (base ≤ W.heap.size) := Lib.hid hb
  clear hu hO hl hq hb HRP
  generalize (rows.filter fun r => !atk c.t c.k r) = F at *
  go_enter Try.func153, Try.ntmps153
  go_upto_region 1 with fail
  have HK0 : Hid (Kept (fun k => k = rb) W (W.alloc (.cells (effC q c) 132))) := Lib.hid (Kept.of_below HB.out)
  have HWw := Lib.hid (HWi.out _ HE.out (HO.out.below HB.out).rowS)
  unfold fnV ptr at *
  have HU0 := Lib.hid ((HB.out.block _ (lt_of_block HU.out)).trans HU.out)
  have HE0 := Lib.hid HE.out
  unfold EffAt at HE HE0 HWi
  clear HWi
  generalize inA q c = ia at *
  generalize effC q c = E at *
  generalize W.alloc (.cells E 132) = w0 at *
  have r0 : w0.cell? ⟨rb, 0, none⟩ = some (.slice ua un uc) := by simp only [World.cell?, HU0.out]; rfl
  go_wp2_with fail
  (with_reducible refine HWw.out.mono ?_)
  rintro e w1 ⟨v1, rfl, hO1, hb1⟩
  have HO1 := Lib.hid hO1
  have HU1 := Lib.hid ((hb1.block _ (lt_of_block HU0.out)).trans HU0.out)
  have HE1 := Lib.hid ((hb1.block _ (lt_of_block HE0.out)).trans HE0.out)
  have HK1 : Hid (Kept (fun k => k = rb) W w1) := Lib.hid (HK0.out.then hb1)
  have HZ01 : Hid (w0.heap.size ≤ w1.heap.size) := Lib.hid hb1.size
  have HB1 := Lib.hid (bt HB.out hb1)
  obtain ⟨va, vn, vcap, rfl⟩ := hO1.form
  have hw0 := HB.out.size
  have hbz : W.heap.size < w0.heap.size := lt_of_block HE0.out
  have HO1b : Hid (OwnR w1 w0.heap.size (.slice va vn vcap) F) := HO1
  have HOwn : Hid (∀ i, (Value.slice va vn vcap).ownBlock = some i → w0.heap.size ≤ i) := Lib.hid (fun i hi => OwnR.own_ge HO1.out hi)
  clear hO1 hb1 r0 HWw
  have hrz : ¬ rb = W.heap.size := by omega
  have r0 : w1.cell? ⟨rb, 0, none⟩ = some (.slice ua un uc) := by simp only [World.cell?, HU1.out]; rfl
  have rf : w1.frozen? ⟨rb, 0, none⟩ = false := by simp [World.frozen?, HU1.out]
  clear hw0 hbz
  go_upto_region 2 with fail
  generalize hw2 : w1.setCell ⟨rb, 0, none⟩ (.slice va vn vcap) = w2
  have HU2 : Hid (w2.heap[rb]? = some (.cells (resC (.slice va vn vcap) val fnd) 46 (0, 0))) := Lib.hid (by rw [← hw2]; exact setC_heap HU1.out 0 _)
  have HK12 : Hid (Kept (fun k => k = rb) w1 w2) := Lib.hid (by rw [← hw2]; exact Kept.setCell (F := fun i => i = rb) (p := ⟨rb, 0, none⟩) (Kept.of_below (Below.refl _ _)) (.inl rfl) _)
  have HE2 : Hid (w2.heap[W.heap.size]? = some (.cells E 132 (0, 0))) := Lib.hid ((HK12.out.block _ (lt_of_block HE1.out) hne2).trans HE1.out)
  have HK2 : Hid (Kept (fun k => k = rb) W w2) := Lib.hid (HK1.out.trans HK12.out (fun _ _ f => f))
  have HO2 : Hid (OwnR w2 w0.heap.size (.slice va vn vcap) F) := Lib.hid (by rw [← hw2]; exact own_setc HO1.out HU1.out)
  have HZ2 : Hid (w0.heap.size ≤ w2.heap.size) := Lib.hid (by
    have h1 := lt_of_block HE0.out
    have h2 := HK12.out.size
    have h3 := HB1.out.size
    have h4 : w0.heap.size ≤ w1.heap.size := HZ01.out
    omega)
  clear hw2 r0 rf
  have e31 : w2.cell? ⟨W.heap.size, 31, none⟩ = some (.bool ia) := by simp [World.cell?, HE2.out, HA.out]
  cases ia
  · have HPf : Hid (RP = F) := Lib.hid (by have h := HP.out; simpa using h)
    have HRf : Hid (ResAt w2 rb base ⟨RP, val, fnd⟩) := Lib.hid ⟨_, HU2.out, by rw [HPf.out]; exact HO2.out.mono (by have := HBs.out; have := HB.out.size; omega)⟩
    go_wp2_with fail
    go_ret
    exact ⟨rfl, fun r' h => by cases h; exact HRf.out, HK2.out⟩
  · have HPf : Hid (RP = insB (precQ q (aftR c)) (aftR c) F) := Lib.hid (by have h := HP.out; simpa using h)
    go_upto_region 3 with fail
    obtain ⟨⟨at', ak, ⟨a1, a2, a3⟩⟩, HAf⟩ : ∃ x, Hid (aftR c = x) := ⟨_, Lib.hid rfl⟩
    rw [HAf.out] at HIn HPf HA
    clear e31
    have HGE : Hid (∀ w1, BW w2 w1 → ∀ w, BC w1 w → w.heap[W.heap.size]? = some (.cells E 132 (0, 0))) := Lib.hid (fun w1 h w ⟨p, hp⟩ => by
      rw [hp]
      exact ((show Below w2.heap.size w2 (grow (redrawn w1 p.d) p.os) from bt h (below_regrown w1 p.d p.os)).block _ (lt_of_block HE2.out)).trans HE2.out)
    have HGe : Hid (∀ w1, BW w2 w1 → ∀ d' os, (grow (redrawn w1 d') os).heap[W.heap.size]? = some (.cells E 132 (0, 0))) := Lib.hid (fun w1 h d' os => ((show Below w2.heap.size w2 (grow (redrawn w1 d') os) from bt h (below_regrown w1 d' os)).block _ (lt_of_block HE2.out)).trans HE2.out)
    have HGr : Hid (∀ w1, BW w2 w1 → ∀ d' os, (grow (redrawn w1 d') os).heap[rb]? = some (.cells (resC (.slice va vn vcap) val fnd) 46 (0, 0))) := Lib.hid (fun w1 h d' os => ((show Below w2.heap.size w2 (grow (redrawn w1 d') os) from bt h (below_regrown w1 d' os)).block _ (lt_of_block HU2.out)).trans HU2.out)
    have g25 : ∀ wz, BW w2 wz → ∀ d' os, (grow (redrawn wz d') os).cell? ⟨W.heap.size, 25, none⟩ = some (.int .i64 at') := fun wz h d' os => by simp [World.cell?, HGe.out wz h d' os, HA.out]
    have g26 : ∀ wz, BW w2 wz → ∀ d' os, (grow (redrawn wz d') os).cell? ⟨W.heap.size, 26, none⟩ = some (.int .i64 ak) := fun wz h d' os => by simp [World.cell?, HGe.out wz h d' os, HA.out]
    have g27 : ∀ wz, BW w2 wz → ∀ d' os, (grow (redrawn wz d') os).cell? ⟨W.heap.size, 27, none⟩ = some (.int .i64 a1) := fun wz h d' os => by simp [World.cell?, HGe.out wz h d' os, HA.out]
    have g28 : ∀ wz, BW w2 wz → ∀ d' os, (grow (redrawn wz d') os).cell? ⟨W.heap.size, 28, none⟩ = some (.int .i64 a2) := fun wz h d' os => by simp [World.cell?, HGe.out wz h d' os, HA.out]
    have g29 : ∀ wz, BW w2 wz → ∀ d' os, (grow (redrawn wz d') os).cell? ⟨W.heap.size, 29, none⟩ = some (.int .i64 a3) := fun wz h d' os => by simp [World.cell?, HGe.out wz h d' os, HA.out]
    have gr : ∀ wz, BW w2 wz → ∀ d' os, (grow (redrawn wz d') os).cell? ⟨rb, 0, none⟩ = some (.slice va vn vcap) := fun wz h d' os => by simp only [World.cell?, HGr.out wz h d' os]; rfl
    refine wp_region_calm 10 0 [0, 1, 2, 3, 4, 5, 6, 7, 8, 9] (by kernel_rfl) (by kernel_rfl) (by rintro _ ⟨rfl⟩; exact worldless_move _ rfl) (by rintro _ ⟨rfl⟩ _ _ _ _ h; exact h) (by rfl) ?_
    simp only [List.take_succ_cons, List.take_zero]
    iterate 8
      apply wpCalm_want
      · rfl
      · exact bc_refl
      · exact ⟨_, Below.refl _ _⟩
      · intro w00 hC0 K hK
        go_big_quiet_op
        exact hK
    apply wpCalm_want
    · rfl
    · exact bc_refl
    · exact ⟨_, Below.refl _ _⟩
    · intro w00 hC0 K hK
      refine quiet_load_row 132 _ rfl W.heap.size rfl 132 E (0, 0) _ (fun w hw => HGE.out w00 hC0 w hw) Try.underlying132 rfl (by rw [HS.out]; kernel_rfl) ?_
      exact hK
    go_frame
    apply wpCalm_want
    · rfl
    · exact bc_refl
    · exact ⟨_, Below.refl _ _⟩
    · intro w00 hC0 K hK
      go_big_quiet_op
      exact hK
    refine wpCalm_nil ?_
    intro w3 hbq
    try simp only [List.drop_succ_cons, List.drop_zero]
    have HO3 := Lib.hid (HO2.out.below hbq)
    have HU3 := Lib.hid ((hbq.block _ (lt_of_block HU2.out)).trans HU2.out)
    have HK3 : Hid (Kept (fun k => k = rb) W w3) := Lib.hid (HK2.out.then hbq)
    have HI3 := Lib.hid (HIn.out w3 w0.heap.size _ F HO3.out (Nat.le_trans HZ2.out hbq.size) HFl.out)
    clear hbq gr g25 g26 g27 g28 g29
    go_wp2_with fail
    (with_reducible refine HI3.out.mono ?_)
    rintro e w4 ⟨v4, rfl, hO4, hK4⟩
    have hge4 : ∀ i, (Value.slice va vn vcap).ownBlock = some i → W.heap.size ≤ i := fun i hi => by
      have := HOwn.out i hi
      have := HB.out.size
      omega
    have HK4 : Hid (Kept (fun k => k = rb) W w4) := Lib.hid ⟨hK4.os.trans HK3.out.os, hK4.tape.trans HK3.out.tape, hK4.output.trans HK3.out.output, Nat.le_trans HK3.out.size hK4.size, fun k hk hf => (hK4.block k (Nat.lt_of_lt_of_le hk HK3.out.size) (fun e => by have := hge4 k e; omega)).trans (HK3.out.block k hk hf)⟩
    have HU4 : Hid (w4.heap[rb]? = some (.cells (resC (.slice va vn vcap) val fnd) 46 (0, 0))) := Lib.hid ((hK4.block rb (lt_of_block HU3.out) (fun e => by have := hge4 rb e; omega)).trans HU3.out)
    have HO4 := Lib.hid hO4
    obtain ⟨ya, yn, yc, rfl⟩ := hO4.form
    clear hO4 hK4 hge4
    have HRf : Hid (ResAt (w4.setCell ⟨rb, 0, none⟩ (.slice ya yn yc)) rb base ⟨RP, val, fnd⟩ ∧ Kept (fun k => k = rb) W (w4.setCell ⟨rb, 0, none⟩ (.slice ya yn yc))) := Lib.hid ⟨⟨.slice ya yn yc, setC_heap HU4.out 0 _, by
      rw [HPf.out]
      exact (own_setc HO4.out HU4.out).mono (by have := HBs.out; have := HB.out.size; omega)⟩, Kept.setCell (F := fun i => i = rb) (p := ⟨rb, 0, none⟩) HK4.out (.inl rfl) _⟩
    have r0 : w4.cell? ⟨rb, 0, none⟩ = some (.slice va vn vcap) := by simp only [World.cell?, HU4.out]; rfl
    have rf : w4.frozen? ⟨rb, 0, none⟩ = false := by simp [World.frozen?, HU4.out]
    go_wp2_with fail
    go_ret
    exact ⟨rfl, fun r' h => by cases h; exact HRf.out.1, HRf.out.2⟩
end Go.Proofs.Ytgbnjjgnihjfgaa
end

section
set_option linter.unusedVariables false
set_option linter.unusedSimpArgs false
namespace Go.Proofs.Ytgbnjjgnihjfgaa
open Go.RowKit Go.Sort Go.ChangeMaps Go.MapKept

abbrev PR := MRow × MRow
abbrev prCells (p : PR) : Array Value := #[.int .i64 p.1.t, .int .i64 p.1.k, .int .i64 p.1.v.a, .int .i64 p.1.v.b, .int .i64 p.1.v.c, .int .i64 p.2.t, .int .i64 p.2.k, .int .i64 p.2.v.a, .int .i64 p.2.v.b, .int .i64 p.2.v.c]
abbrev prV (p : PR) : Value := .agg (prCells p)
abbrev prZ : PR := (rowZ, rowZ)
theorem Try.info231 : (Try.prog.info? 231).map (fun i => (i.zero, i.size, i.bytes)) = some (some (.agg #[.int .i64 0, .int .i64 0, .int .i64 0, .int .i64 0, .int .i64 0, .int .i64 0, .int .i64 0, .int .i64 0, .int .i64 0, .int .i64 0]), 10, 80) := by kernel_rfl
def PrAt (w : World) (b o : Nat) (c : PR) : Prop := ∀ j : Nat, j < 10 → w.cell? ⟨b, o + j, none⟩ = (prCells c)[j]?
/-- A slice that reads as a list of changes. -/
def PrS (w : World) (v : Value) (L : List PR) : Prop :=
  ∃ a n cap, v = .slice a n cap ∧ n = L.length ∧ n ≤ cap ∧ cap ≤ 9223372036854775807 ∧ (1 ≤ n → ∃ b o, a = some ⟨b, o, none⟩ ∧ b < w.heap.size ∧ ∀ i, i < n → PrAt w b (o + i * 10) (L.getD i prZ))
theorem PrAt.below {w w1 : World} {b o : Nat} {c : PR} (h : PrAt w b o c) (hb : b < w.heap.size) (k : Below w.heap.size w w1) : PrAt w1 b o c := fun j hj => by rw [(bcell k).1 b _ hb]; exact h j hj
theorem PrS.below {w w1 : World} {v : Value} {L : List PR} (h : PrS w v L) (k : Below w.heap.size w w1) : PrS w1 v L := by
  obtain ⟨a, n, cap, e, hn, h1, h2, h3⟩ := h
  refine ⟨a, n, cap, e, hn, h1, h2, fun h => ?_⟩
  obtain ⟨b, o, e, hb, hc⟩ := h3 h
  exact ⟨b, o, e, Nat.lt_of_lt_of_le hb k.size, fun i hi => (hc i hi).below hb k⟩

def pcl (c : PR) : List Value := (prCells c).toList
theorem pcl_len (c : PR) : (pcl c).length = 10 := rfl
def flatP (M : List PR) : List Value := M.flatMap pcl
theorem flatP_app (M N : List PR) : flatP (M ++ N) = flatP M ++ flatP N := by simp [flatP]
theorem flatP_get (M : List PR) : ∀ i j, i < M.length → j < 10 → (flatP M)[i * 10 + j]? = (pcl (M.getD i prZ))[j]? := by
  induction M with
  | nil => intro i j h; simp at h
  | cons r M ih =>
    intro i j hi hj
    rw [flatP, List.flatMap_cons, ← flatP]
    cases i with
    | zero =>
      rw [List.getElem?_append_left (by rw [pcl_len]; omega)]
      simp
    | succ i =>
      rw [List.getElem?_append_right (by rw [pcl_len]; omega), pcl_len, show (i + 1) * 10 + j - 10 = i * 10 + j by omega, ih i j (by simpa using hi) hj]
      simp
theorem pcl_one (c : PR) : ∀ v ∈ pcl c, v.oneCell' = true := by
  intro v hv
  simp [pcl, prCells] at hv
  rcases hv with rfl | rfl | rfl | rfl | rfl | rfl | rfl | rfl | rfl | rfl <;> rfl
theorem flatP_one (N : List PR) : ∀ u ∈ flatP N, u.oneCell' = true := by
  intro u hu
  obtain ⟨r, _, hr⟩ := List.mem_flatMap.1 hu
  exact pcl_one r u hr

/-- A slice of the call's own that holds a list of changes. -/
def OwnP (W : World) (base : Nat) (v : Value) (M : List PR) : Prop := W.ownsRow base 231 10 v M.length (flatP M)
theorem OwnP.nil (W : World) (base : Nat) : OwnP W base (.slice none 0 0) [] := ⟨rfl, .inl ⟨rfl, rfl⟩⟩
theorem OwnP.prS {W : World} {base : Nat} {v : Value} {M : List PR} (h : OwnP W base v M) : PrS W v M := by
  obtain ⟨hl, h⟩ := h
  rcases h with ⟨rfl, h0⟩ | ⟨g, cap, cur, rfl, hg, hb, h1, h2, h3, h4⟩
  · obtain rfl := List.length_eq_zero_iff.1 h0
    exact ⟨none, 0, 0, rfl, rfl, Nat.le_refl _, by omega, fun h => by omega⟩
  · refine ⟨_, _, cap, rfl, rfl, h1, by unfold maxLen at h2; omega, fun _ => ⟨g, 0, rfl, lt_of_block hb, fun i hi j hj => ?_⟩⟩
    have h5 := flatP_get M i j hi hj
    rw [← h4, List.getElem?_take_of_lt (by omega), Array.getElem?_toList] at h5
    unfold pcl at h5
    rw [Array.getElem?_toList] at h5
    rw [← h5]
    simp [World.cell?, hb]
theorem OwnP.kept {F : Nat → Prop} {W W' : World} {base : Nat} {v : Value} {M : List PR} (h : OwnP W base v M) (k : Kept F W W') (hF : ∀ i, v.ownBlock = some i → ¬ F i) : OwnP W' base v M := by
  obtain ⟨hl, h⟩ := h
  exact ⟨hl, h.imp id fun ⟨g, cap, cur, e, hg, hb, r⟩ => ⟨g, cap, cur, e, hg, (k.block g (lt_of_block hb) (hF g (by rw [e]; rfl))).trans hb, r⟩⟩
theorem OwnP.below {W W' : World} {base : Nat} {v : Value} {M : List PR} (h : OwnP W base v M) (k : Below W.heap.size W W') : OwnP W' base v M := h.kept (F := fun _ => False) (Kept.of_below k) (fun _ _ => id)
theorem OwnP.mono {W : World} {base base' : Nat} {v : Value} {M : List PR} (h : OwnP W base v M) (hb : base' ≤ base) : OwnP W base' v M := by
  obtain ⟨hl, h⟩ := h
  exact ⟨hl, h.imp id fun ⟨g, cap, cur, e, hg, r⟩ => ⟨g, cap, cur, e, by omega, r⟩⟩
theorem flatP_cons (r : PR) (M : List PR) : flatP (r :: M) = pcl r ++ flatP M := rfl
theorem flatP_take (M : List PR) : ∀ q : Nat, (flatP M).take (q * 10) = flatP (M.take q) := by
  induction M with
  | nil => intro q; simp [flatP]
  | cons r M ih =>
    intro q
    cases q with
    | zero => simp [flatP]
    | succ q =>
      rw [flatP_cons, List.take_succ_cons, flatP_cons, ← ih, show (q + 1) * 10 = (pcl r).length + q * 10 by rw [pcl_len]; omega, List.take_length_add_append]
theorem flatP_drop (M : List PR) : ∀ q : Nat, (flatP M).drop (q * 10) = flatP (M.drop q) := by
  induction M with
  | nil => intro q; simp [flatP]
  | cons r M ih =>
    intro q
    cases q with
    | zero => simp
    | succ q =>
      rw [flatP_cons, List.drop_succ_cons, ← ih, show (q + 1) * 10 = (pcl r).length + q * 10 by rw [pcl_len]; omega, List.drop_length_add_append]
theorem ownP_form2 {w : World} {base : Nat} {v : Value} {M : List PR} (h : OwnP w base v M) : ∃ a n c, v = .slice a n c := by
  rcases h.2 with ⟨rfl, _⟩ | ⟨g, cap, cur, rfl, _⟩
  · exact ⟨_, _, _, rfl⟩
  · exact ⟨_, _, _, rfl⟩
theorem PrAt.cells {w : World} {b o : Nat} {rt rk ra rb rc st sk sa sb sc : Int} (h : PrAt w b o (⟨rt, rk, ⟨ra, rb, rc⟩⟩, ⟨st, sk, ⟨sa, sb, sc⟩⟩)) : w.cell? ⟨b, o, none⟩ = some (.int .i64 rt) ∧ w.cell? ⟨b, o + 1, none⟩ = some (.int .i64 rk) ∧ w.cell? ⟨b, o + 2, none⟩ = some (.int .i64 ra) ∧ w.cell? ⟨b, o + 3, none⟩ = some (.int .i64 rb) ∧ w.cell? ⟨b, o + 4, none⟩ = some (.int .i64 rc) ∧ w.cell? ⟨b, o + 5, none⟩ = some (.int .i64 st) ∧ w.cell? ⟨b, o + 6, none⟩ = some (.int .i64 sk) ∧ w.cell? ⟨b, o + 7, none⟩ = some (.int .i64 sa) ∧ w.cell? ⟨b, o + 8, none⟩ = some (.int .i64 sb) ∧ w.cell? ⟨b, o + 9, none⟩ = some (.int .i64 sc) := by
  refine ⟨?_, ?_, ?_, ?_, ?_, ?_, ?_, ?_, ?_, ?_⟩
  · exact h 0 (by omega)
  · exact h 1 (by omega)
  · exact h 2 (by omega)
  · exact h 3 (by omega)
  · exact h 4 (by omega)
  · exact h 5 (by omega)
  · exact h 6 (by omega)
  · exact h 7 (by omega)
  · exact h 8 (by omega)
  · exact h 9 (by omega)
theorem PrAt.cells0 {w : World} {b : Nat} {rt rk ra rb rc st sk sa sb sc : Int} (h : PrAt w b 0 (⟨rt, rk, ⟨ra, rb, rc⟩⟩, ⟨st, sk, ⟨sa, sb, sc⟩⟩)) : w.cell? ⟨b, 0, none⟩ = some (.int .i64 rt) ∧ w.cell? ⟨b, 1, none⟩ = some (.int .i64 rk) ∧ w.cell? ⟨b, 2, none⟩ = some (.int .i64 ra) ∧ w.cell? ⟨b, 3, none⟩ = some (.int .i64 rb) ∧ w.cell? ⟨b, 4, none⟩ = some (.int .i64 rc) ∧ w.cell? ⟨b, 5, none⟩ = some (.int .i64 st) ∧ w.cell? ⟨b, 6, none⟩ = some (.int .i64 sk) ∧ w.cell? ⟨b, 7, none⟩ = some (.int .i64 sa) ∧ w.cell? ⟨b, 8, none⟩ = some (.int .i64 sb) ∧ w.cell? ⟨b, 9, none⟩ = some (.int .i64 sc) := by
  refine ⟨?_, ?_, ?_, ?_, ?_, ?_, ?_, ?_, ?_, ?_⟩
  · have e := h 0 (by omega)
    rw [Nat.zero_add] at e
    exact e
  · have e := h 1 (by omega)
    rw [Nat.zero_add] at e
    exact e
  · have e := h 2 (by omega)
    rw [Nat.zero_add] at e
    exact e
  · have e := h 3 (by omega)
    rw [Nat.zero_add] at e
    exact e
  · have e := h 4 (by omega)
    rw [Nat.zero_add] at e
    exact e
  · have e := h 5 (by omega)
    rw [Nat.zero_add] at e
    exact e
  · have e := h 6 (by omega)
    rw [Nat.zero_add] at e
    exact e
  · have e := h 7 (by omega)
    rw [Nat.zero_add] at e
    exact e
  · have e := h 8 (by omega)
    rw [Nat.zero_add] at e
    exact e
  · have e := h 9 (by omega)
    rw [Nat.zero_add] at e
    exact e
theorem prAt_of {w : World} {b t : Nat} {p : PR} (h : w.heap[b]? = some (.cells (prCells p) t (0, 0))) : PrAt w b 0 p := fun j hj => by simp [World.cell?, h]
theorem OwnP.own_lt {W : World} {base : Nat} {v : Value} {M : List PR} (h : OwnP W base v M) {k : Nat} (e : v.ownBlock = some k) : k < W.heap.size := by
  obtain ⟨_, _, hc⟩ := own_type h e
  exact lt_of_block hc
theorem OwnP.own_ge {W : World} {base : Nat} {v : Value} {M : List PR} (h : OwnP W base v M) {k : Nat} (e : v.ownBlock = some k) : base ≤ k := (own_type h e).1
end Go.Proofs.Ytgbnjjgnihjfgaa
end

section
set_option linter.unusedVariables false
set_option linter.unusedSimpArgs false
namespace Go.Proofs.Ytgbnjjgnihjfgaa
open Go.RowKit Go.Sort Go.ChangeMaps Go.MapKept

set_option maxRecDepth 100000 in
set_option maxHeartbeats 4000000 in
theorem same7_any {W : World} {u v : Value} {M N : List MRow} {x y : Int} {f g : Bool} (h : RowS W u M) (h' : RowS W v N) : Calls Try.prog 29 #[.agg (resC u x f), .agg (resC v y g)] W fun e w' => e = .returned (.bool (decide (x = y) && (f == g) && decide (M = N))) ∧ Below W.heap.size W w' := by
  have hb0 : Below W.heap.size W ((W.alloc (.cells #[u, .int .i64 x, .bool f] 46)).alloc (.cells #[v, .int .i64 y, .bool g] 46)) := bt (ba W _) (ba _ _)
  have HS := Lib.hid (sameRows_any (h.below hb0) (h'.below hb0))
  have HB := Lib.hid hb0
  obtain ⟨ua, un, uc, rfl, -⟩ := id h
  obtain ⟨va, vn, vc, rfl, -⟩ := id h'
  obtain ⟨mn, HMN⟩ : ∃ b, Hid (decide (M = N) = b) := ⟨_, Lib.hid rfl⟩
  rw [HMN.out] at HS ⊢
  clear h h' hb0 HMN
  obtain ⟨rb, HRb⟩ : ∃ b, Hid ((decide (x = y) && (f == g) && mn) = b) := ⟨_, Lib.hid rfl⟩
  rw [HRb.out]
  go_enter Try.func29, Try.ntmps29
  go_upto_region 1 with fail
  have HX : Hid (((W.alloc (.cells #[.slice ua un uc, .int .i64 x, .bool f] 46)).alloc (.cells #[.slice va vn vc, .int .i64 y, .bool g] 46)).heap[W.heap.size]? = some (.cells #[.slice ua un uc, .int .i64 x, .bool f] 46 (0, 0))) := Lib.hid (((ba (W.alloc _) _).block _ (by simp)).trans (heap_alloc_new W _))
  have HY : Hid (((W.alloc (.cells #[.slice ua un uc, .int .i64 x, .bool f] 46)).alloc (.cells #[.slice va vn vc, .int .i64 y, .bool g] 46)).heap[W.heap.size + 1]? = some (.cells #[.slice va vn vc, .int .i64 y, .bool g] 46 (0, 0))) := Lib.hid (by
    have h := heap_alloc_new (W.alloc (.cells #[.slice ua un uc, .int .i64 x, .bool f] 46)) (.cells #[.slice va vn vc, .int .i64 y, .bool g] 46)
    rw [World.size_alloc] at h
    exact h)
  generalize (W.alloc (.cells #[.slice ua un uc, .int .i64 x, .bool f] 46)).alloc (.cells #[.slice va vn vc, .int .i64 y, .bool g] 46) = w0 at *
  have x0 : w0.cell? ⟨W.heap.size, 0, none⟩ = some (.slice ua un uc) := by simp [World.cell?, HX.out]
  have x1 : w0.cell? ⟨W.heap.size, 1, none⟩ = some (.int .i64 x) := by simp [World.cell?, HX.out]
  have x2 : w0.cell? ⟨W.heap.size, 2, none⟩ = some (.bool f) := by simp [World.cell?, HX.out]
  have y0 : w0.cell? ⟨W.heap.size + 1, 0, none⟩ = some (.slice va vn vc) := by simp [World.cell?, HY.out]
  have y1 : w0.cell? ⟨W.heap.size + 1, 1, none⟩ = some (.int .i64 y) := by simp [World.cell?, HY.out]
  have y2 : w0.cell? ⟨W.heap.size + 1, 2, none⟩ = some (.bool g) := by simp [World.cell?, HY.out]
  by_cases hv : x = y
  · have d1 : (x == y) = true := by simp [hv]
    by_cases hf : f = g
    · have d2 : (f == g) = true := by simp [hf]
      have HF : Hid (rb = mn) := Lib.hid (by rw [← HRb.out]; simp [hv, hf])
      clear hv hf HRb
      go_wp2_with fail
      (with_reducible refine HS.out.mono ?_)
      rintro e w1 ⟨rfl, hb⟩
      have HB1 := Lib.hid (bt HB.out hb)
      clear hb
      go_wp2_with fail
      refine bodyPost_ret (v := .bool mn) (by simp [results, Try.results29, go_sem]) rfl ?_
      exact ⟨by rw [HF.out], HB1.out⟩
    · have d2 : (f == g) = false := by simp [hf]
      have HF : Hid (rb = false) := Lib.hid (by rw [← HRb.out]; simp [hf])
      clear hv hf HRb
      go_wp2_with fail
      refine bodyPost_ret (v := .bool false) (by simp [results, Try.results29, go_sem]) rfl ?_
      exact ⟨by rw [HF.out], HB.out⟩
  · have d1 : (x == y) = false := by simp [hv]
    have HF : Hid (rb = false) := Lib.hid (by rw [← HRb.out]; simp [hv])
    clear hv HRb
    go_wp2_with fail
    refine bodyPost_ret (v := .bool false) (by simp [results, Try.results29, go_sem]) rfl ?_
    exact ⟨by rw [HF.out], HB.out⟩
/-- A value that is not far from 0. -/
def nearV (v : Int) : Int := min (max v (-1000000000000000000)) 1000000000000000000
set_option maxRecDepth 100000 in
set_option maxHeartbeats 4000000 in
theorem near_any {W : World} {u : Value} {r : MRes} (h : RowS W u r.rows) : Calls Try.prog 22 #[.agg (resC u r.val r.fnd)] W fun e w' => ∃ u', e = .returned (.agg (resC u' (nearV r.val) r.fnd)) ∧ RowS w' u' (r.rows.take 20) ∧ Below W.heap.size W w' := by
  obtain ⟨rows, v, f⟩ := r
  simp only at h ⊢
  have hb0 : Below W.heap.size W ((W.alloc (.cells #[u, .int .i64 v, .bool f] 46)).alloc (.cells #[.slice none 0 0, .int .i64 0, .bool false] 46)) := bt (ba W _) (ba _ _)
  have HB := Lib.hid hb0
  have HR0 := Lib.hid h
  obtain ⟨a, n, cap, rfl, hn, h1, h2, h3⟩ := id h
  obtain ⟨m, Hm⟩ : ∃ m : Nat, Hid (min n 20 = m) := ⟨_, Lib.hid rfl⟩
  have hmn : m ≤ n := by have := Hm.out; omega
  have HT : Hid (∀ w, RowS w (.slice a n cap) rows → RowS w (.slice a m cap) (rows.take 20)) := Lib.hid (fun w ⟨a', n', cap', e, hn', k1, k2, k3⟩ => by
    simp only [Value.slice.injEq] at e
    obtain ⟨rfl, rfl, rfl⟩ := e
    have hl : m = (rows.take 20).length := by rw [List.length_take, ← hn', ← Hm.out]; omega
    refine ⟨_, _, _, rfl, hl, by omega, k2, fun hm1 => ?_⟩
    obtain ⟨b, o, e, hb, hc⟩ := k3 (by omega)
    refine ⟨b, o, e, hb, fun i hi => ?_⟩
    have hg : (rows.take 20).getD i rowZ = rows.getD i rowZ := by
      rw [List.getD_eq_getElem?_getD, List.getD_eq_getElem?_getD, List.getElem?_take_of_lt (by have := Hm.out; omega)]
    rw [hg]
    exact hc i (by omega))
  obtain ⟨nv, HNv⟩ : ∃ z, Hid (nearV v = z) := ⟨_, Lib.hid rfl⟩
  rw [HNv.out]
  clear h hn h2 h3 hb0
  go_enter Try.func22, Try.ntmps22
  go_upto_region 1 with fail
  have HX : Hid (((W.alloc (.cells #[.slice a n cap, .int .i64 v, .bool f] 46)).alloc (.cells #[.slice none 0 0, .int .i64 0, .bool false] 46)).heap[W.heap.size]? = some (.cells #[.slice a n cap, .int .i64 v, .bool f] 46 (0, 0))) := Lib.hid (((ba (W.alloc _) _).block _ (by simp)).trans (heap_alloc_new W _))
  have HY : Hid (((W.alloc (.cells #[.slice a n cap, .int .i64 v, .bool f] 46)).alloc (.cells #[.slice none 0 0, .int .i64 0, .bool false] 46)).heap[W.heap.size + 1]? = some (.cells #[.slice none 0 0, .int .i64 0, .bool false] 46 (0, 0))) := Lib.hid (by
    have h := heap_alloc_new (W.alloc (.cells #[.slice a n cap, .int .i64 v, .bool f] 46)) (.cells #[.slice none 0 0, .int .i64 0, .bool false] 46)
    rw [World.size_alloc] at h
    exact h)
  generalize (W.alloc (.cells #[.slice a n cap, .int .i64 v, .bool f] 46)).alloc (.cells #[.slice none 0 0, .int .i64 0, .bool false] 46) = w0 at *
  have x0 : w0.cell? ⟨W.heap.size, 0, none⟩ = some (.slice a n cap) := by simp [World.cell?, HX.out]
  have x1 : w0.cell? ⟨W.heap.size, 1, none⟩ = some (.int .i64 v) := by simp [World.cell?, HX.out]
  have fz : ∀ j, w0.frozen? ⟨W.heap.size, j, none⟩ = false := fun j => by simp [World.frozen?, HX.out]
  have q1 : (0 : Int) ≤ (m : Int) := by omega
  have q2 : (m : Int) ≤ (cap : Int) := by omega
  have q3 : (m : Int).toNat = m := by omega
  go_upto_region 2 with fail
  have hm : (min (n : Int) 20).toNat = m := by have := Hm.out; omega
  simp only [hm]
  have HX1 : Hid ((w0.setCell ⟨W.heap.size, 0, none⟩ (.slice a m cap)).heap[W.heap.size]? = some (.cells #[.slice a m cap, .int .i64 v, .bool f] 46 (0, 0))) := Lib.hid (setC_heap HX.out 0 _)
  have HY1 : Hid ((w0.setCell ⟨W.heap.size, 0, none⟩ (.slice a m cap)).heap[W.heap.size + 1]? = some (.cells #[.slice none 0 0, .int .i64 0, .bool false] 46 (0, 0))) := Lib.hid (by rw [Below.heap_setCell _ _ _ _ (by show ¬ W.heap.size + 1 = W.heap.size; omega)]; exact HY.out)
  have HB1 : Hid (Below W.heap.size W (w0.setCell ⟨W.heap.size, 0, none⟩ (.slice a m cap))) := Lib.hid (below_setCell HB.out (by show W.heap.size ≤ W.heap.size; omega) _)
  generalize w0.setCell ⟨W.heap.size, 0, none⟩ (.slice a m cap) = w1 at *
  clear x0 x1 fz
  have x1 : w1.cell? ⟨W.heap.size, 1, none⟩ = some (.int .i64 v) := by simp [World.cell?, HX1.out]
  have fz : ∀ j, w1.frozen? ⟨W.heap.size, j, none⟩ = false := fun j => by simp [World.frozen?, HX1.out]
  go_upto_region 3 with fail
  have hnv : min (max v (-1000000000000000000)) 1000000000000000000 = nv := HNv.out
  simp only [hnv]
  have HX2 : Hid ((w1.setCell ⟨W.heap.size, 1, none⟩ (.int .i64 nv)).heap[W.heap.size]? = some (.cells #[.slice a m cap, .int .i64 nv, .bool f] 46 (0, 0))) := Lib.hid (setC_heap HX1.out 1 _)
  have HY2 : Hid ((w1.setCell ⟨W.heap.size, 1, none⟩ (.int .i64 nv)).heap[W.heap.size + 1]? = some (.cells #[.slice none 0 0, .int .i64 0, .bool false] 46 (0, 0))) := Lib.hid (by rw [Below.heap_setCell _ _ _ _ (by show ¬ W.heap.size + 1 = W.heap.size; omega)]; exact HY1.out)
  have HB2 : Hid (Below W.heap.size W (w1.setCell ⟨W.heap.size, 1, none⟩ (.int .i64 nv))) := Lib.hid (below_setCell HB1.out (by show W.heap.size ≤ W.heap.size; omega) _)
  generalize w1.setCell ⟨W.heap.size, 1, none⟩ (.int .i64 nv) = w2 at *
  clear x1 fz
  go_wp2_with (first
    | refine wpList_load_row rfl 46 _ rfl W.heap.size rfl 46 _ _ _ HX2.out Try.underlying46 rfl (by kernel_rfl) ?_
    | refine wpList_store_row rfl 46 _ _ rfl (W.heap.size + 1) #[.slice a m cap, .int .i64 nv, .bool f] rfl rfl 46 _ HY2.out (by kernel_rfl) rfl (by simp [Value.oneCell']) ?_)
  refine bodyPost_ret (v := .agg #[.slice a m cap, .int .i64 nv, .bool f]) (results_cell_row rfl _ _ (W.heap.size + 1) 46 _ (0, 0) _ rfl (setRow_heap _ _ _ _ _ _ HY2.out) Try.underlying46 rfl (by kernel_rfl)) rfl ?_
  have hb3 : Below W.heap.size W (w2.setRow (W.heap.size + 1) #[.slice a m cap, .int .i64 nv, .bool f]) := below_row HB2.out (by omega) _
  exact ⟨_, rfl, HT.out _ (HR0.out.below hb3), hb3⟩
end Go.Proofs.Ytgbnjjgnihjfgaa
end
