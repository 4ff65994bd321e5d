/- PK, PN, QG, PQ, PR -/
import Derived.Test.YtgbnjjgnihjfgaaGreatProg
import Derived.WalkKit
import Derived.Below
import Derived.Lib.Hide
import Derived.Laws.StructEq
import Derived.Lib.QuietBelow
import Derived.Deep.RegionHeld3
import Derived.Deep.RegionWith
import Derived.IntWalk
import Derived.BigQuiet
import Derived.Maps.RangeWalk
import Derived.DeepKeys4
import Derived.OneCell
import Derived.StillTail
import Derived.Deep.CutRange
import Derived.Outline
import Derived.WalkSpells
import Derived.Carry
import Derived.Shelf.SlGeneric
import Derived.Shelf.SlSortCmp.WholeK
import Derived.Shelf.SlicesG.Cmp
import Derived.Ground.SlsfProg
import Derived.Ground.SlgcProg
import Derived.Sort.OwnSorted
import Derived.Deep.AppendLies
import Derived.Shelf.SlSortCmp.NoneTotal
import Derived.Deep.QuietTactic
import Derived.Laws.AppendOwnNone
import Derived.Laws.EntriesVeiled
import Derived.Lib.SliceRun
import Derived.Deep.Cut
import Derived.Laws.ResultCell
import Derived.ArgAppend
import Derived.Laws.Rows
import Derived.Great.BuildSlice
import Derived.Great.Frames
import Derived.Deep.DeepCutAuto
import Derived.Lib.AppendZeros
import Derived.Lib.Overlaps
import Derived.Laws.CopyRow
import Derived.Laws.AppendOwn
import Derived.Laws.Externs
import Derived.Deep.RegionLawGrows
import Derived.Test.YtgbnjjgnihjfgaaGreatBAM
import Derived.Test.YtgbnjjgnihjfgaaGreatBAG
import Derived.Test.YtgbnjjgnihjfgaaGreatBAJ
import Derived.Test.YtgbnjjgnihjfgaaGreatBAH
import Derived.Test.YtgbnjjgnihjfgaaGreatBAK
import Derived.Test.YtgbnjjgnihjfgaaGreatBAE
import Derived.Test.YtgbnjjgnihjfgaaGreatBAB
import Derived.Test.YtgbnjjgnihjfgaaGreatBAA
import Derived.Test.YtgbnjjgnihjfgaaGreatBAI
import Derived.Test.YtgbnjjgnihjfgaaGreatBAC
import Derived.Test.YtgbnjjgnihjfgaaGreatBAD
import Derived.Test.YtgbnjjgnihjfgaaGreatBAF
import Derived.Test.YtgbnjjgnihjfgaaGreatBAL
section
set_option linter.unusedVariables false
set_option linter.unusedSimpArgs false
namespace Go.Proofs.YtgbnjjgnihjfgaaGreat
open Go.RowKit Go.Sort Go.ChangeMaps Go.MapKept

theorem insR_any {W : World} {base : Nat} {v : Value} {n k : Nat} {xs : List Value} (h : W.ownsRow base 57 5 v n xs) (hb : base ≤ W.heap.size) (hn : n ≤ 40000) (hk : k ≤ n) (hx1 : ∀ u ∈ xs, u.oneCell' = true) {xb : Nat} {ys : List Value} (hy : W.heap[xb]? = some (.cells ys.toArray 57 (0, 0))) (hyl : ys.length = 5) (h1 : ∀ u ∈ ys, u.oneCell' = true) (hne : ∀ i, v.ownBlock = some i → i ≠ xb) :
    Calls Tryz.prog 162 #[v, .int .i64 (k : Int), .slice (some ⟨xb, 0, none⟩) 1 1] W fun e w' => ∃ v', e = .returned v' ∧ w'.ownsRow base 57 5 v' (n + 1) (xs.take (k * 5) ++ (ys ++ xs.drop (k * 5))) ∧ Kept (fun i => v.ownBlock = some i) W w' := by
  have hxl := h.1
  by_cases hkn : k = n
  · subst hkn
    rw [List.take_of_length_le (by omega), List.drop_eq_nil_of_le (by omega), List.append_nil]
    exact insR_end h hb hn hy hyl h1
  · rcases h.2 with ⟨rfl, hn0⟩ | ⟨g, cap, cur, rfl, hg, hcur, hnc, hcm, hcs, ht⟩
    · omega
    · by_cases hc : cap = n
      · subst hc
        have hcur2 : cur.toList = xs := by
          rw [← ht, List.take_of_length_le (by rw [Array.length_toList, hcs]; omega)]
        exact (insR_grow (base := base) (by omega) hb hn hcur hcur2 hxl hx1 hy hyl h1).mono fun e w' ⟨v', e1, e2, e3⟩ => ⟨v', e1, e2, Kept.of_below e3⟩
      · refine (insR_room (base := base) (by omega) hg hn (by omega) hcm hcur hcs ht hx1 hy hyl h1 (fun e => hne g rfl e.symm)).mono fun e w' ⟨v', e1, e2, e3⟩ => ⟨v', e1, e2, ?_⟩
        exact ⟨e3.os, e3.tape, e3.output, e3.size, fun i hi hf => e3.block i hi (fun e => hf (by rw [e]; rfl))⟩
theorem insB_eq {α : Type} (p : α → Bool) (x : α) (M : List α) : insB p x M = M.take (M.findIdx p) ++ x :: M.drop (M.findIdx p) := rfl
set_option maxRecDepth 100000 in
set_option maxHeartbeats 8000000 in
theorem insert_any {W : World} {base : Nat} {v : Value} {M : List MRow} (hO : OwnR W base v M) (hb : base ≤ W.heap.size) (hl : M.length ≤ 40000) (x : MRow) {g : FuncId} {fs cb : Array Value} {p : MRow → Bool} (eg : ∀ args w, (callFunc g args).run Tryz.prog w = .ok (.enter g args) w) (hp : Tells W g fs cb p) :
    Calls Tryz.prog 136 #[v, rowV x, .func (.func g) fs cb] W fun e w' => ∃ v', e = .returned v' ∧ OwnR w' base v' (insB p x M) ∧ Kept (fun i => v.ownBlock = some i) W w' := by
  have HO := Lib.hid hO
  have HP := Lib.hid hp
  have HF : Hid (M.findIdx p ≤ M.length) := Lib.hid List.findIdx_le_length
  obtain ⟨rt, rk, ⟨ra, rb, rc⟩⟩ := x
  obtain ⟨a, n, cap, rfl⟩ := hO.form
  have HN : Hid (n = M.length) := Lib.hid (by
    rcases hO.2 with ⟨e, h0⟩ | ⟨g, cap, cur, e, _⟩
    · simp at e
      omega
    · simp at e
      omega)
  obtain ⟨k, Hk⟩ : ∃ k, Hid (M.findIdx p = k) := ⟨_, Lib.hid rfl⟩
  have hkn : k ≤ n := by have := HF.out; have := Hk.out; have := HN.out; omega
  have hn4 : n ≤ 40000 := by have := HN.out; omega
  have HX : Hid ((W.alloc (.cells #[.int .i64 rt, .int .i64 rk, .int .i64 ra, .int .i64 rb, .int .i64 rc] 57)).heap[W.heap.size]? = some (.cells #[.int .i64 rt, .int .i64 rk, .int .i64 ra, .int .i64 rb, .int .i64 rc] 57 (0, 0))) := Lib.hid (heap_alloc_new W _)
  have HB0 : Hid (Below W.heap.size W (W.alloc (.cells #[.int .i64 rt, .int .i64 rk, .int .i64 ra, .int .i64 rb, .int .i64 rc] 57))) := Lib.hid (ba W _)
  clear hO hp hl
  go_enter Tryz.func136, Tryz.ntmps136
  go_upto_region 1 with fail
  generalize W.alloc (.cells #[.int .i64 rt, .int .i64 rk, .int .i64 ra, .int .i64 rb, .int .i64 rc] 57) = w0 at *
  have HI := Lib.hid (indexFunc_any (HO.out.below HB0.out).rowS eg (fun W' r hb' => HP.out W' r (bt HB0.out hb')))
  go_wp2_with fail
  (with_reducible refine HI.out.mono ?_)
  rintro e w1 ⟨rfl, hb1⟩
  have HB1 := Lib.hid (bt HB0.out hb1)
  have HO1 := Lib.hid (HO.out.below HB1.out)
  have HX1 := Lib.hid ((hb1.block _ (lt_of_block HX.out)).trans HX.out)
  clear hb1
  have hzb : base ≤ w1.heap.size := Nat.le_trans hb HB1.out.size
  have HR : Hid (∀ w2, Below w1.heap.size w1 w2 → ∀ xb, w1.heap.size ≤ xb → w2.heap[xb]? = some (.cells #[.int .i64 rt, .int .i64 rk, .int .i64 ra, .int .i64 rb, .int .i64 rc] 57 (0, 0)) → Calls Tryz.prog 162 #[.slice a n cap, .int .i64 (k : Int), .slice (some ⟨xb, 0, none⟩) 1 1] w2 fun e w' => ∃ v', e = .returned v' ∧ Hid (OwnR w' base v' (insB p ⟨rt, rk, ⟨ra, rb, rc⟩⟩ M)) ∧ Hid (Kept (fun i => (Value.slice a n cap).ownBlock = some i) W w')) := Lib.hid (fun w2 hb2 xb hxb hy => by
    have hO2 := HO1.out.below hb2
    have hlt : ∀ i, (Value.slice a n cap).ownBlock = some i → i ≠ xb := fun i hi e => by
      have := OwnR.own_lt HO1.out hi
      omega
    refine (insR_any (W := w2) (k := k) hO2 (Nat.le_trans hzb hb2.size) (by have := HN.out; omega) (by have := HN.out; omega) (flat_one M) (ys := [.int .i64 rt, .int .i64 rk, .int .i64 ra, .int .i64 rb, .int .i64 rc]) hy rfl (by simp [Value.oneCell']) hlt).mono fun e w' ⟨v', e1, e2, e3⟩ => ⟨v', e1, Lib.hid ?_, Lib.hid ?_⟩
    · rw [insB_eq, Hk.out]
      unfold OwnR
      rw [List.length_append, List.length_cons, flat_app, flat_cons, ← flat_take, ← flat_drop, List.length_take, List.length_drop]
      rw [show min k M.length + (M.length - k + 1) = M.length + 1 by have := HN.out; omega]
      exact e2
    · exact (Kept.of_below (bt HB1.out hb2)).trans e3 (fun _ _ f => f))
  by_cases hlt : k < n
  · have HII : Hid (idxI p M = k) := Lib.hid (by unfold idxI; rw [if_pos (by have := Hk.out; have := HN.out; omega), Hk.out])
    rw [HII.out]
    have hk0 : ¬ (k : Int) < 0 := by omega
    have y0 : w1.cell? ⟨W.heap.size, 0, none⟩ = some (.int .i64 rt) := by simp [World.cell?, HX1.out]
    have y1 : w1.cell? ⟨W.heap.size, 1, none⟩ = some (.int .i64 rk) := by simp [World.cell?, HX1.out]
    have y2 : w1.cell? ⟨W.heap.size, 2, none⟩ = some (.int .i64 ra) := by simp [World.cell?, HX1.out]
    have y3 : w1.cell? ⟨W.heap.size, 3, none⟩ = some (.int .i64 rb) := by simp [World.cell?, HX1.out]
    have y4 : w1.cell? ⟨W.heap.size, 4, none⟩ = some (.int .i64 rc) := by simp [World.cell?, HX1.out]
    go_wp2_with fail
    refine (HR.out _ (ba w1 _) _ (Nat.le_refl _) (heap_alloc_new w1 _)).mono ?_
    rintro e w3 ⟨v', rfl, HOn, HKn⟩
    go_wp2_with fail
    go_ret
    exact ⟨v', rfl, HOn.out, HKn.out⟩
  · obtain rfl : k = n := by omega
    have HII : Hid (idxI p M = -1) := Lib.hid (by unfold idxI; rw [if_neg (by have := Hk.out; have := HN.out; omega)])
    rw [HII.out]
    have y0 : w1.cell? ⟨W.heap.size, 0, none⟩ = some (.int .i64 rt) := by simp [World.cell?, HX1.out]
    have y1 : w1.cell? ⟨W.heap.size, 1, none⟩ = some (.int .i64 rk) := by simp [World.cell?, HX1.out]
    have y2 : w1.cell? ⟨W.heap.size, 2, none⟩ = some (.int .i64 ra) := by simp [World.cell?, HX1.out]
    have y3 : w1.cell? ⟨W.heap.size, 3, none⟩ = some (.int .i64 rb) := by simp [World.cell?, HX1.out]
    have y4 : w1.cell? ⟨W.heap.size, 4, none⟩ = some (.int .i64 rc) := by simp [World.cell?, HX1.out]
    go_wp2_with fail
    refine (HR.out _ (ba w1 _) _ (Nat.le_refl _) (heap_alloc_new w1 _)).mono ?_
    rintro e w3 ⟨v', rfl, HOn, HKn⟩
    go_wp2_with fail
    go_ret
    exact ⟨v', rfl, HOn.out, HKn.out⟩
end Go.Proofs.YtgbnjjgnihjfgaaGreat
end

section
set_option linter.unusedVariables false
set_option linter.unusedSimpArgs false
namespace Go.Proofs.YtgbnjjgnihjfgaaGreat
open Go.RowKit Go.Sort Go.ChangeMaps Go.MapKept

theorem quiet_load_row {P : Program} {o : Oper} {a : Act} {w0 : World} {K : Act → Prop} (ty : TypeId) (x : Operand) (ho : o.op = .load ty x) (g : Nat) (hx : a.eval x = .pointer (some ⟨g, 0, none⟩)) (t : TypeId) (cs : Array Value) (fr : Nat × Nat) (d : TypeDesc)
    (hg : ∀ w, BC w0 w → w.heap[g]? = some (.cells cs t fr)) (hu : P.underlying ty = some d) (hd : (match d with | .struct _ | .array _ _ => true | _ => false) = true) (hi : (P.info? ty).map (·.size) = some cs.size)
    (h : K (a.put o.dst (.agg cs))) : o.quiet P a (BC w0) K :=
  ⟨.agg cs, fun w hw => by
    unfold Oper.quietAt execOp
    simp only [ho, hx, Instr.loadAt, Instr.sureAddr, Sem.run_bind, Sem.run_pure, Result.andThen_ok, run_loadVar_row w g t ty cs fr d (hg w hw) hu hd hi]
    exact ⟨rfl, rfl⟩, h⟩
theorem worldless_move {P : Program} {o : Oper} (x : Operand) (h : o.op = .move x) : Worldless P o := by
  intro a D w v hq w'
  unfold Oper.quietAt at hq
  simp only [execOp, h] at hq ⊢
  simp [Oper.quietUpon, Sem.run] at hq ⊢
  exact hq
set_option maxRecDepth 100000 in
set_option maxHeartbeats 4000000 in
theorem rowSel_any {q : MQ} {c : MCh} {eb : Nat} {w : World} (hE : EffAt w eb q c) (r : MRow) : Calls Tryz.prog 135 #[rowV r, ptr eb] w fun e w' => e = .returned (.bool (atk c.t c.k r)) ∧ Below w.heap.size w w' := by
  obtain ⟨rt, rk, ⟨r1, r2, r3⟩⟩ := r
  have HA : Hid ((effC q c)[7]? = some (.int .i64 c.t) ∧ (effC q c)[8]? = some (.int .i64 c.k)) := Lib.hid ⟨rfl, rfl⟩
  have HE := Lib.hid hE
  unfold EffAt at HE
  clear hE
  have HT : Hid (∀ b, (decide (rt = c.t ∧ rk = c.k)) = b → Ending.returned (.bool b) = .returned (.bool (atk c.t c.k ⟨rt, rk, ⟨r1, r2, r3⟩⟩))) := Lib.hid (fun b hb => by unfold atk; rw [hb])
  generalize effC q c = E at *
  generalize c.t = ct at *
  generalize c.k = ck at *
  go_enter Tryz.func135, Tryz.ntmps135
  go_upto_region 1 with fail
  have HE0 := Lib.hid (((ba w (.cells #[.int .i64 rt, .int .i64 rk, .int .i64 r1, .int .i64 r2, .int .i64 r3] 57)).block _ (lt_of_block HE.out)).trans HE.out)
  have HR : Hid ((w.alloc (.cells #[.int .i64 rt, .int .i64 rk, .int .i64 r1, .int .i64 r2, .int .i64 r3] 57)).heap[w.heap.size]? = some (.cells #[.int .i64 rt, .int .i64 rk, .int .i64 r1, .int .i64 r2, .int .i64 r3] 57 (0, 0))) := Lib.hid (heap_alloc_new w _)
  have HB : Hid (Below w.heap.size w (w.alloc (.cells #[.int .i64 rt, .int .i64 rk, .int .i64 r1, .int .i64 r2, .int .i64 r3] 57))) := Lib.hid (ba w _)
  generalize w.alloc (.cells #[.int .i64 rt, .int .i64 rk, .int .i64 r1, .int .i64 r2, .int .i64 r3] 57) = w0 at *
  have x0 : w0.cell? ⟨w.heap.size, 0, none⟩ = some (.int .i64 rt) := by simp [World.cell?, HR.out]
  have x1 : w0.cell? ⟨w.heap.size, 1, none⟩ = some (.int .i64 rk) := by simp [World.cell?, HR.out]
  have e7 : w0.cell? ⟨eb, 7, none⟩ = some (.int .i64 ct) := by simp [World.cell?, HE0.out, HA.out]
  have e8 : w0.cell? ⟨eb, 8, none⟩ = some (.int .i64 ck) := by simp [World.cell?, HE0.out, HA.out]
  by_cases h1 : rt = ct
  · have d1 : (rt == ct) = true := by simp [h1]
    by_cases h2 : rk = ck
    · have d2 : (rk == ck) = true := by simp [h2]
      have HF := Lib.hid (HT.out true (by simp [h1, h2]))
      clear h1 h2 HT
      go_wp2_with fail
      go_ret
      exact ⟨HF.out, HB.out⟩
    · have d2 : (rk == ck) = false := by simp [h2]
      have HF := Lib.hid (HT.out false (by simp [h2]))
      clear h1 h2 HT
      go_wp2_with fail
      go_ret
      exact ⟨HF.out, HB.out⟩
  · have d1 : (rt == ct) = false := by simp [h1]
    have HF := Lib.hid (HT.out false (by simp [h1]))
    clear h1 HT
    go_wp2_with fail
    go_ret
    exact ⟨HF.out, HB.out⟩
set_option maxRecDepth 100000 in
set_option maxHeartbeats 8000000 in
theorem patchRows_any {q : MQ} {c : MCh} {rb base : Nat} {r : MRes} {W : World} (hR : ResAt W rb base r) (hl : r.rows.length ≤ 39999) (hb : base ≤ W.heap.size) (hq : I64 q.column) : Calls Tryz.prog 116 #[ptr rb, .agg (effC q c)] W (PatchOut W rb base (some ⟨rowsP q r.rows c, r.val, r.fnd⟩)) := by
  obtain ⟨rows, val, fnd⟩ := r
  obtain ⟨u, hu, hO⟩ := hR
  have HU := Lib.hid hu
  have HO := Lib.hid hO
  have HL := Lib.hid hl
  have hlt := lt_of_block hu
  have hne : ¬ rb = W.heap.size := by omega
  have hne2 : ¬ W.heap.size = rb := by omega
  have HE : Hid (EffAt (W.alloc (.cells (effC q c) 97)) W.heap.size q c) := Lib.hid (EffAt.new W q c)
  have HB : Hid (Below W.heap.size W (W.alloc (.cells (effC q c) 97))) := Lib.hid (ba W _)
  simp only at HU HO HL hu hO hl ⊢
  obtain ⟨ua, un, uc, rfl⟩ := hO.form
  have HWi := Lib.hid (fun (w0 : World) (h0 : EffAt w0 W.heap.size q c) (hr : RowS w0 (.slice ua un uc) rows) => without_any hr (by have := HL.out; omega) (enters_of Tryz.func135 (by kernel_rfl) rfl) (show Chooses w0 135 #[ptr W.heap.size] (atk c.t c.k) from fun W' r hb => rowSel_any (h0.below hb) r))
  have HIn := Lib.hid (fun (w0 : World) (b : Nat) (v : Value) (M : List MRow) (h0 : OwnR w0 b v M) (hb0 : b ≤ w0.heap.size) (hm : M.length ≤ 40000) => insert_any h0 hb0 hm (aftR c) (fs := #[.agg (effC q c)]) (cb := #[]) (p := precQ q (aftR c)) (enters_of Tryz.func137 (by kernel_rfl) rfl) (fun W' r hb => effPrec_any q c r hq W'))
  have HA : Hid ((effC q c)[31]? = some (.bool (inA q c)) ∧ (effC q c)[25]? = some (.int .i64 (aftR c).t) ∧ (effC q c)[26]? = some (.int .i64 (aftR c).k) ∧ (effC q c)[27]? = some (.int .i64 (aftR c).v.a) ∧ (effC q c)[28]? = some (.int .i64 (aftR c).v.b) ∧ (effC q c)[29]? = some (.int .i64 (aftR c).v.c)) := Lib.hid ⟨rfl, rfl, rfl, rfl, rfl, rfl⟩
  have HS : Hid ((effC q c).size = 33) := Lib.hid rfl
  have HP : Hid (rowsP q rows c = if inA q c then insB (precQ q (aftR c)) (aftR c) (rows.filter fun r => !atk c.t c.k r) else rows.filter fun r => !atk c.t c.k r) := Lib.hid rfl
  have HFl : Hid ((rows.filter fun r => !atk c.t c.k r).length ≤ 40000) := Lib.hid (by have := List.length_filter_le (fun r => !atk c.t c.k r) rows; omega)
  obtain ⟨RP, HRP⟩ : ∃ RP, Hid (rowsP q rows c = RP) := ⟨_, Lib.hid rfl⟩
  rw [HRP.out] at HP ⊢
  have HBs : Hid (base ≤ W.heap.size) := Lib.hid hb
  clear hu hO hl hq hb HRP
  generalize (rows.filter fun r => !atk c.t c.k r) = F at *
  go_enter Tryz.func116, Tryz.ntmps116
  go_upto_region 1 with fail
  have HK0 : Hid (Kept (fun k => k = rb) W (W.alloc (.cells (effC q c) 97))) := Lib.hid (Kept.of_below HB.out)
  have HWw := Lib.hid (HWi.out _ HE.out (HO.out.below HB.out).rowS)
  unfold fnV ptr at *
  have HU0 := Lib.hid ((HB.out.block _ (lt_of_block HU.out)).trans HU.out)
  have HE0 := Lib.hid HE.out
  unfold EffAt at HE HE0 HWi
  clear HWi
  generalize inA q c = ia at *
  generalize effC q c = E at *
  generalize W.alloc (.cells E 97) = w0 at *
  have r0 : w0.cell? ⟨rb, 0, none⟩ = some (.slice ua un uc) := by simp only [World.cell?, HU0.out]; rfl
  go_wp2_with fail
  (with_reducible refine HWw.out.mono ?_)
  rintro e w1 ⟨v1, rfl, hO1, hb1⟩
  have HO1 := Lib.hid hO1
  have HU1 := Lib.hid ((hb1.block _ (lt_of_block HU0.out)).trans HU0.out)
  have HE1 := Lib.hid ((hb1.block _ (lt_of_block HE0.out)).trans HE0.out)
  have HK1 : Hid (Kept (fun k => k = rb) W w1) := Lib.hid (HK0.out.then hb1)
  have HZ01 : Hid (w0.heap.size ≤ w1.heap.size) := Lib.hid hb1.size
  have HB1 := Lib.hid (bt HB.out hb1)
  obtain ⟨va, vn, vcap, rfl⟩ := hO1.form
  have hw0 := HB.out.size
  have hbz : W.heap.size < w0.heap.size := lt_of_block HE0.out
  have HO1b : Hid (OwnR w1 w0.heap.size (.slice va vn vcap) F) := HO1
  have HOwn : Hid (∀ i, (Value.slice va vn vcap).ownBlock = some i → w0.heap.size ≤ i) := Lib.hid (fun i hi => OwnR.own_ge HO1.out hi)
  clear hO1 hb1 r0 HWw
  have hrz : ¬ rb = W.heap.size := by omega
  have r0 : w1.cell? ⟨rb, 0, none⟩ = some (.slice ua un uc) := by simp only [World.cell?, HU1.out]; rfl
  have rf : w1.frozen? ⟨rb, 0, none⟩ = false := by simp [World.frozen?, HU1.out]
  clear hw0 hbz
  go_upto_region 2 with fail
  generalize hw2 : w1.setCell ⟨rb, 0, none⟩ (.slice va vn vcap) = w2
  have HU2 : Hid (w2.heap[rb]? = some (.cells (resC (.slice va vn vcap) val fnd) 34 (0, 0))) := Lib.hid (by rw [← hw2]; exact setC_heap HU1.out 0 _)
  have HK12 : Hid (Kept (fun k => k = rb) w1 w2) := Lib.hid (by rw [← hw2]; exact Kept.setCell (F := fun i => i = rb) (p := ⟨rb, 0, none⟩) (Kept.of_below (Below.refl _ _)) (.inl rfl) _)
  have HE2 : Hid (w2.heap[W.heap.size]? = some (.cells E 97 (0, 0))) := Lib.hid ((HK12.out.block _ (lt_of_block HE1.out) hne2).trans HE1.out)
  have HK2 : Hid (Kept (fun k => k = rb) W w2) := Lib.hid (HK1.out.trans HK12.out (fun _ _ f => f))
  have HO2 : Hid (OwnR w2 w0.heap.size (.slice va vn vcap) F) := Lib.hid (by rw [← hw2]; exact own_setc HO1.out HU1.out)
  have HZ2 : Hid (w0.heap.size ≤ w2.heap.size) := Lib.hid (by
    have h1 := lt_of_block HE0.out
    have h2 := HK12.out.size
    have h3 := HB1.out.size
    have h4 : w0.heap.size ≤ w1.heap.size := HZ01.out
    omega)
  clear hw2 r0 rf
  have e31 : w2.cell? ⟨W.heap.size, 31, none⟩ = some (.bool ia) := by simp [World.cell?, HE2.out, HA.out]
  cases ia
  · have HPf : Hid (RP = F) := Lib.hid (by have h := HP.out; simpa using h)
    have HRf : Hid (ResAt w2 rb base ⟨RP, val, fnd⟩) := Lib.hid ⟨_, HU2.out, by rw [HPf.out]; exact HO2.out.mono (by have := HBs.out; have := HB.out.size; omega)⟩
    go_wp2_with fail
    go_ret
    exact ⟨rfl, fun r' h => by cases h; exact HRf.out, HK2.out⟩
  · have HPf : Hid (RP = insB (precQ q (aftR c)) (aftR c) F) := Lib.hid (by have h := HP.out; simpa using h)
    go_upto_region 3 with fail
    obtain ⟨⟨at', ak, ⟨a1, a2, a3⟩⟩, HAf⟩ : ∃ x, Hid (aftR c = x) := ⟨_, Lib.hid rfl⟩
    rw [HAf.out] at HIn HPf HA
    clear e31
    have HGE : Hid (∀ w1, BW w2 w1 → ∀ w, BC w1 w → w.heap[W.heap.size]? = some (.cells E 97 (0, 0))) := Lib.hid (fun w1 h w ⟨p, hp⟩ => by
      rw [hp]
      exact ((show Below w2.heap.size w2 (grow (redrawn w1 p.d) p.os) from bt h (below_regrown w1 p.d p.os)).block _ (lt_of_block HE2.out)).trans HE2.out)
    have HGe : Hid (∀ w1, BW w2 w1 → ∀ d' os, (grow (redrawn w1 d') os).heap[W.heap.size]? = some (.cells E 97 (0, 0))) := Lib.hid (fun w1 h d' os => ((show Below w2.heap.size w2 (grow (redrawn w1 d') os) from bt h (below_regrown w1 d' os)).block _ (lt_of_block HE2.out)).trans HE2.out)
    have HGr : Hid (∀ w1, BW w2 w1 → ∀ d' os, (grow (redrawn w1 d') os).heap[rb]? = some (.cells (resC (.slice va vn vcap) val fnd) 34 (0, 0))) := Lib.hid (fun w1 h d' os => ((show Below w2.heap.size w2 (grow (redrawn w1 d') os) from bt h (below_regrown w1 d' os)).block _ (lt_of_block HU2.out)).trans HU2.out)
    have g25 : ∀ wz, BW w2 wz → ∀ d' os, (grow (redrawn wz d') os).cell? ⟨W.heap.size, 25, none⟩ = some (.int .i64 at') := fun wz h d' os => by simp [World.cell?, HGe.out wz h d' os, HA.out]
    have g26 : ∀ wz, BW w2 wz → ∀ d' os, (grow (redrawn wz d') os).cell? ⟨W.heap.size, 26, none⟩ = some (.int .i64 ak) := fun wz h d' os => by simp [World.cell?, HGe.out wz h d' os, HA.out]
    have g27 : ∀ wz, BW w2 wz → ∀ d' os, (grow (redrawn wz d') os).cell? ⟨W.heap.size, 27, none⟩ = some (.int .i64 a1) := fun wz h d' os => by simp [World.cell?, HGe.out wz h d' os, HA.out]
    have g28 : ∀ wz, BW w2 wz → ∀ d' os, (grow (redrawn wz d') os).cell? ⟨W.heap.size, 28, none⟩ = some (.int .i64 a2) := fun wz h d' os => by simp [World.cell?, HGe.out wz h d' os, HA.out]
    have g29 : ∀ wz, BW w2 wz → ∀ d' os, (grow (redrawn wz d') os).cell? ⟨W.heap.size, 29, none⟩ = some (.int .i64 a3) := fun wz h d' os => by simp [World.cell?, HGe.out wz h d' os, HA.out]
    have gr : ∀ wz, BW w2 wz → ∀ d' os, (grow (redrawn wz d') os).cell? ⟨rb, 0, none⟩ = some (.slice va vn vcap) := fun wz h d' os => by simp only [World.cell?, HGr.out wz h d' os]; rfl
    refine wp_region_calm 10 0 [0, 1, 2, 3, 4, 5, 6, 7, 8, 9] (by kernel_rfl) (by kernel_rfl) (by rintro _ ⟨rfl⟩; exact worldless_move _ rfl) (by rintro _ ⟨rfl⟩ _ _ _ _ h; exact h) (by rfl) ?_
    simp only [List.take_succ_cons, List.take_zero]
    iterate 8
      apply wpCalm_want
      · rfl
      · exact bc_refl
      · exact ⟨_, Below.refl _ _⟩
      · intro w00 hC0 K hK
        go_big_quiet_op
        exact hK
    apply wpCalm_want
    · rfl
    · exact bc_refl
    · exact ⟨_, Below.refl _ _⟩
    · intro w00 hC0 K hK
      refine quiet_load_row 97 _ rfl W.heap.size rfl 97 E (0, 0) _ (fun w hw => HGE.out w00 hC0 w hw) Tryz.underlying97 rfl (by rw [HS.out]; kernel_rfl) ?_
      exact hK
    go_frame
    apply wpCalm_want
    · rfl
    · exact bc_refl
    · exact ⟨_, Below.refl _ _⟩
    · intro w00 hC0 K hK
      go_big_quiet_op
      exact hK
    refine wpCalm_nil ?_
    intro w3 hbq
    try simp only [List.drop_succ_cons, List.drop_zero]
    have HO3 := Lib.hid (HO2.out.below hbq)
    have HU3 := Lib.hid ((hbq.block _ (lt_of_block HU2.out)).trans HU2.out)
    have HK3 : Hid (Kept (fun k => k = rb) W w3) := Lib.hid (HK2.out.then hbq)
    have HI3 := Lib.hid (HIn.out w3 w0.heap.size _ F HO3.out (Nat.le_trans HZ2.out hbq.size) HFl.out)
    clear hbq gr g25 g26 g27 g28 g29
    go_wp2_with fail
    (with_reducible refine HI3.out.mono ?_)
    rintro e w4 ⟨v4, rfl, hO4, hK4⟩
    have hge4 : ∀ i, (Value.slice va vn vcap).ownBlock = some i → W.heap.size ≤ i := fun i hi => by
      have := HOwn.out i hi
      have := HB.out.size
      omega
    have HK4 : Hid (Kept (fun k => k = rb) W w4) := Lib.hid ⟨hK4.os.trans HK3.out.os, hK4.tape.trans HK3.out.tape, hK4.output.trans HK3.out.output, Nat.le_trans HK3.out.size hK4.size, fun k hk hf => (hK4.block k (Nat.lt_of_lt_of_le hk HK3.out.size) (fun e => by have := hge4 k e; omega)).trans (HK3.out.block k hk hf)⟩
    have HU4 : Hid (w4.heap[rb]? = some (.cells (resC (.slice va vn vcap) val fnd) 34 (0, 0))) := Lib.hid ((hK4.block rb (lt_of_block HU3.out) (fun e => by have := hge4 rb e; omega)).trans HU3.out)
    have HO4 := Lib.hid hO4
    obtain ⟨ya, yn, yc, rfl⟩ := hO4.form
    clear hO4 hK4 hge4
    have HRf : Hid (ResAt (w4.setCell ⟨rb, 0, none⟩ (.slice ya yn yc)) rb base ⟨RP, val, fnd⟩ ∧ Kept (fun k => k = rb) W (w4.setCell ⟨rb, 0, none⟩ (.slice ya yn yc))) := Lib.hid ⟨⟨.slice ya yn yc, setC_heap HU4.out 0 _, by
      rw [HPf.out]
      exact (own_setc HO4.out HU4.out).mono (by have := HBs.out; have := HB.out.size; omega)⟩, Kept.setCell (F := fun i => i = rb) (p := ⟨rb, 0, none⟩) HK4.out (.inl rfl) _⟩
    have r0 : w4.cell? ⟨rb, 0, none⟩ = some (.slice va vn vcap) := by simp only [World.cell?, HU4.out]; rfl
    have rf : w4.frozen? ⟨rb, 0, none⟩ = false := by simp [World.frozen?, HU4.out]
    go_wp2_with fail
    go_ret
    exact ⟨rfl, fun r' h => by cases h; exact HRf.out.1, HRf.out.2⟩
end Go.Proofs.YtgbnjjgnihjfgaaGreat
end

section
set_option linter.unusedVariables false
set_option linter.unusedSimpArgs false
namespace Go.Proofs.YtgbnjjgnihjfgaaGreat
open Go.RowKit Go.Sort Go.ChangeMaps Go.MapKept

theorem ordLt : Ord 107 ltB Lib.compareInt where
  call a b w := (Tryz.cmp_Compare_int a b w).mono fun e w' ⟨h1, h2⟩ => ⟨h1, by subst h2; exact Below.refl _ _⟩
  le a b := by unfold Lib.compareInt ltB; by_cases h1 : a < b <;> by_cases h2 : b < a <;> simp [h1, h2] <;> omega
  gt a b := by unfold Lib.compareInt ltB; by_cases h1 : a < b <;> by_cases h2 : b < a <;> simp [h1, h2] <;> omega
  neg a b := by unfold Lib.compareInt ltB; by_cases h1 : a < b <;> by_cases h2 : b < a <;> simp [h1, h2] <;> omega
set_option maxRecDepth 100000 in
set_option maxHeartbeats 4000000 in
theorem swapped_any (a b : Int) (w : World) : Calls Tryz.prog 122 #[.int .i64 a, .int .i64 b] w fun e w' => e = .returned (.int .i64 (Lib.compareInt b a)) ∧ Below w.heap.size w w' := by
  have HC := Lib.hid (Tryz.cmp_Compare_int b a w)
  generalize Lib.compareInt b a = k at *
  go_enter Tryz.func122, Tryz.ntmps122
  go_wp2_with fail
  (with_reducible refine HC.out.mono ?_)
  rintro e w1 ⟨rfl, rfl⟩
  go_wp2_with fail
  go_ret
  exact ⟨rfl, Below.refl _ _⟩
theorem ordGt : Ord 122 gtB (fun a b => Lib.compareInt b a) where
  call := swapped_any
  le a b := by unfold Lib.compareInt gtB; by_cases h1 : a < b <;> by_cases h2 : b < a <;> simp [h1, h2] <;> omega
  gt a b := by unfold Lib.compareInt gtB; by_cases h1 : a < b <;> by_cases h2 : b < a <;> simp [h1, h2] <;> omega
  neg a b := by unfold Lib.compareInt gtB; by_cases h1 : a < b <;> by_cases h2 : b < a <;> simp [h1, h2] <;> omega
theorem PatchOut.of_below {W w0 : World} {rb base : Nat} {r : Option MRes} {e : Ending} {w' : World} (hb : Below W.heap.size W w0) (h : PatchOut w0 rb base r e w') : PatchOut W rb base r e w' :=
  ⟨h.1, h.2.1, (Kept.of_below (F := fun k => k = rb) hb).trans h.2.2 (fun _ _ f => f)⟩
set_option maxRecDepth 100000 in
set_option maxHeartbeats 4000000 in
theorem patchMin_any {q : MQ} {c : MCh} {rb base : Nat} {r : MRes} {W : World} (hR : ResAt W rb base r) : Calls Tryz.prog 119 #[ptr rb, .agg (effC q c)] W (PatchOut W rb base ((extP ltB r.val r.fnd (inA q c) (inB q c) (msA q c) (msB q c)).map fun s => ⟨r.rows, s.1, s.2⟩)) := by
  have HE : Hid (EffAt (W.alloc (.cells (effC q c) 97)) W.heap.size q c) := Lib.hid (EffAt.new W q c)
  have HB : Hid (Below W.heap.size W (W.alloc (.cells (effC q c) 97))) := Lib.hid (ba W _)
  have HS : Hid ((effC q c).size = 33) := Lib.hid rfl
  have HP := Lib.hid ((patchExtreme_any ordLt (enters_of Tryz.func107 (by kernel_rfl) rfl) (q := q) (c := c) (hR.below HB.out)).mono fun e w' h => PatchOut.of_below HB.out h)
  unfold ptr fnV at *
  unfold EffAt at HE
  generalize ((extP ltB r.val r.fnd (inA q c) (inB q c) (msA q c) (msB q c)).map fun s => (⟨r.rows, s.1, s.2⟩ : MRes)) = RP at *
  clear hR
  generalize effC q c = E at *
  go_enter Tryz.func119, Tryz.ntmps119
  go_upto_region 1 with fail
  generalize W.alloc (.cells E 97) = w0 at *
  go_wp2_with (refine wpList_load_row rfl 97 _ rfl W.heap.size rfl 97 _ _ _ HE.out Tryz.underlying97 rfl (by rw [HS.out]; kernel_rfl) ?_)
  (with_reducible refine HP.out.mono ?_)
  rintro e w1 ⟨rfl, h2, h3⟩
  have H23 := Lib.hid (And.intro h2 h3)
  clear h2 h3
  go_wp2_with fail
  go_ret
  exact ⟨rfl, H23.out.1, H23.out.2⟩
set_option maxRecDepth 100000 in
set_option maxHeartbeats 4000000 in
theorem patchMax_any {q : MQ} {c : MCh} {rb base : Nat} {r : MRes} {W : World} (hR : ResAt W rb base r) : Calls Tryz.prog 121 #[ptr rb, .agg (effC q c)] W (PatchOut W rb base ((extP gtB r.val r.fnd (inA q c) (inB q c) (msA q c) (msB q c)).map fun s => ⟨r.rows, s.1, s.2⟩)) := by
  have HE : Hid (EffAt (W.alloc (.cells (effC q c) 97)) W.heap.size q c) := Lib.hid (EffAt.new W q c)
  have HB : Hid (Below W.heap.size W (W.alloc (.cells (effC q c) 97))) := Lib.hid (ba W _)
  have HS : Hid ((effC q c).size = 33) := Lib.hid rfl
  have HP := Lib.hid ((patchExtreme_any ordGt (enters_of Tryz.func122 (by kernel_rfl) rfl) (q := q) (c := c) (hR.below HB.out)).mono fun e w' h => PatchOut.of_below HB.out h)
  unfold ptr fnV at *
  unfold EffAt at HE
  generalize ((extP gtB r.val r.fnd (inA q c) (inB q c) (msA q c) (msB q c)).map fun s => (⟨r.rows, s.1, s.2⟩ : MRes)) = RP at *
  clear hR
  generalize effC q c = E at *
  go_enter Tryz.func121, Tryz.ntmps121
  go_upto_region 1 with fail
  generalize W.alloc (.cells E 97) = w0 at *
  go_wp2_with (refine wpList_load_row rfl 97 _ rfl W.heap.size rfl 97 _ _ _ HE.out Tryz.underlying97 rfl (by rw [HS.out]; kernel_rfl) ?_)
  (with_reducible refine HP.out.mono ?_)
  rintro e w1 ⟨rfl, h2, h3⟩
  have H23 := Lib.hid (And.intro h2 h3)
  clear h2 h3
  go_wp2_with fail
  go_ret
  exact ⟨rfl, H23.out.1, H23.out.2⟩
end Go.Proofs.YtgbnjjgnihjfgaaGreat
end

section
set_option linter.unusedVariables false
set_option linter.unusedSimpArgs false
namespace Go.Proofs.YtgbnjjgnihjfgaaGreat
open Go.RowKit Go.Sort Go.ChangeMaps Go.MapKept

abbrev PR := MRow × MRow
abbrev prCells (p : PR) : Array Value := #[.int .i64 p.1.t, .int .i64 p.1.k, .int .i64 p.1.v.a, .int .i64 p.1.v.b, .int .i64 p.1.v.c, .int .i64 p.2.t, .int .i64 p.2.k, .int .i64 p.2.v.a, .int .i64 p.2.v.b, .int .i64 p.2.v.c]
abbrev prV (p : PR) : Value := .agg (prCells p)
abbrev prZ : PR := (rowZ, rowZ)
theorem Tryz.info198 : (Tryz.prog.info? 198).map (fun i => (i.zero, i.size, i.bytes)) = some (some (.agg #[.int .i64 0, .int .i64 0, .int .i64 0, .int .i64 0, .int .i64 0, .int .i64 0, .int .i64 0, .int .i64 0, .int .i64 0, .int .i64 0]), 10, 80) := by kernel_rfl
def PrAt (w : World) (b o : Nat) (c : PR) : Prop := ∀ j : Nat, j < 10 → w.cell? ⟨b, o + j, none⟩ = (prCells c)[j]?
/-- A slice that reads as a list of changes. -/
def PrS (w : World) (v : Value) (L : List PR) : Prop :=
  ∃ a n cap, v = .slice a n cap ∧ n = L.length ∧ n ≤ cap ∧ cap ≤ 9223372036854775807 ∧ (1 ≤ n → ∃ b o, a = some ⟨b, o, none⟩ ∧ b < w.heap.size ∧ ∀ i, i < n → PrAt w b (o + i * 10) (L.getD i prZ))
theorem PrAt.below {w w1 : World} {b o : Nat} {c : PR} (h : PrAt w b o c) (hb : b < w.heap.size) (k : Below w.heap.size w w1) : PrAt w1 b o c := fun j hj => by rw [(bcell k).1 b _ hb]; exact h j hj
theorem PrS.below {w w1 : World} {v : Value} {L : List PR} (h : PrS w v L) (k : Below w.heap.size w w1) : PrS w1 v L := by
  obtain ⟨a, n, cap, e, hn, h1, h2, h3⟩ := h
  refine ⟨a, n, cap, e, hn, h1, h2, fun h => ?_⟩
  obtain ⟨b, o, e, hb, hc⟩ := h3 h
  exact ⟨b, o, e, Nat.lt_of_lt_of_le hb k.size, fun i hi => (hc i hi).below hb k⟩

def pcl (c : PR) : List Value := (prCells c).toList
theorem pcl_len (c : PR) : (pcl c).length = 10 := rfl
def flatP (M : List PR) : List Value := M.flatMap pcl
theorem flatP_app (M N : List PR) : flatP (M ++ N) = flatP M ++ flatP N := by simp [flatP]
theorem flatP_get (M : List PR) : ∀ i j, i < M.length → j < 10 → (flatP M)[i * 10 + j]? = (pcl (M.getD i prZ))[j]? := by
  induction M with
  | nil => intro i j h; simp at h
  | cons r M ih =>
    intro i j hi hj
    rw [flatP, List.flatMap_cons, ← flatP]
    cases i with
    | zero =>
      rw [List.getElem?_append_left (by rw [pcl_len]; omega)]
      simp
    | succ i =>
      rw [List.getElem?_append_right (by rw [pcl_len]; omega), pcl_len, show (i + 1) * 10 + j - 10 = i * 10 + j by omega, ih i j (by simpa using hi) hj]
      simp
theorem pcl_one (c : PR) : ∀ v ∈ pcl c, v.oneCell' = true := by
  intro v hv
  simp [pcl, prCells] at hv
  rcases hv with rfl | rfl | rfl | rfl | rfl | rfl | rfl | rfl | rfl | rfl <;> rfl
theorem flatP_one (N : List PR) : ∀ u ∈ flatP N, u.oneCell' = true := by
  intro u hu
  obtain ⟨r, _, hr⟩ := List.mem_flatMap.1 hu
  exact pcl_one r u hr

/-- A slice of the call's own that holds a list of changes. -/
def OwnP (W : World) (base : Nat) (v : Value) (M : List PR) : Prop := W.ownsRow base 198 10 v M.length (flatP M)
theorem OwnP.nil (W : World) (base : Nat) : OwnP W base (.slice none 0 0) [] := ⟨rfl, .inl ⟨rfl, rfl⟩⟩
theorem OwnP.prS {W : World} {base : Nat} {v : Value} {M : List PR} (h : OwnP W base v M) : PrS W v M := by
  obtain ⟨hl, h⟩ := h
  rcases h with ⟨rfl, h0⟩ | ⟨g, cap, cur, rfl, hg, hb, h1, h2, h3, h4⟩
  · obtain rfl := List.length_eq_zero_iff.1 h0
    exact ⟨none, 0, 0, rfl, rfl, Nat.le_refl _, by omega, fun h => by omega⟩
  · refine ⟨_, _, cap, rfl, rfl, h1, by unfold maxLen at h2; omega, fun _ => ⟨g, 0, rfl, lt_of_block hb, fun i hi j hj => ?_⟩⟩
    have h5 := flatP_get M i j hi hj
    rw [← h4, List.getElem?_take_of_lt (by omega), Array.getElem?_toList] at h5
    unfold pcl at h5
    rw [Array.getElem?_toList] at h5
    rw [← h5]
    simp [World.cell?, hb]
theorem OwnP.kept {F : Nat → Prop} {W W' : World} {base : Nat} {v : Value} {M : List PR} (h : OwnP W base v M) (k : Kept F W W') (hF : ∀ i, v.ownBlock = some i → ¬ F i) : OwnP W' base v M := by
  obtain ⟨hl, h⟩ := h
  exact ⟨hl, h.imp id fun ⟨g, cap, cur, e, hg, hb, r⟩ => ⟨g, cap, cur, e, hg, (k.block g (lt_of_block hb) (hF g (by rw [e]; rfl))).trans hb, r⟩⟩
theorem OwnP.below {W W' : World} {base : Nat} {v : Value} {M : List PR} (h : OwnP W base v M) (k : Below W.heap.size W W') : OwnP W' base v M := h.kept (F := fun _ => False) (Kept.of_below k) (fun _ _ => id)
theorem OwnP.mono {W : World} {base base' : Nat} {v : Value} {M : List PR} (h : OwnP W base v M) (hb : base' ≤ base) : OwnP W base' v M := by
  obtain ⟨hl, h⟩ := h
  exact ⟨hl, h.imp id fun ⟨g, cap, cur, e, hg, r⟩ => ⟨g, cap, cur, e, by omega, r⟩⟩
theorem flatP_cons (r : PR) (M : List PR) : flatP (r :: M) = pcl r ++ flatP M := rfl
theorem flatP_take (M : List PR) : ∀ q : Nat, (flatP M).take (q * 10) = flatP (M.take q) := by
  induction M with
  | nil => intro q; simp [flatP]
  | cons r M ih =>
    intro q
    cases q with
    | zero => simp [flatP]
    | succ q =>
      rw [flatP_cons, List.take_succ_cons, flatP_cons, ← ih, show (q + 1) * 10 = (pcl r).length + q * 10 by rw [pcl_len]; omega, List.take_length_add_append]
theorem flatP_drop (M : List PR) : ∀ q : Nat, (flatP M).drop (q * 10) = flatP (M.drop q) := by
  induction M with
  | nil => intro q; simp [flatP]
  | cons r M ih =>
    intro q
    cases q with
    | zero => simp
    | succ q =>
      rw [flatP_cons, List.drop_succ_cons, ← ih, show (q + 1) * 10 = (pcl r).length + q * 10 by rw [pcl_len]; omega, List.drop_length_add_append]
theorem ownP_form2 {w : World} {base : Nat} {v : Value} {M : List PR} (h : OwnP w base v M) : ∃ a n c, v = .slice a n c := by
  rcases h.2 with ⟨rfl, _⟩ | ⟨g, cap, cur, rfl, _⟩
  · exact ⟨_, _, _, rfl⟩
  · exact ⟨_, _, _, rfl⟩
theorem PrAt.cells {w : World} {b o : Nat} {rt rk ra rb rc st sk sa sb sc : Int} (h : PrAt w b o (⟨rt, rk, ⟨ra, rb, rc⟩⟩, ⟨st, sk, ⟨sa, sb, sc⟩⟩)) : w.cell? ⟨b, o, none⟩ = some (.int .i64 rt) ∧ w.cell? ⟨b, o + 1, none⟩ = some (.int .i64 rk) ∧ w.cell? ⟨b, o + 2, none⟩ = some (.int .i64 ra) ∧ w.cell? ⟨b, o + 3, none⟩ = some (.int .i64 rb) ∧ w.cell? ⟨b, o + 4, none⟩ = some (.int .i64 rc) ∧ w.cell? ⟨b, o + 5, none⟩ = some (.int .i64 st) ∧ w.cell? ⟨b, o + 6, none⟩ = some (.int .i64 sk) ∧ w.cell? ⟨b, o + 7, none⟩ = some (.int .i64 sa) ∧ w.cell? ⟨b, o + 8, none⟩ = some (.int .i64 sb) ∧ w.cell? ⟨b, o + 9, none⟩ = some (.int .i64 sc) := by
  refine ⟨?_, ?_, ?_, ?_, ?_, ?_, ?_, ?_, ?_, ?_⟩
  · exact h 0 (by omega)
  · exact h 1 (by omega)
  · exact h 2 (by omega)
  · exact h 3 (by omega)
  · exact h 4 (by omega)
  · exact h 5 (by omega)
  · exact h 6 (by omega)
  · exact h 7 (by omega)
  · exact h 8 (by omega)
  · exact h 9 (by omega)
theorem PrAt.cells0 {w : World} {b : Nat} {rt rk ra rb rc st sk sa sb sc : Int} (h : PrAt w b 0 (⟨rt, rk, ⟨ra, rb, rc⟩⟩, ⟨st, sk, ⟨sa, sb, sc⟩⟩)) : w.cell? ⟨b, 0, none⟩ = some (.int .i64 rt) ∧ w.cell? ⟨b, 1, none⟩ = some (.int .i64 rk) ∧ w.cell? ⟨b, 2, none⟩ = some (.int .i64 ra) ∧ w.cell? ⟨b, 3, none⟩ = some (.int .i64 rb) ∧ w.cell? ⟨b, 4, none⟩ = some (.int .i64 rc) ∧ w.cell? ⟨b, 5, none⟩ = some (.int .i64 st) ∧ w.cell? ⟨b, 6, none⟩ = some (.int .i64 sk) ∧ w.cell? ⟨b, 7, none⟩ = some (.int .i64 sa) ∧ w.cell? ⟨b, 8, none⟩ = some (.int .i64 sb) ∧ w.cell? ⟨b, 9, none⟩ = some (.int .i64 sc) := by
  refine ⟨?_, ?_, ?_, ?_, ?_, ?_, ?_, ?_, ?_, ?_⟩
  · have e := h 0 (by omega)
    rw [Nat.zero_add] at e
    exact e
  · have e := h 1 (by omega)
    rw [Nat.zero_add] at e
    exact e
  · have e := h 2 (by omega)
    rw [Nat.zero_add] at e
    exact e
  · have e := h 3 (by omega)
    rw [Nat.zero_add] at e
    exact e
  · have e := h 4 (by omega)
    rw [Nat.zero_add] at e
    exact e
  · have e := h 5 (by omega)
    rw [Nat.zero_add] at e
    exact e
  · have e := h 6 (by omega)
    rw [Nat.zero_add] at e
    exact e
  · have e := h 7 (by omega)
    rw [Nat.zero_add] at e
    exact e
  · have e := h 8 (by omega)
    rw [Nat.zero_add] at e
    exact e
  · have e := h 9 (by omega)
    rw [Nat.zero_add] at e
    exact e
theorem prAt_of {w : World} {b t : Nat} {p : PR} (h : w.heap[b]? = some (.cells (prCells p) t (0, 0))) : PrAt w b 0 p := fun j hj => by simp [World.cell?, h]
theorem OwnP.own_lt {W : World} {base : Nat} {v : Value} {M : List PR} (h : OwnP W base v M) {k : Nat} (e : v.ownBlock = some k) : k < W.heap.size := by
  obtain ⟨_, _, hc⟩ := own_type h e
  exact lt_of_block hc
theorem OwnP.own_ge {W : World} {base : Nat} {v : Value} {M : List PR} (h : OwnP W base v M) {k : Nat} (e : v.ownBlock = some k) : base ≤ k := (own_type h e).1
end Go.Proofs.YtgbnjjgnihjfgaaGreat
end

section
set_option linter.unusedVariables false
set_option linter.unusedSimpArgs false
namespace Go.Proofs.YtgbnjjgnihjfgaaGreat
open Go.RowKit Go.Sort Go.ChangeMaps Go.MapKept

/-- What 'without' is handed for pairs. -/
def ChoosesP (W : World) (g : FuncId) (cb : Array Value) (sel : PR → Bool) : Prop :=
  ∀ (W' : World) (r : PR), Below W.heap.size W W' → Calls Tryz.prog g (#[prV r] ++ cb) W' fun e w' => e = .returned (.bool (sel r)) ∧ Below W'.heap.size W' w'
def TellsP (W : World) (g : FuncId) (fs cb : Array Value) (p : PR → Bool) : Prop :=
  ∀ (W' : World) (r : PR), Below W.heap.size W W' → Calls Tryz.prog g (fs ++ #[prV r] ++ cb) W' fun e w' => e = .returned (.bool (p r)) ∧ Below W'.heap.size W' w'
set_option maxRecDepth 100000 in
set_option maxHeartbeats 8000000 in
theorem withoutP_any {W : World} {va : Value} {L : List PR} (hR : PrS W va L) (hl : L.length ≤ 40000) {g : FuncId} {cb : Array Value} {sel : PR → Bool} (eg : ∀ args w, (callFunc g args).run Tryz.prog w = .ok (.enter g args) w) (hsel : ChoosesP W g cb sel) :
    Calls Tryz.prog 165 #[va, .func (.func g) #[] cb] W fun e w' => ∃ v, e = .returned v ∧ OwnP w' W.heap.size v (L.filter fun r => !sel r) ∧ Below W.heap.size W w' := by
  obtain ⟨i0, hI, hZ0, hZ1, hZ2⟩ := info_parts Tryz.info198
  have HR := Lib.hid hR
  have HSel := Lib.hid hsel
  obtain ⟨a, n, cap, rfl, hn, hc1, hc2, _⟩ := hR
  have HN := Lib.hid hn
  have hn2 : n ≤ 9223372036854775807 := by omega
  have HLl : Hid (L.length ≤ 40000) := Lib.hid hl
  clear hsel hn hl
  go_enter Tryz.func165, Tryz.ntmps165
  go_wp2_with fail
  go_loopw [5, 10] (fun v i wr => ∃ k : Nat, k ≤ n ∧ i = .int .i64 k ∧ Hid (OwnP wr W.heap.size v ((L.take k).filter fun r => !sel r)) ∧ Hid (Below W.heap.size W wr)) (fun v i _ => n - (intOf i).toNat)
  case atStart => exact ⟨0, by omega, rfl, Lib.hid (OwnP.nil _ _), Lib.hid (Below.refl _ _)⟩
  case round =>
    obtain ⟨k, hk, rfl, HO, HB⟩ := hrel
    obtain ⟨v, hvv⟩ : ∃ v, v = u5 := ⟨_, rfl⟩
    subst hvv
    by_cases hlt : k < n
    · obtain ⟨_, n', _, e1, -, -, -, hcell⟩ := HR.out.below HB.out
      simp at e1
      obtain ⟨rfl, hnn, rfl⟩ := e1
      obtain ⟨vb, vo, rfl, hvb, hcs⟩ := hcell (by omega)
      have HRm := hcs k (by omega)
      clear hcs hcell hnn
      obtain ⟨⟨⟨rt, rk, ⟨ra, rb, rc⟩⟩, ⟨st, sk, ⟨sa, sb, sc⟩⟩⟩, Hr⟩ : ∃ r, Hid (L.getD k prZ = r) := ⟨_, Lib.hid rfl⟩
      rw [Hr.out] at HRm
      obtain ⟨y0, y1, y2, y3, y4, y5, y6, y7, y8, y9⟩ := HRm.cells
      skip
      clear HRm
      have HTk : Hid (L.take (k + 1) = L.take k ++ [(⟨rt, rk, ⟨ra, rb, rc⟩⟩, ⟨st, sk, ⟨sa, sb, sc⟩⟩)]) := Lib.hid (by rw [take_snoc' (d := prZ) (by have := HN.out; omega), Hr.out])
      have hlen : ((L.take k).filter fun r => !sel r).length ≤ 40000 := by
        have h1 := List.length_filter_le (fun r => !sel r) (L.take k)
        have h2 := List.length_take_le k L
        have h3 := HLl.out
        have h4 := HN.out
        omega
      go_wp2_with fail
      refine (HSel.out _ (⟨rt, rk, ⟨ra, rb, rc⟩⟩, ⟨st, sk, ⟨sa, sb, sc⟩⟩) (bt HB.out (ba wr _))).mono ?_
      rintro e w2 ⟨rfl, hb2⟩
      have HY2 : Hid (PrAt w2 wr.heap.size 0 (⟨rt, rk, ⟨ra, rb, rc⟩⟩, ⟨st, sk, ⟨sa, sb, sc⟩⟩)) := Lib.hid (prAt_of (t := 198) ((hb2.block _ (by simp)).trans (MapKept.heap_alloc wr _).1))
      have HB12 : Hid (Below wr.heap.size wr w2) := Lib.hid (bt (ba wr _) hb2)
      obtain ⟨bq, Hbq⟩ : ∃ bq, Hid (sel (⟨rt, rk, ⟨ra, rb, rc⟩⟩, ⟨st, sk, ⟨sa, sb, sc⟩⟩) = bq) := ⟨_, Lib.hid rfl⟩
      rw [Hbq.out]
      clear hb2 y0 y1 y2 y3 y4 y5 y6 y7 y8 y9
      have HB2 := Lib.hid (bt HB.out HB12.out)
      cases bq
      · obtain ⟨y0, y1, y2, y3, y4, y5, y6, y7, y8, y9⟩ := PrAt.cells0 HY2.out
        skip
        have HO2 : Hid (w2.ownsRow W.heap.size 198 10 v ((L.take k).filter fun r => !sel r).length (flatP ((L.take k).filter fun r => !sel r))) := Lib.hid (HO.out.below HB12.out)
        have hzw : W.heap.size ≤ w2.heap.size := HB2.out.size
        go_wp2_with (at_builtin; go_loud (refine wpList_append_own _ rfl _ _ 173 rfl W.heap.size 198 i0 (.agg #[.int .i64 0, .int .i64 0, .int .i64 0, .int .i64 0, .int .i64 0, .int .i64 0, .int .i64 0, .int .i64 0, .int .i64 0, .int .i64 0]) 10 80 Tryz.underlying173 hI hZ0 hZ1 hZ2 rfl (by decide) _ _ _ rfl (HO2.out.alloc _) ⟨w2.heap.size, 0, none⟩ 1 1 [.int .i64 rt, .int .i64 rk, .int .i64 ra, .int .i64 rb, .int .i64 rc, .int .i64 st, .int .i64 sk, .int .i64 sa, .int .i64 sb, .int .i64 sc] rfl rfl (World.news_of_block (cs := #[.int .i64 rt, .int .i64 rk, .int .i64 ra, .int .i64 rb, .int .i64 rc, .int .i64 st, .int .i64 sk, .int .i64 sa, .int .i64 sb, .int .i64 sc]) (t := 198) (fr := (0, 0)) (heap_alloc_new w2 _)) (by simp [Value.oneCell']) (by unfold maxLen; omega) (by omega) (by simp; omega) ?_); intro v' w3 hown' hgrow _)
        have HOn : Hid (OwnP w3 W.heap.size v' ((L.take (k + 1)).filter fun r => !sel r)) := Lib.hid (by
          rw [HTk.out, List.filter_append, List.filter_cons_of_pos (by rw [Hbq.out]; rfl), List.filter_nil]
          unfold OwnP
          rw [List.length_append, flatP_app]
          exact hown')
        have hge : ∀ k, v.ownBlock = some k → W.heap.size ≤ k := fun k e => OwnP.own_ge HO.out e
        have hKg : Kept (fun k => v.ownBlock = some k) w2 w3 := (Kept.of_below (F := fun k => v.ownBlock = some k) (ba w2 _)).trans (kept_grown hgrow) (fun _ _ f => f)
        have HBn : Hid (Below W.heap.size W w3) := Lib.hid (((Kept.of_below (F := fun k => v.ownBlock = some k) HB2.out).trans hKg (fun _ _ f => f)).below (Nat.le_refl _) (fun k e => hge _ e))
        clear hown' hgrow hKg hge
        go_wp2_with fail
        exact ⟨⟨k + 1, by omega, by go_num, HOn, HBn⟩, by simp [intOf]; omega⟩
      · have HOn : Hid (OwnP w2 W.heap.size v ((L.take (k + 1)).filter fun r => !sel r)) := Lib.hid (by
          rw [HTk.out, List.filter_append, List.filter_cons_of_neg (by rw [Hbq.out]; decide), List.filter_nil, List.append_nil]
          exact HO.out.below HB12.out)
        go_wp2_with fail
        exact ⟨⟨k + 1, by omega, by go_num, HOn, HB2⟩, by simp [intOf]; omega⟩
    · obtain rfl : k = n := by omega
      have HOe : Hid (OwnP wr W.heap.size v (L.filter fun r => !sel r)) := Lib.hid (by
        have h := HO.out
        rw [HN.out, List.take_length] at h
        exact h)
      go_wp2_with fail
      go_ret
      exact ⟨v, rfl, HOe.out, HB.out⟩

set_option maxRecDepth 100000 in
set_option maxHeartbeats 8000000 in
theorem indexFuncP_any {W : World} {va : Value} {L : List PR} (hR : PrS W va L) {g : FuncId} {fs cb : Array Value} {p : PR → Bool} (eg : ∀ args w, (callFunc g args).run Tryz.prog w = .ok (.enter g args) w) (hsel : TellsP W g fs cb p) :
    Calls Tryz.prog 163 #[va, .func (.func g) fs cb] W fun e w' => e = .returned (.int .i64 (idxI p L)) ∧ Below W.heap.size W w' := by
  have HR := Lib.hid hR
  have HSel := Lib.hid hsel
  obtain ⟨a, n, cap, rfl, hn, hc1, hc2, _⟩ := hR
  have HN := Lib.hid hn
  have hn2 : n ≤ 9223372036854775807 := by omega
  clear hsel hn
  go_enter Tryz.func163, Tryz.ntmps163
  go_wp2_with fail
  go_loopw [8] (fun i wr => ∃ k : Nat, k ≤ n ∧ i = .int .i64 k ∧ Hid (k ≤ L.findIdx p) ∧ Hid (Below W.heap.size W wr)) (fun i _ => n - (intOf i).toNat)
  case atStart => exact ⟨0, by omega, rfl, Lib.hid (Nat.zero_le _), Lib.hid (Below.refl _ _)⟩
  case round =>
    obtain ⟨k, hk, rfl, HI, HB⟩ := hrel
    by_cases hlt : k < n
    · obtain ⟨_, n', _, e1, -, -, -, hcell⟩ := HR.out.below HB.out
      simp at e1
      obtain ⟨rfl, hnn, rfl⟩ := e1
      obtain ⟨vb, vo, rfl, hvb, hcs⟩ := hcell (by omega)
      have HRm := hcs k (by omega)
      clear hcs hcell hnn
      have HKL : Hid (k < L.length) := Lib.hid (by have := HN.out; omega)
      obtain ⟨⟨⟨rt, rk, ⟨ra, rb, rc⟩⟩, ⟨st, sk, ⟨sa, sb, sc⟩⟩⟩, Hr⟩ : ∃ r, Hid (L.getD k prZ = r) := ⟨_, Lib.hid rfl⟩
      rw [Hr.out] at HRm
      obtain ⟨y0, y1, y2, y3, y4, y5, y6, y7, y8, y9⟩ := HRm.cells
      skip
      clear HRm
      go_wp2_with fail
      refine (HSel.out _ (⟨rt, rk, ⟨ra, rb, rc⟩⟩, ⟨st, sk, ⟨sa, sb, sc⟩⟩) HB.out).mono ?_
      rintro e w2 ⟨rfl, hb2⟩
      have HB2 := Lib.hid (bt HB.out hb2)
      obtain ⟨bq, Hbq⟩ : ∃ bq, Hid (p (⟨rt, rk, ⟨ra, rb, rc⟩⟩, ⟨st, sk, ⟨sa, sb, sc⟩⟩) = bq) := ⟨_, Lib.hid rfl⟩
      have HPk : Hid (p (L[k]'HKL.out) = bq) := Lib.hid (by rw [← getD_at prZ HKL.out, Hr.out]; exact Hbq.out)
      rw [Hbq.out]
      clear hb2 y0 y1 y2 y3 y4 y5 y6 y7 y8 y9
      cases bq
      · have HIn : Hid (k + 1 ≤ L.findIdx p) := Lib.hid (idx_miss HKL.out HI.out HPk.out)
        go_wp2_with fail
        exact ⟨⟨k + 1, by omega, by go_num, HIn, HB2⟩, by simp [intOf]; omega⟩
      · have HIn : Hid (idxI p L = k) := Lib.hid (by unfold idxI; rw [idx_hit HKL.out HI.out HPk.out, if_pos HKL.out])
        go_wp2_with fail
        go_ret
        exact ⟨by rw [HIn.out]; rfl, HB2.out⟩
    · obtain rfl : k = n := by omega
      have HIn : Hid (idxI p L = -1) := Lib.hid (by unfold idxI; rw [if_neg (by have := HI.out; have := HN.out; omega)])
      go_wp2_with fail
      go_ret
      exact ⟨by rw [HIn.out]; rfl, HB.out⟩

end Go.Proofs.YtgbnjjgnihjfgaaGreat
end
