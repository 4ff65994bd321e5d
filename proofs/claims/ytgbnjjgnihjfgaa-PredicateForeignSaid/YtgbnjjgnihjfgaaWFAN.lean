/- QE, PT, PU, QF -/
import Derived.Test.YtgbnjjgnihjfgaaProg
import Derived.WalkKit
import Derived.Below
import Derived.Lib.Hide
import Derived.Laws.StructEq
import Derived.Lib.QuietBelow
import Derived.Deep.RegionHeld3
import Derived.Deep.RegionWith
import Derived.IntWalk
import Derived.BigQuiet
import Derived.Maps.RangeWalk
import Derived.DeepKeys4
import Derived.OneCell
import Derived.StillTail
import Derived.Deep.CutRange
import Derived.Outline
import Derived.WalkSpells
import Derived.Carry
import Derived.Shelf.SlGeneric
import Derived.Shelf.SlSortCmp.WholeK
import Derived.Shelf.SlicesG.Cmp
import Derived.Ground.SlsfProg
import Derived.Ground.SlgcProg
import Derived.Sort.OwnSorted
import Derived.Deep.AppendLies
import Derived.Shelf.SlSortCmp.NoneTotal
import Derived.Deep.QuietTactic
import Derived.Laws.AppendOwnNone
import Derived.Laws.EntriesVeiled
import Derived.Lib.SliceRun
import Derived.Deep.Cut
import Derived.Laws.ResultCell
import Derived.ArgAppend
import Derived.Laws.Rows
import Derived.Great.BuildSlice
import Derived.Great.Frames
import Derived.Deep.DeepCutAuto
import Derived.Lib.AppendZeros
import Derived.Lib.Overlaps
import Derived.Laws.CopyRow
import Derived.Laws.AppendOwn
import Derived.Laws.Externs
import Derived.Deep.RegionLawGrows
import Derived.Test.YtgbnjjgnihjfgaaWFAL
import Derived.Test.YtgbnjjgnihjfgaaWFAG
import Derived.Test.YtgbnjjgnihjfgaaWFAJ
import Derived.Test.YtgbnjjgnihjfgaaWFAH
import Derived.Test.YtgbnjjgnihjfgaaWFAI
import Derived.Test.YtgbnjjgnihjfgaaWFAE
import Derived.Test.YtgbnjjgnihjfgaaWFAD
import Derived.Test.YtgbnjjgnihjfgaaWFAB
import Derived.Test.YtgbnjjgnihjfgaaWFAF
import Derived.Test.YtgbnjjgnihjfgaaWFAM
import Derived.Test.YtgbnjjgnihjfgaaWFAC
import Derived.Test.YtgbnjjgnihjfgaaWFAA
section
set_option linter.unusedVariables false
set_option linter.unusedSimpArgs false
namespace Go.Proofs.Ytgbnjjgnihjfgaa
open Go.RowKit Go.Sort Go.ChangeMaps Go.MapKept

theorem find_idx {α : Type} (p : α → Bool) (d : α) : ∀ l : List α, l.find? p = if l.findIdx p < l.length then some (l.getD (l.findIdx p) d) else none
  | [] => by simp
  | a :: l => by
    have ih := find_idx p d l
    by_cases h : p a = true
    · rw [List.find?_cons_of_pos h, List.findIdx_cons, h]
      simp
    · have h' : p a = false := by simpa using h
      rw [List.find?_cons_of_neg h, ih, List.findIdx_cons, h']
      simp
attribute [local irreducible] wpCalm in
set_option maxRecDepth 100000 in
set_option maxHeartbeats 8000000 in
theorem patchLeft_any {q : MQ} {c : MCh} {W : World} {base : Nat} {v : Value} {ps : List PR} (hO : OwnP W base v ps) (hb : base ≤ W.heap.size) (hl : ps.length ≤ 39999) (hq : I64 q.column) : Calls Try.prog 171 #[v, .agg (effC q c)] W fun e w' => ∃ v', e = .returned (.tuple #[v', .bool (leftP q ps c).isSome]) ∧ (∀ r, leftP q ps c = some r → OwnP w' base v' r) ∧ (∃ r, PrS w' v' r ∧ r.length ≤ 40000) ∧ Below W.heap.size W w' := by
  have HO := Lib.hid hO
  have HL : Hid (ps.length ≤ 39999) := Lib.hid hl
  have HBs : Hid (base ≤ W.heap.size) := Lib.hid hb
  have HE : Hid (EffAt (W.alloc (.cells (effC q c) 132)) W.heap.size q c) := Lib.hid (EffAt.new W q c)
  have HB : Hid (Below W.heap.size W (W.alloc (.cells (effC q c) 132))) := Lib.hid (ba W _)
  obtain ⟨va, vn, vcap, rfl⟩ := ownP_form2 hO
  have HIx := Lib.hid (fun (w0 : World) (h0 : EffAt w0 W.heap.size q c) (hr : PrS w0 (.slice va vn vcap) ps) => indexFuncP_any hr (fs := #[]) (enters_of Try.func197 (by kernel_rfl) rfl) (show TellsP w0 197 #[] #[ptr W.heap.size] (fun p => decide (p.2.k = msA q c)) from fun W' r hb => pairPartner_any (h0.below hb) r))
  have HWi := Lib.hid (fun (w0 : World) (h0 : EffAt w0 W.heap.size q c) (hr : PrS w0 (.slice va vn vcap) ps) => withoutP_any hr (by have := HL.out; omega) (enters_of Try.func199 (by kernel_rfl) rfl) (show ChoosesP w0 199 #[ptr W.heap.size] (fun p => decide (p.1.k = c.k)) from fun W' r hb => pairLeft_any (h0.below hb) r))
  have HIn := Lib.hid (fun (w0 : World) (b : Nat) (v : Value) (M : List PR) (x : PR) (h0 : OwnP w0 b v M) (he : EffAt w0 W.heap.size q c) (hb0 : b ≤ w0.heap.size) (hm : M.length ≤ 40000) => insertP_any h0 hb0 hm x (fs := #[]) (cb := #[ptr W.heap.size]) (p := fun p => precQ q (aftR c) p.1) (enters_of Try.func201 (by kernel_rfl) rfl) (fun W' r hb => pairPrec_any (he.below hb) hq r))
  have HA : Hid ((effC q c)[31]? = some (.bool (inA q c)) ∧ (effC q c)[23]? = some (.bool (inB q c)) ∧ (effC q c)[24]? = some (.int .i64 (msB q c)) ∧ (effC q c)[32]? = some (.int .i64 (msA q c)) ∧ (effC q c)[25]? = some (.int .i64 (aftR c).t) ∧ (effC q c)[26]? = some (.int .i64 (aftR c).k) ∧ (effC q c)[27]? = some (.int .i64 (aftR c).v.a) ∧ (effC q c)[28]? = some (.int .i64 (aftR c).v.b) ∧ (effC q c)[29]? = some (.int .i64 (aftR c).v.c)) := Lib.hid ⟨rfl, rfl, rfl, rfl, rfl, rfl, rfl, rfl, rfl⟩
  obtain ⟨RP, HRP⟩ : ∃ RP, Hid (leftP q ps c = RP) := ⟨_, Lib.hid rfl⟩
  rw [HRP.out]
  have HP : Hid (RP = if inA q c = false then some (ps.filter fun p => !decide (p.1.k = c.k))
      else match (if ps.findIdx (fun p => decide (p.2.k = msA q c)) < ps.length then some (ps.getD (ps.findIdx (fun p => decide (p.2.k = msA q c))) prZ) else none) with
      | none => if inB q c && decide (msB q c = msA q c) then some (ps.filter fun p => !decide (p.1.k = c.k)) else none
      | some m => some (insB (fun p => precQ q (aftR c) p.1) (aftR c, m.2) (ps.filter fun p => !decide (p.1.k = c.k)))) := Lib.hid (by rw [← HRP.out]; unfold leftP; rw [find_idx _ prZ]; rfl)
  have HN : Hid (vn = ps.length) := Lib.hid (by
    rcases hO.2 with ⟨e, h0⟩ | ⟨g, cap, cur, e, _⟩
    · simp at e
      omega
    · simp at e
      omega)
  have HFl : Hid ((ps.filter fun p => !decide (p.1.k = c.k)).length ≤ 39999) := Lib.hid (by have := List.length_filter_le (fun p : PR => !decide (p.1.k = c.k)) ps; omega)
  clear hO hl hb HRP hq
  go_enter Try.func171, Try.ntmps171
  go_upto_region 1 with fail
  have HIw := Lib.hid (HIx.out _ HE.out (HO.out.below HB.out).prS)
  have HWw := Lib.hid (fun w1 (h : Below _ (W.alloc (.cells (effC q c) 132)) w1) => HWi.out w1 (HE.out.below h) (HO.out.below (bt HB.out h)).prS)
  have HInn := Lib.hid (fun w1 (h : Below _ (W.alloc (.cells (effC q c) 132)) w1) b v M x h0 => HIn.out w1 b v M x h0 (HE.out.below h))
  unfold EffAt at HE HWi HIx HIn
  unfold ptr at HWw HIw HInn
  clear HWi HIx HIn
  generalize inA q c = ia at *
  generalize inB q c = ib at *
  generalize msA q c = ma at *
  generalize msB q c = mb at *
  obtain ⟨ix, Hix⟩ : ∃ ix, Hid (ps.findIdx (fun p => decide (p.2.k = ma)) = ix) := ⟨_, Lib.hid rfl⟩
  obtain ⟨II, HII⟩ : ∃ II, Hid (idxI (fun p : PR => decide (p.2.k = ma)) ps = II) := ⟨_, Lib.hid rfl⟩
  rw [HII.out] at HIw
  rw [Hix.out] at HP
  have HIX : Hid (II = if ix < ps.length then (ix : Int) else -1) := Lib.hid (by rw [← HII.out]; unfold idxI; rw [Hix.out])
  generalize (ps.filter fun p => !decide (p.1.k = c.k)) = F at *
  generalize aftR c = ar at *
  generalize effC q c = E at *
  generalize W.alloc (.cells E 132) = w0 at *
  go_wp2_with fail
  (with_reducible refine HIw.out.mono ?_)
  rintro e w1 ⟨rfl, hb1⟩
  have HB01 := Lib.hid hb1
  have HWx := Lib.hid (HWw.out w1 hb1)
  clear hb1 HWw HIw
  go_wp2_with fail
  (with_reducible refine HWx.out.mono ?_)
  rintro e w2 ⟨vo, rfl, hO2, hb2⟩
  have HB02 := Lib.hid (bt HB01.out hb2)
  have HB2 := Lib.hid (bt HB.out HB02.out)
  have HO2 := Lib.hid (hO2.mono (base' := base) (by have := HBs.out; have := HB.out.size; have := HB01.out.size; omega))
  have HO2w := Lib.hid hO2
  have HE2 := Lib.hid ((HB02.out.block _ (lt_of_block HE.out)).trans HE.out)
  have HPS2 := Lib.hid (HO.out.below HB2.out).prS
  have HB12 := Lib.hid hb2
  clear hO2 hb2 HWx
  have e31 : w2.cell? ⟨W.heap.size, 31, none⟩ = some (.bool ia) := by simp [World.cell?, HE2.out, HA.out]
  cases ia
  · have HPf : Hid (RP = some F) := Lib.hid (by have h := HP.out; simpa using h)
    go_wp2_with fail
    refine bodyPost_ret (v := .tuple #[vo, .bool true]) (by simp [results, Try.results171, go_sem]) rfl ?_
    rw [HPf.out]
    exact ⟨_, rfl, (fun r h => by cases h; exact HO2.out), ⟨F, HO2.out.prS, by have := HFl.out; omega⟩, HB2.out⟩
  have HG2 : Hid (∀ w3, BW w2 w3 → ∀ d' os, (grow (redrawn w3 d') os).heap[W.heap.size]? = some (.cells E 132 (0, 0))) := Lib.hid (fun w3 h d' os => ((show Below w2.heap.size w2 (grow (redrawn w3 d') os) from bt h (below_regrown w3 d' os)).block _ (lt_of_block HE2.out)).trans HE2.out)
  by_cases hix : ix < ps.length
  · have hii : II = ix := by rw [HIX.out, if_pos hix]
    subst hii
    have hi0 : ¬ (ix : Int) < 0 := by omega
    obtain ⟨⟨⟨rt, rk, ⟨ra, rb, rc⟩⟩, ⟨st, sk, ⟨sa, sb, sc⟩⟩⟩, Hr⟩ : ∃ r, Hid (ps.getD ix prZ = r) := ⟨_, Lib.hid rfl⟩
    have HPf : Hid (RP = some (insB (fun p => precQ q ar p.1) (ar, ⟨st, sk, ⟨sa, sb, sc⟩⟩) F)) := Lib.hid (by
      have h := HP.out
      rw [if_neg (by decide), if_pos hix, Hr.out] at h
      exact h)
    have hixn : ix < vn := by have := HN.out; omega
    obtain ⟨_, n', _, e1, -, -, -, hcell⟩ := HPS2.out
    simp at e1
    obtain ⟨rfl, hnn, rfl⟩ := e1
    obtain ⟨vb, vof, rfl, hvb, hcs⟩ := hcell (by omega)
    have H1 := hcs ix (by omega)
    rw [Hr.out] at H1
    have HC1 := Lib.hid (fun w (h : Below w2.heap.size w2 w) => (H1.below hvb h).cells)
    clear hcs hcell hnn H1 hix HP HIX
    obtain ⟨at', ak, ⟨a1, a2, a3⟩⟩ := ar
    simp only at HA
    go_upto_region 7 with fail
    clear e31
    have e25 : ∀ wz, BW w2 wz → ∀ d' os, (grow (redrawn wz d') os).cell? ⟨W.heap.size, 25, none⟩ = some (.int .i64 at') := fun wz h d' os => by simp [World.cell?, HG2.out wz h d' os, HA.out]
    have e26 : ∀ wz, BW w2 wz → ∀ d' os, (grow (redrawn wz d') os).cell? ⟨W.heap.size, 26, none⟩ = some (.int .i64 ak) := fun wz h d' os => by simp [World.cell?, HG2.out wz h d' os, HA.out]
    have e27 : ∀ wz, BW w2 wz → ∀ d' os, (grow (redrawn wz d') os).cell? ⟨W.heap.size, 27, none⟩ = some (.int .i64 a1) := fun wz h d' os => by simp [World.cell?, HG2.out wz h d' os, HA.out]
    have e28 : ∀ wz, BW w2 wz → ∀ d' os, (grow (redrawn wz d') os).cell? ⟨W.heap.size, 28, none⟩ = some (.int .i64 a2) := fun wz h d' os => by simp [World.cell?, HG2.out wz h d' os, HA.out]
    have e29 : ∀ wz, BW w2 wz → ∀ d' os, (grow (redrawn wz d') os).cell? ⟨W.heap.size, 29, none⟩ = some (.int .i64 a3) := fun wz h d' os => by simp [World.cell?, HG2.out wz h d' os, HA.out]
    have y0 : ∀ wz, BW w2 wz → ∀ d' os, (grow (redrawn wz d') os).cell? ⟨vb, vof + ix * 10 + 5, none⟩ = some (.int .i64 st) := fun wz h d' os => (HC1.out _ (bt h (below_regrown wz d' os))).2.2.2.2.2.1
    have y1 : ∀ wz, BW w2 wz → ∀ d' os, (grow (redrawn wz d') os).cell? ⟨vb, vof + ix * 10 + 5 + 1, none⟩ = some (.int .i64 sk) := fun wz h d' os => (HC1.out _ (bt h (below_regrown wz d' os))).2.2.2.2.2.2.1
    have y2 : ∀ wz, BW w2 wz → ∀ d' os, (grow (redrawn wz d') os).cell? ⟨vb, vof + ix * 10 + 5 + 2, none⟩ = some (.int .i64 sa) := fun wz h d' os => (HC1.out _ (bt h (below_regrown wz d' os))).2.2.2.2.2.2.2.1
    have y3 : ∀ wz, BW w2 wz → ∀ d' os, (grow (redrawn wz d') os).cell? ⟨vb, vof + ix * 10 + 5 + 3, none⟩ = some (.int .i64 sb) := fun wz h d' os => (HC1.out _ (bt h (below_regrown wz d' os))).2.2.2.2.2.2.2.2.1
    have y4 : ∀ wz, BW w2 wz → ∀ d' os, (grow (redrawn wz d') os).cell? ⟨vb, vof + ix * 10 + 5 + 4, none⟩ = some (.int .i64 sc) := fun wz h d' os => (HC1.out _ (bt h (below_regrown wz d' os))).2.2.2.2.2.2.2.2.2
    refine wp_region_calm1 10 99 9 [0, 1, 2, 3, 4, 5, 6, 7, 8] (obj := .cells #[.int .i64 0, .int .i64 0, .int .i64 0, .int .i64 0, .int .i64 0, .int .i64 0, .int .i64 0, .int .i64 0, .int .i64 0, .int .i64 0] 231 (0, 0)) (by kernel_rfl) (by kernel_rfl) (by intro oz h; simp at h) (by intro oz h; simp at h) (by rfl) (by rfl) (fun a w => by kernel_rfl) ?_
    simp only [List.take_succ_cons, List.take_zero, List.eraseIdx_cons_succ, List.eraseIdx_cons_zero]
    iterate 9
      apply wpCalm_want
      · rfl
      · exact bc_refl
      · exact ⟨_, Below.refl _ _⟩
      · intro w00 hC0 K hK
        go_big_quiet_op
        exact hK
    refine wpCalm_nil ?_
    intro b w3 hbq hbge hblk
    try simp only [List.drop_succ_cons, List.drop_zero]
    have HBq := Lib.hid hbq
    have HBge := Lib.hid hbge
    have HBlk := Lib.hid hblk
    clear hbq hbge hblk e25 e26 e27 e28 e29 y0 y1 y2 y3 y4
    go_upto_region 8 with (refine wpList_store_row rfl 231 _ _ rfl b #[.int .i64 at', .int .i64 ak, .int .i64 a1, .int .i64 a2, .int .i64 a3, .int .i64 st, .int .i64 sk, .int .i64 sa, .int .i64 sb, .int .i64 sc] rfl rfl 231 _ HBlk.out (by kernel_rfl) rfl (by simp [Value.oneCell']) ?_)
    generalize hw4 : w3.setRow b #[.int .i64 at', .int .i64 ak, .int .i64 a1, .int .i64 a2, .int .i64 a3, .int .i64 st, .int .i64 sk, .int .i64 sa, .int .i64 sb, .int .i64 sc] = w4
    have HX4 : Hid (w4.heap[b]? = some (.cells #[.int .i64 at', .int .i64 ak, .int .i64 a1, .int .i64 a2, .int .i64 a3, .int .i64 st, .int .i64 sk, .int .i64 sa, .int .i64 sb, .int .i64 sc] 231 (0, 0))) := Lib.hid (by
      rw [← hw4]
      exact setRow_heap _ _ _ _ _ _ HBlk.out)
    have HB24 : Hid (Below w2.heap.size w2 w4) := Lib.hid (by
      rw [← hw4]
      exact below_row HBq.out HBge.out _)
    have HO4 := Lib.hid (HO2w.out.below HB24.out)
    have HO4b := Lib.hid (HO2.out.below HB24.out)
    clear hw4
    have HI4 := Lib.hid (HInn.out w4 (bt HB02.out HB24.out) _ vo F (⟨at', ak, ⟨a1, a2, a3⟩⟩, ⟨st, sk, ⟨sa, sb, sc⟩⟩) HO4.out (by have := HB01.out.size; have := HB02.out.size; have := HB24.out.size; have := HB12.out.size; omega) (by have := HFl.out; omega))
    unfold prV prCells at HI4
    simp only at HI4
    go_wp2_with (refine wpList_load_row rfl 231 _ rfl b rfl 231 _ _ _ HX4.out Try.underlying231 rfl (by kernel_rfl) ?_)
    (with_reducible refine HI4.out.mono ?_)
    rintro e w5 ⟨v', rfl, hO5, hK5⟩
    have HO5 := Lib.hid hO5
    have HOb5 : Hid (OwnP w5 base v' (insB (fun p => precQ q ⟨at', ak, ⟨a1, a2, a3⟩⟩ p.1) (⟨at', ak, ⟨a1, a2, a3⟩⟩, ⟨st, sk, ⟨sa, sb, sc⟩⟩) F)) := Lib.hid (hO5.mono (base' := base) (by have := HBs.out; have := HB.out.size; have := HB01.out.size; omega))
    have HB5 : Hid (Below W.heap.size W w5) := Lib.hid (((Kept.of_below (F := fun i => vo.ownBlock = some i) (bt HB2.out HB24.out)).trans hK5 (fun _ _ f => f)).below (Nat.le_refl _) (fun k e => by
      have h1 := OwnP.own_ge HO2w.out e
      have := HB.out.size
      have := HB01.out.size
      omega))
    clear hO5 hK5
    go_wp2_with fail
    refine bodyPost_ret (v := .tuple #[v', .bool true]) (by simp [results, Try.results171, go_sem]) rfl ?_
    rw [HPf.out]
    exact ⟨_, rfl, (fun r h => by cases h; exact HOb5.out), ⟨_, HO5.out.prS, Nat.le_trans (Nat.le_of_eq (ins_perm _ _ F).length_eq) (by rw [List.length_cons]; have := HFl.out; omega)⟩, HB5.out⟩
  · have hii : II = -1 := by rw [HIX.out, if_neg hix]
    subst hii
    have HPf : Hid (RP = if ib && decide (mb = ma) then some F else none) := Lib.hid (by
      have h := HP.out
      rw [if_neg (by decide), if_neg hix] at h
      exact h)
    clear hix HP HIX
    have e23 : w2.cell? ⟨W.heap.size, 23, none⟩ = some (.bool ib) := by simp [World.cell?, HE2.out, HA.out]
    have e24 : w2.cell? ⟨W.heap.size, 24, none⟩ = some (.int .i64 mb) := by simp [World.cell?, HE2.out, HA.out]
    have e32 : w2.cell? ⟨W.heap.size, 32, none⟩ = some (.int .i64 ma) := by simp [World.cell?, HE2.out, HA.out]
    cases ib
    · have HPg : Hid (RP = none) := Lib.hid (by have h := HPf.out; simpa using h)
      clear HPf
      go_upto_region 6 with fail
      go_quiet (fail)
      have HB3 := Lib.hid (bt HB2.out (below_drewN w2 nq))
      have HPS3 := Lib.hid (HO2.out.below (below_drewN w2 nq)).prS
      go_wp2_with fail
      refine bodyPost_ret (v := .tuple #[vo, .bool false]) (by simp [results, Try.results171, go_sem]) rfl ?_
      rw [HPg.out]
      exact ⟨_, rfl, (fun r h => by cases h), ⟨F, HPS3.out, by have := HFl.out; omega⟩, HB3.out⟩
    · by_cases hmm : mb = ma
      · have HPg : Hid (RP = some F) := Lib.hid (by have h := HPf.out; simpa [hmm] using h)
        have d1 : (mb == ma) = true := by simp [hmm]
        clear HPf hmm
        go_upto_region 6 with fail
        go_quiet (fail)
        have HB3 := Lib.hid (bt HB2.out (below_drewN w2 nq))
        have HO3 := Lib.hid (HO2.out.below (below_drewN w2 nq))
        go_wp2_with fail
        refine bodyPost_ret (v := .tuple #[vo, .bool true]) (by simp [results, Try.results171, go_sem]) rfl ?_
        rw [HPg.out]
        exact ⟨_, rfl, (fun r h => by cases h; exact HO3.out), ⟨F, HO3.out.prS, by have := HFl.out; omega⟩, HB3.out⟩
      · have HPg : Hid (RP = none) := Lib.hid (by have h := HPf.out; simpa [hmm] using h)
        have d1 : (mb == ma) = false := by simp [hmm]
        clear HPf hmm
        go_upto_region 6 with fail
        go_quiet (fail)
        have HB3 := Lib.hid (bt HB2.out (below_drewN w2 nq))
        have HPS3 := Lib.hid (HO2.out.below (below_drewN w2 nq)).prS
        go_wp2_with fail
        refine bodyPost_ret (v := .tuple #[vo, .bool false]) (by simp [results, Try.results171, go_sem]) rfl ?_
        rw [HPg.out]
        exact ⟨_, rfl, (fun r h => by cases h), ⟨F, HPS3.out, by have := HFl.out; omega⟩, HB3.out⟩
end Go.Proofs.Ytgbnjjgnihjfgaa
end

section
set_option linter.unusedVariables false
set_option linter.unusedSimpArgs false
namespace Go.Proofs.Ytgbnjjgnihjfgaa
open Go.RowKit Go.Sort Go.ChangeMaps Go.MapKept

attribute [local irreducible] wpCalm in
set_option maxRecDepth 100000 in
set_option maxHeartbeats 4000000 in
theorem touch_q (q : MQ) (c : MCh) (W : World) (hv : validB q = false) : Calls Try.prog 27 #[qV q, chV c] W fun e w' => e = .returned (.bool false) ∧ Below W.heap.size W w' := by
  have HV := Lib.hid (fun w => qvalid_any q w)
  rw [hv] at HV
  clear hv
  obtain ⟨t, k, had, ⟨oa, ob, oc⟩, has, ⟨na, nb, nc⟩⟩ := c
  obtain ⟨qk, qt, qc, ql, qh, qy, qo⟩ := q
  unfold qV chV at *
  simp only at *
  go_enter Try.func27, Try.ntmps27
  go_upto_region 1 with fail
  generalize hw0 : (W.alloc (.cells #[.int .i64 qk, .int .i64 qt, .int .i64 qc, .int .i64 ql, .int .i64 qh, .int .i64 qy, .int .i64 qo] 29)).alloc (.cells #[.int .i64 t, .int .i64 k, .bool had, .int .i64 oa, .int .i64 ob, .int .i64 oc, .bool has, .int .i64 na, .int .i64 nb, .int .i64 nc] 35) = w0
  have HB0 : Hid (Below W.heap.size W w0) := Lib.hid (by rw [← hw0]; exact bt (ba W _) (ba _ _))
  have HQ0 : Hid (w0.heap[W.heap.size]? = some (.cells #[.int .i64 qk, .int .i64 qt, .int .i64 qc, .int .i64 ql, .int .i64 qh, .int .i64 qy, .int .i64 qo] 29 (0, 0))) := Lib.hid (by
    rw [← hw0]
    exact ((ba (W.alloc _) _).block _ (by simp)).trans (heap_alloc_new W _))
  have HC0 : Hid (w0.heap[W.heap.size + 1]? = some (.cells #[.int .i64 t, .int .i64 k, .bool had, .int .i64 oa, .int .i64 ob, .int .i64 oc, .bool has, .int .i64 na, .int .i64 nb, .int .i64 nc] 35 (0, 0))) := Lib.hid (by
    rw [← hw0]
    have h := heap_alloc_new (W.alloc (.cells #[.int .i64 qk, .int .i64 qt, .int .i64 qc, .int .i64 ql, .int .i64 qh, .int .i64 qy, .int .i64 qo] 29)) (.cells #[.int .i64 t, .int .i64 k, .bool had, .int .i64 oa, .int .i64 ob, .int .i64 oc, .bool has, .int .i64 na, .int .i64 nb, .int .i64 nc] 35)
    rw [World.size_alloc] at h
    exact h)
  clear hw0
  have HGq : Hid (∀ w1, BW w0 w1 → ∀ d' os, (grow (redrawn w1 d') os).heap[W.heap.size]? = some (.cells #[.int .i64 qk, .int .i64 qt, .int .i64 qc, .int .i64 ql, .int .i64 qh, .int .i64 qy, .int .i64 qo] 29 (0, 0))) := Lib.hid (fun w1 h d' os => ((show Below w0.heap.size w0 (grow (redrawn w1 d') os) from bt h (below_regrown w1 d' os)).block _ (lt_of_block HQ0.out)).trans HQ0.out)
  have HGc : Hid (∀ w1, BW w0 w1 → ∀ d' os, (grow (redrawn w1 d') os).heap[W.heap.size + 1]? = some (.cells #[.int .i64 t, .int .i64 k, .bool had, .int .i64 oa, .int .i64 ob, .int .i64 oc, .bool has, .int .i64 na, .int .i64 nb, .int .i64 nc] 35 (0, 0))) := Lib.hid (fun w1 h d' os => ((show Below w0.heap.size w0 (grow (redrawn w1 d') os) from bt h (below_regrown w1 d' os)).block _ (lt_of_block HC0.out)).trans HC0.out)
  have q0 : ∀ w1, BW w0 w1 → ∀ d' os, (grow (redrawn w1 d') os).cell? ⟨W.heap.size, 0, none⟩ = some (.int .i64 qk) := fun w1 h d' os => by simp [World.cell?, HGq.out w1 h d' os]
  have q1 : ∀ w1, BW w0 w1 → ∀ d' os, (grow (redrawn w1 d') os).cell? ⟨W.heap.size, 1, none⟩ = some (.int .i64 qt) := fun w1 h d' os => by simp [World.cell?, HGq.out w1 h d' os]
  have q2 : ∀ w1, BW w0 w1 → ∀ d' os, (grow (redrawn w1 d') os).cell? ⟨W.heap.size, 2, none⟩ = some (.int .i64 qc) := fun w1 h d' os => by simp [World.cell?, HGq.out w1 h d' os]
  have q3 : ∀ w1, BW w0 w1 → ∀ d' os, (grow (redrawn w1 d') os).cell? ⟨W.heap.size, 3, none⟩ = some (.int .i64 ql) := fun w1 h d' os => by simp [World.cell?, HGq.out w1 h d' os]
  have q4 : ∀ w1, BW w0 w1 → ∀ d' os, (grow (redrawn w1 d') os).cell? ⟨W.heap.size, 4, none⟩ = some (.int .i64 qh) := fun w1 h d' os => by simp [World.cell?, HGq.out w1 h d' os]
  have q5 : ∀ w1, BW w0 w1 → ∀ d' os, (grow (redrawn w1 d') os).cell? ⟨W.heap.size, 5, none⟩ = some (.int .i64 qy) := fun w1 h d' os => by simp [World.cell?, HGq.out w1 h d' os]
  have q6 : ∀ w1, BW w0 w1 → ∀ d' os, (grow (redrawn w1 d') os).cell? ⟨W.heap.size, 6, none⟩ = some (.int .i64 qo) := fun w1 h d' os => by simp [World.cell?, HGq.out w1 h d' os]
  have c0 : ∀ w1, BW w0 w1 → ∀ d' os, (grow (redrawn w1 d') os).cell? ⟨W.heap.size + 1, 0, none⟩ = some (.int .i64 t) := fun w1 h d' os => by simp [World.cell?, HGc.out w1 h d' os]
  have c1 : ∀ w1, BW w0 w1 → ∀ d' os, (grow (redrawn w1 d') os).cell? ⟨W.heap.size + 1, 1, none⟩ = some (.int .i64 k) := fun w1 h d' os => by simp [World.cell?, HGc.out w1 h d' os]
  have c2 : ∀ w1, BW w0 w1 → ∀ d' os, (grow (redrawn w1 d') os).cell? ⟨W.heap.size + 1, 2, none⟩ = some (.bool had) := fun w1 h d' os => by simp [World.cell?, HGc.out w1 h d' os]
  have c3 : ∀ w1, BW w0 w1 → ∀ d' os, (grow (redrawn w1 d') os).cell? ⟨W.heap.size + 1, 3, none⟩ = some (.int .i64 oa) := fun w1 h d' os => by simp [World.cell?, HGc.out w1 h d' os]
  have c4 : ∀ w1, BW w0 w1 → ∀ d' os, (grow (redrawn w1 d') os).cell? ⟨W.heap.size + 1, 4, none⟩ = some (.int .i64 ob) := fun w1 h d' os => by simp [World.cell?, HGc.out w1 h d' os]
  have c5 : ∀ w1, BW w0 w1 → ∀ d' os, (grow (redrawn w1 d') os).cell? ⟨W.heap.size + 1, 5, none⟩ = some (.int .i64 oc) := fun w1 h d' os => by simp [World.cell?, HGc.out w1 h d' os]
  have c6 : ∀ w1, BW w0 w1 → ∀ d' os, (grow (redrawn w1 d') os).cell? ⟨W.heap.size + 1, 6, none⟩ = some (.bool has) := fun w1 h d' os => by simp [World.cell?, HGc.out w1 h d' os]
  have c7 : ∀ w1, BW w0 w1 → ∀ d' os, (grow (redrawn w1 d') os).cell? ⟨W.heap.size + 1, 7, none⟩ = some (.int .i64 na) := fun w1 h d' os => by simp [World.cell?, HGc.out w1 h d' os]
  have c8 : ∀ w1, BW w0 w1 → ∀ d' os, (grow (redrawn w1 d') os).cell? ⟨W.heap.size + 1, 8, none⟩ = some (.int .i64 nb) := fun w1 h d' os => by simp [World.cell?, HGc.out w1 h d' os]
  have c9 : ∀ w1, BW w0 w1 → ∀ d' os, (grow (redrawn w1 d') os).cell? ⟨W.heap.size + 1, 9, none⟩ = some (.int .i64 nc) := fun w1 h d' os => by simp [World.cell?, HGc.out w1 h d' os]
  refine wp_region_calm 16 99 [0, 1, 2, 3, 4, 5, 6, 7, 8, 9, 10, 11, 12, 13, 14, 15] (by kernel_rfl) (by kernel_rfl) (by intro oz h; simp at h) (by intro oz h; simp at h) (by rfl) ?_
  simp only [List.take_succ_cons, List.take_zero]
  apply wpCalm_want
  · rfl
  · exact bc_refl
  · exact ⟨_, Below.refl _ _⟩
  · intro w00 hC0 K hK
    go_big_quiet_op
    exact hK
  apply wpCalm_want
  · rfl
  · exact bc_refl
  · exact ⟨_, Below.refl _ _⟩
  · intro w00 hC0 K hK
    go_big_quiet_op
    apply Exists.intro
    refine ⟨fun p => ?_, ?_⟩
    · exact Calls.regrown_of (HV.out _)
    · exact hK
  apply wpCalm_want
  · rfl
  · exact bc_refl
  · exact ⟨_, Below.refl _ _⟩
  · intro w00 hC0 K hK
    go_big_quiet_op
    exact hK
  refine wpCalm_skip (by rfl) ?_
  go_frame
  refine wpCalm_skip (by rfl) ?_
  go_frame
  apply wpCalm_want
  · rfl
  · exact bc_refl
  · exact ⟨_, Below.refl _ _⟩
  · intro w00 hC0 K hK
    go_big_quiet_op
    exact hK
  apply wpCalm_want
  · rfl
  · exact bc_refl
  · exact ⟨_, Below.refl _ _⟩
  · intro w00 hC0 K hK
    go_big_quiet_op
    exact hK
  refine wpCalm_skip (by rfl) ?_
  go_frame
  refine wpCalm_skip (by rfl) ?_
  go_frame
  refine wpCalm_skip (by rfl) ?_
  go_frame
  refine wpCalm_skip (by rfl) ?_
  go_frame
  refine wpCalm_skip (by rfl) ?_
  go_frame
  refine wpCalm_skip (by rfl) ?_
  go_frame
  refine wpCalm_skip (by rfl) ?_
  go_frame
  refine wpCalm_skip (by rfl) ?_
  go_frame
  apply wpCalm_want
  · rfl
  · exact bc_refl
  · exact ⟨_, Below.refl _ _⟩
  · intro w00 hC0 K hK
    go_big_quiet_op
    exact hK
  refine wpCalm_nil ?_
  intro w2 hbq
  try simp only [List.drop_succ_cons, List.drop_zero]
  have HB2 := Lib.hid (bt HB0.out hbq)
  clear hbq HGq HGc
  clear q0 q1 q2 q3 q4 q5 q6 c0 c1 c2 c3 c4 c5 c6 c7 c8 c9
  go_wp2_with fail
  go_ret
  exact ⟨rfl, HB2.out⟩
attribute [local irreducible] wpCalm in
set_option maxRecDepth 100000 in
set_option maxHeartbeats 4000000 in
theorem touch_c (q : MQ) (c : MCh) (W : World) (hv : validB q = true) (hc : vc c = false) : Calls Try.prog 27 #[qV q, chV c] W fun e w' => e = .returned (.bool false) ∧ Below W.heap.size W w' := by
  have HV := Lib.hid (fun w => qvalid_any q w)
  have HX := Lib.hid (fun w => validChange_any c w)
  rw [hv] at HV
  rw [hc] at HX
  clear hv hc
  obtain ⟨t, k, had, ⟨oa, ob, oc⟩, has, ⟨na, nb, nc⟩⟩ := c
  obtain ⟨qk, qt, qc, ql, qh, qy, qo⟩ := q
  unfold qV chV at *
  simp only at *
  go_enter Try.func27, Try.ntmps27
  go_upto_region 1 with fail
  generalize hw0 : (W.alloc (.cells #[.int .i64 qk, .int .i64 qt, .int .i64 qc, .int .i64 ql, .int .i64 qh, .int .i64 qy, .int .i64 qo] 29)).alloc (.cells #[.int .i64 t, .int .i64 k, .bool had, .int .i64 oa, .int .i64 ob, .int .i64 oc, .bool has, .int .i64 na, .int .i64 nb, .int .i64 nc] 35) = w0
  have HB0 : Hid (Below W.heap.size W w0) := Lib.hid (by rw [← hw0]; exact bt (ba W _) (ba _ _))
  have HQ0 : Hid (w0.heap[W.heap.size]? = some (.cells #[.int .i64 qk, .int .i64 qt, .int .i64 qc, .int .i64 ql, .int .i64 qh, .int .i64 qy, .int .i64 qo] 29 (0, 0))) := Lib.hid (by
    rw [← hw0]
    exact ((ba (W.alloc _) _).block _ (by simp)).trans (heap_alloc_new W _))
  have HC0 : Hid (w0.heap[W.heap.size + 1]? = some (.cells #[.int .i64 t, .int .i64 k, .bool had, .int .i64 oa, .int .i64 ob, .int .i64 oc, .bool has, .int .i64 na, .int .i64 nb, .int .i64 nc] 35 (0, 0))) := Lib.hid (by
    rw [← hw0]
    have h := heap_alloc_new (W.alloc (.cells #[.int .i64 qk, .int .i64 qt, .int .i64 qc, .int .i64 ql, .int .i64 qh, .int .i64 qy, .int .i64 qo] 29)) (.cells #[.int .i64 t, .int .i64 k, .bool had, .int .i64 oa, .int .i64 ob, .int .i64 oc, .bool has, .int .i64 na, .int .i64 nb, .int .i64 nc] 35)
    rw [World.size_alloc] at h
    exact h)
  clear hw0
  have HGq : Hid (∀ w1, BW w0 w1 → ∀ d' os, (grow (redrawn w1 d') os).heap[W.heap.size]? = some (.cells #[.int .i64 qk, .int .i64 qt, .int .i64 qc, .int .i64 ql, .int .i64 qh, .int .i64 qy, .int .i64 qo] 29 (0, 0))) := Lib.hid (fun w1 h d' os => ((show Below w0.heap.size w0 (grow (redrawn w1 d') os) from bt h (below_regrown w1 d' os)).block _ (lt_of_block HQ0.out)).trans HQ0.out)
  have HGc : Hid (∀ w1, BW w0 w1 → ∀ d' os, (grow (redrawn w1 d') os).heap[W.heap.size + 1]? = some (.cells #[.int .i64 t, .int .i64 k, .bool had, .int .i64 oa, .int .i64 ob, .int .i64 oc, .bool has, .int .i64 na, .int .i64 nb, .int .i64 nc] 35 (0, 0))) := Lib.hid (fun w1 h d' os => ((show Below w0.heap.size w0 (grow (redrawn w1 d') os) from bt h (below_regrown w1 d' os)).block _ (lt_of_block HC0.out)).trans HC0.out)
  have q0 : ∀ w1, BW w0 w1 → ∀ d' os, (grow (redrawn w1 d') os).cell? ⟨W.heap.size, 0, none⟩ = some (.int .i64 qk) := fun w1 h d' os => by simp [World.cell?, HGq.out w1 h d' os]
  have q1 : ∀ w1, BW w0 w1 → ∀ d' os, (grow (redrawn w1 d') os).cell? ⟨W.heap.size, 1, none⟩ = some (.int .i64 qt) := fun w1 h d' os => by simp [World.cell?, HGq.out w1 h d' os]
  have q2 : ∀ w1, BW w0 w1 → ∀ d' os, (grow (redrawn w1 d') os).cell? ⟨W.heap.size, 2, none⟩ = some (.int .i64 qc) := fun w1 h d' os => by simp [World.cell?, HGq.out w1 h d' os]
  have q3 : ∀ w1, BW w0 w1 → ∀ d' os, (grow (redrawn w1 d') os).cell? ⟨W.heap.size, 3, none⟩ = some (.int .i64 ql) := fun w1 h d' os => by simp [World.cell?, HGq.out w1 h d' os]
  have q4 : ∀ w1, BW w0 w1 → ∀ d' os, (grow (redrawn w1 d') os).cell? ⟨W.heap.size, 4, none⟩ = some (.int .i64 qh) := fun w1 h d' os => by simp [World.cell?, HGq.out w1 h d' os]
  have q5 : ∀ w1, BW w0 w1 → ∀ d' os, (grow (redrawn w1 d') os).cell? ⟨W.heap.size, 5, none⟩ = some (.int .i64 qy) := fun w1 h d' os => by simp [World.cell?, HGq.out w1 h d' os]
  have q6 : ∀ w1, BW w0 w1 → ∀ d' os, (grow (redrawn w1 d') os).cell? ⟨W.heap.size, 6, none⟩ = some (.int .i64 qo) := fun w1 h d' os => by simp [World.cell?, HGq.out w1 h d' os]
  have c0 : ∀ w1, BW w0 w1 → ∀ d' os, (grow (redrawn w1 d') os).cell? ⟨W.heap.size + 1, 0, none⟩ = some (.int .i64 t) := fun w1 h d' os => by simp [World.cell?, HGc.out w1 h d' os]
  have c1 : ∀ w1, BW w0 w1 → ∀ d' os, (grow (redrawn w1 d') os).cell? ⟨W.heap.size + 1, 1, none⟩ = some (.int .i64 k) := fun w1 h d' os => by simp [World.cell?, HGc.out w1 h d' os]
  have c2 : ∀ w1, BW w0 w1 → ∀ d' os, (grow (redrawn w1 d') os).cell? ⟨W.heap.size + 1, 2, none⟩ = some (.bool had) := fun w1 h d' os => by simp [World.cell?, HGc.out w1 h d' os]
  have c3 : ∀ w1, BW w0 w1 → ∀ d' os, (grow (redrawn w1 d') os).cell? ⟨W.heap.size + 1, 3, none⟩ = some (.int .i64 oa) := fun w1 h d' os => by simp [World.cell?, HGc.out w1 h d' os]
  have c4 : ∀ w1, BW w0 w1 → ∀ d' os, (grow (redrawn w1 d') os).cell? ⟨W.heap.size + 1, 4, none⟩ = some (.int .i64 ob) := fun w1 h d' os => by simp [World.cell?, HGc.out w1 h d' os]
  have c5 : ∀ w1, BW w0 w1 → ∀ d' os, (grow (redrawn w1 d') os).cell? ⟨W.heap.size + 1, 5, none⟩ = some (.int .i64 oc) := fun w1 h d' os => by simp [World.cell?, HGc.out w1 h d' os]
  have c6 : ∀ w1, BW w0 w1 → ∀ d' os, (grow (redrawn w1 d') os).cell? ⟨W.heap.size + 1, 6, none⟩ = some (.bool has) := fun w1 h d' os => by simp [World.cell?, HGc.out w1 h d' os]
  have c7 : ∀ w1, BW w0 w1 → ∀ d' os, (grow (redrawn w1 d') os).cell? ⟨W.heap.size + 1, 7, none⟩ = some (.int .i64 na) := fun w1 h d' os => by simp [World.cell?, HGc.out w1 h d' os]
  have c8 : ∀ w1, BW w0 w1 → ∀ d' os, (grow (redrawn w1 d') os).cell? ⟨W.heap.size + 1, 8, none⟩ = some (.int .i64 nb) := fun w1 h d' os => by simp [World.cell?, HGc.out w1 h d' os]
  have c9 : ∀ w1, BW w0 w1 → ∀ d' os, (grow (redrawn w1 d') os).cell? ⟨W.heap.size + 1, 9, none⟩ = some (.int .i64 nc) := fun w1 h d' os => by simp [World.cell?, HGc.out w1 h d' os]
  refine wp_region_calm 16 99 [0, 1, 2, 3, 4, 5, 6, 7, 8, 9, 10, 11, 12, 13, 14, 15] (by kernel_rfl) (by kernel_rfl) (by intro oz h; simp at h) (by intro oz h; simp at h) (by rfl) ?_
  simp only [List.take_succ_cons, List.take_zero]
  apply wpCalm_want
  · rfl
  · exact bc_refl
  · exact ⟨_, Below.refl _ _⟩
  · intro w00 hC0 K hK
    go_big_quiet_op
    exact hK
  apply wpCalm_want
  · rfl
  · exact bc_refl
  · exact ⟨_, Below.refl _ _⟩
  · intro w00 hC0 K hK
    go_big_quiet_op
    apply Exists.intro
    refine ⟨fun p => ?_, ?_⟩
    · exact Calls.regrown_of (HV.out _)
    · exact hK
  iterate 2
    apply wpCalm_want
    · rfl
    · exact bc_refl
    · exact ⟨_, Below.refl _ _⟩
    · intro w00 hC0 K hK
      go_big_quiet_op
      exact hK
  apply wpCalm_want
  · rfl
  · exact bc_refl
  · exact ⟨_, Below.refl _ _⟩
  · intro w00 hC0 K hK
    go_big_quiet_op
    apply Exists.intro
    refine ⟨fun p => ?_, ?_⟩
    · exact Calls.regrown_of (HX.out _)
    · exact hK
  iterate 2
    apply wpCalm_want
    · rfl
    · exact bc_refl
    · exact ⟨_, Below.refl _ _⟩
    · intro w00 hC0 K hK
      go_big_quiet_op
      exact hK
  refine wpCalm_skip (by rfl) ?_
  go_frame
  refine wpCalm_skip (by rfl) ?_
  go_frame
  refine wpCalm_skip (by rfl) ?_
  go_frame
  refine wpCalm_skip (by rfl) ?_
  go_frame
  refine wpCalm_skip (by rfl) ?_
  go_frame
  refine wpCalm_skip (by rfl) ?_
  go_frame
  refine wpCalm_skip (by rfl) ?_
  go_frame
  refine wpCalm_skip (by rfl) ?_
  go_frame
  apply wpCalm_want
  · rfl
  · exact bc_refl
  · exact ⟨_, Below.refl _ _⟩
  · intro w00 hC0 K hK
    go_big_quiet_op
    exact hK
  refine wpCalm_nil ?_
  intro w2 hbq
  try simp only [List.drop_succ_cons, List.drop_zero]
  have HB2 := Lib.hid (bt HB0.out hbq)
  clear hbq HGq HGc
  clear q0 q1 q2 q3 q4 q5 q6 c0 c1 c2 c3 c4 c5 c6 c7 c8 c9
  go_wp2_with fail
  go_ret
  exact ⟨rfl, HB2.out⟩
end Go.Proofs.Ytgbnjjgnihjfgaa
end

section
set_option linter.unusedVariables false
set_option linter.unusedSimpArgs false
namespace Go.Proofs.Ytgbnjjgnihjfgaa
open Go.RowKit Go.Sort Go.ChangeMaps Go.MapKept

theorem below_drew (w : World) : Below w.heap.size w w.drew := ⟨rfl, rfl, rfl, Nat.le_refl _, fun _ _ => rfl⟩
set_option maxRecDepth 100000 in
set_option maxHeartbeats 8000000 in
theorem touch_at {q : MQ} {c : MCh} (hv : validB q = true) (hc : vc c = true) {g : FuncId} {b : Bool} (eg : ∀ args w, (callFunc g args).run Try.prog w = .ok (.enter g args) w) (hl : lookG touchersL q.kind = some (fnV g #[]))
    (hg : ∀ w, Calls Try.prog g #[.agg (effC q c)] w fun e w' => e = .returned (.bool b) ∧ Below w.heap.size w w') (W : World) : Calls Try.prog 27 #[qV q, chV c] W fun e w' => e = .returned (.bool b) ∧ Below W.heap.size W w' := by
  have hk := valid_ok hv
  have HV := Lib.hid (fun w => qvalid_any q w)
  have HX := Lib.hid (fun w => validChange_any c w)
  rw [hv] at HV
  rw [hc] at HX
  have HF := Lib.hid (fun w => effectOf_any q c w hk.1.2.2.1 hk.1.2.2.2.2.2.1)
  have HG := Lib.hid hg
  have HL := Lib.hid (fun (w : World) (mb : Nat) (h : GMap w mb touchersL) => h.look Try.underlying127 (k := q.kind) hk.1.1 hl)
  obtain ⟨E, HEE⟩ : ∃ E, Hid (effC q c = E) := ⟨_, Lib.hid rfl⟩
  rw [HEE.out] at HF HG
  clear hk hv hc hg HEE hl
  obtain ⟨t, k, had, ⟨oa, ob, oc⟩, has, ⟨na, nb, nc⟩⟩ := c
  obtain ⟨qk, qt, qc, ql, qh, qy, qo⟩ := q
  unfold qV chV at *
  simp only at *
  unfold fnV at *
  go_enter Try.func27, Try.ntmps27
  go_upto_region 1 with fail
  generalize hw0 : (W.alloc (.cells #[.int .i64 qk, .int .i64 qt, .int .i64 qc, .int .i64 ql, .int .i64 qh, .int .i64 qy, .int .i64 qo] 29)).alloc (.cells #[.int .i64 t, .int .i64 k, .bool had, .int .i64 oa, .int .i64 ob, .int .i64 oc, .bool has, .int .i64 na, .int .i64 nb, .int .i64 nc] 35) = w0
  have HB0 : Hid (Below W.heap.size W w0) := Lib.hid (by rw [← hw0]; exact bt (ba W _) (ba _ _))
  have HQ0 : Hid (w0.heap[W.heap.size]? = some (.cells #[.int .i64 qk, .int .i64 qt, .int .i64 qc, .int .i64 ql, .int .i64 qh, .int .i64 qy, .int .i64 qo] 29 (0, 0))) := Lib.hid (by
    rw [← hw0]
    exact ((ba (W.alloc _) _).block _ (by simp)).trans (heap_alloc_new W _))
  have HC0 : Hid (w0.heap[W.heap.size + 1]? = some (.cells #[.int .i64 t, .int .i64 k, .bool had, .int .i64 oa, .int .i64 ob, .int .i64 oc, .bool has, .int .i64 na, .int .i64 nb, .int .i64 nc] 35 (0, 0))) := Lib.hid (by
    rw [← hw0]
    have h := heap_alloc_new (W.alloc (.cells #[.int .i64 qk, .int .i64 qt, .int .i64 qc, .int .i64 ql, .int .i64 qh, .int .i64 qy, .int .i64 qo] 29)) (.cells #[.int .i64 t, .int .i64 k, .bool had, .int .i64 oa, .int .i64 ob, .int .i64 oc, .bool has, .int .i64 na, .int .i64 nb, .int .i64 nc] 35)
    rw [World.size_alloc] at h
    exact h)
  clear hw0
  have HBd : Hid (Below w0.heap.size w0 w0.drew) := Lib.hid (below_drew _)
  have HK : Hid (∀ w, Below w0.heap.size w0 w → w.cell? ⟨W.heap.size, 0, none⟩ = some (.int .i64 qk) ∧ w.cell? ⟨W.heap.size, 1, none⟩ = some (.int .i64 qt) ∧ w.cell? ⟨W.heap.size, 2, none⟩ = some (.int .i64 qc) ∧ w.cell? ⟨W.heap.size, 3, none⟩ = some (.int .i64 ql) ∧ w.cell? ⟨W.heap.size, 4, none⟩ = some (.int .i64 qh) ∧ w.cell? ⟨W.heap.size, 5, none⟩ = some (.int .i64 qy) ∧ w.cell? ⟨W.heap.size, 6, none⟩ = some (.int .i64 qo) ∧ w.cell? ⟨W.heap.size + 1, 0, none⟩ = some (.int .i64 t) ∧ w.cell? ⟨W.heap.size + 1, 1, none⟩ = some (.int .i64 k) ∧ w.cell? ⟨W.heap.size + 1, 2, none⟩ = some (.bool had) ∧ w.cell? ⟨W.heap.size + 1, 3, none⟩ = some (.int .i64 oa) ∧ w.cell? ⟨W.heap.size + 1, 4, none⟩ = some (.int .i64 ob) ∧ w.cell? ⟨W.heap.size + 1, 5, none⟩ = some (.int .i64 oc) ∧ w.cell? ⟨W.heap.size + 1, 6, none⟩ = some (.bool has) ∧ w.cell? ⟨W.heap.size + 1, 7, none⟩ = some (.int .i64 na) ∧ w.cell? ⟨W.heap.size + 1, 8, none⟩ = some (.int .i64 nb) ∧ w.cell? ⟨W.heap.size + 1, 9, none⟩ = some (.int .i64 nc)) := Lib.hid (fun w hb => by
    have h1 := (hb.block _ (lt_of_block HQ0.out)).trans HQ0.out
    have h2 := (hb.block _ (lt_of_block HC0.out)).trans HC0.out
    refine ⟨?_, ?_, ?_, ?_, ?_, ?_, ?_, ?_, ?_, ?_, ?_, ?_, ?_, ?_, ?_, ?_, ?_⟩ <;> simp [World.cell?, h1, h2])
  have H56 : Hid (∀ w, Hid (Below w0.heap.size w0 w) → Calls Try.prog 56 #[.agg #[.int .i64 qk, .int .i64 qt, .int .i64 qc, .int .i64 ql, .int .i64 qh, .int .i64 qy, .int .i64 qo]] w fun e w' => e = .returned (.bool true) ∧ Hid (Below w0.heap.size w0 w')) := Lib.hid (fun w hb => (HV.out w).mono fun e w' hw => ⟨hw.1, Lib.hid (bt hb.out hw.2)⟩)
  have H55 : Hid (∀ w, Hid (Below w0.heap.size w0 w) → Calls Try.prog 55 #[.agg #[.int .i64 t, .int .i64 k, .bool had, .int .i64 oa, .int .i64 ob, .int .i64 oc, .bool has, .int .i64 na, .int .i64 nb, .int .i64 nc]] w fun e w' => e = .returned (.bool true) ∧ Hid (Below w0.heap.size w0 w')) := Lib.hid (fun w hb => (HX.out w).mono fun e w' hw => ⟨hw.1, Lib.hid (bt hb.out hw.2)⟩)
  have H77 : Hid (∀ w, Hid (Below w0.heap.size w0 w) → Calls Try.prog 77 #[] w fun e w' => ∃ mb, e = .returned (.map (some mb)) ∧ Hid (GMap w' mb touchersL) ∧ Hid (Below w0.heap.size w0 w')) := Lib.hid (fun w hb => (touchers_any w).mono fun e w' ⟨mb, h1, h2, h3⟩ => ⟨mb, h1, Lib.hid h2, Lib.hid (bt hb.out h3)⟩)
  have H78 : Hid (∀ w, Hid (Below w0.heap.size w0 w) → Calls Try.prog 78 #[.agg #[.int .i64 qk, .int .i64 qt, .int .i64 qc, .int .i64 ql, .int .i64 qh, .int .i64 qy, .int .i64 qo], .agg #[.int .i64 t, .int .i64 k, .bool had, .int .i64 oa, .int .i64 ob, .int .i64 oc, .bool has, .int .i64 na, .int .i64 nb, .int .i64 nc]] w fun e w' => e = .returned (.agg E) ∧ Hid (Below w.heap.size w w') ∧ Hid (Below w0.heap.size w0 w')) := Lib.hid (fun w hb => (HF.out w).mono fun e w' hw => ⟨hw.1, Lib.hid hw.2, Lib.hid (bt hb.out hw.2)⟩)
  have Hg : Hid (∀ w, Hid (Below w0.heap.size w0 w) → Calls Try.prog g #[.agg E] w fun e w' => e = .returned (.bool b) ∧ Hid (Below w0.heap.size w0 w')) := Lib.hid (fun w hb => (HG.out w).mono fun e w' hw => ⟨hw.1, Lib.hid (bt hb.out hw.2)⟩)
  clear HV HX HF HG
  go_region_held3 (fun w => w.cell? ⟨W.heap.size, 0, none⟩ = some (.int .i64 qk) ∧ w.cell? ⟨W.heap.size, 1, none⟩ = some (.int .i64 qt) ∧ w.cell? ⟨W.heap.size, 2, none⟩ = some (.int .i64 qc) ∧ w.cell? ⟨W.heap.size, 3, none⟩ = some (.int .i64 ql) ∧ w.cell? ⟨W.heap.size, 4, none⟩ = some (.int .i64 qh) ∧ w.cell? ⟨W.heap.size, 5, none⟩ = some (.int .i64 qy) ∧ w.cell? ⟨W.heap.size, 6, none⟩ = some (.int .i64 qo) ∧ w.cell? ⟨W.heap.size + 1, 0, none⟩ = some (.int .i64 t) ∧ w.cell? ⟨W.heap.size + 1, 1, none⟩ = some (.int .i64 k) ∧ w.cell? ⟨W.heap.size + 1, 2, none⟩ = some (.bool had) ∧ w.cell? ⟨W.heap.size + 1, 3, none⟩ = some (.int .i64 oa) ∧ w.cell? ⟨W.heap.size + 1, 4, none⟩ = some (.int .i64 ob) ∧ w.cell? ⟨W.heap.size + 1, 5, none⟩ = some (.int .i64 oc) ∧ w.cell? ⟨W.heap.size + 1, 6, none⟩ = some (.bool has) ∧ w.cell? ⟨W.heap.size + 1, 7, none⟩ = some (.int .i64 na) ∧ w.cell? ⟨W.heap.size + 1, 8, none⟩ = some (.int .i64 nb) ∧ w.cell? ⟨W.heap.size + 1, 9, none⟩ = some (.int .i64 nc))
    (first | exact HK.out _ HBd.out | exact HK.out _ HB1.out | exact HK.out _ HB2.out | exact HK.out _ HB3.out | exact HK.out _ HB4.out | exact HK.out _ HB5.out)
    (first
      | (go_at_call 56; (with_reducible refine (H56.out _ HBd).mono ?_); rintro e w1 ⟨rfl, HB1⟩)
      | (go_at_call 55; (with_reducible refine (H55.out _ HB1).mono ?_); rintro e w2 ⟨rfl, HB2⟩)
      | (go_at_call 77; (with_reducible refine (H77.out _ HB2).mono ?_); rintro e w3 ⟨mb, rfl, HM, HB3⟩; have l3 := HL.out _ _ HM.out)
      | (go_at_call 78; (with_reducible refine (H78.out _ HB3).mono ?_); rintro e w4 ⟨rfl, HB34, HB4⟩; have l4 := HL.out _ _ (HM.out.below HB34.out))
      | ((with_reducible refine (Hg.out _ HB4).mono ?_); rintro e w5 ⟨rfl, HB5⟩))
  all_goals
    go_wp2_with fail
    go_ret
    exact ⟨rfl, bt HB0.out HB5.out⟩

/-- **Touches.** -/
theorem touches_any (q : MQ) (c : MCh) (W : World) : Calls Try.prog 27 #[qV q, chV c] W fun e w' => e = .returned (.bool (touchB q c)) ∧ Below W.heap.size W w' := by
  cases hv : validB q
  · have e : touchB q c = false := by unfold touchB; rw [hv]; rfl
    rw [e]
    exact touch_q q c W hv
  cases hc : vc c
  · have e : touchB q c = false := by unfold touchB; rw [hv, hc]; rfl
    rw [e]
    exact touch_c q c W hv hc
  have e : touchB q c = touchK q c := by unfold touchB; rw [hv, hc]; rfl
  rw [e]
  have hk := (valid_ok hv).2
  unfold touchK
  have hl : ∀ (k : Int) (v : Value), q.kind = k → lookG touchersL k = some v → lookG touchersL q.kind = some v := fun k v h h' => by rw [h]; exact h'
  obtain h | h | h | h | h | h | h : q.kind = 1 ∨ q.kind = 2 ∨ q.kind = 3 ∨ q.kind = 4 ∨ q.kind = 5 ∨ q.kind = 6 ∨ q.kind = 7 := by omega
  · rw [if_pos (by omega)]
    exact touch_at hv hc (enters_of Try.func120 (by kernel_rfl) rfl) (hl _ _ h rfl) (reaches_any q c) W
  · rw [if_pos (by omega)]
    exact touch_at hv hc (enters_of Try.func120 (by kernel_rfl) rfl) (hl _ _ h rfl) (reaches_any q c) W
  · rw [if_neg (by omega), if_pos (by omega)]
    exact touch_at hv hc (enters_of Try.func121 (by kernel_rfl) rfl) (hl _ _ h rfl) (crosses_any q c) W
  · rw [if_neg (by omega), if_neg (by omega), if_pos (by omega)]
    exact touch_at hv hc (enters_of Try.func122 (by kernel_rfl) rfl) (hl _ _ h rfl) (weighs_any q c) W
  · rw [if_neg (by omega), if_neg (by omega), if_neg (by omega), if_pos (by omega)]
    exact touch_at hv hc (enters_of Try.func123 (by kernel_rfl) rfl) (hl _ _ h rfl) (test1_any q c) W
  · rw [if_neg (by omega), if_neg (by omega), if_neg (by omega), if_pos (by omega)]
    exact touch_at hv hc (enters_of Try.func124 (by kernel_rfl) rfl) (hl _ _ h rfl) (test2_any q c) W
  · rw [if_neg (by omega), if_neg (by omega), if_neg (by omega), if_neg (by omega)]
    exact touch_at hv hc (enters_of Try.func125 (by kernel_rfl) rfl) (hl _ _ h rfl) (test3_any q c) W
end Go.Proofs.Ytgbnjjgnihjfgaa
end

section
set_option linter.unusedVariables false
set_option linter.unusedSimpArgs false
namespace Go.Proofs.Ytgbnjjgnihjfgaa
open Go.RowKit Go.Sort Go.ChangeMaps Go.MapKept

theorem yields_row {P : Program} {ops : Array Oper} {S : World → Prop} {o : Oper} {a : Act} (ty : TypeId) (x : Operand) (ho : o.op = .load ty x) (hwt : Region.wanted o (yielded ops a.tmps) = true) (g : Nat) (hx : a.eval x = .pointer (some ⟨g, 0, none⟩)) (t : TypeId) (cs : Array Value) (fr : Nat × Nat) (d : TypeDesc)
    (hg : ∀ w, S w → w.heap[g]? = some (.cells cs t fr)) (hu : P.underlying ty = some d) (hd : (match d with | .struct _ | .array _ _ => true | _ => false) = true) (hi : (P.info? ty).map (·.size) = some cs.size) : YieldsIf P ops S o (.agg cs) a :=
  Or.inl ⟨hwt, fun w hw => by
    unfold execOp
    simp only [ho, hx, Instr.loadAt, Instr.sureAddr, Sem.run_bind, Sem.run_pure, Result.andThen_ok, run_loadVar_row w g t ty cs fr d (hg w hw) hu hd hi]⟩
/-- What a patch of pairs leaves. -/
def PairsOut (base : Nat) (RP : Option (List PR)) (w : World) (e : Ending) (w' : World) : Prop := ∃ v' b, e = .returned (.tuple #[v', .bool b]) ∧ b = RP.isSome ∧ (∃ r, PrS w' v' r ∧ r.length ≤ 40000 ∧ ∀ s, RP = some s → r = s) ∧ Below base w w'
theorem left_out {q : MQ} {c : MCh} (hq : I64 q.column) {W : World} {base : Nat} {v : Value} {ps : List PR} (hO : OwnP W base v ps) (hb : base ≤ W.heap.size) (hl : ps.length ≤ 39999) : Calls Try.prog 171 #[v, .agg (effC q c)] W (PairsOut base (leftP q ps c) W) :=
  (patchLeft_any hO hb hl hq).mono fun e w' ⟨v', he, h1, ⟨r, h2, h3⟩, h4⟩ => by
    refine ⟨v', _, he, rfl, ?_, h4.mono hb⟩
    cases hp : leftP q ps c with
    | none => exact ⟨r, h2, h3, fun s hs => by cases hs⟩
    | some s =>
      have h5 := (h1 s hp).prS
      obtain ⟨_, _, _, e1, -⟩ := h2
      refine ⟨s, h5, ?_, fun s' hs => by cases hs; rfl⟩
      have h6 : s.length ≤ ps.length + 1 := by
        unfold leftP at hp
        have hf : ∀ p : PR → Bool, (ps.filter p).length ≤ ps.length := fun p => List.length_filter_le p ps
        split at hp
        · cases hp
          exact Nat.le_trans (hf _) (by omega)
        · split at hp
          · split at hp
            · cases hp
              exact Nat.le_trans (hf _) (by omega)
            · cases hp
          · cases hp
            refine Nat.le_trans (Nat.le_of_eq (ins_perm _ _ _).length_eq) ?_
            rw [List.length_cons]
            exact Nat.succ_le_succ (hf _)
      omega
theorem right_out {q : MQ} {c : MCh} {W : World} {base : Nat} {v : Value} {ps : List PR} (hO : OwnP W base v ps) (hb : base ≤ W.heap.size) (hl : ps.length ≤ 39999) : Calls Try.prog 172 #[v, .agg (effC q c)] W (PairsOut base (rightP ps c) W) :=
  (patchRight_any hO hb (by omega)).mono fun e w' ⟨v', he, h1, h2⟩ => by
    refine ⟨v', _, he, rfl, ⟨_, h1.prS, ?_, fun s hs => by rw [hs]; rfl⟩, h2.below hb (fun k hk => OwnP.own_ge hO hk)⟩
    cases hp : rightP ps c with
    | none => simp
    | some s =>
      unfold rightP at hp
      have hf : ∀ p : PR → Bool, (ps.filter p).length ≤ ps.length := fun p => List.length_filter_le p ps
      split at hp
      · cases hp
      · split at hp
        · cases hp
          simp only [Option.getD_some]
          exact Nat.le_trans (hf _) (by omega)
        · cases hp
          simp only [Option.getD_some, List.length_map]
          omega
end Go.Proofs.Ytgbnjjgnihjfgaa
end
