/- LAW: PredicateOrder. -/
import Derived.Test.YtgbnjjgnihjfgaaProg
import Derived.WalkKit
import Derived.Below
import Derived.Lib.Hide
import Derived.Laws.StructEq
import Derived.Lib.QuietBelow
import Derived.Deep.RegionHeld3
import Derived.Deep.RegionWith
import Derived.IntWalk
import Derived.BigQuiet
import Derived.Maps.RangeWalk
import Derived.DeepKeys4
import Derived.OneCell
import Derived.StillTail
import Derived.Deep.CutRange
import Derived.Outline
import Derived.WalkSpells
import Derived.Carry
import Derived.Shelf.SlGeneric
import Derived.Shelf.SlSortCmp.WholeK
import Derived.Shelf.SlicesG.Cmp
import Derived.Ground.SlsfProg
import Derived.Ground.SlgcProg
import Derived.Sort.OwnSorted
import Derived.Deep.AppendLies
import Derived.Shelf.SlSortCmp.NoneTotal
import Derived.Deep.QuietTactic
import Derived.Laws.AppendOwnNone
import Derived.Laws.EntriesVeiled
import Derived.Lib.SliceRun
import Derived.Deep.Cut
import Derived.Laws.ResultCell
import Derived.ArgAppend
import Derived.Laws.Rows
import Derived.Great.BuildSlice
import Derived.Great.Frames
import Derived.Deep.DeepCutAuto
import Derived.Lib.AppendZeros
import Derived.Lib.Overlaps
import Derived.Laws.CopyRow
import Derived.Laws.AppendOwn
import Derived.Laws.Externs
import Derived.Deep.RegionLawGrows
import Derived.Deep.RegionLaw
import Derived.Test.YtgbnjjgnihjfgaaWOAM
import Derived.Test.YtgbnjjgnihjfgaaWOAI
import Derived.Test.YtgbnjjgnihjfgaaWOAF
import Derived.Test.YtgbnjjgnihjfgaaWOAP
import Derived.Test.YtgbnjjgnihjfgaaWOAO
import Derived.Test.YtgbnjjgnihjfgaaWOAK
import Derived.Test.YtgbnjjgnihjfgaaWOAL
import Derived.Test.YtgbnjjgnihjfgaaWOAH
import Derived.Test.YtgbnjjgnihjfgaaWOAR
import Derived.Test.YtgbnjjgnihjfgaaWOAG
import Derived.Test.YtgbnjjgnihjfgaaWOAN
import Derived.Test.YtgbnjjgnihjfgaaWOAB
import Derived.Test.YtgbnjjgnihjfgaaWOAC
import Derived.Test.YtgbnjjgnihjfgaaWOAD
import Derived.Test.YtgbnjjgnihjfgaaWOAQ
import Derived.Test.YtgbnjjgnihjfgaaWOAS
import Derived.Test.YtgbnjjgnihjfgaaWOAA
import Derived.Test.YtgbnjjgnihjfgaaWOAJ
import Derived.Test.YtgbnjjgnihjfgaaWOAE
set_option linter.unusedVariables false
set_option linter.unusedSimpArgs false
namespace Go.Proofs.Ytgbnjjgnihjfgaa
open Go.RowKit Go.Sort Go.ChangeMaps Go.MapKept

/-- The record whose changes are gathered backwards: in a variable of its own, made behind w0. -/
structure BK (w0 w : World) (bb : Nat) (p : Int) (a : Option Addr) (n c : Nat) (L : List MCh) : Prop where
  old : Below w0.heap.size w0 w
  ge : w0.heap.size ≤ bb
  blk : w.heap[bb]? = some (.cells #[.int .i64 p, .slice a n c] 38 (0, 0))
  own : OwnC w (bb + 1) (.slice a n c) L
section
variable {w0 w w' : World} {bb : Nat} {p : Int} {a a2 : Option Addr} {n c n2 c2 : Nat} {L L2 : List MCh}
theorem BK.below (h : BK w0 w bb p a n c L) (k : Below w.heap.size w w') : BK w0 w' bb p a n c L := ⟨bt h.old k, h.ge, (k.block _ (lt_of_block h.blk)).trans h.blk, h.own.below k⟩
theorem BK.g4 (h : BK w0 w bb p a n c L) (hg : w.grownBy w' (Value.slice a n c).ownBlock) : Below w0.heap.size w0 w' ∧ w'.heap[bb]? = some (.cells #[.int .i64 p, .slice a n c] 38 (0, 0)) := by
  have hne : ∀ i, i < bb + 1 → some i ≠ (Value.slice a n c).ownBlock := fun i hi e => by
    have := (own_type h.own e.symm).1
    omega
  exact ⟨h.old.grown hg h.old.size (fun k hk => by have := (own_type h.own hk).1; have := h.ge; omega), (hg.block _ (lt_of_block h.blk) (hne _ (by omega))).trans h.blk⟩
theorem BK.app (h : BK w0 w bb p a n c L) (hg : w.grownBy w' (Value.slice a n c).ownBlock) (ho : OwnC w' (bb + 1) (.slice a2 n2 c2) L2) : BK w0 (w'.setCell ⟨bb, 1, none⟩ (.slice a2 n2 c2)) bb p a2 n2 c2 L2 := by
  obtain ⟨h1, h2⟩ := h.g4 hg
  exact ⟨below_setCell h1 h.ge _, h.ge, by rw [setC_heap h2 1]; rfl, ho.kept (F := fun i => i = bb) (Kept.setCell (F := fun i => i = bb) (p := ⟨bb, 1, none⟩) (Kept.refl _ _) (.inl rfl) _) (fun i hi e => by have := (own_type ho hi).1; omega)⟩
end
theorem wrap64_sm (n : Int) (h : -9223372036854775808 ≤ n ∧ n ≤ 9223372036854775807) : wrap64 n = n := by unfold wrap64; omega
theorem two (W : World) (a b : Obj) : Below W.heap.size W ((W.alloc a).alloc b) ∧ ((W.alloc a).alloc b).heap[W.heap.size]? = some a ∧ ((W.alloc a).alloc b).heap[W.heap.size + 1]? = some b := by
  have e1 := World.size_alloc W a
  have h1 := heap_alloc_new W a
  have h2 := heap_alloc_new (W.alloc a) b
  rw [e1] at h2
  exact ⟨bt (ba W _) (ba _ _), ((ba _ b).block _ (by omega)).trans h1, h2⟩
theorem back_len {cs : List MCh} (j : Nat) : (cs.drop j).reverse.length ≤ cs.length := by
  rw [List.length_reverse, List.length_drop]
  omega
theorem back_step {cs : List MCh} {j : Nat} (h : j < cs.length) : (cs.drop j).reverse = (cs.drop (j + 1)).reverse ++ [cs.getD j chZ] := by
  rw [List.drop_eq_getElem_cons h, List.reverse_cons, List.getD_eq_getElem?_getD, List.getElem?_eq_getElem h, Option.getD_some]
theorem back_any {cs : List MCh} {j : Nat} (f : MCh → Bool) (h : j < cs.length) : (cs.drop j).any f = ((cs.drop (j + 1)).any f || f (cs.getD j chZ)) := by
  rw [List.drop_eq_getElem_cons h, List.any_cons, List.getD_eq_getElem?_getD, List.getElem?_eq_getElem h, Option.getD_some, Bool.or_comm]
set_option maxRecDepth 100000 in
set_option maxHeartbeats 16000000 in
theorem order_of {x : X5} (hx : x.Ok) {r : MRes} {u : Value} {W : World} {v : Value} {n : Nat} (h : XS W v n) (hR : RowS W u r.rows) : Calls Try.prog 6 #[v, x5V x, .agg (resC u r.val r.fnd)] W fun e w' => e = .returned (.bool true) ∧ Below W.heap.size W w' := by
  obtain ⟨rows, val, fnd⟩ := r
  simp only at hR
  have HR := Lib.hid hR
  obtain ⟨ua, un, uc, rfl, -⟩ := id hR
  clear hR
  obtain ⟨nv, Hnv⟩ : ∃ z, Hid (nearV val = z) := ⟨_, Lib.hid rfl⟩
  unfold resC
  obtain ⟨q, Hq⟩ : ∃ q, Hid (qryF x = q) := ⟨_, Lib.hid rfl⟩
  have HQv : Hid (validB q = true) := Lib.hid (by rw [← Hq.out]; exact qryF_valid x)
  have HC := Lib.hid (fun w => queryF_any x hx w)
  rw [Hq.out] at HC
  obtain ⟨mm, hmin, hmn, hm25⟩ : ∃ k : Nat, min (n : Int) 12 = k ∧ k ≤ n ∧ k ≤ 12 := ⟨min n 12, by omega, by omega, by omega⟩
  obtain ⟨va, vcap, rfl, hxt⟩ := h.take mm hmn
  have HT := Lib.hid hxt
  obtain ⟨_, _, e0, hs1, hs2, _⟩ := h
  simp only [Value.slice.injEq] at e0
  obtain ⟨rfl, -, rfl⟩ := e0
  obtain ⟨x0, x1, x2, x3, x4⟩ := x
  unfold x5V at *
  simp only at *
  clear Hq hx hxt
  go_enter Try.func6, Try.ntmps6
  go_upto_region 1 with fail
  obtain ⟨hB0, h1, h2⟩ := two W (.cells #[.int .i64 x0, .int .i64 x1, .int .i64 x2, .int .i64 x3, .int .i64 x4] 52) (.cells #[.slice ua un uc, .int .i64 val, .bool fnd] 46)
  generalize (W.alloc (.cells #[.int .i64 x0, .int .i64 x1, .int .i64 x2, .int .i64 x3, .int .i64 x4] 52)).alloc (.cells #[.slice ua un uc, .int .i64 val, .bool fnd] 46) = w0 at hB0 h1 h2 ⊢
  have HB0 := Lib.hid hB0
  have HX0 := Lib.hid h1
  have HY0 := Lib.hid h2
  clear hB0 h1 h2
  go_wp2_with fail
  (with_reducible refine (sane7_any _).mono ?_)
  rintro e w1 ⟨rfl, hb⟩
  have HY1 := Lib.hid ((hb.block _ (lt_of_block HY0.out)).trans HY0.out)
  have HX1 := Lib.hid ((hb.block _ (lt_of_block HX0.out)).trans HX0.out)
  have HB1 := Lib.hid (bt HB0.out hb)
  clear hb HX0 HB0 HY0
  go_wp2_with fail
  (with_reducible refine (log_walk (HT.out.below HB1.out) (by omega)).mono ?_)
  rintro e w2 ⟨R, u, rfl, hrs, hch, hl, hsm, hb⟩
  have HRS2 := Lib.hid hrs
  have HCh := Lib.hid hch
  have HL := Lib.hid (show R.length ≤ 1000 by omega)
  have HY2 := Lib.hid ((hb.block _ (lt_of_block HY1.out)).trans HY1.out)
  have HX2 := Lib.hid ((hb.block _ (lt_of_block HX1.out)).trans HX1.out)
  have HB2 := Lib.hid (bt HB1.out hb)
  obtain ⟨ra, rn, rcap, rfl, hrn, -⟩ := id hrs
  clear hb HX1 HB1 HY1 hrs hch hl hsm HT hmin hmn hm25 hs1 hs2
  subst hrn
  go_wp2_with (refine wpList_load_row rfl 52 _ rfl W.heap.size rfl 52 _ _ _ HX2.out Try.underlying52 rfl (by kernel_rfl) ?_)
  (with_reducible refine (HC.out _).mono ?_)
  rintro e w3 ⟨rfl, hb⟩
  have HB3 := Lib.hid (bt HB2.out hb)
  have HY3 := Lib.hid ((hb.block _ (lt_of_block HY2.out)).trans HY2.out)
  have HRS3 := Lib.hid (HRS2.out.below hb)
  clear hb HB2 HRS2 HX2 HC HY2
  obtain ⟨qk, qt, qc, ql, qh, qy, qo⟩ := q
  unfold qV
  simp only
  go_upto_region 4 with fail
  generalize hw4 : w3.alloc (.cells #[.int .i64 qk, .int .i64 qt, .int .i64 qc, .int .i64 ql, .int .i64 qh, .int .i64 qy, .int .i64 qo] 29) = w4
  have HB4 : Hid (Below W.heap.size W w4) := Lib.hid (by rw [← hw4]; exact bt HB3.out (ba _ _))
  have HY4 : Hid (w4.heap[W.heap.size + 1]? = some (.cells #[.slice ua un uc, .int .i64 val, .bool fnd] 46 (0, 0))) := Lib.hid (by rw [← hw4]; exact ((ba w3 _).block _ (lt_of_block HY3.out)).trans HY3.out)
  have HRS4 : Hid (RecS w4 (.slice ra R.length rcap) R) := Lib.hid (by rw [← hw4]; exact HRS3.out.below (ba _ _))
  have HQ4 : Hid (w4.heap[w3.heap.size]? = some (.cells #[.int .i64 qk, .int .i64 qt, .int .i64 qc, .int .i64 ql, .int .i64 qh, .int .i64 qy, .int .i64 qo] 29 (0, 0))) := Lib.hid (by rw [← hw4]; exact heap_alloc_new w3 _)
  obtain ⟨qb, Hqb⟩ : ∃ b, Hid (w3.heap.size = b) := ⟨_, Lib.hid rfl⟩
  rw [Hqb.out] at HQ4 ⊢
  clear hw4 HB3 HRS3 Hqb HY3
  have HNr := Lib.hid (near_any (r := ⟨rows, val, fnd⟩) (HR.out.below HB4.out))
  unfold resC at HNr
  simp only [Hnv.out] at HNr
  go_wp2_with (refine wpList_load_row rfl 46 _ rfl (W.heap.size + 1) rfl 46 _ _ _ HY4.out Try.underlying46 rfl (by kernel_rfl) ?_)
  (with_reducible refine HNr.out.mono ?_)
  rintro e w5 ⟨u1, rfl, hT, hb⟩
  obtain ⟨ya, yn, yc, rfl, -⟩ := id hT
  go_upto_region 5 with fail
  generalize hw6 : w5.alloc (.cells #[.slice ya yn yc, .int .i64 nv, .bool fnd] 46) = w6
  have HB6 : Hid (Below W.heap.size W w6) := Lib.hid (by rw [← hw6]; exact bt HB4.out (bt hb (ba _ _)))
  have HQ6 : Hid (w6.heap[qb]? = some (.cells #[.int .i64 qk, .int .i64 qt, .int .i64 qc, .int .i64 ql, .int .i64 qh, .int .i64 qy, .int .i64 qo] 29 (0, 0))) := Lib.hid (by rw [← hw6]; exact (((ba w5 _).block _ (Nat.lt_of_lt_of_le (lt_of_block HQ4.out) hb.size)).trans (hb.block _ (lt_of_block HQ4.out))).trans HQ4.out)
  have HN6 : Hid (w6.heap[w5.heap.size]? = some (.cells #[.slice ya yn yc, .int .i64 nv, .bool fnd] 46 (0, 0))) := Lib.hid (by rw [← hw6]; exact heap_alloc_new w5 _)
  have HRS6 : Hid (RecS w6 (.slice ra R.length rcap) R) := Lib.hid (by rw [← hw6]; exact HRS4.out.below (bt hb (ba _ _)))
  have HT6 : Hid (RowS w6 (.slice ya yn yc) (rows.take 20)) := Lib.hid (by rw [← hw6]; exact hT.below (ba _ _))
  obtain ⟨nb', Hnb⟩ : ∃ b, Hid (w5.heap.size = b) := ⟨_, Lib.hid rfl⟩
  rw [Hnb.out] at HN6 ⊢
  clear hw6 hT hb HNr Hnb HB4 HRS4 HQ4 HY4 HR Hnv
  obtain ⟨TB, HTB⟩ : ∃ TB, Hid (touchB (⟨qk, qt, qc, ql, qh, qy, qo⟩ : MQ) = TB) := ⟨_, Lib.hid rfl⟩
  have HT := Lib.hid (fun c w => touches_any (⟨qk, qt, qc, ql, qh, qy, qo⟩ : MQ) c w)
  rw [HTB.out] at HT
  unfold qV at HT
  simp only at HT
  have HAp : Hid (∀ (w : World) (a : Option Addr) (m c : Nat) (p : Int) (L : List MCh), Below w6.heap.size w6 w → ChS w (.slice a m c) L → L.length ≤ 8 → Calls Try.prog 32 #[.agg #[.int .i64 qk, .int .i64 qt, .int .i64 qc, .int .i64 ql, .int .i64 qh, .int .i64 qy, .int .i64 qo], .agg #[.slice ya yn yc, .int .i64 nv, .bool fnd], .agg #[.int .i64 p, .slice a m c]] w fun e w' => ∃ sa sn sc sv sf kn, e = .returned (.tuple #[.agg #[.slice sa sn sc, .int .i64 sv, .bool sf], .bool (L.any TB), .bool kn]) ∧ (L.any TB = false → kn = true) ∧ Below w.heap.size w w') := Lib.hid (fun w a m c p L hb hC hl => by
    have h := Apply_any (q := (⟨qk, qt, qc, ql, qh, qy, qo⟩ : MQ)) (r := ⟨rows.take 20, nv, fnd⟩) (pos := p) (HT6.out.below hb) (by simp; omega) hC
    unfold qV resC at h
    simp only at h
    refine h.mono ?_
    rintro e w' ⟨u, rfl, ho, hb⟩
    obtain ⟨sa, sn, sc, rfl⟩ := own_form ho
    refine ⟨sa, sn, sc, _, _, _, by rw [← HTB.out, ← apply_touch (⟨qk, qt, qc, ql, qh, qy, qo⟩ : MQ) ⟨rows.take 20, nv, fnd⟩ L], fun ht => ?_, hb⟩
    rw [← HTB.out] at ht
    rw [apply_same ht]
    rfl)
  go_wp2_with fail
  go_loopw [11] (fun i wr => ∃ k : Nat, k ≤ R.length ∧ i = .int .i64 k ∧ Hid (Below w6.heap.size w6 wr)) (fun i _ => R.length - (intOf i).toNat)
  case atStart => exact ⟨0, by omega, rfl, Lib.hid (Below.refl _ _)⟩
  case round =>
    obtain ⟨k, hk, rfl, HBr⟩ := hrel
    by_cases hlt : k < R.length
    · obtain ⟨gb, go, ga, gn, gc, eg1, -, q0, q1, hvs, hvn, hgb⟩ := rec_at (HRS6.out.below HBr.out) HCh.out hlt
      subst eg1
      obtain ⟨cs, Hcs⟩ : ∃ c, Hid ((R.getD k recZ).chs = c) := ⟨_, Lib.hid rfl⟩
      have hl8 : (R.getD k recZ).chs.length ≤ 8 := (HCh.out k hlt).1.2.1.2
      rw [Hcs.out] at hvs hvn hl8
      have HCs := Lib.hid hvs
      have HL8 := Lib.hid hl8
      clear hvs hl8
      go_upto_region 9 with fail
      go_upto_region 10 with fail
      have hBK : BK wr (wr.alloc (.cells #[.int .i64 ((k : Int) + 1), .slice none 0 0] 38)) wr.heap.size ((k : Int) + 1) none 0 0 [] := ⟨ba wr _, Nat.le_refl _, heap_alloc_new wr _, OwnC.nil _ _⟩
      generalize (wr.alloc (.cells #[.int .i64 ((k : Int) + 1), .slice none 0 0] 38)) = wb at hBK ⊢
      have HG := Lib.hid (And.intro hgb q1)
      have HG0 := Lib.hid q0
      have HBK : Hid (BK wr wb wr.heap.size ((k : Int) + 1) none 0 0 (cs.drop cs.length).reverse) := Lib.hid (by rw [List.drop_length]; exact hBK)
      have q1b : wb.cell? ⟨gb, go + k * 2 + 1, none⟩ = some (.slice ga gn gc) := (hBK.old.cell (p := ⟨gb, go + k * 2 + 1, none⟩) hgb).trans q1
      clear q0 q1 hgb hBK
      subst hvn
      have HTk : Hid (∀ j, j < cs.length → (cs.drop j).any TB = ((cs.drop (j + 1)).any TB || TB (cs.getD j chZ))) := Lib.hid (fun j hj => back_any TB hj)
      go_upto_region 12 with fail
      go_wp2_with fail
      go_loopw [13, 14] (fun tv i wr' => ∃ (j : Nat) (a : Option Addr) (m c : Nat), j ≤ cs.length ∧ i = .int .i64 ((j : Int) - 1) ∧ tv = .bool ((cs.drop j).any TB) ∧ Hid (BK wr wr' wr.heap.size ((k : Int) + 1) a m c (cs.drop j).reverse)) (fun _ i _ => ((intOf i) + 1).toNat)
      case atStart => exact ⟨cs.length, none, 0, 0, Nat.le_refl _, by rw [wrap64_sm _ (by have := HL8.out; omega)], by rw [List.drop_length]; rfl, HBK⟩
      case round =>
        obtain ⟨j, a, m, c, hj, rfl, rfl, HJ⟩ := hrel
        clear HBK q1b
        rename World => wj
        have q1 : wj.cell? ⟨gb, go + k * 2 + 1, none⟩ = some (.slice ga cs.length gc) := (HJ.out.old.cell (p := ⟨gb, go + k * 2 + 1, none⟩) HG.out.1).trans HG.out.2
        obtain ⟨tj, Htj⟩ : ∃ t, Hid ((cs.drop j).any TB = t) := ⟨_, Lib.hid rfl⟩
        rw [Htj.out]
        by_cases hjl : 1 ≤ j
        · obtain ⟨j, rfl⟩ : ∃ i, j = i + 1 := ⟨j - 1, by omega⟩
          have ej : ((j + 1 : Nat) : Int) - 1 = (j : Int) := by omega
          have hj8 : (j : Int) ≤ 8 := by have := HL8.out; omega
          rw [ej]
          obtain ⟨cb, co, rfl, hcb, H1r⟩ := ch_at HCs.out (j := j) (by omega)
          have hcbj : cb < wj.heap.size := Nat.lt_of_lt_of_le hcb HJ.out.old.size
          obtain ⟨⟨t, kk, had, ⟨oa, ob, oc⟩, has, ⟨na, nb, nc⟩⟩, Hc⟩ : ∃ c, Hid (cs.getD j chZ = c) := ⟨_, Lib.hid rfl⟩
          rw [Hc.out] at H1r
          have H1 := H1r.kept (F := fun _ => False) (Kept.of_below HJ.out.old) hcb id
          have H1r := Lib.hid H1r
          have HTn := Lib.hid (HTk.out j (by omega))
          rw [Hc.out, Htj.out] at HTn
          have HBs : Hid ((cs.drop j).reverse = (cs.drop (j + 1)).reverse ++ [⟨t, kk, had, ⟨oa, ob, oc⟩, has, ⟨na, nb, nc⟩⟩]) := Lib.hid (by rw [← Hc.out]; exact back_step (by omega))
          have HBl : Hid ((cs.drop (j + 1)).reverse.length + 1 ≤ 100000) := Lib.hid (by have := back_len (cs := cs) (j + 1); have := HL8.out; omega)
          have HTw := Lib.hid (fun w => HT.out ⟨t, kk, had, ⟨oa, ob, oc⟩, has, ⟨na, nb, nc⟩⟩ w)
          obtain ⟨tc, Htc⟩ : ∃ tc, Hid (TB ⟨t, kk, had, ⟨oa, ob, oc⟩, has, ⟨na, nb, nc⟩⟩ = tc) := ⟨_, Lib.hid rfl⟩
          rw [Htc.out] at HTw HTn
          unfold chV at HTw
          simp only at HTw
          obtain ⟨y0, y1, y2, y3, y4, y5, y6, y7, y8, y9⟩ := H1.cells
          clear H1
          have hjn : (j : Int) < (cs.length : Int) := by omega
          have hj0 : (0 : Int) ≤ (j : Int) := by omega
          have hbn : ¬ gb = wj.heap.size := by have := HG.out.1; have := HJ.out.old.size; omega
          have bk1 : wj.cell? ⟨wr.heap.size, 1, none⟩ = some (.slice a m c) := by simp [World.cell?, HJ.out.blk]
          have od : ∀ o, (wj.alloc o).drew.cell? ⟨wr.heap.size, 1, none⟩ = some (.slice a m c) := fun o => ((bt (ba wj o) (below_drew _)).cell (p := ⟨wr.heap.size, 1, none⟩) (lt_of_block HJ.out.blk)).trans bk1
          have od' : (wj.alloc (.cells (chCells ⟨t, kk, had, ⟨oa, ob, oc⟩, has, ⟨na, nb, nc⟩⟩) 35)).drew.cell? ⟨wr.heap.size, 1, none⟩ = some (.slice a m c) := od _
          unfold chCells at od'
          simp only at od'
          go_upto_region 14 with fail
          go_region_law (first
            | (refine step_append_C (by rfl) (.tmp 56) (.tmp 65) (by rfl) (wr.heap.size + 1) (.slice a m c) _ ⟨t, kk, had, ⟨oa, ob, oc⟩, has, ⟨na, nb, nc⟩⟩ wj.heap.size (by rfl) (by rfl) (HJ.out.own.below (bt (below_drew _) (ba _ _))) (heap_alloc_new _ _) HBl.out (by have := lt_of_block HJ.out.blk; simp; omega) ?_; intro v2 w2 ho2 hg2; obtain ⟨a2, n2, c2, rfl⟩ := ownC_form2 ho2; have HBn := Lib.hid ((HJ.out.below (bt (below_drew _) (ba _ _))).app hg2 ho2); have HG4 := Lib.hid ((HJ.out.below (bt (below_drew _) (ba _ _))).g4 hg2); clear ho2 hg2; have f0 : w2.frozen? ⟨wr.heap.size, 1, none⟩ = false := (by simp [World.frozen?, HG4.out.2]); have x0 : w2.cell? ⟨wr.heap.size, 1, none⟩ = some (.slice a m c) := (by simp [World.cell?, HG4.out.2])))
          all_goals
            generalize hwx : w2.setCell ⟨wr.heap.size, 1, none⟩ (.slice a2 n2 c2) = w3 at HBn ⊢
            rw [← HBs.out] at HBn
            clear hwx f0 x0 HG4 bk1 q1 y0 y1 y2 y3 y4 y5 y6 y7 y8 y9
            try clear od
            try clear od'
            have hqb : qb < w3.heap.size := Nat.lt_of_lt_of_le (lt_of_block HQ6.out) (Nat.le_trans HBr.out.size HBn.out.old.size)
            have hgb3 : gb < w3.heap.size := Nat.lt_of_lt_of_le HG.out.1 HBn.out.old.size
            have hcb3 : cb < w3.heap.size := Nat.lt_of_lt_of_le hcb HBn.out.old.size
            obtain ⟨y0, y1, y2, y3, y4, y5, y6, y7, y8, y9⟩ := (H1r.out.kept (F := fun _ => False) (Kept.of_below HBn.out.old) hcb id).cells
            have HQj := Lib.hid (((bt HBr.out HBn.out.old).block _ (lt_of_block HQ6.out)).trans HQ6.out)
            have q1 : w3.cell? ⟨gb, go + k * 2 + 1, none⟩ = some (.slice (some ⟨cb, co, none⟩) cs.length gc) := (HBn.out.old.cell (p := ⟨gb, go + k * 2 + 1, none⟩) HG.out.1).trans HG.out.2
            go_upto_region 15 with fail
            have z0 := re_cell hqb (show w3.cell? ⟨qb, 0, none⟩ = some (.int .i64 qk) by simp [World.cell?, HQj.out])
            have z1 := re_cell hqb (show w3.cell? ⟨qb, 1, none⟩ = some (.int .i64 qt) by simp [World.cell?, HQj.out])
            have z2 := re_cell hqb (show w3.cell? ⟨qb, 2, none⟩ = some (.int .i64 qc) by simp [World.cell?, HQj.out])
            have z3 := re_cell hqb (show w3.cell? ⟨qb, 3, none⟩ = some (.int .i64 ql) by simp [World.cell?, HQj.out])
            have z4 := re_cell hqb (show w3.cell? ⟨qb, 4, none⟩ = some (.int .i64 qh) by simp [World.cell?, HQj.out])
            have z5 := re_cell hqb (show w3.cell? ⟨qb, 5, none⟩ = some (.int .i64 qy) by simp [World.cell?, HQj.out])
            have z6 := re_cell hqb (show w3.cell? ⟨qb, 6, none⟩ = some (.int .i64 qo) by simp [World.cell?, HQj.out])
            have zr := re_cell hgb3 q1
            have z0_ := re_cell hcb3 y0
            have z1_ := re_cell hcb3 y1
            have z2_ := re_cell hcb3 y2
            have z3_ := re_cell hcb3 y3
            have z4_ := re_cell hcb3 y4
            have z5_ := re_cell hcb3 y5
            have z6_ := re_cell hcb3 y6
            have z7_ := re_cell hcb3 y7
            have z8_ := re_cell hcb3 y8
            have z9_ := re_cell hcb3 y9
            clear y0 y1 y2 y3 y4 y5 y6 y7 y8 y9 q1
            refine wp_region_calm 10 99 [0, 1, 2, 3, 4, 5, 6, 7, 8, 9] (by kernel_rfl) (by kernel_rfl) (by intro oz h; simp at h) (by intro oz h; simp at h) (by rfl) ?_
            simp only [List.take_succ_cons, List.take_zero]
            iterate 9
              apply wpCalm_want
              · rfl
              · exact bc_refl
              · exact ⟨_, Below.refl _ _⟩
              · intro w00 hC0 K hK
                go_big_quiet_op
                exact hK
            apply wpCalm_want
            · rfl
            · exact bc_refl
            · exact ⟨_, Below.refl _ _⟩
            · intro w00 hC0 K hK
              go_big_quiet_op
              apply Exists.intro
              refine ⟨fun p => ?_, ?_⟩
              · exact Calls.regrown_of (HTw.out _)
              · exact hK
            refine wpCalm_nil ?_
            intro wn hbq
            try simp only [List.drop_succ_cons, List.drop_zero]
            clear zr z0 z1 z2 z3 z4 z5 z6 z0_ z1_ z2_ z3_ z4_ z5_ z6_ z7_ z8_ z9_
            have HJ2 := Lib.hid (HBn.out.below hbq)
            cases tj
            · go_wp2_with fail
              exact ⟨⟨j, a2, n2, c2, by omega, rfl, by rw [HTn.out]; rfl, HJ2⟩, by simp [intOf]⟩
            · go_wp2_with fail
              exact ⟨⟨j, a2, n2, c2, by omega, rfl, by rw [HTn.out]; rfl, HJ2⟩, by simp [intOf]⟩
        · obtain rfl : j = 0 := by omega
          rw [List.drop_zero] at HJ Htj
          have ej : ((0 : Nat) : Int) - 1 = -1 := by omega
          rw [ej]
          obtain ⟨TT, HTT⟩ : ∃ t, Hid (cs.any TB = t) := ⟨_, Lib.hid rfl⟩
          rw [HTT.out] at Htj
          obtain rfl := Htj.out
          have hbw := HJ.out.old
          have HQw := Lib.hid (((bt HBr.out hbw).block _ (lt_of_block HQ6.out)).trans HQ6.out)
          have HNw := Lib.hid (((bt HBr.out hbw).block _ (lt_of_block HN6.out)).trans HN6.out)
          have HA1 : Hid (∀ w, Hid (Below wj.heap.size wj w) → Calls Try.prog 32 #[.agg #[.int .i64 qk, .int .i64 qt, .int .i64 qc, .int .i64 ql, .int .i64 qh, .int .i64 qy, .int .i64 qo], .agg #[.slice ya yn yc, .int .i64 nv, .bool fnd], .agg #[.int .i64 ((k : Int) + 1), .slice ga cs.length gc]] w fun e w' => ∃ sa sn sc sv sf kn, e = .returned (.tuple #[.agg #[.slice sa sn sc, .int .i64 sv, .bool sf], .bool TT, .bool kn]) ∧ Hid (TT = false → kn = true) ∧ Hid (Below w.heap.size w w')) := Lib.hid (fun w hb => by
            refine (HAp.out w _ _ _ _ cs (bt HBr.out (bt hbw hb.out)) (HCs.out.below (bt hbw hb.out)) HL8.out).mono ?_
            rintro e w' ⟨sa, sn, sc, sv, sf, kn, rfl, h1, h2⟩
            rw [HTT.out] at h1 ⊢
            exact ⟨sa, sn, sc, sv, sf, kn, rfl, Lib.hid h1, Lib.hid h2⟩)
          have HTr : Hid ((cs.reverse).any TB = TT) := Lib.hid (by rw [← HTT.out, List.any_reverse])
          have HK : Hid (∀ w, Below wj.heap.size wj w → w.cell? ⟨qb, 0, none⟩ = some (.int .i64 qk) ∧ w.cell? ⟨qb, 1, none⟩ = some (.int .i64 qt) ∧ w.cell? ⟨qb, 2, none⟩ = some (.int .i64 qc) ∧ w.cell? ⟨qb, 3, none⟩ = some (.int .i64 ql) ∧ w.cell? ⟨qb, 4, none⟩ = some (.int .i64 qh) ∧ w.cell? ⟨qb, 5, none⟩ = some (.int .i64 qy) ∧ w.cell? ⟨qb, 6, none⟩ = some (.int .i64 qo) ∧ w.cell? ⟨nb', 0, none⟩ = some (.slice ya yn yc) ∧ w.cell? ⟨nb', 1, none⟩ = some (.int .i64 nv) ∧ w.cell? ⟨nb', 2, none⟩ = some (.bool fnd) ∧ w.cell? ⟨gb, go + k * 2, none⟩ = some (.int .i64 ((k : Int) + 1)) ∧ w.cell? ⟨gb, go + k * 2 + 1, none⟩ = some (.slice ga cs.length gc)) := Lib.hid (fun w hb => by
            have h1 := (hb.block _ (lt_of_block HQw.out)).trans HQw.out
            have h2 := (hb.block _ (lt_of_block HNw.out)).trans HNw.out
            have h3 := (((bt hbw hb).cell (p := ⟨gb, go + k * 2, none⟩) HG.out.1)).trans HG0.out
            have h4 := (((bt hbw hb).cell (p := ⟨gb, go + k * 2 + 1, none⟩) HG.out.1)).trans HG.out.2
            refine ⟨?_, ?_, ?_, ?_, ?_, ?_, ?_, ?_, ?_, ?_, h3, h4⟩ <;> simp [World.cell?, h1, h2])
          clear q1
          go_upto_region 17 with fail
          go_cut [17, 18] (fun s t wx => s = .bool TT ∧ (∃ kn, t = .bool kn ∧ Hid (TT = false → kn = true)) ∧ Hid (Below wj.heap.size wj wx))
          case first => as_aux_lemma =>
            go_region_held3 (fun w => w.cell? ⟨qb, 0, none⟩ = some (.int .i64 qk) ∧ w.cell? ⟨qb, 1, none⟩ = some (.int .i64 qt) ∧ w.cell? ⟨qb, 2, none⟩ = some (.int .i64 qc) ∧ w.cell? ⟨qb, 3, none⟩ = some (.int .i64 ql) ∧ w.cell? ⟨qb, 4, none⟩ = some (.int .i64 qh) ∧ w.cell? ⟨qb, 5, none⟩ = some (.int .i64 qy) ∧ w.cell? ⟨qb, 6, none⟩ = some (.int .i64 qo) ∧ w.cell? ⟨nb', 0, none⟩ = some (.slice ya yn yc) ∧ w.cell? ⟨nb', 1, none⟩ = some (.int .i64 nv) ∧ w.cell? ⟨nb', 2, none⟩ = some (.bool fnd) ∧ w.cell? ⟨gb, go + k * 2, none⟩ = some (.int .i64 ((k : Int) + 1)) ∧ w.cell? ⟨gb, go + k * 2 + 1, none⟩ = some (.slice ga cs.length gc))
              (first | exact HK.out _ (below_drew _) | exact HK.out _ HCur.out | exact HK.out _ (bt (ba wj _) (below_drew _)) | exact HK.out _ (bt HCur.out (ba _ _)) | exact HK.out _ (below_setCell (below_setCell (below_setCell HCur.out hge _) hge _) hge _))
              (first
                | (go_at_call 32; (with_reducible refine (HA1.out _ (Lib.hid (below_drew _))).mono ?_); rintro e wk1 ⟨sa, sn, sc, sv, sf, kn, rfl, HKn, HBk1⟩; have HCur := Lib.hid (bt (below_drew _) HBk1.out))
                | (go_at_call 32; (with_reducible refine (HA1.out _ (Lib.hid (bt (ba wj _) (below_drew _)))).mono ?_); rintro e wk1 ⟨sa, sn, sc, sv, sf, kn, rfl, HKn, HBk1⟩; have HCur := Lib.hid (bt (bt (ba wj _) (below_drew _)) HBk1.out); have HRb : Hid (wk1.heap[wj.heap.size]? = some (.cells #[.slice none 0 0, .int .i64 0, .bool false] 46 (0, 0))) := Lib.hid ((HBk1.out.block _ (by simp [World.drew])).trans (heap_alloc_new wj _)); have f0 : ∀ j, wk1.frozen? ⟨wj.heap.size, j, none⟩ = false := (fun j => by simp [World.frozen?, HRb.out]); have x0 : wk1.cell? ⟨wj.heap.size, 0, none⟩ = some (.slice none 0 0) := (by simp [World.cell?, HRb.out]); have x1 : wk1.cell? ⟨wj.heap.size, 1, none⟩ = some (.int .i64 0) := (by simp [World.cell?, HRb.out]); have x2 : wk1.cell? ⟨wj.heap.size, 2, none⟩ = some (.bool false) := (by simp [World.cell?, HRb.out]); have hge := Nat.le_refl wj.heap.size))
            all_goals
              go_wp2_with fail
              go_meet
              first
                | exact ⟨rfl, ⟨kn, rfl, HKn⟩, Lib.hid (bt HCur.out (ba _ _))⟩
                | exact ⟨rfl, ⟨kn, rfl, HKn⟩, Lib.hid (below_setCell (below_setCell (below_setCell HCur.out hge _) hge _) hge _)⟩
          case rest => as_aux_lemma =>
            obtain ⟨hs_, ⟨kn, ht_, HKn⟩, HB17⟩ := hcut
            rename World => w17
            subst hs_
            subst ht_
            have HJ17 := Lib.hid (HJ.out.below HB17.out)
            have HQz := Lib.hid ((HB17.out.block _ (lt_of_block HQw.out)).trans HQw.out)
            have HNz := Lib.hid ((HB17.out.block _ (lt_of_block HNw.out)).trans HNw.out)
            have HBz := Lib.hid HJ17.out.blk
            have HA2 := Lib.hid (HAp.out w17 a m c ((k : Int) + 1) cs.reverse (bt HBr.out HJ17.out.old) HJ17.out.own.chS (by rw [List.length_reverse]; exact HL8.out))
            rw [HTr.out] at HA2
            go_upto_region 18 with fail
            go_wp2_with (first | refine wpList_load_row rfl 29 _ rfl qb rfl 29 _ _ _ HQz.out Try.underlying29 rfl (by kernel_rfl) ?_ | refine wpList_load_row rfl 46 _ rfl nb' rfl 46 _ _ _ HNz.out Try.underlying46 rfl (by kernel_rfl) ?_ | refine wpList_load_row rfl 38 _ rfl wr.heap.size rfl 38 _ _ _ HBz.out Try.underlying38 rfl (by kernel_rfl) ?_)
            (with_reducible refine HA2.out.mono ?_)
            rintro e w18 ⟨sa, sn, sc, sv, sf, kn2, rfl, -, hb⟩
            have HB18 := Lib.hid (bt HBr.out (bt HJ17.out.old hb))
            clear hb
            go_upto_region 19 with fail
            generalize hw : w18.alloc _ = w19
            have HB19 : Hid (Below w6.heap.size w6 w19) := Lib.hid (by rw [← hw]; exact bt HB18.out (ba _ _))
            clear hw
            have hRl := HL.out
            cases TT
            · obtain rfl := HKn.out rfl
              go_wp2_with fail
              exact ⟨⟨k + 1, by omega, by go_num, HB19⟩, by simp [intOf]; omega⟩
            · go_wp2_with fail
              exact ⟨⟨k + 1, by omega, by go_num, HB19⟩, by simp [intOf]; omega⟩
    · obtain rfl : k = R.length := by omega
      go_wp2_with fail
      go_ret
      exact ⟨rfl, bt HB6.out HBr.out⟩
end Go.Proofs.Ytgbnjjgnihjfgaa

