/- LA, LB, LC -/
import Derived.Test.YtgbnjjgnihjfgaaGreatProg
import Derived.WalkKit
import Derived.Below
import Derived.Lib.Hide
import Derived.Laws.StructEq
import Derived.Lib.QuietBelow
import Derived.Deep.RegionHeld3
import Derived.Deep.RegionWith
import Derived.IntWalk
import Derived.BigQuiet
import Derived.Maps.RangeWalk
import Derived.DeepKeys4
import Derived.OneCell
import Derived.StillTail
import Derived.Deep.CutRange
import Derived.Outline
import Derived.WalkSpells
import Derived.Carry
import Derived.Shelf.SlGeneric
import Derived.Shelf.SlSortCmp.WholeK
import Derived.Shelf.SlicesG.Cmp
import Derived.Ground.SlsfProg
import Derived.Ground.SlgcProg
import Derived.Sort.OwnSorted
import Derived.Deep.AppendLies
import Derived.Shelf.SlSortCmp.NoneTotal
import Derived.Deep.QuietTactic
import Derived.Laws.AppendOwnNone
import Derived.Laws.EntriesVeiled
import Derived.Lib.SliceRun
import Derived.Deep.Cut
import Derived.Laws.ResultCell
import Derived.ArgAppend
import Derived.Laws.Rows
import Derived.Great.BuildSlice
import Derived.Great.Frames
import Derived.Deep.DeepCutAuto
import Derived.Test.YtgbnjjgnihjfgaaGreatBAE
import Derived.Test.YtgbnjjgnihjfgaaGreatBAB
import Derived.Test.YtgbnjjgnihjfgaaGreatBAG
import Derived.Test.YtgbnjjgnihjfgaaGreatBAA
import Derived.Test.YtgbnjjgnihjfgaaGreatBAC
import Derived.Test.YtgbnjjgnihjfgaaGreatBAD
import Derived.Test.YtgbnjjgnihjfgaaGreatBAF
import Derived.Lib.AppendZeros
import Derived.Lib.Overlaps
import Derived.Laws.CopyRow
import Derived.Laws.AppendOwn
import Derived.Laws.Externs
import Derived.Deep.RegionLawGrows
import Derived.Test.YtgbnjjgnihjfgaaGreatBAM
import Derived.Test.YtgbnjjgnihjfgaaGreatBAJ
import Derived.Test.YtgbnjjgnihjfgaaGreatBAI
import Derived.Test.YtgbnjjgnihjfgaaGreatBAK
import Derived.Test.YtgbnjjgnihjfgaaGreatBAN
import Derived.Test.YtgbnjjgnihjfgaaGreatBAH
import Derived.Test.YtgbnjjgnihjfgaaGreatBAR
import Derived.Test.YtgbnjjgnihjfgaaGreatBAQ
import Derived.Test.YtgbnjjgnihjfgaaGreatBAO
import Derived.Test.YtgbnjjgnihjfgaaGreatBAP
import Derived.Test.YtgbnjjgnihjfgaaGreatBAL
section
set_option linter.unusedVariables false
set_option linter.unusedSimpArgs false
namespace Go.Proofs.YtgbnjjgnihjfgaaGreat
open Go.RowKit Go.Sort Go.ChangeMaps Go.MapKept

structure X5 where
  a : Int
  b : Int
  c : Int
  d : Int
  e : Int
abbrev x5V (x : X5) : Value := .agg #[.int .i64 x.a, .int .i64 x.b, .int .i64 x.c, .int .i64 x.d, .int .i64 x.e]
def X5.Ok (x : X5) : Prop := I64 x.a ∧ I64 x.b ∧ I64 x.c ∧ I64 x.d ∧ I64 x.e
theorem pick7B (c n : Int) (W : World) (hc : I64 c) (hn : 1 ≤ n) (hn2 : n ≤ 1000000) : Calls Tryz.prog 19 #[.int .i64 c, .int .i64 n] W fun e w' => e = .returned (.int .i64 (pk c n)) ∧ Below W.heap.size W w' :=
  (pick7_any c n W hc hn hn2).mono fun e w' ⟨h1, h2⟩ => ⟨h1, by subst h2; exact Below.refl _ _⟩
/-- The query that five integers determine. -/
def qryF (x : X5) : MQ :=
  let k := 1 + pk x.a 7
  let t := pk (Int.tdiv x.a 7) 3
  if k = 1 then ⟨1, t, 0, 1 + pk x.b 9, 1 + pk x.b 9, 0, 0⟩
  else
    let c := pk (Int.tdiv x.b 9) 4
    let l := pk x.c 14 - 2
    let h := l + pk x.d 14
    ⟨k, t, c, if c = 3 then l * 3 - 20 else l, if c = 3 then h * 3 - 20 else h, if k = 7 ∧ 0 < pk (Int.tdiv x.e 9) 3 then 2 else if 4 ≤ k then 1 + pk x.e 3 else 0, if k = 7 then pk (Int.tdiv x.e 3) 3 else 0⟩
theorem qryF_valid (x : X5) : validB (qryF x) = true := by
  have h1 := pk_range x.a (n := 7) (by omega)
  have h2 := pk_range (Int.tdiv x.a 7) (n := 3) (by omega)
  have h3 := pk_range x.b (n := 9) (by omega)
  have h4 := pk_range (Int.tdiv x.b 9) (n := 4) (by omega)
  have h5 := pk_range x.c (n := 14) (by omega)
  have h6 := pk_range x.d (n := 14) (by omega)
  have h7 := pk_range x.e (n := 3) (by omega)
  have h8 := pk_range (Int.tdiv x.e 3) (n := 3) (by omega)
  unfold qryF
  simp only
  generalize pk x.a 7 = k at *
  generalize pk (Int.tdiv x.a 7) 3 = t at *
  generalize pk x.b 9 = b9 at *
  generalize pk (Int.tdiv x.b 9) 4 = b4 at *
  generalize pk x.c 14 = c14 at *
  generalize pk x.d 14 = d14 at *
  generalize pk x.e 3 = e3 at *
  generalize pk (Int.tdiv x.e 3) 3 = e33 at *
  by_cases hp : 0 < pk (Int.tdiv x.e 9) 3 <;> by_cases h3 : b4 = 3 <;> simp only [hp, h3, and_true, and_false, if_true, if_false] <;>
  · have hk : k = 0 ∨ k = 1 ∨ k = 2 ∨ k = 3 ∨ k = 4 ∨ k = 5 ∨ k = 6 := by omega
    rcases hk with rfl | rfl | rfl | rfl | rfl | rfl | rfl <;> simp [validB, scanB] <;> omega
/-- What Query has at hand: its argument, its result, and the query in a variable. -/
structure QF5 (W w : World) (yb : Nat) (x : X5) (q : MQ) : Prop where
  old : Below W.heap.size W w
  arg : w.heap[W.heap.size]? = some (.cells #[.int .i64 x.a, .int .i64 x.b, .int .i64 x.c, .int .i64 x.d, .int .i64 x.e] 23 (0, 0))
  res : w.heap[W.heap.size + 1]? = some (.cells (qC ⟨0, 0, 0, 0, 0, 0, 0⟩) 28 (0, 0))
  var : w.heap[yb]? = some (.cells (qC q) 28 (0, 0))
  ge : W.heap.size + 2 ≤ yb
theorem QF5.below {W w w' : World} {yb : Nat} {x : X5} {q : MQ} (h : QF5 W w yb x q) (k : Below w.heap.size w w') : QF5 W w' yb x q :=
  ⟨bt h.old k, (k.block _ (lt_of_block h.arg)).trans h.arg, (k.block _ (lt_of_block h.res)).trans h.res, (k.block _ (lt_of_block h.var)).trans h.var, h.ge⟩
theorem QF5.set {W w : World} {yb : Nat} {x : X5} {q q' : MQ} (h : QF5 W w yb x q) {j : Nat} {u : Value} (hq : (qC q).setIfInBounds j u = qC q') : QF5 W (w.setCell ⟨yb, j, none⟩ u) yb x q' := by
  have hg := h.ge
  exact ⟨below_setCell h.old (by show W.heap.size ≤ yb; omega) u, (Below.heap_setCell _ _ _ _ (by show W.heap.size ≠ yb; omega)).trans h.arg, (Below.heap_setCell _ _ _ _ (by show W.heap.size + 1 ≠ yb; omega)).trans h.res, by rw [setC_heap h.var j u, hq], hg⟩
theorem QF5.args {W w : World} {yb : Nat} {x : X5} {q : MQ} (h : QF5 W w yb x q) : w.cell? ⟨W.heap.size, 0, none⟩ = some (.int .i64 x.a) ∧ w.cell? ⟨W.heap.size, 1, none⟩ = some (.int .i64 x.b) ∧ w.cell? ⟨W.heap.size, 2, none⟩ = some (.int .i64 x.c) ∧ w.cell? ⟨W.heap.size, 3, none⟩ = some (.int .i64 x.d) ∧ w.cell? ⟨W.heap.size, 4, none⟩ = some (.int .i64 x.e) :=
  ⟨by simp [World.cell?, h.arg], by simp [World.cell?, h.arg], by simp [World.cell?, h.arg], by simp [World.cell?, h.arg], by simp [World.cell?, h.arg]⟩
theorem QF5.frz {W w : World} {yb : Nat} {x : X5} {q : MQ} (h : QF5 W w yb x q) (j : Nat) : w.frozen? ⟨yb, j, none⟩ = false := by simp [World.frozen?, h.var]
theorem QF5.fin {W w : World} {yb : Nat} {x : X5} {q : MQ} (h : QF5 W w yb x q) : Below W.heap.size W (w.setRow (W.heap.size + 1) (qC q)) ∧ (w.setRow (W.heap.size + 1) (qC q)).heap[W.heap.size + 1]? = some (.cells (qC q) 28 (0, 0)) :=
  ⟨below_row h.old (by omega) _, setRow_heap _ _ _ _ _ _ h.res⟩
set_option maxRecDepth 100000 in
set_option maxHeartbeats 8000000 in
theorem queryF_any (x : X5) (hx : x.Ok) (W : World) : Calls Tryz.prog 12 #[x5V x] W fun e w' => e = .returned (qV (qryF x)) ∧ Below W.heap.size W w' := by
  have hWn : W.heap.size ≤ W.heap.size + 1 := by omega
  obtain ⟨hQ, HQX⟩ : ∃ q, Hid (qryF x = q) := ⟨_, Lib.hid rfl⟩
  rw [HQX.out]
  obtain ⟨a, b, c, d, e⟩ := x
  obtain ⟨ha, hb, hc, hd, he⟩ := hx
  simp only at ha hb hc hd he
  have P1 := Lib.hid (fun w => pick7B a 7 w ha (by omega) (by omega))
  have P2 := Lib.hid (fun w => pick7B (Int.tdiv a 7) 3 w (tdiv_i64 ha (by omega)) (by omega) (by omega))
  have P3 := Lib.hid (fun w => pick7_any b 9 w hb (by omega) (by omega))
  have P4 := Lib.hid (fun w => pick7_any (Int.tdiv b 9) 4 w (tdiv_i64 hb (by omega)) (by omega) (by omega))
  have P5 := Lib.hid (fun w => pick7_any c 14 w hc (by omega) (by omega))
  have P6 := Lib.hid (fun w => pick7B d 14 w hd (by omega) (by omega))
  have P7 := Lib.hid (fun w => pick7_any e 3 w he (by omega) (by omega))
  have P8 := Lib.hid (fun w => pick7_any (Int.tdiv e 3) 3 w (tdiv_i64 he (by omega)) (by omega) (by omega))
  have P9 := Lib.hid (fun w => pick7_any (Int.tdiv e 9) 3 w (tdiv_i64 he (by omega)) (by omega) (by omega))
  have r1 := pk_range a (n := 7) (by omega)
  have r2 := pk_range (Int.tdiv a 7) (n := 3) (by omega)
  have r3 := pk_range b (n := 9) (by omega)
  have r4 := pk_range (Int.tdiv b 9) (n := 4) (by omega)
  have r5 := pk_range c (n := 14) (by omega)
  have r6 := pk_range d (n := 14) (by omega)
  have r7 := pk_range e (n := 3) (by omega)
  have r8 := pk_range (Int.tdiv e 3) (n := 3) (by omega)
  have r9 := pk_range (Int.tdiv e 9) (n := 3) (by omega)
  unfold qryF at HQX
  simp only at HQX
  obtain ⟨z1, H1⟩ : ∃ z, Hid (pk a 7 = z) := ⟨_, Lib.hid rfl⟩
  obtain ⟨z2, H2⟩ : ∃ z, Hid (pk (Int.tdiv a 7) 3 = z) := ⟨_, Lib.hid rfl⟩
  obtain ⟨z3, H3⟩ : ∃ z, Hid (pk b 9 = z) := ⟨_, Lib.hid rfl⟩
  obtain ⟨z4, H4⟩ : ∃ z, Hid (pk (Int.tdiv b 9) 4 = z) := ⟨_, Lib.hid rfl⟩
  obtain ⟨z5, H5⟩ : ∃ z, Hid (pk c 14 = z) := ⟨_, Lib.hid rfl⟩
  obtain ⟨z6, H6⟩ : ∃ z, Hid (pk d 14 = z) := ⟨_, Lib.hid rfl⟩
  obtain ⟨z7, H7⟩ : ∃ z, Hid (pk e 3 = z) := ⟨_, Lib.hid rfl⟩
  obtain ⟨z8, H8⟩ : ∃ z, Hid (pk (Int.tdiv e 3) 3 = z) := ⟨_, Lib.hid rfl⟩
  obtain ⟨z9, H9⟩ : ∃ z, Hid (pk (Int.tdiv e 9) 3 = z) := ⟨_, Lib.hid rfl⟩
  simp only [H1.out, H2.out, H3.out, H4.out, H5.out, H6.out, H7.out, H8.out, H9.out] at P1 P2 P3 P4 P5 P6 P7 P8 P9 HQX
  rw [H1.out] at r1
  rw [H2.out] at r2
  rw [H3.out] at r3
  rw [H4.out] at r4
  rw [H5.out] at r5
  rw [H6.out] at r6
  rw [H7.out] at r7
  rw [H8.out] at r8
  rw [H9.out] at r9
  obtain ⟨kk, Hkk⟩ : ∃ k, Hid (1 + z1 = k) := ⟨_, Lib.hid rfl⟩
  have hw1 : wrap64 (1 + z1) = kk := by rw [← Hkk.out]; unfold wrap64; omega
  have hk17 : 1 ≤ kk ∧ kk ≤ 7 := by rw [← Hkk.out]; omega
  simp only [Hkk.out] at HQX
  have hda7 := tdiv_i64 ha (show (2 : Int) ≤ 7 by omega)
  have hwa7 : wrap64 (Int.tdiv a 7) = Int.tdiv a 7 := by unfold I64 at hda7; unfold wrap64; omega
  have hdb9 := tdiv_i64 hb (show (2 : Int) ≤ 9 by omega)
  have hwb9 : wrap64 (Int.tdiv b 9) = Int.tdiv b 9 := by unfold I64 at hdb9; unfold wrap64; omega
  have hde3 := tdiv_i64 he (show (2 : Int) ≤ 3 by omega)
  have hwe3 : wrap64 (Int.tdiv e 3) = Int.tdiv e 3 := by unfold I64 at hde3; unfold wrap64; omega
  have hde9 := tdiv_i64 he (show (2 : Int) ≤ 9 by omega)
  have hwe9 : wrap64 (Int.tdiv e 9) = Int.tdiv e 9 := by unfold I64 at hde9; unfold wrap64; omega
  have hw_b1 : wrap64 (1 + z3) = 1 + z3 := by unfold wrap64; omega
  have hw_l : wrap64 (z5 - 2) = z5 - 2 := by unfold wrap64; omega
  have hw_h : wrap64 (z5 - 2 + z6) = z5 - 2 + z6 := by unfold wrap64; omega
  have hw_l3 : wrap64 ((z5 - 2) * 3) = (z5 - 2) * 3 := by unfold wrap64; omega
  have hw_l4 : wrap64 ((z5 - 2) * 3 - 20) = (z5 - 2) * 3 - 20 := by unfold wrap64; omega
  have hw_h3 : wrap64 ((z5 - 2 + z6) * 3) = (z5 - 2 + z6) * 3 := by unfold wrap64; omega
  have hw_h4 : wrap64 ((z5 - 2 + z6) * 3 - 20) = (z5 - 2 + z6) * 3 - 20 := by unfold wrap64; omega
  have hw_y : wrap64 (1 + z7) = 1 + z7 := by unfold wrap64; omega
  clear ha hb hc hd he r1 r2 r3 r4 r5 r6 r7 r8 r9 H1 H2 H3 H4 H5 H6 H7 H8 H9 hda7 hdb9 hde3 hde9
  go_enter Tryz.func12, Tryz.ntmps12
  go_upto_region 1 with fail
  generalize hwb : (W.alloc (.cells #[.int .i64 a, .int .i64 b, .int .i64 c, .int .i64 d, .int .i64 e] 23)).alloc (.cells #[.int .i64 0, .int .i64 0, .int .i64 0, .int .i64 0, .int .i64 0, .int .i64 0, .int .i64 0] 28) = wb
  have HBb : Hid (Below W.heap.size W wb) := Lib.hid (by rw [← hwb]; exact bt (ba W _) (ba _ _))
  have HX : Hid (wb.heap[W.heap.size]? = some (.cells #[.int .i64 a, .int .i64 b, .int .i64 c, .int .i64 d, .int .i64 e] 23 (0, 0))) := Lib.hid (by
    rw [← hwb]
    exact ((ba (W.alloc _) _).block _ (by simp)).trans (heap_alloc_new W _))
  have HY : Hid (wb.heap[W.heap.size + 1]? = some (.cells (qC ⟨0, 0, 0, 0, 0, 0, 0⟩) 28 (0, 0))) := Lib.hid (by
    rw [← hwb]
    have h := heap_alloc_new (W.alloc (.cells #[.int .i64 a, .int .i64 b, .int .i64 c, .int .i64 d, .int .i64 e] 23)) (.cells #[.int .i64 0, .int .i64 0, .int .i64 0, .int .i64 0, .int .i64 0, .int .i64 0, .int .i64 0] 28)
    simpa using h)
  clear hwb
  have g0 : ∀ w0, BW wb w0 → ∀ d' os, (grow (redrawn w0 d') os).cell? ⟨W.heap.size, 0, none⟩ = some (.int .i64 a) := fun w0 h d' os => by
    have e := ((show Below wb.heap.size wb (grow (redrawn w0 d') os) from bt h (below_regrown w0 d' os)).block _ (lt_of_block HX.out)).trans HX.out
    simp [World.cell?, e]
  refine wp_region_calm1 10 99 9 [0, 1, 2, 3, 4, 5, 6, 7, 8] (obj := .cells #[.int .i64 0, .int .i64 0, .int .i64 0, .int .i64 0, .int .i64 0, .int .i64 0, .int .i64 0] 28 (0, 0)) (by kernel_rfl) (by kernel_rfl) (by intro oz h; simp at h) (by intro oz h; simp at h) (by rfl) (by rfl) (fun a w => by kernel_rfl) ?_
  simp only [List.take_succ_cons, List.take_zero, List.eraseIdx_cons_succ, List.eraseIdx_cons_zero]
  iterate 2
    apply wpCalm_want
    · rfl
    · exact bc_refl
    · exact ⟨_, Below.refl _ _⟩
    · intro w00 hC0 K hK
      go_big_quiet_op
      exact hK
  apply wpCalm_want
  · rfl
  · exact bc_refl
  · exact ⟨_, Below.refl _ _⟩
  · intro w00 hC0 K hK
    go_big_quiet_op
    apply Exists.intro
    refine ⟨fun p => ?_, ?_⟩
    · exact Calls.regrown_of (P1.out _)
    · exact hK
  iterate 4
    apply wpCalm_want
    · rfl
    · exact bc_refl
    · exact ⟨_, Below.refl _ _⟩
    · intro w00 hC0 K hK
      go_big_quiet_op
      exact hK
  apply wpCalm_want
  · rfl
  · exact bc_refl
  · exact ⟨_, Below.refl _ _⟩
  · intro w00 hC0 K hK
    go_big_quiet_op
    apply Exists.intro
    refine ⟨fun p => ?_, ?_⟩
    · exact Calls.regrown_of (P2.out _)
    · exact hK
  apply wpCalm_want
  · rfl
  · exact bc_refl
  · exact ⟨_, Below.refl _ _⟩
  · intro w00 hC0 K hK
    go_big_quiet_op
    exact hK
  refine wpCalm_nil ?_
  intro yb wc hbc hyb hblk
  try simp only [List.drop_succ_cons, List.drop_zero]
  try go_frame
  refine wpList_store_row rfl 28 _ _ rfl yb #[.int .i64 kk, .int .i64 z2, .int .i64 0, .int .i64 0, .int .i64 0, .int .i64 0, .int .i64 0] rfl rfl 28 _ hblk (by kernel_rfl) rfl (by simp [Value.oneCell']) ?_
  try go_frame
  have HS0 : Hid (QF5 W (wc.setRow yb #[.int .i64 kk, .int .i64 z2, .int .i64 0, .int .i64 0, .int .i64 0, .int .i64 0, .int .i64 0]) yb ⟨a, b, c, d, e⟩ ⟨kk, z2, 0, 0, 0, 0, 0⟩) := Lib.hid (by
    have hz1 := lt_of_block HY.out
    have hb1 : Below wb.heap.size wb (wc.setRow yb #[.int .i64 kk, .int .i64 z2, .int .i64 0, .int .i64 0, .int .i64 0, .int .i64 0, .int .i64 0]) := below_row hbc hyb _
    exact ⟨bt HBb.out hb1, (hb1.block _ (by omega)).trans HX.out, (hb1.block _ hz1).trans HY.out, setRow_heap _ _ _ _ _ _ hblk, by omega⟩)
  generalize wc.setRow yb #[.int .i64 kk, .int .i64 z2, .int .i64 0, .int .i64 0, .int .i64 0, .int .i64 0, .int .i64 0] = v0 at HS0 ⊢
  clear g0 hbc hyb hblk HX HY HBb hw1 hwa7 P1 P2
  by_cases h1 : kk = 1
  · have hk : kk = 1 := h1
    have HE : Hid (hQ = ⟨1, z2, 0, 1 + z3, 1 + z3, 0, 0⟩) := Lib.hid (by rw [← HQX.out, if_pos hk])
    subst hk
    obtain ⟨y0, y1, y2, y3, y4⟩ := HS0.out.args
    obtain ⟨q0, q1, q2, q3, q4, q5, q6⟩ := qAt_of HS0.out.var
    have fz := HS0.out.frz
    simp only at y0 y1 y2 y3 y4 q0 q1 q2 q3 q4 q5 q6
    go_upto_region 3 with fail
    clear y0 y1 y2 y3 y4 q0 q1 q2 q3 q4 q5 q6 fz
    obtain ⟨y0, y1, y2, y3, y4⟩ := HS0.out.args
    obtain ⟨q0, q1, q2, q3, q4, q5, q6⟩ := qAt_of HS0.out.var
    have fz := HS0.out.frz
    simp only at y0 y1 y2 y3 y4 q0 q1 q2 q3 q4 q5 q6
    go_wp2_with fail
    (with_reducible refine (P3.out _).mono ?_)
    rintro e wx ⟨rfl, rfl⟩
    go_upto_region 4 with fail
    have HS1 := Lib.hid (HS0.out.set (j := 3) (u := .int .i64 (1 + z3)) (q' := ⟨1, z2, 0, 1 + z3, 0, 0, 0⟩) rfl)
    generalize v0.setCell ⟨yb, 3, none⟩ (.int .i64 (1 + z3)) = v1 at HS1 ⊢
    clear y0 y1 y2 y3 y4 q0 q1 q2 q3 q4 q5 q6 fz
    obtain ⟨y0, y1, y2, y3, y4⟩ := HS1.out.args
    obtain ⟨q0, q1, q2, q3, q4, q5, q6⟩ := qAt_of HS1.out.var
    have fz := HS1.out.frz
    simp only at y0 y1 y2 y3 y4 q0 q1 q2 q3 q4 q5 q6
    go_upto_region 5 with fail
    have HS2 := Lib.hid (HS1.out.set (j := 4) (u := .int .i64 (1 + z3)) (q' := ⟨1, z2, 0, 1 + z3, 1 + z3, 0, 0⟩) rfl)
    generalize v1.setCell ⟨yb, 4, none⟩ (.int .i64 (1 + z3)) = v2 at HS2 ⊢
    clear y0 y1 y2 y3 y4 q0 q1 q2 q3 q4 q5 q6 fz
    clear hw_b1 hw_l hw_h hw_l3 hw_l4 hw_h3 hw_h4 hw_y hwb9 hwe3 hwe9 hk17
    go_wp2_with (first | (refine wpList_load_row rfl 28 _ rfl yb rfl 28 _ _ _ HS2.out.var Tryz.underlying28 rfl (by kernel_rfl) ?_) | (refine wpList_store_row rfl 28 _ _ rfl (W.heap.size + 1) _ rfl rfl 28 _ HS2.out.res (by kernel_rfl) rfl (by simp [Value.oneCell']) ?_))
    refine bodyPost_ret (v := qV ⟨1, z2, 0, 1 + z3, 1 + z3, 0, 0⟩) (results_cell_row rfl _ _ (W.heap.size + 1) 28 _ (0, 0) _ rfl (setRow_heap _ _ _ _ _ _ HS2.out.res) Tryz.underlying28 rfl (by kernel_rfl)) rfl ⟨?_, below_row HS2.out.old hWn _⟩
    rw [HE.out]
  · have hne : (kk == 1) = false := by simp [h1]
    simp only [if_neg h1] at HQX
    clear h1
    obtain ⟨y0, y1, y2, y3, y4⟩ := HS0.out.args
    obtain ⟨q0, q1, q2, q3, q4, q5, q6⟩ := qAt_of HS0.out.var
    have fz := HS0.out.frz
    simp only at y0 y1 y2 y3 y4 q0 q1 q2 q3 q4 q5 q6
    go_upto_region 6 with fail
    clear y0 y1 y2 y3 y4 q0 q1 q2 q3 q4 q5 q6 fz
    obtain ⟨y0, y1, y2, y3, y4⟩ := HS0.out.args
    obtain ⟨q0, q1, q2, q3, q4, q5, q6⟩ := qAt_of HS0.out.var
    have fz := HS0.out.frz
    simp only at y0 y1 y2 y3 y4 q0 q1 q2 q3 q4 q5 q6
    go_wp2_with fail
    (with_reducible refine (P4.out _).mono ?_)
    rintro e wx ⟨rfl, rfl⟩
    go_upto_region 7 with fail
    have HS1 := Lib.hid (HS0.out.set (j := 2) (u := .int .i64 (z4)) (q' := ⟨kk, z2, z4, 0, 0, 0, 0⟩) rfl)
    generalize v0.setCell ⟨yb, 2, none⟩ (.int .i64 (z4)) = v1 at HS1 ⊢
    clear y0 y1 y2 y3 y4 q0 q1 q2 q3 q4 q5 q6 fz
    obtain ⟨y0, y1, y2, y3, y4⟩ := HS1.out.args
    obtain ⟨q0, q1, q2, q3, q4, q5, q6⟩ := qAt_of HS1.out.var
    have fz := HS1.out.frz
    simp only at y0 y1 y2 y3 y4 q0 q1 q2 q3 q4 q5 q6
    go_wp2_with fail
    (with_reducible refine (P5.out _).mono ?_)
    rintro e wx ⟨rfl, rfl⟩
    go_upto_region 8 with fail
    have HS2 := Lib.hid (HS1.out.set (j := 3) (u := .int .i64 (z5 - 2)) (q' := ⟨kk, z2, z4, z5 - 2, 0, 0, 0⟩) rfl)
    generalize v1.setCell ⟨yb, 3, none⟩ (.int .i64 (z5 - 2)) = v2 at HS2 ⊢
    clear y0 y1 y2 y3 y4 q0 q1 q2 q3 q4 q5 q6 fz
    have g3 : ∀ w0, BW v2 w0 → ∀ d' os, (grow (redrawn w0 d') os).cell? ⟨W.heap.size, 3, none⟩ = some (.int .i64 d) := fun w0 h d' os => (HS2.out.below (bt h (below_regrown w0 d' os))).args.2.2.2.1
    have gl : ∀ w0, BW v2 w0 → ∀ d' os, (grow (redrawn w0 d') os).cell? ⟨yb, 3, none⟩ = some (.int .i64 (z5 - 2)) := fun w0 h d' os => (qAt_of (HS2.out.below (bt h (below_regrown w0 d' os))).var).c3
    refine wp_region_calm 7 99 [0, 1, 2, 3, 4, 5, 6] (by kernel_rfl) (by kernel_rfl) (by intro oz h; simp at h) (by intro oz h; simp at h) (by rfl) ?_
    simp only [List.take_succ_cons, List.take_zero]
    iterate 4
      apply wpCalm_want
      · rfl
      · exact bc_refl
      · exact ⟨_, Below.refl _ _⟩
      · intro w00 hC0 K hK
        go_big_quiet_op
        exact hK
    apply wpCalm_want
    · rfl
    · exact bc_refl
    · exact ⟨_, Below.refl _ _⟩
    · intro w00 hC0 K hK
      go_big_quiet_op
      apply Exists.intro
      refine ⟨fun p => ?_, ?_⟩
      · exact Calls.regrown_of (P6.out _)
      · exact hK
    iterate 2
      apply wpCalm_want
      · rfl
      · exact bc_refl
      · exact ⟨_, Below.refl _ _⟩
      · intro w00 hC0 K hK
        go_big_quiet_op
        exact hK
    refine wpCalm_nil ?_
    intro v3 hbq
    try simp only [List.drop_succ_cons, List.drop_zero]
    have HS3 := Lib.hid (HS2.out.below hbq)
    clear g3 gl hbq
    obtain ⟨y0, y1, y2, y3, y4⟩ := HS3.out.args
    obtain ⟨q0, q1, q2, q3, q4, q5, q6⟩ := qAt_of HS3.out.var
    have fz := HS3.out.frz
    simp only at y0 y1 y2 y3 y4 q0 q1 q2 q3 q4 q5 q6
    go_upto_region 9 with fail
    have HS4 := Lib.hid (HS3.out.set (j := 4) (u := .int .i64 (z5 - 2 + z6)) (q' := ⟨kk, z2, z4, z5 - 2, z5 - 2 + z6, 0, 0⟩) rfl)
    generalize v3.setCell ⟨yb, 4, none⟩ (.int .i64 (z5 - 2 + z6)) = v4 at HS4 ⊢
    clear y0 y1 y2 y3 y4 q0 q1 q2 q3 q4 q5 q6 fz
    by_cases h3 : z4 = 3
    · have h3' : (z4 == 3) = true := by simp [h3]
      simp only [if_pos h3] at HQX
      clear h3
      obtain ⟨y0, y1, y2, y3, y4⟩ := HS4.out.args
      obtain ⟨q0, q1, q2, q3, q4, q5, q6⟩ := qAt_of HS4.out.var
      have fz := HS4.out.frz
      simp only at y0 y1 y2 y3 y4 q0 q1 q2 q3 q4 q5 q6
      go_upto_region 10 with fail
      clear y0 y1 y2 y3 y4 q0 q1 q2 q3 q4 q5 q6 fz
      obtain ⟨y0, y1, y2, y3, y4⟩ := HS4.out.args
      obtain ⟨q0, q1, q2, q3, q4, q5, q6⟩ := qAt_of HS4.out.var
      have fz := HS4.out.frz
      simp only at y0 y1 y2 y3 y4 q0 q1 q2 q3 q4 q5 q6
      go_upto_region 11 with fail
      have HS5 := Lib.hid (HS4.out.set (j := 3) (u := .int .i64 ((z5 - 2) * 3 - 20)) (q' := ⟨kk, z2, z4, (z5 - 2) * 3 - 20, z5 - 2 + z6, 0, 0⟩) rfl)
      generalize v4.setCell ⟨yb, 3, none⟩ (.int .i64 ((z5 - 2) * 3 - 20)) = v5 at HS5 ⊢
      clear y0 y1 y2 y3 y4 q0 q1 q2 q3 q4 q5 q6 fz
      obtain ⟨y0, y1, y2, y3, y4⟩ := HS5.out.args
      obtain ⟨q0, q1, q2, q3, q4, q5, q6⟩ := qAt_of HS5.out.var
      have fz := HS5.out.frz
      simp only at y0 y1 y2 y3 y4 q0 q1 q2 q3 q4 q5 q6
      go_upto_region 12 with fail
      have HS6 := Lib.hid (HS5.out.set (j := 4) (u := .int .i64 ((z5 - 2 + z6) * 3 - 20)) (q' := ⟨kk, z2, z4, (z5 - 2) * 3 - 20, (z5 - 2 + z6) * 3 - 20, 0, 0⟩) rfl)
      generalize v5.setCell ⟨yb, 4, none⟩ (.int .i64 ((z5 - 2 + z6) * 3 - 20)) = v6 at HS6 ⊢
      clear y0 y1 y2 y3 y4 q0 q1 q2 q3 q4 q5 q6 fz
      by_cases h4 : 4 ≤ kk
      · obtain ⟨y0, y1, y2, y3, y4⟩ := HS6.out.args
        obtain ⟨q0, q1, q2, q3, q4, q5, q6⟩ := qAt_of HS6.out.var
        have fz := HS6.out.frz
        simp only at y0 y1 y2 y3 y4 q0 q1 q2 q3 q4 q5 q6
        go_upto_region 13 with fail
        clear y0 y1 y2 y3 y4 q0 q1 q2 q3 q4 q5 q6 fz
        obtain ⟨y0, y1, y2, y3, y4⟩ := HS6.out.args
        obtain ⟨q0, q1, q2, q3, q4, q5, q6⟩ := qAt_of HS6.out.var
        have fz := HS6.out.frz
        simp only at y0 y1 y2 y3 y4 q0 q1 q2 q3 q4 q5 q6
        go_wp2_with fail
        (with_reducible refine (P7.out _).mono ?_)
        rintro e wx ⟨rfl, rfl⟩
        go_upto_region 14 with fail
        have HS7 := Lib.hid (HS6.out.set (j := 5) (u := .int .i64 (1 + z7)) (q' := ⟨kk, z2, z4, (z5 - 2) * 3 - 20, (z5 - 2 + z6) * 3 - 20, 1 + z7, 0⟩) rfl)
        generalize v6.setCell ⟨yb, 5, none⟩ (.int .i64 (1 + z7)) = v7 at HS7 ⊢
        clear y0 y1 y2 y3 y4 q0 q1 q2 q3 q4 q5 q6 fz
        by_cases h7 : kk = 7
        · have h7' : (kk == 7) = true := by simp [h7]
          obtain ⟨y0, y1, y2, y3, y4⟩ := HS7.out.args
          obtain ⟨q0, q1, q2, q3, q4, q5, q6⟩ := qAt_of HS7.out.var
          have fz := HS7.out.frz
          simp only at y0 y1 y2 y3 y4 q0 q1 q2 q3 q4 q5 q6
          go_upto_region 15 with fail
          clear y0 y1 y2 y3 y4 q0 q1 q2 q3 q4 q5 q6 fz
          obtain ⟨y0, y1, y2, y3, y4⟩ := HS7.out.args
          obtain ⟨q0, q1, q2, q3, q4, q5, q6⟩ := qAt_of HS7.out.var
          have fz := HS7.out.frz
          simp only at y0 y1 y2 y3 y4 q0 q1 q2 q3 q4 q5 q6
          go_wp2_with fail
          (with_reducible refine (P8.out _).mono ?_)
          rintro e wx ⟨rfl, rfl⟩
          go_upto_region 16 with fail
          have HS8 := Lib.hid (HS7.out.set (j := 6) (u := .int .i64 (z8)) (q' := ⟨kk, z2, z4, (z5 - 2) * 3 - 20, (z5 - 2 + z6) * 3 - 20, 1 + z7, z8⟩) rfl)
          generalize v7.setCell ⟨yb, 6, none⟩ (.int .i64 (z8)) = v8 at HS8 ⊢
          clear y0 y1 y2 y3 y4 q0 q1 q2 q3 q4 q5 q6 fz
          obtain ⟨y0, y1, y2, y3, y4⟩ := HS8.out.args
          obtain ⟨q0, q1, q2, q3, q4, q5, q6⟩ := qAt_of HS8.out.var
          have fz := HS8.out.frz
          simp only at y0 y1 y2 y3 y4 q0 q1 q2 q3 q4 q5 q6
          go_wp2_with fail
          (with_reducible refine (P9.out _).mono ?_)
          rintro e wx ⟨rfl, rfl⟩
          by_cases h9 : 0 < z9
          · have HE : Hid (hQ = ⟨kk, z2, z4, (z5 - 2) * 3 - 20, (z5 - 2 + z6) * 3 - 20, 2, z8⟩) := Lib.hid (by rw [← HQX.out, if_pos ⟨h7, h9⟩, if_pos h7])
            clear h7
            go_upto_region 18 with fail
            have HS9 := Lib.hid (HS8.out.set (j := 5) (u := .int .i64 (2)) (q' := ⟨kk, z2, z4, (z5 - 2) * 3 - 20, (z5 - 2 + z6) * 3 - 20, 2, z8⟩) rfl)
            generalize v8.setCell ⟨yb, 5, none⟩ (.int .i64 (2)) = v9 at HS9 ⊢
            clear y0 y1 y2 y3 y4 q0 q1 q2 q3 q4 q5 q6 fz
            clear hw_b1 hw_l hw_h hw_l3 hw_l4 hw_h3 hw_h4 hw_y hwb9 hwe3 hwe9 hk17
            go_wp2_with (first | (refine wpList_load_row rfl 28 _ rfl yb rfl 28 _ _ _ HS9.out.var Tryz.underlying28 rfl (by kernel_rfl) ?_) | (refine wpList_store_row rfl 28 _ _ rfl (W.heap.size + 1) _ rfl rfl 28 _ HS9.out.res (by kernel_rfl) rfl (by simp [Value.oneCell']) ?_))
            refine bodyPost_ret (v := qV ⟨kk, z2, z4, (z5 - 2) * 3 - 20, (z5 - 2 + z6) * 3 - 20, 2, z8⟩) (results_cell_row rfl _ _ (W.heap.size + 1) 28 _ (0, 0) _ rfl (setRow_heap _ _ _ _ _ _ HS9.out.res) Tryz.underlying28 rfl (by kernel_rfl)) rfl ⟨?_, below_row HS9.out.old hWn _⟩
            rw [HE.out]
          · have HE : Hid (hQ = ⟨kk, z2, z4, (z5 - 2) * 3 - 20, (z5 - 2 + z6) * 3 - 20, 1 + z7, z8⟩) := Lib.hid (by rw [← HQX.out, if_neg (fun h => h9 h.2), if_pos h4, if_pos h7])
            clear h7
            go_upto_region 18 with fail
            clear y0 y1 y2 y3 y4 q0 q1 q2 q3 q4 q5 q6 fz
            clear hw_b1 hw_l hw_h hw_l3 hw_l4 hw_h3 hw_h4 hw_y hwb9 hwe3 hwe9 hk17
            go_wp2_with (first | (refine wpList_load_row rfl 28 _ rfl yb rfl 28 _ _ _ HS8.out.var Tryz.underlying28 rfl (by kernel_rfl) ?_) | (refine wpList_store_row rfl 28 _ _ rfl (W.heap.size + 1) _ rfl rfl 28 _ HS8.out.res (by kernel_rfl) rfl (by simp [Value.oneCell']) ?_))
            refine bodyPost_ret (v := qV ⟨kk, z2, z4, (z5 - 2) * 3 - 20, (z5 - 2 + z6) * 3 - 20, 1 + z7, z8⟩) (results_cell_row rfl _ _ (W.heap.size + 1) 28 _ (0, 0) _ rfl (setRow_heap _ _ _ _ _ _ HS8.out.res) Tryz.underlying28 rfl (by kernel_rfl)) rfl ⟨?_, below_row HS8.out.old hWn _⟩
            rw [HE.out]
        · have HE : Hid (hQ = ⟨kk, z2, z4, (z5 - 2) * 3 - 20, (z5 - 2 + z6) * 3 - 20, 1 + z7, 0⟩) := Lib.hid (by rw [← HQX.out, if_neg (by omega), if_pos h4, if_neg h7])
          have h7' : (kk == 7) = false := by simp [h7]
          clear hw_b1 hw_l hw_h hw_l3 hw_l4 hw_h3 hw_h4 hw_y hwb9 hwe3 hwe9 hk17 h4 h7
          obtain ⟨y0, y1, y2, y3, y4⟩ := HS7.out.args
          obtain ⟨q0, q1, q2, q3, q4, q5, q6⟩ := qAt_of HS7.out.var
          have fz := HS7.out.frz
          simp only at y0 y1 y2 y3 y4 q0 q1 q2 q3 q4 q5 q6
          go_upto_region 18 with fail
          clear y0 y1 y2 y3 y4 q0 q1 q2 q3 q4 q5 q6 fz
          go_wp2_with (first | (refine wpList_load_row rfl 28 _ rfl yb rfl 28 _ _ _ HS7.out.var Tryz.underlying28 rfl (by kernel_rfl) ?_) | (refine wpList_store_row rfl 28 _ _ rfl (W.heap.size + 1) _ rfl rfl 28 _ HS7.out.res (by kernel_rfl) rfl (by simp [Value.oneCell']) ?_))
          refine bodyPost_ret (v := qV ⟨kk, z2, z4, (z5 - 2) * 3 - 20, (z5 - 2 + z6) * 3 - 20, 1 + z7, 0⟩) (results_cell_row rfl _ _ (W.heap.size + 1) 28 _ (0, 0) _ rfl (setRow_heap _ _ _ _ _ _ HS7.out.res) Tryz.underlying28 rfl (by kernel_rfl)) rfl ⟨?_, below_row HS7.out.old hWn _⟩
          rw [HE.out]
      · have HE : Hid (hQ = ⟨kk, z2, z4, (z5 - 2) * 3 - 20, (z5 - 2 + z6) * 3 - 20, 0, 0⟩) := Lib.hid (by rw [← HQX.out, if_neg (by omega), if_neg h4, if_neg (by omega)])
        have h7 : (kk == 7) = false := by simp; omega
        clear hw_b1 hw_l hw_h hw_l3 hw_l4 hw_h3 hw_h4 hw_y hwb9 hwe3 hwe9 hk17
        obtain ⟨y0, y1, y2, y3, y4⟩ := HS6.out.args
        obtain ⟨q0, q1, q2, q3, q4, q5, q6⟩ := qAt_of HS6.out.var
        have fz := HS6.out.frz
        simp only at y0 y1 y2 y3 y4 q0 q1 q2 q3 q4 q5 q6
        go_upto_region 18 with fail
        clear y0 y1 y2 y3 y4 q0 q1 q2 q3 q4 q5 q6 fz
        go_wp2_with (first | (refine wpList_load_row rfl 28 _ rfl yb rfl 28 _ _ _ HS6.out.var Tryz.underlying28 rfl (by kernel_rfl) ?_) | (refine wpList_store_row rfl 28 _ _ rfl (W.heap.size + 1) _ rfl rfl 28 _ HS6.out.res (by kernel_rfl) rfl (by simp [Value.oneCell']) ?_))
        refine bodyPost_ret (v := qV ⟨kk, z2, z4, (z5 - 2) * 3 - 20, (z5 - 2 + z6) * 3 - 20, 0, 0⟩) (results_cell_row rfl _ _ (W.heap.size + 1) 28 _ (0, 0) _ rfl (setRow_heap _ _ _ _ _ _ HS6.out.res) Tryz.underlying28 rfl (by kernel_rfl)) rfl ⟨?_, below_row HS6.out.old hWn _⟩
        rw [HE.out]
    · have h3' : (z4 == 3) = false := by simp [h3]
      simp only [if_neg h3] at HQX
      clear h3
      obtain ⟨y0, y1, y2, y3, y4⟩ := HS4.out.args
      obtain ⟨q0, q1, q2, q3, q4, q5, q6⟩ := qAt_of HS4.out.var
      have fz := HS4.out.frz
      simp only at y0 y1 y2 y3 y4 q0 q1 q2 q3 q4 q5 q6
      go_upto_region 12 with fail
      clear y0 y1 y2 y3 y4 q0 q1 q2 q3 q4 q5 q6 fz
      by_cases h4 : 4 ≤ kk
      · obtain ⟨y0, y1, y2, y3, y4⟩ := HS4.out.args
        obtain ⟨q0, q1, q2, q3, q4, q5, q6⟩ := qAt_of HS4.out.var
        have fz := HS4.out.frz
        simp only at y0 y1 y2 y3 y4 q0 q1 q2 q3 q4 q5 q6
        go_upto_region 13 with fail
        clear y0 y1 y2 y3 y4 q0 q1 q2 q3 q4 q5 q6 fz
        obtain ⟨y0, y1, y2, y3, y4⟩ := HS4.out.args
        obtain ⟨q0, q1, q2, q3, q4, q5, q6⟩ := qAt_of HS4.out.var
        have fz := HS4.out.frz
        simp only at y0 y1 y2 y3 y4 q0 q1 q2 q3 q4 q5 q6
        go_wp2_with fail
        (with_reducible refine (P7.out _).mono ?_)
        rintro e wx ⟨rfl, rfl⟩
        go_upto_region 14 with fail
        have HS5 := Lib.hid (HS4.out.set (j := 5) (u := .int .i64 (1 + z7)) (q' := ⟨kk, z2, z4, z5 - 2, z5 - 2 + z6, 1 + z7, 0⟩) rfl)
        generalize v4.setCell ⟨yb, 5, none⟩ (.int .i64 (1 + z7)) = v5 at HS5 ⊢
        clear y0 y1 y2 y3 y4 q0 q1 q2 q3 q4 q5 q6 fz
        by_cases h7 : kk = 7
        · have h7' : (kk == 7) = true := by simp [h7]
          obtain ⟨y0, y1, y2, y3, y4⟩ := HS5.out.args
          obtain ⟨q0, q1, q2, q3, q4, q5, q6⟩ := qAt_of HS5.out.var
          have fz := HS5.out.frz
          simp only at y0 y1 y2 y3 y4 q0 q1 q2 q3 q4 q5 q6
          go_upto_region 15 with fail
          clear y0 y1 y2 y3 y4 q0 q1 q2 q3 q4 q5 q6 fz
          obtain ⟨y0, y1, y2, y3, y4⟩ := HS5.out.args
          obtain ⟨q0, q1, q2, q3, q4, q5, q6⟩ := qAt_of HS5.out.var
          have fz := HS5.out.frz
          simp only at y0 y1 y2 y3 y4 q0 q1 q2 q3 q4 q5 q6
          go_wp2_with fail
          (with_reducible refine (P8.out _).mono ?_)
          rintro e wx ⟨rfl, rfl⟩
          go_upto_region 16 with fail
          have HS6 := Lib.hid (HS5.out.set (j := 6) (u := .int .i64 (z8)) (q' := ⟨kk, z2, z4, z5 - 2, z5 - 2 + z6, 1 + z7, z8⟩) rfl)
          generalize v5.setCell ⟨yb, 6, none⟩ (.int .i64 (z8)) = v6 at HS6 ⊢
          clear y0 y1 y2 y3 y4 q0 q1 q2 q3 q4 q5 q6 fz
          obtain ⟨y0, y1, y2, y3, y4⟩ := HS6.out.args
          obtain ⟨q0, q1, q2, q3, q4, q5, q6⟩ := qAt_of HS6.out.var
          have fz := HS6.out.frz
          simp only at y0 y1 y2 y3 y4 q0 q1 q2 q3 q4 q5 q6
          go_wp2_with fail
          (with_reducible refine (P9.out _).mono ?_)
          rintro e wx ⟨rfl, rfl⟩
          by_cases h9 : 0 < z9
          · have HE : Hid (hQ = ⟨kk, z2, z4, z5 - 2, z5 - 2 + z6, 2, z8⟩) := Lib.hid (by rw [← HQX.out, if_pos ⟨h7, h9⟩, if_pos h7])
            clear h7
            go_upto_region 18 with fail
            have HS7 := Lib.hid (HS6.out.set (j := 5) (u := .int .i64 (2)) (q' := ⟨kk, z2, z4, z5 - 2, z5 - 2 + z6, 2, z8⟩) rfl)
            generalize v6.setCell ⟨yb, 5, none⟩ (.int .i64 (2)) = v7 at HS7 ⊢
            clear y0 y1 y2 y3 y4 q0 q1 q2 q3 q4 q5 q6 fz
            clear hw_b1 hw_l hw_h hw_l3 hw_l4 hw_h3 hw_h4 hw_y hwb9 hwe3 hwe9 hk17
            go_wp2_with (first | (refine wpList_load_row rfl 28 _ rfl yb rfl 28 _ _ _ HS7.out.var Tryz.underlying28 rfl (by kernel_rfl) ?_) | (refine wpList_store_row rfl 28 _ _ rfl (W.heap.size + 1) _ rfl rfl 28 _ HS7.out.res (by kernel_rfl) rfl (by simp [Value.oneCell']) ?_))
            refine bodyPost_ret (v := qV ⟨kk, z2, z4, z5 - 2, z5 - 2 + z6, 2, z8⟩) (results_cell_row rfl _ _ (W.heap.size + 1) 28 _ (0, 0) _ rfl (setRow_heap _ _ _ _ _ _ HS7.out.res) Tryz.underlying28 rfl (by kernel_rfl)) rfl ⟨?_, below_row HS7.out.old hWn _⟩
            rw [HE.out]
          · have HE : Hid (hQ = ⟨kk, z2, z4, z5 - 2, z5 - 2 + z6, 1 + z7, z8⟩) := Lib.hid (by rw [← HQX.out, if_neg (fun h => h9 h.2), if_pos h4, if_pos h7])
            clear h7
            go_upto_region 18 with fail
            clear y0 y1 y2 y3 y4 q0 q1 q2 q3 q4 q5 q6 fz
            clear hw_b1 hw_l hw_h hw_l3 hw_l4 hw_h3 hw_h4 hw_y hwb9 hwe3 hwe9 hk17
            go_wp2_with (first | (refine wpList_load_row rfl 28 _ rfl yb rfl 28 _ _ _ HS6.out.var Tryz.underlying28 rfl (by kernel_rfl) ?_) | (refine wpList_store_row rfl 28 _ _ rfl (W.heap.size + 1) _ rfl rfl 28 _ HS6.out.res (by kernel_rfl) rfl (by simp [Value.oneCell']) ?_))
            refine bodyPost_ret (v := qV ⟨kk, z2, z4, z5 - 2, z5 - 2 + z6, 1 + z7, z8⟩) (results_cell_row rfl _ _ (W.heap.size + 1) 28 _ (0, 0) _ rfl (setRow_heap _ _ _ _ _ _ HS6.out.res) Tryz.underlying28 rfl (by kernel_rfl)) rfl ⟨?_, below_row HS6.out.old hWn _⟩
            rw [HE.out]
        · have HE : Hid (hQ = ⟨kk, z2, z4, z5 - 2, z5 - 2 + z6, 1 + z7, 0⟩) := Lib.hid (by rw [← HQX.out, if_neg (by omega), if_pos h4, if_neg h7])
          have h7' : (kk == 7) = false := by simp [h7]
          clear hw_b1 hw_l hw_h hw_l3 hw_l4 hw_h3 hw_h4 hw_y hwb9 hwe3 hwe9 hk17 h4 h7
          obtain ⟨y0, y1, y2, y3, y4⟩ := HS5.out.args
          obtain ⟨q0, q1, q2, q3, q4, q5, q6⟩ := qAt_of HS5.out.var
          have fz := HS5.out.frz
          simp only at y0 y1 y2 y3 y4 q0 q1 q2 q3 q4 q5 q6
          go_upto_region 18 with fail
          clear y0 y1 y2 y3 y4 q0 q1 q2 q3 q4 q5 q6 fz
          go_wp2_with (first | (refine wpList_load_row rfl 28 _ rfl yb rfl 28 _ _ _ HS5.out.var Tryz.underlying28 rfl (by kernel_rfl) ?_) | (refine wpList_store_row rfl 28 _ _ rfl (W.heap.size + 1) _ rfl rfl 28 _ HS5.out.res (by kernel_rfl) rfl (by simp [Value.oneCell']) ?_))
          refine bodyPost_ret (v := qV ⟨kk, z2, z4, z5 - 2, z5 - 2 + z6, 1 + z7, 0⟩) (results_cell_row rfl _ _ (W.heap.size + 1) 28 _ (0, 0) _ rfl (setRow_heap _ _ _ _ _ _ HS5.out.res) Tryz.underlying28 rfl (by kernel_rfl)) rfl ⟨?_, below_row HS5.out.old hWn _⟩
          rw [HE.out]
      · have HE : Hid (hQ = ⟨kk, z2, z4, z5 - 2, z5 - 2 + z6, 0, 0⟩) := Lib.hid (by rw [← HQX.out, if_neg (by omega), if_neg h4, if_neg (by omega)])
        have h7 : (kk == 7) = false := by simp; omega
        clear hw_b1 hw_l hw_h hw_l3 hw_l4 hw_h3 hw_h4 hw_y hwb9 hwe3 hwe9 hk17
        obtain ⟨y0, y1, y2, y3, y4⟩ := HS4.out.args
        obtain ⟨q0, q1, q2, q3, q4, q5, q6⟩ := qAt_of HS4.out.var
        have fz := HS4.out.frz
        simp only at y0 y1 y2 y3 y4 q0 q1 q2 q3 q4 q5 q6
        go_upto_region 18 with fail
        clear y0 y1 y2 y3 y4 q0 q1 q2 q3 q4 q5 q6 fz
        go_wp2_with (first | (refine wpList_load_row rfl 28 _ rfl yb rfl 28 _ _ _ HS4.out.var Tryz.underlying28 rfl (by kernel_rfl) ?_) | (refine wpList_store_row rfl 28 _ _ rfl (W.heap.size + 1) _ rfl rfl 28 _ HS4.out.res (by kernel_rfl) rfl (by simp [Value.oneCell']) ?_))
        refine bodyPost_ret (v := qV ⟨kk, z2, z4, z5 - 2, z5 - 2 + z6, 0, 0⟩) (results_cell_row rfl _ _ (W.heap.size + 1) 28 _ (0, 0) _ rfl (setRow_heap _ _ _ _ _ _ HS4.out.res) Tryz.underlying28 rfl (by kernel_rfl)) rfl ⟨?_, below_row HS4.out.old hWn _⟩
        rw [HE.out]
end Go.Proofs.YtgbnjjgnihjfgaaGreat
end

section
set_option linter.unusedVariables false
set_option linter.unusedSimpArgs false
namespace Go.Proofs.YtgbnjjgnihjfgaaGreat
open Go.RowKit Go.Sort Go.ChangeMaps Go.MapKept

set_option maxRecDepth 100000 in
set_option maxHeartbeats 4000000 in
theorem same7_any {W : World} {u v : Value} {M N : List MRow} {x y : Int} {f g : Bool} (h : RowS W u M) (h' : RowS W v N) : Calls Tryz.prog 17 #[.agg (resC u x f), .agg (resC v y g)] W fun e w' => e = .returned (.bool (decide (x = y) && (f == g) && decide (M = N))) ∧ Below W.heap.size W w' := by
  have hb0 : Below W.heap.size W ((W.alloc (.cells #[u, .int .i64 x, .bool f] 34)).alloc (.cells #[v, .int .i64 y, .bool g] 34)) := bt (ba W _) (ba _ _)
  have HS := Lib.hid (sameRows_any (h.below hb0) (h'.below hb0))
  have HB := Lib.hid hb0
  obtain ⟨ua, un, uc, rfl, -⟩ := id h
  obtain ⟨va, vn, vc, rfl, -⟩ := id h'
  obtain ⟨mn, HMN⟩ : ∃ b, Hid (decide (M = N) = b) := ⟨_, Lib.hid rfl⟩
  rw [HMN.out] at HS ⊢
  clear h h' hb0 HMN
  obtain ⟨rb, HRb⟩ : ∃ b, Hid ((decide (x = y) && (f == g) && mn) = b) := ⟨_, Lib.hid rfl⟩
  rw [HRb.out]
  go_enter Tryz.func17, Tryz.ntmps17
  go_upto_region 1 with fail
  have HX : Hid (((W.alloc (.cells #[.slice ua un uc, .int .i64 x, .bool f] 34)).alloc (.cells #[.slice va vn vc, .int .i64 y, .bool g] 34)).heap[W.heap.size]? = some (.cells #[.slice ua un uc, .int .i64 x, .bool f] 34 (0, 0))) := Lib.hid (((ba (W.alloc _) _).block _ (by simp)).trans (heap_alloc_new W _))
  have HY : Hid (((W.alloc (.cells #[.slice ua un uc, .int .i64 x, .bool f] 34)).alloc (.cells #[.slice va vn vc, .int .i64 y, .bool g] 34)).heap[W.heap.size + 1]? = some (.cells #[.slice va vn vc, .int .i64 y, .bool g] 34 (0, 0))) := Lib.hid (by
    have h := heap_alloc_new (W.alloc (.cells #[.slice ua un uc, .int .i64 x, .bool f] 34)) (.cells #[.slice va vn vc, .int .i64 y, .bool g] 34)
    rw [World.size_alloc] at h
    exact h)
  generalize (W.alloc (.cells #[.slice ua un uc, .int .i64 x, .bool f] 34)).alloc (.cells #[.slice va vn vc, .int .i64 y, .bool g] 34) = w0 at *
  have x0 : w0.cell? ⟨W.heap.size, 0, none⟩ = some (.slice ua un uc) := by simp [World.cell?, HX.out]
  have x1 : w0.cell? ⟨W.heap.size, 1, none⟩ = some (.int .i64 x) := by simp [World.cell?, HX.out]
  have x2 : w0.cell? ⟨W.heap.size, 2, none⟩ = some (.bool f) := by simp [World.cell?, HX.out]
  have y0 : w0.cell? ⟨W.heap.size + 1, 0, none⟩ = some (.slice va vn vc) := by simp [World.cell?, HY.out]
  have y1 : w0.cell? ⟨W.heap.size + 1, 1, none⟩ = some (.int .i64 y) := by simp [World.cell?, HY.out]
  have y2 : w0.cell? ⟨W.heap.size + 1, 2, none⟩ = some (.bool g) := by simp [World.cell?, HY.out]
  by_cases hv : x = y
  · have d1 : (x == y) = true := by simp [hv]
    by_cases hf : f = g
    · have d2 : (f == g) = true := by simp [hf]
      have HF : Hid (rb = mn) := Lib.hid (by rw [← HRb.out]; simp [hv, hf])
      clear hv hf HRb
      go_wp2_with fail
      (with_reducible refine HS.out.mono ?_)
      rintro e w1 ⟨rfl, hb⟩
      have HB1 := Lib.hid (bt HB.out hb)
      clear hb
      go_wp2_with fail
      refine bodyPost_ret (v := .bool mn) (by simp [results, Tryz.results17, go_sem]) rfl ?_
      exact ⟨by rw [HF.out], HB1.out⟩
    · have d2 : (f == g) = false := by simp [hf]
      have HF : Hid (rb = false) := Lib.hid (by rw [← HRb.out]; simp [hf])
      clear hv hf HRb
      go_wp2_with fail
      refine bodyPost_ret (v := .bool false) (by simp [results, Tryz.results17, go_sem]) rfl ?_
      exact ⟨by rw [HF.out], HB.out⟩
  · have d1 : (x == y) = false := by simp [hv]
    have HF : Hid (rb = false) := Lib.hid (by rw [← HRb.out]; simp [hv])
    clear hv HRb
    go_wp2_with fail
    refine bodyPost_ret (v := .bool false) (by simp [results, Tryz.results17, go_sem]) rfl ?_
    exact ⟨by rw [HF.out], HB.out⟩
end Go.Proofs.YtgbnjjgnihjfgaaGreat
end

section
set_option linter.unusedVariables false
set_option linter.unusedSimpArgs false
namespace Go.Proofs.YtgbnjjgnihjfgaaGreat
open Go.RowKit Go.Sort Go.ChangeMaps Go.MapKept

def sQ : MQ := ⟨5, 0, 1, 10, 19, 2, 0⟩
def sC : MQ := ⟨3, 0, 1, 10, 19, 0, 0⟩
def sR : MQ := ⟨1, 0, 0, 5, 5, 0, 0⟩
def cAdd : MCh := ⟨0, 5, false, ⟨0, 0, 0⟩, true, ⟨12, 3, 0⟩⟩
def cFar : MCh := ⟨0, 5, false, ⟨0, 0, 0⟩, true, ⟨25, 3, 0⟩⟩
def cGone : MCh := ⟨0, 6, true, ⟨12, 7, 0⟩, false, ⟨0, 0, 0⟩⟩
def cLess : MCh := ⟨0, 6, true, ⟨12, 7, 0⟩, true, ⟨12, 5, 0⟩⟩
def cMoved : MCh := ⟨0, 6, true, ⟨12, 9, 1⟩, true, ⟨13, 9, 1⟩⟩
def rS : MRes := ⟨[], 7, true⟩
def rC : MRes := ⟨[], 4, false⟩
theorem pAdd : patchF sQ rS cAdd = some ⟨[], 3, true⟩ := by decide +kernel
theorem pFar : patchF sQ rS cFar = some ⟨[], 7, true⟩ := by decide +kernel
theorem pGone : patchF sQ rS cGone = none := by decide +kernel
theorem pLess : patchF sQ rS cLess = some ⟨[], 5, true⟩ := by decide +kernel
theorem aC : applyM sC rC [cAdd, cGone] = (some ⟨[], 4, false⟩, true) := by decide +kernel
theorem aR : applyM sR resZ [cAdd] = (some ⟨[⟨0, 5, ⟨12, 3, 0⟩⟩], 0, false⟩, true) := by decide +kernel
theorem tAdd : touchB sQ cAdd = true := by decide +kernel
theorem tFar : touchB sQ cFar = false := by decide +kernel
theorem tGone : touchB sQ cGone = true := by decide +kernel
theorem tMoved : touchB sQ cMoved = false := by decide +kernel
theorem ChS_mk {w : World} {g : Nat} {L : List MCh} {cs : Array Value} {t : TypeId} {fr : Nat × Nat} (hb : w.heap[g]? = some (.cells cs t fr)) (h : ∀ i, i < L.length → ∀ j : Nat, j < 10 → cs[i * 10 + j]? = (chCells (L.getD i chZ))[j]?) (hl : L.length ≤ 100) : ChS w (.slice (some ⟨g, 0, none⟩) L.length L.length) L :=
  ⟨_, _, _, rfl, rfl, Nat.le_refl _, by omega, fun _ => ⟨g, 0, rfl, lt_of_block hb, fun i hi j hj => by
    simp only [World.cell?, Nat.zero_add]
    rw [hb]
    exact h i hi j hj⟩⟩
theorem sp1 (w : World) : Calls Tryz.prog 22 #[.agg #[.int .i64 5, .int .i64 0, .int .i64 1, .int .i64 10, .int .i64 19, .int .i64 2, .int .i64 0], .agg #[.slice none 0 0, .int .i64 7, .bool true], .agg #[.int .i64 0, .int .i64 5, .bool false, .int .i64 0, .int .i64 0, .int .i64 0, .bool true, .int .i64 12, .int .i64 3, .int .i64 0]] w fun e w' => ∃ a n c, e = .returned (.tuple #[.agg #[.slice a n c, .int .i64 3, .bool true], .bool true]) ∧ Hid (Below w.heap.size w w') :=
  (Patch_any (q := sQ) (c := cAdd) (r := rS) (u := .slice none 0 0) (rowS_nil w) (by decide)).mono fun e w' ⟨u, h1, h2, h3⟩ => by
    obtain ⟨a, n, c, rfl⟩ := h2.form
    rw [pAdd] at h1
    exact ⟨a, n, c, h1, Lib.hid h3⟩
theorem sp2 (w : World) : Calls Tryz.prog 22 #[.agg #[.int .i64 5, .int .i64 0, .int .i64 1, .int .i64 10, .int .i64 19, .int .i64 2, .int .i64 0], .agg #[.slice none 0 0, .int .i64 7, .bool true], .agg #[.int .i64 0, .int .i64 5, .bool false, .int .i64 0, .int .i64 0, .int .i64 0, .bool true, .int .i64 25, .int .i64 3, .int .i64 0]] w fun e w' => ∃ a n c, e = .returned (.tuple #[.agg #[.slice a n c, .int .i64 7, .bool true], .bool true]) ∧ Hid (Below w.heap.size w w') :=
  (Patch_any (q := sQ) (c := cFar) (r := rS) (u := .slice none 0 0) (rowS_nil w) (by decide)).mono fun e w' ⟨u, h1, h2, h3⟩ => by
    obtain ⟨a, n, c, rfl⟩ := h2.form
    rw [pFar] at h1
    exact ⟨a, n, c, h1, Lib.hid h3⟩
theorem sp4 (w : World) : Calls Tryz.prog 22 #[.agg #[.int .i64 5, .int .i64 0, .int .i64 1, .int .i64 10, .int .i64 19, .int .i64 2, .int .i64 0], .agg #[.slice none 0 0, .int .i64 7, .bool true], .agg #[.int .i64 0, .int .i64 6, .bool true, .int .i64 12, .int .i64 7, .int .i64 0, .bool true, .int .i64 12, .int .i64 5, .int .i64 0]] w fun e w' => ∃ a n c, e = .returned (.tuple #[.agg #[.slice a n c, .int .i64 5, .bool true], .bool true]) ∧ Hid (Below w.heap.size w w') :=
  (Patch_any (q := sQ) (c := cLess) (r := rS) (u := .slice none 0 0) (rowS_nil w) (by decide)).mono fun e w' ⟨u, h1, h2, h3⟩ => by
    obtain ⟨a, n, c, rfl⟩ := h2.form
    rw [pLess] at h1
    exact ⟨a, n, c, h1, Lib.hid h3⟩
theorem sp3 (w : World) : Calls Tryz.prog 22 #[.agg #[.int .i64 5, .int .i64 0, .int .i64 1, .int .i64 10, .int .i64 19, .int .i64 2, .int .i64 0], .agg #[.slice none 0 0, .int .i64 7, .bool true], .agg #[.int .i64 0, .int .i64 6, .bool true, .int .i64 12, .int .i64 7, .int .i64 0, .bool false, .int .i64 0, .int .i64 0, .int .i64 0]] w fun e w' => ∃ a n c, e = .returned (.tuple #[.agg #[.slice a n c, .int .i64 0, .bool false], .bool false]) ∧ Hid (Below w.heap.size w w') :=
  (Patch_any (q := sQ) (c := cGone) (r := rS) (u := .slice none 0 0) (rowS_nil w) (by decide)).mono fun e w' ⟨u, h1, h2, h3⟩ => by
    obtain ⟨a, n, c, rfl⟩ := h2.form
    rw [pGone] at h1
    exact ⟨a, n, c, h1, Lib.hid h3⟩
theorem stAdd (w : World) : Calls Tryz.prog 16 #[.agg #[.int .i64 5, .int .i64 0, .int .i64 1, .int .i64 10, .int .i64 19, .int .i64 2, .int .i64 0], .agg #[.int .i64 0, .int .i64 5, .bool false, .int .i64 0, .int .i64 0, .int .i64 0, .bool true, .int .i64 12, .int .i64 3, .int .i64 0]] w fun e w' => e = .returned (.bool true) ∧ Hid (Below w.heap.size w w') :=
  (touches_any sQ cAdd w).mono fun e w' ⟨h1, h2⟩ => ⟨by rw [tAdd] at h1; exact h1, Lib.hid h2⟩
theorem stFar (w : World) : Calls Tryz.prog 16 #[.agg #[.int .i64 5, .int .i64 0, .int .i64 1, .int .i64 10, .int .i64 19, .int .i64 2, .int .i64 0], .agg #[.int .i64 0, .int .i64 5, .bool false, .int .i64 0, .int .i64 0, .int .i64 0, .bool true, .int .i64 25, .int .i64 3, .int .i64 0]] w fun e w' => e = .returned (.bool false) ∧ Hid (Below w.heap.size w w') :=
  (touches_any sQ cFar w).mono fun e w' ⟨h1, h2⟩ => ⟨by rw [tFar] at h1; exact h1, Lib.hid h2⟩
theorem stGone (w : World) : Calls Tryz.prog 16 #[.agg #[.int .i64 5, .int .i64 0, .int .i64 1, .int .i64 10, .int .i64 19, .int .i64 2, .int .i64 0], .agg #[.int .i64 0, .int .i64 6, .bool true, .int .i64 12, .int .i64 7, .int .i64 0, .bool false, .int .i64 0, .int .i64 0, .int .i64 0]] w fun e w' => e = .returned (.bool true) ∧ Hid (Below w.heap.size w w') :=
  (touches_any sQ cGone w).mono fun e w' ⟨h1, h2⟩ => ⟨by rw [tGone] at h1; exact h1, Lib.hid h2⟩
theorem stMoved (w : World) : Calls Tryz.prog 16 #[.agg #[.int .i64 5, .int .i64 0, .int .i64 1, .int .i64 10, .int .i64 19, .int .i64 2, .int .i64 0], .agg #[.int .i64 0, .int .i64 6, .bool true, .int .i64 12, .int .i64 9, .int .i64 1, .bool true, .int .i64 13, .int .i64 9, .int .i64 1]] w fun e w' => e = .returned (.bool false) ∧ Hid (Below w.heap.size w w') :=
  (touches_any sQ cMoved w).mono fun e w' ⟨h1, h2⟩ => ⟨by rw [tMoved] at h1; exact h1, Lib.hid h2⟩
theorem saC {w : World} {cv : Value} (h : ChS w cv [cAdd, cGone]) : Calls Tryz.prog 18 #[.agg #[.int .i64 3, .int .i64 0, .int .i64 1, .int .i64 10, .int .i64 19, .int .i64 0, .int .i64 0], .agg #[.slice none 0 0, .int .i64 4, .bool false], .agg #[.int .i64 1, cv]] w fun e w' => ∃ a n c, e = .returned (.tuple #[.agg #[.slice a n c, .int .i64 4, .bool false], .bool true, .bool true]) ∧ Hid (Below w.heap.size w w') :=
  (Apply_any (q := sC) (r := rC) (u := .slice none 0 0) (pos := 1) (rowS_nil w) (by decide) h).mono fun e w' ⟨u, h1, h2, h3⟩ => by
    obtain ⟨a, n, c, rfl⟩ := h2.form
    rw [aC] at h1
    exact ⟨a, n, c, h1, Lib.hid h3⟩
theorem saR {w : World} {cv : Value} (h : ChS w cv [cAdd]) : Calls Tryz.prog 18 #[.agg #[.int .i64 1, .int .i64 0, .int .i64 0, .int .i64 5, .int .i64 5, .int .i64 0, .int .i64 0], .agg #[.slice none 0 0, .int .i64 0, .bool false], .agg #[.int .i64 1, cv]] w fun e w' => ∃ g f c, e = .returned (.tuple #[.agg #[.slice (some ⟨g, f, none⟩) 1 c, .int .i64 0, .bool false], .bool true, .bool true]) ∧ Hid (w'.cell? ⟨g, f + 3, none⟩ = some (.int .i64 3) ∧ g < w'.heap.size) ∧ Hid (1 ≤ c) ∧ Hid (Below w.heap.size w w') :=
  (Apply_any (q := sR) (r := resZ) (u := .slice none 0 0) (pos := 1) (rowS_nil w) (by decide) h).mono fun e w' ⟨u, h1, h2, h3⟩ => by
    rw [aR] at h1 h2
    have h4 := h2.rowS
    obtain ⟨a, n, c, rfl, hn, hc, _, hr⟩ := h4
    simp at hn
    subst hn
    obtain ⟨g, f, rfl, hg, hcs⟩ := hr (by omega)
    have h5 := (hcs 0 (by omega)).cells
    simp at h5
    exact ⟨g, f, c, h1, Lib.hid ⟨h5.2.2.2.1, hg⟩, Lib.hid hc, Lib.hid h3⟩
end Go.Proofs.YtgbnjjgnihjfgaaGreat
end
