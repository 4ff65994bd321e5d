/- LA, FX, EK, PM -/
import Derived.Test.YtgbnjjgnihjfgaaProg
import Derived.WalkKit
import Derived.Below
import Derived.Lib.Hide
import Derived.Laws.StructEq
import Derived.Lib.QuietBelow
import Derived.Deep.RegionHeld3
import Derived.Deep.RegionWith
import Derived.IntWalk
import Derived.BigQuiet
import Derived.Maps.RangeWalk
import Derived.DeepKeys4
import Derived.OneCell
import Derived.StillTail
import Derived.Deep.CutRange
import Derived.Outline
import Derived.WalkSpells
import Derived.Carry
import Derived.Shelf.SlGeneric
import Derived.Shelf.SlSortCmp.WholeK
import Derived.Shelf.SlicesG.Cmp
import Derived.Ground.SlsfProg
import Derived.Ground.SlgcProg
import Derived.Sort.OwnSorted
import Derived.Deep.AppendLies
import Derived.Shelf.SlSortCmp.NoneTotal
import Derived.Deep.QuietTactic
import Derived.Laws.AppendOwnNone
import Derived.Laws.EntriesVeiled
import Derived.Lib.SliceRun
import Derived.Deep.Cut
import Derived.Laws.ResultCell
import Derived.ArgAppend
import Derived.Laws.Rows
import Derived.Great.BuildSlice
import Derived.Great.Frames
import Derived.Deep.DeepCutAuto
import Derived.Test.YtgbnjjgnihjfgaaWFAE
import Derived.Test.YtgbnjjgnihjfgaaWFAD
import Derived.Test.YtgbnjjgnihjfgaaWFAB
import Derived.Test.YtgbnjjgnihjfgaaWFAC
import Derived.Test.YtgbnjjgnihjfgaaWFAA
import Derived.Test.YtgbnjjgnihjfgaaRows
import Derived.ProofKit
import Derived.OpenShut
import Derived.Deep.Strs
import Derived.Deep.Slices
section
set_option linter.unusedVariables false
set_option linter.unusedSimpArgs false
namespace Go.Proofs.Ytgbnjjgnihjfgaa
open Go.RowKit Go.Sort Go.ChangeMaps Go.MapKept

structure X5 where
  a : Int
  b : Int
  c : Int
  d : Int
  e : Int
abbrev x5V (x : X5) : Value := .agg #[.int .i64 x.a, .int .i64 x.b, .int .i64 x.c, .int .i64 x.d, .int .i64 x.e]
def X5.Ok (x : X5) : Prop := I64 x.a ∧ I64 x.b ∧ I64 x.c ∧ I64 x.d ∧ I64 x.e
theorem pick7B (c n : Int) (W : World) (hc : I64 c) (hn : 1 ≤ n) (hn2 : n ≤ 1000000) : Calls Try.prog 68 #[.int .i64 c, .int .i64 n] W fun e w' => e = .returned (.int .i64 (pk c n)) ∧ Below W.heap.size W w' :=
  (pick7_any c n W hc hn hn2).mono fun e w' ⟨h1, h2⟩ => ⟨h1, by subst h2; exact Below.refl _ _⟩
/-- The query that five integers determine. -/
def qryF (x : X5) : MQ :=
  let k := 1 + pk x.a 7
  let t := pk (Int.tdiv x.a 7) 3
  if k = 1 then ⟨1, t, 0, 1 + pk x.b 9, 1 + pk x.b 9, 0, 0⟩
  else
    let c := pk (Int.tdiv x.b 9) 4
    let l := pk x.c 14 - 2
    let h := l + pk x.d 14
    ⟨k, t, c, if c = 3 then l * 3 - 20 else l, if c = 3 then h * 3 - 20 else h, if k = 7 ∧ 0 < pk (Int.tdiv x.e 9) 3 then 2 else if 4 ≤ k then 1 + pk x.e 3 else 0, if k = 7 then pk (Int.tdiv x.e 3) 3 else 0⟩
theorem qryF_valid (x : X5) : validB (qryF x) = true := by
  have h1 := pk_range x.a (n := 7) (by omega)
  have h2 := pk_range (Int.tdiv x.a 7) (n := 3) (by omega)
  have h3 := pk_range x.b (n := 9) (by omega)
  have h4 := pk_range (Int.tdiv x.b 9) (n := 4) (by omega)
  have h5 := pk_range x.c (n := 14) (by omega)
  have h6 := pk_range x.d (n := 14) (by omega)
  have h7 := pk_range x.e (n := 3) (by omega)
  have h8 := pk_range (Int.tdiv x.e 3) (n := 3) (by omega)
  unfold qryF
  simp only
  generalize pk x.a 7 = k at *
  generalize pk (Int.tdiv x.a 7) 3 = t at *
  generalize pk x.b 9 = b9 at *
  generalize pk (Int.tdiv x.b 9) 4 = b4 at *
  generalize pk x.c 14 = c14 at *
  generalize pk x.d 14 = d14 at *
  generalize pk x.e 3 = e3 at *
  generalize pk (Int.tdiv x.e 3) 3 = e33 at *
  by_cases hp : 0 < pk (Int.tdiv x.e 9) 3 <;> by_cases h3 : b4 = 3 <;> simp only [hp, h3, and_true, and_false, if_true, if_false] <;>
  · have hk : k = 0 ∨ k = 1 ∨ k = 2 ∨ k = 3 ∨ k = 4 ∨ k = 5 ∨ k = 6 := by omega
    rcases hk with rfl | rfl | rfl | rfl | rfl | rfl | rfl <;> simp [validB, scanB] <;> omega
/-- What Query has at hand: its argument, its result, and the query in a variable. -/
structure QF5 (W w : World) (yb : Nat) (x : X5) (q : MQ) : Prop where
  old : Below W.heap.size W w
  arg : w.heap[W.heap.size]? = some (.cells #[.int .i64 x.a, .int .i64 x.b, .int .i64 x.c, .int .i64 x.d, .int .i64 x.e] 52 (0, 0))
  res : w.heap[W.heap.size + 1]? = some (.cells (qC ⟨0, 0, 0, 0, 0, 0, 0⟩) 29 (0, 0))
  var : w.heap[yb]? = some (.cells (qC q) 29 (0, 0))
  ge : W.heap.size + 2 ≤ yb
theorem QF5.below {W w w' : World} {yb : Nat} {x : X5} {q : MQ} (h : QF5 W w yb x q) (k : Below w.heap.size w w') : QF5 W w' yb x q :=
  ⟨bt h.old k, (k.block _ (lt_of_block h.arg)).trans h.arg, (k.block _ (lt_of_block h.res)).trans h.res, (k.block _ (lt_of_block h.var)).trans h.var, h.ge⟩
theorem QF5.set {W w : World} {yb : Nat} {x : X5} {q q' : MQ} (h : QF5 W w yb x q) {j : Nat} {u : Value} (hq : (qC q).setIfInBounds j u = qC q') : QF5 W (w.setCell ⟨yb, j, none⟩ u) yb x q' := by
  have hg := h.ge
  exact ⟨below_setCell h.old (by show W.heap.size ≤ yb; omega) u, (Below.heap_setCell _ _ _ _ (by show W.heap.size ≠ yb; omega)).trans h.arg, (Below.heap_setCell _ _ _ _ (by show W.heap.size + 1 ≠ yb; omega)).trans h.res, by rw [setC_heap h.var j u, hq], hg⟩
theorem QF5.args {W w : World} {yb : Nat} {x : X5} {q : MQ} (h : QF5 W w yb x q) : w.cell? ⟨W.heap.size, 0, none⟩ = some (.int .i64 x.a) ∧ w.cell? ⟨W.heap.size, 1, none⟩ = some (.int .i64 x.b) ∧ w.cell? ⟨W.heap.size, 2, none⟩ = some (.int .i64 x.c) ∧ w.cell? ⟨W.heap.size, 3, none⟩ = some (.int .i64 x.d) ∧ w.cell? ⟨W.heap.size, 4, none⟩ = some (.int .i64 x.e) :=
  ⟨by simp [World.cell?, h.arg], by simp [World.cell?, h.arg], by simp [World.cell?, h.arg], by simp [World.cell?, h.arg], by simp [World.cell?, h.arg]⟩
theorem QF5.frz {W w : World} {yb : Nat} {x : X5} {q : MQ} (h : QF5 W w yb x q) (j : Nat) : w.frozen? ⟨yb, j, none⟩ = false := by simp [World.frozen?, h.var]
set_option maxRecDepth 100000 in
set_option maxHeartbeats 8000000 in
theorem queryF_any (x : X5) (hx : x.Ok) (W : World) : Calls Try.prog 24 #[x5V x] W fun e w' => e = .returned (qV (qryF x)) ∧ Below W.heap.size W w' := by
  have hWn : W.heap.size ≤ W.heap.size + 1 := by omega
  obtain ⟨hQ, HQX⟩ : ∃ q, Hid (qryF x = q) := ⟨_, Lib.hid rfl⟩
  rw [HQX.out]
  obtain ⟨a, b, c, d, e⟩ := x
  obtain ⟨ha, hb, hc, hd, he⟩ := hx
  simp only at ha hb hc hd he
  have P1 := Lib.hid (fun w => pick7B a 7 w ha (by omega) (by omega))
  have P2 := Lib.hid (fun w => pick7B (Int.tdiv a 7) 3 w (tdiv_i64 ha (by omega)) (by omega) (by omega))
  have P3 := Lib.hid (fun w => pick7_any b 9 w hb (by omega) (by omega))
  have P4 := Lib.hid (fun w => pick7_any (Int.tdiv b 9) 4 w (tdiv_i64 hb (by omega)) (by omega) (by omega))
  have P5 := Lib.hid (fun w => pick7_any c 14 w hc (by omega) (by omega))
  have P6 := Lib.hid (fun w => pick7B d 14 w hd (by omega) (by omega))
  have P7 := Lib.hid (fun w => pick7_any e 3 w he (by omega) (by omega))
  have P8 := Lib.hid (fun w => pick7_any (Int.tdiv e 3) 3 w (tdiv_i64 he (by omega)) (by omega) (by omega))
  have P9 := Lib.hid (fun w => pick7_any (Int.tdiv e 9) 3 w (tdiv_i64 he (by omega)) (by omega) (by omega))
  have r1 := pk_range a (n := 7) (by omega)
  have r2 := pk_range (Int.tdiv a 7) (n := 3) (by omega)
  have r3 := pk_range b (n := 9) (by omega)
  have r4 := pk_range (Int.tdiv b 9) (n := 4) (by omega)
  have r5 := pk_range c (n := 14) (by omega)
  have r6 := pk_range d (n := 14) (by omega)
  have r7 := pk_range e (n := 3) (by omega)
  have r8 := pk_range (Int.tdiv e 3) (n := 3) (by omega)
  have r9 := pk_range (Int.tdiv e 9) (n := 3) (by omega)
  unfold qryF at HQX
  simp only at HQX
  obtain ⟨z1, H1⟩ : ∃ z, Hid (pk a 7 = z) := ⟨_, Lib.hid rfl⟩
  obtain ⟨z2, H2⟩ : ∃ z, Hid (pk (Int.tdiv a 7) 3 = z) := ⟨_, Lib.hid rfl⟩
  obtain ⟨z3, H3⟩ : ∃ z, Hid (pk b 9 = z) := ⟨_, Lib.hid rfl⟩
  obtain ⟨z4, H4⟩ : ∃ z, Hid (pk (Int.tdiv b 9) 4 = z) := ⟨_, Lib.hid rfl⟩
  obtain ⟨z5, H5⟩ : ∃ z, Hid (pk c 14 = z) := ⟨_, Lib.hid rfl⟩
  obtain ⟨z6, H6⟩ : ∃ z, Hid (pk d 14 = z) := ⟨_, Lib.hid rfl⟩
  obtain ⟨z7, H7⟩ : ∃ z, Hid (pk e 3 = z) := ⟨_, Lib.hid rfl⟩
  obtain ⟨z8, H8⟩ : ∃ z, Hid (pk (Int.tdiv e 3) 3 = z) := ⟨_, Lib.hid rfl⟩
  obtain ⟨z9, H9⟩ : ∃ z, Hid (pk (Int.tdiv e 9) 3 = z) := ⟨_, Lib.hid rfl⟩
  simp only [H1.out, H2.out, H3.out, H4.out, H5.out, H6.out, H7.out, H8.out, H9.out] at P1 P2 P3 P4 P5 P6 P7 P8 P9 HQX
  rw [H1.out] at r1
  rw [H2.out] at r2
  rw [H3.out] at r3
  rw [H4.out] at r4
  rw [H5.out] at r5
  rw [H6.out] at r6
  rw [H7.out] at r7
  rw [H8.out] at r8
  rw [H9.out] at r9
  obtain ⟨kk, Hkk⟩ : ∃ k, Hid (1 + z1 = k) := ⟨_, Lib.hid rfl⟩
  have hw1 : wrap64 (1 + z1) = kk := by rw [← Hkk.out]; unfold wrap64; omega
  have hk17 : 1 ≤ kk ∧ kk ≤ 7 := by rw [← Hkk.out]; omega
  simp only [Hkk.out] at HQX
  have hda7 := tdiv_i64 ha (show (2 : Int) ≤ 7 by omega)
  have hwa7 : wrap64 (Int.tdiv a 7) = Int.tdiv a 7 := by unfold I64 at hda7; unfold wrap64; omega
  have hdb9 := tdiv_i64 hb (show (2 : Int) ≤ 9 by omega)
  have hwb9 : wrap64 (Int.tdiv b 9) = Int.tdiv b 9 := by unfold I64 at hdb9; unfold wrap64; omega
  have hde3 := tdiv_i64 he (show (2 : Int) ≤ 3 by omega)
  have hwe3 : wrap64 (Int.tdiv e 3) = Int.tdiv e 3 := by unfold I64 at hde3; unfold wrap64; omega
  have hde9 := tdiv_i64 he (show (2 : Int) ≤ 9 by omega)
  have hwe9 : wrap64 (Int.tdiv e 9) = Int.tdiv e 9 := by unfold I64 at hde9; unfold wrap64; omega
  have hw_b1 : wrap64 (1 + z3) = 1 + z3 := by unfold wrap64; omega
  have hw_l : wrap64 (z5 - 2) = z5 - 2 := by unfold wrap64; omega
  have hw_h : wrap64 (z5 - 2 + z6) = z5 - 2 + z6 := by unfold wrap64; omega
  have hw_l3 : wrap64 ((z5 - 2) * 3) = (z5 - 2) * 3 := by unfold wrap64; omega
  have hw_l4 : wrap64 ((z5 - 2) * 3 - 20) = (z5 - 2) * 3 - 20 := by unfold wrap64; omega
  have hw_h3 : wrap64 ((z5 - 2 + z6) * 3) = (z5 - 2 + z6) * 3 := by unfold wrap64; omega
  have hw_h4 : wrap64 ((z5 - 2 + z6) * 3 - 20) = (z5 - 2 + z6) * 3 - 20 := by unfold wrap64; omega
  have hw_y : wrap64 (1 + z7) = 1 + z7 := by unfold wrap64; omega
  clear ha hb hc hd he r1 r2 r3 r4 r5 r6 r7 r8 r9 H1 H2 H3 H4 H5 H6 H7 H8 H9 hda7 hdb9 hde3 hde9
  go_enter Try.func24, Try.ntmps24
  go_upto_region 1 with fail
  generalize hwb : (W.alloc (.cells #[.int .i64 a, .int .i64 b, .int .i64 c, .int .i64 d, .int .i64 e] 52)).alloc (.cells #[.int .i64 0, .int .i64 0, .int .i64 0, .int .i64 0, .int .i64 0, .int .i64 0, .int .i64 0] 29) = wb
  have HBb : Hid (Below W.heap.size W wb) := Lib.hid (by rw [← hwb]; exact bt (ba W _) (ba _ _))
  have HX : Hid (wb.heap[W.heap.size]? = some (.cells #[.int .i64 a, .int .i64 b, .int .i64 c, .int .i64 d, .int .i64 e] 52 (0, 0))) := Lib.hid (by
    rw [← hwb]
    exact ((ba (W.alloc _) _).block _ (by simp)).trans (heap_alloc_new W _))
  have HY : Hid (wb.heap[W.heap.size + 1]? = some (.cells (qC ⟨0, 0, 0, 0, 0, 0, 0⟩) 29 (0, 0))) := Lib.hid (by
    rw [← hwb]
    have h := heap_alloc_new (W.alloc (.cells #[.int .i64 a, .int .i64 b, .int .i64 c, .int .i64 d, .int .i64 e] 52)) (.cells #[.int .i64 0, .int .i64 0, .int .i64 0, .int .i64 0, .int .i64 0, .int .i64 0, .int .i64 0] 29)
    simpa using h)
  clear hwb
  have g0 : ∀ w0, BW wb w0 → ∀ d' os, (grow (redrawn w0 d') os).cell? ⟨W.heap.size, 0, none⟩ = some (.int .i64 a) := fun w0 h d' os => by
    have e := ((show Below wb.heap.size wb (grow (redrawn w0 d') os) from bt h (below_regrown w0 d' os)).block _ (lt_of_block HX.out)).trans HX.out
    simp [World.cell?, e]
  refine wp_region_calm1 10 99 9 [0, 1, 2, 3, 4, 5, 6, 7, 8] (obj := .cells #[.int .i64 0, .int .i64 0, .int .i64 0, .int .i64 0, .int .i64 0, .int .i64 0, .int .i64 0] 29 (0, 0)) (by kernel_rfl) (by kernel_rfl) (by intro oz h; simp at h) (by intro oz h; simp at h) (by rfl) (by rfl) (fun a w => by kernel_rfl) ?_
  simp only [List.take_succ_cons, List.take_zero, List.eraseIdx_cons_succ, List.eraseIdx_cons_zero]
  iterate 2
    apply wpCalm_want
    · rfl
    · exact bc_refl
    · exact ⟨_, Below.refl _ _⟩
    · intro w00 hC0 K hK
      go_big_quiet_op
      exact hK
  apply wpCalm_want
  · rfl
  · exact bc_refl
  · exact ⟨_, Below.refl _ _⟩
  · intro w00 hC0 K hK
    go_big_quiet_op
    apply Exists.intro
    refine ⟨fun p => ?_, ?_⟩
    · exact Calls.regrown_of (P1.out _)
    · exact hK
  iterate 4
    apply wpCalm_want
    · rfl
    · exact bc_refl
    · exact ⟨_, Below.refl _ _⟩
    · intro w00 hC0 K hK
      go_big_quiet_op
      exact hK
  apply wpCalm_want
  · rfl
  · exact bc_refl
  · exact ⟨_, Below.refl _ _⟩
  · intro w00 hC0 K hK
    go_big_quiet_op
    apply Exists.intro
    refine ⟨fun p => ?_, ?_⟩
    · exact Calls.regrown_of (P2.out _)
    · exact hK
  apply wpCalm_want
  · rfl
  · exact bc_refl
  · exact ⟨_, Below.refl _ _⟩
  · intro w00 hC0 K hK
    go_big_quiet_op
    exact hK
  refine wpCalm_nil ?_
  intro yb wc hbc hyb hblk
  try simp only [List.drop_succ_cons, List.drop_zero]
  try go_frame
  refine wpList_store_row rfl 29 _ _ rfl yb #[.int .i64 kk, .int .i64 z2, .int .i64 0, .int .i64 0, .int .i64 0, .int .i64 0, .int .i64 0] rfl rfl 29 _ hblk (by kernel_rfl) rfl (by simp [Value.oneCell']) ?_
  try go_frame
  have HS0 : Hid (QF5 W (wc.setRow yb #[.int .i64 kk, .int .i64 z2, .int .i64 0, .int .i64 0, .int .i64 0, .int .i64 0, .int .i64 0]) yb ⟨a, b, c, d, e⟩ ⟨kk, z2, 0, 0, 0, 0, 0⟩) := Lib.hid (by
    have hz1 := lt_of_block HY.out
    have hb1 : Below wb.heap.size wb (wc.setRow yb #[.int .i64 kk, .int .i64 z2, .int .i64 0, .int .i64 0, .int .i64 0, .int .i64 0, .int .i64 0]) := below_row hbc hyb _
    exact ⟨bt HBb.out hb1, (hb1.block _ (by omega)).trans HX.out, (hb1.block _ hz1).trans HY.out, setRow_heap _ _ _ _ _ _ hblk, by omega⟩)
  generalize wc.setRow yb #[.int .i64 kk, .int .i64 z2, .int .i64 0, .int .i64 0, .int .i64 0, .int .i64 0, .int .i64 0] = v0 at HS0 ⊢
  clear g0 hbc hyb hblk HX HY HBb hw1 hwa7 P1 P2
  by_cases h1 : kk = 1
  · have hk : kk = 1 := h1
    have HE : Hid (hQ = ⟨1, z2, 0, 1 + z3, 1 + z3, 0, 0⟩) := Lib.hid (by rw [← HQX.out, if_pos hk])
    subst hk
    obtain ⟨y0, y1, y2, y3, y4⟩ := HS0.out.args
    obtain ⟨q0, q1, q2, q3, q4, q5, q6⟩ := qAt_of HS0.out.var
    have fz := HS0.out.frz
    simp only at y0 y1 y2 y3 y4 q0 q1 q2 q3 q4 q5 q6
    go_upto_region 3 with fail
    clear y0 y1 y2 y3 y4 q0 q1 q2 q3 q4 q5 q6 fz
    obtain ⟨y0, y1, y2, y3, y4⟩ := HS0.out.args
    obtain ⟨q0, q1, q2, q3, q4, q5, q6⟩ := qAt_of HS0.out.var
    have fz := HS0.out.frz
    simp only at y0 y1 y2 y3 y4 q0 q1 q2 q3 q4 q5 q6
    go_wp2_with fail
    (with_reducible refine (P3.out _).mono ?_)
    rintro e wx ⟨rfl, rfl⟩
    go_upto_region 4 with fail
    have HS1 := Lib.hid (HS0.out.set (j := 3) (u := .int .i64 (1 + z3)) (q' := ⟨1, z2, 0, 1 + z3, 0, 0, 0⟩) rfl)
    generalize v0.setCell ⟨yb, 3, none⟩ (.int .i64 (1 + z3)) = v1 at HS1 ⊢
    clear y0 y1 y2 y3 y4 q0 q1 q2 q3 q4 q5 q6 fz
    obtain ⟨y0, y1, y2, y3, y4⟩ := HS1.out.args
    obtain ⟨q0, q1, q2, q3, q4, q5, q6⟩ := qAt_of HS1.out.var
    have fz := HS1.out.frz
    simp only at y0 y1 y2 y3 y4 q0 q1 q2 q3 q4 q5 q6
    go_upto_region 5 with fail
    have HS2 := Lib.hid (HS1.out.set (j := 4) (u := .int .i64 (1 + z3)) (q' := ⟨1, z2, 0, 1 + z3, 1 + z3, 0, 0⟩) rfl)
    generalize v1.setCell ⟨yb, 4, none⟩ (.int .i64 (1 + z3)) = v2 at HS2 ⊢
    clear y0 y1 y2 y3 y4 q0 q1 q2 q3 q4 q5 q6 fz
    clear hw_b1 hw_l hw_h hw_l3 hw_l4 hw_h3 hw_h4 hw_y hwb9 hwe3 hwe9 hk17
    go_wp2_with (first | (refine wpList_load_row rfl 29 _ rfl yb rfl 29 _ _ _ HS2.out.var Try.underlying29 rfl (by kernel_rfl) ?_) | (refine wpList_store_row rfl 29 _ _ rfl (W.heap.size + 1) _ rfl rfl 29 _ HS2.out.res (by kernel_rfl) rfl (by simp [Value.oneCell']) ?_))
    refine bodyPost_ret (v := qV ⟨1, z2, 0, 1 + z3, 1 + z3, 0, 0⟩) (results_cell_row rfl _ _ (W.heap.size + 1) 29 _ (0, 0) _ rfl (setRow_heap _ _ _ _ _ _ HS2.out.res) Try.underlying29 rfl (by kernel_rfl)) rfl ⟨?_, below_row HS2.out.old hWn _⟩
    rw [HE.out]
  · have hne : (kk == 1) = false := by simp [h1]
    simp only [if_neg h1] at HQX
    clear h1
    obtain ⟨y0, y1, y2, y3, y4⟩ := HS0.out.args
    obtain ⟨q0, q1, q2, q3, q4, q5, q6⟩ := qAt_of HS0.out.var
    have fz := HS0.out.frz
    simp only at y0 y1 y2 y3 y4 q0 q1 q2 q3 q4 q5 q6
    go_upto_region 6 with fail
    clear y0 y1 y2 y3 y4 q0 q1 q2 q3 q4 q5 q6 fz
    obtain ⟨y0, y1, y2, y3, y4⟩ := HS0.out.args
    obtain ⟨q0, q1, q2, q3, q4, q5, q6⟩ := qAt_of HS0.out.var
    have fz := HS0.out.frz
    simp only at y0 y1 y2 y3 y4 q0 q1 q2 q3 q4 q5 q6
    go_wp2_with fail
    (with_reducible refine (P4.out _).mono ?_)
    rintro e wx ⟨rfl, rfl⟩
    go_upto_region 7 with fail
    have HS1 := Lib.hid (HS0.out.set (j := 2) (u := .int .i64 (z4)) (q' := ⟨kk, z2, z4, 0, 0, 0, 0⟩) rfl)
    generalize v0.setCell ⟨yb, 2, none⟩ (.int .i64 (z4)) = v1 at HS1 ⊢
    clear y0 y1 y2 y3 y4 q0 q1 q2 q3 q4 q5 q6 fz
    obtain ⟨y0, y1, y2, y3, y4⟩ := HS1.out.args
    obtain ⟨q0, q1, q2, q3, q4, q5, q6⟩ := qAt_of HS1.out.var
    have fz := HS1.out.frz
    simp only at y0 y1 y2 y3 y4 q0 q1 q2 q3 q4 q5 q6
    go_wp2_with fail
    (with_reducible refine (P5.out _).mono ?_)
    rintro e wx ⟨rfl, rfl⟩
    go_upto_region 8 with fail
    have HS2 := Lib.hid (HS1.out.set (j := 3) (u := .int .i64 (z5 - 2)) (q' := ⟨kk, z2, z4, z5 - 2, 0, 0, 0⟩) rfl)
    generalize v1.setCell ⟨yb, 3, none⟩ (.int .i64 (z5 - 2)) = v2 at HS2 ⊢
    clear y0 y1 y2 y3 y4 q0 q1 q2 q3 q4 q5 q6 fz
    have g3 : ∀ w0, BW v2 w0 → ∀ d' os, (grow (redrawn w0 d') os).cell? ⟨W.heap.size, 3, none⟩ = some (.int .i64 d) := fun w0 h d' os => (HS2.out.below (bt h (below_regrown w0 d' os))).args.2.2.2.1
    have gl : ∀ w0, BW v2 w0 → ∀ d' os, (grow (redrawn w0 d') os).cell? ⟨yb, 3, none⟩ = some (.int .i64 (z5 - 2)) := fun w0 h d' os => (qAt_of (HS2.out.below (bt h (below_regrown w0 d' os))).var).c3
    refine wp_region_calm 7 99 [0, 1, 2, 3, 4, 5, 6] (by kernel_rfl) (by kernel_rfl) (by intro oz h; simp at h) (by intro oz h; simp at h) (by rfl) ?_
    simp only [List.take_succ_cons, List.take_zero]
    iterate 4
      apply wpCalm_want
      · rfl
      · exact bc_refl
      · exact ⟨_, Below.refl _ _⟩
      · intro w00 hC0 K hK
        go_big_quiet_op
        exact hK
    apply wpCalm_want
    · rfl
    · exact bc_refl
    · exact ⟨_, Below.refl _ _⟩
    · intro w00 hC0 K hK
      go_big_quiet_op
      apply Exists.intro
      refine ⟨fun p => ?_, ?_⟩
      · exact Calls.regrown_of (P6.out _)
      · exact hK
    iterate 2
      apply wpCalm_want
      · rfl
      · exact bc_refl
      · exact ⟨_, Below.refl _ _⟩
      · intro w00 hC0 K hK
        go_big_quiet_op
        exact hK
    refine wpCalm_nil ?_
    intro v3 hbq
    try simp only [List.drop_succ_cons, List.drop_zero]
    have HS3 := Lib.hid (HS2.out.below hbq)
    clear g3 gl hbq
    obtain ⟨y0, y1, y2, y3, y4⟩ := HS3.out.args
    obtain ⟨q0, q1, q2, q3, q4, q5, q6⟩ := qAt_of HS3.out.var
    have fz := HS3.out.frz
    simp only at y0 y1 y2 y3 y4 q0 q1 q2 q3 q4 q5 q6
    go_upto_region 9 with fail
    have HS4 := Lib.hid (HS3.out.set (j := 4) (u := .int .i64 (z5 - 2 + z6)) (q' := ⟨kk, z2, z4, z5 - 2, z5 - 2 + z6, 0, 0⟩) rfl)
    generalize v3.setCell ⟨yb, 4, none⟩ (.int .i64 (z5 - 2 + z6)) = v4 at HS4 ⊢
    clear y0 y1 y2 y3 y4 q0 q1 q2 q3 q4 q5 q6 fz
    by_cases h3 : z4 = 3
    · have h3' : (z4 == 3) = true := by simp [h3]
      simp only [if_pos h3] at HQX
      clear h3
      obtain ⟨y0, y1, y2, y3, y4⟩ := HS4.out.args
      obtain ⟨q0, q1, q2, q3, q4, q5, q6⟩ := qAt_of HS4.out.var
      have fz := HS4.out.frz
      simp only at y0 y1 y2 y3 y4 q0 q1 q2 q3 q4 q5 q6
      go_upto_region 10 with fail
      clear y0 y1 y2 y3 y4 q0 q1 q2 q3 q4 q5 q6 fz
      obtain ⟨y0, y1, y2, y3, y4⟩ := HS4.out.args
      obtain ⟨q0, q1, q2, q3, q4, q5, q6⟩ := qAt_of HS4.out.var
      have fz := HS4.out.frz
      simp only at y0 y1 y2 y3 y4 q0 q1 q2 q3 q4 q5 q6
      go_upto_region 11 with fail
      have HS5 := Lib.hid (HS4.out.set (j := 3) (u := .int .i64 ((z5 - 2) * 3 - 20)) (q' := ⟨kk, z2, z4, (z5 - 2) * 3 - 20, z5 - 2 + z6, 0, 0⟩) rfl)
      generalize v4.setCell ⟨yb, 3, none⟩ (.int .i64 ((z5 - 2) * 3 - 20)) = v5 at HS5 ⊢
      clear y0 y1 y2 y3 y4 q0 q1 q2 q3 q4 q5 q6 fz
      obtain ⟨y0, y1, y2, y3, y4⟩ := HS5.out.args
      obtain ⟨q0, q1, q2, q3, q4, q5, q6⟩ := qAt_of HS5.out.var
      have fz := HS5.out.frz
      simp only at y0 y1 y2 y3 y4 q0 q1 q2 q3 q4 q5 q6
      go_upto_region 12 with fail
      have HS6 := Lib.hid (HS5.out.set (j := 4) (u := .int .i64 ((z5 - 2 + z6) * 3 - 20)) (q' := ⟨kk, z2, z4, (z5 - 2) * 3 - 20, (z5 - 2 + z6) * 3 - 20, 0, 0⟩) rfl)
      generalize v5.setCell ⟨yb, 4, none⟩ (.int .i64 ((z5 - 2 + z6) * 3 - 20)) = v6 at HS6 ⊢
      clear y0 y1 y2 y3 y4 q0 q1 q2 q3 q4 q5 q6 fz
      by_cases h4 : 4 ≤ kk
      · obtain ⟨y0, y1, y2, y3, y4⟩ := HS6.out.args
        obtain ⟨q0, q1, q2, q3, q4, q5, q6⟩ := qAt_of HS6.out.var
        have fz := HS6.out.frz
        simp only at y0 y1 y2 y3 y4 q0 q1 q2 q3 q4 q5 q6
        go_upto_region 13 with fail
        clear y0 y1 y2 y3 y4 q0 q1 q2 q3 q4 q5 q6 fz
        obtain ⟨y0, y1, y2, y3, y4⟩ := HS6.out.args
        obtain ⟨q0, q1, q2, q3, q4, q5, q6⟩ := qAt_of HS6.out.var
        have fz := HS6.out.frz
        simp only at y0 y1 y2 y3 y4 q0 q1 q2 q3 q4 q5 q6
        go_wp2_with fail
        (with_reducible refine (P7.out _).mono ?_)
        rintro e wx ⟨rfl, rfl⟩
        go_upto_region 14 with fail
        have HS7 := Lib.hid (HS6.out.set (j := 5) (u := .int .i64 (1 + z7)) (q' := ⟨kk, z2, z4, (z5 - 2) * 3 - 20, (z5 - 2 + z6) * 3 - 20, 1 + z7, 0⟩) rfl)
        generalize v6.setCell ⟨yb, 5, none⟩ (.int .i64 (1 + z7)) = v7 at HS7 ⊢
        clear y0 y1 y2 y3 y4 q0 q1 q2 q3 q4 q5 q6 fz
        by_cases h7 : kk = 7
        · have h7' : (kk == 7) = true := by simp [h7]
          obtain ⟨y0, y1, y2, y3, y4⟩ := HS7.out.args
          obtain ⟨q0, q1, q2, q3, q4, q5, q6⟩ := qAt_of HS7.out.var
          have fz := HS7.out.frz
          simp only at y0 y1 y2 y3 y4 q0 q1 q2 q3 q4 q5 q6
          go_upto_region 15 with fail
          clear y0 y1 y2 y3 y4 q0 q1 q2 q3 q4 q5 q6 fz
          obtain ⟨y0, y1, y2, y3, y4⟩ := HS7.out.args
          obtain ⟨q0, q1, q2, q3, q4, q5, q6⟩ := qAt_of HS7.out.var
          have fz := HS7.out.frz
          simp only at y0 y1 y2 y3 y4 q0 q1 q2 q3 q4 q5 q6
          go_wp2_with fail
          (with_reducible refine (P8.out _).mono ?_)
          rintro e wx ⟨rfl, rfl⟩
          go_upto_region 16 with fail
          have HS8 := Lib.hid (HS7.out.set (j := 6) (u := .int .i64 (z8)) (q' := ⟨kk, z2, z4, (z5 - 2) * 3 - 20, (z5 - 2 + z6) * 3 - 20, 1 + z7, z8⟩) rfl)
          generalize v7.setCell ⟨yb, 6, none⟩ (.int .i64 (z8)) = v8 at HS8 ⊢
          clear y0 y1 y2 y3 y4 q0 q1 q2 q3 q4 q5 q6 fz
          obtain ⟨y0, y1, y2, y3, y4⟩ := HS8.out.args
          obtain ⟨q0, q1, q2, q3, q4, q5, q6⟩ := qAt_of HS8.out.var
          have fz := HS8.out.frz
          simp only at y0 y1 y2 y3 y4 q0 q1 q2 q3 q4 q5 q6
          go_wp2_with fail
          (with_reducible refine (P9.out _).mono ?_)
          rintro e wx ⟨rfl, rfl⟩
          by_cases h9 : 0 < z9
          · have HE : Hid (hQ = ⟨kk, z2, z4, (z5 - 2) * 3 - 20, (z5 - 2 + z6) * 3 - 20, 2, z8⟩) := Lib.hid (by rw [← HQX.out, if_pos ⟨h7, h9⟩, if_pos h7])
            clear h7
            go_upto_region 18 with fail
            have HS9 := Lib.hid (HS8.out.set (j := 5) (u := .int .i64 (2)) (q' := ⟨kk, z2, z4, (z5 - 2) * 3 - 20, (z5 - 2 + z6) * 3 - 20, 2, z8⟩) rfl)
            generalize v8.setCell ⟨yb, 5, none⟩ (.int .i64 (2)) = v9 at HS9 ⊢
            clear y0 y1 y2 y3 y4 q0 q1 q2 q3 q4 q5 q6 fz
            clear hw_b1 hw_l hw_h hw_l3 hw_l4 hw_h3 hw_h4 hw_y hwb9 hwe3 hwe9 hk17
            go_wp2_with (first | (refine wpList_load_row rfl 29 _ rfl yb rfl 29 _ _ _ HS9.out.var Try.underlying29 rfl (by kernel_rfl) ?_) | (refine wpList_store_row rfl 29 _ _ rfl (W.heap.size + 1) _ rfl rfl 29 _ HS9.out.res (by kernel_rfl) rfl (by simp [Value.oneCell']) ?_))
            refine bodyPost_ret (v := qV ⟨kk, z2, z4, (z5 - 2) * 3 - 20, (z5 - 2 + z6) * 3 - 20, 2, z8⟩) (results_cell_row rfl _ _ (W.heap.size + 1) 29 _ (0, 0) _ rfl (setRow_heap _ _ _ _ _ _ HS9.out.res) Try.underlying29 rfl (by kernel_rfl)) rfl ⟨?_, below_row HS9.out.old hWn _⟩
            rw [HE.out]
          · have HE : Hid (hQ = ⟨kk, z2, z4, (z5 - 2) * 3 - 20, (z5 - 2 + z6) * 3 - 20, 1 + z7, z8⟩) := Lib.hid (by rw [← HQX.out, if_neg (fun h => h9 h.2), if_pos h4, if_pos h7])
            clear h7
            go_upto_region 18 with fail
            clear y0 y1 y2 y3 y4 q0 q1 q2 q3 q4 q5 q6 fz
            clear hw_b1 hw_l hw_h hw_l3 hw_l4 hw_h3 hw_h4 hw_y hwb9 hwe3 hwe9 hk17
            go_wp2_with (first | (refine wpList_load_row rfl 29 _ rfl yb rfl 29 _ _ _ HS8.out.var Try.underlying29 rfl (by kernel_rfl) ?_) | (refine wpList_store_row rfl 29 _ _ rfl (W.heap.size + 1) _ rfl rfl 29 _ HS8.out.res (by kernel_rfl) rfl (by simp [Value.oneCell']) ?_))
            refine bodyPost_ret (v := qV ⟨kk, z2, z4, (z5 - 2) * 3 - 20, (z5 - 2 + z6) * 3 - 20, 1 + z7, z8⟩) (results_cell_row rfl _ _ (W.heap.size + 1) 29 _ (0, 0) _ rfl (setRow_heap _ _ _ _ _ _ HS8.out.res) Try.underlying29 rfl (by kernel_rfl)) rfl ⟨?_, below_row HS8.out.old hWn _⟩
            rw [HE.out]
        · have HE : Hid (hQ = ⟨kk, z2, z4, (z5 - 2) * 3 - 20, (z5 - 2 + z6) * 3 - 20, 1 + z7, 0⟩) := Lib.hid (by rw [← HQX.out, if_neg (by omega), if_pos h4, if_neg h7])
          have h7' : (kk == 7) = false := by simp [h7]
          clear hw_b1 hw_l hw_h hw_l3 hw_l4 hw_h3 hw_h4 hw_y hwb9 hwe3 hwe9 hk17 h4 h7
          obtain ⟨y0, y1, y2, y3, y4⟩ := HS7.out.args
          obtain ⟨q0, q1, q2, q3, q4, q5, q6⟩ := qAt_of HS7.out.var
          have fz := HS7.out.frz
          simp only at y0 y1 y2 y3 y4 q0 q1 q2 q3 q4 q5 q6
          go_upto_region 18 with fail
          clear y0 y1 y2 y3 y4 q0 q1 q2 q3 q4 q5 q6 fz
          go_wp2_with (first | (refine wpList_load_row rfl 29 _ rfl yb rfl 29 _ _ _ HS7.out.var Try.underlying29 rfl (by kernel_rfl) ?_) | (refine wpList_store_row rfl 29 _ _ rfl (W.heap.size + 1) _ rfl rfl 29 _ HS7.out.res (by kernel_rfl) rfl (by simp [Value.oneCell']) ?_))
          refine bodyPost_ret (v := qV ⟨kk, z2, z4, (z5 - 2) * 3 - 20, (z5 - 2 + z6) * 3 - 20, 1 + z7, 0⟩) (results_cell_row rfl _ _ (W.heap.size + 1) 29 _ (0, 0) _ rfl (setRow_heap _ _ _ _ _ _ HS7.out.res) Try.underlying29 rfl (by kernel_rfl)) rfl ⟨?_, below_row HS7.out.old hWn _⟩
          rw [HE.out]
      · have HE : Hid (hQ = ⟨kk, z2, z4, (z5 - 2) * 3 - 20, (z5 - 2 + z6) * 3 - 20, 0, 0⟩) := Lib.hid (by rw [← HQX.out, if_neg (by omega), if_neg h4, if_neg (by omega)])
        have h7 : (kk == 7) = false := by simp; omega
        clear hw_b1 hw_l hw_h hw_l3 hw_l4 hw_h3 hw_h4 hw_y hwb9 hwe3 hwe9 hk17
        obtain ⟨y0, y1, y2, y3, y4⟩ := HS6.out.args
        obtain ⟨q0, q1, q2, q3, q4, q5, q6⟩ := qAt_of HS6.out.var
        have fz := HS6.out.frz
        simp only at y0 y1 y2 y3 y4 q0 q1 q2 q3 q4 q5 q6
        go_upto_region 18 with fail
        clear y0 y1 y2 y3 y4 q0 q1 q2 q3 q4 q5 q6 fz
        go_wp2_with (first | (refine wpList_load_row rfl 29 _ rfl yb rfl 29 _ _ _ HS6.out.var Try.underlying29 rfl (by kernel_rfl) ?_) | (refine wpList_store_row rfl 29 _ _ rfl (W.heap.size + 1) _ rfl rfl 29 _ HS6.out.res (by kernel_rfl) rfl (by simp [Value.oneCell']) ?_))
        refine bodyPost_ret (v := qV ⟨kk, z2, z4, (z5 - 2) * 3 - 20, (z5 - 2 + z6) * 3 - 20, 0, 0⟩) (results_cell_row rfl _ _ (W.heap.size + 1) 29 _ (0, 0) _ rfl (setRow_heap _ _ _ _ _ _ HS6.out.res) Try.underlying29 rfl (by kernel_rfl)) rfl ⟨?_, below_row HS6.out.old hWn _⟩
        rw [HE.out]
    · have h3' : (z4 == 3) = false := by simp [h3]
      simp only [if_neg h3] at HQX
      clear h3
      obtain ⟨y0, y1, y2, y3, y4⟩ := HS4.out.args
      obtain ⟨q0, q1, q2, q3, q4, q5, q6⟩ := qAt_of HS4.out.var
      have fz := HS4.out.frz
      simp only at y0 y1 y2 y3 y4 q0 q1 q2 q3 q4 q5 q6
      go_upto_region 12 with fail
      clear y0 y1 y2 y3 y4 q0 q1 q2 q3 q4 q5 q6 fz
      by_cases h4 : 4 ≤ kk
      · obtain ⟨y0, y1, y2, y3, y4⟩ := HS4.out.args
        obtain ⟨q0, q1, q2, q3, q4, q5, q6⟩ := qAt_of HS4.out.var
        have fz := HS4.out.frz
        simp only at y0 y1 y2 y3 y4 q0 q1 q2 q3 q4 q5 q6
        go_upto_region 13 with fail
        clear y0 y1 y2 y3 y4 q0 q1 q2 q3 q4 q5 q6 fz
        obtain ⟨y0, y1, y2, y3, y4⟩ := HS4.out.args
        obtain ⟨q0, q1, q2, q3, q4, q5, q6⟩ := qAt_of HS4.out.var
        have fz := HS4.out.frz
        simp only at y0 y1 y2 y3 y4 q0 q1 q2 q3 q4 q5 q6
        go_wp2_with fail
        (with_reducible refine (P7.out _).mono ?_)
        rintro e wx ⟨rfl, rfl⟩
        go_upto_region 14 with fail
        have HS5 := Lib.hid (HS4.out.set (j := 5) (u := .int .i64 (1 + z7)) (q' := ⟨kk, z2, z4, z5 - 2, z5 - 2 + z6, 1 + z7, 0⟩) rfl)
        generalize v4.setCell ⟨yb, 5, none⟩ (.int .i64 (1 + z7)) = v5 at HS5 ⊢
        clear y0 y1 y2 y3 y4 q0 q1 q2 q3 q4 q5 q6 fz
        by_cases h7 : kk = 7
        · have h7' : (kk == 7) = true := by simp [h7]
          obtain ⟨y0, y1, y2, y3, y4⟩ := HS5.out.args
          obtain ⟨q0, q1, q2, q3, q4, q5, q6⟩ := qAt_of HS5.out.var
          have fz := HS5.out.frz
          simp only at y0 y1 y2 y3 y4 q0 q1 q2 q3 q4 q5 q6
          go_upto_region 15 with fail
          clear y0 y1 y2 y3 y4 q0 q1 q2 q3 q4 q5 q6 fz
          obtain ⟨y0, y1, y2, y3, y4⟩ := HS5.out.args
          obtain ⟨q0, q1, q2, q3, q4, q5, q6⟩ := qAt_of HS5.out.var
          have fz := HS5.out.frz
          simp only at y0 y1 y2 y3 y4 q0 q1 q2 q3 q4 q5 q6
          go_wp2_with fail
          (with_reducible refine (P8.out _).mono ?_)
          rintro e wx ⟨rfl, rfl⟩
          go_upto_region 16 with fail
          have HS6 := Lib.hid (HS5.out.set (j := 6) (u := .int .i64 (z8)) (q' := ⟨kk, z2, z4, z5 - 2, z5 - 2 + z6, 1 + z7, z8⟩) rfl)
          generalize v5.setCell ⟨yb, 6, none⟩ (.int .i64 (z8)) = v6 at HS6 ⊢
          clear y0 y1 y2 y3 y4 q0 q1 q2 q3 q4 q5 q6 fz
          obtain ⟨y0, y1, y2, y3, y4⟩ := HS6.out.args
          obtain ⟨q0, q1, q2, q3, q4, q5, q6⟩ := qAt_of HS6.out.var
          have fz := HS6.out.frz
          simp only at y0 y1 y2 y3 y4 q0 q1 q2 q3 q4 q5 q6
          go_wp2_with fail
          (with_reducible refine (P9.out _).mono ?_)
          rintro e wx ⟨rfl, rfl⟩
          by_cases h9 : 0 < z9
          · have HE : Hid (hQ = ⟨kk, z2, z4, z5 - 2, z5 - 2 + z6, 2, z8⟩) := Lib.hid (by rw [← HQX.out, if_pos ⟨h7, h9⟩, if_pos h7])
            clear h7
            go_upto_region 18 with fail
            have HS7 := Lib.hid (HS6.out.set (j := 5) (u := .int .i64 (2)) (q' := ⟨kk, z2, z4, z5 - 2, z5 - 2 + z6, 2, z8⟩) rfl)
            generalize v6.setCell ⟨yb, 5, none⟩ (.int .i64 (2)) = v7 at HS7 ⊢
            clear y0 y1 y2 y3 y4 q0 q1 q2 q3 q4 q5 q6 fz
            clear hw_b1 hw_l hw_h hw_l3 hw_l4 hw_h3 hw_h4 hw_y hwb9 hwe3 hwe9 hk17
            go_wp2_with (first | (refine wpList_load_row rfl 29 _ rfl yb rfl 29 _ _ _ HS7.out.var Try.underlying29 rfl (by kernel_rfl) ?_) | (refine wpList_store_row rfl 29 _ _ rfl (W.heap.size + 1) _ rfl rfl 29 _ HS7.out.res (by kernel_rfl) rfl (by simp [Value.oneCell']) ?_))
            refine bodyPost_ret (v := qV ⟨kk, z2, z4, z5 - 2, z5 - 2 + z6, 2, z8⟩) (results_cell_row rfl _ _ (W.heap.size + 1) 29 _ (0, 0) _ rfl (setRow_heap _ _ _ _ _ _ HS7.out.res) Try.underlying29 rfl (by kernel_rfl)) rfl ⟨?_, below_row HS7.out.old hWn _⟩
            rw [HE.out]
          · have HE : Hid (hQ = ⟨kk, z2, z4, z5 - 2, z5 - 2 + z6, 1 + z7, z8⟩) := Lib.hid (by rw [← HQX.out, if_neg (fun h => h9 h.2), if_pos h4, if_pos h7])
            clear h7
            go_upto_region 18 with fail
            clear y0 y1 y2 y3 y4 q0 q1 q2 q3 q4 q5 q6 fz
            clear hw_b1 hw_l hw_h hw_l3 hw_l4 hw_h3 hw_h4 hw_y hwb9 hwe3 hwe9 hk17
            go_wp2_with (first | (refine wpList_load_row rfl 29 _ rfl yb rfl 29 _ _ _ HS6.out.var Try.underlying29 rfl (by kernel_rfl) ?_) | (refine wpList_store_row rfl 29 _ _ rfl (W.heap.size + 1) _ rfl rfl 29 _ HS6.out.res (by kernel_rfl) rfl (by simp [Value.oneCell']) ?_))
            refine bodyPost_ret (v := qV ⟨kk, z2, z4, z5 - 2, z5 - 2 + z6, 1 + z7, z8⟩) (results_cell_row rfl _ _ (W.heap.size + 1) 29 _ (0, 0) _ rfl (setRow_heap _ _ _ _ _ _ HS6.out.res) Try.underlying29 rfl (by kernel_rfl)) rfl ⟨?_, below_row HS6.out.old hWn _⟩
            rw [HE.out]
        · have HE : Hid (hQ = ⟨kk, z2, z4, z5 - 2, z5 - 2 + z6, 1 + z7, 0⟩) := Lib.hid (by rw [← HQX.out, if_neg (by omega), if_pos h4, if_neg h7])
          have h7' : (kk == 7) = false := by simp [h7]
          clear hw_b1 hw_l hw_h hw_l3 hw_l4 hw_h3 hw_h4 hw_y hwb9 hwe3 hwe9 hk17 h4 h7
          obtain ⟨y0, y1, y2, y3, y4⟩ := HS5.out.args
          obtain ⟨q0, q1, q2, q3, q4, q5, q6⟩ := qAt_of HS5.out.var
          have fz := HS5.out.frz
          simp only at y0 y1 y2 y3 y4 q0 q1 q2 q3 q4 q5 q6
          go_upto_region 18 with fail
          clear y0 y1 y2 y3 y4 q0 q1 q2 q3 q4 q5 q6 fz
          go_wp2_with (first | (refine wpList_load_row rfl 29 _ rfl yb rfl 29 _ _ _ HS5.out.var Try.underlying29 rfl (by kernel_rfl) ?_) | (refine wpList_store_row rfl 29 _ _ rfl (W.heap.size + 1) _ rfl rfl 29 _ HS5.out.res (by kernel_rfl) rfl (by simp [Value.oneCell']) ?_))
          refine bodyPost_ret (v := qV ⟨kk, z2, z4, z5 - 2, z5 - 2 + z6, 1 + z7, 0⟩) (results_cell_row rfl _ _ (W.heap.size + 1) 29 _ (0, 0) _ rfl (setRow_heap _ _ _ _ _ _ HS5.out.res) Try.underlying29 rfl (by kernel_rfl)) rfl ⟨?_, below_row HS5.out.old hWn _⟩
          rw [HE.out]
      · have HE : Hid (hQ = ⟨kk, z2, z4, z5 - 2, z5 - 2 + z6, 0, 0⟩) := Lib.hid (by rw [← HQX.out, if_neg (by omega), if_neg h4, if_neg (by omega)])
        have h7 : (kk == 7) = false := by simp; omega
        clear hw_b1 hw_l hw_h hw_l3 hw_l4 hw_h3 hw_h4 hw_y hwb9 hwe3 hwe9 hk17
        obtain ⟨y0, y1, y2, y3, y4⟩ := HS4.out.args
        obtain ⟨q0, q1, q2, q3, q4, q5, q6⟩ := qAt_of HS4.out.var
        have fz := HS4.out.frz
        simp only at y0 y1 y2 y3 y4 q0 q1 q2 q3 q4 q5 q6
        go_upto_region 18 with fail
        clear y0 y1 y2 y3 y4 q0 q1 q2 q3 q4 q5 q6 fz
        go_wp2_with (first | (refine wpList_load_row rfl 29 _ rfl yb rfl 29 _ _ _ HS4.out.var Try.underlying29 rfl (by kernel_rfl) ?_) | (refine wpList_store_row rfl 29 _ _ rfl (W.heap.size + 1) _ rfl rfl 29 _ HS4.out.res (by kernel_rfl) rfl (by simp [Value.oneCell']) ?_))
        refine bodyPost_ret (v := qV ⟨kk, z2, z4, z5 - 2, z5 - 2 + z6, 0, 0⟩) (results_cell_row rfl _ _ (W.heap.size + 1) 29 _ (0, 0) _ rfl (setRow_heap _ _ _ _ _ _ HS4.out.res) Try.underlying29 rfl (by kernel_rfl)) rfl ⟨?_, below_row HS4.out.old hWn _⟩
        rw [HE.out]
end Go.Proofs.Ytgbnjjgnihjfgaa
end

section
set_option linter.unusedVariables false
set_option linter.unusedSimpArgs false
namespace Go.Proofs.Ytgbnjjgnihjfgaa
open Go.ChangeShapes Go.WideShapes Go.ChangeAt Go.RowKit

theorem c52 : Try.prog.cellsOf 52 = 5 := by kernel_rfl
theorem c35 : Try.prog.cellsOf 35 = 10 := by kernel_rfl
set_option maxRecDepth 100000 in
theorem open_arr5 {H : Type} {enc : TypeId × Value → H} {w : World} {base : Nat} {sp : Nat → Bool} {held : Bool} {r : Reach} {b0 : Nat} {v : Value} {d : DataW H} {p : List MemPlace}
    (hval : Value.okWide Try.prog w r b0 52 v) (hd : DataW.Trod enc Try.prog w base sp held 52 v d p) : ∃ x : X5, v = x5V x ∧ x.Ok := by
  obtain ⟨cs, rfl, hsz, _⟩ : ∃ cs, v = .agg cs ∧ cs.size = Try.prog.cellsOf 52 ∧ Row.okWide Try.prog w r b0 52 cs := by
    simpa [Value.okWide, Try.underlying52] using hval
  rw [c52] at hsz
  obtain ⟨l⟩ := cs
  obtain ⟨q0, q1, q2, q3, q4, rfl⟩ : ∃ a b c d e, l = [a, b, c, d, e] := match l, hsz with | [a, b, c, d, e], _ => ⟨a, b, c, d, e, rfl⟩
  obtain ⟨fuel, hf⟩ := hd
  obtain ⟨xs, m, rfl, _, _, hn, hel⟩ := DataW.trod_array Try.underlying52 hf
  have h0 := hel 0 (by omega)
  have h1 := hel 1 (by omega)
  have h2 := hel 2 (by omega)
  have h3 := hel 3 (by omega)
  have h4 := hel 4 (by omega)
  rw [List.getElem?_eq_getElem (by omega), c3] at h0 h1 h2 h3 h4
  obtain ⟨z0, rfl, i0⟩ := int_of (c := q0) (by simpa [Value.cells] using h0)
  obtain ⟨z1, rfl, i1⟩ := int_of (c := q1) (by simpa [Value.cells] using h1)
  obtain ⟨z2, rfl, i2⟩ := int_of (c := q2) (by simpa [Value.cells] using h2)
  obtain ⟨z3, rfl, i3⟩ := int_of (c := q3) (by simpa [Value.cells] using h3)
  obtain ⟨z4, rfl, i4⟩ := int_of (c := q4) (by simpa [Value.cells] using h4)
  exact ⟨⟨z0, z1, z2, z3, z4⟩, rfl, i0, i1, i2, i3, i4⟩
/-- The numbers of a change are ints. -/
def MCh.wd (c : MCh) : Prop := I64 c.t ∧ I64 c.k ∧ c.o.wd ∧ c.n.wd
set_option maxRecDepth 100000 in
theorem open_chg {H : Type} {enc : TypeId × Value → H} {w : World} {base : Nat} {sp : Nat → Bool} {held : Bool} {r : Reach} {b0 : Nat} {v : Value} {d : DataW H} {p : List MemPlace}
    (hval : Value.okWide Try.prog w r b0 35 v) (hd : DataW.Trod enc Try.prog w base sp held 35 v d p) : ∃ c : MCh, v = chV c ∧ c.wd := by
  obtain ⟨cs, rfl, hsz, _⟩ : ∃ cs, v = .agg cs ∧ cs.size = Try.prog.cellsOf 35 ∧ Row.okWide Try.prog w r b0 35 cs := by
    simpa [Value.okWide, Try.underlying35] using hval
  rw [c35] at hsz
  obtain ⟨l⟩ := cs
  obtain ⟨q0, q1, q2, q3, q4, q5, q6, q7, q8, q9, rfl⟩ : ∃ a b c d e f g h i j, l = [a, b, c, d, e, f, g, h, i, j] := match l, hsz with | [a, b, c, d, e, f, g, h, i, j], _ => ⟨a, b, c, d, e, f, g, h, i, j, rfl⟩
  obtain ⟨fuel, hf⟩ := hd
  change DataW.trod enc Try.prog w base sp held fuel 35 _ = _ at hf
  obtain ⟨xs, m, rfl, _, _, hn, hel⟩ := DataW.trod_struct Try.underlying35 hf
  have h0 := hel 0 _ rfl
  have h1 := hel 1 _ rfl
  have h2 := hel 2 _ rfl
  have h3 := hel 3 _ rfl
  have h4 := hel 4 _ rfl
  have h5 := hel 5 _ rfl
  rw [List.getElem?_eq_getElem (by rw [hn]; decide)] at h0 h1 h2 h3 h4 h5
  change DataW.trod enc Try.prog w base sp held m 3 (List.take (Try.prog.cellsOf 3) (List.drop 0 _)) = _ at h0
  change DataW.trod enc Try.prog w base sp held m 3 (List.take (Try.prog.cellsOf 3) (List.drop 1 _)) = _ at h1
  change DataW.trod enc Try.prog w base sp held m 4 (List.take (Try.prog.cellsOf 4) (List.drop 2 _)) = _ at h2
  change DataW.trod enc Try.prog w base sp held m 24 (List.take (Try.prog.cellsOf 24) (List.drop 3 _)) = _ at h3
  change DataW.trod enc Try.prog w base sp held m 4 (List.take (Try.prog.cellsOf 4) (List.drop 6 _)) = _ at h4
  change DataW.trod enc Try.prog w base sp held m 24 (List.take (Try.prog.cellsOf 24) (List.drop 7 _)) = _ at h5
  simp only [c3, c4, c29] at h0 h1 h2 h3 h4 h5
  obtain ⟨t, rfl, it⟩ := int_of (c := q0) (by simpa [Value.cells] using h0)
  obtain ⟨k, rfl, ik⟩ := int_of (c := q1) (by simpa [Value.cells] using h1)
  obtain ⟨x, rfl⟩ := bool_of (c := q2) (by simpa [Value.cells] using h2)
  obtain ⟨vo, rfl, rfl, rfl, ho⟩ := v3_of (c0 := q3) (c1 := q4) (c2 := q5) (by simpa [Value.cells] using h3)
  obtain ⟨y, rfl⟩ := bool_of (c := q6) (by simpa [Value.cells] using h4)
  obtain ⟨vn, rfl, rfl, rfl, hn'⟩ := v3_of (c0 := q7) (c1 := q8) (c2 := q9) (by simpa [Value.cells] using h5)
  exact ⟨⟨t, k, x, vo, y, vn⟩, rfl, it, ik, ho, hn'⟩
end Go.Proofs.Ytgbnjjgnihjfgaa
end

section
set_option linter.unusedVariables false
set_option linter.unusedSimpArgs false
namespace Go.Proofs.Ytgbnjjgnihjfgaa
open Go.RowKit Go.Sort Go.ChangeMaps Go.MapKept

/-- What a law has at hand: a state, a query in a variable, results in variables. -/
structure SEg (L : List MRow) (p : Int) (w0 w : World) (b1 : Nat) (m1 : Option Nat) (qb : Nat) (q : MQ) (A : List (Nat × Value × Int × Bool)) (B : List (Value × List MRow)) : Prop where
  st : StAt w b1 m1 L p
  nb : qb ≠ b1
  nm : m1 ≠ some qb
  qblk : w.heap[qb]? = some (.cells (qC q) 29 (0, 0))
  res : ∀ x ∈ A, w.heap[x.1]? = some (.cells (resC x.2.1 x.2.2.1 x.2.2.2) 46 (0, 0)) ∧ x.1 ≠ qb
  rows : ∀ x ∈ B, OwnR w (qb + 1) x.1 x.2
  old : Below w0.heap.size w0 w
  ge : w0.heap.size ≤ qb
section
variable {L : List MRow} {p : Int} {w0 w w' : World} {b1 qb : Nat} {m1 : Option Nat} {q : MQ} {A : List (Nat × Value × Int × Bool)} {B : List (Value × List MRow)}
theorem SEg.below (h : SEg L p w0 w b1 m1 qb q A B) (k : Below w.heap.size w w') : SEg L p w0 w' b1 m1 qb q A B :=
  ⟨h.st.below k, h.nb, h.nm, (k.block _ (lt_of_block h.qblk)).trans h.qblk, fun x hx => ⟨(k.block _ (lt_of_block (h.res x hx).1)).trans (h.res x hx).1, (h.res x hx).2⟩, fun x hx => (h.rows x hx).below k, bt h.old k, h.ge⟩
theorem SEg.set (h : SEg L p w0 w b1 m1 qb q A B) {j : Nat} {u : Value} {q' : MQ} (hq : (qC q).setIfInBounds j u = qC q') : SEg L p w0 (w.setCell ⟨qb, j, none⟩ u) b1 m1 qb q' A B := by
  have k : Kept (fun i => i = qb) w (w.setCell ⟨qb, j, none⟩ u) := Kept.setCell (F := fun i => i = qb) (p := ⟨qb, j, none⟩) (Kept.refl _ _) (.inl rfl) u
  refine ⟨h.st.kept k (fun i hf e => ?_), h.nb, h.nm, by rw [setC_heap h.qblk j u, hq], fun x hx => ⟨(k.block _ (lt_of_block (h.res x hx).1) (h.res x hx).2).trans (h.res x hx).1, (h.res x hx).2⟩, fun x hx => (h.rows x hx).kept k (fun i hi e => by omega), h.old.trans (k.below h.old.size (fun i e => by have := h.ge; omega)), h.ge⟩
  subst e
  rcases hf with e | e
  · exact h.nb e
  · exact h.nm e
end
end Go.Proofs.Ytgbnjjgnihjfgaa
end

section
set_option linter.unusedVariables false
set_option linter.unusedSimpArgs false
namespace Go.Proofs.Ytgbnjjgnihjfgaa
open Go.RowKit Go.Sort Go.ChangeMaps Go.MapKept

/-- The row before a change, the one after it; whether they are in a query's scan, and with which measure. -/
def befR (c : MCh) : MRow := if c.had then ⟨c.t, c.k, c.o⟩ else ⟨0, 0, V3.zero⟩
def aftR (c : MCh) : MRow := if c.has then ⟨c.t, c.k, c.n⟩ else ⟨0, 0, V3.zero⟩
def inQ (q : MQ) (r : MRow) (ex : Bool) : Bool := ex && selR q.table q.column q.low q.high r
def msQ (q : MQ) (r : MRow) (b : Bool) : Int := if b then vget r q.by_ else 0
def inB (q : MQ) (c : MCh) : Bool := inQ q (befR c) c.had
def inA (q : MQ) (c : MCh) : Bool := inQ q (aftR c) c.has
def msB (q : MQ) (c : MCh) : Int := msQ q (befR c) (inB q c)
def msA (q : MQ) (c : MCh) : Int := msQ q (aftR c) (inA q c)
def touchK (q : MQ) (c : MCh) : Bool :=
  if q.kind = 1 ∨ q.kind = 2 then inB q c || inA q c
  else if q.kind = 3 then inB q c != inA q c
  else if q.kind = 4 then msB q c != msA q c
  else if q.kind = 5 ∨ q.kind = 6 then inB q c != inA q c || msB q c != msA q c
  else inB q c || inA q c || decide (c.t = q.other)
/-- **A change touches a query.** -/
def touchB (q : MQ) (c : MCh) : Bool := validB q && vc c && touchK q c

/-- x put into a list ahead of the first thing that it precedes. -/
def insB {α : Type} (p : α → Bool) (x : α) (l : List α) : List α := l.take (l.findIdx p) ++ x :: l.drop (l.findIdx p)
theorem ins_perm {α : Type} (p : α → Bool) (x : α) (l : List α) : (insB p x l).Perm (x :: l) := by
  unfold insB
  refine List.perm_middle.trans ?_
  rw [List.take_append_drop]

/-- The row x comes ahead of y in the scan. -/
def precQ (q : MQ) (x y : MRow) : Bool := decide (vget x q.column < vget y q.column ∨ vget x q.column = vget y q.column ∧ x.k < y.k)
def rowsP (q : MQ) (l : List MRow) (c : MCh) : List MRow :=
  if inA q c then insB (precQ q (aftR c)) (aftR c) (l.filter fun r => !atk c.t c.k r) else l.filter fun r => !atk c.t c.k r
def cntP (v : Int) (a b : Bool) : Int := if b then wrap64 ((if a then wrap64 (v + 1) else v) - 1) else if a then wrap64 (v + 1) else v
/-- A least (greatest) value behind a change: nothing if it is not told. -/
def extP (lt : Int → Int → Bool) (v : Int) (f a b : Bool) (ma mb : Int) : Option (Int × Bool) :=
  if b && (!f || !lt v mb) then (if !a || !f || lt v ma then none else some (ma, f))
  else if a && (!f || lt ma v) then some (ma, true) else some (v, f)
/-- The pairs of which rows consist, without a single row at their end. -/
def prs : List MRow → List (MRow × MRow)
  | a :: b :: l => (a, b) :: prs l
  | _ => []
def unprs (l : List (MRow × MRow)) : List MRow := l.flatMap fun p => [p.1, p.2]
def rightP (ps : List (MRow × MRow)) (c : MCh) : Option (List (MRow × MRow)) :=
  if c.had = false then none
  else if c.has = false then some (ps.filter fun p => !decide (p.2.k = c.k))
  else some (ps.map fun p => if p.2.k = c.k then (p.1, aftR c) else p)
def leftP (q : MQ) (ps : List (MRow × MRow)) (c : MCh) : Option (List (MRow × MRow)) :=
  if inA q c = false then some (ps.filter fun p => !decide (p.1.k = c.k))
  else match ps.find? (fun p => decide (p.2.k = msA q c)) with
    | none => if inB q c && decide (msB q c = msA q c) then some (ps.filter fun p => !decide (p.1.k = c.k)) else none
    | some m => some (insB (fun p => precQ q (aftR c) p.1) (aftR c, m.2) (ps.filter fun p => !decide (p.1.k = c.k)))
/-- **The result of a query behind a change that touches it: nothing if the one before does not tell it.** -/
def patchM (q : MQ) (r : MRes) (c : MCh) : Option MRes :=
  if q.kind = 1 ∨ q.kind = 2 then some ⟨rowsP q r.rows c, r.val, r.fnd⟩
  else if q.kind = 3 then some ⟨r.rows, cntP r.val (inA q c) (inB q c), r.fnd⟩
  else if q.kind = 4 then some ⟨r.rows, wrap64 (r.val + wrap64 (msA q c - msB q c)), r.fnd⟩
  else if q.kind = 5 then (extP ltB r.val r.fnd (inA q c) (inB q c) (msA q c) (msB q c)).map fun s => ⟨r.rows, s.1, s.2⟩
  else if q.kind = 6 then (extP gtB r.val r.fnd (inA q c) (inB q c) (msA q c) (msB q c)).map fun s => ⟨r.rows, s.1, s.2⟩
  else if q.table = q.other then none
  else (if c.t = q.other then rightP (prs r.rows) c else leftP q (prs r.rows) c).map fun ps => ⟨unprs ps, r.val, r.fnd⟩
/-- One change more: the result, as long as it is told, and whether a change has touched. -/
def applyF (q : MQ) (s : Option MRes × Bool) (c : MCh) : Option MRes × Bool :=
  match s.1 with
  | none => s
  | some r => if touchB q c then (patchM q r c, true) else s
/-- **What Apply makes of a result by the changes of a record, and whether one touches.** -/
def applyM (q : MQ) (r : MRes) (cs : List MCh) : Option MRes × Bool := cs.foldl (applyF q) (some r, false)
theorem applyF_none (q : MQ) (t : Bool) : ∀ cs : List MCh, cs.foldl (applyF q) (none, t) = (none, t)
  | [] => rfl
  | c :: cs => by rw [List.foldl_cons]; exact applyF_none q t cs
end Go.Proofs.Ytgbnjjgnihjfgaa
end
