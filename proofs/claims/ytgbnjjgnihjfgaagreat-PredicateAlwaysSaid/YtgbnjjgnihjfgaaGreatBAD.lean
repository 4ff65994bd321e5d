/- MERGED: K6, K7, S4, K8, K9, K10, K11, R1, K12. -/
import Derived.Test.YtgbnjjgnihjfgaaGreatProg
import Derived.WalkKit
import Derived.Below
import Derived.Lib.Hide
import Derived.Laws.StructEq
import Derived.Lib.QuietBelow
import Derived.Deep.RegionHeld3
import Derived.Deep.RegionWith
import Derived.IntWalk
import Derived.BigQuiet
import Derived.Maps.RangeWalk
import Derived.DeepKeys4
import Derived.OneCell
import Derived.StillTail
import Derived.Deep.CutRange
import Derived.Outline
import Derived.WalkSpells
import Derived.Carry
import Derived.Shelf.SlGeneric
import Derived.Shelf.SlSortCmp.WholeK
import Derived.Shelf.SlicesG.Cmp
import Derived.Ground.SlsfProg
import Derived.Ground.SlgcProg
import Derived.Sort.OwnSorted
import Derived.Deep.AppendLies
import Derived.Shelf.SlSortCmp.NoneTotal
import Derived.Test.YtgbnjjgnihjfgaaGreatBAA
import Derived.Test.YtgbnjjgnihjfgaaGreatBAC
import Derived.Test.YtgbnjjgnihjfgaaGreatBAB
section
set_option linter.unusedVariables false
set_option linter.unusedSimpArgs false
namespace Go.Proofs.YtgbnjjgnihjfgaaGreat
open Go.RowKit Go.Sort Go.ChangeMaps Go.MapKept

theorem gc_alloc (w : World) (o : Obj) : GC w (w.alloc o) := ⟨⟨0, #[o]⟩, by rw [alloc_eq_grow]; rfl⟩

set_option maxRecDepth 100000 in
set_option maxHeartbeats 400000 in
theorem value_gr (r : MRow) (col : Int) (w : World) (h1 : 0 ≤ col) (h2 : col ≤ 3) :
    Calls Tryz.prog 70 #[rowV r, .int .i64 col] w fun e w' => e = .returned (.int .i64 (vget r col)) ∧ GC w w' := by
  obtain ⟨t, k, ⟨a, b, c⟩⟩ := r
  unfold rowV
  have : col = 0 ∨ col = 1 ∨ col = 2 ∨ col = 3 := by omega
  clear h1 h2
  rcases this with rfl | rfl | rfl | rfl
  all_goals
    go_enter Tryz.func70, Tryz.ntmps70
    go_wp2
    go_ret
    exact ⟨rfl, gc_alloc _ _⟩

def orI (x y : Int) : Int := if x = 0 then y else x
set_option maxRecDepth 100000 in
set_option maxHeartbeats 1000000 in
theorem or_two (g : Nat) (x y : Int) (w : World) (h0 : w.cell? ⟨g, 0, none⟩ = some (.int .i64 x)) (h1 : w.cell? ⟨g, 1, none⟩ = some (.int .i64 y)) :
    Calls Tryz.prog 106 #[.slice (some ⟨g, 0, none⟩) 2 2] w fun e w' => e = .returned (.int .i64 (orI x y)) ∧ w = w' := by
  by_cases hx : x = 0
  · have HO : Hid (orI x y = y) := Lib.hid (by simp [orI, hx])
    have d1 : (x != 0) = false := by simp [hx]
    rw [HO.out]
    clear hx
    by_cases hy : y = 0
    · have d2 : (y != 0) = false := by simp [hy]
      have Hy := Lib.hid hy
      clear hy
      go_enter Tryz.func106, Tryz.ntmps106
      go_wp2
      refine wp_loop_rounds 3 ?_
      rw [rounds_succ]
      go_wp2
      rw [rounds_succ]
      go_wp2
      rw [rounds_succ]
      go_wp2
      go_ret
      exact ⟨by rw [Hy.out]; rfl, rfl⟩
    · have d2 : (y != 0) = true := by simp [hy]
      clear hy
      go_enter Tryz.func106, Tryz.ntmps106
      go_wp2
      refine wp_loop_rounds 2 ?_
      rw [rounds_succ]
      go_wp2
      rw [rounds_succ]
      go_wp2
      go_ret
      exact ⟨rfl, rfl⟩
  · have HO : Hid (orI x y = x) := Lib.hid (by simp [orI, hx])
    have d1 : (x != 0) = true := by simp [hx]
    rw [HO.out]
    clear hx
    go_enter Tryz.func106, Tryz.ntmps106
    go_wp2
    refine wp_loop_rounds 2 ?_
    rw [rounds_succ]
    go_wp2
    go_ret
    exact ⟨rfl, rfl⟩

/-- The order of rows by a column's values, then by keys. -/
def cmpR (col : Int) (x y : MRow) : Int := orI (Lib.compareInt (vget x col) (vget y col)) (Lib.compareInt x.k y.k)

set_option maxRecDepth 100000 in
set_option maxHeartbeats 4000000 in
theorem closure_cmp (x y : MRow) (col : Int) (B : Nat) (W : World) (h1 : 0 ≤ col) (h2 : col ≤ 3) (hB : W.cell? ⟨B, 0, none⟩ = some (.int .i64 col)) :
    Calls Tryz.prog 105 #[rowV x, rowV y, .pointer (some ⟨B, 0, none⟩)] W fun e w' => e = .returned (.int .i64 (cmpR col x y)) ∧ GC W w' := by
  have hbl := World.block_lt_of_cell? W _ hB
  obtain ⟨xt, xk, ⟨xa, xb, xc⟩⟩ := x
  obtain ⟨yt, yk, ⟨ya, yb, yc⟩⟩ := y
  have HBc := Lib.hid hB
  have HC : Hid (0 ≤ col ∧ col ≤ 3) := Lib.hid ⟨h1, h2⟩
  clear hB h1 h2
  unfold rowV
  go_enter Tryz.func105, Tryz.ntmps105
  go_wp2_with fail
  have HX0 : Hid (RowAt ((W.alloc (.cells #[.int .i64 xt, .int .i64 xk, .int .i64 xa, .int .i64 xb, .int .i64 xc] 57)).alloc (.cells #[.int .i64 yt, .int .i64 yk, .int .i64 ya, .int .i64 yb, .int .i64 yc] 57)) W.heap.size ⟨xt, xk, ⟨xa, xb, xc⟩⟩) :=
    Lib.hid (rowAt_of (t := 57) (((MapKept.heap_alloc (W.alloc (.cells #[.int .i64 xt, .int .i64 xk, .int .i64 xa, .int .i64 xb, .int .i64 xc] 57)) _).2 _ (by simp)).trans (MapKept.heap_alloc W _).1))
  have HY0 : Hid (RowAt ((W.alloc (.cells #[.int .i64 xt, .int .i64 xk, .int .i64 xa, .int .i64 xb, .int .i64 xc] 57)).alloc (.cells #[.int .i64 yt, .int .i64 yk, .int .i64 ya, .int .i64 yb, .int .i64 yc] 57)) (W.heap.size + 1) ⟨yt, yk, ⟨ya, yb, yc⟩⟩) :=
    Lib.hid (rowAt_of (t := 57) (by have := (MapKept.heap_alloc (W.alloc (.cells #[.int .i64 xt, .int .i64 xk, .int .i64 xa, .int .i64 xb, .int .i64 xc] 57)) (.cells #[.int .i64 yt, .int .i64 yk, .int .i64 ya, .int .i64 yb, .int .i64 yc] 57)).1; simpa using this))
  have HG : Hid (GC W ((W.alloc (.cells #[.int .i64 xt, .int .i64 xk, .int .i64 xa, .int .i64 xb, .int .i64 xc] 57)).alloc (.cells #[.int .i64 yt, .int .i64 yk, .int .i64 ya, .int .i64 yb, .int .i64 yc] 57))) := Lib.hid (gc_trans (gc_alloc _ _) (gc_alloc _ _))
  have hz : W.heap.size + 1 < ((W.alloc (.cells #[.int .i64 xt, .int .i64 xk, .int .i64 xa, .int .i64 xb, .int .i64 xc] 57)).alloc (.cells #[.int .i64 yt, .int .i64 yk, .int .i64 ya, .int .i64 yb, .int .i64 yc] 57)).heap.size := by simp
  obtain ⟨wb, Hwb⟩ : ∃ wb, Hid ((W.alloc (.cells #[.int .i64 xt, .int .i64 xk, .int .i64 xa, .int .i64 xb, .int .i64 xc] 57)).alloc (.cells #[.int .i64 yt, .int .i64 yk, .int .i64 ya, .int .i64 yb, .int .i64 yc] 57) = wb) := ⟨_, Lib.hid rfl⟩
  rw [Hwb.out] at HX0 HY0 HG hz ⊢
  have hk : ∀ w0, GC wb w0 → ∀ d os, Below wb.heap.size wb (grow (w0.drewN d) os) := fun w0 h d os => gc_below (gc_trans h ⟨⟨d, os⟩, rfl⟩)
  have hcol : ∀ w0, GC wb w0 → ∀ d os, (grow (w0.drewN d) os).cell? ⟨B, 0, none⟩ = some (.int .i64 col) := fun w0 h d os => by
    rw [(hk w0 h d os).cell (p := ⟨B, 0, none⟩) (show B < wb.heap.size by omega), (gc_below HG.out).cell (p := ⟨B, 0, none⟩) hbl]
    exact HBc.out
  have hx : ∀ w0, GC wb w0 → ∀ d os, RowAt (grow (w0.drewN d) os) W.heap.size ⟨xt, xk, ⟨xa, xb, xc⟩⟩ := fun w0 h d os => by
    have k := fun j => (hk w0 h d os).cell (p := ⟨W.heap.size, j, none⟩) (show W.heap.size < wb.heap.size by omega)
    exact ⟨(k 0).trans HX0.out.c0, (k 1).trans HX0.out.c1, (k 2).trans HX0.out.c2, (k 3).trans HX0.out.c3, (k 4).trans HX0.out.c4⟩
  have hy : ∀ w0, GC wb w0 → ∀ d os, RowAt (grow (w0.drewN d) os) (W.heap.size + 1) ⟨yt, yk, ⟨ya, yb, yc⟩⟩ := fun w0 h d os => by
    have k := fun j => (hk w0 h d os).cell (p := ⟨W.heap.size + 1, j, none⟩) hz
    exact ⟨(k 0).trans HY0.out.c0, (k 1).trans HY0.out.c1, (k 2).trans HY0.out.c2, (k 3).trans HY0.out.c3, (k 4).trans HY0.out.c4⟩
  have x0 := fun w0 h d os => (hx w0 h d os).c0
  have x1 := fun w0 h d os => (hx w0 h d os).c1
  have x2 := fun w0 h d os => (hx w0 h d os).c2
  have x3 := fun w0 h d os => (hx w0 h d os).c3
  have x4 := fun w0 h d os => (hx w0 h d os).c4
  have y0 := fun w0 h d os => (hy w0 h d os).c0
  have y1 := fun w0 h d os => (hy w0 h d os).c1
  have y2 := fun w0 h d os => (hy w0 h d os).c2
  have y3 := fun w0 h d os => (hy w0 h d os).c3
  have y4 := fun w0 h d os => (hy w0 h d os).c4
  simp only at x0 x1 x2 x3 x4 y0 y1 y2 y3 y4
  clear hx hy hk
  obtain ⟨vx, Hvx⟩ : ∃ v, Hid (vget ⟨xt, xk, ⟨xa, xb, xc⟩⟩ col = v) := ⟨_, Lib.hid rfl⟩
  obtain ⟨vy, Hvy⟩ : ∃ v, Hid (vget ⟨yt, yk, ⟨ya, yb, yc⟩⟩ col = v) := ⟨_, Lib.hid rfl⟩
  have hvx : ∀ w, Calls Tryz.prog 70 #[rowV ⟨xt, xk, ⟨xa, xb, xc⟩⟩, .int .i64 col] w fun e w' => e = .returned (.int .i64 vx) ∧ GC w w' := fun w => by rw [← Hvx.out]; exact value_gr _ _ _ HC.out.1 HC.out.2
  have hvy : ∀ w, Calls Tryz.prog 70 #[rowV ⟨yt, yk, ⟨ya, yb, yc⟩⟩, .int .i64 col] w fun e w' => e = .returned (.int .i64 vy) ∧ GC w w' := fun w => by rw [← Hvy.out]; exact value_gr _ _ _ HC.out.1 HC.out.2
  have HR : Hid (cmpR col ⟨xt, xk, ⟨xa, xb, xc⟩⟩ ⟨yt, yk, ⟨ya, yb, yc⟩⟩ = orI (Lib.compareInt vx vy) (Lib.compareInt xk yk)) := Lib.hid (by rw [← Hvx.out, ← Hvy.out]; rfl)
  obtain ⟨c1, Hc1⟩ : ∃ v, Hid (Lib.compareInt vx vy = v) := ⟨_, Lib.hid rfl⟩
  obtain ⟨c2, Hc2⟩ : ∃ v, Hid (Lib.compareInt xk yk = v) := ⟨_, Lib.hid rfl⟩
  have hc1 : ∀ w, Calls Tryz.prog 107 #[.int .i64 vx, .int .i64 vy] w fun e w' => e = .returned (.int .i64 c1) ∧ GC w w' := fun w => by rw [← Hc1.out]; exact (Tryz.cmp_Compare_int vx vy w).mono fun e w' ⟨h1, h2⟩ => ⟨h1, h2 ▸ gc_refl w⟩
  have hc2 : ∀ w, Calls Tryz.prog 107 #[.int .i64 xk, .int .i64 yk] w fun e w' => e = .returned (.int .i64 c2) ∧ GC w w' := fun w => by rw [← Hc2.out]; exact (Tryz.cmp_Compare_int xk yk w).mono fun e w' ⟨h1, h2⟩ => ⟨h1, h2 ▸ gc_refl w⟩
  have kvx : ∀ w0 d os, Calls Tryz.prog 70 #[rowV ⟨xt, xk, ⟨xa, xb, xc⟩⟩, .int .i64 col] (grow (w0.drewN d) os) fun e w'' => e = .returned (.int .i64 vx) ∧ GC w0 w'' := fun w0 d os => (hvx _).mono fun e w' ⟨h1, h2⟩ => ⟨h1, gc_trans ⟨⟨d, os⟩, rfl⟩ h2⟩
  have kvy : ∀ w0 d os, Calls Tryz.prog 70 #[rowV ⟨yt, yk, ⟨ya, yb, yc⟩⟩, .int .i64 col] (grow (w0.drewN d) os) fun e w'' => e = .returned (.int .i64 vy) ∧ GC w0 w'' := fun w0 d os => (hvy _).mono fun e w' ⟨h1, h2⟩ => ⟨h1, gc_trans ⟨⟨d, os⟩, rfl⟩ h2⟩
  have kc1 : ∀ w0 d os, Calls Tryz.prog 107 #[.int .i64 vx, .int .i64 vy] (grow (w0.drewN d) os) fun e w'' => e = .returned (.int .i64 c1) ∧ GC w0 w'' := fun w0 d os => (hc1 _).mono fun e w' ⟨h1, h2⟩ => ⟨h1, gc_trans ⟨⟨d, os⟩, rfl⟩ h2⟩
  have kc2 : ∀ w0 d os, Calls Tryz.prog 107 #[.int .i64 xk, .int .i64 yk] (grow (w0.drewN d) os) fun e w'' => e = .returned (.int .i64 c2) ∧ GC w0 w'' := fun w0 d os => (hc2 _).mono fun e w' ⟨h1, h2⟩ => ⟨h1, gc_trans ⟨⟨d, os⟩, rfl⟩ h2⟩
  clear hvx hvy hc1 hc2
  have HRc : Hid (Ending.returned (.int .i64 (orI c1 c2)) = .returned (.int .i64 (cmpR col ⟨xt, xk, ⟨xa, xb, xc⟩⟩ ⟨yt, yk, ⟨ya, yb, yc⟩⟩))) := Lib.hid (by rw [HR.out, Hc1.out, Hc2.out])
  refine wp_region_calmG 12 15 [0, 1, 2, 3, 4, 5, 6, 7, 8, 9, 10, 11] (by kernel_rfl) (by kernel_rfl) (by intro oz h; simp at h) (by intro oz h; simp at h) (by rfl) ?_
  simp only [List.take_succ_cons, List.take_zero]
  iterate 2
    apply wpCalm_want
    · rfl
    · exact gc_refl
    · exact ⟨_, gc_refl _⟩
    · intro w0 hC0 K hK
      go_big_quiet_op
      exact hK
  apply wpCalm_want
  · rfl
  · exact gc_refl
  · exact ⟨_, gc_refl _⟩
  · intro w0 hC0 K hK
    go_big_quiet_op
    apply Exists.intro
    refine ⟨fun p => ?_, ?_⟩
    · with_reducible exact kvx _ _ _
    · exact hK
  iterate 2
    apply wpCalm_want
    · rfl
    · exact gc_refl
    · exact ⟨_, gc_refl _⟩
    · intro w0 hC0 K hK
      go_big_quiet_op
      exact hK
  apply wpCalm_want
  · rfl
  · exact gc_refl
  · exact ⟨_, gc_refl _⟩
  · intro w0 hC0 K hK
    go_big_quiet_op
    apply Exists.intro
    refine ⟨fun p => ?_, ?_⟩
    · with_reducible exact kvy _ _ _
    · exact hK
  apply wpCalm_want
  · rfl
  · exact gc_refl
  · exact ⟨_, gc_refl _⟩
  · intro w0 hC0 K hK
    go_big_quiet_op
    apply Exists.intro
    refine ⟨fun p => ?_, ?_⟩
    · with_reducible exact kc1 _ _ _
    · exact hK
  iterate 4
    apply wpCalm_want
    · rfl
    · exact gc_refl
    · exact ⟨_, gc_refl _⟩
    · intro w0 hC0 K hK
      go_big_quiet_op
      exact hK
  apply wpCalm_want
  · rfl
  · exact gc_refl
  · exact ⟨_, gc_refl _⟩
  · intro w0 hC0 K hK
    go_big_quiet_op
    apply Exists.intro
    refine ⟨fun p => ?_, ?_⟩
    · with_reducible exact kc2 _ _ _
    · exact hK
  refine wpCalm_nil ?_
  intro wc hbc
  simp only [List.drop_succ_cons, List.drop_zero]
  try go_frame
  clear x0 x1 x2 x3 x4 y0 y1 y2 y3 y4 hcol kvx kvy kc1 kc2
  have HGc := Lib.hid (gc_trans HG.out hbc)
  clear hbc
  go_wp2_with fail
  (with_reducible refine (or_two wc.heap.size c1 c2 _ (by simp [go_sem]) (by simp [go_sem])).mono ?_)
  rintro e w9 ⟨rfl, rfl⟩
  go_wp2_with fail
  go_ret
  exact ⟨HRc.out, gc_trans HGc.out (gc_alloc _ _)⟩

/-! ### Which rows are chosen -/
def selT (t : Int) (r : MRow) : Bool := decide (r.t = t)
def selR (t col lo hi : Int) (r : MRow) : Bool := decide (r.t = t ∧ lo ≤ vget r col ∧ vget r col ≤ hi)

set_option maxRecDepth 100000 in
theorem closure_rows (r : MRow) (t : Int) (B : Nat) (W : World) (hB : W.cell? ⟨B, 0, none⟩ = some (.int .i64 t)) :
    Calls Tryz.prog 68 #[rowV r, .pointer (some ⟨B, 0, none⟩)] W fun e w' => e = .returned (.bool (selT t r)) ∧ Below W.heap.size W w' := by
  have hbl : B < W.heap.size := World.block_lt_of_cell? W _ hB
  have hbne : ¬ B = W.heap.size := by omega
  obtain ⟨rt, rk, ⟨ra, rb, rc⟩⟩ := r
  unfold rowV
  by_cases h : rt = t
  · have HS : Hid (selT t ⟨rt, rk, ⟨ra, rb, rc⟩⟩ = true) := Lib.hid (decide_eq_true h)
    have d1 : (rt == t) = true := by simp [h]
    rw [HS.out]
    clear h
    go_enter Tryz.func68, Tryz.ntmps68
    go_wp2
    go_ret
    exact ⟨rfl, ba _ _⟩
  · have HS : Hid (selT t ⟨rt, rk, ⟨ra, rb, rc⟩⟩ = false) := Lib.hid (decide_eq_false h)
    have d1 : (rt == t) = false := by simp [h]
    rw [HS.out]
    clear h
    go_enter Tryz.func68, Tryz.ntmps68
    go_wp2
    go_ret
    exact ⟨rfl, ba _ _⟩

set_option maxRecDepth 100000 in
set_option maxHeartbeats 1000000 in
theorem closure_range (r : MRow) (t col lo hi : Int) (B0 B1 B2 B3 : Nat) (W : World) (h1 : 0 ≤ col) (h2 : col ≤ 3) (hB0 : W.cell? ⟨B0, 0, none⟩ = some (.int .i64 col)) (hB1 : W.cell? ⟨B1, 0, none⟩ = some (.int .i64 t))
    (hB2 : W.cell? ⟨B2, 0, none⟩ = some (.int .i64 lo)) (hB3 : W.cell? ⟨B3, 0, none⟩ = some (.int .i64 hi)) :
    Calls Tryz.prog 78 #[rowV r, .pointer (some ⟨B0, 0, none⟩), .pointer (some ⟨B1, 0, none⟩), .pointer (some ⟨B2, 0, none⟩), .pointer (some ⟨B3, 0, none⟩)] W fun e w' => e = .returned (.bool (selR t col lo hi r)) ∧ Below W.heap.size W w' := by
  have l0 : B0 < W.heap.size := World.block_lt_of_cell? W _ hB0
  have l1 : B1 < W.heap.size := World.block_lt_of_cell? W _ hB1
  have l2 : B2 < W.heap.size := World.block_lt_of_cell? W _ hB2
  have l3 : B3 < W.heap.size := World.block_lt_of_cell? W _ hB3
  have n0 : ¬ B0 = W.heap.size := by omega
  have n1 : ¬ B1 = W.heap.size := by omega
  have n2 : ¬ B2 = W.heap.size := by omega
  have n3 : ¬ B3 = W.heap.size := by omega
  have HV0 := fun w => value_gr r col w h1 h2
  have HSel : Hid (selR t col lo hi r = decide (r.t = t ∧ lo ≤ vget r col ∧ vget r col ≤ hi)) := Lib.hid rfl
  obtain ⟨v, Hv⟩ : ∃ v, Hid (vget r col = v) := ⟨_, Lib.hid rfl⟩
  simp only [Hv.out] at HV0
  rw [Hv.out] at HSel
  have HV := Lib.hid HV0
  clear HV0 Hv h1 h2
  obtain ⟨rt, rk, ⟨ra, rb, rc⟩⟩ := r
  unfold rowV
  rw [HSel.out]
  clear HSel
  simp only
  have HW0 : Hid (∀ o w', GC (W.alloc o) w' → (w'.cell? ⟨B0, 0, none⟩ = some (.int .i64 col) ∧ w'.cell? ⟨B1, 0, none⟩ = some (.int .i64 t) ∧ w'.cell? ⟨B2, 0, none⟩ = some (.int .i64 lo) ∧ w'.cell? ⟨B3, 0, none⟩ = some (.int .i64 hi))) := Lib.hid (fun o w' h => by
    have k := bt (ba W o) (gc_below h)
    exact ⟨(k.cell (p := ⟨B0, 0, none⟩) l0).trans hB0, (k.cell (p := ⟨B1, 0, none⟩) l1).trans hB1, (k.cell (p := ⟨B2, 0, none⟩) l2).trans hB2, (k.cell (p := ⟨B3, 0, none⟩) l3).trans hB3⟩)
  have HRow : Hid (∀ w', GC (W.alloc (.cells #[.int .i64 rt, .int .i64 rk, .int .i64 ra, .int .i64 rb, .int .i64 rc] 57)) w' → RowAt w' W.heap.size ⟨rt, rk, ⟨ra, rb, rc⟩⟩) := Lib.hid (fun w' h => by
    refine rowAt_of (t := 57) (((gc_below h).block _ (by simp)).trans (MapKept.heap_alloc W _).1))
  by_cases hx1 : rt = t
  · by_cases hx2 : lo ≤ v
    · have Hd : Hid (decide (rt = t ∧ lo ≤ v ∧ v ≤ hi) = decide (v ≤ hi)) := Lib.hid (by simp [hx1, hx2])
      have d1 : (rt == t) = true := by simp [hx1]
      have d2 : decide (lo ≤ v) = true := decide_eq_true hx2
      rw [Hd.out]
      clear hx1 hx2
      go_enter Tryz.func78, Tryz.ntmps78
      go_wp2_with fail
      (with_reducible refine (HV.out _).mono ?_)
      rintro e w1 ⟨rfl, hg⟩
      obtain ⟨e0, e1, e2, e3⟩ := HW0.out _ _ hg
      obtain ⟨y0, y1, y2, y3, y4⟩ := HRow.out _ hg
      simp only at y0 y1 y2 y3 y4
      have HB := Lib.hid (bt (ba W _) (gc_below hg))
      clear hg
      go_wp2_with fail
      go_ret
      exact ⟨rfl, HB.out⟩
    · have Hd : Hid (decide (rt = t ∧ lo ≤ v ∧ v ≤ hi) = false) := Lib.hid (by simp [hx2])
      have d1 : (rt == t) = true := by simp [hx1]
      have d2 : decide (lo ≤ v) = false := decide_eq_false hx2
      rw [Hd.out]
      clear hx1 hx2
      go_enter Tryz.func78, Tryz.ntmps78
      go_wp2_with fail
      (with_reducible refine (HV.out _).mono ?_)
      rintro e w1 ⟨rfl, hg⟩
      obtain ⟨e0, e1, e2, e3⟩ := HW0.out _ _ hg
      obtain ⟨y0, y1, y2, y3, y4⟩ := HRow.out _ hg
      simp only at y0 y1 y2 y3 y4
      have HB := Lib.hid (bt (ba W _) (gc_below hg))
      clear hg
      go_wp2_with fail
      go_ret
      exact ⟨rfl, HB.out⟩
  · have Hd : Hid (decide (rt = t ∧ lo ≤ v ∧ v ≤ hi) = false) := Lib.hid (by simp [hx1])
    have d1 : (rt == t) = false := by simp [hx1]
    rw [Hd.out]
    clear hx1
    go_enter Tryz.func78, Tryz.ntmps78
    go_wp2_with fail
    (with_reducible refine (HV.out _).mono ?_)
    rintro e w1 ⟨rfl, hg⟩
    obtain ⟨e0, e1, e2, e3⟩ := HW0.out _ _ hg
    obtain ⟨y0, y1, y2, y3, y4⟩ := HRow.out _ hg
    simp only at y0 y1 y2 y3 y4
    have HB := Lib.hid (bt (ba W _) (gc_below hg))
    clear hg
    go_wp2_with fail
    go_ret
    exact ⟨rfl, HB.out⟩
end Go.Proofs.YtgbnjjgnihjfgaaGreat
end

section
set_option linter.unusedVariables false
set_option linter.unusedSimpArgs false
namespace Go.Proofs.YtgbnjjgnihjfgaaGreat
open Go.RowKit Go.Sort Go.ChangeMaps Go.MapKept

/-- Block b is a map with the rows of L; block r an iterator over it, to which those of rest are still to come. -/
def StRng (W : World) (b r : Nat) (L rest : List MRow) : Prop :=
  ∃ es clock since seen c0, W.heap[b]? = some (.map es clock) ∧ Stamped es clock ∧ Ent es.toList L ∧ Wd L ∧ W.heap[r]? = some (.mapIter (some b) since seen c0) ∧ (∀ x ∈ es.toList, x.born < since) ∧ Ent (leftOf es seen).toList rest ∧ since ≤ c0 ∧ since ≤ clock

theorem StRng.left_eq {W : World} {b r : Nat} {L rest : List MRow} (h : StRng W b r L rest) : W.rangeLeft b r = rest.length := by
  obtain ⟨es, clock, since, seen, c0, hb, hs, he, hw, hr, hold, hl, _⟩ := h
  simp only [World.rangeLeft, hb, hr]
  have := hl.length_eq
  simpa using this
theorem StRng.ne {W : World} {b r : Nat} {L rest : List MRow} (h : StRng W b r L rest) : r ≠ b := by
  obtain ⟨es, clock, since, seen, c0, hb, hs, he, hw, hr, _⟩ := h
  intro e
  rw [e, hb] at hr
  cases hr
theorem StRng.lt {W : World} {b r : Nat} {L rest : List MRow} (h : StRng W b r L rest) : r < W.heap.size ∧ b < W.heap.size := by
  obtain ⟨es, clock, since, seen, c0, hb, hs, he, hw, hr, _⟩ := h
  exact ⟨lt_of_block hr, lt_of_block hb⟩
theorem StRng.kept {F : Nat → Prop} {W W' : World} {b r : Nat} {L rest : List MRow} (h : StRng W b r L rest) (k : Kept F W W') (hb : ¬ F b) (hr : ¬ F r) : StRng W' b r L rest := by
  have hlt := h.lt
  obtain ⟨es, clock, since, seen, c0, h1, hs, he, hw, h2, h3⟩ := h
  exact ⟨es, clock, since, seen, c0, (k.block b hlt.2 hb).trans h1, hs, he, hw, (k.block r hlt.1 hr).trans h2, h3⟩

theorem StMap.range {W : World} {b : Nat} {L : List MRow} (h : StMap W b L) :
    (Instr.range 76 (.map (some b))).run Tryz.prog W = .ok (.pointer (some ⟨W.heap.size, 0, none⟩)) (W.alloc (.mapIter (some b) (match W.heap[b]? with | some (.map _ c) => c | _ => 0) #[] (match W.heap[b]? with | some (.map _ c) => c | _ => 0))) ∧
    StRng (W.alloc (.mapIter (some b) (match W.heap[b]? with | some (.map _ c) => c | _ => 0) #[] (match W.heap[b]? with | some (.map _ c) => c | _ => 0))) b W.heap.size L L := by
  have hlt := h.lt
  obtain ⟨es, clock, hb, hs, he, hw⟩ := h
  rw [hb]
  refine ⟨run_range_map W 76 110 57 b es clock Tryz.underlying76 hb, es, clock, clock, #[], clock, ((MapKept.heap_alloc W _).2 b hlt).trans hb, hs, he, hw, (MapKept.heap_alloc W _).1, ((stamped_iff es clock).1 hs).1, ?_, Nat.le_refl _, Nat.le_refl _⟩
  have : (leftOf es #[]).toList = es.toList := by simp [leftOf]
  rw [this]
  exact he

theorem left_push {l : List MapEntry} {seen : Array Nat} {e : MapEntry} (hn : (l.map (·.born)).Nodup) (he : e ∈ l) (hs : seen.contains e.born = false) :
    (l.filter fun x => !seen.contains x.born).Perm (e :: l.filter fun x => !(seen.push e.born).contains x.born) := by
  induction l with
  | nil => simp at he
  | cons a l ih =>
    rw [List.map_cons, List.nodup_cons] at hn
    obtain ⟨h1, h2⟩ := hn
    have hpush : ∀ x : MapEntry, (seen.push e.born).contains x.born = (seen.contains x.born || x.born == e.born) := fun x => by
      rw [Bool.eq_iff_iff]
      simp
    by_cases hae : a = e
    · subst hae
      have ha : (!seen.contains a.born) = true := by rw [hs]; rfl
      have ha2 : (!(seen.push a.born).contains a.born) = false := by rw [hpush]; simp
      rw [List.filter_cons_of_pos (p := fun x : MapEntry => !seen.contains x.born) ha, List.filter_cons_of_neg (p := fun x : MapEntry => !(seen.push a.born).contains x.born) (by rw [ha2]; exact Bool.false_ne_true)]
      refine List.Perm.cons _ (List.Perm.of_eq (List.filter_congr fun x hx => ?_))
      rw [hpush]
      have : (x.born == a.born) = false := by
        simp only [beq_eq_false_iff_ne]
        exact fun q => h1 (List.mem_map.2 ⟨x, hx, q⟩)
      simp [this]
    · have hel : e ∈ l := by
        rcases List.mem_cons.1 he with q | q
        · exact absurd q.symm hae
        · exact q
      have hab : (a.born == e.born) = false := by
        simp only [beq_eq_false_iff_ne]
        exact fun q => h1 (List.mem_map.2 ⟨e, hel, q.symm⟩)
      by_cases ha : seen.contains a.born = true
      · rw [List.filter_cons_of_neg (p := fun x : MapEntry => !seen.contains x.born) (by rw [ha]; simp), List.filter_cons_of_neg (p := fun x : MapEntry => !(seen.push e.born).contains x.born) (by rw [hpush, ha]; simp)]
        exact ih h2 hel
      · have ha' : seen.contains a.born = false := by simpa using ha
        rw [List.filter_cons_of_pos (p := fun x : MapEntry => !seen.contains x.born) (by rw [ha']; rfl), List.filter_cons_of_pos (p := fun x : MapEntry => !(seen.push e.born).contains x.born) (by rw [hpush, ha', hab]; rfl)]
        exact ((ih h2 hel).cons a).trans (List.Perm.swap _ _ _)

/-- The step. -/
theorem StRng.next {W : World} {b r : Nat} {L rest : List MRow} (h : StRng W b r L rest) (ty : TypeId) :
    (rest = [] ∧ (Instr.next (.pointer (some ⟨r, 0, none⟩)) false ty).run Tryz.prog W = .ok (.tuple #[.bool false]) W) ∨
    ∃ q rest' W', rest.Perm (q :: rest') ∧ (Instr.next (.pointer (some ⟨r, 0, none⟩)) false ty).run Tryz.prog W = .ok (.tuple #[.bool true, plV q.t q.k, rowV q]) W' ∧ StRng W' b r L rest' ∧ Kept (fun k => k = r) W W' ∧
      (Instr.entry (.pointer (some ⟨r, 0, none⟩))).run Tryz.prog W' = .ok (.tuple #[plV q.t q.k, rowV q]) W' := by
  have hne := h.ne
  obtain ⟨es, clock, since, seen, c0, hb, hs, he, hw, hr, hold, hl, hsc, hsk⟩ := h
  rcases run_next_at (P := Tryz.prog) W ty r b since c0 seen es clock hr hb hold hsc with ⟨h0, hrun⟩ | ⟨e, hel, w1, hal, hrun⟩
  · refine .inl ⟨?_, hrun⟩
    have := hl.length_eq
    simp only [List.length_map, Array.length_toList, h0] at this
    exact List.length_eq_zero_iff.1 this.symm
  · obtain ⟨hem, hes⟩ := mem_left hel
    have hr1 : w1.heap[r]? = some (.mapIter (some b) since seen c0) := by rcases hal with rfl | rfl <;> exact hr
    have hb1 : w1.heap[b]? = some (.map es clock) := by rcases hal with rfl | rfl <;> exact hb
    have hset := heap_set (o' := .mapIter (some b) since (seen.push e.born) clock) hr1
    have hb' : (setBlock w1 r (.mapIter (some b) since (seen.push e.born) clock)).heap[b]? = some (.map es clock) := (hset.2 b (fun e1 => hne e1.symm)).trans hb1
    have hm := hl.mem_iff.1 (List.mem_map.2 ⟨e, hel, rfl⟩)
    obtain ⟨q, hq, hqe⟩ := List.mem_map.1 hm
    simp only [Prod.mk.injEq] at hqe
    have hp : rest.Perm (q :: rest.erase q) := List.perm_cons_erase hq
    have hpush := left_push (seen := seen) ((stamped_iff es clock).1 hs).2.1 hem hes
    have hto : ∀ sn : Array Nat, (leftOf es sn).toList = es.toList.filter fun x => !sn.contains x.born := fun sn => by simp [leftOf]
    have hl' : Ent (leftOf es (seen.push e.born)).toList (rest.erase q) := by
      unfold Ent at hl ⊢
      rw [hto] at hl ⊢
      have hA := (hpush.map fun x => (x.key, x.val)).symm.trans (hl.trans (hp.map fun r => (plV r.t r.k, rowV r)))
      rw [List.map_cons, List.map_cons] at hA
      have hh : (e.key, e.val) = (plV q.t q.k, rowV q) := by rw [hqe.1, hqe.2]
      rw [hh] at hA
      exact hA.cons_inv
    refine .inr ⟨q, rest.erase q, _, hp, by rw [hqe.1, hqe.2]; exact hrun, ⟨es, clock, since, seen.push e.born, clock, hb', hs, he, hw, hset.1, hold, hl', hsk, hsk⟩, ?_, ?_⟩
    · refine ⟨?_, ?_, ?_, ?_, ?_⟩
      · rcases hal with rfl | rfl <;> rfl
      · rcases hal with rfl | rfl <;> rfl
      · rcases hal with rfl | rfl <;> rfl
      · rcases hal with rfl | rfl <;> simp [setBlock]
      · intro k hk hkr
        refine (hset.2 k hkr).trans ?_
        rcases hal with rfl | rfl <;> rfl
    · have := run_entry_at (P := Tryz.prog) _ r b since seen es clock e hset.1 hb' hem ((stamped_iff es clock).1 hs).2.1
      rw [hqe.1, hqe.2]
      exact this

section
variable {w : World} {ops : Array Oper} {rest : List Oper} {o : Oper} {a : Act} {Q : Exit → Act → World → Prop}
theorem wpList_range_st (hg : o.guard = none) (m : Operand) (hop : o.op = Op.range 76 m) (b : Nat) (L : List MRow) (hm : a.eval m = .map (some b)) (hs : StMap w b L)
    (hK : ∀ w', StRng w' b w.heap.size L L → Below w.heap.size w w' → w'.heap.size = w.heap.size + 1 → wpList Tryz.prog ops Q rest (a.put o.dst (.pointer (some ⟨w.heap.size, 0, none⟩))) w') : wpList Tryz.prog ops Q (o :: rest) a w := by
  refine wpList_plain hg fun K' hK' => ?_
  obtain ⟨hrun, h1⟩ := hs.range
  unfold Oper.wp
  simp only [execOp, hop, hm, hrun, Result.andThen, Sem.run_bind, Oper.upon]
  exact hK' _ _ (hK _ h1 (ba _ _) (by simp))
theorem wpList_next_st (hg : o.guard = none) (it : Operand) (hop : o.op = Op.next it false) (b r : Nat) (L rs : List MRow) (hit : a.eval it = .pointer (some ⟨r, 0, none⟩)) (h : StRng w b r L rs)
    (hDone : rs = [] → wpList Tryz.prog ops Q rest (a.put o.dst (.tuple #[.bool false])) w)
    (hMore : ∀ (q : MRow) (rs' : List MRow) (w' : World), rs.Perm (q :: rs') → StRng w' b r L rs' → Kept (fun k => k = r) w w' → (Instr.entry (.pointer (some ⟨r, 0, none⟩))).run Tryz.prog w' = .ok (.tuple #[plV q.t q.k, rowV q]) w' →
      wpList Tryz.prog ops Q rest (a.put o.dst (.tuple #[.bool true, plV q.t q.k, rowV q])) w') : wpList Tryz.prog ops Q (o :: rest) a w := by
  refine wpList_plain hg fun K' hK' => ?_
  unfold Oper.wp
  rcases h.next o.type with ⟨h0, hrun⟩ | ⟨q, rs', w', hp, hrun, hst, hk, hen⟩
  · simp [execOp, hop, hit, hrun, Result.andThen]
    exact hK' _ _ (hDone h0)
  · simp [execOp, hop, hit, hrun, Result.andThen]
    exact hK' _ _ (hMore q rs' w' hp hst hk hen)
end
end Go.Proofs.YtgbnjjgnihjfgaaGreat
end

section
set_option linter.unusedVariables false
set_option linter.unusedSimpArgs false
namespace Go.Proofs.YtgbnjjgnihjfgaaGreat
open Go.RowKit Go.Sort Go.ChangeMaps Go.MapKept

instance : Inhabited MRow := ⟨rowZ⟩
def rcl (r : MRow) : List Value := [.int .i64 r.t, .int .i64 r.k, .int .i64 r.v.a, .int .i64 r.v.b, .int .i64 r.v.c]
def flat (M : List MRow) : List Value := M.flatMap rcl
theorem rcl_len (r : MRow) : (rcl r).length = 5 := rfl
theorem flat_len (M : List MRow) : (flat M).length = M.length * 5 := by
  induction M with
  | nil => rfl
  | cons r M ih => rw [flat, List.flatMap_cons, List.length_append, rcl_len, List.length_cons, ← flat, ih]; omega
theorem flat_app (M N : List MRow) : flat (M ++ N) = flat M ++ flat N := by simp [flat]
theorem flat_get (M : List MRow) : ∀ i j, i < M.length → j < 5 → (flat M)[i * 5 + j]? = (rcl (M.getD i rowZ))[j]? := by
  induction M with
  | nil => intro i j h; simp at h
  | cons r M ih =>
    intro i j hi hj
    rw [flat, List.flatMap_cons, ← flat]
    cases i with
    | zero =>
      rw [List.getElem?_append_left (by rw [rcl_len]; omega)]
      simp
    | succ i =>
      rw [List.getElem?_append_right (by rw [rcl_len]; omega), rcl_len, show (i + 1) * 5 + j - 5 = i * 5 + j by omega, ih i j (by simpa using hi) hj]
      simp
theorem rcl_one (r : MRow) : ∀ v ∈ rcl r, v.oneCell' = true := by
  intro v hv
  simp [rcl] at hv
  rcases hv with rfl | rfl | rfl | rfl | rfl <;> rfl

/-- A row's cells from an offset on. -/
def RwO (W : World) (b o : Nat) (r : MRow) : Prop := ∀ j : Nat, j < 5 → W.cell? ⟨b, o + j, none⟩ = (rcl r)[j]?
/-- A slice that reads as a list of rows. -/
def RowS (W : World) (v : Value) (M : List MRow) : Prop :=
  ∃ a n cap, v = .slice a n cap ∧ n = M.length ∧ n ≤ cap ∧ cap ≤ 9223372036854775807 ∧ (1 ≤ n → ∃ b o, a = some ⟨b, o, none⟩ ∧ b < W.heap.size ∧ ∀ i, i < n → RwO W b (o + i * 5) (M.getD i rowZ))
theorem RwO.cells {W : World} {b o : Nat} {r : MRow} (h : RwO W b o r) : W.cell? ⟨b, o, none⟩ = some (.int .i64 r.t) ∧ W.cell? ⟨b, o + 1, none⟩ = some (.int .i64 r.k) ∧ W.cell? ⟨b, o + 2, none⟩ = some (.int .i64 r.v.a) ∧ W.cell? ⟨b, o + 3, none⟩ = some (.int .i64 r.v.b) ∧ W.cell? ⟨b, o + 4, none⟩ = some (.int .i64 r.v.c) :=
  ⟨h 0 (by omega), h 1 (by omega), h 2 (by omega), h 3 (by omega), h 4 (by omega)⟩
theorem RwO.below {W W' : World} {b o : Nat} {r : MRow} (h : RwO W b o r) (hb : b < W.heap.size) (k : Below W.heap.size W W') : RwO W' b o r := fun j hj => by rw [(bcell k).1 b _ hb]; exact h j hj
theorem RwO.kept {F : Nat → Prop} {W W' : World} {b o : Nat} {r : MRow} (h : RwO W b o r) (k : Kept F W W') (hb : b < W.heap.size) (hf : ¬ F b) : RwO W' b o r := fun j hj => (k.cell (p := ⟨b, o + j, none⟩) hb hf).trans (h j hj)
theorem RowS.below {W W' : World} {v : Value} {M : List MRow} (h : RowS W v M) (k : Below W.heap.size W W') : RowS W' v M := by
  obtain ⟨a, n, cap, e, hn, h1, h2, h3⟩ := h
  refine ⟨a, n, cap, e, hn, h1, h2, fun h => ?_⟩
  obtain ⟨b, o, e, hb, hc⟩ := h3 h
  exact ⟨b, o, e, Nat.lt_of_lt_of_le hb k.size, fun i hi => (hc i hi).below hb k⟩
theorem rowS_nil (W : World) : RowS W (.slice none 0 0) [] := ⟨none, 0, 0, rfl, rfl, Nat.le_refl _, by omega, fun h => by omega⟩

/-- A slice of the call's own that holds a list of rows. -/
def OwnR (W : World) (base : Nat) (v : Value) (M : List MRow) : Prop := W.ownsRow base 57 5 v M.length (flat M)
theorem OwnR.nil (W : World) (base : Nat) : OwnR W base (.slice none 0 0) [] := ⟨rfl, .inl ⟨rfl, rfl⟩⟩
theorem OwnR.rowS {W : World} {base : Nat} {v : Value} {M : List MRow} (h : OwnR W base v M) : RowS W v M := by
  obtain ⟨hl, h⟩ := h
  rcases h with ⟨rfl, h0⟩ | ⟨g, cap, cur, rfl, hg, hb, h1, h2, h3, h4⟩
  · obtain rfl := List.length_eq_zero_iff.1 h0
    exact rowS_nil W
  · refine ⟨_, _, cap, rfl, rfl, h1, by unfold maxLen at h2; omega, fun _ => ⟨g, 0, rfl, lt_of_block hb, fun i hi j hj => ?_⟩⟩
    have h5 := flat_get M i j hi hj
    rw [← h4, List.getElem?_take_of_lt (by omega), Array.getElem?_toList] at h5
    rw [← h5]
    simp [World.cell?, hb]
theorem OwnR.below {W W' : World} {base : Nat} {v : Value} {M : List MRow} (h : OwnR W base v M) (k : Below W.heap.size W W') : OwnR W' base v M := by
  obtain ⟨hl, h⟩ := h
  refine ⟨hl, h.imp id fun ⟨g, cap, cur, e, hg, hb, r⟩ => ⟨g, cap, cur, e, hg, (k.block g (lt_of_block hb)).trans hb, r⟩⟩
theorem flatK_eq (M : List MRow) : (flatK rcl 5 M.toArray).toList = flat M := by
  apply List.ext_getElem?
  intro t
  by_cases ht : t < M.length * 5
  · have h1 := flat_get M (t / 5) (t % 5) (by omega) (by omega)
    rw [show t / 5 * 5 + t % 5 = t by omega] at h1
    rw [h1]
    have h2 : (flatK rcl 5 M.toArray)[t]! = (rcl (M.toArray)[t / 5]!)[t % 5]! := get_flatK rcl 5 M.toArray t (by simpa using ht)
    have hs : t < (flatK rcl 5 M.toArray).size := by simpa using ht
    rw [getElem!_pos _ t hs] at h2
    rw [Array.getElem?_toList, Array.getElem?_eq_getElem hs, h2]
    have h3 : (M.toArray)[t / 5]! = M.getD (t / 5) rowZ := by
      rw [getElem!_pos _ _ (by simp; omega), List.getD_eq_getElem?_getD, List.getElem?_eq_getElem (by omega)]
      simp
    rw [h3]
    rw [getElem!_pos _ _ (by rw [rcl_len]; omega), List.getElem?_eq_getElem (by rw [rcl_len]; omega)]
  · rw [List.getElem?_eq_none (by simp; omega), List.getElem?_eq_none (by rw [flat_len]; omega)]
theorem OwnR.holds {W : World} {base g cap : Nat} {M : List MRow} (h : OwnR W base (.slice (some ⟨g, 0, none⟩) M.length cap) M) : HoldsK rcl 5 W g 0 M.toArray ∧ g < W.heap.size ∧ base ≤ g := by
  obtain ⟨hl, h⟩ := h
  rcases h with ⟨h0, _⟩ | ⟨g', cap', cur, hv, hg, hb, h1, h2, h3, h4⟩
  · simp at h0
  · simp only [Value.slice.injEq, Option.some.injEq, Addr.mk.injEq] at hv
    obtain ⟨⟨rfl, _⟩, _, rfl⟩ := hv
    refine ⟨fun t ht => ?_, lt_of_block hb, hg⟩
    have ht' : t < M.length * 5 := by simpa using ht
    refine ⟨?_, by simp [World.frozen?, hb]⟩
    have e1 : (flatK rcl 5 M.toArray)[t]! = (flatK rcl 5 M.toArray).toList[t]'(by simpa using ht') := by rw [getElem!_pos _ t ht]; simp
    have e2 : (flat M)[t]? = some ((flatK rcl 5 M.toArray)[t]!) := by
      rw [← flatK_eq, Array.getElem?_toList, Array.getElem?_eq_getElem ht, getElem!_pos _ t ht]
    rw [← h4, List.getElem?_take_of_lt ht', Array.getElem?_toList] at e2
    simp only [World.cell?, hb, Nat.zero_add, Option.isSome_none, Bool.false_eq_true, if_false]
    exact e2
theorem heap_sortedK {W : World} {g n : Nat} {os : Array Obj} {cur : Array Value} {e : TypeId} {fr : Nat × Nat} (d : Array MRow) (hb : W.heap[g]? = some (.cells cur e fr)) :
    (sortWorldK rcl 5 W g 0 n d os).heap[g]? = some (.cells (putCells id 0 (flatK rcl 5 d) cur) e fr) := by
  have hg : g < W.heap.size := lt_of_block hb
  unfold sortWorldK putRowK
  rw [heap_grow_old _ _ (by simpa using hg)]
  simp [putRow, mapBlock, Sort.ahead, Array.getElem?_modify, hb, onCells]
theorem kept_sortedK {W : World} {g n : Nat} {os : Array Obj} (d : Array MRow) : Kept (fun k => k = g) W (sortWorldK rcl 5 W g 0 n d os) := by
  unfold sortWorldK putRowK
  refine ⟨rfl, rfl, rfl, by simp, fun k hk hne => ?_⟩
  rw [heap_grow_old _ _ (by simpa using hk)]
  have : g ≠ k := fun e => hne e.symm
  simp [putRow, mapBlock, Sort.ahead, Array.getElem?_modify, this]
theorem OwnR.sorted {W : World} {base g cap n : Nat} {M N : List MRow} {os : Array Obj} (h : OwnR W base (.slice (some ⟨g, 0, none⟩) M.length cap) M) (hl : N.length = M.length) :
    OwnR (sortWorldK rcl 5 W g 0 n N.toArray os) base (.slice (some ⟨g, 0, none⟩) M.length cap) N := by
  obtain ⟨_, h⟩ := h
  refine ⟨flat_len N, ?_⟩
  rcases h with ⟨h0, _⟩ | ⟨g', cap', cur, hv, hg, hb, h1, h2, h3, h4⟩
  · simp at h0
  · simp only [Value.slice.injEq, Option.some.injEq, Addr.mk.injEq] at hv
    obtain ⟨⟨rfl, _⟩, _, rfl⟩ := hv
    refine .inr ⟨_, cap, _, by rw [hl], hg, heap_sortedK _ hb, by omega, h2, by simp [putCells, h3], ?_⟩
    rw [← flatK_eq]
    apply List.ext_getElem?
    intro t
    by_cases ht : t < N.length * 5
    · rw [List.getElem?_take_of_lt ht, Array.getElem?_toList]
      have hts : t < (flatK rcl 5 N.toArray).size := by simpa using ht
      have htc : t < cur.size := by rw [h3]; have : N.length * 5 ≤ cap * 5 := Nat.mul_le_mul_right 5 (by omega); omega
      rw [Array.getElem?_toList, Array.getElem?_eq_getElem hts]
      simp only [putCells, Array.getElem?_mapIdx, Array.getElem?_eq_getElem htc, Option.map_some]
      have e1 := getElem!_pos (flatK rcl 5 N.toArray) t hts
      simp only [size_flatK] at hts
      simp [ht]

    · rw [List.getElem?_take_eq_none (by omega), List.getElem?_eq_none (by simp; omega)]
end Go.Proofs.YtgbnjjgnihjfgaaGreat
end

section
set_option linter.unusedVariables false
set_option linter.unusedSimpArgs false
namespace Go.Proofs.YtgbnjjgnihjfgaaGreat
open Go.RowKit Go.Sort Go.ChangeMaps Go.MapKept

/-- By a column's values, then by keys. -/
def rle (col : Int) (x y : MRow) : Prop := vget x col < vget y col ∨ vget x col = vget y col ∧ x.k ≤ y.k
theorem cmpR_neg (col : Int) (x y : MRow) : cmpR col x y < 0 ↔ (vget x col < vget y col ∨ vget x col = vget y col ∧ x.k < y.k) := by
  unfold cmpR orI Lib.compareInt
  by_cases h1 : vget x col < vget y col
  · simp [h1]
  · by_cases h2 : vget y col < vget x col
    · simp [h1, h2]; omega
    · have h3 : vget x col = vget y col := by omega
      by_cases h4 : x.k < y.k
      · simp [h3, h4]
      · by_cases h5 : y.k < x.k
        · simp [h3, h4, h5]
        · simp [h3, h4, h5]
theorem swoR (col : Int) : SWO (ltOf (cmpR col)) where
  irrefl x := by unfold ltOf; rw [decide_eq_false]; rw [cmpR_neg]; omega
  trans x y z h1 h2 := by unfold ltOf at *; rw [decide_eq_true_eq, cmpR_neg] at *; omega
  ntrans x y z h1 h2 := by unfold ltOf at *; rw [decide_eq_false_iff_not, cmpR_neg] at *; omega
/-- What a choice of rows, put in order, is. -/
def SortOf (L : List MRow) (sel : MRow → Bool) (col : Int) (M : List MRow) : Prop := M.Perm (L.filter sel) ∧ M.Pairwise (rle col)
theorem sortOf_unique {L : List MRow} {sel : MRow → Bool} {col t : Int} {M N : List MRow} (hL : Srt L) (ht : ∀ r, sel r = true → r.t = t) (h : SortOf L sel col M) (k : SortOf L sel col N) : M = N := by
  refine List.Perm.eq_of_pairwise (le := rle col) (fun a b ha hb h1 h2 => ?_) h.2 k.2 (h.1.trans k.1.symm)
  obtain ⟨a1, a2⟩ := List.mem_filter.1 (h.1.mem_iff.1 ha)
  obtain ⟨b1, b2⟩ := List.mem_filter.1 (k.1.mem_iff.1 hb)
  refine srt_inj hL a1 b1 ((ht a a2).trans (ht b b2).symm) ?_
  unfold rle at h1 h2
  omega
theorem sortOf_sorted {L : List MRow} {sel : MRow → Bool} {col : Int} {M : List MRow} {d' : Array MRow} (hM : M.Perm (L.filter sel)) (hp : PermIn 0 M.toArray.size M.toArray d') (hs : SortedIn (ltOf (cmpR col)) 0 M.toArray.size d') : SortOf L sel col d'.toList ∧ d'.toList.length = M.length := by
  obtain ⟨h1, _, h2⟩ := hp
  have hsz : d'.size = M.length := by simpa using h1
  have e1 : d'.extract 0 M.toArray.size = d' := by rw [← h1]; simp
  have e2 : M.toArray.extract 0 M.toArray.size = M.toArray := by simp
  rw [e1, e2] at h2
  refine ⟨⟨h2.trans hM, ?_⟩, by simpa using hsz⟩
  rw [List.pairwise_iff_getElem]
  intro i j hi hj hij
  have := hs i j (Nat.zero_le _) hij (by simpa [hsz] using hj)
  unfold ltOf at this
  rw [decide_eq_false_iff_not, cmpR_neg, getElem!_pos d' j (by simpa using hj), getElem!_pos d' i (by simpa using hi)] at this
  simp only [Array.getElem_toList]
  unfold rle
  omega

theorem Tryz.info57 : (Tryz.prog.info? 57).map (fun i => (i.zero, i.size, i.bytes)) = some (some (.agg #[.int .i64 0, .int .i64 0, .int .i64 0, .int .i64 0, .int .i64 0]), 5, 40) := by kernel_rfl
theorem kept_grown {w w' : World} {row : Option Nat} (h : w.grownBy w' row) : Kept (fun k => row = some k) w w' := ⟨h.os, h.tape, h.output, h.size, fun k hk hf => h.block k hk (fun e => hf e.symm)⟩

theorem OwnR.kept {F : Nat → Prop} {W W' : World} {base : Nat} {v : Value} {M : List MRow} (h : OwnR W base v M) (k : Kept F W W') (hF : ∀ i, base ≤ i → ¬ F i) : OwnR W' base v M := by
  obtain ⟨hl, h⟩ := h
  exact ⟨hl, h.imp id fun ⟨g, cap, cur, e, hg, hb, r⟩ => ⟨g, cap, cur, e, hg, (k.block g (lt_of_block hb) (hF g hg)).trans hb, r⟩⟩
theorem OwnR.mono {W : World} {base base' : Nat} {v : Value} {M : List MRow} (h : OwnR W base v M) (hb : base' ≤ base) : OwnR W base' v M := by
  obtain ⟨hl, h⟩ := h
  exact ⟨hl, h.imp id fun ⟨g, cap, cur, e, hg, r⟩ => ⟨g, cap, cur, e, by omega, r⟩⟩
theorem OwnR.own_ge {W : World} {base : Nat} {v : Value} {M : List MRow} (h : OwnR W base v M) {k : Nat} (e : v.ownBlock = some k) : base ≤ k := by
  rcases h.2 with ⟨rfl, _⟩ | ⟨g, cap, cur, rfl, hg, _⟩
  · simp [Value.ownBlock] at e
  · simp [Value.ownBlock] at e; omega

/-- What 'ordered' is handed: a function that says of each row whether it is chosen. -/
def Chooses (W : World) (g : FuncId) (cb : Array Value) (sel : MRow → Bool) : Prop :=
  ∀ (W' : World) (r : MRow), Below W.heap.size W W' → Calls Tryz.prog g (#[rowV r] ++ cb) W' fun e w' => e = .returned (.bool (sel r)) ∧ Below W'.heap.size W' w'

set_option maxRecDepth 100000 in
set_option maxHeartbeats 8000000 in
theorem ordered_some {W : World} {b mb : Nat} {L : List MRow} {p : Int} (h : StAt W b (some mb) L p) {col : Int} (h1 : 0 ≤ col) (h2 : col ≤ 3) {g : FuncId} {cb : Array Value} {sel : MRow → Bool}
    (eg : ∀ args w, (callFunc g args).run Tryz.prog w = .ok (.enter g args) w) (hsel : Chooses W g cb sel) :
    Calls Tryz.prog 67 #[.pointer (some ⟨b, 0, none⟩), .int .i64 col, .func (.func g) #[] cb] W fun e w' => ∃ v M, e = .returned v ∧ OwnR w' W.heap.size v M ∧ SortOf L sel col M ∧ Below W.heap.size W w' := by
  obtain ⟨i0, hI, hZ0, hZ1, hZ2⟩ := info_parts Tryz.info57
  have HS := Lib.hid h
  have HSel := Lib.hid hsel
  have HC : Hid (0 ≤ col ∧ col ≤ 3) := Lib.hid ⟨h1, h2⟩
  have hblt := h.lt
  have hmlt : mb < W.heap.size := h.mlt rfl
  have hbne : ¬ b = W.heap.size := by omega
  obtain ⟨c0, c1, _, _⟩ := h.cells
  clear h hsel h1 h2
  go_enter Tryz.func67, Tryz.ntmps67
  go_wp2_with (at_range; refine wpList_range_st rfl _ rfl mb L rfl (HS.out.below (ba _ _)).mp ?_; intro w0 hrg0 hb0 hs0)
  go_frame
  have HBx : Hid (w0.heap[W.heap.size]? = some (.cells #[.int .i64 col] 3 (0, 0))) := Lib.hid ((hb0.block _ (by simp)).trans (MapKept.heap_alloc W _).1)
  have HB0 : Hid (Below W.heap.size W w0) := Lib.hid (bt (ba W _) hb0)
  have hr0 : (W.alloc (.cells #[.int .i64 col] 3)).heap.size = W.heap.size + 1 := by simp
  have hz0' : w0.heap.size = W.heap.size + 2 := by rw [hs0, hr0]
  rw [hr0] at hrg0 ⊢
  have HL : Hid (L.length ≤ 2000) := Lib.hid HS.out.good.2.2
  clear hb0 hs0 hr0
  go_loopw [7] (fun v wr => ∃ vis rest, Hid (OwnR wr (W.heap.size + 2) v (vis.filter sel)) ∧ Hid (L.Perm (vis ++ rest)) ∧ StRng wr mb (W.heap.size + 1) L rest ∧ Hid (Below W.heap.size W wr) ∧ Hid (wr.heap[W.heap.size]? = some (.cells #[.int .i64 col] 3 (0, 0))) ∧ W.heap.size + 2 ≤ wr.heap.size) (fun _ wr => wr.rangeLeft mb (W.heap.size + 1))
  case atStart => exact ⟨[], L, Lib.hid (OwnR.nil _ _), Lib.hid (List.Perm.refl _), hrg0, HB0, HBx, by omega⟩
  case round =>
    obtain ⟨vis, rest, HO, HP, hrg, HB, HX, hwz⟩ := hrel
    obtain ⟨v, hvv⟩ : ∃ v, v = u7 := ⟨_, rfl⟩
    subst hvv
    clear hrg0
    go_wp2_with (at_next; refine wpList_next_st rfl _ rfl mb (W.heap.size + 1) L rest rfl hrg ?_ ?_)
    · intro hrest
      subst hrest
      have HPe : Hid ((vis.filter sel).Perm (L.filter sel)) := Lib.hid (by have := HP.out; rw [List.append_nil] at this; exact (this.filter sel).symm)
      obtain ⟨M, HM⟩ : ∃ M, Hid (vis.filter sel = M) := ⟨_, Lib.hid rfl⟩
      rw [HM.out] at HO HPe
      have HO' := HO.out
      have hBx : wr.cell? ⟨W.heap.size, 0, none⟩ = some (.int .i64 col) := by simp [World.cell?, HX.out]
      have eg53 : ∀ args w, (callFunc 105 args).run Tryz.prog w = .ok (.enter 105 args) w := enters_of Tryz.func105 (by kernel_rfl) rfl
      obtain ⟨hOl, hO2⟩ := HO'
      rcases hO2 with ⟨rfl, hM0⟩ | ⟨g7, cap7, cur7, rfl, hg7, hb7, hn7, hc7, hs7, ht7⟩
      · have hM : M = [] := List.length_eq_zero_iff.1 hM0
        have hS := fun fv W => AnyF.slices_SortFunc_none (P := Tryz.prog) (ρ := Tryz.laysSort_ren) { Tryz.laysSort with } none 0 fv W
        change ∀ fv W, Calls Tryz.prog 104 _ _ _ at hS
        clear eg53 hOl hrg
        have HSort := Lib.hid hS
        clear hS
        go_wp2_with fail
        (with_reducible refine (HSort.out _ _).mono ?_)
        rintro e w9 ⟨rfl, rfl⟩
        go_wp2_with fail
        go_ret
        refine ⟨_, [], rfl, OwnR.nil _ _, ?_, HB.out⟩
        have := HPe.out
        rw [hM] at this
        exact ⟨this, List.Pairwise.nil⟩
      · have hgB : ¬ W.heap.size = g7 := by omega
        have hwl : W.heap.size < wr.heap.size := by omega
        have hcl : CmpLays Tryz.prog 105 #[.pointer (some ⟨W.heap.size, 0, none⟩)] rcl 5 (cmpR col) g7 0 M.toArray.size wr := fun m os dk hsz x y => by
          have hk := kept_sortedK (W := wr) (g := g7) (n := m) (os := os) dk
          have hcell : (sortWorldK rcl 5 wr g7 0 m dk os).cell? ⟨W.heap.size, 0, none⟩ = some (.int .i64 col) := (hk.cell (p := ⟨W.heap.size, 0, none⟩) hwl hgB).trans hBx
          exact (closure_cmp x y col W.heap.size _ HC.out.1 HC.out.2 hcell).mono fun e w' ⟨he, ⟨q, hq⟩⟩ => ⟨he, q.d, q.os, hq⟩
        have hHd := (OwnR.holds (M := M) (cap := cap7) (g := g7) HO.out)
        have hMl : M.toArray.size < 4611686018427387904 := by
          have h1 := HPe.out.length_eq
          have h2 := List.length_filter_le sel L
          have h3 := HL.out
          simp; omega
        have hS := AnyQ.slices_SortFunc Tryz.laysSort 5 Tryz.isAgg57 Tryz.sizeOf57 rcl rcl_len rcl_one (cmpR col) (swoR col) 105 #[.pointer (some ⟨W.heap.size, 0, none⟩)] g7 0 cap7 M.toArray wr eg53 hcl hHd.1 hHd.2.1 hMl
        change Calls Tryz.prog 104 _ _ _ at hS
        rw [show M.toArray.size = M.length from by simp] at hS
        have HSort := Lib.hid hS
        clear hS hcl hHd eg53 hOl hb7 hn7 hc7 hs7 ht7 hrg hMl
        go_wp2_with fail
        (with_reducible refine HSort.out.mono ?_)
        rintro e w9 ⟨rfl, d', nn, os, hp, hsd, rfl⟩
        have HSO := Lib.hid (sortOf_sorted HPe.out (by simpa using hp) (by simpa using hsd))
        clear hp hsd
        go_wp2_with fail
        go_ret
        refine ⟨_, d'.toList, rfl, ?_, HSO.out.1, ?_⟩
        · have := (OwnR.sorted (n := nn) (os := os) (N := d'.toList) HO.out HSO.out.2).mono (base' := W.heap.size) (by omega)
          simpa using this
        · exact ((Kept.of_below (F := fun k => k = g7) HB.out).trans (kept_sortedK d') (fun _ _ f => f)).below (Nat.le_refl _) (fun k e => by omega)
    · intro q rs' w1 hp hst hk hen
      have HPn : Hid (L.Perm ((vis ++ [q]) ++ rs')) := Lib.hid (HP.out.trans (by
        rw [List.append_assoc]
        exact hp.append_left vis))
      have hlen := hp.length_eq
      have HB1 : Hid (Below W.heap.size W w1) := Lib.hid (((Kept.of_below (F := fun k => k = W.heap.size + 1) HB.out).trans hk (fun _ _ f => f)).below (Nat.le_refl _) (fun k e => by omega))
      have HX1 : Hid (w1.heap[W.heap.size]? = some (.cells #[.int .i64 col] 3 (0, 0))) := Lib.hid ((hk.block _ (by omega) (by omega)).trans HX.out)
      have HO1 : Hid (OwnR w1 (W.heap.size + 2) v (vis.filter sel)) := Lib.hid (HO.out.kept hk (fun i hi e => by omega))
      have hz1 : W.heap.size + 2 ≤ w1.heap.size := Nat.le_trans hwz hk.size
      have hlft := hrg.left_eq
      have HST := Lib.hid hst
      have hvl : vis.length ≤ 2000 := by have h1 := HPn.out.length_eq; have h2 := HL.out; simp only [List.length_append, List.length_singleton] at h1; omega
      have hfl := List.length_filter_le sel vis
      obtain ⟨qt, qk, ⟨qa, qb, qc⟩⟩ := q
      clear hrg hp hst hk
      go_wp2_with fail
      refine (HSel.out _ ⟨qt, qk, ⟨qa, qb, qc⟩⟩ (bt HB1.out (ba w1 _))).mono ?_
      rintro e w2 ⟨rfl, hb2⟩
      have HY2 : Hid (RowAt w2 w1.heap.size ⟨qt, qk, ⟨qa, qb, qc⟩⟩) := Lib.hid (rowAt_of (t := 57) ((hb2.block _ (by simp)).trans (MapKept.heap_alloc w1 _).1))
      have HB12 : Hid (Below w1.heap.size w1 w2) := Lib.hid (bt (ba w1 _) hb2)
      have hz2 : W.heap.size + 2 ≤ w2.heap.size := Nat.le_trans hz1 HB12.out.size
      obtain ⟨bq, Hbq⟩ : ∃ bq, Hid (sel ⟨qt, qk, ⟨qa, qb, qc⟩⟩ = bq) := ⟨_, Lib.hid rfl⟩
      rw [Hbq.out]
      clear hb2 hen
      cases bq
      · have HOn : Hid (OwnR w2 (W.heap.size + 2) v ((vis ++ [(⟨qt, qk, ⟨qa, qb, qc⟩⟩ : MRow)]).filter sel)) := Lib.hid (by
          rw [List.filter_append, List.filter_cons_of_neg (by rw [Hbq.out]; exact Bool.false_ne_true), List.filter_nil, List.append_nil]
          exact HO1.out.below HB12.out)
        have HSn : StRng w2 mb (W.heap.size + 1) L rs' := HST.out.kept (Kept.of_below (F := fun _ => False) HB12.out) id id
        have hl2 := HSn.left_eq
        have HBn : Hid (Below W.heap.size W w2) := Lib.hid (bt HB1.out HB12.out)
        have HXn : Hid (w2.heap[W.heap.size]? = some (.cells #[.int .i64 col] 3 (0, 0))) := Lib.hid ((HB12.out.block _ (by omega)).trans HX1.out)
        go_wp2_with fail
        exact ⟨⟨vis ++ [⟨qt, qk, ⟨qa, qb, qc⟩⟩], rs', HOn, HPn, HSn, HBn, HXn, hz2⟩, by rw [hl2, hlft, hlen]; simp⟩
      · obtain ⟨y0, y1, y2, y3, y4⟩ := HY2.out
        simp only at y0 y1 y2 y3 y4
        have HO2 : Hid (w2.ownsRow (W.heap.size + 2) 57 5 v (vis.filter sel).length (flat (vis.filter sel))) := Lib.hid (HO1.out.below HB12.out)
        go_wp2_with (at_builtin; go_loud (refine wpList_append_own _ rfl _ _ 32 rfl (W.heap.size + 2) 57 i0 (.agg #[.int .i64 0, .int .i64 0, .int .i64 0, .int .i64 0, .int .i64 0]) 5 40 Tryz.underlying32 hI hZ0 hZ1 hZ2 rfl (by decide) _ _ _ rfl (HO2.out.alloc _) ⟨w2.heap.size, 0, none⟩ 1 1 [.int .i64 qt, .int .i64 qk, .int .i64 qa, .int .i64 qb, .int .i64 qc] rfl rfl (World.news_of_block (cs := #[.int .i64 qt, .int .i64 qk, .int .i64 qa, .int .i64 qb, .int .i64 qc]) (t := 57) (fr := (0, 0)) (heap_alloc_new w2 _)) (by simp [Value.oneCell']) (by unfold maxLen; omega) (by omega) (by simp; omega) ?_); intro v' w3 hown' hgrow _)
        have HOn : Hid (OwnR w3 (W.heap.size + 2) v' ((vis ++ [(⟨qt, qk, ⟨qa, qb, qc⟩⟩ : MRow)]).filter sel)) := Lib.hid (by
          rw [List.filter_append, List.filter_cons_of_pos (by rw [Hbq.out]), List.filter_nil]
          unfold OwnR
          rw [List.length_append, flat_app]
          exact hown')
        have hKg : Kept (fun k => v.ownBlock = some k) w2 w3 := (Kept.of_below (F := fun k => v.ownBlock = some k) (ba w2 _)).trans (kept_grown hgrow) (fun _ _ f => f)
        have hge : ∀ k, v.ownBlock = some k → W.heap.size + 2 ≤ k := fun k e => OwnR.own_ge HO1.out e
        have HSn : StRng w3 mb (W.heap.size + 1) L rs' := (HST.out.kept (Kept.of_below (F := fun _ => False) HB12.out) id id).kept hKg (fun e => by have := hge _ e; omega) (fun e => by have := hge _ e; omega)
        have hl2 := HSn.left_eq
        have HBn : Hid (Below W.heap.size W w3) := Lib.hid (((Kept.of_below (F := fun k => v.ownBlock = some k) (bt HB1.out HB12.out)).trans hKg (fun _ _ f => f)).below (Nat.le_refl _) (fun k e => by have := hge _ e; omega))
        have HXn : Hid (w3.heap[W.heap.size]? = some (.cells #[.int .i64 col] 3 (0, 0))) := Lib.hid ((hKg.block _ (by omega) (fun e => by have := hge _ e; omega)).trans ((HB12.out.block _ (by omega)).trans HX1.out))
        have hz3 : W.heap.size + 2 ≤ w3.heap.size := Nat.le_trans hz2 hKg.size
        clear hown' hgrow hKg hge
        go_wp2_with fail
        exact ⟨⟨vis ++ [⟨qt, qk, ⟨qa, qb, qc⟩⟩], rs', HOn, HPn, HSn, HBn, HXn, hz3⟩, by rw [hl2, hlft, hlen]; simp⟩
end Go.Proofs.YtgbnjjgnihjfgaaGreat
end

section
set_option linter.unusedVariables false
set_option linter.unusedSimpArgs false
namespace Go.Proofs.YtgbnjjgnihjfgaaGreat
open Go.RowKit Go.Sort Go.ChangeMaps Go.MapKept

set_option maxRecDepth 100000 in
set_option maxHeartbeats 8000000 in
theorem ordered_none {W : World} {b : Nat} {L : List MRow} {p : Int} (h : StAt W b none L p) {col : Int} (fv : Value) :
    Calls Tryz.prog 67 #[.pointer (some ⟨b, 0, none⟩), .int .i64 col, fv] W fun e w' => e = .returned (.slice none 0 0) ∧ Below W.heap.size W w' := by
  have hblt := h.lt
  have hbne : ¬ b = W.heap.size := by omega
  obtain ⟨c0, c1, _, _⟩ := h.cells
  have hS := fun fv W => AnyF.slices_SortFunc_none (P := Tryz.prog) (ρ := Tryz.laysSort_ren) { Tryz.laysSort with } none 0 fv W
  change ∀ fv W, Calls Tryz.prog 104 _ _ _ at hS
  have HSort := Lib.hid hS
  have hR := fun w => run_range_nilMap (P := Tryz.prog) w 76 110 57 Tryz.underlying76
  have hN := fun ty a b s => run_next_nilMap (P := Tryz.prog) (W.alloc (.cells #[.int .i64 col] 3)) ty a b s
  simp only [World.size_alloc] at hN
  clear hS
  go_enter Tryz.func67, Tryz.ntmps67
  go_wp2_with fail
  refine wp_loop_rounds 1 ?_
  simp only [Code.rounds]
  go_wp2_with fail
  (with_reducible refine (HSort.out _ _).mono ?_)
  rintro e w9 ⟨rfl, rfl⟩
  go_wp2_with fail
  go_ret
  exact ⟨rfl, bt (ba W _) ((ba (W.alloc (.cells #[.int .i64 col] 3)) _).mono (by simp))⟩

/-- A row's value v lies on the rows M in blocks from base on. -/
theorem ordered_any {W : World} {b : Nat} {m : Option Nat} {L : List MRow} {p : Int} (h : StAt W b m L p) {col : Int} (h1 : 0 ≤ col) (h2 : col ≤ 3) {g : FuncId} {cb : Array Value} {sel : MRow → Bool}
    (eg : ∀ args w, (callFunc g args).run Tryz.prog w = .ok (.enter g args) w) (hsel : Chooses W g cb sel) :
    Calls Tryz.prog 67 #[.pointer (some ⟨b, 0, none⟩), .int .i64 col, .func (.func g) #[] cb] W fun e w' => ∃ v M, e = .returned v ∧ OwnR w' W.heap.size v M ∧ SortOf L sel col M ∧ Below W.heap.size W w' := by
  rcases m with _ | mb
  · refine (ordered_none h _).mono fun e w' ⟨he, hb⟩ => ⟨_, [], he, OwnR.nil _ _, ?_, hb⟩
    rw [show L = [] from h.mp]
    exact ⟨List.Perm.refl _, List.Pairwise.nil⟩
  · exact ordered_some h h1 h2 eg hsel
end Go.Proofs.YtgbnjjgnihjfgaaGreat
end

section
set_option linter.unusedVariables false
set_option linter.unusedSimpArgs false
namespace Go.Proofs.YtgbnjjgnihjfgaaGreat
open Go.RowKit Go.Sort Go.ChangeMaps Go.MapKept

/-- What Rows and Range return: a slice of their own with the chosen rows. -/
def SOut (W : World) (L : List MRow) (sel : MRow → Bool) (col : Int) (e : Ending) (w' : World) : Prop :=
  ∃ v M, e = .returned v ∧ OwnR w' W.heap.size v M ∧ SortOf L sel col M ∧ Below W.heap.size W w'
theorem SOut.from {W W1 w' : World} {L : List MRow} {sel : MRow → Bool} {col : Int} {e : Ending} (h : SOut W1 L sel col e w') (hb : Below W.heap.size W W1) : SOut W L sel col e w' := by
  obtain ⟨v, M, he, ho, hs, hk⟩ := h
  exact ⟨v, M, he, ho.mono hb.size, hs, bt hb hk⟩

set_option maxRecDepth 100000 in
theorem rows_any {W : World} {b : Nat} {m : Option Nat} {L : List MRow} {p : Int} (h : StAt W b m L p) (t : Int) :
    Calls Tryz.prog 35 #[.pointer (some ⟨b, 0, none⟩), .int .i64 t] W (SOut W L (selT t) 0) := by
  have hbne : ¬ b = W.heap.size := by have := h.lt; omega
  have eg45 : ∀ args w, (callFunc 68 args).run Tryz.prog w = .ok (.enter 68 args) w := enters_of Tryz.func68 (by kernel_rfl) rfl
  have HO := Lib.hid (ordered_any (h.below (ba W (.cells #[.int .i64 t] 3))) (col := 0) (by omega) (by omega) (g := 68) (cb := #[.pointer (some ⟨W.heap.size, 0, none⟩)]) (sel := selT t) eg45 (fun W' r hB => closure_rows r t W.heap.size W' (by
    rw [hB.cell (p := ⟨W.heap.size, 0, none⟩) (by simp)]
    simp [go_sem])))
  clear h eg45
  go_enter Tryz.func35, Tryz.ntmps35
  go_wp2_with fail
  (with_reducible refine HO.out.mono ?_)
  rintro e w1 hS
  obtain ⟨v, M, rfl, ho, hs, hk⟩ := SOut.from (W := W) hS (ba W _)
  have H := Lib.hid (show SOut W L (selT t) 0 (.returned v) w1 from ⟨v, M, rfl, ho, hs, hk⟩)
  clear hS ho hs hk
  go_wp2_with fail
  go_ret
  exact H.out

/-- The four boxes that Range lays for what its closure captures. -/
def boxes (W : World) (t col lo hi : Int) : World := (((W.alloc (.cells #[.int .i64 t] 3)).alloc (.cells #[.int .i64 col] 3)).alloc (.cells #[.int .i64 lo] 3)).alloc (.cells #[.int .i64 hi] 3)
theorem boxes_below (W : World) (t col lo hi : Int) : Below W.heap.size W (boxes W t col lo hi) :=
  bt (bt (bt (ba W _) (ba _ _)) (ba _ _)) (ba _ _)
theorem boxes_cells (W : World) (t col lo hi : Int) : (boxes W t col lo hi).cell? ⟨W.heap.size, 0, none⟩ = some (.int .i64 t) ∧ (boxes W t col lo hi).cell? ⟨W.heap.size + 1, 0, none⟩ = some (.int .i64 col) ∧
    (boxes W t col lo hi).cell? ⟨W.heap.size + 2, 0, none⟩ = some (.int .i64 lo) ∧ (boxes W t col lo hi).cell? ⟨W.heap.size + 3, 0, none⟩ = some (.int .i64 hi) ∧ (boxes W t col lo hi).heap.size = W.heap.size + 4 := by
  unfold boxes
  refine ⟨?_, ?_, ?_, ?_, ?_⟩ <;> simp [go_sem]

set_option maxRecDepth 100000 in
set_option maxHeartbeats 4000000 in
theorem range_any {W : World} {b : Nat} {m : Option Nat} {L : List MRow} {p : Int} (h : StAt W b m L p) (t col lo hi : Int) (h1 : 0 ≤ col) (h2 : col ≤ 3) :
    Calls Tryz.prog 37 #[.pointer (some ⟨b, 0, none⟩), .int .i64 t, .int .i64 col, .int .i64 lo, .int .i64 hi] W (SOut W L (selR t col lo hi) col) := by
  have hbne : ¬ b = W.heap.size := by have := h.lt; omega
  have HS := Lib.hid h
  have HC : Hid (0 ≤ col ∧ col ≤ 3) := Lib.hid ⟨h1, h2⟩
  have d1 : decide (col < 0) = false := decide_eq_false (by omega)
  have d2 : decide (4 ≤ col) = false := decide_eq_false (by omega)
  clear h h1 h2
  go_enter Tryz.func37, Tryz.ntmps37
  go_wp2_with fail
  obtain ⟨wb, Hwb⟩ : ∃ wb, Hid (boxes W t col lo hi = wb) := ⟨_, Lib.hid rfl⟩
  have hbx := boxes_cells W t col lo hi
  have HBB := boxes_below W t col lo hi
  rw [show (((W.alloc (.cells #[.int .i64 t] 3)).alloc (.cells #[.int .i64 col] 3)).alloc (.cells #[.int .i64 lo] 3)).alloc (.cells #[.int .i64 hi] 3) = wb from Hwb.out]
  rw [Hwb.out] at hbx HBB
  have HB := Lib.hid HBB
  have HX := Lib.hid hbx
  clear hbx HBB
  have hcol : ∀ w0, BW wb w0 → ∀ d os, (grow (redrawn w0 d) os).cell? ⟨W.heap.size + 1, 0, none⟩ = some (.int .i64 col) := fun w0 h d os => by
    have hk : Below wb.heap.size wb (grow (redrawn w0 d) os) := bt h (below_regrown w0 d os)
    rw [hk.cell (p := ⟨W.heap.size + 1, 0, none⟩) (by have := HX.out.2.2.2.2; simp; omega)]
    exact HX.out.2.1
  refine wp_region_calm 5 7 [0, 1, 2, 3, 4] (by kernel_rfl) (by kernel_rfl) (by intro oz h; simp at h) (by intro oz h; simp at h) (by rfl) ?_
  simp only [List.take_succ_cons, List.take_zero]
  iterate 5
    apply wpCalm_want
    · rfl
    · exact bc_refl
    · exact ⟨_, Below.refl _ _⟩
    · intro w0 hC0 K hK
      go_big_quiet_op
      exact hK
  refine wpCalm_nil ?_
  intro wy hby
  simp only [List.drop_succ_cons, List.drop_zero]
  clear hcol
  have eg42 : ∀ args w, (callFunc 78 args).run Tryz.prog w = .ok (.enter 78 args) w := enters_of Tryz.func78 (by kernel_rfl) rfl
  have HO := Lib.hid (ordered_any (HS.out.below (bt HB.out hby)) (col := col) HC.out.1 HC.out.2 (g := 78) (cb := #[.pointer (some ⟨W.heap.size + 1, 0, none⟩), .pointer (some ⟨W.heap.size, 0, none⟩), .pointer (some ⟨W.heap.size + 2, 0, none⟩), .pointer (some ⟨W.heap.size + 3, 0, none⟩)]) (sel := selR t col lo hi) eg42 (fun W' r hB => by
    obtain ⟨x0, x1, x2, x3, x4⟩ := HX.out
    have hk := bt hby hB
    have h0 := (hk.cell (p := ⟨W.heap.size, 0, none⟩) (by simp; omega)).trans x0
    have h1 := (hk.cell (p := ⟨W.heap.size + 1, 0, none⟩) (by simp; omega)).trans x1
    have h2 := (hk.cell (p := ⟨W.heap.size + 2, 0, none⟩) (by simp; omega)).trans x2
    have h3 := (hk.cell (p := ⟨W.heap.size + 3, 0, none⟩) (by simp; omega)).trans x3
    exact closure_range r t col lo hi _ _ _ _ W' HC.out.1 HC.out.2 h1 h0 h2 h3))
  have HBy := Lib.hid (bt HB.out hby)
  clear hby eg42
  try go_frame
  go_wp2_with fail
  (with_reducible refine HO.out.mono ?_)
  rintro e w1 hS
  obtain ⟨v, M, rfl, ho, hs, hk⟩ := SOut.from (W := W) hS HBy.out
  have H := Lib.hid (show SOut W L (selR t col lo hi) col (.returned v) w1 from ⟨v, M, rfl, ho, hs, hk⟩)
  clear hS ho hs hk
  go_wp2_with fail
  go_ret
  exact H.out
end Go.Proofs.YtgbnjjgnihjfgaaGreat
end

section
set_option linter.unusedVariables false
set_option linter.unusedSimpArgs false
namespace Go.Proofs.YtgbnjjgnihjfgaaGreat
open Go.RowKit Go.Sort Go.ChangeMaps Go.MapKept

/-- A state of its own: its block and its map's lie behind n. -/
def Own (n b : Nat) (m : Option Nat) : Prop := n ≤ b ∧ ∀ i, m = some i → n ≤ i

end Go.Proofs.YtgbnjjgnihjfgaaGreat
end

section
set_option linter.unusedVariables false
set_option linter.unusedSimpArgs false
namespace Go.Proofs.YtgbnjjgnihjfgaaGreat
open Go.RowKit Go.Sort Go.ChangeMaps Go.MapKept

/-- The two cells of a record. -/
def RecAt (w : World) (b o : Nat) (r : MRec) : Prop :=
  w.cell? ⟨b, o, none⟩ = some (.int .i64 r.pos) ∧ ∃ v, w.cell? ⟨b, o + 1, none⟩ = some v ∧ ChS w v r.chs
/-- A slice that reads as a list of records. -/
def RecS (w : World) (v : Value) (R : List MRec) : Prop :=
  ∃ a n cap, v = .slice a n cap ∧ n = R.length ∧ n ≤ cap ∧ cap ≤ 9223372036854775807 ∧ (1 ≤ n → ∃ b o, a = some ⟨b, o, none⟩ ∧ b < w.heap.size ∧ ∀ i, i < n → RecAt w b (o + i * 2) (R.getD i recZ))
theorem RecAt.below {w w' : World} {b o : Nat} {r : MRec} (h : RecAt w b o r) (hb : b < w.heap.size) (k : Below w.heap.size w w') : RecAt w' b o r := by
  obtain ⟨h0, v, h1, h2⟩ := h
  exact ⟨(k.cell (p := ⟨b, o, none⟩) hb).trans h0, v, (k.cell (p := ⟨b, o + 1, none⟩) hb).trans h1, h2.below k⟩
theorem RecS.below {w w' : World} {v : Value} {R : List MRec} (h : RecS w v R) (k : Below w.heap.size w w') : RecS w' v R := by
  obtain ⟨a, n, cap, e, hn, h1, h2, h3⟩ := h
  refine ⟨a, n, cap, e, hn, h1, h2, fun hh => ?_⟩
  obtain ⟨b, o, ea, hb, hc⟩ := h3 hh
  exact ⟨b, o, ea, Nat.lt_of_lt_of_le hb k.size, fun i hi => (hc i hi).below hb k⟩
theorem Chn.len {R : List MRec} (h : Chn R) : R.length ≤ 10000 := by
  rcases Nat.eq_zero_or_pos R.length with e | e
  · omega
  · have := h (R.length - 1) (by omega)
    have h1 := this.1.1
    have h2 := this.2.1
    omega
end Go.Proofs.YtgbnjjgnihjfgaaGreat
end

section
set_option linter.unusedVariables false
set_option linter.unusedSimpArgs false
namespace Go.Proofs.YtgbnjjgnihjfgaaGreat
open Go.RowKit Go.Sort Go.ChangeMaps Go.MapKept

/-- What At returns: a state of its own. -/
def AtOut (W : World) (L : List MRow) (p : Int) (e : Ending) (w' : World) : Prop :=
  ∃ b m, e = .returned (.tuple #[.pointer (some ⟨b, 0, none⟩), .int .i64 0]) ∧ StAt w' b m L p ∧ Own W.heap.size b m ∧ Below W.heap.size W w'

set_option maxRecDepth 100000 in
set_option maxHeartbeats 4000000 in
theorem at_any {W : World} {v : Value} {R : List MRec} (h : RecS W v R) (hR : Chn R) (p : Nat) (hp : p ≤ R.length) :
    Calls Tryz.prog 20 #[v, .int .i64 p] W (AtOut W (rowsOf (R.take p)) p) := by
  have hl := hR.len
  obtain ⟨a, n, cap, rfl, hn, hc1, hc2, hcell⟩ := h
  have hpn : p ≤ n := by omega
  have d1 : decide ((p : Int) < 0) = false := decide_eq_false (by omega)
  have d2 : decide ((n : Int) < (p : Int)) = false := decide_eq_false (by omega)
  have HN := Lib.hid hn
  have HR := Lib.hid hR
  have hn4 : n ≤ 10000 := by omega
  have HC : Hid (1 ≤ n → ∃ b o, a = some ⟨b, o, none⟩ ∧ b < W.heap.size ∧ ∀ i, i < n → RecAt W b (o + i * 2) (R.getD i recZ)) := Lib.hid hcell
  have HNew := Lib.hid (new_any W)
  clear hl hn hR hcell hp
  go_enter Tryz.func20, Tryz.ntmps20
  go_wp2_with fail
  (with_reducible refine HNew.out.mono ?_)
  rintro e w1 ⟨rfl, hw1⟩
  have HS1 : Hid (StAt w1 W.heap.size none [] 0) := Lib.hid (by rw [hw1]; exact stAt_new W)
  have HB1 : Hid (Below W.heap.size W w1) := Lib.hid (by rw [hw1]; exact ba _ _)
  clear hw1
  go_wp2_with fail
  have hz1 : W.heap.size < w1.heap.size := HS1.out.lt
  have HP : Hid (p ≤ R.length) := Lib.hid (by rw [← HN.out]; exact hpn)
  go_loopw [23] (fun i wr => ∃ k : Nat, k ≤ p ∧ i = .int .i64 k ∧ ∃ m, Hid (StAt wr W.heap.size m (rowsOf (R.take k)) k) ∧ Hid (Own W.heap.size W.heap.size m) ∧ Hid (Below W.heap.size W wr)) (fun i _ => p - (intOf i).toNat)
  case atStart => exact ⟨0, by omega, rfl, none, HS1, Lib.hid ⟨Nat.le_refl _, fun i e => by cases e⟩, HB1⟩
  case round =>
    obtain ⟨k, hk, rfl, m, HS, HO, HB⟩ := hrel
    by_cases hlt : k < p
    · have hz := HS.out.lt
      have hkn : k < n := by omega
      obtain ⟨vb, vo, rfl, hvb, hcs⟩ := HC.out (by omega)
      have HRk : Hid (RecAt wr vb (vo + k * 2) (R.getD k recZ)) := Lib.hid ((hcs k hkn).below hvb HB.out)
      have HOk : Hid (Okay (rowsOf (R.take k)) k (R.getD k recZ).pos (R.getD k recZ).chs) := Lib.hid (HR.out k (by have := HP.out; omega))
      have Htk : Hid (stepAll (rowsOf (R.take k)) (R.getD k recZ).chs = rowsOf (R.take (k + 1))) := Lib.hid (rowsOf_succ (by have := HP.out; omega)).symm
      clear hcs
      obtain ⟨r, Hr⟩ : ∃ r, Hid (R.getD k recZ = r) := ⟨_, Lib.hid rfl⟩
      rw [Hr.out] at HRk HOk Htk
      obtain ⟨pos, cs⟩ := r
      obtain rfl : pos = k + 1 := HOk.out.2.1
      obtain ⟨q0, v, q1, hv⟩ := HRk.out
      simp only at q0
      have HV : Hid (ChS wr v cs) := Lib.hid hv
      obtain ⟨va, vn, vcap, rfl, hrest⟩ := hv
      clear hrest
      go_wp2_with fail
      (with_reducible refine (apply_ok (HS.out.below (ba wr _)) (HV.out.below (ba wr _)) HOk.out).mono ?_)
      rintro e w2 ⟨rfl, m', hst, hkt, hm'⟩
      have HS2 : Hid (StAt w2 W.heap.size m' (rowsOf (R.take (k + 1))) ((k : Int) + 1)) := Lib.hid (by rw [← Htk.out]; exact hst)
      have HO2 : Hid (Own W.heap.size W.heap.size m') := Lib.hid ⟨Nat.le_refl _, fun i e => by
        rcases hm' with rfl | ⟨x, rfl, hx⟩
        · exact HO.out.2 i e
        · cases e
          simp at hx
          omega⟩
      have HB2 : Hid (Below W.heap.size W w2) := Lib.hid (((Kept.of_below (F := foot W.heap.size m) (bt HB.out (ba wr _))).trans hkt (fun _ _ f => f)).below (Nat.le_refl _) (fun i f => by
        rcases f with rfl | f
        · exact Nat.le_refl _
        · exact HO.out.2 i f))
      clear hst hkt hm'
      go_wp2_with fail
      exact ⟨⟨k + 1, by omega, by go_num, m', by rw [Int.natCast_add]; exact HS2, HO2, HB2⟩, by simp [intOf]; omega⟩
    · obtain rfl : k = p := by omega
      go_wp2_with fail
      refine bodyPost_ret (v := .tuple #[.pointer (some ⟨W.heap.size, 0, none⟩), .int .i64 0]) (by simp [results, Tryz.results20, go_sem]) rfl ?_
      exact ⟨W.heap.size, m, rfl, HS.out, HO.out, HB.out⟩
end Go.Proofs.YtgbnjjgnihjfgaaGreat
end

