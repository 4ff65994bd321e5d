/- WALKS: cmp.Or, the order of rows, the functions that choose rows. -/
import Derived.Test.YtaapggeaoacikaaK5
import Derived.Test.YtaapggeaoacikaaShelf
set_option linter.unusedVariables false
set_option linter.unusedSimpArgs false
namespace Go.Proofs.Ytaapggeaoacikaa
open Go.RowKit Go.Sort Go.ChangeMaps Go.MapKept

theorem gc_alloc (w : World) (o : Obj) : GC w (w.alloc o) := ⟨⟨0, #[o]⟩, by rw [alloc_eq_grow]; rfl⟩

set_option maxRecDepth 100000 in
set_option maxHeartbeats 400000 in
theorem value_gr (r : MRow) (col : Int) (w : World) (h1 : 0 ≤ col) (h2 : col ≤ 3) :
    Calls Try.prog 31 #[rowV r, .int .i64 col] w fun e w' => e = .returned (.int .i64 (vget r col)) ∧ GC w w' := by
  obtain ⟨t, k, ⟨a, b, c⟩⟩ := r
  unfold rowV
  have : col = 0 ∨ col = 1 ∨ col = 2 ∨ col = 3 := by omega
  clear h1 h2
  rcases this with rfl | rfl | rfl | rfl
  all_goals
    go_enter Try.func31, Try.ntmps31
    go_wp2
    go_ret
    exact ⟨rfl, gc_alloc _ _⟩

def orI (x y : Int) : Int := if x = 0 then y else x
set_option maxRecDepth 100000 in
set_option maxHeartbeats 1000000 in
theorem or_two (g : Nat) (x y : Int) (w : World) (h0 : w.cell? ⟨g, 0, none⟩ = some (.int .i64 x)) (h1 : w.cell? ⟨g, 1, none⟩ = some (.int .i64 y)) :
    Calls Try.prog 54 #[.slice (some ⟨g, 0, none⟩) 2 2] w fun e w' => e = .returned (.int .i64 (orI x y)) ∧ w = w' := by
  by_cases hx : x = 0
  · have HO : Hid (orI x y = y) := Lib.hid (by simp [orI, hx])
    have d1 : (x != 0) = false := by simp [hx]
    rw [HO.out]
    clear hx
    by_cases hy : y = 0
    · have d2 : (y != 0) = false := by simp [hy]
      have Hy := Lib.hid hy
      clear hy
      go_enter Try.func54, Try.ntmps54
      go_wp2
      refine wp_loop_rounds 3 ?_
      rw [rounds_succ]
      go_wp2
      rw [rounds_succ]
      go_wp2
      rw [rounds_succ]
      go_wp2
      go_ret
      exact ⟨by rw [Hy.out]; rfl, rfl⟩
    · have d2 : (y != 0) = true := by simp [hy]
      clear hy
      go_enter Try.func54, Try.ntmps54
      go_wp2
      refine wp_loop_rounds 2 ?_
      rw [rounds_succ]
      go_wp2
      rw [rounds_succ]
      go_wp2
      go_ret
      exact ⟨rfl, rfl⟩
  · have HO : Hid (orI x y = x) := Lib.hid (by simp [orI, hx])
    have d1 : (x != 0) = true := by simp [hx]
    rw [HO.out]
    clear hx
    go_enter Try.func54, Try.ntmps54
    go_wp2
    refine wp_loop_rounds 2 ?_
    rw [rounds_succ]
    go_wp2
    go_ret
    exact ⟨rfl, rfl⟩

/-- The order of rows by a column's values, then by keys. -/
def cmpR (col : Int) (x y : MRow) : Int := orI (Lib.compareInt (vget x col) (vget y col)) (Lib.compareInt x.k y.k)

set_option maxRecDepth 100000 in
set_option maxHeartbeats 4000000 in
theorem closure_cmp (x y : MRow) (col : Int) (B : Nat) (W : World) (h1 : 0 ≤ col) (h2 : col ≤ 3) (hB : W.cell? ⟨B, 0, none⟩ = some (.int .i64 col)) :
    Calls Try.prog 53 #[rowV x, rowV y, .pointer (some ⟨B, 0, none⟩)] W fun e w' => e = .returned (.int .i64 (cmpR col x y)) ∧ GC W w' := by
  have hbl := World.block_lt_of_cell? W _ hB
  obtain ⟨xt, xk, ⟨xa, xb, xc⟩⟩ := x
  obtain ⟨yt, yk, ⟨ya, yb, yc⟩⟩ := y
  have HBc := Lib.hid hB
  have HC : Hid (0 ≤ col ∧ col ≤ 3) := Lib.hid ⟨h1, h2⟩
  clear hB h1 h2
  unfold rowV
  go_enter Try.func53, Try.ntmps53
  go_wp2_with fail
  have HX0 : Hid (RowAt ((W.alloc (.cells #[.int .i64 xt, .int .i64 xk, .int .i64 xa, .int .i64 xb, .int .i64 xc] 50)).alloc (.cells #[.int .i64 yt, .int .i64 yk, .int .i64 ya, .int .i64 yb, .int .i64 yc] 50)) W.heap.size ⟨xt, xk, ⟨xa, xb, xc⟩⟩) :=
    Lib.hid (rowAt_of (t := 50) (((MapKept.heap_alloc (W.alloc (.cells #[.int .i64 xt, .int .i64 xk, .int .i64 xa, .int .i64 xb, .int .i64 xc] 50)) _).2 _ (by simp)).trans (MapKept.heap_alloc W _).1))
  have HY0 : Hid (RowAt ((W.alloc (.cells #[.int .i64 xt, .int .i64 xk, .int .i64 xa, .int .i64 xb, .int .i64 xc] 50)).alloc (.cells #[.int .i64 yt, .int .i64 yk, .int .i64 ya, .int .i64 yb, .int .i64 yc] 50)) (W.heap.size + 1) ⟨yt, yk, ⟨ya, yb, yc⟩⟩) :=
    Lib.hid (rowAt_of (t := 50) (by have := (MapKept.heap_alloc (W.alloc (.cells #[.int .i64 xt, .int .i64 xk, .int .i64 xa, .int .i64 xb, .int .i64 xc] 50)) (.cells #[.int .i64 yt, .int .i64 yk, .int .i64 ya, .int .i64 yb, .int .i64 yc] 50)).1; simpa using this))
  have HG : Hid (GC W ((W.alloc (.cells #[.int .i64 xt, .int .i64 xk, .int .i64 xa, .int .i64 xb, .int .i64 xc] 50)).alloc (.cells #[.int .i64 yt, .int .i64 yk, .int .i64 ya, .int .i64 yb, .int .i64 yc] 50))) := Lib.hid (gc_trans (gc_alloc _ _) (gc_alloc _ _))
  have hz : W.heap.size + 1 < ((W.alloc (.cells #[.int .i64 xt, .int .i64 xk, .int .i64 xa, .int .i64 xb, .int .i64 xc] 50)).alloc (.cells #[.int .i64 yt, .int .i64 yk, .int .i64 ya, .int .i64 yb, .int .i64 yc] 50)).heap.size := by simp
  obtain ⟨wb, Hwb⟩ : ∃ wb, Hid ((W.alloc (.cells #[.int .i64 xt, .int .i64 xk, .int .i64 xa, .int .i64 xb, .int .i64 xc] 50)).alloc (.cells #[.int .i64 yt, .int .i64 yk, .int .i64 ya, .int .i64 yb, .int .i64 yc] 50) = wb) := ⟨_, Lib.hid rfl⟩
  rw [Hwb.out] at HX0 HY0 HG hz ⊢
  have hk : ∀ w0, GC wb w0 → ∀ d os, Below wb.heap.size wb (grow (w0.drewN d) os) := fun w0 h d os => gc_below (gc_trans h ⟨⟨d, os⟩, rfl⟩)
  have hcol : ∀ w0, GC wb w0 → ∀ d os, (grow (w0.drewN d) os).cell? ⟨B, 0, none⟩ = some (.int .i64 col) := fun w0 h d os => by
    rw [(hk w0 h d os).cell (p := ⟨B, 0, none⟩) (show B < wb.heap.size by omega), (gc_below HG.out).cell (p := ⟨B, 0, none⟩) hbl]
    exact HBc.out
  have hx : ∀ w0, GC wb w0 → ∀ d os, RowAt (grow (w0.drewN d) os) W.heap.size ⟨xt, xk, ⟨xa, xb, xc⟩⟩ := fun w0 h d os => by
    have k := fun j => (hk w0 h d os).cell (p := ⟨W.heap.size, j, none⟩) (show W.heap.size < wb.heap.size by omega)
    exact ⟨(k 0).trans HX0.out.c0, (k 1).trans HX0.out.c1, (k 2).trans HX0.out.c2, (k 3).trans HX0.out.c3, (k 4).trans HX0.out.c4⟩
  have hy : ∀ w0, GC wb w0 → ∀ d os, RowAt (grow (w0.drewN d) os) (W.heap.size + 1) ⟨yt, yk, ⟨ya, yb, yc⟩⟩ := fun w0 h d os => by
    have k := fun j => (hk w0 h d os).cell (p := ⟨W.heap.size + 1, j, none⟩) hz
    exact ⟨(k 0).trans HY0.out.c0, (k 1).trans HY0.out.c1, (k 2).trans HY0.out.c2, (k 3).trans HY0.out.c3, (k 4).trans HY0.out.c4⟩
  have x0 := fun w0 h d os => (hx w0 h d os).c0
  have x1 := fun w0 h d os => (hx w0 h d os).c1
  have x2 := fun w0 h d os => (hx w0 h d os).c2
  have x3 := fun w0 h d os => (hx w0 h d os).c3
  have x4 := fun w0 h d os => (hx w0 h d os).c4
  have y0 := fun w0 h d os => (hy w0 h d os).c0
  have y1 := fun w0 h d os => (hy w0 h d os).c1
  have y2 := fun w0 h d os => (hy w0 h d os).c2
  have y3 := fun w0 h d os => (hy w0 h d os).c3
  have y4 := fun w0 h d os => (hy w0 h d os).c4
  simp only at x0 x1 x2 x3 x4 y0 y1 y2 y3 y4
  clear hx hy hk
  obtain ⟨vx, Hvx⟩ : ∃ v, Hid (vget ⟨xt, xk, ⟨xa, xb, xc⟩⟩ col = v) := ⟨_, Lib.hid rfl⟩
  obtain ⟨vy, Hvy⟩ : ∃ v, Hid (vget ⟨yt, yk, ⟨ya, yb, yc⟩⟩ col = v) := ⟨_, Lib.hid rfl⟩
  have hvx : ∀ w, Calls Try.prog 31 #[rowV ⟨xt, xk, ⟨xa, xb, xc⟩⟩, .int .i64 col] w fun e w' => e = .returned (.int .i64 vx) ∧ GC w w' := fun w => by rw [← Hvx.out]; exact value_gr _ _ _ HC.out.1 HC.out.2
  have hvy : ∀ w, Calls Try.prog 31 #[rowV ⟨yt, yk, ⟨ya, yb, yc⟩⟩, .int .i64 col] w fun e w' => e = .returned (.int .i64 vy) ∧ GC w w' := fun w => by rw [← Hvy.out]; exact value_gr _ _ _ HC.out.1 HC.out.2
  have HR : Hid (cmpR col ⟨xt, xk, ⟨xa, xb, xc⟩⟩ ⟨yt, yk, ⟨ya, yb, yc⟩⟩ = orI (Lib.compareInt vx vy) (Lib.compareInt xk yk)) := Lib.hid (by rw [← Hvx.out, ← Hvy.out]; rfl)
  obtain ⟨c1, Hc1⟩ : ∃ v, Hid (Lib.compareInt vx vy = v) := ⟨_, Lib.hid rfl⟩
  obtain ⟨c2, Hc2⟩ : ∃ v, Hid (Lib.compareInt xk yk = v) := ⟨_, Lib.hid rfl⟩
  have hc1 : ∀ w, Calls Try.prog 55 #[.int .i64 vx, .int .i64 vy] w fun e w' => e = .returned (.int .i64 c1) ∧ GC w w' := fun w => by rw [← Hc1.out]; exact (Try.cmp_Compare_int vx vy w).mono fun e w' ⟨h1, h2⟩ => ⟨h1, h2 ▸ gc_refl w⟩
  have hc2 : ∀ w, Calls Try.prog 55 #[.int .i64 xk, .int .i64 yk] w fun e w' => e = .returned (.int .i64 c2) ∧ GC w w' := fun w => by rw [← Hc2.out]; exact (Try.cmp_Compare_int xk yk w).mono fun e w' ⟨h1, h2⟩ => ⟨h1, h2 ▸ gc_refl w⟩
  have kvx : ∀ w0 d os, Calls Try.prog 31 #[rowV ⟨xt, xk, ⟨xa, xb, xc⟩⟩, .int .i64 col] (grow (w0.drewN d) os) fun e w'' => e = .returned (.int .i64 vx) ∧ GC w0 w'' := fun w0 d os => (hvx _).mono fun e w' ⟨h1, h2⟩ => ⟨h1, gc_trans ⟨⟨d, os⟩, rfl⟩ h2⟩
  have kvy : ∀ w0 d os, Calls Try.prog 31 #[rowV ⟨yt, yk, ⟨ya, yb, yc⟩⟩, .int .i64 col] (grow (w0.drewN d) os) fun e w'' => e = .returned (.int .i64 vy) ∧ GC w0 w'' := fun w0 d os => (hvy _).mono fun e w' ⟨h1, h2⟩ => ⟨h1, gc_trans ⟨⟨d, os⟩, rfl⟩ h2⟩
  have kc1 : ∀ w0 d os, Calls Try.prog 55 #[.int .i64 vx, .int .i64 vy] (grow (w0.drewN d) os) fun e w'' => e = .returned (.int .i64 c1) ∧ GC w0 w'' := fun w0 d os => (hc1 _).mono fun e w' ⟨h1, h2⟩ => ⟨h1, gc_trans ⟨⟨d, os⟩, rfl⟩ h2⟩
  have kc2 : ∀ w0 d os, Calls Try.prog 55 #[.int .i64 xk, .int .i64 yk] (grow (w0.drewN d) os) fun e w'' => e = .returned (.int .i64 c2) ∧ GC w0 w'' := fun w0 d os => (hc2 _).mono fun e w' ⟨h1, h2⟩ => ⟨h1, gc_trans ⟨⟨d, os⟩, rfl⟩ h2⟩
  clear hvx hvy hc1 hc2
  have HRc : Hid (Ending.returned (.int .i64 (orI c1 c2)) = .returned (.int .i64 (cmpR col ⟨xt, xk, ⟨xa, xb, xc⟩⟩ ⟨yt, yk, ⟨ya, yb, yc⟩⟩))) := Lib.hid (by rw [HR.out, Hc1.out, Hc2.out])
  refine wp_region_calmG 12 15 [0, 1, 2, 3, 4, 5, 6, 7, 8, 9, 10, 11] (by kernel_rfl) (by kernel_rfl) (by intro oz h; simp at h) (by intro oz h; simp at h) (by rfl) ?_
  simp only [List.take_succ_cons, List.take_zero]
  iterate 2
    apply wpCalm_want
    · rfl
    · exact gc_refl
    · exact ⟨_, gc_refl _⟩
    · intro w0 hC0 K hK
      go_big_quiet_op
      exact hK
  apply wpCalm_want
  · rfl
  · exact gc_refl
  · exact ⟨_, gc_refl _⟩
  · intro w0 hC0 K hK
    go_big_quiet_op
    apply Exists.intro
    refine ⟨fun p => ?_, ?_⟩
    · with_reducible exact kvx _ _ _
    · exact hK
  iterate 2
    apply wpCalm_want
    · rfl
    · exact gc_refl
    · exact ⟨_, gc_refl _⟩
    · intro w0 hC0 K hK
      go_big_quiet_op
      exact hK
  apply wpCalm_want
  · rfl
  · exact gc_refl
  · exact ⟨_, gc_refl _⟩
  · intro w0 hC0 K hK
    go_big_quiet_op
    apply Exists.intro
    refine ⟨fun p => ?_, ?_⟩
    · with_reducible exact kvy _ _ _
    · exact hK
  apply wpCalm_want
  · rfl
  · exact gc_refl
  · exact ⟨_, gc_refl _⟩
  · intro w0 hC0 K hK
    go_big_quiet_op
    apply Exists.intro
    refine ⟨fun p => ?_, ?_⟩
    · with_reducible exact kc1 _ _ _
    · exact hK
  iterate 4
    apply wpCalm_want
    · rfl
    · exact gc_refl
    · exact ⟨_, gc_refl _⟩
    · intro w0 hC0 K hK
      go_big_quiet_op
      exact hK
  apply wpCalm_want
  · rfl
  · exact gc_refl
  · exact ⟨_, gc_refl _⟩
  · intro w0 hC0 K hK
    go_big_quiet_op
    apply Exists.intro
    refine ⟨fun p => ?_, ?_⟩
    · with_reducible exact kc2 _ _ _
    · exact hK
  refine wpCalm_nil ?_
  intro wc hbc
  simp only [List.drop_succ_cons, List.drop_zero]
  try go_frame
  clear x0 x1 x2 x3 x4 y0 y1 y2 y3 y4 hcol kvx kvy kc1 kc2
  have HGc := Lib.hid (gc_trans HG.out hbc)
  clear hbc
  go_wp2_with fail
  (with_reducible refine (or_two wc.heap.size c1 c2 _ (by simp [go_sem]) (by simp [go_sem])).mono ?_)
  rintro e w9 ⟨rfl, rfl⟩
  go_wp2_with fail
  go_ret
  exact ⟨HRc.out, gc_trans HGc.out (gc_alloc _ _)⟩

/-! ### Which rows are chosen -/
def selT (t : Int) (r : MRow) : Bool := decide (r.t = t)
def selR (t col lo hi : Int) (r : MRow) : Bool := decide (r.t = t ∧ lo ≤ vget r col ∧ vget r col ≤ hi)

set_option maxRecDepth 100000 in
theorem closure_rows (r : MRow) (t : Int) (B : Nat) (W : World) (hB : W.cell? ⟨B, 0, none⟩ = some (.int .i64 t)) :
    Calls Try.prog 45 #[rowV r, .pointer (some ⟨B, 0, none⟩)] W fun e w' => e = .returned (.bool (selT t r)) ∧ Below W.heap.size W w' := by
  have hbl : B < W.heap.size := World.block_lt_of_cell? W _ hB
  have hbne : ¬ B = W.heap.size := by omega
  obtain ⟨rt, rk, ⟨ra, rb, rc⟩⟩ := r
  unfold rowV
  by_cases h : rt = t
  · have HS : Hid (selT t ⟨rt, rk, ⟨ra, rb, rc⟩⟩ = true) := Lib.hid (decide_eq_true h)
    have d1 : (rt == t) = true := by simp [h]
    rw [HS.out]
    clear h
    go_enter Try.func45, Try.ntmps45
    go_wp2
    go_ret
    exact ⟨rfl, ba _ _⟩
  · have HS : Hid (selT t ⟨rt, rk, ⟨ra, rb, rc⟩⟩ = false) := Lib.hid (decide_eq_false h)
    have d1 : (rt == t) = false := by simp [h]
    rw [HS.out]
    clear h
    go_enter Try.func45, Try.ntmps45
    go_wp2
    go_ret
    exact ⟨rfl, ba _ _⟩

set_option maxRecDepth 100000 in
set_option maxHeartbeats 1000000 in
theorem closure_range (r : MRow) (t col lo hi : Int) (B0 B1 B2 B3 : Nat) (W : World) (h1 : 0 ≤ col) (h2 : col ≤ 3) (hB0 : W.cell? ⟨B0, 0, none⟩ = some (.int .i64 col)) (hB1 : W.cell? ⟨B1, 0, none⟩ = some (.int .i64 t))
    (hB2 : W.cell? ⟨B2, 0, none⟩ = some (.int .i64 lo)) (hB3 : W.cell? ⟨B3, 0, none⟩ = some (.int .i64 hi)) :
    Calls Try.prog 42 #[rowV r, .pointer (some ⟨B0, 0, none⟩), .pointer (some ⟨B1, 0, none⟩), .pointer (some ⟨B2, 0, none⟩), .pointer (some ⟨B3, 0, none⟩)] W fun e w' => e = .returned (.bool (selR t col lo hi r)) ∧ Below W.heap.size W w' := by
  have l0 : B0 < W.heap.size := World.block_lt_of_cell? W _ hB0
  have l1 : B1 < W.heap.size := World.block_lt_of_cell? W _ hB1
  have l2 : B2 < W.heap.size := World.block_lt_of_cell? W _ hB2
  have l3 : B3 < W.heap.size := World.block_lt_of_cell? W _ hB3
  have n0 : ¬ B0 = W.heap.size := by omega
  have n1 : ¬ B1 = W.heap.size := by omega
  have n2 : ¬ B2 = W.heap.size := by omega
  have n3 : ¬ B3 = W.heap.size := by omega
  have HV0 := fun w => value_gr r col w h1 h2
  have HSel : Hid (selR t col lo hi r = decide (r.t = t ∧ lo ≤ vget r col ∧ vget r col ≤ hi)) := Lib.hid rfl
  obtain ⟨v, Hv⟩ : ∃ v, Hid (vget r col = v) := ⟨_, Lib.hid rfl⟩
  simp only [Hv.out] at HV0
  rw [Hv.out] at HSel
  have HV := Lib.hid HV0
  clear HV0 Hv h1 h2
  obtain ⟨rt, rk, ⟨ra, rb, rc⟩⟩ := r
  unfold rowV
  rw [HSel.out]
  clear HSel
  simp only
  have HW0 : Hid (∀ o w', GC (W.alloc o) w' → (w'.cell? ⟨B0, 0, none⟩ = some (.int .i64 col) ∧ w'.cell? ⟨B1, 0, none⟩ = some (.int .i64 t) ∧ w'.cell? ⟨B2, 0, none⟩ = some (.int .i64 lo) ∧ w'.cell? ⟨B3, 0, none⟩ = some (.int .i64 hi))) := Lib.hid (fun o w' h => by
    have k := bt (ba W o) (gc_below h)
    exact ⟨(k.cell (p := ⟨B0, 0, none⟩) l0).trans hB0, (k.cell (p := ⟨B1, 0, none⟩) l1).trans hB1, (k.cell (p := ⟨B2, 0, none⟩) l2).trans hB2, (k.cell (p := ⟨B3, 0, none⟩) l3).trans hB3⟩)
  have HRow : Hid (∀ w', GC (W.alloc (.cells #[.int .i64 rt, .int .i64 rk, .int .i64 ra, .int .i64 rb, .int .i64 rc] 50)) w' → RowAt w' W.heap.size ⟨rt, rk, ⟨ra, rb, rc⟩⟩) := Lib.hid (fun w' h => by
    refine rowAt_of (t := 50) (((gc_below h).block _ (by simp)).trans (MapKept.heap_alloc W _).1))
  by_cases hx1 : rt = t
  · by_cases hx2 : lo ≤ v
    · have Hd : Hid (decide (rt = t ∧ lo ≤ v ∧ v ≤ hi) = decide (v ≤ hi)) := Lib.hid (by simp [hx1, hx2])
      have d1 : (rt == t) = true := by simp [hx1]
      have d2 : decide (lo ≤ v) = true := decide_eq_true hx2
      rw [Hd.out]
      clear hx1 hx2
      go_enter Try.func42, Try.ntmps42
      go_wp2_with fail
      (with_reducible refine (HV.out _).mono ?_)
      rintro e w1 ⟨rfl, hg⟩
      obtain ⟨e0, e1, e2, e3⟩ := HW0.out _ _ hg
      obtain ⟨y0, y1, y2, y3, y4⟩ := HRow.out _ hg
      simp only at y0 y1 y2 y3 y4
      have HB := Lib.hid (bt (ba W _) (gc_below hg))
      clear hg
      go_wp2_with fail
      go_ret
      exact ⟨rfl, HB.out⟩
    · have Hd : Hid (decide (rt = t ∧ lo ≤ v ∧ v ≤ hi) = false) := Lib.hid (by simp [hx2])
      have d1 : (rt == t) = true := by simp [hx1]
      have d2 : decide (lo ≤ v) = false := decide_eq_false hx2
      rw [Hd.out]
      clear hx1 hx2
      go_enter Try.func42, Try.ntmps42
      go_wp2_with fail
      (with_reducible refine (HV.out _).mono ?_)
      rintro e w1 ⟨rfl, hg⟩
      obtain ⟨e0, e1, e2, e3⟩ := HW0.out _ _ hg
      obtain ⟨y0, y1, y2, y3, y4⟩ := HRow.out _ hg
      simp only at y0 y1 y2 y3 y4
      have HB := Lib.hid (bt (ba W _) (gc_below hg))
      clear hg
      go_wp2_with fail
      go_ret
      exact ⟨rfl, HB.out⟩
  · have Hd : Hid (decide (rt = t ∧ lo ≤ v ∧ v ≤ hi) = false) := Lib.hid (by simp [hx1])
    have d1 : (rt == t) = false := by simp [hx1]
    rw [Hd.out]
    clear hx1
    go_enter Try.func42, Try.ntmps42
    go_wp2_with fail
    (with_reducible refine (HV.out _).mono ?_)
    rintro e w1 ⟨rfl, hg⟩
    obtain ⟨e0, e1, e2, e3⟩ := HW0.out _ _ hg
    obtain ⟨y0, y1, y2, y3, y4⟩ := HRow.out _ hg
    simp only at y0 y1 y2 y3 y4
    have HB := Lib.hid (bt (ba W _) (gc_below hg))
    clear hg
    go_wp2_with fail
    go_ret
    exact ⟨rfl, HB.out⟩
end Go.Proofs.Ytaapggeaoacikaa
