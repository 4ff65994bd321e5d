/- WALKS: Rows, Range. -/
import Derived.Test.YtaapggeaoacikaaK9
set_option linter.unusedVariables false
set_option linter.unusedSimpArgs false
namespace Go.Proofs.Ytaapggeaoacikaa
open Go.RowKit Go.Sort Go.ChangeMaps Go.MapKept

/-- What Rows and Range return: a slice of their own with the chosen rows. -/
def SOut (W : World) (L : List MRow) (sel : MRow → Bool) (col : Int) (e : Ending) (w' : World) : Prop :=
  ∃ v M, e = .returned v ∧ OwnR w' W.heap.size v M ∧ SortOf L sel col M ∧ Below W.heap.size W w'
theorem SOut.nilL {W w' : World} {sel : MRow → Bool} {col : Int} (h : Below W.heap.size W w') : SOut W [] sel col (.returned (.slice none 0 0)) w' :=
  ⟨_, [], rfl, OwnR.nil _ _, ⟨List.Perm.refl _, List.Pairwise.nil⟩, h⟩
theorem SOut.from {W W1 w' : World} {L : List MRow} {sel : MRow → Bool} {col : Int} {e : Ending} (h : SOut W1 L sel col e w') (hb : Below W.heap.size W W1) : SOut W L sel col e w' := by
  obtain ⟨v, M, he, ho, hs, hk⟩ := h
  exact ⟨v, M, he, ho.mono hb.size, hs, bt hb hk⟩

set_option maxRecDepth 100000 in
theorem rows_any {W : World} {b : Nat} {m : Option Nat} {L : List MRow} {p : Int} (h : StAt W b m L p) (t : Int) :
    Calls Try.prog 30 #[.pointer (some ⟨b, 0, none⟩), .int .i64 t] W (SOut W L (selT t) 0) := by
  have hbne : ¬ b = W.heap.size := by have := h.lt; omega
  have eg45 : ∀ args w, (callFunc 45 args).run Try.prog w = .ok (.enter 45 args) w := enters_of Try.func45 (by kernel_rfl) rfl
  have HO := Lib.hid (ordered_any (h.below (ba W (.cells #[.int .i64 t] 3))) (col := 0) (by omega) (by omega) (g := 45) (cb := #[.pointer (some ⟨W.heap.size, 0, none⟩)]) (sel := selT t) eg45 (fun W' r hB => closure_rows r t W.heap.size W' (by
    rw [hB.cell (p := ⟨W.heap.size, 0, none⟩) (by simp)]
    simp [go_sem])))
  clear h eg45
  go_enter Try.func30, Try.ntmps30
  go_wp2_with fail
  (with_reducible refine HO.out.mono ?_)
  rintro e w1 hS
  obtain ⟨v, M, rfl, ho, hs, hk⟩ := SOut.from (W := W) hS (ba W _)
  have H := Lib.hid (show SOut W L (selT t) 0 (.returned v) w1 from ⟨v, M, rfl, ho, hs, hk⟩)
  clear hS ho hs hk
  go_wp2_with fail
  go_ret
  exact H.out

theorem rows_nil (W : World) (t : Int) : Calls Try.prog 30 #[.pointer none, .int .i64 t] W fun e w' => e = .returned (.slice none 0 0) ∧ Below W.heap.size W w' := by
  go_enter Try.func30, Try.ntmps30
  go_wp2_with fail
  go_ret
  exact ⟨rfl, ba _ _⟩

/-- The four boxes that Range lays for what its closure captures. -/
def boxes (W : World) (t col lo hi : Int) : World := (((W.alloc (.cells #[.int .i64 t] 3)).alloc (.cells #[.int .i64 col] 3)).alloc (.cells #[.int .i64 lo] 3)).alloc (.cells #[.int .i64 hi] 3)
theorem boxes_below (W : World) (t col lo hi : Int) : Below W.heap.size W (boxes W t col lo hi) :=
  bt (bt (bt (ba W _) (ba _ _)) (ba _ _)) (ba _ _)
theorem boxes_cells (W : World) (t col lo hi : Int) : (boxes W t col lo hi).cell? ⟨W.heap.size, 0, none⟩ = some (.int .i64 t) ∧ (boxes W t col lo hi).cell? ⟨W.heap.size + 1, 0, none⟩ = some (.int .i64 col) ∧
    (boxes W t col lo hi).cell? ⟨W.heap.size + 2, 0, none⟩ = some (.int .i64 lo) ∧ (boxes W t col lo hi).cell? ⟨W.heap.size + 3, 0, none⟩ = some (.int .i64 hi) ∧ (boxes W t col lo hi).heap.size = W.heap.size + 4 := by
  unfold boxes
  refine ⟨?_, ?_, ?_, ?_, ?_⟩ <;> simp [go_sem]

theorem range_nil (W : World) (t col lo hi : Int) : Calls Try.prog 24 #[.pointer none, .int .i64 t, .int .i64 col, .int .i64 lo, .int .i64 hi] W fun e w' => e = .returned (.slice none 0 0) ∧ Below W.heap.size W w' := by
  have HB : Hid (Below W.heap.size W (boxes W t col lo hi)) := Lib.hid (boxes_below W t col lo hi)
  go_enter Try.func24, Try.ntmps24
  go_wp2_with fail
  go_ret
  exact ⟨rfl, HB.out⟩

theorem range_col {W : World} {b : Nat} {m : Option Nat} {L : List MRow} {p : Int} (h : StAt W b m L p) (t col lo hi : Int) (hc : ¬ (0 ≤ col ∧ col ≤ 3)) :
    Calls Try.prog 24 #[.pointer (some ⟨b, 0, none⟩), .int .i64 t, .int .i64 col, .int .i64 lo, .int .i64 hi] W fun e w' => e = .returned (.slice none 0 0) ∧ Below W.heap.size W w' := by
  have HB : Hid (Below W.heap.size W (boxes W t col lo hi)) := Lib.hid (boxes_below W t col lo hi)
  have hbne : ¬ b = W.heap.size := by have := h.lt; omega
  clear h
  by_cases h1 : col < 0
  · have d1 : decide (col < 0) = true := decide_eq_true h1
    clear hc
    go_enter Try.func24, Try.ntmps24
    go_wp2_with fail
    go_ret
    exact ⟨rfl, HB.out⟩
  · have d1 : decide (col < 0) = false := decide_eq_false h1
    have d2 : decide (4 ≤ col) = true := decide_eq_true (by omega)
    clear hc
    go_enter Try.func24, Try.ntmps24
    go_wp2_with fail
    go_ret
    exact ⟨rfl, HB.out⟩

set_option maxRecDepth 100000 in
set_option maxHeartbeats 4000000 in
theorem range_any {W : World} {b : Nat} {m : Option Nat} {L : List MRow} {p : Int} (h : StAt W b m L p) (t col lo hi : Int) (h1 : 0 ≤ col) (h2 : col ≤ 3) :
    Calls Try.prog 24 #[.pointer (some ⟨b, 0, none⟩), .int .i64 t, .int .i64 col, .int .i64 lo, .int .i64 hi] W (SOut W L (selR t col lo hi) col) := by
  have hbne : ¬ b = W.heap.size := by have := h.lt; omega
  have HS := Lib.hid h
  have HC : Hid (0 ≤ col ∧ col ≤ 3) := Lib.hid ⟨h1, h2⟩
  have d1 : decide (col < 0) = false := decide_eq_false (by omega)
  have d2 : decide (4 ≤ col) = false := decide_eq_false (by omega)
  clear h h1 h2
  go_enter Try.func24, Try.ntmps24
  go_wp2_with fail
  obtain ⟨wb, Hwb⟩ : ∃ wb, Hid (boxes W t col lo hi = wb) := ⟨_, Lib.hid rfl⟩
  have hbx := boxes_cells W t col lo hi
  have HBB := boxes_below W t col lo hi
  rw [show (((W.alloc (.cells #[.int .i64 t] 3)).alloc (.cells #[.int .i64 col] 3)).alloc (.cells #[.int .i64 lo] 3)).alloc (.cells #[.int .i64 hi] 3) = wb from Hwb.out]
  rw [Hwb.out] at hbx HBB
  have HB := Lib.hid HBB
  have HX := Lib.hid hbx
  clear hbx HBB
  have hcol : ∀ w0, BW wb w0 → ∀ d os, (grow (redrawn w0 d) os).cell? ⟨W.heap.size + 1, 0, none⟩ = some (.int .i64 col) := fun w0 h d os => by
    have hk : Below wb.heap.size wb (grow (redrawn w0 d) os) := bt h (below_regrown w0 d os)
    rw [hk.cell (p := ⟨W.heap.size + 1, 0, none⟩) (by have := HX.out.2.2.2.2; simp; omega)]
    exact HX.out.2.1
  refine wp_region_calm 5 7 [0, 1, 2, 3, 4] (by kernel_rfl) (by kernel_rfl) (by intro oz h; simp at h) (by intro oz h; simp at h) (by rfl) ?_
  simp only [List.take_succ_cons, List.take_zero]
  iterate 5
    apply wpCalm_want
    · rfl
    · exact bc_refl
    · exact ⟨_, Below.refl _ _⟩
    · intro w0 hC0 K hK
      go_big_quiet_op
      exact hK
  refine wpCalm_nil ?_
  intro wy hby
  simp only [List.drop_succ_cons, List.drop_zero]
  clear hcol
  have eg42 : ∀ args w, (callFunc 42 args).run Try.prog w = .ok (.enter 42 args) w := enters_of Try.func42 (by kernel_rfl) rfl
  have HO := Lib.hid (ordered_any (HS.out.below (bt HB.out hby)) (col := col) HC.out.1 HC.out.2 (g := 42) (cb := #[.pointer (some ⟨W.heap.size + 1, 0, none⟩), .pointer (some ⟨W.heap.size, 0, none⟩), .pointer (some ⟨W.heap.size + 2, 0, none⟩), .pointer (some ⟨W.heap.size + 3, 0, none⟩)]) (sel := selR t col lo hi) eg42 (fun W' r hB => by
    obtain ⟨x0, x1, x2, x3, x4⟩ := HX.out
    have hk := bt hby hB
    have h0 := (hk.cell (p := ⟨W.heap.size, 0, none⟩) (by simp; omega)).trans x0
    have h1 := (hk.cell (p := ⟨W.heap.size + 1, 0, none⟩) (by simp; omega)).trans x1
    have h2 := (hk.cell (p := ⟨W.heap.size + 2, 0, none⟩) (by simp; omega)).trans x2
    have h3 := (hk.cell (p := ⟨W.heap.size + 3, 0, none⟩) (by simp; omega)).trans x3
    exact closure_range r t col lo hi _ _ _ _ W' HC.out.1 HC.out.2 h1 h0 h2 h3))
  have HBy := Lib.hid (bt HB.out hby)
  clear hby eg42
  try go_frame
  go_wp2_with fail
  (with_reducible refine HO.out.mono ?_)
  rintro e w1 hS
  obtain ⟨v, M, rfl, ho, hs, hk⟩ := SOut.from (W := W) hS HBy.out
  have H := Lib.hid (show SOut W L (selR t col lo hi) col (.returned v) w1 from ⟨v, M, rfl, ho, hs, hk⟩)
  clear hS ho hs hk
  go_wp2_with fail
  go_ret
  exact H.out
end Go.Proofs.Ytaapggeaoacikaa
