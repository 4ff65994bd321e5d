/- WALKS: the law's sane. -/
import Derived.Test.YtaapggeaoacikaaL1
set_option linter.unusedVariables false
set_option linter.unusedSimpArgs false
namespace Go.Proofs.Ytaapggeaoacikaa
open Go.RowKit Go.Sort Go.ChangeMaps Go.MapKept

def sC1 : MCh := ⟨0, 5, false, ⟨0, 0, 0⟩, true, ⟨10, 20, 30⟩⟩
def sC2 : MCh := ⟨0, 3, false, ⟨0, 0, 0⟩, true, ⟨10, 0, 0⟩⟩
def sC3 : MCh := ⟨0, 5, true, ⟨10, 20, 30⟩, true, ⟨10, 21, 30⟩⟩
def sR : List MRec := [⟨1, [sC1]⟩, ⟨2, [sC2, sC3]⟩]
def sL1 : List MRow := [⟨0, 5, ⟨10, 20, 30⟩⟩]
def sL2 : List MRow := [⟨0, 3, ⟨10, 0, 0⟩⟩, ⟨0, 5, ⟨10, 21, 30⟩⟩]
theorem sR_chn : Chn sR := by
  intro i hi
  match i, hi with
  | 0, _ => decide
  | 1, _ => decide
theorem sR_1 : rowsOf (sR.take 1) = sL1 := by decide
theorem sR_2 : rowsOf (sR.take 2) = sL2 := by decide
/-- The world behind the fixed records. -/
def saneW (W : World) : World := ((W.alloc (.cells (chCells sC1) 57)).alloc (.cells (chCells sC2 ++ chCells sC3) 57)).alloc (.cells #[.int .i64 1, .slice (some ⟨W.heap.size, 0, none⟩) 1 1, .int .i64 2, .slice (some ⟨W.heap.size + 1, 0, none⟩) 2 2] 32)

theorem chAt_of_block {w : World} {b o : Nat} {c : MCh} {cur : Array Value} {t : TypeId} {fr : Nat × Nat} (h : w.heap[b]? = some (.cells cur t fr)) (hc : ∀ j, j < 10 → cur[o + j]? = (chCells c)[j]?) : ChAt w b o c := fun j hj => by
  rw [← hc j hj]
  simp [World.cell?, h]
theorem rowS_form {w : World} {v : Value} {M : List MRow} (n : Nat) (h : RowS w v M) (hn : M.length = n) (h1 : 1 ≤ n) : ∃ g o cap, v = .slice (some ⟨g, o, none⟩) n cap ∧ g < w.heap.size ∧ ∀ i, i < n → RwO w g (o + i * 5) (M.getD i rowZ) := by
  obtain ⟨a, n', cap, rfl, hn', _, _, hc⟩ := h
  obtain ⟨g, o, rfl, hg, hcs⟩ := hc (by omega)
  obtain rfl : n' = n := by omega
  exact ⟨g, o, cap, rfl, hg, hcs⟩
theorem rowS_at {w : World} {g o n cap : Nat} {M : List MRow} (h : RowS w (.slice (some ⟨g, o, none⟩) n cap) M) (i : Nat) (hi : i < n) : RwO w g (o + i * 5) (M.getD i rowZ) := by
  obtain ⟨a, n', cap', e, hn', _, _, hc⟩ := h
  simp at e
  obtain ⟨rfl, rfl, rfl⟩ := e
  obtain ⟨g', o', e2, hg, hcs⟩ := hc (by omega)
  simp at e2
  obtain ⟨rfl, rfl⟩ := e2
  exact hcs i hi
theorem sortOf_mk {L N : List MRow} {sel : MRow → Bool} {col : Int} (h1 : L.filter sel = N) (h2 : N.Pairwise (rle col)) : SortOf L sel col N := ⟨by rw [h1], h2⟩
instance (col : Int) (x y : MRow) : Decidable (rle col x y) := by unfold rle; infer_instance
theorem rangeS_any {W : World} {b : Nat} {m : Option Nat} {L : List MRow} {p : Int} (h : StAt W b m L p) (t col lo hi : Int) (h1 : 0 ≤ col) (h2 : col ≤ 3) (N : List MRow) (hN : SortOf L (selR t col lo hi) col N) :
    Calls Try.prog 24 #[.pointer (some ⟨b, 0, none⟩), .int .i64 t, .int .i64 col, .int .i64 lo, .int .i64 hi] W fun e w' => ∃ v, e = .returned v ∧ RowS w' v N ∧ Below W.heap.size W w' :=
  (range_any h t col lo hi h1 h2).mono fun e w' ⟨v, M, he, ho, hs, hb⟩ => ⟨v, he, by rw [← sortOf_unique h.good.1 selR_t hs hN]; exact ho.rowS, hb⟩

theorem saneW_heap (W : World) : (saneW W).heap[W.heap.size]? = some (.cells (chCells sC1) 57 (0, 0)) ∧ (saneW W).heap[W.heap.size + 1]? = some (.cells (chCells sC2 ++ chCells sC3) 57 (0, 0)) ∧
    (saneW W).heap[W.heap.size + 1 + 1]? = some (.cells #[.int .i64 1, .slice (some ⟨W.heap.size, 0, none⟩) 1 1, .int .i64 2, .slice (some ⟨W.heap.size + 1, 0, none⟩) 2 2] 32 (0, 0)) ∧ (saneW W).heap.size = W.heap.size + 3 := by
  unfold saneW
  obtain ⟨w1, h1⟩ : ∃ w1, w1 = W.alloc (.cells (chCells sC1) 57) := ⟨_, rfl⟩
  rw [← h1]
  obtain ⟨w2, h2⟩ : ∃ w2, w2 = w1.alloc (.cells (chCells sC2 ++ chCells sC3) 57) := ⟨_, rfl⟩
  rw [← h2]
  have z1 : w1.heap.size = W.heap.size + 1 := by rw [h1]; simp
  have z2 : w2.heap.size = W.heap.size + 1 + 1 := by rw [h2]; simp [z1]
  refine ⟨?_, ?_, ?_, by simp [z2]⟩
  · rw [(MapKept.heap_alloc w2 _).2 _ (by omega), h2, (MapKept.heap_alloc w1 _).2 _ (by omega), h1]
    exact (MapKept.heap_alloc W _).1
  · rw [(MapKept.heap_alloc w2 _).2 _ (by omega), h2, ← z1]
    exact (MapKept.heap_alloc w1 _).1
  · rw [← z2]
    exact (MapKept.heap_alloc w2 _).1
theorem saneW_below (W : World) : Below W.heap.size W (saneW W) := bt (bt (ba W _) (ba _ _)) (ba _ _)
theorem saneW_ch1 (W : World) : ChS (saneW W) (.slice (some ⟨W.heap.size, 0, none⟩) 1 1) [sC1] := by
  obtain ⟨h1, h2, h3, hz⟩ := saneW_heap W
  refine ⟨_, 1, 1, rfl, rfl, Nat.le_refl _, by omega, fun _ => ⟨_, 0, rfl, by omega, fun i hi => ?_⟩⟩
  obtain rfl : i = 0 := by omega
  exact chAt_of_block h1 (fun j hj => by simp)
theorem saneW_ch2 (W : World) : ChS (saneW W) (.slice (some ⟨W.heap.size + 1, 0, none⟩) 2 2) [sC2, sC3] := by
  obtain ⟨h1, h2, h3, hz⟩ := saneW_heap W
  refine ⟨_, 2, 2, rfl, rfl, Nat.le_refl _, by omega, fun _ => ⟨_, 0, rfl, by omega, fun i hi => ?_⟩⟩
  match i, hi with
  | 0, _ => exact chAt_of_block h2 (fun j hj => by
      match j, hj with
      | 0, _ => rfl
      | 1, _ => rfl
      | 2, _ => rfl
      | 3, _ => rfl
      | 4, _ => rfl
      | 5, _ => rfl
      | 6, _ => rfl
      | 7, _ => rfl
      | 8, _ => rfl
      | 9, _ => rfl)
  | 1, _ => exact chAt_of_block h2 (fun j hj => by
      match j, hj with
      | 0, _ => rfl
      | 1, _ => rfl
      | 2, _ => rfl
      | 3, _ => rfl
      | 4, _ => rfl
      | 5, _ => rfl
      | 6, _ => rfl
      | 7, _ => rfl
      | 8, _ => rfl
      | 9, _ => rfl)
theorem saneW_rec (W : World) : RecS (saneW W) (.slice (some ⟨W.heap.size + 1 + 1, 0, none⟩) 2 2) sR := by
  obtain ⟨h1, h2, h3, hz⟩ := saneW_heap W
  refine ⟨_, 2, 2, rfl, rfl, Nat.le_refl _, by omega, fun _ => ⟨_, 0, rfl, by omega, fun i hi => ?_⟩⟩
  match i, hi with
  | 0, _ => exact ⟨by simp [World.cell?, h3, sR], _, by simp [World.cell?, h3], saneW_ch1 W⟩
  | 1, _ => exact ⟨by simp [World.cell?, h3, sR], _, by simp [World.cell?, h3], saneW_ch2 W⟩

set_option maxRecDepth 100000 in
set_option maxHeartbeats 8000000 in
theorem sane_any (W : World) : Calls Try.prog 11 #[] W fun e w' => e = .returned (.bool true) ∧ Below W.heap.size W w' := by
  go_enter Try.func11, Try.ntmps11
  go_wp2_with fail
  refine (at_any (saneW_rec W) sR_chn 2 (by decide)).mono ?_
  rintro e w1 ⟨b1, m1, rfl, hs1, _, hb1⟩
  rw [sR_2] at hs1
  have HS1 : Hid (StAt w1 b1 m1 sL2 2) := Lib.hid hs1
  have HB1 := Lib.hid hb1
  clear hs1 hb1
  go_wp2_with fail
  refine (at_any ((saneW_rec W).below HB1.out) sR_chn 1 (by decide)).mono ?_
  rintro e w2 ⟨b2, m2, rfl, hs2, _, hb2⟩
  rw [sR_1] at hs2
  have HT : Hid (StAt w2 b2 m2 sL1 1) := Lib.hid hs2
  have HB2 := Lib.hid (bt HB1.out hb2)
  have HS2 := Lib.hid (HS1.out.below hb2)
  clear hs2 hb2 HS1
  go_wp2_with fail
  (with_reducible refine (at_far ((saneW_rec W).below HB2.out) 3 (by decide)).mono ?_)
  rintro e w3 ⟨rfl, rfl⟩
  go_wp2_with fail
  (with_reducible refine (rowsS_any HS2.out 0).mono ?_)
  rintro e w3 ⟨v1, rfl, hr1, hb3⟩
  rw [show sL2.filter (selT 0) = sL2 by decide] at hr1
  obtain ⟨g1, o1, cap1, rfl, hg1, hc1⟩ := rowS_form 2 hr1 rfl (by omega)
  have HB3 := Lib.hid (bt HB2.out hb3)
  have HS3 := Lib.hid (HS2.out.below hb3)
  have HT3 := Lib.hid (HT.out.below hb3)
  have HR1 := Lib.hid hr1
  clear hr1 hb3 hg1 hc1 HS2 HT
  go_wp2_with fail
  (with_reducible refine (rangeS_any HS3.out 0 1 10 10 (by omega) (by omega) sL2 (sortOf_mk (by decide) (by decide))).mono ?_)
  rintro e w4 ⟨v2, rfl, hr2, hb4⟩
  obtain ⟨g2, o2, cap2, rfl, hg2, hc2⟩ := rowS_form 2 hr2 rfl (by omega)
  have HB4 := Lib.hid (bt HB3.out hb4)
  have HS4 := Lib.hid (HS3.out.below hb4)
  have HT4 := Lib.hid (HT3.out.below hb4)
  have HR14 := Lib.hid (HR1.out.below hb4)
  have HR2 := Lib.hid hr2
  clear hr2 hb4 hg2 hc2 HS3 HT3 HR1
  go_wp2_with fail
  (with_reducible refine (rangeS_any HS4.out 0 2 1 100 (by omega) (by omega) [⟨0, 5, ⟨10, 21, 30⟩⟩] (sortOf_mk (by decide) (by decide))).mono ?_)
  rintro e w5 ⟨v3, rfl, hr3, hb5⟩
  obtain ⟨g3, o3, cap3, rfl, hg3, hc3⟩ := rowS_form 1 hr3 rfl (by omega)
  have HB5 := Lib.hid (bt HB4.out hb5)
  have HS5 := Lib.hid (HS4.out.below hb5)
  have HT5 := Lib.hid (HT4.out.below hb5)
  have HR15 := Lib.hid (HR14.out.below hb5)
  have HR25 := Lib.hid (HR2.out.below hb5)
  have HR3 := Lib.hid hr3
  clear hr3 hb5 hg3 hc3 HS4 HT4 HR14 HR2
  go_wp2_with fail
  (with_reducible refine (get_any HT5.out (t := 0) (k := 5) (by unfold I64; omega) (by unfold I64; omega)).mono ?_)
  rintro e w6 ⟨rfl, hb6⟩
  rw [show look sL1 0 5 = some ⟨0, 5, ⟨10, 20, 30⟩⟩ by decide]
  simp only [Option.getD_some, Option.isSome_some, rowV]
  have HB6 := Lib.hid (bt HB5.out hb6)
  have HS6 := Lib.hid (HS5.out.below hb6)
  have HR16 := Lib.hid (HR15.out.below hb6)
  have HR26 := Lib.hid (HR25.out.below hb6)
  have HR36 := Lib.hid (HR3.out.below hb6)
  clear hb6 HS5 HT5 HR15 HR25 HR3
  obtain ⟨k1, k2, k3, kz⟩ := saneW_heap W
  have HQ : Hid (w6.heap[W.heap.size + 1 + 1]? = some (.cells #[.int .i64 1, .slice (some ⟨W.heap.size, 0, none⟩) 1 1, .int .i64 2, .slice (some ⟨W.heap.size + 1, 0, none⟩) 2 2] 32 (0, 0))) := Lib.hid ((HB6.out.block _ (by omega)).trans k3)
  have hq1 : W.heap.size + 1 + 1 < w6.heap.size := lt_of_block HQ.out
  have hq2 : ¬ W.heap.size + 1 + 1 = w6.heap.size := by omega
  have q0 : w6.cell? ⟨W.heap.size + 1 + 1, 0, none⟩ = some (.int .i64 1) := by simp [World.cell?, HQ.out]
  have q1 : w6.cell? ⟨W.heap.size + 1 + 1, 1, none⟩ = some (.slice (some ⟨W.heap.size, 0, none⟩) 1 1) := by simp [World.cell?, HQ.out]
  have HC6 := Lib.hid ((saneW_ch1 W).below HB6.out)
  clear k1 k2 k3 kz
  go_wp2_with fail
  (with_reducible refine (apply_nil 1 _ _).mono ?_)
  rintro e w7 ⟨rfl, hb7⟩
  have HB67 := Lib.hid (bt (ba w6 _) hb7)
  have HX7 : Hid (RowAt w7 w6.heap.size ⟨0, 5, ⟨10, 20, 30⟩⟩) := Lib.hid (rowAt_of (t := 50) ((hb7.block _ (by simp)).trans (MapKept.heap_alloc w6 _).1))
  have hx7 : w6.heap.size < w7.heap.size := by have := hb7.size; simp at this; omega
  clear q0 q1 hb7
  go_wp2_with fail
  (with_reducible refine (len_nil _).mono ?_)
  rintro e w8 ⟨rfl, rfl⟩
  go_wp2_with fail
  (with_reducible refine (clone_nil _).mono ?_)
  rintro e w8 ⟨rfl, rfl⟩
  go_wp2_with fail
  (with_reducible refine (rows_nil _ 0).mono ?_)
  rintro e w8 ⟨rfl, hb8⟩
  have HB8 := Lib.hid (bt HB67.out hb8)
  have HS8 := Lib.hid (HS6.out.below HB8.out)
  have HC8 := Lib.hid (HC6.out.below HB8.out)
  have HX8 : Hid (w8.cell? ⟨w6.heap.size, 3, none⟩ = some (.int .i64 20)) := Lib.hid (by
    rw [hb8.cell (p := ⟨w6.heap.size, 3, none⟩) hx7]
    exact HX7.out.c3)
  have x8 := HX8.out
  have p1 : w8.cell? ⟨g1, o1 + 1, none⟩ = some (.int .i64 3) := (rowS_at (HR16.out.below HB8.out) 0 (by omega)).cells.2.1
  have p2 : w8.cell? ⟨g2, o2 + 5 + 1, none⟩ = some (.int .i64 5) := (rowS_at (HR26.out.below HB8.out) 1 (by omega)).cells.2.1
  have p3 : w8.cell? ⟨g3, o3 + 3, none⟩ = some (.int .i64 21) := (rowS_at (HR36.out.below HB8.out) 0 (by omega)).cells.2.2.2.1
  have p3' : w8.cell? ⟨g3, o3 + 2 + 1, none⟩ = some (.int .i64 21) := p3
  have HQ8 : Hid (w8.heap[W.heap.size + 1 + 1]? = some (.cells #[.int .i64 1, .slice (some ⟨W.heap.size, 0, none⟩) 1 1, .int .i64 2, .slice (some ⟨W.heap.size + 1, 0, none⟩) 2 2] 32 (0, 0))) := Lib.hid ((HB8.out.block _ (by omega)).trans HQ.out)
  have q0 : w8.cell? ⟨W.heap.size + 1 + 1, 0, none⟩ = some (.int .i64 1) := by simp [World.cell?, HQ8.out]
  have q1 : w8.cell? ⟨W.heap.size + 1 + 1, 1, none⟩ = some (.slice (some ⟨W.heap.size, 0, none⟩) 1 1) := by simp [World.cell?, HQ8.out]
  clear hb8
  go_wp2_with fail
  (with_reducible refine (position_any HS8.out).mono ?_)
  rintro e w9 ⟨rfl, rfl⟩
  go_wp2_with fail
  (with_reducible refine (len_any HS8.out).mono ?_)
  rintro e w9 ⟨rfl, rfl⟩
  rw [show (sL2.length : Int) = 2 from rfl]
  go_wp2_with fail
  (with_reducible refine (apply_bad HS8.out HC8.out (by decide)).mono ?_)
  rintro e w9 ⟨rfl, hb9⟩
  have HB9 := Lib.hid (bt (bt HB6.out HB8.out) hb9)
  have HS9 := Lib.hid (HS8.out.below hb9)
  clear hb9 p1 p2 p3 p3' q0 q1 x8
  go_wp2_with fail
  (with_reducible refine (range_col HS9.out 0 4 0 9 (by omega)).mono ?_)
  rintro e w10 ⟨rfl, hb10⟩
  have HB10 := Lib.hid (bt (bt (saneW_below W) HB9.out) hb10)
  clear hb10
  go_wp2_with fail
  go_ret
  exact ⟨rfl, HB10.out⟩
end Go.Proofs.Ytaapggeaoacikaa
