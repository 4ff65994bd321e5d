/- WALKS: cut. -/
import Derived.Test.YtgkdliocfnoffaaDoorB1
import Derived.Deep.AppendLies
set_option linter.unusedVariables false
set_option linter.unusedSimpArgs false
namespace Go.Proofs.YtgkdliocfnoffaaDoor
open Go.RowKit Go.Sort

/-- A slice, however long, that reads as a list of changes. -/
def ChI (w : World) (v : Value) (L : List MCh) : Prop :=
  ∃ a n cap, v = .slice a n cap ∧ n = L.length ∧ n ≤ cap ∧ cap ≤ maxLen ∧ (a = none → cap = 0) ∧ (1 ≤ n → ∃ b o, a = some ⟨b, o, none⟩ ∧ b < w.heap.size ∧ ∀ i, i < n → ChAt w b (o + i * 10) (L.getD i chZ))
theorem ChI.below {w w1 : World} {v : Value} {L : List MCh} (h : ChI w v L) (k : Below w.heap.size w w1) : ChI w1 v L := by
  obtain ⟨a, n, cap, e, hn, h1, h2, h4, h3⟩ := h
  refine ⟨a, n, cap, e, hn, h1, h2, h4, fun h => ?_⟩
  obtain ⟨b, o, e, hb, hc⟩ := h3 h
  exact ⟨b, o, e, Nat.lt_of_lt_of_le hb k.size, fun i hi => (hc i hi).below hb k⟩

/-- The cells of the first m changes of a list. -/
def cellsOf (L : List MCh) (m : Nat) : List Value := (List.range (m * 10)).map fun j => ((chCells (L.getD (j / 10) chZ))[j % 10]?).getD undef
theorem cellsOf_len (L : List MCh) (m : Nat) : (cellsOf L m).length = m * 10 := by simp [cellsOf]
theorem chCells_some (c : MCh) (j : Nat) (h : j < 10) : ∃ u, (chCells c)[j]? = some u ∧ u.oneCell' = true := by
  match j, h with
  | 0, _ => exact ⟨_, rfl, rfl⟩
  | 1, _ => exact ⟨_, rfl, rfl⟩
  | 2, _ => exact ⟨_, rfl, rfl⟩
  | 3, _ => exact ⟨_, rfl, rfl⟩
  | 4, _ => exact ⟨_, rfl, rfl⟩
  | 5, _ => exact ⟨_, rfl, rfl⟩
  | 6, _ => exact ⟨_, rfl, rfl⟩
  | 7, _ => exact ⟨_, rfl, rfl⟩
  | 8, _ => exact ⟨_, rfl, rfl⟩
  | 9, _ => exact ⟨_, rfl, rfl⟩
theorem cellsOf_get (L : List MCh) (m j : Nat) (h : j < m * 10) : (cellsOf L m)[j]? = (chCells (L.getD (j / 10) chZ))[j % 10]? := by
  obtain ⟨u, hu, _⟩ := chCells_some (L.getD (j / 10) chZ) (j % 10) (Nat.mod_lt _ (by decide))
  rw [cellsOf, List.getElem?_map, List.getElem?_range h, Option.map_some, hu, Option.getD_some]
theorem cellsOf_one (L : List MCh) (m : Nat) : ∀ u ∈ cellsOf L m, u.oneCell' = true := fun u hu => by
  obtain ⟨j, hj, e⟩ := List.getElem_of_mem hu
  have h := cellsOf_get L m j (by rw [← cellsOf_len L m]; exact hj)
  rw [List.getElem?_eq_getElem hj, e] at h
  obtain ⟨u', hu', h1⟩ := chCells_some (L.getD (j / 10) chZ) (j % 10) (Nat.mod_lt _ (by decide))
  rw [hu'] at h
  obtain rfl := Option.some.inj h
  exact h1
theorem cellsOf_at {w : World} {b o m : Nat} {L : List MCh} (hc : ∀ i, i < m → ChAt w b (o + i * 10) (L.getD i chZ)) : ∀ j u, (cellsOf L m)[j]? = some u → w.cell? ((⟨b, o, none⟩ : Addr).add j) = some u := fun j u hu => by
  have hj : j < m * 10 := by
    have := (List.getElem?_eq_some_iff.1 hu).1
    rwa [cellsOf_len] at this
  rw [cellsOf_get L m j hj] at hu
  have hadd : (⟨b, o, none⟩ : Addr).add j = ⟨b, o + j, none⟩ := by unfold Addr.add; split <;> simp_all
  have := hc (j / 10) (by omega) (j % 10) (Nat.mod_lt _ (by decide))
  rw [hadd, show o + j = o + j / 10 * 10 + j % 10 by omega, this, hu]
theorem chAt_of_owns {w : World} {base g m cap : Nat} {L : List MCh} (h : w.ownsRow base 42 10 (.slice (some ⟨g, 0, none⟩) m cap) m (cellsOf L m)) : ∀ i, i < m → ChAt w g (i * 10) (L.getD i chZ) := by
  obtain ⟨_, h | ⟨g', cap', cur, e, hb, hr, hn, hc, hs, ht⟩⟩ := h
  · simp at h
  · simp only [Value.slice.injEq, Option.some.injEq, Addr.mk.injEq] at e
    obtain ⟨⟨rfl, _⟩, _, rfl⟩ := e
    intro i hi j hj
    rw [cell_of_row w _ _ cur 42 (0, 0) hr]
    have hl : i * 10 + j < m * 10 := by omega
    have h1 := cellsOf_get L m (i * 10 + j) hl
    rw [← ht, List.getElem?_take, if_pos hl, show (i * 10 + j) / 10 = i by omega, show (i * 10 + j) % 10 = j by omega] at h1
    rw [← h1]; simp

theorem cut_keep {W2 w4 w9 : World} (hB : Below W2.heap.size W2 w9) (hg : w9.grownBy w4 (Value.ownBlock (.slice (some ⟨W2.heap.size, 0, none⟩) 0 0))) : Below W2.heap.size W2 w4 :=
  hB.grown hg hB.size (by intro k hk; simp [Value.ownBlock] at hk; omega)
theorem cut_cells {W2 w4 : World} {k : Nat} (h : W2.cell? ⟨k + 1, 0, none⟩ = some (.int .i64 0) ∧ W2.cell? ⟨k + 1, 1, none⟩ = some (.slice none 0 0) ∧ W2.frozen? ⟨k + 1, 0, none⟩ = false ∧ W2.frozen? ⟨k + 1, 1, none⟩ = false) (hb : Below W2.heap.size W2 w4) (hz : W2.heap.size = k + 2) :
    w4.cell? ⟨k + 1, 0, none⟩ = some (.int .i64 0) ∧ w4.cell? ⟨k + 1, 1, none⟩ = some (.slice none 0 0) ∧ w4.frozen? ⟨k + 1, 0, none⟩ = false ∧ w4.frozen? ⟨k + 1, 1, none⟩ = false := by
  obtain ⟨hc, hf⟩ := bcell hb
  rw [hc _ _ (by omega), hc _ _ (by omega), hf _ _ (by omega), hf _ _ (by omega)]
  exact h
theorem cut_fin {W2 w w4 : World} {p : Int} {g cp m : Nat} {L : List MCh} {news : List Value} (hown : w4.ownsRow W2.heap.size 42 10 (.slice (some ⟨g, 0, none⟩) (0 + m) cp) (0 + m) ([] ++ news)) (hn : cellsOf L m = news) (hgl : g < w4.heap.size)
    (hb24 : Below W2.heap.size W2 w4) (hB : Below w.heap.size w W2) (hz : W2.heap.size = w.heap.size + 2) (e0 : w4.cell? ⟨w.heap.size + 1, 0, none⟩ = some (.int .i64 0)) (e1 : w4.cell? ⟨w.heap.size + 1, 1, none⟩ = some (.slice none 0 0)) {W' : World}
    (hW : (w4.setCell ⟨w.heap.size + 1, 0, none⟩ (.int .i64 p)).setCell ⟨w.heap.size + 1, 1, none⟩ (.slice (some ⟨g, 0, none⟩) m cp) = W') :
    W'.cell? ⟨w.heap.size + 1, 0, none⟩ = some (.int .i64 p) ∧ W'.cell? ⟨w.heap.size + 1, 1, none⟩ = some (.slice (some ⟨g, 0, none⟩) m cp) ∧ w.heap.size ≤ g ∧ g < W'.heap.size ∧ m ≤ cp ∧ cp ≤ maxLen ∧ (∀ i, i < m → ChAt W' g (i * 10) (L.getD i chZ)) ∧ Below w.heap.size w W' := by
  rw [Nat.zero_add, List.nil_append, ← hn] at hown
  have hch := chAt_of_owns hown
  have hbase : W2.heap.size ≤ g ∧ m ≤ cp ∧ cp ≤ maxLen := by
    obtain ⟨_, h | ⟨g', cap', cur, e, hb, hr, hn, hc, hs, ht⟩⟩ := hown
    · simp at h
    · simp only [Value.slice.injEq, Option.some.injEq, Addr.mk.injEq] at e
      obtain ⟨⟨rfl, _⟩, _, rfl⟩ := e
      exact ⟨hb, hn, hc⟩
  subst hW
  refine ⟨?_, ?_, by omega, by simpa [World.setCell] using hgl, hbase.2.1, hbase.2.2, fun i hi j hj => ?_, ?_⟩
  · rw [World.cell?_setCell_other _ _ _ _ (by simp)]
    exact World.cell?_setCell_same _ _ _ e0
  · exact World.cell?_setCell_same _ _ _ (u := .slice none 0 0) (by rw [World.cell?_setCell_other _ _ _ _ (by simp)]; exact e1)
  · rw [World.cell?_setCell_other _ _ _ _ (by simp <;> omega), World.cell?_setCell_other _ _ _ _ (by simp <;> omega)]
    exact hch i hi j hj
  · exact below_setCell (below_setCell (bt hB hb24) (by simp) _) (by simp) _
theorem info42' : (Tryd.prog.info? 42).map (fun i => (i.zero, i.size, i.bytes)) = some (some (.agg (chCells chZ)), 10, 80) := by kernel_rfl
set_option maxRecDepth 100000 in
set_option maxHeartbeats 4000000 in
theorem cut_pos (p : Int) (b o n cap m : Nat) (L : List MCh) (w : World) (hn : n = L.length) (hnc : n ≤ cap) (hc : cap ≤ maxLen) (hmin : min (n : Int) 10 = (m : Int)) (hm : 0 < m) (hmn : m ≤ n) (hm10 : m ≤ 10) (hb : b < w.heap.size) (hcs : ∀ i, i < n → ChAt w b (o + i * 10) (L.getD i chZ)) :
    Calls Tryd.prog 22 #[.agg #[.int .i64 p, .slice (some ⟨b, o, none⟩) n cap]] w fun e w' => ∃ g c, e = .returned (.agg #[.int .i64 p, .slice (some ⟨g, 0, none⟩) m c]) ∧ w.heap.size ≤ g ∧ g < w'.heap.size ∧ m ≤ c ∧ c ≤ maxLen ∧ (∀ i, i < m → ChAt w' g (i * 10) (L.getD i chZ)) ∧ Below w.heap.size w w' := by
  have HN := Lib.hid hn
  have HC := Lib.hid hcs
  have hmc : (m : Int) ≤ (cap : Int) := by omega
  have hm0 : (0 : Int) ≤ (m : Int) := by omega
  clear hn hcs
  go_enter Tryd.func22, Tryd.ntmps22
  obtain ⟨W2, HW2⟩ : ∃ W2, Hid ((w.alloc (.cells #[.int .i64 p, .slice (some ⟨b, o, none⟩) n cap] 37)).alloc (.cells #[.int .i64 0, .slice none 0 0] 37) = W2) := ⟨_, Lib.hid rfl⟩
  have HB2 : Hid (Below w.heap.size w W2) := Lib.hid (by rw [← HW2.out]; exact bt (ba _ _) (ba _ _))
  have HZ2 : Hid (W2.heap.size = w.heap.size + 2) := Lib.hid (by rw [← HW2.out]; simp)
  have HC2 : Hid (W2.cell? ⟨w.heap.size, 0, none⟩ = some (.int .i64 p) ∧ W2.cell? ⟨w.heap.size, 1, none⟩ = some (.slice (some ⟨b, o, none⟩) n cap)) := Lib.hid (by rw [← HW2.out]; exact ⟨by simp [go_sem], by simp [go_sem]⟩)
  obtain ⟨W1, HW1⟩ : ∃ W1, Hid (w.alloc (.cells #[.int .i64 p, .slice (some ⟨b, o, none⟩) n cap] 37) = W1) := ⟨_, Lib.hid rfl⟩
  have HZ1 : Hid (W1.heap.size = w.heap.size + 1) := Lib.hid (by rw [← HW1.out]; simp)
  have HB1 : Hid (Below w.heap.size w W1) := Lib.hid (by rw [← HW1.out]; exact ba _ _)
  have HB12 : Hid (Below W1.heap.size W1 W2) := Lib.hid (by rw [← HW2.out, HW1.out]; exact ba _ _)
  have HC1 : Hid (W1.cell? ⟨w.heap.size, 0, none⟩ = some (.int .i64 p) ∧ W1.cell? ⟨w.heap.size, 1, none⟩ = some (.slice (some ⟨b, o, none⟩) n cap)) := Lib.hid (by rw [← HW1.out]; exact ⟨by simp [go_sem], by simp [go_sem]⟩)
  have HE2 : Hid (W2.cell? ⟨w.heap.size + 1, 0, none⟩ = some (.int .i64 0) ∧ W2.cell? ⟨w.heap.size + 1, 1, none⟩ = some (.slice none 0 0) ∧ W2.frozen? ⟨w.heap.size + 1, 0, none⟩ = false ∧ W2.frozen? ⟨w.heap.size + 1, 1, none⟩ = false) := Lib.hid (by rw [← HW2.out]; exact ⟨by simp [go_sem], by simp [go_sem], by simp [go_sem], by simp [go_sem]⟩)
  have HK : Hid (∀ w', Below W1.heap.size W1 w' → (fun w' => (w'.cell? ⟨w.heap.size, 0, none⟩ = some (.int .i64 p) ∧ w'.cell? ⟨w.heap.size, 1, none⟩ = some (.slice (some ⟨b, o, none⟩) n cap)) ∧ Below W1.heap.size W1 w') w') := Lib.hid (fun w' hw' => by
    obtain ⟨hc2, _⟩ := bcell hw'
    have hz1 := HZ1.out
    exact ⟨⟨by rw [hc2 _ _ (by omega)]; exact HC1.out.1, by rw [hc2 _ _ (by omega)]; exact HC1.out.2⟩, hw'⟩)
  have HNw : Hid (∀ w', Below W1.heap.size W1 w' → ∀ j u, (cellsOf L m)[j]? = some u → w'.cell? ((⟨b, o, none⟩ : Addr).add j) = some u) := Lib.hid (fun w' hw' => cellsOf_at (fun i hi => (HC.out i (by omega)).below hb (bt HB1.out hw')))
  have HO : Hid ((W2.alloc (.cells #[] 42)).drew.ownsRow W2.heap.size 42 10 (.slice (some ⟨W2.heap.size, 0, none⟩) 0 0) 0 []) := Lib.hid (World.ownsRow_made W2 #[] 0 (Nat.le_refl _) (by decide) rfl)
  obtain ⟨i0, hi0, hz0, hz1, hz3⟩ := info_parts info42'
  have hb16 : (0 + m) * 80 ≤ 140737488355328 := by omega
  have hm63 : 0 + m ≤ maxLen := by unfold maxLen; omega
  have HL : Hid (cellsOf L m = cellsOf L m) := Lib.hid rfl
  obtain ⟨news, Hnews⟩ : ∃ news, Hid (cellsOf L m = news) := ⟨_, Lib.hid rfl⟩
  rw [Hnews.out] at HNw
  have Hlen : Hid (news.length = m * 10) := Lib.hid (by rw [← Hnews.out]; exact cellsOf_len L m)
  have Hone : Hid (∀ u ∈ news, u.oneCell' = true) := Lib.hid (by rw [← Hnews.out]; exact cellsOf_one L m)
  go_wp2_with fail
  rw [HW2.out]
  go_region_held3 (fun w' => (w'.cell? ⟨w.heap.size, 0, none⟩ = some (.int .i64 p) ∧ w'.cell? ⟨w.heap.size, 1, none⟩ = some (.slice (some ⟨b, o, none⟩) n cap)) ∧ Below W1.heap.size W1 w')
    (first | assumption | exact HK.out _ (bt HB12.out hb24) | exact HK.out _ HB12.out.drew | exact HK.out _ (bt HB12.out (ba _ _)).drew | exact HK.out _ (bt HB12.out (bt (Below.refl _ _).drew (ba _ _))) | exact HK.out _ (below_setCell (below_setCell (bt HB12.out hb24) (by simp [HZ1.out]) _) (by simp [HZ1.out]) _))
    ((refine step_append_lies _ (by rfl) _ _ _ (by rfl) W2.heap.size 42 i0 (.agg (chCells chZ)) 10 80 Tryd.underlying35 hi0 hz0 hz1 hz3 (by rfl) (by decide) (.slice (some ⟨W2.heap.size, 0, none⟩) 0 0) 0 [] (by rfl) HO.out ⟨b, o, none⟩ m cap news (by rfl) Hlen.out (HNw.out _ (by first | exact And.right (by assumption) | exact (bt HB12.out (ba _ _)).drew)) Hone.out hm hm63 hb16 (by simp) (W2.heap.size + 1) (by simp) ?_; intro g cp w4 hown4 hgrow hat hgl; have hb24 : Below W2.heap.size W2 w4 := cut_keep (ba W2 (.cells #[] 42)).drew hgrow; obtain ⟨e0, e1, f0, f1⟩ := cut_cells HE2.out hb24 HZ2.out))
  all_goals
    go_wp2_with fail
    obtain ⟨WE, HWE⟩ : ∃ WE, (w4.setCell ⟨w.heap.size + 1, 0, none⟩ (.int .i64 p)).setCell ⟨w.heap.size + 1, 1, none⟩ (.slice (some ⟨g, 0, none⟩) m cp) = WE := ⟨_, rfl⟩
    rw [HWE]
    obtain ⟨q0, q1, q2, q3, q4, q5, q6, q7⟩ := cut_fin hown4 Hnews.out hgl hb24 HB2.out HZ2.out e0 e1 HWE
    exact bodyPost_ret (v := .agg #[.int .i64 p, .slice (some ⟨g, 0, none⟩) m cp]) (by simp [results, Tryd.results22, go_sem, q0, q1]) rfl ⟨g, cp, rfl, q2, q3, q4, q5, q6, q7⟩
end Go.Proofs.YtgkdliocfnoffaaDoor
