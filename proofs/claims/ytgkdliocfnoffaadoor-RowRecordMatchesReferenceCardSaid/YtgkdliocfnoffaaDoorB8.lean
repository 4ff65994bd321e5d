/- WALKS: cut, whose slice is its caller's own. -/
import Derived.Test.YtgkdliocfnoffaaDoorB6
import Derived.Test.YtgkdliocfnoffaaDoorP2
set_option linter.unusedVariables false
set_option linter.unusedSimpArgs false
namespace Go.Proofs.YtgkdliocfnoffaaDoor
open Go.RowKit Go.Sort

theorem own_mono {w : World} {base base' : Nat} {v : Value} {n : Nat} {xs : List Value} (h : w.ownsRow base 42 10 v n xs) (hb : base' ≤ base) : w.ownsRow base' 42 10 v n xs := by
  obtain ⟨hl, h | ⟨g', cap', cur, e, hb', r⟩⟩ := h
  · exact ⟨hl, .inl h⟩
  · exact ⟨hl, .inr ⟨g', cap', cur, e, by omega, r⟩⟩
theorem own_setCell {w : World} {base g k m cap : Nat} {xs : List Value} (h : w.ownsRow base 42 10 (.slice (some ⟨g, 0, none⟩) m cap) m xs) (hk : ¬ g = k) (o : Nat) (u : Value) : (w.setCell ⟨k, o, none⟩ u).ownsRow base 42 10 (.slice (some ⟨g, 0, none⟩) m cap) m xs := by
  obtain ⟨hl, h | ⟨g', cap', cur, e, hb, hr, hn, hc, hs, ht⟩⟩ := h
  · simp at h
  · obtain ⟨⟨rfl, _⟩, _, rfl⟩ : ((g = g' ∧ True) ∧ True ∧ cap = cap') := by simpa using e
    exact ⟨hl, .inr ⟨g, cap, cur, rfl, hb, by rw [heap_setCell_far hk]; exact hr, hn, hc, hs, ht⟩⟩
theorem cutO_fin {W2 w w4 : World} {p : Int} {g cp m : Nat} {L : List MCh} {news : List Value} (hown : w4.ownsRow W2.heap.size 42 10 (.slice (some ⟨g, 0, none⟩) (0 + m) cp) (0 + m) ([] ++ news)) (hn : cellsOf L m = news) (hgl : g < w4.heap.size)
    (hb24 : Below W2.heap.size W2 w4) (hB : Below w.heap.size w W2) (hz : W2.heap.size = w.heap.size + 2) (e0 : w4.cell? ⟨w.heap.size + 1, 0, none⟩ = some (.int .i64 0)) (e1 : w4.cell? ⟨w.heap.size + 1, 1, none⟩ = some (.slice none 0 0)) {W' : World}
    (hW : (w4.setCell ⟨w.heap.size + 1, 0, none⟩ (.int .i64 p)).setCell ⟨w.heap.size + 1, 1, none⟩ (.slice (some ⟨g, 0, none⟩) m cp) = W') :
    W'.cell? ⟨w.heap.size + 1, 0, none⟩ = some (.int .i64 p) ∧ W'.cell? ⟨w.heap.size + 1, 1, none⟩ = some (.slice (some ⟨g, 0, none⟩) m cp) ∧ w.heap.size ≤ g ∧ g < W'.heap.size ∧ m ≤ cp ∧ cp ≤ maxLen ∧ (∀ i, i < m → ChAt W' g (i * 10) (L.getD i chZ)) ∧ Below w.heap.size w W' ∧ W'.ownsRow w.heap.size 42 10 (.slice (some ⟨g, 0, none⟩) m cp) m (cellsOf L m) := by
  rw [Nat.zero_add, List.nil_append, ← hn] at hown
  have hch := chAt_of_owns hown
  have hown' := hown
  have hbase : W2.heap.size ≤ g ∧ m ≤ cp ∧ cp ≤ maxLen := by
    obtain ⟨_, h | ⟨g', cap', cur, e, hb, hr, hn, hc, hs, ht⟩⟩ := hown
    · simp at h
    · simp only [Value.slice.injEq, Option.some.injEq, Addr.mk.injEq] at e
      obtain ⟨⟨rfl, _⟩, _, rfl⟩ := e
      exact ⟨hb, hn, hc⟩
  subst hW
  refine ⟨?_, ?_, by omega, by simpa [World.setCell] using hgl, hbase.2.1, hbase.2.2, fun i hi j hj => ?_, ?_, ?_⟩
  · rw [World.cell?_setCell_other _ _ _ _ (by simp)]
    exact World.cell?_setCell_same _ _ _ e0
  · exact World.cell?_setCell_same _ _ _ (u := .slice none 0 0) (by rw [World.cell?_setCell_other _ _ _ _ (by simp)]; exact e1)
  · rw [World.cell?_setCell_other _ _ _ _ (by simp <;> omega), World.cell?_setCell_other _ _ _ _ (by simp <;> omega)]
    exact hch i hi j hj
  · exact below_setCell (below_setCell (bt hB hb24) (by simp) _) (by simp) _
  · exact own_mono (own_setCell (own_setCell hown' (k := w.heap.size + 1) (by omega) _ _) (k := w.heap.size + 1) (by omega) _ _) (by omega)
set_option maxRecDepth 100000 in
set_option maxHeartbeats 4000000 in
theorem cutO_pos (p : Int) (b o n cap m : Nat) (L : List MCh) (w : World) (hn : n = L.length) (hnc : n ≤ cap) (hc : cap ≤ maxLen) (hmin : min (n : Int) 10 = (m : Int)) (hm : 0 < m) (hmn : m ≤ n) (hm10 : m ≤ 10) (hb : b < w.heap.size) (hcs : ∀ i, i < n → ChAt w b (o + i * 10) (L.getD i chZ)) :
    Calls Tryd.prog 22 #[.agg #[.int .i64 p, .slice (some ⟨b, o, none⟩) n cap]] w fun e w' => ∃ g c, e = .returned (.agg #[.int .i64 p, .slice (some ⟨g, 0, none⟩) m c]) ∧ w.heap.size ≤ g ∧ g < w'.heap.size ∧ m ≤ c ∧ c ≤ maxLen ∧ (∀ i, i < m → ChAt w' g (i * 10) (L.getD i chZ)) ∧ Below w.heap.size w w' ∧ w'.ownsRow w.heap.size 42 10 (.slice (some ⟨g, 0, none⟩) m c) m (cellsOf L m) := by
  have HN := Lib.hid hn
  have HC := Lib.hid hcs
  have hmc : (m : Int) ≤ (cap : Int) := by omega
  have hm0 : (0 : Int) ≤ (m : Int) := by omega
  clear hn hcs
  go_enter Tryd.func22, Tryd.ntmps22
  obtain ⟨W2, HW2⟩ : ∃ W2, Hid ((w.alloc (.cells #[.int .i64 p, .slice (some ⟨b, o, none⟩) n cap] 37)).alloc (.cells #[.int .i64 0, .slice none 0 0] 37) = W2) := ⟨_, Lib.hid rfl⟩
  have HB2 : Hid (Below w.heap.size w W2) := Lib.hid (by rw [← HW2.out]; exact bt (ba _ _) (ba _ _))
  have HZ2 : Hid (W2.heap.size = w.heap.size + 2) := Lib.hid (by rw [← HW2.out]; simp)
  have HC2 : Hid (W2.cell? ⟨w.heap.size, 0, none⟩ = some (.int .i64 p) ∧ W2.cell? ⟨w.heap.size, 1, none⟩ = some (.slice (some ⟨b, o, none⟩) n cap)) := Lib.hid (by rw [← HW2.out]; exact ⟨by simp [go_sem], by simp [go_sem]⟩)
  obtain ⟨W1, HW1⟩ : ∃ W1, Hid (w.alloc (.cells #[.int .i64 p, .slice (some ⟨b, o, none⟩) n cap] 37) = W1) := ⟨_, Lib.hid rfl⟩
  have HZ1 : Hid (W1.heap.size = w.heap.size + 1) := Lib.hid (by rw [← HW1.out]; simp)
  have HB1 : Hid (Below w.heap.size w W1) := Lib.hid (by rw [← HW1.out]; exact ba _ _)
  have HB12 : Hid (Below W1.heap.size W1 W2) := Lib.hid (by rw [← HW2.out, HW1.out]; exact ba _ _)
  have HC1 : Hid (W1.cell? ⟨w.heap.size, 0, none⟩ = some (.int .i64 p) ∧ W1.cell? ⟨w.heap.size, 1, none⟩ = some (.slice (some ⟨b, o, none⟩) n cap)) := Lib.hid (by rw [← HW1.out]; exact ⟨by simp [go_sem], by simp [go_sem]⟩)
  have HE2 : Hid (W2.cell? ⟨w.heap.size + 1, 0, none⟩ = some (.int .i64 0) ∧ W2.cell? ⟨w.heap.size + 1, 1, none⟩ = some (.slice none 0 0) ∧ W2.frozen? ⟨w.heap.size + 1, 0, none⟩ = false ∧ W2.frozen? ⟨w.heap.size + 1, 1, none⟩ = false) := Lib.hid (by rw [← HW2.out]; exact ⟨by simp [go_sem], by simp [go_sem], by simp [go_sem], by simp [go_sem]⟩)
  have HK : Hid (∀ w', Below W1.heap.size W1 w' → (fun w' => (w'.cell? ⟨w.heap.size, 0, none⟩ = some (.int .i64 p) ∧ w'.cell? ⟨w.heap.size, 1, none⟩ = some (.slice (some ⟨b, o, none⟩) n cap)) ∧ Below W1.heap.size W1 w') w') := Lib.hid (fun w' hw' => by
    obtain ⟨hc2, _⟩ := bcell hw'
    have hz1 := HZ1.out
    exact ⟨⟨by rw [hc2 _ _ (by omega)]; exact HC1.out.1, by rw [hc2 _ _ (by omega)]; exact HC1.out.2⟩, hw'⟩)
  have HNw : Hid (∀ w', Below W1.heap.size W1 w' → ∀ j u, (cellsOf L m)[j]? = some u → w'.cell? ((⟨b, o, none⟩ : Addr).add j) = some u) := Lib.hid (fun w' hw' => cellsOf_at (fun i hi => (HC.out i (by omega)).below hb (bt HB1.out hw')))
  have HO : Hid ((W2.alloc (.cells #[] 42)).drew.ownsRow W2.heap.size 42 10 (.slice (some ⟨W2.heap.size, 0, none⟩) 0 0) 0 []) := Lib.hid (World.ownsRow_made W2 #[] 0 (Nat.le_refl _) (by decide) rfl)
  obtain ⟨i0, hi0, hz0, hz1, hz3⟩ := info_parts info42'
  have hb16 : (0 + m) * 80 ≤ 140737488355328 := by omega
  have hm63 : 0 + m ≤ maxLen := by unfold maxLen; omega
  have HL : Hid (cellsOf L m = cellsOf L m) := Lib.hid rfl
  obtain ⟨news, Hnews⟩ : ∃ news, Hid (cellsOf L m = news) := ⟨_, Lib.hid rfl⟩
  rw [Hnews.out] at HNw
  have Hlen : Hid (news.length = m * 10) := Lib.hid (by rw [← Hnews.out]; exact cellsOf_len L m)
  have Hone : Hid (∀ u ∈ news, u.oneCell' = true) := Lib.hid (by rw [← Hnews.out]; exact cellsOf_one L m)
  go_wp2_with fail
  rw [HW2.out]
  go_region_held3 (fun w' => (w'.cell? ⟨w.heap.size, 0, none⟩ = some (.int .i64 p) ∧ w'.cell? ⟨w.heap.size, 1, none⟩ = some (.slice (some ⟨b, o, none⟩) n cap)) ∧ Below W1.heap.size W1 w')
    (first | assumption | exact HK.out _ (bt HB12.out hb24) | exact HK.out _ HB12.out.drew | exact HK.out _ (bt HB12.out (ba _ _)).drew | exact HK.out _ (bt HB12.out (bt (Below.refl _ _).drew (ba _ _))) | exact HK.out _ (below_setCell (below_setCell (bt HB12.out hb24) (by simp [HZ1.out]) _) (by simp [HZ1.out]) _))
    ((refine step_append_lies _ (by rfl) _ _ _ (by rfl) W2.heap.size 42 i0 (.agg (chCells chZ)) 10 80 Tryd.underlying35 hi0 hz0 hz1 hz3 (by rfl) (by decide) (.slice (some ⟨W2.heap.size, 0, none⟩) 0 0) 0 [] (by rfl) HO.out ⟨b, o, none⟩ m cap news (by rfl) Hlen.out (HNw.out _ (by first | exact And.right (by assumption) | exact (bt HB12.out (ba _ _)).drew)) Hone.out hm hm63 hb16 (by simp) (W2.heap.size + 1) (by simp) ?_; intro g cp w4 hown4 hgrow hat hgl; have hb24 : Below W2.heap.size W2 w4 := cut_keep (ba W2 (.cells #[] 42)).drew hgrow; obtain ⟨e0, e1, f0, f1⟩ := cut_cells HE2.out hb24 HZ2.out))
  all_goals
    go_wp2_with fail
    obtain ⟨WE, HWE⟩ : ∃ WE, (w4.setCell ⟨w.heap.size + 1, 0, none⟩ (.int .i64 p)).setCell ⟨w.heap.size + 1, 1, none⟩ (.slice (some ⟨g, 0, none⟩) m cp) = WE := ⟨_, rfl⟩
    rw [HWE]
    obtain ⟨q0, q1, q2, q3, q4, q5, q6, q7, q8⟩ := cutO_fin hown4 Hnews.out hgl hb24 HB2.out HZ2.out e0 e1 HWE
    exact bodyPost_ret (v := .agg #[.int .i64 p, .slice (some ⟨g, 0, none⟩) m cp]) (by simp [results, Tryd.results22, go_sem, q0, q1]) rfl ⟨g, cp, rfl, q2, q3, q4, q5, q6, q7, q8⟩
set_option maxRecDepth 100000 in
set_option maxHeartbeats 4000000 in
theorem cutO_none (p : Int) (w : World) :
    Calls Tryd.prog 22 #[.agg #[.int .i64 p, .slice none 0 0]] w fun e w' => ∃ g c, e = .returned (.agg #[.int .i64 p, .slice (some ⟨g, 0, none⟩) 0 c]) ∧ w.heap.size ≤ g ∧ g < w'.heap.size ∧ c ≤ maxLen ∧ Below w.heap.size w w' ∧ w'.ownsRow w.heap.size 42 10 (.slice (some ⟨g, 0, none⟩) 0 c) 0 (cellsOf [] 0) := by
  have hmin : min (0 : Int) 10 = 0 := by decide
  go_enter Tryd.func22, Tryd.ntmps22
  obtain ⟨W2, HW2⟩ : ∃ W2, Hid ((w.alloc (.cells #[.int .i64 p, .slice none 0 0] 37)).alloc (.cells #[.int .i64 0, .slice none 0 0] 37) = W2) := ⟨_, Lib.hid rfl⟩
  have HB2 : Hid (Below w.heap.size w W2) := Lib.hid (by rw [← HW2.out]; exact bt (ba _ _) (ba _ _))
  have HZ2 : Hid (W2.heap.size = w.heap.size + 2) := Lib.hid (by rw [← HW2.out]; simp)
  obtain ⟨W1, HW1⟩ : ∃ W1, Hid (w.alloc (.cells #[.int .i64 p, .slice none 0 0] 37) = W1) := ⟨_, Lib.hid rfl⟩
  have HZ1 : Hid (W1.heap.size = w.heap.size + 1) := Lib.hid (by rw [← HW1.out]; simp)
  have HB1 : Hid (Below w.heap.size w W1) := Lib.hid (by rw [← HW1.out]; exact ba _ _)
  have HB12 : Hid (Below W1.heap.size W1 W2) := Lib.hid (by rw [← HW2.out, HW1.out]; exact ba _ _)
  have HC1 : Hid (W1.cell? ⟨w.heap.size, 0, none⟩ = some (.int .i64 p) ∧ W1.cell? ⟨w.heap.size, 1, none⟩ = some (.slice none 0 0)) := Lib.hid (by rw [← HW1.out]; exact ⟨by simp [go_sem], by simp [go_sem]⟩)
  have HE2 : Hid (W2.cell? ⟨w.heap.size + 1, 0, none⟩ = some (.int .i64 0) ∧ W2.cell? ⟨w.heap.size + 1, 1, none⟩ = some (.slice none 0 0) ∧ W2.frozen? ⟨w.heap.size + 1, 0, none⟩ = false ∧ W2.frozen? ⟨w.heap.size + 1, 1, none⟩ = false) := Lib.hid (by rw [← HW2.out]; exact ⟨by simp [go_sem], by simp [go_sem], by simp [go_sem], by simp [go_sem]⟩)
  have HK : Hid (∀ w', Below W1.heap.size W1 w' → (fun w' => (w'.cell? ⟨w.heap.size, 0, none⟩ = some (.int .i64 p) ∧ w'.cell? ⟨w.heap.size, 1, none⟩ = some (.slice none 0 0)) ∧ Below W1.heap.size W1 w') w') := Lib.hid (fun w' hw' => by
    obtain ⟨hc2, _⟩ := bcell hw'
    have hz1 := HZ1.out
    exact ⟨⟨by rw [hc2 _ _ (by omega)]; exact HC1.out.1, by rw [hc2 _ _ (by omega)]; exact HC1.out.2⟩, hw'⟩)
  have HO : Hid ((W2.alloc (.cells #[] 42)).drew.ownsRow W2.heap.size 42 10 (.slice (some ⟨W2.heap.size, 0, none⟩) 0 0) 0 []) := Lib.hid (World.ownsRow_made W2 #[] 0 (Nat.le_refl _) (by decide) rfl)
  have HGL : Hid (W2.heap.size < (W2.alloc (.cells #[] 42)).drew.heap.size) := Lib.hid (by simp)
  obtain ⟨i0, hi0, hz0, hz1, hz3⟩ := info_parts info42'
  go_wp2_with fail
  rw [HW2.out]
  go_region_held3 (fun w' => (w'.cell? ⟨w.heap.size, 0, none⟩ = some (.int .i64 p) ∧ w'.cell? ⟨w.heap.size, 1, none⟩ = some (.slice none 0 0)) ∧ Below W1.heap.size W1 w')
    (first | assumption | exact HK.out _ HB12.out.drew | exact HK.out _ (bt HB12.out (ba _ _)).drew | exact HK.out _ (bt HB12.out hb24) | exact HK.out _ (below_setCell (below_setCell (bt HB12.out hb24) (by simp [HZ1.out]) _) (by simp [HZ1.out]) _))
    ((refine step_append_zero (by rfl) _ _ _ (by rfl) W2.heap.size 42 i0 10 Tryd.underlying35 hi0 hz1 (.slice (some ⟨W2.heap.size, 0, none⟩) 0 0) W2.heap.size rfl (by rfl) HO.out none 0 0 rfl (by rfl) (fun _ => rfl) ?_; intro w4 hw4; obtain ⟨hb24, hgl, hown4⟩ := cut_lets hw4; clear hw4; obtain ⟨e0, e1, f0, f1⟩ := cut_cells HE2.out hb24 HZ2.out))
  all_goals
    go_wp2_with fail
    obtain ⟨WE, HWE⟩ : ∃ WE, (w4.setCell ⟨w.heap.size + 1, 0, none⟩ (.int .i64 p)).setCell ⟨w.heap.size + 1, 1, none⟩ (.slice (some ⟨W2.heap.size, 0, none⟩) 0 0) = WE := ⟨_, rfl⟩
    rw [HWE]
    obtain ⟨q0, q1, q2, q3, q4, q5, q6, q7, q8⟩ := cutO_fin (L := []) hown4 rfl hgl hb24 HB2.out HZ2.out e0 e1 HWE
    exact bodyPost_ret (v := .agg #[.int .i64 p, .slice (some ⟨W2.heap.size, 0, none⟩) 0 0]) (by simp [results, Tryd.results22, go_sem, q0, q1]) rfl ⟨_, _, rfl, q2, q3, q5, q7, q8⟩
set_option maxRecDepth 100000 in
set_option maxHeartbeats 4000000 in
theorem cutO_some (p : Int) (a : Addr) (n m cap : Nat) (w : World) (hn : Hid (n = 0)) (hm : Hid (m = 0)) (hmin : min (n : Int) 10 = (m : Int)) (hmc : (m : Int) ≤ (cap : Int)) :
    Calls Tryd.prog 22 #[.agg #[.int .i64 p, .slice (some a) n cap]] w fun e w' => ∃ g c, e = .returned (.agg #[.int .i64 p, .slice (some ⟨g, 0, none⟩) 0 c]) ∧ w.heap.size ≤ g ∧ g < w'.heap.size ∧ c ≤ maxLen ∧ Below w.heap.size w w' ∧ w'.ownsRow w.heap.size 42 10 (.slice (some ⟨g, 0, none⟩) 0 c) 0 (cellsOf [] 0) := by
  have hm0 : (0 : Int) ≤ (m : Int) := by omega
  have hnc : (m : Int) ≤ (n : Int) := by rw [hm.out, hn.out]; exact Int.le_refl _
  go_enter Tryd.func22, Tryd.ntmps22
  obtain ⟨W2, HW2⟩ : ∃ W2, Hid ((w.alloc (.cells #[.int .i64 p, .slice (some a) n cap] 37)).alloc (.cells #[.int .i64 0, .slice none 0 0] 37) = W2) := ⟨_, Lib.hid rfl⟩
  have HB2 : Hid (Below w.heap.size w W2) := Lib.hid (by rw [← HW2.out]; exact bt (ba _ _) (ba _ _))
  have HZ2 : Hid (W2.heap.size = w.heap.size + 2) := Lib.hid (by rw [← HW2.out]; simp)
  obtain ⟨W1, HW1⟩ : ∃ W1, Hid (w.alloc (.cells #[.int .i64 p, .slice (some a) n cap] 37) = W1) := ⟨_, Lib.hid rfl⟩
  have HZ1 : Hid (W1.heap.size = w.heap.size + 1) := Lib.hid (by rw [← HW1.out]; simp)
  have HB1 : Hid (Below w.heap.size w W1) := Lib.hid (by rw [← HW1.out]; exact ba _ _)
  have HB12 : Hid (Below W1.heap.size W1 W2) := Lib.hid (by rw [← HW2.out, HW1.out]; exact ba _ _)
  have HC1 : Hid (W1.cell? ⟨w.heap.size, 0, none⟩ = some (.int .i64 p) ∧ W1.cell? ⟨w.heap.size, 1, none⟩ = some (.slice (some a) n cap)) := Lib.hid (by rw [← HW1.out]; exact ⟨by simp [go_sem], by simp [go_sem]⟩)
  have HE2 : Hid (W2.cell? ⟨w.heap.size + 1, 0, none⟩ = some (.int .i64 0) ∧ W2.cell? ⟨w.heap.size + 1, 1, none⟩ = some (.slice none 0 0) ∧ W2.frozen? ⟨w.heap.size + 1, 0, none⟩ = false ∧ W2.frozen? ⟨w.heap.size + 1, 1, none⟩ = false) := Lib.hid (by rw [← HW2.out]; exact ⟨by simp [go_sem], by simp [go_sem], by simp [go_sem], by simp [go_sem]⟩)
  have HK : Hid (∀ w', Below W1.heap.size W1 w' → (fun w' => (w'.cell? ⟨w.heap.size, 0, none⟩ = some (.int .i64 p) ∧ w'.cell? ⟨w.heap.size, 1, none⟩ = some (.slice (some a) n cap)) ∧ Below W1.heap.size W1 w') w') := Lib.hid (fun w' hw' => by
    obtain ⟨hc2, _⟩ := bcell hw'
    have hz1 := HZ1.out
    exact ⟨⟨by rw [hc2 _ _ (by omega)]; exact HC1.out.1, by rw [hc2 _ _ (by omega)]; exact HC1.out.2⟩, hw'⟩)
  have HO : Hid ((W2.alloc (.cells #[] 42)).drew.ownsRow W2.heap.size 42 10 (.slice (some ⟨W2.heap.size, 0, none⟩) 0 0) 0 []) := Lib.hid (World.ownsRow_made W2 #[] 0 (Nat.le_refl _) (by decide) rfl)
  have HGL : Hid (W2.heap.size < (W2.alloc (.cells #[] 42)).drew.heap.size) := Lib.hid (by simp)
  obtain ⟨i0, hi0, hz0, hz1, hz3⟩ := info_parts info42'
  go_wp2_with fail
  rw [HW2.out]
  go_region_held3 (fun w' => (w'.cell? ⟨w.heap.size, 0, none⟩ = some (.int .i64 p) ∧ w'.cell? ⟨w.heap.size, 1, none⟩ = some (.slice (some a) n cap)) ∧ Below W1.heap.size W1 w')
    (first | assumption | exact HK.out _ HB12.out.drew | exact HK.out _ (bt HB12.out (ba _ _)).drew | exact HK.out _ (bt HB12.out hb24) | exact HK.out _ (below_setCell (below_setCell (bt HB12.out hb24) (by simp [HZ1.out]) _) (by simp [HZ1.out]) _))
    ((refine step_append_zero (by rfl) _ _ _ (by rfl) W2.heap.size 42 i0 10 Tryd.underlying35 hi0 hz1 (.slice (some ⟨W2.heap.size, 0, none⟩) 0 0) W2.heap.size rfl (by rfl) HO.out (some a) m cap hm.out (by rfl) (fun h => by cases h) ?_; intro w4 hw4; obtain ⟨hb24, hgl, hown4⟩ := cut_lets hw4; clear hw4; obtain ⟨e0, e1, f0, f1⟩ := cut_cells HE2.out hb24 HZ2.out))
  all_goals
    go_wp2_with fail
    obtain ⟨WE, HWE⟩ : ∃ WE, (w4.setCell ⟨w.heap.size + 1, 0, none⟩ (.int .i64 p)).setCell ⟨w.heap.size + 1, 1, none⟩ (.slice (some ⟨W2.heap.size, 0, none⟩) 0 0) = WE := ⟨_, rfl⟩
    rw [HWE]
    obtain ⟨q0, q1, q2, q3, q4, q5, q6, q7, q8⟩ := cutO_fin (L := []) hown4 rfl hgl hb24 HB2.out HZ2.out e0 e1 HWE
    exact bodyPost_ret (v := .agg #[.int .i64 p, .slice (some ⟨W2.heap.size, 0, none⟩) 0 0]) (by simp [results, Tryd.results22, go_sem, q0, q1]) rfl ⟨_, _, rfl, q2, q3, q5, q7, q8⟩


/-- A block of changes: c of them at most, the first ones being L. -/
def OwnAt (w : World) (g c : Nat) (L : List MCh) : Prop :=
  ∃ cur, w.heap[g]? = some (.cells cur 42 (0, 0)) ∧ cur.size = 10 * c ∧ L.length ≤ c ∧ ∀ i, i < L.length → ∀ j, j < 10 → cur[i * 10 + j]? = (chCells (L.getD i chZ))[j]?
theorem OwnAt.lt {w : World} {g c : Nat} {L : List MCh} (h : OwnAt w g c L) : g < w.heap.size := by
  obtain ⟨cur, hr, _⟩ := h
  exact (Array.getElem?_eq_some_iff.1 hr).1
theorem OwnAt.at {w : World} {g c : Nat} {L : List MCh} (h : OwnAt w g c L) (i : Nat) (hi : i < L.length) : ChAt w g (i * 10) (L.getD i chZ) := by
  obtain ⟨cur, hr, hs, hn, ht⟩ := h
  intro j hj
  rw [cell_of_row w _ _ cur 42 (0, 0) hr]
  exact ht i hi j hj
theorem OwnAt.below {w w' : World} {g c : Nat} {L : List MCh} (h : OwnAt w g c L) (k : Below w.heap.size w w') : OwnAt w' g c L := by
  have hl := h.lt
  obtain ⟨cur, hr, r⟩ := h
  exact ⟨cur, (k.block _ hl).trans hr, r⟩
theorem OwnAt.belowAt {w w' : World} {g c B : Nat} {L : List MCh} (h : OwnAt w g c L) (k : Below B w w') (hg : g < B) : OwnAt w' g c L := by
  obtain ⟨cur, hr, r⟩ := h
  exact ⟨cur, (k.block _ hg).trans hr, r⟩
theorem OwnAt.far {w : World} {g c : Nat} {L : List MCh} (h : OwnAt w g c L) {k : Nat} (hk : ¬ g = k) (o : Nat) (u : Value) : OwnAt (w.setCell ⟨k, o, none⟩ u) g c L := by
  obtain ⟨cur, hr, r⟩ := h
  exact ⟨cur, by rw [heap_setCell_far hk]; exact hr, r⟩
theorem OwnAt.far10 {w : World} {g c : Nat} {L : List MCh} (h : OwnAt w g c L) {k : Nat} (hk : ¬ g = k) (o : Nat) (x : MCh) : OwnAt (set10 w k o x) g c L := by
  obtain ⟨cur, hr, r⟩ := h
  exact ⟨cur, by rw [far_set10 hk]; exact hr, r⟩
theorem put10_high (cs : Array Value) (o : Nat) (c : MCh) (p : Nat) (h : o + 10 ≤ p) : (put10 cs o c)[p]? = cs[p]? := by
  unfold put10
  repeat rw [Array.getElem?_setIfInBounds_ne (by omega)]
theorem OwnAt.set {w : World} {g c : Nat} {L : List MCh} (h : OwnAt w g c L) (i : Nat) (hi : i < L.length) (x : MCh) : OwnAt (set10 w g (i * 10) x) g c (L.set i x) := by
  obtain ⟨cur, hr, hs, hn, ht⟩ := h
  refine ⟨_, row_set10 hr _ _, by rw [put10_size]; exact hs, by rw [List.length_set]; exact hn, fun k hk j hj => ?_⟩
  rw [List.length_set] at hk
  by_cases e : i = k
  · subst e
    rw [put10_at _ _ _ (by omega) j hj, getD_set_same _ _ _ hi]
  · rw [getD_set_ne _ _ _ _ e, ← ht k hk j hj]
    rcases Nat.lt_or_ge k i with h1 | h1
    · rw [put10_low _ _ _ _ (by omega)]
    · rw [put10_high _ _ _ _ (by omega)]
theorem OwnAt.room {w : World} {g c : Nat} {L : List MCh} (h : OwnAt w g c L) (o : Nat) : w.frozen? ⟨g, o, none⟩ = false := by
  obtain ⟨cur, hr, _⟩ := h
  simp [World.frozen?, hr]
/-- A slice of changes that is one's own. -/
def Own (w0 w : World) (v : Value) (L : List MCh) : Prop :=
  ∃ g c, v = .slice (some ⟨g, 0, none⟩) L.length c ∧ w0.heap.size ≤ g ∧ c ≤ maxLen ∧ OwnAt w g c L
theorem own_of {w0 w : World} {g c : Nat} {L : List MCh} (h : w.ownsRow w0.heap.size 42 10 (.slice (some ⟨g, 0, none⟩) L.length c) L.length (cellsOf L L.length)) : Own w0 w (.slice (some ⟨g, 0, none⟩) L.length c) L := by
  have hch := chAt_of_owns h
  obtain ⟨hl, h | ⟨g', cap', cur, e, hb, hr, hn, hc, hs, ht⟩⟩ := h
  · simp at h
  · obtain ⟨⟨rfl, _⟩, _, rfl⟩ : ((g = g' ∧ True) ∧ True ∧ c = cap') := by simpa using e
    refine ⟨g, c, rfl, hb, hc, cur, hr, by omega, hn, fun i hi j hj => ?_⟩
    have := hch i hi j hj
    rwa [cell_of_row w _ _ cur 42 (0, 0) hr] at this
theorem OwnAt.owns {w : World} {g c base : Nat} {L : List MCh} (h : OwnAt w g c L) (hb : base ≤ g) (hc : c ≤ maxLen) : w.ownsRow base 42 10 (.slice (some ⟨g, 0, none⟩) L.length c) L.length (cellsOf L L.length) := by
  obtain ⟨cur, hr, hs, hn, ht⟩ := h
  refine ⟨cellsOf_len _ _, .inr ⟨g, c, cur, rfl, hb, hr, hn, hc, by omega, ?_⟩⟩
  apply List.ext_getElem?
  intro j
  by_cases hj : j < L.length * 10
  · rw [List.getElem?_take, if_pos hj, cellsOf_get L L.length j hj, ← ht (j / 10) (by omega) (j % 10) (Nat.mod_lt _ (by decide)), show j / 10 * 10 + j % 10 = j by omega]
    simp
  · rw [List.getElem?_eq_none (by rw [List.length_take]; omega), List.getElem?_eq_none (by rw [cellsOf_len]; omega)]
theorem OwnAt.chs {w : World} {g c n : Nat} {L : List MCh} (h : OwnAt w g c L) (hc : c ≤ maxLen) (hn : n = L.length) : ChS w (.slice (some ⟨g, 0, none⟩) n c) L := by
  have hl := h.lt
  have ha := fun i hi => h.at i hi
  obtain ⟨cur, hr, hs, hn', ht⟩ := h
  subst hn
  exact ⟨_, L.length, c, rfl, rfl, hn', by unfold maxLen at hc; omega, fun _ => ⟨g, 0, rfl, hl, fun i hi => by rw [Nat.zero_add]; exact ha i hi⟩⟩
theorem OwnAt.chi {w : World} {g c n : Nat} {L : List MCh} (h : OwnAt w g c L) (hc : c ≤ maxLen) (hn : n = L.length) : ChI w (.slice (some ⟨g, 0, none⟩) n c) L := by
  have hl := h.lt
  have ha := fun i hi => h.at i hi
  obtain ⟨cur, hr, hs, hn', ht⟩ := h
  subst hn
  exact ⟨_, L.length, c, rfl, rfl, hn', hc, fun h => (by cases h), fun _ => ⟨g, 0, rfl, hl, fun i hi => by rw [Nat.zero_add]; exact ha i hi⟩⟩

theorem cutO_any (p : Int) (v : Value) (L : List MCh) (w : World) (hv : ChI w v L) : Calls Tryd.prog 22 #[.agg #[.int .i64 p, v]] w fun e w' => ∃ u, e = .returned (.agg #[.int .i64 p, u]) ∧ Own w w' u (L.take 10) ∧ Below w.heap.size w w' := by
  obtain ⟨a, n, cap, rfl, hn, hnc, hc, hnil, hcell⟩ := hv
  by_cases h0 : n = 0
  · subst h0
    have hL : L = [] := List.eq_nil_of_length_eq_zero hn.symm
    subst hL
    have fin : ∀ (e : Ending) (w' : World), (∃ g c, e = .returned (.agg #[.int .i64 p, .slice (some ⟨g, 0, none⟩) 0 c]) ∧ w.heap.size ≤ g ∧ g < w'.heap.size ∧ c ≤ maxLen ∧ Below w.heap.size w w' ∧ w'.ownsRow w.heap.size 42 10 (.slice (some ⟨g, 0, none⟩) 0 c) 0 (cellsOf [] 0)) → ∃ u, e = .returned (.agg #[.int .i64 p, u]) ∧ Own w w' u ([].take 10) ∧ Below w.heap.size w w' := by
      rintro e w' ⟨g, c, rfl, h1, h2, h3, h4, h5⟩
      exact ⟨_, rfl, own_of (L := []) h5, h4⟩
    cases a with
    | none =>
      obtain rfl : cap = 0 := hnil rfl
      exact (cutO_none p w).mono fin
    | some a => exact (cutO_some p a 0 0 cap w (Lib.hid rfl) (Lib.hid rfl) (by decide) (by omega)).mono fin
  · obtain ⟨b, o, rfl, hb, hcs⟩ := hcell (by omega)
    refine (cutO_pos p b o n cap (min n 10) L w hn hnc hc (by omega) (by omega) (by omega) (by omega) hb hcs).mono ?_
    rintro e w' ⟨g, c, rfl, h1, h2, h3, h4, h5, h6, h7⟩
    have hl : (L.take 10).length = min n 10 := by rw [List.length_take, ← hn]; omega
    have hcl : cellsOf L (min n 10) = cellsOf (L.take 10) (min n 10) := by
      unfold cellsOf
      refine List.map_congr_left fun j hj => ?_
      have hj' : j / 10 < 10 := by have := List.mem_range.1 hj; omega
      rw [List.getD_eq_getElem?_getD (l := List.take 10 L), List.getElem?_take, if_pos hj', ← List.getD_eq_getElem?_getD]
    rw [hcl, ← hl] at h7
    exact ⟨_, rfl, by rw [← hl]; exact own_of h7, h6⟩
end Go.Proofs.YtgkdliocfnoffaaDoor
