/- WALKS: cut of no changes; cut. -/
import Derived.Test.YtgkdliocfnoffaaDoorB4
import Derived.Laws.OwnMore
import Derived.Deep.RegionLaw
set_option linter.unusedVariables false
set_option linter.unusedSimpArgs false
namespace Go.Proofs.YtgkdliocfnoffaaDoor
open Go.RowKit Go.Sort

/-- append of nothing, as one step of a region that draws. -/
theorem step_append_zero {w : World} {ops : Array Oper} {o : Oper} {a : Act} {K : Act → World → Prop} {Q : Exit → Act → World → Prop} {E : Prop}
    (hg : o.guard = none) (s x : Operand) (t : TypeId) (hop : o.op = Op.call { callee := Callee.builtin Builtin.append, args := #[s, x], argTypes := #[t, t] })
    (base : Nat) (e : TypeId) (i : TypeInfo) (size : Nat) (h1 : Tryd.prog.underlying t = some (.slice e)) (h2 : Tryd.prog.info? e = some i) (h4 : i.size = size)
    (v : Value) (b : Nat) (hv : v = .slice (some ⟨b, 0, none⟩) 0 0) (hs : a.eval s = v) (hown : w.ownsRow base e size v 0 []) (ad : Option Addr) (m c : Nat) (hm : m = 0) (hx : a.eval x = .slice ad m c) (hc : ad = none → c = 0)
    (hK : ∀ w4, w4 = w → K (a.put o.dst v) w4) :
    if Region.wanted o (yielded ops a.tmps) = true then Oper.wp Tryd.prog o a w K Q else E := by
  subst hm
  have hw : Region.wanted o (yielded ops a.tmps) = true := by simp [Region.wanted, hg]
  rw [if_pos hw]
  have hrun : (Builtin.append_ #[t, t] o.type #[v, .slice ad 0 c]).run Tryd.prog w = .ok v w := by
    cases ad with
    | none =>
      obtain rfl := hc rfl
      exact run_append_owned_none (P := Tryd.prog) (w := w) base t o.type e i size h1 h2 v 0 [] hown
    | some ad =>
      subst hv
      subst h4
      have := run_append_room_cells (P := Tryd.prog) w t o.type e i h1 h2 b 0 0 0 ad 0 c [] (by simp) (by simp) (by simp) (by omega) (by simp) (by simp)
      simpa [World.setCells] using this
  unfold Oper.wp
  simp [execOp, hop, resolve, invoke, builtin, hs, hx, hrun, Result.andThen]
  exact hK w rfl

theorem cut_lets {W2 w4 : World} (h : w4 = (W2.alloc (.cells #[] 42)).drew) : Below W2.heap.size W2 w4 ∧ W2.heap.size < w4.heap.size ∧ w4.ownsRow W2.heap.size 42 10 (.slice (some ⟨W2.heap.size, 0, none⟩) (0 + 0) 0) (0 + 0) ([] ++ []) := by
  subst h
  exact ⟨(ba W2 (.cells #[] 42)).drew, by simp, World.ownsRow_made W2 #[] 0 (Nat.le_refl _) (by decide) rfl⟩
set_option maxRecDepth 100000 in
set_option maxHeartbeats 4000000 in
theorem cut_none (p : Int) (w : World) :
    Calls Tryd.prog 22 #[.agg #[.int .i64 p, .slice none 0 0]] w fun e w' => ∃ g c, e = .returned (.agg #[.int .i64 p, .slice (some ⟨g, 0, none⟩) 0 c]) ∧ w.heap.size ≤ g ∧ g < w'.heap.size ∧ c ≤ maxLen ∧ Below w.heap.size w w' := by
  have hmin : min (0 : Int) 10 = 0 := by decide
  go_enter Tryd.func22, Tryd.ntmps22
  obtain ⟨W2, HW2⟩ : ∃ W2, Hid ((w.alloc (.cells #[.int .i64 p, .slice none 0 0] 37)).alloc (.cells #[.int .i64 0, .slice none 0 0] 37) = W2) := ⟨_, Lib.hid rfl⟩
  have HB2 : Hid (Below w.heap.size w W2) := Lib.hid (by rw [← HW2.out]; exact bt (ba _ _) (ba _ _))
  have HZ2 : Hid (W2.heap.size = w.heap.size + 2) := Lib.hid (by rw [← HW2.out]; simp)
  obtain ⟨W1, HW1⟩ : ∃ W1, Hid (w.alloc (.cells #[.int .i64 p, .slice none 0 0] 37) = W1) := ⟨_, Lib.hid rfl⟩
  have HZ1 : Hid (W1.heap.size = w.heap.size + 1) := Lib.hid (by rw [← HW1.out]; simp)
  have HB1 : Hid (Below w.heap.size w W1) := Lib.hid (by rw [← HW1.out]; exact ba _ _)
  have HB12 : Hid (Below W1.heap.size W1 W2) := Lib.hid (by rw [← HW2.out, HW1.out]; exact ba _ _)
  have HC1 : Hid (W1.cell? ⟨w.heap.size, 0, none⟩ = some (.int .i64 p) ∧ W1.cell? ⟨w.heap.size, 1, none⟩ = some (.slice none 0 0)) := Lib.hid (by rw [← HW1.out]; exact ⟨by simp [go_sem], by simp [go_sem]⟩)
  have HE2 : Hid (W2.cell? ⟨w.heap.size + 1, 0, none⟩ = some (.int .i64 0) ∧ W2.cell? ⟨w.heap.size + 1, 1, none⟩ = some (.slice none 0 0) ∧ W2.frozen? ⟨w.heap.size + 1, 0, none⟩ = false ∧ W2.frozen? ⟨w.heap.size + 1, 1, none⟩ = false) := Lib.hid (by rw [← HW2.out]; exact ⟨by simp [go_sem], by simp [go_sem], by simp [go_sem], by simp [go_sem]⟩)
  have HK : Hid (∀ w', Below W1.heap.size W1 w' → (fun w' => (w'.cell? ⟨w.heap.size, 0, none⟩ = some (.int .i64 p) ∧ w'.cell? ⟨w.heap.size, 1, none⟩ = some (.slice none 0 0)) ∧ Below W1.heap.size W1 w') w') := Lib.hid (fun w' hw' => by
    obtain ⟨hc2, _⟩ := bcell hw'
    have hz1 := HZ1.out
    exact ⟨⟨by rw [hc2 _ _ (by omega)]; exact HC1.out.1, by rw [hc2 _ _ (by omega)]; exact HC1.out.2⟩, hw'⟩)
  have HO : Hid ((W2.alloc (.cells #[] 42)).drew.ownsRow W2.heap.size 42 10 (.slice (some ⟨W2.heap.size, 0, none⟩) 0 0) 0 []) := Lib.hid (World.ownsRow_made W2 #[] 0 (Nat.le_refl _) (by decide) rfl)
  have HGL : Hid (W2.heap.size < (W2.alloc (.cells #[] 42)).drew.heap.size) := Lib.hid (by simp)
  obtain ⟨i0, hi0, hz0, hz1, hz3⟩ := info_parts info42'
  go_wp2_with fail
  rw [HW2.out]
  go_region_held3 (fun w' => (w'.cell? ⟨w.heap.size, 0, none⟩ = some (.int .i64 p) ∧ w'.cell? ⟨w.heap.size, 1, none⟩ = some (.slice none 0 0)) ∧ Below W1.heap.size W1 w')
    (first | assumption | exact HK.out _ HB12.out.drew | exact HK.out _ (bt HB12.out (ba _ _)).drew | exact HK.out _ (bt HB12.out hb24) | exact HK.out _ (below_setCell (below_setCell (bt HB12.out hb24) (by simp [HZ1.out]) _) (by simp [HZ1.out]) _))
    ((refine step_append_zero (by rfl) _ _ _ (by rfl) W2.heap.size 42 i0 10 Tryd.underlying35 hi0 hz1 (.slice (some ⟨W2.heap.size, 0, none⟩) 0 0) W2.heap.size rfl (by rfl) HO.out none 0 0 rfl (by rfl) (fun _ => rfl) ?_; intro w4 hw4; obtain ⟨hb24, hgl, hown4⟩ := cut_lets hw4; clear hw4; obtain ⟨e0, e1, f0, f1⟩ := cut_cells HE2.out hb24 HZ2.out))
  all_goals
    go_wp2_with fail
    obtain ⟨WE, HWE⟩ : ∃ WE, (w4.setCell ⟨w.heap.size + 1, 0, none⟩ (.int .i64 p)).setCell ⟨w.heap.size + 1, 1, none⟩ (.slice (some ⟨W2.heap.size, 0, none⟩) 0 0) = WE := ⟨_, rfl⟩
    rw [HWE]
    obtain ⟨q0, q1, q2, q3, q4, q5, q6, q7⟩ := cut_fin (L := []) hown4 rfl hgl hb24 HB2.out HZ2.out e0 e1 HWE
    exact bodyPost_ret (v := .agg #[.int .i64 p, .slice (some ⟨W2.heap.size, 0, none⟩) 0 0]) (by simp [results, Tryd.results22, go_sem, q0, q1]) rfl ⟨_, _, rfl, q2, q3, q5, q7⟩
set_option maxRecDepth 100000 in
set_option maxHeartbeats 4000000 in
theorem cut_some (p : Int) (a : Addr) (n m cap : Nat) (w : World) (hn : Hid (n = 0)) (hm : Hid (m = 0)) (hmin : min (n : Int) 10 = (m : Int)) (hmc : (m : Int) ≤ (cap : Int)) :
    Calls Tryd.prog 22 #[.agg #[.int .i64 p, .slice (some a) n cap]] w fun e w' => ∃ g c, e = .returned (.agg #[.int .i64 p, .slice (some ⟨g, 0, none⟩) 0 c]) ∧ w.heap.size ≤ g ∧ g < w'.heap.size ∧ c ≤ maxLen ∧ Below w.heap.size w w' := by
  have hm0 : (0 : Int) ≤ (m : Int) := by omega
  have hnc : (m : Int) ≤ (n : Int) := by rw [hm.out, hn.out]; exact Int.le_refl _
  go_enter Tryd.func22, Tryd.ntmps22
  obtain ⟨W2, HW2⟩ : ∃ W2, Hid ((w.alloc (.cells #[.int .i64 p, .slice (some a) n cap] 37)).alloc (.cells #[.int .i64 0, .slice none 0 0] 37) = W2) := ⟨_, Lib.hid rfl⟩
  have HB2 : Hid (Below w.heap.size w W2) := Lib.hid (by rw [← HW2.out]; exact bt (ba _ _) (ba _ _))
  have HZ2 : Hid (W2.heap.size = w.heap.size + 2) := Lib.hid (by rw [← HW2.out]; simp)
  obtain ⟨W1, HW1⟩ : ∃ W1, Hid (w.alloc (.cells #[.int .i64 p, .slice (some a) n cap] 37) = W1) := ⟨_, Lib.hid rfl⟩
  have HZ1 : Hid (W1.heap.size = w.heap.size + 1) := Lib.hid (by rw [← HW1.out]; simp)
  have HB1 : Hid (Below w.heap.size w W1) := Lib.hid (by rw [← HW1.out]; exact ba _ _)
  have HB12 : Hid (Below W1.heap.size W1 W2) := Lib.hid (by rw [← HW2.out, HW1.out]; exact ba _ _)
  have HC1 : Hid (W1.cell? ⟨w.heap.size, 0, none⟩ = some (.int .i64 p) ∧ W1.cell? ⟨w.heap.size, 1, none⟩ = some (.slice (some a) n cap)) := Lib.hid (by rw [← HW1.out]; exact ⟨by simp [go_sem], by simp [go_sem]⟩)
  have HE2 : Hid (W2.cell? ⟨w.heap.size + 1, 0, none⟩ = some (.int .i64 0) ∧ W2.cell? ⟨w.heap.size + 1, 1, none⟩ = some (.slice none 0 0) ∧ W2.frozen? ⟨w.heap.size + 1, 0, none⟩ = false ∧ W2.frozen? ⟨w.heap.size + 1, 1, none⟩ = false) := Lib.hid (by rw [← HW2.out]; exact ⟨by simp [go_sem], by simp [go_sem], by simp [go_sem], by simp [go_sem]⟩)
  have HK : Hid (∀ w', Below W1.heap.size W1 w' → (fun w' => (w'.cell? ⟨w.heap.size, 0, none⟩ = some (.int .i64 p) ∧ w'.cell? ⟨w.heap.size, 1, none⟩ = some (.slice (some a) n cap)) ∧ Below W1.heap.size W1 w') w') := Lib.hid (fun w' hw' => by
    obtain ⟨hc2, _⟩ := bcell hw'
    have hz1 := HZ1.out
    exact ⟨⟨by rw [hc2 _ _ (by omega)]; exact HC1.out.1, by rw [hc2 _ _ (by omega)]; exact HC1.out.2⟩, hw'⟩)
  have HO : Hid ((W2.alloc (.cells #[] 42)).drew.ownsRow W2.heap.size 42 10 (.slice (some ⟨W2.heap.size, 0, none⟩) 0 0) 0 []) := Lib.hid (World.ownsRow_made W2 #[] 0 (Nat.le_refl _) (by decide) rfl)
  have HGL : Hid (W2.heap.size < (W2.alloc (.cells #[] 42)).drew.heap.size) := Lib.hid (by simp)
  obtain ⟨i0, hi0, hz0, hz1, hz3⟩ := info_parts info42'
  go_wp2_with fail
  rw [HW2.out]
  go_region_held3 (fun w' => (w'.cell? ⟨w.heap.size, 0, none⟩ = some (.int .i64 p) ∧ w'.cell? ⟨w.heap.size, 1, none⟩ = some (.slice (some a) n cap)) ∧ Below W1.heap.size W1 w')
    (first | assumption | exact HK.out _ HB12.out.drew | exact HK.out _ (bt HB12.out (ba _ _)).drew | exact HK.out _ (bt HB12.out hb24) | exact HK.out _ (below_setCell (below_setCell (bt HB12.out hb24) (by simp [HZ1.out]) _) (by simp [HZ1.out]) _))
    ((refine step_append_zero (by rfl) _ _ _ (by rfl) W2.heap.size 42 i0 10 Tryd.underlying35 hi0 hz1 (.slice (some ⟨W2.heap.size, 0, none⟩) 0 0) W2.heap.size rfl (by rfl) HO.out (some a) m cap hm.out (by rfl) (fun h => by cases h) ?_; intro w4 hw4; obtain ⟨hb24, hgl, hown4⟩ := cut_lets hw4; clear hw4; obtain ⟨e0, e1, f0, f1⟩ := cut_cells HE2.out hb24 HZ2.out))
  all_goals
    go_wp2_with fail
    obtain ⟨WE, HWE⟩ : ∃ WE, (w4.setCell ⟨w.heap.size + 1, 0, none⟩ (.int .i64 p)).setCell ⟨w.heap.size + 1, 1, none⟩ (.slice (some ⟨W2.heap.size, 0, none⟩) 0 0) = WE := ⟨_, rfl⟩
    rw [HWE]
    obtain ⟨q0, q1, q2, q3, q4, q5, q6, q7⟩ := cut_fin (L := []) hown4 rfl hgl hb24 HB2.out HZ2.out e0 e1 HWE
    exact bodyPost_ret (v := .agg #[.int .i64 p, .slice (some ⟨W2.heap.size, 0, none⟩) 0 0]) (by simp [results, Tryd.results22, go_sem, q0, q1]) rfl ⟨_, _, rfl, q2, q3, q5, q7⟩

/-- What cut hands back: a slice of its own. -/
def CutS (w0 w : World) (v : Value) (L : List MCh) : Prop :=
  ∃ g n c, v = .slice (some ⟨g, 0, none⟩) n c ∧ w0.heap.size ≤ g ∧ g < w.heap.size ∧ n = L.length ∧ n ≤ c ∧ c ≤ maxLen ∧ n ≤ 10 ∧ ∀ i, i < n → ChAt w g (i * 10) (L.getD i chZ)
theorem cut_any (p : Int) (v : Value) (L : List MCh) (w : World) (hv : ChI w v L) : Calls Tryd.prog 22 #[.agg #[.int .i64 p, v]] w fun e w' => ∃ u, e = .returned (.agg #[.int .i64 p, u]) ∧ CutS w w' u (L.take 10) ∧ Below w.heap.size w w' := by
  obtain ⟨a, n, cap, rfl, hn, hnc, hc, hnil, hcell⟩ := hv
  by_cases h0 : n = 0
  · subst h0
    have hL : L = [] := List.eq_nil_of_length_eq_zero hn.symm
    subst hL
    have fin : ∀ (e : Ending) (w' : World), (∃ g c, e = .returned (.agg #[.int .i64 p, .slice (some ⟨g, 0, none⟩) 0 c]) ∧ w.heap.size ≤ g ∧ g < w'.heap.size ∧ c ≤ maxLen ∧ Below w.heap.size w w') → ∃ u, e = .returned (.agg #[.int .i64 p, u]) ∧ CutS w w' u ([].take 10) ∧ Below w.heap.size w w' := by
      rintro e w' ⟨g, c, rfl, h1, h2, h3, h4⟩
      exact ⟨_, rfl, ⟨g, 0, c, rfl, h1, h2, rfl, Nat.zero_le _, h3, by omega, fun i hi => by omega⟩, h4⟩
    cases a with
    | none =>
      obtain rfl : cap = 0 := hnil rfl
      exact (cut_none p w).mono fin
    | some a => exact (cut_some p a 0 0 cap w (Lib.hid rfl) (Lib.hid rfl) (by decide) (by omega)).mono fin
  · obtain ⟨b, o, rfl, hb, hcs⟩ := hcell (by omega)
    refine (cut_pos p b o n cap (min n 10) L w hn hnc hc (by omega) (by omega) (by omega) (by omega) hb hcs).mono ?_
    rintro e w' ⟨g, c, rfl, h1, h2, h3, h4, h5, h6⟩
    refine ⟨_, rfl, ⟨g, min n 10, c, rfl, h1, h2, by rw [List.length_take, ← hn]; omega, h3, h4, by omega, fun i hi => ?_⟩, h6⟩
    have := h5 i hi
    rwa [List.getD_eq_getElem?_getD, List.getElem?_take, if_pos (by omega), ← List.getD_eq_getElem?_getD]
end Go.Proofs.YtgkdliocfnoffaaDoor
