/- WALKS: the reference: Same. -/
import Derived.Test.YtgkdliocfnoffaaDoorF1
import Derived.Test.YtgkdliocfnoffaaDoorS2
import Derived.BigQuiet
set_option linter.unusedVariables false
set_option linter.unusedSimpArgs false
namespace Go.Proofs.YtgkdliocfnoffaaDoor
open Go.RowKit Go.Sort

theorem chs_agg {w : World} {X : Nat} {p : Int} {u : Value} : (w.alloc (.cells #[.int .i64 p, u] 37)).cell? ⟨w.heap.size, 0, none⟩ = some (.int .i64 p) ∧ (w.alloc (.cells #[.int .i64 p, u] 37)).cell? ⟨w.heap.size, 1, none⟩ = some u := ⟨by simp [go_sem], by simp [go_sem]⟩
set_option maxRecDepth 100000 in
set_option maxHeartbeats 8000000 in
theorem refSame_in (p : Int) (n c1 c2 : Nat) (a1 a2 : Option Addr) (L M : List MCh) (w : World) (hn1 : n = L.length) (hn2 : n = M.length) (h11 : n ≤ c1) (h12 : c1 ≤ 9223372036854775807)
    (hc1 : 1 ≤ n → ∃ b o, a1 = some ⟨b, o, none⟩ ∧ b < w.heap.size ∧ ∀ i, i < n → ChAt w b (o + i * 10) (L.getD i chZ)) (hc2 : 1 ≤ n → ∃ b o, a2 = some ⟨b, o, none⟩ ∧ b < w.heap.size ∧ ∀ i, i < n → ChAt w b (o + i * 10) (M.getD i chZ)) :
    Calls Tryd.prog 35 #[.agg #[.int .i64 p, .slice a1 n c1], .agg #[.int .i64 p, .slice a2 n c2]] w fun e w' => e = .returned (.bool (lstE L M)) ∧ Below w.heap.size w w' := by
  have HN1 := Lib.hid hn1
  have HN2 := Lib.hid hn2
  have HC1 := Lib.hid hc1
  have HC2 := Lib.hid hc2
  clear hn1 hn2 hc1 hc2
  have e0 : ((n : Int) != (n : Int)) = false := by simp
  have e1 : (p != p) = false := by simp
  go_enter Tryd.func35, Tryd.ntmps35
  have HP : Hid (∀ wr, Below (w.heap.size + 2) ((w.alloc (.cells #[.int .i64 p, .slice a1 n c1] 37)).alloc (.cells #[.int .i64 p, .slice a2 n c2] 37)) wr → wr.cell? ⟨w.heap.size, 1, none⟩ = some (.slice a1 n c1) ∧ wr.cell? ⟨w.heap.size + 1, 1, none⟩ = some (.slice a2 n c2) ∧ Below w.heap.size w wr) := Lib.hid (fun wr hb => by
    have hb' : Below ((w.alloc (.cells #[.int .i64 p, .slice a1 n c1] 37)).alloc (.cells #[.int .i64 p, .slice a2 n c2] 37)).heap.size ((w.alloc (.cells #[.int .i64 p, .slice a1 n c1] 37)).alloc (.cells #[.int .i64 p, .slice a2 n c2] 37)) wr := by simpa using hb
    obtain ⟨h1, _⟩ := bcell hb'
    exact ⟨by rw [h1 _ _ (by simp only [World.size_alloc]; omega)]; simp [go_sem], by rw [h1 _ _ (by simp only [World.size_alloc]; omega)]; simp [go_sem], bt (bt (ba w _) (ba _ _)) hb'⟩)
  go_wp2_with fail
  go_loopw [5] (fun i wr => ∃ k : Nat, k ≤ n ∧ i = .int .i64 k ∧ Hid (Below (w.heap.size + 2) ((w.alloc (.cells #[.int .i64 p, .slice a1 n c1] 37)).alloc (.cells #[.int .i64 p, .slice a2 n c2] 37)) wr) ∧ Hid (∀ j, j < k → L.getD j chZ = M.getD j chZ)) (fun i _ => n - (intOf i).toNat)
  case atStart => exact ⟨0, by omega, rfl, Lib.hid (by simpa using Below.refl ((w.alloc (.cells #[.int .i64 p, .slice a1 n c1] 37)).alloc (.cells #[.int .i64 p, .slice a2 n c2] 37)).heap.size _), Lib.hid (fun j hj => by omega)⟩
  case round =>
    obtain ⟨k, hk, rfl, HB, HE⟩ := hrel
    obtain ⟨p1, p2, hw0⟩ := HP.out _ HB.out
    have Hw0 := Lib.hid hw0
    clear hw0
    by_cases hlt : k < n
    · obtain ⟨b1, o1, rfl, hb1, hx1⟩ := HC1.out (by omega)
      obtain ⟨b2, o2, rfl, hb2, hx2⟩ := HC2.out (by omega)
      have HA := (hx1 k hlt).below hb1 Hw0.out
      have HA2 := (hx2 k hlt).below hb2 Hw0.out
      have HNo : Hid (L.getD k chZ ≠ M.getD k chZ → L ≠ M) := Lib.hid (fun h e => h (by rw [e]))
      have HNx : Hid (L.getD k chZ = M.getD k chZ → ∀ j, j < k + 1 → L.getD j chZ = M.getD j chZ) := Lib.hid (fun h j hj => by
        rcases Nat.lt_or_eq_of_le (Nat.le_of_lt_succ hj) with h1 | rfl
        · exact HE.out j h1
        · exact h)
      clear hx1 hx2
      obtain ⟨x, HX⟩ : ∃ x, Hid (L.getD k chZ = x) := ⟨_, Lib.hid rfl⟩
      obtain ⟨y, HY⟩ : ∃ y, Hid (M.getD k chZ = y) := ⟨_, Lib.hid rfl⟩
      rw [HX.out] at HA HNo HNx
      rw [HY.out] at HA2 HNo HNx
      have hne := neqCh x y
      by_cases hxy : x = y
      · have HN := Lib.hid (HNx.out hxy)
        have hb2' : chE x y = true := by simp [chE, hxy]
        rw [hb2'] at hne
        simp only [Bool.not_true, Bool.not_false] at hne
        clear hxy hb2' HNx HNo HX HY
        obtain ⟨t, kk, had, ⟨oa, ob, oc⟩, has, ⟨na, nb, nc⟩⟩ := x
        obtain ⟨t', kk', had', ⟨oa', ob', oc'⟩, has', ⟨na', nb', nc'⟩⟩ := y
        obtain ⟨d0, d1, d2, d3, d4, d5, d6, d7, d8, d9⟩ := HA.cells
        obtain ⟨e0, e1, e2, e3, e4, e5, e6, e7, e8, e9⟩ := HA2.cells
        simp only at hne
        go_wp2_with fail
        go_quiet (fail)
        have HBn := Lib.hid (below_drewN HB.out nq)
        clear hne d0 d1 d2 d3 d4 d5 d6 d7 d8 d9 e0 e1 e2 e3 e4 e5 e6 e7 e8 e9
        go_wp2_with fail
        exact ⟨⟨k + 1, by omega, by go_num, HBn, HN⟩, by simp [intOf]; omega⟩
      · have HN := Lib.hid (HNo.out hxy)
        have hb2' : chE x y = false := by simp [chE, hxy]
        rw [hb2'] at hne
        simp only [Bool.not_true, Bool.not_false] at hne
        clear hxy hb2' HNx HNo HX HY
        obtain ⟨t, kk, had, ⟨oa, ob, oc⟩, has, ⟨na, nb, nc⟩⟩ := x
        obtain ⟨t', kk', had', ⟨oa', ob', oc'⟩, has', ⟨na', nb', nc'⟩⟩ := y
        obtain ⟨d0, d1, d2, d3, d4, d5, d6, d7, d8, d9⟩ := HA.cells
        obtain ⟨e0, e1, e2, e3, e4, e5, e6, e7, e8, e9⟩ := HA2.cells
        simp only at hne
        go_wp2_with fail
        go_quiet (fail)
        have HBn := Lib.hid (below_drewN Hw0.out nq)
        clear hne d0 d1 d2 d3 d4 d5 d6 d7 d8 d9 e0 e1 e2 e3 e4 e5 e6 e7 e8 e9
        go_wp2_with fail
        go_ret
        exact ⟨lstE_f HN.out, HBn.out⟩
    · obtain rfl : k = n := by omega
      have HEq : Hid (L = M) := Lib.hid (lst_eq (by rw [← HN1.out, ← HN2.out]) k (by rw [HN1.out]; exact Nat.le_refl _) HE.out)
      go_wp2_with fail
      go_ret
      exact ⟨lstE_t HEq.out, Hw0.out⟩
theorem refSame_any (p q : Int) (v u : Value) (L M : List MCh) (w : World) (hv : ChS w v L) (hu : ChS w u M) :
    Calls Tryd.prog 35 #[.agg #[.int .i64 p, v], .agg #[.int .i64 q, u]] w fun e w' => e = .returned (.bool (sameE p q L M)) ∧ Below w.heap.size w w' := by
  obtain ⟨a1, n1, c1, rfl, hn1, h11, h12, hc1⟩ := hv
  obtain ⟨a2, n2, c2, rfl, hn2, h21, h22, hc2⟩ := hu
  by_cases hp : p = q
  · subst hp
    by_cases hn : n1 = n2
    · subst hn
      refine (refSame_in p n1 c1 c2 a1 a2 L M w hn1 hn2 h11 h12 hc1 hc2).mono fun e w' hw => ?_
      rw [show sameE p p L M = lstE L M by simp [sameE, lstE]]
      exact hw
    · have HS : Hid (sameE p p L M = false) := Lib.hid (by simp only [sameE]; exact decide_eq_false (fun h => hn (by rw [hn1, hn2, h.2])))
      rw [HS.out]
      have e1 : (p != p) = false := by simp
      have e0 : ((n1 : Int) != (n2 : Int)) = true := by simp; omega
      clear hc1 hc2 hn1 hn2 hn h11 h12 h21 h22
      go_enter Tryd.func35, Tryd.ntmps35
      go_wp2_with fail
      go_ret
      exact ⟨rfl, bt (ba w _) (ba _ _)⟩
  · have HS : Hid (sameE p q L M = false) := Lib.hid (by simp only [sameE]; exact decide_eq_false (fun h => hp h.1))
    rw [HS.out]
    have e1 : (p != q) = true := by simp [hp]
    clear hc1 hc2 hn1 hn2 hp h11 h12 h21 h22
    go_enter Tryd.func35, Tryd.ntmps35
    go_wp2_with fail
    go_ret
    exact ⟨rfl, bt (ba w _) (ba _ _)⟩
end Go.Proofs.YtgkdliocfnoffaaDoor
