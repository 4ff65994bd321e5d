/- WALKS: slices.Equal at changes, Same. -/
import Derived.Test.YtgkdliocfnoffaaDoorN3
set_option linter.unusedVariables false set_option linter.unusedSimpArgs false
namespace Go.Proofs.YtgkdliocfnoffaaDoor
open Go.RowKit Go.Sort

theorem below_drewN {n : Nat} {a w : World} (h : Below n a w) (m : Nat) : Below n a (w.drewN m) := by
  induction m with
  | zero => exact h
  | succ m ih => exact ih.drew

def lstE (L M : List MCh) : Bool := decide (L = M)
theorem lstE_t {L M : List MCh} (h : L = M) : Ending.returned (.bool true) = .returned (.bool (lstE L M)) := by rw [lstE, decide_eq_true h]
theorem lstE_f {L M : List MCh} (h : ¬ L = M) : Ending.returned (.bool false) = .returned (.bool (lstE L M)) := by rw [lstE, decide_eq_false h]
theorem lst_eq {L M : List MCh} (h : L.length = M.length) (k : Nat) (hk : L.length ≤ k) (hall : ∀ j, j < k → L.getD j chZ = M.getD j chZ) : L = M := by
  apply List.ext_getElem h
  intro i h1 h2
  have := hall i (by omega)
  simpa [List.getD_eq_getElem?_getD, h1, h2] using this

set_option maxRecDepth 100000 in
set_option maxHeartbeats 4000000 in
theorem equal_any (v u : Value) (L M : List MCh) (w : World) (hv : ChS w v L) (hu : ChS w u M) :
    Calls Tryd.prog 55 #[v, u] w fun e w' => e = .returned (.bool (lstE L M)) ∧ Below w.heap.size w w' := by
  obtain ⟨a1, n1, c1, rfl, hn1, h11, h12, hc1⟩ := hv
  obtain ⟨a2, n2, c2, rfl, hn2, h21, h22, hc2⟩ := hu
  have HN1 := Lib.hid hn1
  have HN2 := Lib.hid hn2
  have HC1 := Lib.hid hc1
  have HC2 := Lib.hid hc2
  clear hn1 hn2 hc1 hc2
  by_cases hn : n1 = n2
  · subst hn
    have d0 : ((n1 : Int) != (n1 : Int)) = false := by simp
    go_enter Tryd.func55, Tryd.ntmps55
    go_wp2_with fail
    go_loopw [13, 5] (fun i _ wr => ∃ k : Nat, k ≤ n1 ∧ i = .int .i64 k ∧ Below w.heap.size w wr ∧ Hid (∀ j, j < k → L.getD j chZ = M.getD j chZ)) (fun i _ _ => n1 - (intOf i).toNat)
    case atStart => exact ⟨0, by omega, rfl, Below.refl _ _, Lib.hid (fun j hj => by omega)⟩
    case round =>
      obtain ⟨k, hk, rfl, HB, HE⟩ := hrel
      by_cases hlt : k < n1
      · obtain ⟨b1, o1, rfl, hb1, hx1⟩ := HC1.out (by omega)
        obtain ⟨b2, o2, rfl, hb2, hx2⟩ := HC2.out (by omega)
        have HA := (hx1 k hlt).below hb1 HB
        have HA2 := (hx2 k hlt).below hb2 HB
        have HNo : Hid (L.getD k chZ ≠ M.getD k chZ → L ≠ M) := Lib.hid (fun h e => h (by rw [e]))
        have HNx : Hid (L.getD k chZ = M.getD k chZ → ∀ j, j < k + 1 → L.getD j chZ = M.getD j chZ) := Lib.hid (fun h j hj => by
          rcases Nat.lt_or_eq_of_le (Nat.le_of_lt_succ hj) with h1 | rfl
          · exact HE.out j h1
          · exact h)
        clear hx1 hx2
        obtain ⟨x, HX⟩ : ∃ x, Hid (L.getD k chZ = x) := ⟨_, Lib.hid rfl⟩
        obtain ⟨y, HY⟩ : ∃ y, Hid (M.getD k chZ = y) := ⟨_, Lib.hid rfl⟩
        rw [HX.out] at HA HNo HNx
        rw [HY.out] at HA2 HNo HNx
        have hne := neqCh x y
        by_cases hxy : x = y
        · have HN := Lib.hid (HNx.out hxy)
          have hb : chE x y = false → False := fun h => by simp [chE, hxy] at h
          have hb2' : chE x y = true := by simp [chE, hxy]
          rw [hb2'] at hne
          simp only [Bool.not_true, Bool.not_false] at hne
          clear hxy hb hb2' HNx HNo
          obtain ⟨t, kk, had, ⟨oa, ob, oc⟩, has, ⟨na, nb, nc⟩⟩ := x
          obtain ⟨t', kk', had', ⟨oa', ob', oc'⟩, has', ⟨na', nb', nc'⟩⟩ := y
          obtain ⟨d0, d1, d2, d3, d4, d5, d6, d7, d8, d9⟩ := HA.cells
          obtain ⟨e0, e1, e2, e3, e4, e5, e6, e7, e8, e9⟩ := HA2.cells
          simp only at hne
          go_wp2_with fail
          go_quiet (fail)
          go_wp2_with fail
          exact ⟨⟨k + 1, by omega, by go_num, below_drewN HB _, HN⟩, by simp [intOf]; omega⟩
        · have HN : Hid (¬ L = M) := Lib.hid (HNo.out hxy)
          have hb2' : chE x y = false := by simp [chE, hxy]
          rw [hb2'] at hne
          simp only [Bool.not_true, Bool.not_false] at hne
          clear hxy hb2' HNx HNo
          obtain ⟨t, kk, had, ⟨oa, ob, oc⟩, has, ⟨na, nb, nc⟩⟩ := x
          obtain ⟨t', kk', had', ⟨oa', ob', oc'⟩, has', ⟨na', nb', nc'⟩⟩ := y
          obtain ⟨d0, d1, d2, d3, d4, d5, d6, d7, d8, d9⟩ := HA.cells
          obtain ⟨e0, e1, e2, e3, e4, e5, e6, e7, e8, e9⟩ := HA2.cells
          simp only at hne
          go_wp2_with fail
          go_quiet (fail)
          go_wp2_with fail
          go_ret
          exact ⟨lstE_f HN.out, below_drewN HB _⟩
      · have HT : Hid (L = M) := Lib.hid (lst_eq (by rw [← HN1.out, ← HN2.out]) k (by rw [← HN1.out]; omega) HE.out)
        go_wp2_with fail
        go_ret
        exact ⟨lstE_t HT.out, HB⟩
  · have HN : Hid (¬ L = M) := Lib.hid (fun e => hn (by rw [HN1.out, HN2.out, e]))
    have d0 : ((n1 : Int) != (n2 : Int)) = true := by simp; omega
    go_enter Tryd.func55, Tryd.ntmps55
    go_wp2_with fail
    go_ret
    exact ⟨lstE_f HN.out, Below.refl _ _⟩

def sameE (p q : Int) (L M : List MCh) : Bool := decide (p = q ∧ L = M)
set_option maxRecDepth 100000 in
set_option maxHeartbeats 1000000 in
theorem same_any (p q : Int) (v u : Value) (L M : List MCh) (w : World) (hv : ChS w v L) (hu : ChS w u M) :
    Calls Tryd.prog 36 #[.agg #[.int .i64 p, v], .agg #[.int .i64 q, u]] w fun e w' => e = .returned (.bool (sameE p q L M)) ∧ Below w.heap.size w w' := by
  by_cases h : p = q
  · have HS : Hid (sameE p q L M = lstE L M) := Lib.hid (by simp [sameE, lstE, h])
    have d0 : (p == q) = true := by simp [h]
    have HV := Lib.hid hv
    have HU := Lib.hid hu
    have hvs : ∃ a n c, v = .slice a n c := by obtain ⟨a, n, c, e, _⟩ := hv; exact ⟨a, n, c, e⟩
    have hus : ∃ a n c, u = .slice a n c := by obtain ⟨a, n, c, e, _⟩ := hu; exact ⟨a, n, c, e⟩
    obtain ⟨a1, n1, c1, rfl⟩ := hvs
    obtain ⟨a2, n2, c2, rfl⟩ := hus
    clear h hv hu
    rw [HS.out]
    go_enter Tryd.func36, Tryd.ntmps36
    have hb : Below w.heap.size w ((w.alloc (.cells #[.int .i64 p, .slice a1 n1 c1] 37)).alloc (.cells #[.int .i64 q, .slice a2 n2 c2] 37)) := (ba _ _).alloc (by simp) _
    have HL : Hid (∀ W, Below w.heap.size w W → Calls Tryd.prog 55 #[.slice a1 n1 c1, .slice a2 n2 c2] W fun e w' => e = .returned (.bool (lstE L M)) ∧ Below W.heap.size W w') := Lib.hid (fun W hW => equal_any _ _ L M W (HV.out.below hW) (HU.out.below hW))
    have HB := Lib.hid hb
    clear hb
    go_wp2_with fail
    (with_reducible refine (HL.out _ HB.out).mono ?_)
    rintro e w1 ⟨rfl, hb1⟩
    go_wp2_with fail
    go_ret
    exact ⟨rfl, bt HB.out hb1⟩
  · have HS : Hid (sameE p q L M = false) := Lib.hid (by simp [sameE, h])
    have d0 : (p == q) = false := by simp [h]
    clear h hv hu
    rw [HS.out]
    go_enter Tryd.func36, Tryd.ntmps36
    go_wp2_with fail
    go_ret
    exact ⟨rfl, (ba _ _).alloc (by simp) _⟩
end Go.Proofs.YtgkdliocfnoffaaDoor
