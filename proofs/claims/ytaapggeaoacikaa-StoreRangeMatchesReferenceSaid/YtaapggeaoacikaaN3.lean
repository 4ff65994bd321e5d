/- WALKS: records in memory; ValidRecord. -/
import Derived.Test.YtaapggeaoacikaaN2
import Derived.Deep.RegionHeld3
import Derived.Deep.RegionWith
import Derived.IntWalk
import Derived.Lib.QuietBelow
import Derived.BigQuiet
set_option linter.unusedVariables false
set_option linter.unusedSimpArgs false
namespace Go.Proofs.Ytaapggeaoacikaa
open Go.RowKit Go.Sort
theorem ChAt_regrown {w : World} {b o : Nat} {c : MCh} (h : ∀ j : Nat, j < 10 → w.cell? ⟨b, o + j, none⟩ = (chCells c)[j]?) (d : Nat) (os : Array Obj) : ∀ j : Nat, j < 10 → (grow (redrawn w d) os).cell? ⟨b, o + j, none⟩ = (chCells c)[j]? := fun j hj => by
  have h1 := h j hj
  have hs : (chCells c)[j]? = some ((chCells c)[j]'(by simp [chCells]; omega)) := Array.getElem?_eq_getElem _
  rw [hs] at h1 ⊢
  exact cell_regrown h1 d os
def chZ : MCh := ⟨0, 0, false, V3.zero, false, V3.zero⟩
/-- The ten cells of a change, from an offset on. -/
def ChAt (w : World) (b o : Nat) (c : MCh) : Prop := ∀ j : Nat, j < 10 → w.cell? ⟨b, o + j, none⟩ = (chCells c)[j]?
/-- A slice that reads as a list of changes. -/
def ChS (w : World) (v : Value) (L : List MCh) : Prop :=
  ∃ a n cap, v = .slice a n cap ∧ n = L.length ∧ n ≤ cap ∧ cap ≤ 9223372036854775807 ∧ (1 ≤ n → ∃ b o, a = some ⟨b, o, none⟩ ∧ b < w.heap.size ∧ ∀ i, i < n → ChAt w b (o + i * 10) (L.getD i chZ))
theorem ChAt_new (w : World) (c : MCh) : ∀ j : Nat, j < 10 → (w.alloc (.cells (chCells c) 57)).cell? ⟨w.heap.size, 0 + j, none⟩ = (chCells c)[j]? := fun j hj => by
  match j, hj with
  | 0, _ => simp [go_sem, chCells]
  | 1, _ => simp [go_sem, chCells]
  | 2, _ => simp [go_sem, chCells]
  | 3, _ => simp [go_sem, chCells]
  | 4, _ => simp [go_sem, chCells]
  | 5, _ => simp [go_sem, chCells]
  | 6, _ => simp [go_sem, chCells]
  | 7, _ => simp [go_sem, chCells]
  | 8, _ => simp [go_sem, chCells]
  | 9, _ => simp [go_sem, chCells]
theorem ChAt.below {w w1 : World} {b o : Nat} {c : MCh} (h : ChAt w b o c) (hb : b < w.heap.size) (k : Below w.heap.size w w1) : ChAt w1 b o c := fun j hj => by rw [(bcell k).1 b _ hb]; exact h j hj
theorem ChAt.cells {w : World} {b o : Nat} {t k : Int} {had has : Bool} {oa ob oc na nb nc : Int} (h : ChAt w b o ⟨t, k, had, ⟨oa, ob, oc⟩, has, ⟨na, nb, nc⟩⟩) :
    w.cell? ⟨b, o, none⟩ = some (.int .i64 t) ∧ w.cell? ⟨b, o + 1, none⟩ = some (.int .i64 k) ∧ w.cell? ⟨b, o + 2, none⟩ = some (.bool had) ∧ w.cell? ⟨b, o + 3, none⟩ = some (.int .i64 oa) ∧ w.cell? ⟨b, o + 4, none⟩ = some (.int .i64 ob) ∧ w.cell? ⟨b, o + 5, none⟩ = some (.int .i64 oc) ∧ w.cell? ⟨b, o + 6, none⟩ = some (.bool has) ∧ w.cell? ⟨b, o + 7, none⟩ = some (.int .i64 na) ∧ w.cell? ⟨b, o + 8, none⟩ = some (.int .i64 nb) ∧ w.cell? ⟨b, o + 9, none⟩ = some (.int .i64 nc) :=
  ⟨h 0 (by omega), h 1 (by omega), h 2 (by omega), h 3 (by omega), h 4 (by omega), h 5 (by omega), h 6 (by omega), h 7 (by omega), h 8 (by omega), h 9 (by omega)⟩
theorem ChS.below {w w1 : World} {v : Value} {L : List MCh} (h : ChS w v L) (k : Below w.heap.size w w1) : ChS w1 v L := by
  obtain ⟨a, n, cap, e, hn, h1, h2, h3⟩ := h
  refine ⟨a, n, cap, e, hn, h1, h2, fun h => ?_⟩
  obtain ⟨b, o, e, hb, hc⟩ := h3 h
  exact ⟨b, o, e, Nat.lt_of_lt_of_le hb k.size, fun i hi => (hc i hi).below hb k⟩

/-- The changes are valid and ascend. -/
def Prec (c d : MCh) : Prop := c.t < d.t ∨ c.t = d.t ∧ c.k < d.k
instance (c d : MCh) : Decidable (Prec c d) := by unfold Prec; infer_instance
def VGo (L : List MCh) (k : Nat) : Prop := VCh (L.getD k chZ) ∧ (0 < k → Prec (L.getD (k - 1) chZ) (L.getD k chZ))
def VRec (p : Int) (L : List MCh) : Prop := (1 ≤ p ∧ p ≤ 10000) ∧ (1 ≤ L.length ∧ L.length ≤ 8) ∧ ∀ k, k < L.length → VGo L k
instance (L : List MCh) (k : Nat) : Decidable (VGo L k) := by unfold VGo; infer_instance
instance (p : Int) (L : List MCh) : Decidable (VRec p L) := by unfold VRec; infer_instance
def vrec (p : Int) (L : List MCh) : Bool := decide (VRec p L)
theorem vrec_t {p : Int} {L : List MCh} (h : VRec p L) : Ending.returned (.bool true) = .returned (.bool (vrec p L)) := by rw [vrec, decide_eq_true h]
theorem vrec_f {p : Int} {L : List MCh} (h : ¬ VRec p L) : Ending.returned (.bool false) = .returned (.bool (vrec p L)) := by rw [vrec, decide_eq_false h]

theorem vc_t (c : MCh) (w : World) (h : VCh c) : Calls Try.prog 47 #[chV c] w fun e w' => e = .returned (.bool true) ∧ Below w.heap.size w w' :=
  (validChange_any c w).mono fun e w' hw => by rw [vc, decide_eq_true h] at hw; exact hw
theorem vc_f (c : MCh) (w : World) (h : ¬ VCh c) : Calls Try.prog 47 #[chV c] w fun e w' => e = .returned (.bool false) ∧ Below w.heap.size w w' :=
  (validChange_any c w).mono fun e w' hw => by rw [vc, decide_eq_false h] at hw; exact hw
theorem prec_t (c d : MCh) (w : World) (h : Prec c d) : Calls Try.prog 48 #[chV c, chV d] w fun e w' => e = .returned (.bool true) ∧ Below w.heap.size w w' :=
  (precedes_any c d w).mono fun e w' hw => by rw [show decide (c.t < d.t ∨ c.t = d.t ∧ c.k < d.k) = true from decide_eq_true h] at hw; exact hw
theorem prec_f (c d : MCh) (w : World) (h : ¬ Prec c d) : Calls Try.prog 48 #[chV c, chV d] w fun e w' => e = .returned (.bool false) ∧ Below w.heap.size w w' :=
  (precedes_any c d w).mono fun e w' hw => by rw [show decide (c.t < d.t ∨ c.t = d.t ∧ c.k < d.k) = false from decide_eq_false h] at hw; exact hw

set_option maxRecDepth 100000 in
set_option maxHeartbeats 8000000 in
theorem validRecord_in (p : Int) (n cap : Nat) (L : List MCh) (w : World) (hn : n = L.length) (h1 : 1 ≤ p ∧ p ≤ 10000) (h2 : 1 ≤ n ∧ n ≤ 8) (b o : Nat) (hb : b < w.heap.size) (hc : ∀ i, i < n → ChAt w b (o + i * 10) (L.getD i chZ)) :
    Calls Try.prog 34 #[.agg #[.int .i64 p, .slice (some ⟨b, o, none⟩) n cap]] w fun e w' => e = .returned (.bool (vrec p L)) ∧ Below w.heap.size w w' := by
  have HN := Lib.hid hn
  have HC := Lib.hid hc
  have H1 := Lib.hid h1
  have H2 := Lib.hid h2
  clear hn hc
  go_enter Try.func34, Try.ntmps34
  go_wp2
  go_loopw [26, 28, 3, 4] (fun i _ _ _ wr => ∃ k : Nat, k ≤ n ∧ i = .int .i64 k ∧ Below (w.heap.size + 1) (w.alloc (.cells #[.int .i64 p, .slice (some ⟨b, o, none⟩) n cap] 32)) wr ∧ Hid (∀ j, j < k → VGo L j)) (fun i _ _ _ _ => n - (intOf i).toNat)
  case atStart => exact ⟨0, by omega, rfl, by simpa using Below.refl (w.alloc (.cells #[.int .i64 p, .slice (some ⟨b, o, none⟩) n cap] 32)).heap.size _, Lib.hid (fun j hj => by omega)⟩
  case round =>
    obtain ⟨k, hk, rfl, HB, HV⟩ := hrel
    have hsz := HB.size
    simp only [World.size_alloc] at hsz
    have hw0 : Below w.heap.size w wr := bt (ba w _) (by simpa using HB)
    have hr1 : wr.cell? ⟨w.heap.size, 1, none⟩ = some (.slice (some ⟨b, o, none⟩) n cap) := by
      rw [(bcell (W := w.alloc (.cells #[.int .i64 p, .slice (some ⟨b, o, none⟩) n cap] 32)) (w1 := wr) (by simpa using HB)).1 _ _ (by simp)]
      simp [go_sem]
    by_cases hlt : k < n
    · have HCk := (HC.out k hlt).below hb hw0
      have HVk : Hid (VGo L k ↔ VCh (L.getD k chZ) ∧ (0 < k → Prec (L.getD (k - 1) chZ) (L.getD k chZ))) := Lib.hid Iff.rfl
      have HF : Hid (¬ VGo L k → ¬ VRec p L) := Lib.hid (fun h hh => h (hh.2.2 k (by rw [← HN.out]; exact hlt)))
      obtain ⟨c, HcE⟩ : ∃ c, Hid (L.getD k chZ = c) := ⟨_, Lib.hid rfl⟩
      rw [HcE.out] at HCk HVk
      obtain ⟨t, kk, had, ⟨oa, ob, oc⟩, has, ⟨na, nb, nc⟩⟩ := c
      obtain ⟨d0, d1, d2, d3, d4, d5, d6, d7, d8, d9⟩ := HCk.cells
      by_cases hv : VCh ⟨t, kk, had, ⟨oa, ob, oc⟩, has, ⟨na, nb, nc⟩⟩
      · have HVc := Lib.hid hv
        clear hv
        by_cases hk0 : 0 < k
        · obtain ⟨q, rfl⟩ : ∃ q, k = q + 1 := ⟨k - 1, by omega⟩
          have HCq := (HC.out q (by omega)).below hb hw0
          obtain ⟨c', HcE'⟩ : ∃ c', Hid (L.getD q chZ = c') := ⟨_, Lib.hid rfl⟩
          rw [HcE'.out] at HCq
          rw [Nat.add_sub_cancel, HcE'.out] at HVk
          obtain ⟨t', kk', had', ⟨oa', ob', oc'⟩, has', ⟨na', nb', nc'⟩⟩ := c'
          have hw1 : IntKind.i64.wrap ((q : Int) + 1 - 1) = (q : Int) := by rw [IntKind.wrap_i64]; omega
          by_cases hp : Prec ⟨t', kk', had', ⟨oa', ob', oc'⟩, has', ⟨na', nb', nc'⟩⟩ ⟨t, kk, had, ⟨oa, ob, oc⟩, has, ⟨na, nb, nc⟩⟩
          · have HPc := Lib.hid hp
            have HNV : Hid (VGo L (q + 1)) := Lib.hid (HVk.out.2 ⟨HVc.out, fun _ => HPc.out⟩)
            clear hp hk0
            go_wp2_with fail
            obtain ⟨wb, Hwb⟩ : ∃ wb, Hid (wr.alloc (.cells #[.int .i64 t, .int .i64 kk, .bool had, .int .i64 oa, .int .i64 ob, .int .i64 oc, .bool has, .int .i64 na, .int .i64 nb, .int .i64 nc] 57) = wb) := ⟨_, Lib.hid rfl⟩
            rw [Hwb.out]
            have HBb : Hid (Below (w.heap.size + 1) (w.alloc (.cells #[.int .i64 p, .slice (some ⟨b, o, none⟩) n cap] 32)) wb) := Lib.hid (by rw [← Hwb.out]; exact HB.alloc hsz _)
            have Hwrb : Hid (Below wr.heap.size wr wb) := Lib.hid (by rw [← Hwb.out]; exact ba _ _)
            have hg : ∀ d os, ChAt (grow (redrawn wb d) os) wr.heap.size 0 ⟨t, kk, had, ⟨oa, ob, oc⟩, has, ⟨na, nb, nc⟩⟩ := fun d os => ChAt_regrown (by rw [← Hwb.out]; exact ChAt_new wr ⟨t, kk, had, ⟨oa, ob, oc⟩, has, ⟨na, nb, nc⟩⟩) d os
            have g0 := fun d os => (hg d os).cells.1
            have g1 := fun d os => (hg d os).cells.2.1
            have g2 := fun d os => (hg d os).cells.2.2.1
            have g3 := fun d os => (hg d os).cells.2.2.2.1
            have g4 := fun d os => (hg d os).cells.2.2.2.2.1
            have g5 := fun d os => (hg d os).cells.2.2.2.2.2.1
            have g6 := fun d os => (hg d os).cells.2.2.2.2.2.2.1
            have g7 := fun d os => (hg d os).cells.2.2.2.2.2.2.2.1
            have g8 := fun d os => (hg d os).cells.2.2.2.2.2.2.2.2.1
            have g9 := fun d os => (hg d os).cells.2.2.2.2.2.2.2.2.2
            simp only [Nat.zero_add] at g0 g1 g2 g3 g4 g5 g6 g7 g8 g9
            have hv : ∀ d os, Calls Try.prog 47 #[chV ⟨t, kk, had, ⟨oa, ob, oc⟩, has, ⟨na, nb, nc⟩⟩] (grow (redrawn wb d) os) fun e w'' => e = .returned (.bool true) ∧ ∃ p : Regrown, w'' = grow (redrawn wb p.d) p.os := fun d os => Calls.regrown_of (vc_t _ _ HVc.out)
            have he : ∀ d os, ChAt (grow (redrawn wb d) os) b (o + q * 10) ⟨t', kk', had', ⟨oa', ob', oc'⟩, has', ⟨na', nb', nc'⟩⟩ := fun d os => ChAt_regrown (HCq.below (Nat.lt_of_lt_of_le hb hw0.size) Hwrb.out) d os
            have e0 := fun d os => (he d os).cells.1
            have e1 := fun d os => (he d os).cells.2.1
            have e2 := fun d os => (he d os).cells.2.2.1
            have e3 := fun d os => (he d os).cells.2.2.2.1
            have e4 := fun d os => (he d os).cells.2.2.2.2.1
            have e5 := fun d os => (he d os).cells.2.2.2.2.2.1
            have e6 := fun d os => (he d os).cells.2.2.2.2.2.2.1
            have e7 := fun d os => (he d os).cells.2.2.2.2.2.2.2.1
            have e8 := fun d os => (he d os).cells.2.2.2.2.2.2.2.2.1
            have e9 := fun d os => (he d os).cells.2.2.2.2.2.2.2.2.2
            have hr2 : ∀ d os, (grow (redrawn wb d) os).cell? ⟨w.heap.size, 1, none⟩ = some (.slice (some ⟨b, o, none⟩) n cap) := fun d os => cell_regrown (by rw [(bcell Hwrb.out).1 _ _ (by omega)]; exact hr1) d os
            clear he
            have hp : ∀ d os, Calls Try.prog 48 #[chV ⟨t', kk', had', ⟨oa', ob', oc'⟩, has', ⟨na', nb', nc'⟩⟩, chV ⟨t, kk, had, ⟨oa, ob, oc⟩, has, ⟨na, nb, nc⟩⟩] (grow (redrawn wb d) os) fun e w'' => e = .returned (.bool true) ∧ ∃ p : Regrown, w'' = grow (redrawn wb p.d) p.os := fun d os => Calls.regrown_of (prec_t _ _ _ HPc.out)
            clear hg
            refine wp_region_quiet_below (by kernel_rfl) (by kernel_rfl) ?_
            repeat (first | go_big_quiet_step (first | exact hv _ _ | exact hp _ _) | quiet_step (first | exact hv _ _ | exact hp _ _))
            refine wpQuiet_nil ?_
            intro _ hw'
            obtain ⟨⟨dq, osq⟩, hw''⟩ := hw'
            subst hw''
            have HBq := Lib.hid (HBb.out.trans ((below_regrown wb dq osq).mono (by simpa using HBb.out.size)))
            clear g0 g1 g2 g3 g4 g5 g6 g7 g8 g9
            go_wp2_with fail
            exact ⟨⟨q + 1 + 1, by omega, by go_num, HBq.out, Lib.hid (fun j hj => by
              rcases Nat.lt_or_eq_of_le (Nat.le_of_lt_succ hj) with h | rfl
              · exact HV.out j h
              · exact HNV.out)⟩, by simp [intOf]; omega⟩
          · have HPc := Lib.hid hp
            have HNV : Hid (¬ VGo L (q + 1)) := Lib.hid (fun h => HPc.out ((HVk.out.1 h).2 (by omega)))
            clear hp hk0
            go_wp2_with fail
            obtain ⟨wb, Hwb⟩ : ∃ wb, Hid (wr.alloc (.cells #[.int .i64 t, .int .i64 kk, .bool had, .int .i64 oa, .int .i64 ob, .int .i64 oc, .bool has, .int .i64 na, .int .i64 nb, .int .i64 nc] 57) = wb) := ⟨_, Lib.hid rfl⟩
            rw [Hwb.out]
            have HBb : Hid (Below (w.heap.size + 1) (w.alloc (.cells #[.int .i64 p, .slice (some ⟨b, o, none⟩) n cap] 32)) wb) := Lib.hid (by rw [← Hwb.out]; exact HB.alloc hsz _)
            have Hwrb : Hid (Below wr.heap.size wr wb) := Lib.hid (by rw [← Hwb.out]; exact ba _ _)
            have hg : ∀ d os, ChAt (grow (redrawn wb d) os) wr.heap.size 0 ⟨t, kk, had, ⟨oa, ob, oc⟩, has, ⟨na, nb, nc⟩⟩ := fun d os => ChAt_regrown (by rw [← Hwb.out]; exact ChAt_new wr ⟨t, kk, had, ⟨oa, ob, oc⟩, has, ⟨na, nb, nc⟩⟩) d os
            have g0 := fun d os => (hg d os).cells.1
            have g1 := fun d os => (hg d os).cells.2.1
            have g2 := fun d os => (hg d os).cells.2.2.1
            have g3 := fun d os => (hg d os).cells.2.2.2.1
            have g4 := fun d os => (hg d os).cells.2.2.2.2.1
            have g5 := fun d os => (hg d os).cells.2.2.2.2.2.1
            have g6 := fun d os => (hg d os).cells.2.2.2.2.2.2.1
            have g7 := fun d os => (hg d os).cells.2.2.2.2.2.2.2.1
            have g8 := fun d os => (hg d os).cells.2.2.2.2.2.2.2.2.1
            have g9 := fun d os => (hg d os).cells.2.2.2.2.2.2.2.2.2
            simp only [Nat.zero_add] at g0 g1 g2 g3 g4 g5 g6 g7 g8 g9
            have hv : ∀ d os, Calls Try.prog 47 #[chV ⟨t, kk, had, ⟨oa, ob, oc⟩, has, ⟨na, nb, nc⟩⟩] (grow (redrawn wb d) os) fun e w'' => e = .returned (.bool true) ∧ ∃ p : Regrown, w'' = grow (redrawn wb p.d) p.os := fun d os => Calls.regrown_of (vc_t _ _ HVc.out)
            have he : ∀ d os, ChAt (grow (redrawn wb d) os) b (o + q * 10) ⟨t', kk', had', ⟨oa', ob', oc'⟩, has', ⟨na', nb', nc'⟩⟩ := fun d os => ChAt_regrown (HCq.below (Nat.lt_of_lt_of_le hb hw0.size) Hwrb.out) d os
            have e0 := fun d os => (he d os).cells.1
            have e1 := fun d os => (he d os).cells.2.1
            have e2 := fun d os => (he d os).cells.2.2.1
            have e3 := fun d os => (he d os).cells.2.2.2.1
            have e4 := fun d os => (he d os).cells.2.2.2.2.1
            have e5 := fun d os => (he d os).cells.2.2.2.2.2.1
            have e6 := fun d os => (he d os).cells.2.2.2.2.2.2.1
            have e7 := fun d os => (he d os).cells.2.2.2.2.2.2.2.1
            have e8 := fun d os => (he d os).cells.2.2.2.2.2.2.2.2.1
            have e9 := fun d os => (he d os).cells.2.2.2.2.2.2.2.2.2
            have hr2 : ∀ d os, (grow (redrawn wb d) os).cell? ⟨w.heap.size, 1, none⟩ = some (.slice (some ⟨b, o, none⟩) n cap) := fun d os => cell_regrown (by rw [(bcell Hwrb.out).1 _ _ (by omega)]; exact hr1) d os
            clear he
            have hp : ∀ d os, Calls Try.prog 48 #[chV ⟨t', kk', had', ⟨oa', ob', oc'⟩, has', ⟨na', nb', nc'⟩⟩, chV ⟨t, kk, had, ⟨oa, ob, oc⟩, has, ⟨na, nb, nc⟩⟩] (grow (redrawn wb d) os) fun e w'' => e = .returned (.bool false) ∧ ∃ p : Regrown, w'' = grow (redrawn wb p.d) p.os := fun d os => Calls.regrown_of (prec_f _ _ _ HPc.out)
            clear hg
            refine wp_region_quiet_below (by kernel_rfl) (by kernel_rfl) ?_
            repeat (first | go_big_quiet_step (first | exact hv _ _ | exact hp _ _) | quiet_step (first | exact hv _ _ | exact hp _ _))
            refine wpQuiet_nil ?_
            intro _ hw'
            obtain ⟨⟨dq, osq⟩, hw''⟩ := hw'
            subst hw''
            have HBq := Lib.hid (HBb.out.trans ((below_regrown wb dq osq).mono (by simpa using HBb.out.size)))
            clear g0 g1 g2 g3 g4 g5 g6 g7 g8 g9
            go_wp2_with fail
            go_ret
            exact ⟨vrec_f (HF.out HNV.out), bt (ba w _) (by simpa using HBq.out)⟩
        · have hd0 : decide (0 < (k : Int)) = false := by simp; omega
          have hd1 : decide (0 < k) = false := by simp; omega
          have HNV : Hid (VGo L k) := Lib.hid (HVk.out.2 ⟨HVc.out, fun h => absurd h hk0⟩)
          clear hk0
          go_wp2_with fail
          obtain ⟨wb, Hwb⟩ : ∃ wb, Hid (wr.alloc (.cells #[.int .i64 t, .int .i64 kk, .bool had, .int .i64 oa, .int .i64 ob, .int .i64 oc, .bool has, .int .i64 na, .int .i64 nb, .int .i64 nc] 57) = wb) := ⟨_, Lib.hid rfl⟩
          rw [Hwb.out]
          have HBb : Hid (Below (w.heap.size + 1) (w.alloc (.cells #[.int .i64 p, .slice (some ⟨b, o, none⟩) n cap] 32)) wb) := Lib.hid (by rw [← Hwb.out]; exact HB.alloc hsz _)
          have Hwrb : Hid (Below wr.heap.size wr wb) := Lib.hid (by rw [← Hwb.out]; exact ba _ _)
          have hg : ∀ d os, ChAt (grow (redrawn wb d) os) wr.heap.size 0 ⟨t, kk, had, ⟨oa, ob, oc⟩, has, ⟨na, nb, nc⟩⟩ := fun d os => ChAt_regrown (by rw [← Hwb.out]; exact ChAt_new wr ⟨t, kk, had, ⟨oa, ob, oc⟩, has, ⟨na, nb, nc⟩⟩) d os
          have g0 := fun d os => (hg d os).cells.1
          have g1 := fun d os => (hg d os).cells.2.1
          have g2 := fun d os => (hg d os).cells.2.2.1
          have g3 := fun d os => (hg d os).cells.2.2.2.1
          have g4 := fun d os => (hg d os).cells.2.2.2.2.1
          have g5 := fun d os => (hg d os).cells.2.2.2.2.2.1
          have g6 := fun d os => (hg d os).cells.2.2.2.2.2.2.1
          have g7 := fun d os => (hg d os).cells.2.2.2.2.2.2.2.1
          have g8 := fun d os => (hg d os).cells.2.2.2.2.2.2.2.2.1
          have g9 := fun d os => (hg d os).cells.2.2.2.2.2.2.2.2.2
          simp only [Nat.zero_add] at g0 g1 g2 g3 g4 g5 g6 g7 g8 g9
          have hv : ∀ d os, Calls Try.prog 47 #[chV ⟨t, kk, had, ⟨oa, ob, oc⟩, has, ⟨na, nb, nc⟩⟩] (grow (redrawn wb d) os) fun e w'' => e = .returned (.bool true) ∧ ∃ p : Regrown, w'' = grow (redrawn wb p.d) p.os := fun d os => Calls.regrown_of (vc_t _ _ HVc.out)
          clear hg
          refine wp_region_quiet_below (by kernel_rfl) (by kernel_rfl) ?_
          repeat (first | go_big_quiet_step (exact hv _ _) | quiet_step (exact hv _ _))
          refine wpQuiet_nil ?_
          intro _ hw'
          obtain ⟨⟨dq, osq⟩, hw''⟩ := hw'
          subst hw''
          have HBq := Lib.hid (HBb.out.trans ((below_regrown wb dq osq).mono (by simpa using HBb.out.size)))
          clear g0 g1 g2 g3 g4 g5 g6 g7 g8 g9
          go_wp2_with fail
          exact ⟨⟨k + 1, by omega, by go_num, HBq.out, Lib.hid (fun j hj => by
            rcases Nat.lt_or_eq_of_le (Nat.le_of_lt_succ hj) with h | rfl
            · exact HV.out j h
            · exact HNV.out)⟩, by simp [intOf]; omega⟩
      · have HVc := Lib.hid hv
        have HNV : Hid (¬ VGo L k) := Lib.hid (fun h => HVc.out (HVk.out.1 h).1)
        clear hv
        go_wp2_with fail
        obtain ⟨wb, Hwb⟩ : ∃ wb, Hid (wr.alloc (.cells #[.int .i64 t, .int .i64 kk, .bool had, .int .i64 oa, .int .i64 ob, .int .i64 oc, .bool has, .int .i64 na, .int .i64 nb, .int .i64 nc] 57) = wb) := ⟨_, Lib.hid rfl⟩
        rw [Hwb.out]
        have HBb : Hid (Below (w.heap.size + 1) (w.alloc (.cells #[.int .i64 p, .slice (some ⟨b, o, none⟩) n cap] 32)) wb) := Lib.hid (by rw [← Hwb.out]; exact HB.alloc hsz _)
        have Hwrb : Hid (Below wr.heap.size wr wb) := Lib.hid (by rw [← Hwb.out]; exact ba _ _)
        have hg : ∀ d os, ChAt (grow (redrawn wb d) os) wr.heap.size 0 ⟨t, kk, had, ⟨oa, ob, oc⟩, has, ⟨na, nb, nc⟩⟩ := fun d os => ChAt_regrown (by rw [← Hwb.out]; exact ChAt_new wr ⟨t, kk, had, ⟨oa, ob, oc⟩, has, ⟨na, nb, nc⟩⟩) d os
        have g0 := fun d os => (hg d os).cells.1
        have g1 := fun d os => (hg d os).cells.2.1
        have g2 := fun d os => (hg d os).cells.2.2.1
        have g3 := fun d os => (hg d os).cells.2.2.2.1
        have g4 := fun d os => (hg d os).cells.2.2.2.2.1
        have g5 := fun d os => (hg d os).cells.2.2.2.2.2.1
        have g6 := fun d os => (hg d os).cells.2.2.2.2.2.2.1
        have g7 := fun d os => (hg d os).cells.2.2.2.2.2.2.2.1
        have g8 := fun d os => (hg d os).cells.2.2.2.2.2.2.2.2.1
        have g9 := fun d os => (hg d os).cells.2.2.2.2.2.2.2.2.2
        simp only [Nat.zero_add] at g0 g1 g2 g3 g4 g5 g6 g7 g8 g9
        have hv : ∀ d os, Calls Try.prog 47 #[chV ⟨t, kk, had, ⟨oa, ob, oc⟩, has, ⟨na, nb, nc⟩⟩] (grow (redrawn wb d) os) fun e w'' => e = .returned (.bool false) ∧ ∃ p : Regrown, w'' = grow (redrawn wb p.d) p.os := fun d os => Calls.regrown_of (vc_f _ _ HVc.out)
        clear hg
        refine wp_region_quiet_below (by kernel_rfl) (by kernel_rfl) ?_
        repeat (first | go_big_quiet_step (exact hv _ _) | quiet_step (exact hv _ _))
        refine wpQuiet_nil ?_
        intro _ hw'
        obtain ⟨⟨dq, osq⟩, hw''⟩ := hw'
        subst hw''
        have HBq := Lib.hid (HBb.out.trans ((below_regrown wb dq osq).mono (by simpa using HBb.out.size)))
        clear g0 g1 g2 g3 g4 g5 g6 g7 g8 g9
        go_wp2_with fail
        go_ret
        exact ⟨vrec_f (HF.out HNV.out), bt (ba w _) (by simpa using HBq.out)⟩
    · have HT : Hid (VRec p L) := Lib.hid ⟨H1.out, by rw [← HN.out]; exact H2.out, fun j hj => HV.out j (by rw [← HN.out] at hj; omega)⟩
      go_wp2_with fail
      go_ret
      exact ⟨vrec_t HT.out, hw0⟩

set_option maxRecDepth 100000 in
set_option maxHeartbeats 1000000 in
theorem validRecord_any (p : Int) (v : Value) (L : List MCh) (w : World) (hv : ChS w v L) :
    Calls Try.prog 34 #[.agg #[.int .i64 p, v]] w fun e w' => e = .returned (.bool (vrec p L)) ∧ Below w.heap.size w w' := by
  obtain ⟨a, n, cap, rfl, hn, hc1, hc2, hcell⟩ := hv
  by_cases h1 : 1 ≤ p ∧ p ≤ 10000
  · by_cases h2 : 1 ≤ n ∧ n ≤ 8
    · obtain ⟨b, o, rfl, hb, hc⟩ := hcell h2.1
      exact validRecord_in p n cap L w hn h1 h2 b o hb hc
    · have HF : Hid (¬ VRec p L) := Lib.hid (fun h => h2 (by rw [hn]; exact h.2.1))
      clear hn hcell
      go_enter Try.func34, Try.ntmps34
      go_wp2
      all_goals
        go_ret
        exact ⟨vrec_f HF.out, ba _ _⟩
  · have HF : Hid (¬ VRec p L) := Lib.hid (fun h => h1 h.1)
    clear hn hcell
    go_enter Try.func34, Try.ntmps34
    go_wp2
    all_goals
      go_ret
      exact ⟨vrec_f HF.out, ba _ _⟩
end Go.Proofs.Ytaapggeaoacikaa
