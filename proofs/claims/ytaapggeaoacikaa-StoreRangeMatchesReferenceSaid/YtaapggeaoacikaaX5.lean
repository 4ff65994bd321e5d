/- WALKS: the reference's Apply of a record that isn't valid, or isn't the next. -/
import Derived.Test.YtaapggeaoacikaaX4
import Derived.Test.YtaapggeaoacikaaH2
set_option linter.unusedVariables false
set_option linter.unusedSimpArgs false
namespace Go.Proofs.Ytaapggeaoacikaa
open Go.RowKit Go.Sort Go.ChangeMaps Go.MapKept

theorem rvr_t {p : Int} {v : Value} {L : List MCh} {w : World} (hv : ChS w v L) (h : VRec p L) : Calls Try.prog 37 #[.agg #[.int .i64 p, v]] w fun e w' => e = .returned (.bool true) ∧ Below w.heap.size w w' :=
  (refValidRecord_any p v L w hv).mono fun e w' ⟨he, hb⟩ => ⟨by rw [he, vrec, decide_eq_true h], hb⟩
theorem rvr_f {p : Int} {v : Value} {L : List MCh} {w : World} (hv : ChS w v L) (h : ¬ VRec p L) : Calls Try.prog 37 #[.agg #[.int .i64 p, v]] w fun e w' => e = .returned (.bool false) ∧ Below w.heap.size w w' :=
  (refValidRecord_any p v L w hv).mono fun e w' ⟨he, hb⟩ => ⟨by rw [he, vrec, decide_eq_false h], hb⟩

set_option maxRecDepth 100000 in
set_option maxHeartbeats 4000000 in
theorem applyR_inv {W : World} {b : Nat} {v : Value} {L : List MRow} {p : Int} (h : RfAt W b v L p) {pos : Int} {cs : List MCh} {u : Value} (hv : ChS W u cs) (ho : ¬ (VRec pos cs ∧ pos = p + 1)) :
    Calls Try.prog 16 #[.pointer (some ⟨b, 0, none⟩), .agg #[.int .i64 pos, u]] W fun e w' => e = .returned (.int .i64 40) ∧ Below W.heap.size W w' := by
  have HS := Lib.hid h
  have HV := Lib.hid hv
  have hw1 : IntKind.i64.wrap (p + 1) = p + 1 := by rw [IntKind.wrap_i64]; have := h.pos; omega
  obtain ⟨ua, un, ucap, rfl, hrest⟩ := hv
  clear hrest
  by_cases h1 : VRec pos cs
  · have h2 : ¬ pos = p + 1 := fun h2 => ho ⟨h1, h2⟩
    have H1 := Lib.hid h1
    have d2 : (pos != p + 1) = true := by simp [h2]
    clear h ho h1 h2
    go_enter Try.func16, Try.ntmps16
    go_wp2_with fail
    (with_reducible refine (rvr_t (HV.out.below (ba W _)) H1.out).mono ?_)
    rintro e w1 ⟨rfl, hb⟩
    have HB := Lib.hid (bt (ba W _) hb)
    have HR : Hid (w1.heap[W.heap.size]? = some (.cells #[.int .i64 pos, .slice ua un ucap] 32 (0, 0))) := Lib.hid ((hb.block _ (by simp)).trans (MapKept.heap_alloc W _).1)
    have r0 : w1.cell? ⟨W.heap.size, 0, none⟩ = some (.int .i64 pos) := by simp [World.cell?, HR.out]
    obtain ⟨c0, c1, _, _⟩ := (HS.out.below HB.out).cells
    clear hb
    go_wp2_with fail
    go_quiet (fail)
    have HB2 := Lib.hid (bt HB.out (below_drewN w1 nq))
    go_wp2_with fail
    go_ret
    exact ⟨rfl, HB2.out⟩
  · have H1 := Lib.hid h1
    clear h ho h1
    go_enter Try.func16, Try.ntmps16
    go_wp2_with fail
    (with_reducible refine (rvr_f (HV.out.below (ba W _)) H1.out).mono ?_)
    rintro e w1 ⟨rfl, hb⟩
    have HB := Lib.hid (bt (ba W _) hb)
    clear hb
    go_wp2_with fail
    go_quiet (fail)
    have HB2 := Lib.hid (bt HB.out (below_drewN w1 nq))
    go_wp2_with fail
    go_ret
    exact ⟨rfl, HB2.out⟩
end Go.Proofs.Ytaapggeaoacikaa
