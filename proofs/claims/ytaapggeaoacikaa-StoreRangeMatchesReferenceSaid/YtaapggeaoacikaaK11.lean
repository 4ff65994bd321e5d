/- WALKS: Clone. -/
import Derived.Test.YtaapggeaoacikaaK10
set_option linter.unusedVariables false
set_option linter.unusedSimpArgs false
namespace Go.Proofs.Ytaapggeaoacikaa
open Go.RowKit Go.Sort Go.ChangeMaps Go.MapKept

theorem clone_nil (W : World) : Calls Try.prog 32 #[.pointer none] W fun e w' => e = .returned (.pointer none) ∧ W = w' := by
  go_enter Try.func32, Try.ntmps32
  go_wp2_with fail
  go_ret
  exact ⟨rfl, rfl⟩

/-- A state of its own: its block and its map's lie behind n. -/
def Own (n b : Nat) (m : Option Nat) : Prop := n ≤ b ∧ ∀ i, m = some i → n ≤ i

set_option maxRecDepth 100000 in
set_option maxHeartbeats 2000000 in
theorem clone_any {W : World} {b : Nat} {m : Option Nat} {L : List MRow} {p : Int} (h : StAt W b m L p) :
    Calls Try.prog 32 #[.pointer (some ⟨b, 0, none⟩)] W fun e w' => ∃ nb m', e = .returned (.pointer (some ⟨nb, 0, none⟩)) ∧ StAt w' nb m' L p ∧ Own W.heap.size nb m' ∧ Below W.heap.size W w' := by
  have hblt := h.lt
  have hbne : ¬ b = W.heap.size := by omega
  obtain ⟨c0, c1, _, _⟩ := h.cells
  have HS := Lib.hid h
  rcases m with _ | mb
  · have hC := fun w => AnyW.maps_Clone_nil Try.laysClone w
    change ∀ w, Calls Try.prog 46 _ _ _ at hC
    have HC := Lib.hid hC
    clear h hC
    go_enter Try.func32, Try.ntmps32
    go_wp2_with fail
    (with_reducible refine (HC.out _).mono ?_)
    rintro e w1 ⟨rfl, rfl⟩
    go_wp2_with fail
    go_ret
    refine ⟨W.heap.size + 1, none, rfl, ⟨?_, HS.out.mp, HS.out.good, HS.out.pos⟩, ⟨by omega, fun i e => by cases e⟩, bt (ba W _) (ba (W.alloc _) _)⟩
    have := (MapKept.heap_alloc (W.alloc (.cells #[.map none, .int .i64 p] 71)) (.cells #[.map none, .int .i64 p] 73)).1
    rwa [World.size_alloc] at this
  · obtain ⟨es, clock, hb, hs, he, hw⟩ := h.mp
    have hC := AnyW.maps_Clone Try.laysClone mb es clock (W.alloc (.cells #[.map (some mb), .int .i64 p] 71)) (by rw [(MapKept.heap_alloc W _).2 _ (lt_of_block hb)]; exact hb)
    change Calls Try.prog 46 _ _ _ at hC
    have HC := Lib.hid hC
    have HM := Lib.hid (show Stamped es clock ∧ Ent es.toList L ∧ Wd L from ⟨hs, he, hw⟩)
    clear h hC hs he hw hb
    go_enter Try.func32, Try.ntmps32
    go_wp2_with fail
    (with_reducible refine HC.out.mono ?_)
    rintro e w1 ⟨rfl, rfl⟩
    go_wp2_with fail
    go_ret
    have hb1 : Below W.heap.size W ((W.alloc (.cells #[.map (some (W.heap.size + 1)), .int .i64 p] 71)).alloc (.map es clock)) := bt (ba W _) (ba _ _)
    refine ⟨W.heap.size + 1 + 1, some (W.heap.size + 1), rfl, ⟨?_, ?_, HS.out.good, HS.out.pos⟩, ⟨by omega, fun i e => by cases e; omega⟩, bt hb1 (ba _ _)⟩
    · have := (MapKept.heap_alloc ((W.alloc (.cells #[.map (some (W.heap.size + 1)), .int .i64 p] 71)).alloc (.map es clock)) (.cells #[.map (some (W.heap.size + 1)), .int .i64 p] 73)).1
      rwa [World.size_alloc, World.size_alloc] at this
    · refine ⟨es, clock, ?_, HM.out⟩
      rw [(MapKept.heap_alloc _ _).2 _ (by simp)]
      have := (MapKept.heap_alloc (W.alloc (.cells #[.map (some (W.heap.size + 1)), .int .i64 p] 71)) (.map es clock)).1
      rwa [World.size_alloc] at this
end Go.Proofs.Ytaapggeaoacikaa
