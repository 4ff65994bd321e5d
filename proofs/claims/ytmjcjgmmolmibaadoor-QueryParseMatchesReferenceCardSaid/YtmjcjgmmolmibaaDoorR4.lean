/- WALKS: the reference's Print, Scan. -/
import Derived.Test.YtmjcjgmmolmibaaDoorR1
import Derived.Test.YtmjcjgmmolmibaaDoorR3
import Derived.Test.YtmjcjgmmolmibaaDoorWF
set_option linter.unusedVariables false
set_option linter.unusedSimpArgs false
namespace Go.Proofs.YtmjcjgmmolmibaaDoor
open Go.RowKit

set_option maxRecDepth 100000 in
set_option maxHeartbeats 1000000 in
theorem rprint_any (q : MQ) (W : World) : Calls Tryd.prog 11 #[qV q] W fun e w' => e = .returned (.tuple #[.string (if validB q then bstr (line q) else ⟨#[]⟩), .int .i64 (if validB q then 0 else 50)]) ∧ Below W.heap.size W w' := by
  cases hv : validB q with
  | false =>
    obtain ⟨k, t, c, l, h, b, o⟩ := q
    have HC := Lib.hid (rvalid_any ⟨k, t, c, l, h, b, o⟩ (W.alloc (.cells #[.int .i64 k, .int .i64 t, .int .i64 c, .int .i64 l, .int .i64 h, .int .i64 b, .int .i64 o] 23)))
    rw [hv] at HC
    clear hv
    unfold qV at *
    go_enter Tryd.func11, Tryd.ntmps11
    go_wp2_with fail
    (with_reducible refine HC.out.mono ?_)
    rintro e w1 ⟨rfl, hb1⟩
    have HB := Lib.hid (bt (ba W _) hb1)
    clear hb1
    go_wp2_with fail
    go_ret2
    exact ⟨rfl, HB.out⟩
  | true =>
    have HL := Lib.hid (fun w => rline_any q hv w)
    obtain ⟨k, t, c, l, h, b, o⟩ := q
    have HC := Lib.hid (rvalid_any ⟨k, t, c, l, h, b, o⟩ (W.alloc (.cells #[.int .i64 k, .int .i64 t, .int .i64 c, .int .i64 l, .int .i64 h, .int .i64 b, .int .i64 o] 23)))
    rw [hv] at HC
    have HQ0 := Lib.hid (QAt.new W ⟨k, t, c, l, h, b, o⟩)
    clear hv
    unfold qV at *
    go_enter Tryd.func11, Tryd.ntmps11
    go_wp2_with fail
    (with_reducible refine HC.out.mono ?_)
    rintro e w1 ⟨rfl, hb1⟩
    have HB := Lib.hid (bt (ba W _) hb1)
    obtain ⟨y0, y1, y2, y3, y4, y5, y6⟩ := HQ0.out.below hb1
    clear hb1
    go_wp2_with fail
    refine (HL.out _).mono ?_
    rintro e w2 ⟨rfl, hb2⟩
    have HB2 := Lib.hid (bt HB.out hb2)
    clear hb2
    go_wp2_with fail
    go_ret2
    exact ⟨rfl, HB2.out⟩

set_option maxRecDepth 100000 in
set_option maxHeartbeats 1000000 in
theorem rscan_any (q : MQ) (W : World) : Calls Tryd.prog 13 #[qV q] W fun e w' => e = .returned (scanV q) ∧ Below W.heap.size W w' := by
  obtain ⟨k, t, c, l, h, b, o⟩ := q
  obtain ⟨v, Hv⟩ : ∃ v, Hid (validB ⟨k, t, c, l, h, b, o⟩ = v) := ⟨_, Lib.hid rfl⟩
  have HC := Lib.hid (rvalid_any ⟨k, t, c, l, h, b, o⟩ (W.alloc (.cells #[.int .i64 k, .int .i64 t, .int .i64 c, .int .i64 l, .int .i64 h, .int .i64 b, .int .i64 o] 23)))
  rw [Hv.out] at HC
  have HQ := Lib.hid (QAt.new W ⟨k, t, c, l, h, b, o⟩)
  have HS : Hid (scanV ⟨k, t, c, l, h, b, o⟩ = if v then .tuple #[.int .i64 t, .int .i64 c, .int .i64 l, .int .i64 h] else .tuple #[.int .i64 0, .int .i64 0, .int .i64 0, .int .i64 0]) := Lib.hid (by unfold scanV; rw [Hv.out])
  unfold qV at *
  cases v
  · go_enter Tryd.func13, Tryd.ntmps13
    go_wp2_with fail
    (with_reducible refine HC.out.mono ?_)
    rintro e w1 ⟨rfl, hb1⟩
    have HB := Lib.hid (bt (ba W _) hb1)
    clear hb1
    go_wp2_with fail
    exact bodyPost_ret (ret4 _ rfl) rfl ⟨by rw [HS.out]; rfl, HB.out⟩
  · go_enter Tryd.func13, Tryd.ntmps13
    go_wp2_with fail
    (with_reducible refine HC.out.mono ?_)
    rintro e w1 ⟨rfl, hb1⟩
    have HB := Lib.hid (bt (ba W _) hb1)
    obtain ⟨z0, z1, z2, z3, z4, z5, z6⟩ := HQ.out.below hb1
    clear hb1
    go_wp2_with fail
    go_quiet (fail)
    go_wp2_with fail
    exact bodyPost_ret (ret4 _ rfl) rfl ⟨by rw [HS.out]; rfl, below_drewN HB.out _⟩
end Go.Proofs.YtmjcjgmmolmibaaDoor
