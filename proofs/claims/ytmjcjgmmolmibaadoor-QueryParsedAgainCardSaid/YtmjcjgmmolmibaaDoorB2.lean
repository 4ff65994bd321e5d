/- WALKS: QueryParsedAgain. -/
import Derived.Test.YtmjcjgmmolmibaaDoorB1
set_option linter.unusedVariables false
set_option linter.unusedSimpArgs false
namespace Go.Proofs.YtmjcjgmmolmibaaDoor
open Go.RowKit

set_option maxRecDepth 100000 in
set_option maxHeartbeats 2000000 in
theorem parsedAgain_walk (a : Addr) (s : ByteArray) (W : World) (hL : Lw a W) : Calls Tryd.prog 6 #[.string s] W fun e w' => e = .returned (.bool true) ∧ Below W.heap.size W w' := by
  have HL : Hid (∀ w, Below W.heap.size W w → Lw a w) := Lib.hid (fun w h => hL.below h)
  clear hL
  have HSa := Lib.hid (sane_any a W (HL.out _ (Below.refl _ _)))
  obtain ⟨S, HS⟩ : ∃ S, Hid (s.extract 0 (min (s.size : Int) 200).toNat = S) := ⟨_, Lib.hid rfl⟩
  have HZ : Hid (S.size ≤ 1000) := Lib.hid (by rw [← HS.out]; simp only [ByteArray.size_extract]; omega)
  have HPa := Lib.hid (fun w hb => parse_any a S w (HL.out w hb) HZ.out)
  cases hp : parse S.data.toList with
  | none =>
    rw [show parseV S.data.toList = .tuple #[qV MQ.zero, .int .i64 50] from by unfold parseV; rw [hp]] at HPa
    clear hp
    have heq := fun w => eqlQ MQ.zero MQ.zero w
    rw [show qE MQ.zero MQ.zero = true from rfl] at heq
    unfold qV MQ.zero at HPa heq
    simp only at heq
    go_enter Tryd.func6, Tryd.ntmps6
    go_wp2_with fail
    (with_reducible refine HSa.out.mono ?_)
    rintro e w2 ⟨rfl, hb2⟩
    have HB2 := Lib.hid hb2
    clear hb2
    go_wp2_with fail
    rw [HS.out]
    refine (HPa.out _ HB2.out).mono ?_
    rintro e w3 ⟨rfl, hb3⟩
    have HB3 := Lib.hid (bt HB2.out hb3)
    clear hb3
    go_wp2_with fail
    go_ret
    exact ⟨rfl, bt HB3.out (ba _ _)⟩
  | some q =>
    obtain ⟨hv, hl⟩ := parse_some hp
    rw [show parseV S.data.toList = .tuple #[qV q, .int .i64 0] from by unfold parseV; rw [hp]] at HPa
    clear hp
    have hs : bstr (line q) = S := by rw [hl, bstr_of]
    have hse := str_eq hs
    have HPr := Lib.hid (fun w hb => print_ok a q w (HL.out w hb) hv)
    have HVa := Lib.hid (fun w => valid_any q w)
    rw [hv] at HVa
    clear hv hl hs
    obtain ⟨k, t, c, l, h, b, o⟩ := q
    have HQn := Lib.hid (fun w => QAt.new w ⟨k, t, c, l, h, b, o⟩)
    unfold qV at *
    go_enter Tryd.func6, Tryd.ntmps6
    go_wp2_with fail
    (with_reducible refine HSa.out.mono ?_)
    rintro e w2 ⟨rfl, hb2⟩
    have HB2 := Lib.hid hb2
    clear hb2
    go_wp2_with fail
    rw [HS.out]
    refine (HPa.out _ HB2.out).mono ?_
    rintro e w3 ⟨rfl, hb3⟩
    obtain ⟨W3, HW3⟩ : ∃ W3, Hid (w3.alloc (.cells #[.int .i64 k, .int .i64 t, .int .i64 c, .int .i64 l, .int .i64 h, .int .i64 b, .int .i64 o] 23) = W3) := ⟨_, Lib.hid rfl⟩
    have HB3 : Hid (Below W.heap.size W W3) := Lib.hid (by rw [← HW3.out]; exact bt (bt HB2.out hb3) (ba _ _))
    have HQ3 : Hid (QAt W3 w3.heap.size ⟨k, t, c, l, h, b, o⟩) := Lib.hid (by rw [← HW3.out]; exact HQn.out w3)
    clear hb3
    go_wp2_with fail
    rw [HW3.out]
    refine (HPr.out _ HB3.out).mono ?_
    rintro e w4 ⟨rfl, hb4⟩
    have HB4 := Lib.hid (bt HB3.out hb4)
    have HQ4 := Lib.hid (HQ3.out.below hb4)
    clear hb4
    obtain ⟨y0, y1, y2, y3, y4, y5, y6⟩ := HQ4.out
    go_wp2_with fail
    refine (HVa.out _).mono ?_
    rintro e w5 ⟨rfl, hb5⟩
    have HB5 := Lib.hid (bt HB4.out hb5)
    clear hb5
    go_wp2_with fail
    go_ret
    exact ⟨rfl, HB5.out⟩
end Go.Proofs.YtmjcjgmmolmibaaDoor
