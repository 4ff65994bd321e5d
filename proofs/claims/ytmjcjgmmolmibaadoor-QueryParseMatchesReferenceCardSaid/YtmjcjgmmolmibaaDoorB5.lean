/- WALKS: QueryParseMatchesReference. -/
import Derived.Test.YtmjcjgmmolmibaaDoorB1
import Derived.Test.YtmjcjgmmolmibaaDoorR8
set_option linter.unusedVariables false
set_option linter.unusedSimpArgs false
namespace Go.Proofs.YtmjcjgmmolmibaaDoor
open Go.RowKit

theorem parseV_form (l : List UInt8) : ∃ (q : MQ) (n : Int), parseV l = .tuple #[qV q, .int .i64 n] := by
  unfold parseV
  split
  · exact ⟨_, 0, rfl⟩
  · exact ⟨_, 50, rfl⟩

set_option maxRecDepth 100000 in
set_option maxHeartbeats 2000000 in
theorem parseMatches_walk (a : Addr) (s : ByteArray) (W : World) (hL : Lw a W) : Calls Tryd.prog 4 #[.string s] W fun e w' => e = .returned (.bool true) ∧ Below W.heap.size W w' := by
  have HL : Hid (∀ w, Below W.heap.size W w → Lw a w) := Lib.hid (fun w h => hL.below h)
  clear hL
  have HSa := Lib.hid (sane_any a W (HL.out _ (Below.refl _ _)))
  obtain ⟨S, HS⟩ : ∃ S, Hid (s.extract 0 (min (s.size : Int) 200).toNat = S) := ⟨_, Lib.hid rfl⟩
  have HZ : Hid (S.size ≤ 1000) := Lib.hid (by rw [← HS.out]; simp only [ByteArray.size_extract]; omega)
  have HPa := Lib.hid (fun w hb => parse_any a S w (HL.out w hb) HZ.out)
  have HRa := Lib.hid (fun w => rparse_any S HZ.out w)
  obtain ⟨q, n, hpv⟩ := parseV_form S.data.toList
  rw [hpv] at HPa HRa
  clear hpv
  have heq := fun w => eqlQ q q w
  rw [qE_self] at heq
  obtain ⟨k, t, c, l, h, b, o⟩ := q
  have HQn := Lib.hid (fun w => QAt.new w ⟨k, t, c, l, h, b, o⟩)
  unfold qV at *
  simp only at heq
  go_enter Tryd.func4, Tryd.ntmps4
  go_wp2_with fail
  (with_reducible refine HSa.out.mono ?_)
  rintro e w2 ⟨rfl, hb2⟩
  have HB2 := Lib.hid hb2
  clear hb2
  go_wp2_with fail
  rw [HS.out]
  refine (HPa.out _ HB2.out).mono ?_
  rintro e w3 ⟨rfl, hb3⟩
  obtain ⟨W3, HW3⟩ : ∃ W3, Hid (w3.alloc (.cells #[.int .i64 k, .int .i64 t, .int .i64 c, .int .i64 l, .int .i64 h, .int .i64 b, .int .i64 o] 23) = W3) := ⟨_, Lib.hid rfl⟩
  have HB3 : Hid (Below W.heap.size W W3) := Lib.hid (by rw [← HW3.out]; exact bt (bt HB2.out hb3) (ba _ _))
  have HQ3 : Hid (QAt W3 w3.heap.size ⟨k, t, c, l, h, b, o⟩) := Lib.hid (by rw [← HW3.out]; exact HQn.out w3)
  clear hb3
  go_wp2_with fail
  rw [HW3.out]
  refine (HRa.out _).mono ?_
  rintro e w4 ⟨rfl, hb4⟩
  have HB4 := Lib.hid (bt HB3.out hb4)
  have HQ4 := Lib.hid (HQ3.out.below hb4)
  clear hb4
  obtain ⟨y0, y1, y2, y3, y4, y5, y6⟩ := HQ4.out
  have hlt : w3.heap.size < w4.heap.size := World.block_lt_of_cell? w4 _ y0
  have hne : ¬ w3.heap.size = w4.heap.size := by omega
  go_wp2_with fail
  go_ret
  exact ⟨rfl, bt HB4.out (ba _ _)⟩
end Go.Proofs.YtmjcjgmmolmibaaDoor
