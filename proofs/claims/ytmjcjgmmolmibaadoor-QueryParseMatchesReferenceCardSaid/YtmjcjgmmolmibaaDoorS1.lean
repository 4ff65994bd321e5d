/- WALKS: sane. -/
import Derived.Test.YtmjcjgmmolmibaaDoorWD
import Derived.Test.YtmjcjgmmolmibaaDoorWF
set_option linter.unusedVariables false
set_option linter.unusedSimpArgs false
namespace Go.Proofs.YtmjcjgmmolmibaaDoor
open Go.RowKit

theorem ex_line : line ⟨7, 0, 3, 0, 0, 1, 2⟩ = bs [106, 111, 105, 110, 32, 49, 32, 116, 111, 32, 50, 32, 111, 102, 32, 48, 32, 51, 32, 48, 32, 48] := by decide +kernel
theorem ex_p : parse (bs [114, 111, 119, 115, 32, 49, 32, 50, 32, 45, 49, 48, 32, 50, 48]) = some ⟨2, 1, 2, -10, 20, 0, 0⟩ := by decide +kernel
theorem ex_n : parse (bs [114, 111, 119, 115, 32, 49, 32, 50, 32, 50, 48, 32, 49, 48]) = none := by decide +kernel
theorem ex_v1 : validB ⟨7, 0, 3, 0, 0, 1, 2⟩ = true := by decide
theorem ex_v2 : validB ⟨2, 1, 2, -10, 20, 0, 0⟩ = true := by decide
theorem ex_v3 : validB ⟨0, 0, 0, 0, 0, 0, 0⟩ = false := by decide

def sP : ByteArray := ⟨#[114, 111, 119, 115, 32, 49, 32, 50, 32, 45, 49, 48, 32, 50, 48]⟩
def sN : ByteArray := ⟨#[114, 111, 119, 115, 32, 49, 32, 50, 32, 50, 48, 32, 49, 48]⟩
theorem ex_pv : parseV sP.data.toList = .tuple #[qV ⟨2, 1, 2, -10, 20, 0, 0⟩, .int .i64 0] := by
  have e : sP.data.toList = bs [114, 111, 119, 115, 32, 49, 32, 50, 32, 45, 49, 48, 32, 50, 48] := by decide
  rw [e]; unfold parseV; rw [ex_p]
theorem ex_nv : parseV sN.data.toList = .tuple #[qV MQ.zero, .int .i64 50] := by
  have e : sN.data.toList = bs [114, 111, 119, 115, 32, 49, 32, 50, 32, 50, 48, 32, 49, 48] := by decide
  rw [e]; unfold parseV; rw [ex_n]
theorem ex_bs : bstr (bs [106, 111, 105, 110, 32, 49, 32, 116, 111, 32, 50, 32, 111, 102, 32, 48, 32, 51, 32, 48, 32, 48]) = ⟨#[106, 111, 105, 110, 32, 49, 32, 116, 111, 32, 50, 32, 111, 102, 32, 48, 32, 51, 32, 48, 32, 48]⟩ := rfl

set_option maxRecDepth 100000 in
set_option maxHeartbeats 2000000 in
theorem sane_any (a : Addr) (W : World) (hL : Lw a W) : Calls Tryd.prog 9 #[] W fun e w' => e = .returned (.bool true) ∧ Below W.heap.size W w' := by
  have HL : Hid (∀ w, Below W.heap.size W w → Lw a w) := Lib.hid (fun w h => hL.below h)
  clear hL
  have heq := fun w => eqlQ ⟨2, 1, 2, -10, 20, 0, 0⟩ ⟨2, 1, 2, -10, 20, 0, 0⟩ w
  rw [show qE ⟨2, 1, 2, -10, 20, 0, 0⟩ ⟨2, 1, 2, -10, 20, 0, 0⟩ = true from rfl] at heq
  unfold qV at heq
  simp only at heq
  obtain ⟨W1, HW1⟩ : ∃ W1, Hid (W.alloc (.cells #[.int .i64 7, .int .i64 0, .int .i64 3, .int .i64 0, .int .i64 0, .int .i64 1, .int .i64 2] 23) = W1) := ⟨_, Lib.hid rfl⟩
  have HB1 : Hid (Below W.heap.size W W1) := Lib.hid (by rw [← HW1.out]; exact ba _ _)
  have HQ1 : Hid (QAt W1 W.heap.size ⟨7, 0, 3, 0, 0, 1, 2⟩) := Lib.hid (by rw [← HW1.out]; exact QAt.new W ⟨7, 0, 3, 0, 0, 1, 2⟩)
  have HPr := Lib.hid (print_ok a ⟨7, 0, 3, 0, 0, 1, 2⟩ W1 (HL.out _ HB1.out) ex_v1)
  rw [ex_line] at HPr
  unfold qV at HPr
  obtain ⟨y0, y1, y2, y3, y4, y5, y6⟩ := HQ1.out
  go_enter Tryd.func9, Tryd.ntmps9
  go_wp2_with fail
  rw [HW1.out]
  (with_reducible refine HPr.out.mono ?_)
  rintro e w2 ⟨rfl, hb2⟩
  have HB2 := Lib.hid (bt HB1.out hb2)
  have HQ2 := Lib.hid (HQ1.out.below hb2)
  clear hb2 y0 y1 y2 y3 y4 y5 y6
  have HP2 := Lib.hid (parse_any a sP w2 (HL.out _ HB2.out) (by decide))
  rw [ex_pv] at HP2
  unfold sP qV at HP2
  go_wp2_with fail
  (with_reducible refine HP2.out.mono ?_)
  rintro e w3 ⟨rfl, hb3⟩
  have HB3 := Lib.hid (bt (bt HB2.out hb3) (ba _ (.cells #[.int .i64 2, .int .i64 1, .int .i64 2, .int .i64 (-10), .int .i64 20, .int .i64 0, .int .i64 0] 23)))
  have HQ3 := Lib.hid ((HQ2.out.below hb3).below (ba _ (.cells #[.int .i64 2, .int .i64 1, .int .i64 2, .int .i64 (-10), .int .i64 20, .int .i64 0, .int .i64 0] 23)))
  have HR3 := Lib.hid (QAt.new w3 ⟨2, 1, 2, -10, 20, 0, 0⟩)
  clear hb3
  obtain ⟨W3, HW3⟩ : ∃ W3, Hid (w3.alloc (.cells #[.int .i64 2, .int .i64 1, .int .i64 2, .int .i64 (-10), .int .i64 20, .int .i64 0, .int .i64 0] 23) = W3) := ⟨_, Lib.hid rfl⟩
  simp only [HW3.out] at HB3 HQ3 HR3
  have HP3 := Lib.hid (parse_any a sN W3 (HL.out _ HB3.out) (by decide))
  rw [ex_nv] at HP3
  unfold sN qV MQ.zero at HP3
  go_wp2_with fail
  rw [HW3.out]
  (with_reducible refine HP3.out.mono ?_)
  rintro e w4 ⟨rfl, hb4⟩
  have HB4 := Lib.hid (bt (bt HB3.out hb4) (ba _ (.cells #[.int .i64 0, .int .i64 0, .int .i64 0, .int .i64 0, .int .i64 0, .int .i64 0, .int .i64 0] 23)))
  have HQ4 := Lib.hid ((HQ3.out.below hb4).below (ba _ (.cells #[.int .i64 0, .int .i64 0, .int .i64 0, .int .i64 0, .int .i64 0, .int .i64 0, .int .i64 0] 23)))
  have HR4 := Lib.hid ((HR3.out.below hb4).below (ba _ (.cells #[.int .i64 0, .int .i64 0, .int .i64 0, .int .i64 0, .int .i64 0, .int .i64 0, .int .i64 0] 23)))
  clear hb4
  obtain ⟨W4, HW4⟩ : ∃ W4, Hid (w4.alloc (.cells #[.int .i64 0, .int .i64 0, .int .i64 0, .int .i64 0, .int .i64 0, .int .i64 0, .int .i64 0] 23) = W4) := ⟨_, Lib.hid rfl⟩
  simp only [HW4.out] at HB4 HQ4 HR4
  have HP4 := Lib.hid (print_bad ⟨0, 0, 0, 0, 0, 0, 0⟩ W4 ex_v3)
  unfold qV at HP4
  go_wp2_with fail
  rw [HW4.out]
  (with_reducible refine HP4.out.mono ?_)
  rintro e w5 ⟨rfl, hb5⟩
  have HB5 := Lib.hid (bt HB4.out hb5)
  have HQ5 := Lib.hid (HQ4.out.below hb5)
  have HR5 := Lib.hid (HR4.out.below hb5)
  clear hb5
  have HP5 := Lib.hid (scan_any ⟨2, 1, 2, -10, 20, 0, 0⟩ w5)
  rw [show scanV ⟨2, 1, 2, -10, 20, 0, 0⟩ = .tuple #[.int .i64 1, .int .i64 2, .int .i64 (-10), .int .i64 20] from by unfold scanV; rw [ex_v2]; rfl] at HP5
  unfold qV at HP5
  obtain ⟨y0, y1, y2, y3, y4, y5, y6⟩ := HR5.out
  go_wp2_with fail
  (with_reducible refine HP5.out.mono ?_)
  rintro e w6 ⟨rfl, hb6⟩
  have HB6 := Lib.hid (bt HB5.out hb6)
  have HQ6 := Lib.hid (HQ5.out.below hb6)
  have HR6 := Lib.hid (HR5.out.below hb6)
  clear hb6 y0 y1 y2 y3 y4 y5 y6
  obtain ⟨y0, y1, y2, y3, y4, y5, y6⟩ := HR6.out
  obtain ⟨z0, z1, z2, z3, z4, z5, z6⟩ := HQ6.out
  have hs : ((bstr (bs [106, 111, 105, 110, 32, 49, 32, 116, 111, 32, 50, 32, 111, 102, 32, 48, 32, 51, 32, 48, 32, 48])).toList == [106, 111, 105, 110, 32, 49, 32, 116, 111, 32, 50, 32, 111, 102, 32, 48, 32, 51, 32, 48, 32, 48]) = true := beq_iff_eq.2 (by rw [ByteArray.toList_eq]; rfl)
  have HV6 := Lib.hid (valid_any ⟨7, 0, 3, 0, 0, 1, 2⟩ w6)
  rw [ex_v1] at HV6
  unfold qV at HV6
  go_wp2_with fail
  (with_reducible refine HV6.out.mono ?_)
  rintro e w7 ⟨rfl, hb7⟩
  have HB7 := Lib.hid (bt HB6.out hb7)
  clear hb7
  have HV7 := Lib.hid (valid_any ⟨0, 0, 0, 0, 0, 0, 0⟩ w7)
  rw [ex_v3] at HV7
  unfold qV at HV7
  go_wp2_with fail
  (with_reducible refine HV7.out.mono ?_)
  rintro e w8 ⟨rfl, hb8⟩
  have HB8 := Lib.hid (bt HB7.out hb8)
  clear hb8
  go_wp2_with fail
  go_ret
  exact ⟨rfl, HB8.out⟩
end Go.Proofs.YtmjcjgmmolmibaaDoor
