/- WALKS: QueryRoundTrip, QueryKeys. -/
import Derived.Test.YtmjcjgmmolmibaaDoorS1
set_option linter.unusedVariables false
set_option linter.unusedSimpArgs false
namespace Go.Proofs.YtmjcjgmmolmibaaDoor
open Go.RowKit

theorem qE_self (q : MQ) : qE q q = true := by simp [qE]
theorem qE_ne {p q : MQ} (h : p ≠ q) : qE p q = false := by simp [qE, h]

set_option maxRecDepth 100000 in
set_option maxHeartbeats 2000000 in
theorem roundTrip_walk (a : Addr) (q : MQ) (W : World) (hL : Lw a W) : Calls Tryd.prog 5 #[qV q] W fun e w' => e = .returned (.bool true) ∧ Below W.heap.size W w' := by
  have HL : Hid (∀ w, Below W.heap.size W w → Lw a w) := Lib.hid (fun w h => hL.below h)
  clear hL
  obtain ⟨k, t, c, l, h, b, o⟩ := q
  obtain ⟨W1, HW1⟩ : ∃ W1, Hid (W.alloc (.cells #[.int .i64 k, .int .i64 t, .int .i64 c, .int .i64 l, .int .i64 h, .int .i64 b, .int .i64 o] 23) = W1) := ⟨_, Lib.hid rfl⟩
  have HB1 : Hid (Below W.heap.size W W1) := Lib.hid (by rw [← HW1.out]; exact ba _ _)
  have HQ1 : Hid (QAt W1 W.heap.size ⟨k, t, c, l, h, b, o⟩) := Lib.hid (by rw [← HW1.out]; exact QAt.new W ⟨k, t, c, l, h, b, o⟩)
  have HSa := Lib.hid (sane_any a W1 (HL.out _ HB1.out))
  cases hv : validB ⟨k, t, c, l, h, b, o⟩ with
  | false =>
    have HV := Lib.hid hv
    clear hv
    unfold qV
    go_enter Tryd.func5, Tryd.ntmps5
    go_wp2_with fail
    rw [HW1.out]
    (with_reducible refine HSa.out.mono ?_)
    rintro e w2 ⟨rfl, hb2⟩
    have HB2 := Lib.hid (bt HB1.out hb2)
    have HQ2 := Lib.hid (HQ1.out.below hb2)
    clear hb2
    have HP := Lib.hid (print_bad ⟨k, t, c, l, h, b, o⟩ w2 HV.out)
    unfold qV at HP
    obtain ⟨y0, y1, y2, y3, y4, y5, y6⟩ := HQ2.out
    go_wp2_with fail
    (with_reducible refine HP.out.mono ?_)
    rintro e w3 ⟨rfl, hb3⟩
    have HB3 := Lib.hid (bt HB2.out hb3)
    have HQ3 := Lib.hid (HQ2.out.below hb3)
    clear hb3 y0 y1 y2 y3 y4 y5 y6
    have HVa := Lib.hid (valid_any ⟨k, t, c, l, h, b, o⟩ w3)
    rw [HV.out] at HVa
    unfold qV at HVa
    obtain ⟨y0, y1, y2, y3, y4, y5, y6⟩ := HQ3.out
    go_wp2_with fail
    (with_reducible refine HVa.out.mono ?_)
    rintro e w4 ⟨rfl, hb4⟩
    have HB4 := Lib.hid (bt HB3.out hb4)
    clear hb4
    go_wp2_with fail
    go_ret
    exact ⟨rfl, HB4.out⟩
  | true =>
    have HV := Lib.hid hv
    clear hv
    have heq := fun w => eqlQ ⟨k, t, c, l, h, b, o⟩ ⟨k, t, c, l, h, b, o⟩ w
    rw [qE_self] at heq
    unfold qV at heq
    simp only at heq
    unfold qV
    go_enter Tryd.func5, Tryd.ntmps5
    go_wp2_with fail
    rw [HW1.out]
    (with_reducible refine HSa.out.mono ?_)
    rintro e w2 ⟨rfl, hb2⟩
    have HB2 := Lib.hid (bt HB1.out hb2)
    have HQ2 := Lib.hid (HQ1.out.below hb2)
    clear hb2
    have HP := Lib.hid (print_ok a ⟨k, t, c, l, h, b, o⟩ w2 (HL.out _ HB2.out) HV.out)
    unfold qV at HP
    obtain ⟨y0, y1, y2, y3, y4, y5, y6⟩ := HQ2.out
    go_wp2_with fail
    (with_reducible refine HP.out.mono ?_)
    rintro e w3 ⟨rfl, hb3⟩
    have HB3 := Lib.hid (bt HB2.out hb3)
    have HQ3 := Lib.hid (HQ2.out.below hb3)
    clear hb3 y0 y1 y2 y3 y4 y5 y6
    have HVa := Lib.hid (valid_any ⟨k, t, c, l, h, b, o⟩ w3)
    rw [HV.out] at HVa
    unfold qV at HVa
    obtain ⟨y0, y1, y2, y3, y4, y5, y6⟩ := HQ3.out
    go_wp2_with fail
    (with_reducible refine HVa.out.mono ?_)
    rintro e w4 ⟨rfl, hb4⟩
    have HB4 := Lib.hid (bt HB3.out hb4)
    have HQ4 := Lib.hid (HQ3.out.below hb4)
    clear hb4 y0 y1 y2 y3 y4 y5 y6
    have HPa := Lib.hid (parse_any a (bstr (line ⟨k, t, c, l, h, b, o⟩)) w4 (HL.out _ HB4.out) (by rw [bstr_size]; have := line_len HV.out; omega))
    rw [show parseV (bstr (line ⟨k, t, c, l, h, b, o⟩)).data.toList = .tuple #[qV ⟨k, t, c, l, h, b, o⟩, .int .i64 0] from by rw [bstr_list]; unfold parseV; rw [parse_line HV.out]] at HPa
    unfold qV at HPa
    go_wp2_with fail
    (with_reducible refine HPa.out.mono ?_)
    rintro e w5 ⟨rfl, hb5⟩
    have HB5 := Lib.hid (bt HB4.out hb5)
    have HQ5 := Lib.hid (HQ4.out.below hb5)
    clear hb5
    obtain ⟨y0, y1, y2, y3, y4, y5, y6⟩ := HQ5.out
    have hlt : W.heap.size < w5.heap.size := World.block_lt_of_cell? w5 _ y0
    have hne : ¬ W.heap.size = w5.heap.size := by omega
    go_wp2_with fail
    go_ret
    exact ⟨rfl, bt HB5.out (ba _ _)⟩

set_option maxRecDepth 100000 in
set_option maxHeartbeats 2000000 in
theorem keys_walk (a : Addr) (p q : MQ) (W : World) (hL : Lw a W) : Calls Tryd.prog 7 #[qV p, qV q] W fun e w' => e = .returned (.bool true) ∧ Below W.heap.size W w' := by
  have HL : Hid (∀ w, Below W.heap.size W w → Lw a w) := Lib.hid (fun w h => hL.below h)
  clear hL
  have HE : Hid (validB p = true → validB q = true → (((bstr (line p)).toList == (bstr (line q)).toList) = qE p q)) := Lib.hid (fun hp hq => by
    by_cases h : p = q
    · subst h; rw [qE_self]; exact str_eq rfl
    · rw [qE_ne h]; exact str_ne (fun e => h ((line_inj hp hq).1 (bstr_inj e))))
  have heq := fun w => eqlQ p q w
  obtain ⟨pv, Hpv⟩ : ∃ v, Hid (validB p = v) := ⟨_, Lib.hid rfl⟩
  obtain ⟨qv, Hqv⟩ : ∃ v, Hid (validB q = v) := ⟨_, Lib.hid rfl⟩
  obtain ⟨ev, Hev⟩ : ∃ v, Hid (qE p q = v) := ⟨_, Lib.hid rfl⟩
  simp only [Hev.out] at heq
  rw [Hev.out, Hpv.out, Hqv.out] at HE
  have HPp := Lib.hid (fun w (hb : Below W.heap.size W w) => print_any a p w (HL.out _ hb))
  have HPq := Lib.hid (fun w (hb : Below W.heap.size W w) => print_any a q w (HL.out _ hb))
  rw [Hpv.out] at HPp
  rw [Hqv.out] at HPq
  obtain ⟨k, t, c, l, h, b, o⟩ := p
  obtain ⟨k', t', c', l', h', b', o'⟩ := q
  obtain ⟨sp, Hsp⟩ : ∃ x, Hid (bstr (line ⟨k, t, c, l, h, b, o⟩) = x) := ⟨_, Lib.hid rfl⟩
  obtain ⟨sq, Hsq⟩ : ∃ x, Hid (bstr (line ⟨k', t', c', l', h', b', o'⟩) = x) := ⟨_, Lib.hid rfl⟩
  rw [Hsp.out, Hsq.out] at HE
  rw [Hsp.out] at HPp
  rw [Hsq.out] at HPq
  obtain ⟨W1, HW1⟩ : ∃ W1, Hid ((W.alloc (.cells #[.int .i64 k, .int .i64 t, .int .i64 c, .int .i64 l, .int .i64 h, .int .i64 b, .int .i64 o] 23)).alloc (.cells #[.int .i64 k', .int .i64 t', .int .i64 c', .int .i64 l', .int .i64 h', .int .i64 b', .int .i64 o'] 23) = W1) := ⟨_, Lib.hid rfl⟩
  have HB1 : Hid (Below W.heap.size W W1) := Lib.hid (by rw [← HW1.out]; exact bt (ba _ _) (ba _ _))
  have HP1 : Hid (QAt W1 W.heap.size ⟨k, t, c, l, h, b, o⟩) := Lib.hid (by rw [← HW1.out]; exact (QAt.new W ⟨k, t, c, l, h, b, o⟩).below (ba _ _))
  have HQ1 : Hid (QAt W1 (W.heap.size + 1) ⟨k', t', c', l', h', b', o'⟩) := Lib.hid (by rw [← HW1.out]; have := QAt.new (W.alloc (.cells #[.int .i64 k, .int .i64 t, .int .i64 c, .int .i64 l, .int .i64 h, .int .i64 b, .int .i64 o] 23)) ⟨k', t', c', l', h', b', o'⟩; rwa [World.size_alloc] at this)
  have HSa := Lib.hid (sane_any a W1 (HL.out _ HB1.out))
  unfold qV at *
  cases pv <;> cases qv <;> cases ev
  all_goals
    simp only [Bool.false_eq_true, if_true, if_false] at HPp HPq
    (try have hs := HE.out rfl rfl)
    go_enter Tryd.func7, Tryd.ntmps7
    go_wp2_with fail
    rw [HW1.out]
    (with_reducible refine HSa.out.mono ?_)
    rintro e w2 ⟨rfl, hb2⟩
    have HB2 := Lib.hid (bt HB1.out hb2)
    have HP2 := Lib.hid (HP1.out.below hb2)
    have HQ2 := Lib.hid (HQ1.out.below hb2)
    clear hb2
    obtain ⟨y0, y1, y2, y3, y4, y5, y6⟩ := HP2.out
    go_wp2_with fail
    refine (HPp.out _ HB2.out).mono ?_
    rintro e w3 ⟨rfl, hb3⟩
    have HB3 := Lib.hid (bt HB2.out hb3)
    have HP3 := Lib.hid (HP2.out.below hb3)
    have HQ3 := Lib.hid (HQ2.out.below hb3)
    clear hb3 y0 y1 y2 y3 y4 y5 y6
    obtain ⟨y0, y1, y2, y3, y4, y5, y6⟩ := HQ3.out
    go_wp2_with fail
    refine (HPq.out _ HB3.out).mono ?_
    rintro e w4 ⟨rfl, hb4⟩
    have HB4 := Lib.hid (bt HB3.out hb4)
    have HP4 := Lib.hid (HP3.out.below hb4)
    have HQ4 := Lib.hid (HQ3.out.below hb4)
    clear hb4 y0 y1 y2 y3 y4 y5 y6
    obtain ⟨y0, y1, y2, y3, y4, y5, y6⟩ := HQ4.out
    obtain ⟨z0, z1, z2, z3, z4, z5, z6⟩ := HP4.out
    go_wp2_with fail
    go_ret
    exact ⟨rfl, HB4.out⟩
end Go.Proofs.YtmjcjgmmolmibaaDoor
