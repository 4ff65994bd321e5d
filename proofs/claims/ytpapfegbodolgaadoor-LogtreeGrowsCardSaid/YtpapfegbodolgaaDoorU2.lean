/- LAW: LogtreeGrows. -/
import Derived.Test.YtpapfegbodolgaaDoorS3
import Derived.Test.YtpapfegbodolgaaDoorT2
import Derived.Test.YtpapfegbodolgaaDoorT3
import Derived.Test.YtpapfegbodolgaaDoorDB0
set_option linter.unusedVariables false
set_option linter.unusedSimpArgs false
namespace Go.Proofs.YtpapfegbodolgaaDoor
open Go.RowKit Go.Sort

theorem hdsTo_take (R : List MRec) (j : Nat) : ∀ k, k ≤ j → hdsTo (R.take j) k = hdsTo R k
  | 0, _ => rfl
  | k + 1, h => by
    have e : (R.take j).getD k recZ = R.getD k recZ := by
      simp only [List.getD_eq_getElem?_getD, List.getElem?_take]
      rw [if_pos (by omega)]
    unfold hdsTo
    rw [hdsTo_take R j k (by omega), e]
theorem hdsTo_pre (R : List MRec) : ∀ n k, k ≤ n → (hdsTo R n).take (k + 1) = hdsTo R k
  | 0, k, h => by
    obtain rfl : k = 0 := by omega
    rfl
  | n + 1, k, h => by
    by_cases e : k = n + 1
    · subst e
      exact List.take_of_length_le (by rw [hdsTo_len]; omega)
    · have hl := hdsTo_len R n
      rw [hdsTo, List.take_append_of_le_length (by omega)]
      exact hdsTo_pre R n k (by omega)
theorem hdsOf_take (R : List MRec) (k : Nat) (h : k ≤ R.length) : hdsOf (R.take k) = hdsTo R k := by
  unfold hdsOf
  rw [List.length_take, Nat.min_eq_left h, hdsTo_take R k k (Nat.le_refl _)]
theorem hdsTo_getD (R : List MRec) (n k j : Nat) (h : k ≤ n) (hj : j ≤ k) : (hdsTo R n).getD j hdZ = (hdsTo R k).getD j hdZ := by
  rw [← hdsTo_pre R n k h]
  simp only [List.getD_eq_getElem?_getD, List.getElem?_take]
  rw [if_pos (by omega)]
theorem encHs_take (H : List MHead) (k : Nat) : encHs (H.take k) = (encHs H).take k := by unfold encHs; rw [List.map_take]
theorem RecS.cut {w : World} {a : Option Addr} {n cap : Nat} {R : List MRec} (h : RecS w (.slice a n cap) R) (k : Nat) (hk : k ≤ n) : RecS w (.slice a k cap) (R.take k) := by
  obtain ⟨a', n', cap', e, hn, h1, h2, h3⟩ := h
  simp only [Value.slice.injEq] at e
  obtain ⟨rfl, rfl, rfl⟩ := e
  refine ⟨_, _, _, rfl, by rw [List.length_take]; omega, by omega, h2, fun hh => ?_⟩
  obtain ⟨b, o, ea, hb, hc⟩ := h3 (by omega)
  refine ⟨b, o, ea, hb, fun i hi => ?_⟩
  have := hc i (by omega)
  have e : (R.take k).getD i recZ = R.getD i recZ := by
    simp only [List.getD_eq_getElem?_getD, List.getElem?_take]
    rw [if_pos hi]
  rw [e]; exact this
theorem grows_ver (R : List MRec) (k : Nat) (h : k ≤ R.length) : dg.verifyExt (dg.root (encHs (hdsTo R k))) ((k : Int) + 1) (dg.root (encHs (hdsOf R))) ((R.length : Int) + 1) (dg.beg (encHs (hdsOf R)) (k + 1) true) = true := by
  have := ext_accept (encHs (hdsOf R)) (k + 1) (by rw [encHs_len]; unfold hdsOf; rw [hdsTo_len]; omega)
  rw [← encHs_take, show (hdsOf R).take (k + 1) = hdsTo R k from hdsTo_pre R _ k h, encHs_len, show (hdsOf R).length = R.length + 1 from hdsTo_len R _] at this
  have e : extL (encHs (hdsOf R)) (k + 1) = dg.beg (encHs (hdsOf R)) (k + 1) true := if_neg (by omega)
  rw [e] at this
  exact_mod_cast this

theorem sl_none (w : World) : (Instr.sliceAt 32 (.slice none 0 0) none (some (.int .i64 ((0 : Nat) : Int))) none).run Tryd.prog w = .ok (.slice none 0 0) w := by
  simp [Instr.sliceAt, Instr.sureAddr, run_underlying Tryd.underlying32, Instr.sliceBounds, go_sem]
theorem sl_some (g n cap k : Nat) (w : World) (h1 : k ≤ n) (h2 : n ≤ cap) (h3 : cap ≤ 9223372036854775807) : (Instr.sliceAt 32 (.slice (some ⟨g, 0, none⟩) n cap) none (some (.int .i64 (k : Int))) none).run Tryd.prog w = .ok (.slice (some ⟨g, 0, none⟩) k cap) w := by
  have e1 : (k : Int) ≤ (cap : Int) := by omega
  simp [Instr.sliceAt, Instr.sureAddr, run_underlying Tryd.underlying32, Instr.sliceBounds, go_sem, e1]
theorem sl_own {W : World} {a : Option Addr} {n cap : Nat} {Q : List (MRec × Value)} (h : OwnQ W 0 (.slice a n cap) Q) (hn : Q.length = n) (k : Nat) (hk : k ≤ n) (w : World) : (Instr.sliceAt 32 (.slice a n cap) none (some (.int .i64 (k : Int))) none).run Tryd.prog w = .ok (.slice a k cap) w := by
  obtain ⟨a', cap', e, hc1, hc2⟩ := ownsRow_form h
  simp only [Value.slice.injEq] at e
  obtain ⟨rfl, -, rfl⟩ := e
  rcases h.2 with ⟨e, hz⟩ | ⟨g, cap2, cur, e, -⟩
  · simp only [Value.slice.injEq] at e
    obtain ⟨rfl, rfl, rfl⟩ := e
    obtain rfl : k = 0 := by omega
    exact sl_none w
  · simp only [Value.slice.injEq] at e
    obtain ⟨rfl, -, rfl⟩ := e
    exact sl_some g n cap k w hk (by omega) hc2
theorem wpList_slice_to {P : Program} {ops : Array Oper} {rest : List Oper} {o : Oper} {a : Act} {w : World} {Q : Exit → Act → World → Prop} (hg : o.guard = none) (ty : TypeId) (x hi : Operand) (ho : o.op = .slice ty x none (some hi) none) (s h v : Value) (hx : a.eval x = s) (hh : a.eval hi = h)
    (hr : (Instr.sliceAt ty s none (some h) none).run P w = .ok v w) (hk : wpList P ops Q rest (a.put o.dst v) w) : wpList P ops Q (o :: rest) a w :=
  wpList_step fun K hK => by
    rw [if_pos (by simp [Region.wanted, hg])]
    refine wp_value (w' := w) (v := v) ?_ (hK _ _ hk)
    unfold execOp
    rw [ho]
    simp only [Option.map_some, Option.map_none, hx, hh, Sem.run_bind, hr, Result.andThen_ok, Sem.run_pure]

set_option maxRecDepth 100000 in
set_option maxHeartbeats 8000000 in
theorem grows_any (X : List (List Int)) (v : Value) (m : Int) (w : World) (hX : NumSS w v X) (hm : I64 m) (hT : Tab w) :
    Calls Tryd.prog 5 #[v, .int .i64 m] w fun e w' => e = .returned (.bool true) ∧ Below w.heap.size w w' := by
  have HX := Lib.hid hX
  have HT := Lib.hid hT
  have HM := Lib.hid hm
  have HOK := Lib.hid (recs_ok X)
  obtain ⟨R, HR⟩ : ∃ R, Hid (recsOf X = R) := ⟨_, Lib.hid rfl⟩
  rw [HR.out] at HOK
  obtain ⟨n, Hn⟩ : ∃ n, Hid (R.length = n) := ⟨_, Lib.hid rfl⟩
  have hn12 : n ≤ 12 := by rw [← Hn.out]; exact HOK.out.1
  obtain ⟨k, hpk, hkn⟩ : ∃ k : Nat, pk m ((n : Int) + 1) = (k : Int) ∧ k ≤ n := by
    have := pk_range m (n := (n : Int) + 1) (by omega)
    exact ⟨(pk m ((n : Int) + 1)).toNat, by omega, by omega⟩
  have HPk : Hid (∀ W, Calls Tryd.prog 12 #[.int .i64 m, .int .i64 ((n : Int) + 1)] W fun e w' => e = .returned (.int .i64 (k : Int)) ∧ W = w') := Lib.hid fun W => by
    have := pick_any m ((n : Int) + 1) W HM.out (by omega) (by omega)
    rwa [hpk] at this
  have HV := Lib.hid (grows_ver R k (by rw [Hn.out]; exact hkn))
  rw [Hn.out] at HV
  have HEq : Hid (∀ j, j ≤ k → (hdsOf R).getD j hdZ = (hdsTo R k).getD j hdZ) := Lib.hid fun j hj => hdsTo_getD R _ k j (by rw [Hn.out]; exact hkn) hj
  have HLx : Hid ((hdsOf R).length = n + 1) := Lib.hid (by unfold hdsOf; rw [hdsTo_len, Hn.out])
  have HLy : Hid ((hdsTo R k).length = k + 1) := Lib.hid (hdsTo_len R k)
  have HHy : Hid (hdsOf (R.take k) = hdsTo R k) := Lib.hid (hdsOf_take R k (by rw [Hn.out]; exact hkn))
  have HOy : Hid (RsOk (R.take k)) := Lib.hid ⟨by rw [List.length_take]; have := HOK.out.1; omega, fun i hi => by
    rw [List.length_take] at hi
    have e : (R.take k).getD i recZ = R.getD i recZ := by
      simp only [List.getD_eq_getElem?_getD, List.getElem?_take]
      rw [if_pos (by omega)]
    rw [e]
    exact HOK.out.2 i (by omega)⟩
  obtain ⟨rx, Hrx⟩ : ∃ x, Hid (dg.root (encHs (hdsOf R)) = x) := ⟨_, Lib.hid rfl⟩
  obtain ⟨ry, Hry⟩ : ∃ x, Hid (dg.root (encHs (hdsTo R k)) = x) := ⟨_, Lib.hid rfl⟩
  obtain ⟨PP, HPP⟩ : ∃ x, Hid (dg.beg (encHs (hdsOf R)) (k + 1) true = x) := ⟨_, Lib.hid rfl⟩
  have HPs : Hid (Short PP) := Lib.hid (by rw [← HPP.out]; exact short_areD (dg.beg_areD _ _ _))
  have Hrz : Hid (rx.size ≤ maxLen ∧ ry.size ≤ maxLen) := Lib.hid ⟨by rw [← Hrx.out, dg.root_size]; unfold maxLen; omega, by rw [← Hry.out, dg.root_size]; unfold maxLen; omega⟩
  rw [Hrx.out, Hry.out, HPP.out] at HV
  have HSa := Lib.hid (fun W (h : Tab W) => sane_any W h)
  clear hX hT hm hpk
  go_enter Tryd.func5, Tryd.ntmps5
  go_wp2_with fail
  (with_reducible refine (HSa.out _ HT.out).mono ?_)
  rintro e w1 ⟨rfl, hb1⟩
  have HB1 := Lib.hid hb1
  clear hb1
  go_wp2_with fail
  (with_reducible refine (records_any X v _ (HX.out.below HB1.out)).mono ?_)
  rintro e w2 ⟨out, Q, rfl, hr2, hq2, hb2⟩
  rw [HR.out] at hq2
  have HQl : Q.length = n := by rw [← Hn.out, ← hq2, List.length_map]
  have HB2 := Lib.hid (bt HB1.out hb2)
  have HRS2 : Hid (RecS w2 out R) := Lib.hid (by have := hr2.recS; rwa [hq2] at this)
  obtain ⟨xa, cap, rfl, hc1, hc2⟩ := ownsRow_form hr2.oq
  rw [HQl] at HRS2 hc1
  have HSL : Hid (∀ w, (Instr.sliceAt 32 (.slice xa n cap) none (some (.int .i64 (k : Int))) none).run Tryd.prog w = .ok (.slice xa k cap) w) := Lib.hid fun w => sl_own (by have := hr2.oq; rwa [HQl] at this) HQl k hkn w
  have HRy : Hid (RecS w2 (.slice xa k cap) (R.take k)) := Lib.hid (HRS2.out.cut k hkn)
  rw [HQl]
  have hn0 : (n : Int) ≤ 12 := by omega
  have hk0 : (k : Int) ≤ 12 := by omega
  clear hb2 HB1 hq2 hr2 HQl
  go_wp2_with fail
  (with_reducible refine (HPk.out _).mono ?_)
  rintro e wx ⟨rfl, rfl⟩
  go_wp2_with fail
  (with_reducible refine (logged_any R _ _ HRS2.out (HT.out.below HB2.out) HOK.out).mono ?_)
  rintro e w3 ⟨bx, rfl, hl3, hb3⟩
  have HB3 := Lib.hid (bt HB2.out hb3)
  have HLx3 := Lib.hid hl3
  have HRy3 := Lib.hid (HRy.out.below hb3)
  clear hl3 hb3 HB2 HRS2 HRy
  go_wp2_with (refine wpList_slice_to rfl 32 _ _ rfl (.slice xa n cap) (.int .i64 (k : Int)) (.slice xa k cap) rfl rfl (HSL.out _) ?_)
  (with_reducible refine (logged_any _ _ _ HRy3.out (HT.out.below HB3.out) HOy.out).mono ?_)
  rintro e w4 ⟨bY, rfl, hl4, hb4⟩
  rw [HHy.out] at hl4
  have HB4 := Lib.hid (bt HB3.out hb4)
  have HLx4 := Lib.hid (HLx3.out.below hb4)
  have HLy4 := Lib.hid hl4
  clear hl4 hb4 HB3 HLx3 HRy3 HSL
  go_wp2_with fail
  (with_reducible refine (extL_ok HLx4.out (HT.out.below HB4.out) k (by rw [Hn.out]; omega)).mono ?_)
  rintro e w5 ⟨vp, rfl, ho5, hb5⟩
  rw [HPP.out] at ho5
  have HB5 := Lib.hid (bt HB4.out hb5)
  have HLx5 := Lib.hid (HLx4.out.below hb5)
  have HLy5 := Lib.hid (HLy4.out.below hb5)
  have HVp5 := Lib.hid ho5.strs
  clear ho5 hb5 HB4 HLx4 HLy4
  go_wp2_with fail
  (with_reducible refine (rootL_any HLy5.out (HT.out.below HB5.out)).mono ?_)
  rw [Hry.out]
  rintro e w6 ⟨rfl, hb6⟩
  have HB6 := Lib.hid (bt HB5.out hb6)
  have HLx6 := Lib.hid (HLx5.out.below hb6)
  have HLy6 := Lib.hid (HLy5.out.below hb6)
  have HVp6 := Lib.hid (HVp5.out.below hb6)
  clear hb6 HB5 HLx5 HLy5 HVp5
  go_wp2_with fail
  (with_reducible refine (rootL_any HLx6.out (HT.out.below HB6.out)).mono ?_)
  rw [Hrx.out]
  rintro e w7 ⟨rfl, hb7⟩
  have HB7 := Lib.hid (bt HB6.out hb7)
  have HLx7 := Lib.hid (HLx6.out.below hb7)
  have HLy7 := Lib.hid (HLy6.out.below hb7)
  have HVp7 := Lib.hid (HVp6.out.below hb7)
  clear hb7 HB6 HLx6 HLy6 HVp6
  go_wp2_with fail
  (with_reducible refine (verifyExt_c ry ((k : Int) + 1) rx ((n : Int) + 1) vp PP _ (by omega) (by omega) (by omega) (by omega) Hrz.out.2 Hrz.out.1 HVp7.out HPs.out (HT.out.below HB7.out)).mono ?_)
  rw [HV.out]
  rintro e w8 ⟨rfl, hb8⟩
  have HB8 := Lib.hid (bt HB7.out hb8)
  have HLx8 := Lib.hid (HLx7.out.below hb8)
  have HLy8 := Lib.hid (HLy7.out.below hb8)
  have HVp8 := Lib.hid (HVp7.out.below hb8)
  clear hb8 HB7 HLx7 HLy7 HVp7
  clear HVp8
  go_wp2_with fail
  go_loopw [11, 12, 13, 14, 15] (fun i _ _ _ _ wr => ∃ j : Nat, j ≤ k + 1 ∧ i = .int .i64 j ∧ Hid (Below w8.heap.size w8 wr)) (fun i _ _ _ _ _ => k + 1 - (intOf i).toNat)
  case atStart => exact ⟨0, by omega, rfl, Lib.hid (Below.refl _ _)⟩
  case round =>
    obtain ⟨j, hj, rfl, HBr⟩ := hrel
    by_cases h1 : j ≤ k
    · have d1 : decide ((j : Int) ≤ (k : Int)) = true := decide_eq_true (by omega)
      obtain ⟨⟨hp, hc, hs⟩, Hh⟩ : ∃ h, Hid ((hdsTo R k).getD j hdZ = h) := ⟨_, Lib.hid rfl⟩
      have HHx : Hid (∀ W, Below wr.heap.size wr W → Calls Tryd.prog 13 #[.pointer (some ⟨bx, 0, none⟩), .int .i64 (j : Int)] W fun e w' => e = .returned (.tuple #[.agg #[.int .i64 hp, .string hc, .string hs], .bool true]) ∧ Below W.heap.size W w') := Lib.hid fun W hb => by
        have := head_any (HLx8.out.below (bt HBr.out hb)) (j : Int)
        rw [headOut, if_pos ⟨by omega, by rw [HLx.out]; omega⟩, Int.toNat_natCast, HEq.out j h1, Hh.out] at this
        exact this
      have HHy2 : Hid (∀ W, Below wr.heap.size wr W → Calls Tryd.prog 13 #[.pointer (some ⟨bY, 0, none⟩), .int .i64 (j : Int)] W fun e w' => e = .returned (.tuple #[.agg #[.int .i64 hp, .string hc, .string hs], .bool true]) ∧ Below W.heap.size W w') := Lib.hid fun W hb => by
        have := head_any (HLy8.out.below (bt HBr.out hb)) (j : Int)
        rw [headOut, if_pos ⟨by omega, by rw [HLy.out]; omega⟩, Int.toNat_natCast, Hh.out] at this
        exact this
      go_wp2_with fail
      (with_reducible refine (HHx.out _ (Below.refl _ _)).mono ?_)
      rintro e w9 ⟨rfl, hb9⟩
      go_wp2_with fail
      have hy10 := ba w9 (.cells #[.int .i64 hp, .string hc, .string hs] 23)
      have hz10 := heap_alloc_new w9 (.cells #[.int .i64 hp, .string hc, .string hs] 23)
      obtain ⟨w10, Hw10⟩ : ∃ x, Hid (w9.alloc (.cells #[.int .i64 hp, .string hc, .string hs] 23) = x) := ⟨_, Lib.hid rfl⟩
      rw [Hw10.out] at hy10 hz10 ⊢
      have HB10 := Lib.hid (bt hb9 hy10)
      have HC10 := Lib.hid hz10
      clear Hw10 hy10 hz10 hb9
      (with_reducible refine (HHy2.out _ HB10.out).mono ?_)
      rintro e w11 ⟨rfl, hb11⟩
      have HB11 := Lib.hid (bt HB10.out hb11)
      have HC11 := Lib.hid (gone hb11 HC10.out)
      clear hb11 HB10 HC10
      go_upto_region 16 with fail
      have hy12 := ba w11 (.cells #[.int .i64 hp, .string hc, .string hs] 23)
      have hz12 := heap_alloc_new w11 (.cells #[.int .i64 hp, .string hc, .string hs] 23)
      obtain ⟨w12, Hw12⟩ : ∃ x, Hid (w11.alloc (.cells #[.int .i64 hp, .string hc, .string hs] 23) = x) := ⟨_, Lib.hid rfl⟩
      rw [Hw12.out] at hy12 hz12 ⊢
      have HB12 := Lib.hid (bt HB11.out hy12)
      have HC12 := Lib.hid (gone hy12 HC11.out)
      have HD12 := Lib.hid hz12
      clear Hw12 hy12 hz12 HB11 HC11
      have hq := neqHd ⟨hp, hc, hs⟩ ⟨hp, hc, hs⟩
      rw [hdE_t rfl] at hq
      simp only at hq
      go_wp2_with (first | (refine wpList_load_rowW (by rfl) 23 _ rfl w9.heap.size rfl 23 _ _ _ HC12.out Tryd.underlying23 rfl (by kernel_rfl) ?_) | (refine wpList_load_rowW (by rfl) 23 _ rfl w11.heap.size rfl 23 _ _ _ HD12.out Tryd.underlying23 rfl (by kernel_rfl) ?_))
      exact ⟨⟨j + 1, by omega, by go_num, Lib.hid (bt HBr.out HB12.out)⟩, by simp [intOf]; omega⟩
    · have d1 : decide ((j : Int) ≤ (k : Int)) = false := decide_eq_false (by omega)
      go_wp2_with fail
      go_ret
      exact ⟨rfl, bt HB8.out HBr.out⟩
end Go.Proofs.YtpapfegbodolgaaDoor
