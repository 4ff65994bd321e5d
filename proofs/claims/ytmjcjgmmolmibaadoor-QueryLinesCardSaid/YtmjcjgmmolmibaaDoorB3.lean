/- WALKS: QueryLines. -/
import Derived.Test.YtmjcjgmmolmibaaDoorB1
import Derived.Deep.QuietTactic
import Derived.BigQuiet
set_option linter.unusedVariables false
set_option linter.unusedSimpArgs false
namespace Go.Proofs.YtmjcjgmmolmibaaDoor
open Go.RowKit

theorem lt_dec {n m : Nat} (h : m ≤ n) : decide ((n : Int) < (m : Int)) = false := decide_eq_false (by omega)
theorem pre_fact {L r : List UInt8} (w ys : List UInt8) (n : Nat) (h : L = w ++ 32 :: r) (hn : n = w.length + 1) (hy : ys = w ++ [32]) : n ≤ (bstr L).size ∧ (((bstr L).extract 0 n).toList == ys) = true ∧ decide (((bstr L).size : Int) < (n : Int)) = false := by
  subst hn hy h
  refine ⟨by rw [bstr_size]; simp, beq_iff_eq.2 ?_, lt_dec (by rw [bstr_size]; simp)⟩
  rw [ByteArray.toList_eq]
  simp [bstr, ByteArray.data_extract, List.extract_eq_take_drop, List.take_append, List.take_of_length_le]
theorem le_dec {n : Nat} (h : n ≤ 42) : decide ((n : Int) ≤ 42) = true := decide_eq_true (by omega)
theorem bstr_at (L : List UInt8) (h : ∀ c ∈ L, c ≠ 10) (i : Nat) (hi : i < (bstr L).size) : ¬ (((bstr L)[i]'hi).toNat : Int) = 10 := by
  have h1 : i < L.length := by rwa [bstr_size] at hi
  have h2 : (bstr L)[i]'hi = L[i] := by simp [bstr, ByteArray.getElem_eq_getElem_data]
  rw [h2]
  intro e
  refine h _ (List.getElem_mem h1) ?_
  apply UInt8.toNat_inj.1
  simp at e ⊢
  omega

abbrev lineWords : Array Value := #[.string ⟨#[]⟩, .string ⟨#[114, 111, 119, 32]⟩, .string ⟨#[114, 111, 119, 115, 32]⟩, .string ⟨#[99, 111, 117, 110, 116, 32]⟩, .string ⟨#[115, 117, 109, 32]⟩, .string ⟨#[109, 105, 110, 32]⟩, .string ⟨#[109, 97, 120, 32]⟩, .string ⟨#[106, 111, 105, 110, 32]⟩]
set_option maxRecDepth 100000 in
set_option maxHeartbeats 4000000 in
theorem lines_walk (a : Addr) (q : MQ) (W : World) (hL : Lw a W) : Calls Tryd.prog 8 #[qV q] W fun e w' => e = .returned (.bool true) ∧ Below W.heap.size W w' := by
  have HL : Hid (∀ w, Below W.heap.size W w → Lw a w) := Lib.hid (fun w h => hL.below h)
  clear hL
  obtain ⟨k, t, c, l, h, b, o⟩ := q
  obtain ⟨W1, HW1⟩ : ∃ W1, Hid (W.alloc (.cells #[.int .i64 k, .int .i64 t, .int .i64 c, .int .i64 l, .int .i64 h, .int .i64 b, .int .i64 o] 23) = W1) := ⟨_, Lib.hid rfl⟩
  have HB1 : Hid (Below W.heap.size W W1) := Lib.hid (by rw [← HW1.out]; exact ba _ _)
  have HQ1 : Hid (QAt W1 W.heap.size ⟨k, t, c, l, h, b, o⟩) := Lib.hid (by rw [← HW1.out]; exact QAt.new W ⟨k, t, c, l, h, b, o⟩)
  have HSa := Lib.hid (sane_any a W1 (HL.out _ HB1.out))
  cases hv : validB ⟨k, t, c, l, h, b, o⟩ with
  | false =>
    have HP := Lib.hid (fun w => print_bad ⟨k, t, c, l, h, b, o⟩ w hv)
    clear hv
    unfold qV at *
    go_enter Tryd.func8, Tryd.ntmps8
    go_wp2_with fail
    rw [HW1.out]
    (with_reducible refine HSa.out.mono ?_)
    rintro e w2 ⟨rfl, hb2⟩
    have HB2 := Lib.hid (bt HB1.out hb2)
    have HQ2 := Lib.hid (HQ1.out.below hb2)
    clear hb2
    obtain ⟨y0, y1, y2, y3, y4, y5, y6⟩ := HQ2.out
    go_wp2_with fail
    refine (HP.out _).mono ?_
    rintro e w3 ⟨rfl, hb3⟩
    have HB3 := Lib.hid (bt HB2.out hb3)
    clear hb3
    go_wp2_with fail
    go_ret
    exact ⟨rfl, HB3.out⟩
  | true =>
    obtain ⟨ho, hk⟩ := valid_ok hv
    obtain ⟨r, hr⟩ := line_head _ hk
    have hlen := line_len hv
    have hnl := line_nl ⟨k, t, c, l, h, b, o⟩
    simp only at hk hr
    have HP := Lib.hid (fun w hb => print_ok a ⟨k, t, c, l, h, b, o⟩ w (HL.out w hb) hv)
    obtain ⟨L, HLe⟩ : ∃ L, Hid (line ⟨k, t, c, l, h, b, o⟩ = L) := ⟨_, Lib.hid rfl⟩
    rw [HLe.out] at HP hr hlen hnl
    obtain ⟨T, HT⟩ : ∃ T, Hid (bstr L = T) := ⟨_, Lib.hid rfl⟩
    rw [HT.out] at HP
    have hTz : T.size ≤ 42 := by rw [← HT.out, bstr_size]; exact hlen
    have HNl : Hid (∀ i (hi : i < T.size), ¬ (T[i].toNat : Int) = 10) := Lib.hid (by rw [← HT.out]; exact bstr_at L hnl)
    have hcase : (k = 1 ∧ 4 ≤ T.size ∧ ((T.extract 0 4).toList == [114, 111, 119, 32]) = true ∧ decide ((T.size : Int) < 4) = false) ∨ (k = 2 ∧ 5 ≤ T.size ∧ ((T.extract 0 5).toList == [114, 111, 119, 115, 32]) = true ∧ decide ((T.size : Int) < 5) = false) ∨ (k = 3 ∧ 6 ≤ T.size ∧ ((T.extract 0 6).toList == [99, 111, 117, 110, 116, 32]) = true ∧ decide ((T.size : Int) < 6) = false) ∨ (k = 4 ∧ 4 ≤ T.size ∧ ((T.extract 0 4).toList == [115, 117, 109, 32]) = true ∧ decide ((T.size : Int) < 4) = false) ∨ (k = 5 ∧ 4 ≤ T.size ∧ ((T.extract 0 4).toList == [109, 105, 110, 32]) = true ∧ decide ((T.size : Int) < 4) = false) ∨ (k = 6 ∧ 4 ≤ T.size ∧ ((T.extract 0 4).toList == [109, 97, 120, 32]) = true ∧ decide ((T.size : Int) < 4) = false) ∨ (k = 7 ∧ 5 ≤ T.size ∧ ((T.extract 0 5).toList == [106, 111, 105, 110, 32]) = true ∧ decide ((T.size : Int) < 5) = false) := by
      rw [← HT.out]
      rcases (by omega : k = 1 ∨ k = 2 ∨ k = 3 ∨ k = 4 ∨ k = 5 ∨ k = 6 ∨ k = 7) with rfl | rfl | rfl | rfl | rfl | rfl | rfl
      · exact .inl ⟨rfl, pre_fact wRow [114, 111, 119, 32] 4 hr rfl rfl⟩
      · exact .inr (.inl ⟨rfl, pre_fact wRows [114, 111, 119, 115, 32] 5 hr rfl rfl⟩)
      · exact .inr (.inr (.inl ⟨rfl, pre_fact wCount [99, 111, 117, 110, 116, 32] 6 hr rfl rfl⟩))
      · exact .inr (.inr (.inr (.inl ⟨rfl, pre_fact wSum [115, 117, 109, 32] 4 hr rfl rfl⟩)))
      · exact .inr (.inr (.inr (.inr (.inl ⟨rfl, pre_fact wMin [109, 105, 110, 32] 4 hr rfl rfl⟩))))
      · exact .inr (.inr (.inr (.inr (.inr (.inl ⟨rfl, pre_fact wMax [109, 97, 120, 32] 4 hr rfl rfl⟩)))))
      · exact .inr (.inr (.inr (.inr (.inr (.inr (⟨rfl, pre_fact wJoin [106, 111, 105, 110, 32] 5 hr rfl rfl⟩))))))
    clear hv ho hk hr hlen hnl HLe
    unfold qV at *
    rcases hcase with ⟨rfl, hz, hse, hd⟩ | ⟨rfl, hz, hse, hd⟩ | ⟨rfl, hz, hse, hd⟩ | ⟨rfl, hz, hse, hd⟩ | ⟨rfl, hz, hse, hd⟩ | ⟨rfl, hz, hse, hd⟩ | ⟨rfl, hz, hse, hd⟩
    all_goals
      go_enter Tryd.func8, Tryd.ntmps8
      go_wp2_with fail
      rw [HW1.out]
      (with_reducible refine HSa.out.mono ?_)
      rintro e w2 ⟨rfl, hb2⟩
      have HB2 := Lib.hid (bt HB1.out hb2)
      have HQ2 := Lib.hid (HQ1.out.below hb2)
      clear hb2
      obtain ⟨y0, y1, y2, y3, y4, y5, y6⟩ := HQ2.out
      go_wp2_with fail
      refine (HP.out _ HB2.out).mono ?_
      rintro e w3 ⟨rfl, hb3⟩
      have HB3 := Lib.hid (bt HB2.out hb3)
      have HQ3 := Lib.hid (HQ2.out.below hb3)
      clear hb3 y0 y1 y2 y3 y4 y5 y6
      obtain ⟨y0, y1, y2, y3, y4, y5, y6⟩ := HQ3.out
      have hlt : W.heap.size < w3.heap.size := World.block_lt_of_cell? w3 _ y0
      have hne : ¬ W.heap.size = w3.heap.size := by omega
      clear y1 y2 y3 y4 y5 y6
      go_wp2_with fail
      go_quiet (fail)
      go_wp2_with fail
      obtain ⟨W4, HW4⟩ : ∃ W4, Hid ((w3.alloc (.cells lineWords 9)).drewN nq = W4) := ⟨_, Lib.hid rfl⟩
      have HB4 : Hid (Below W.heap.size W W4) := Lib.hid (by rw [← HW4.out]; exact below_drewN (bt HB3.out (ba _ _)) _)
      unfold lineWords at HW4
      rw [HW4.out]
      clear y0 hlt hne hd hse
      have hT64 : T.size < 9223372036854775807 := by omega
      go_loopw [7] (fun i wr => ∃ j : Nat, j ≤ T.size ∧ i = .int .i64 j ∧ Below W.heap.size W wr) (fun i _ => T.size - (intOf i).toNat)
      case atStart => exact ⟨0, Nat.zero_le _, rfl, HB4.out⟩
      case round =>
        obtain ⟨j, hj, rfl, hb⟩ := hrel
        have HBr := Lib.hid hb
        clear hb
        by_cases hlt : j < T.size
        · have hbj := HNl.out j hlt
          go_wp2_with fail
          exact ⟨⟨j + 1, hlt, rfl, HBr.out⟩, by simp only [intOf]; omega⟩
        · have hje : j = T.size := by omega
          subst hje
          go_wp2_with fail
          go_ret
          exact ⟨by simp [le_dec hTz], HBr.out⟩
end Go.Proofs.YtmjcjgmmolmibaaDoor
