/- WALKS: the reference: EncodeRecord. -/
import Derived.Test.YtgkdliocfnoffaaDoorH2
import Derived.Test.YtgkdliocfnoffaaDoorB6
set_option linter.unusedVariables false
set_option linter.unusedSimpArgs false
namespace Go.Proofs.YtgkdliocfnoffaaDoor
open Go.RowKit Go.Sort

def recS (p : Int) (n : Nat) (L : List MCh) (k : Nat) : ByteArray := encStr ([p, (n : Int)] ++ tokChs (L.take k))
theorem recS_zero (p : Int) (n : Nat) (L : List MCh) : recS p n L 0 = encStr [p, (n : Int)] := by simp [recS, tokChs]
theorem recS_step (p : Int) (n : Nat) (L : List MCh) (k : Nat) (hk : k < L.length) : recS p n L (k + 1) = recS p n L k ++ encStr (tokCh (L.getD k chZ)) := by
  rw [recS, recS, tok_take_succ L k hk, encStr_app, List.append_assoc]
theorem recS_all (p : Int) (n : Nat) (L : List MCh) (hn : n = L.length) : recS p n L n = encRecS p L := by
  rw [recS, encRecS, List.take_of_length_le (by omega), hn]; rfl
theorem recS_size (p : Int) (n : Nat) (L : List MCh) (k : Nat) (hk : k ≤ 8) : (recS p n L k).size ≤ 700 := by
  have h1 := encStr_size ([p, (n : Int)] ++ tokChs (L.take k))
  have h2 := tokChs_len (L.take k)
  have h3 : (L.take k).length ≤ k := List.length_take_le _ _
  simp only [List.length_append, List.length_cons, List.length_nil] at h1
  rw [recS]; omega
set_option maxRecDepth 100000 in
set_option maxHeartbeats 1000000 in
theorem refEncodeRecord_bad (p : Int) (v : Value) (L : List MCh) (w : World) (hs : ChS w v L) (hv : ¬ VRec p L) :
    Calls Tryd.prog 30 #[.agg #[.int .i64 p, v]] w fun e w' => e = .returned (.tuple #[.string ⟨#[]⟩, .int .i64 30]) ∧ Below w.heap.size w w' := by
  have HS := Lib.hid hs
  have HV : Hid (vrec p L = false) := Lib.hid (decide_eq_false hv)
  obtain ⟨a, n, c, rfl⟩ : ∃ a n c, v = .slice a n c := by obtain ⟨a, n, c, e, _⟩ := hs; exact ⟨a, n, c, e⟩
  clear hs hv
  go_enter Tryd.func30, Tryd.ntmps30
  go_wp2_with fail
  (with_reducible refine (refValidRecord_any p _ L _ (HS.out.below (ba _ _))).mono ?_)
  rintro e w1 ⟨rfl, hb1⟩
  rw [HV.out]
  go_wp2_with fail
  go_ret2
  exact ⟨rfl, bt (ba w _) hb1⟩
set_option maxRecDepth 100000 in
set_option maxHeartbeats 8000000 in
theorem refEncodeRecord_in (p : Int) (n cap : Nat) (L : List MCh) (w : World) (hn : n = L.length) (hv : VRec p L) (b o : Nat) (hs : ChS w (.slice (some ⟨b, o, none⟩) n cap) L) (hb : b < w.heap.size) (hc : ∀ i, i < n → ChAt w b (o + i * 10) (L.getD i chZ)) :
    Calls Tryd.prog 30 #[.agg #[.int .i64 p, .slice (some ⟨b, o, none⟩) n cap]] w fun e w' => e = .returned (.tuple #[.string (encRecS p L), .int .i64 0]) ∧ Below w.heap.size w w' := by
  have HN := Lib.hid hn
  have HC := Lib.hid hc
  have HS := Lib.hid hs
  have HV : Hid (vrec p L = true) := Lib.hid (decide_eq_true hv)
  have HVR := Lib.hid hv
  have hn8 : n ≤ 8 := by rw [hn]; exact hv.2.1.2
  have HF0 : Hid (∀ x ∈ [p, (n : Int)], Fit x) := Lib.hid (fun x hx => by
    have h1 := hv.1
    simp only [List.mem_cons, List.not_mem_nil, or_false] at hx
    rcases hx with rfl | rfl
    · unfold Fit; omega
    · unfold Fit; omega)
  have hs0 := encStr_size [p, (n : Int)]
  simp only [List.length_cons, List.length_nil] at hs0
  clear hn hc hs hv
  go_enter Tryd.func30, Tryd.ntmps30
  have HP0 := Lib.hid (⟨by simp [go_sem], by simp [go_sem]⟩ : (w.alloc (.cells #[.int .i64 p, .slice (some ⟨b, o, none⟩) n cap] 37)).cell? ⟨w.heap.size, 0, none⟩ = some (.int .i64 p) ∧ (w.alloc (.cells #[.int .i64 p, .slice (some ⟨b, o, none⟩) n cap] 37)).cell? ⟨w.heap.size, 1, none⟩ = some (.slice (some ⟨b, o, none⟩) n cap))
  go_wp2_with fail
  (with_reducible refine (refValidRecord_any p _ L _ (HS.out.below (ba _ _))).mono ?_)
  rintro e w1 ⟨rfl, hb1⟩
  rw [HV.out]
  obtain ⟨hc1, hf1⟩ := bcell hb1
  have p0 : w1.cell? ⟨w.heap.size, 0, none⟩ = some (.int .i64 p) := by rw [hc1 _ _ (by simp)]; exact HP0.out.1
  have p1 : w1.cell? ⟨w.heap.size, 1, none⟩ = some (.slice (some ⟨b, o, none⟩) n cap) := by rw [hc1 _ _ (by simp)]; exact HP0.out.2
  clear hc1 hf1
  have hl1 : w.heap.size < w1.heap.size := World.block_lt_of_cell? _ _ p0
  go_wp2_with fail
  (with_reducible refine (refPut_any _ [p, (n : Int)] _ (IntS.two (by simp) (by simp [go_sem]) (by simp [go_sem])) HF0.out).mono ?_)
  rintro e w2 ⟨rfl, hb2⟩
  have hb2' := bt hb1 (bt (ba w1 (.cells #[.int .i64 p, .int .i64 n] 3)) hb2)
  have HB2 : Hid (Below (w.heap.size + 1) (w.alloc (.cells #[.int .i64 p, .slice (some ⟨b, o, none⟩) n cap] 37)) w2) := Lib.hid (by simpa using hb2')
  clear hb1 hb2 hb2' p0 p1
  have HZ := Lib.hid (recS_zero p n L)
  go_wp2_with fail
  go_loopw [4, 5, 6, 7] (fun s i _ _ wr => ∃ k : Nat, k ≤ n ∧ i = .int .i64 k ∧ s = .string (recS p n L k) ∧ Hid (Below (w.heap.size + 1) (w.alloc (.cells #[.int .i64 p, .slice (some ⟨b, o, none⟩) n cap] 37)) wr)) (fun _ i _ _ _ => n - (intOf i).toNat)
  case atStart => exact ⟨0, by omega, rfl, by rw [HZ.out], HB2⟩
  case round =>
    clear HB2
    obtain ⟨k, hk, rfl, rfl, HB⟩ := hrel
    have HB' : Hid (Below (w.alloc (.cells #[.int .i64 p, .slice (some ⟨b, o, none⟩) n cap] 37)).heap.size (w.alloc (.cells #[.int .i64 p, .slice (some ⟨b, o, none⟩) n cap] 37)) wr) := Lib.hid (by simpa using HB.out)
    have hsz : w.heap.size + 1 ≤ wr.heap.size := by have := HB'.out.size; simpa using this
    have Hw0 : Hid (Below w.heap.size w wr) := Lib.hid (bt (ba w _) HB'.out)
    have hr1 : wr.cell? ⟨w.heap.size, 1, none⟩ = some (.slice (some ⟨b, o, none⟩) n cap) := by rw [(bcell HB'.out).1 _ _ (by simp)]; exact HP0.out.2
    by_cases hlt : k < n
    · have HCk := (HC.out k hlt).below hb Hw0.out
      have hkL : k < L.length := by rw [← HN.out]; exact hlt
      have HT := Lib.hid (recS_step p n L k hkL)
      have HVk : Hid (VCh (L.getD k chZ)) := Lib.hid (HVR.out.2.2 k hkL).1
      have HFk : Hid (∀ x ∈ tokCh (L.getD k chZ), Fit x) := Lib.hid (HVk.out.fit)
      have hS := recS_size p n L k (by omega)
      clear hkL
      obtain ⟨S, HSe⟩ : ∃ S, Hid (recS p n L k = S) := ⟨_, Lib.hid rfl⟩
      rw [HSe.out] at HT hS
      rw [HSe.out]
      obtain ⟨c, HcE⟩ : ∃ c, Hid (L.getD k chZ = c) := ⟨_, Lib.hid rfl⟩
      rw [HcE.out] at HCk HVk HFk HT
      obtain ⟨t, kk, had, ⟨oa, ob, oc⟩, has, ⟨na, nb, nc⟩⟩ := c
      obtain ⟨d0, d1, d2, d3, d4, d5, d6, d7, d8, d9⟩ := HCk.cells
      cases had <;> cases has
      · exact absurd HVk.out.1 (by simp)
      · skip
        have HF1 : Hid (∀ x ∈ [t, kk, 2], Fit x) := Lib.hid (fun x hx => HFk.out x (by simp [tokCh, tok3, marks] at hx ⊢; omega))
        have HF3 : Hid (∀ x ∈ [na, nb, nc], Fit x) := Lib.hid (fun x hx => HFk.out x (by simp [tokCh, tok3, marks] at hx ⊢; omega))
        have hs1 := encStr_size [t, kk, 2]
        have hs2 := encStr_size [oa, ob, oc]
        have hs3 := encStr_size [na, nb, nc]
        simp only [List.length_cons, List.length_nil] at hs1 hs2 hs3
        have HEq : Hid ((S ++ encStr [t, kk, 2]) ++ encStr [na, nb, nc] = recS p n L (k + 1)) := Lib.hid (by rw [HT.out]; simp only [ByteArray.append_assoc, encStr_app]; rfl)
        go_wp2_with fail
        (with_reducible refine (refPut_any _ [t, kk, 2] _ (IntS.three (by simp) (by simp [go_sem]) (by simp [go_sem]) (by simp [go_sem])) HF1.out).mono ?_)
        rintro e w5 ⟨rfl, hb5⟩
        have hb5' := bt (ba (wr.alloc (.cells #[.int .i64 t, .int .i64 kk, .bool false, .int .i64 oa, .int .i64 ob, .int .i64 oc, .bool true, .int .i64 na, .int .i64 nb, .int .i64 nc] 42)) (.cells #[.int .i64 t, .int .i64 kk, .int .i64 2] 3)) hb5
        have HC5 := Lib.hid (ChAt.below (ChAt_new wr ⟨t, kk, false, ⟨oa, ob, oc⟩, true, ⟨na, nb, nc⟩⟩) (by simp) hb5')
        have HB5 := Lib.hid (bt (ba wr (.cells #[.int .i64 t, .int .i64 kk, .bool false, .int .i64 oa, .int .i64 ob, .int .i64 oc, .bool true, .int .i64 na, .int .i64 nb, .int .i64 nc] 42)) hb5')
        have hl5 : wr.heap.size < w5.heap.size := by have := hb5'.size; simp only [World.size_alloc] at this; omega
        clear hb5 hb5' d0 d1 d2 d3 d4 d5 d6 d7 d8 d9
        obtain ⟨d0, d1, d2, d3, d4, d5, d6, d7, d8, d9⟩ := HC5.out.cells
        go_wp2_with fail
        (with_reducible refine (refPut_any _ [na, nb, nc] _ (IntS.three (by simp) (by simp [go_sem]) (by simp [go_sem]) (by simp [go_sem])) HF3.out).mono ?_)
        rintro e w7 ⟨rfl, hb7⟩
        have hb7' := bt (ba w5 (.cells #[.int .i64 na, .int .i64 nb, .int .i64 nc] 3)) hb7
        have HB7 := Lib.hid (bt HB5.out hb7')
        clear hb7 hb7' d0 d1 d2 d3 d4 d5 d6 d7 d8 d9
        have HBn := Lib.hid (HB.out.trans (HB7.out.mono hsz))
        go_wp2_with fail
        exact ⟨⟨k + 1, by omega, by go_num, by rw [← HEq.out], HBn⟩, by simp [intOf]; omega⟩
      · skip
        have HF1 : Hid (∀ x ∈ [t, kk, 1], Fit x) := Lib.hid (fun x hx => HFk.out x (by simp [tokCh, tok3, marks] at hx ⊢; omega))
        have HF2 : Hid (∀ x ∈ [oa, ob, oc], Fit x) := Lib.hid (fun x hx => HFk.out x (by simp [tokCh, tok3, marks] at hx ⊢; omega))
        have hs1 := encStr_size [t, kk, 1]
        have hs2 := encStr_size [oa, ob, oc]
        have hs3 := encStr_size [na, nb, nc]
        simp only [List.length_cons, List.length_nil] at hs1 hs2 hs3
        have HEq : Hid ((S ++ encStr [t, kk, 1]) ++ encStr [oa, ob, oc] = recS p n L (k + 1)) := Lib.hid (by rw [HT.out]; simp only [ByteArray.append_assoc, encStr_app]; rfl)
        go_wp2_with fail
        (with_reducible refine (refPut_any _ [t, kk, 1] _ (IntS.three (by simp) (by simp [go_sem]) (by simp [go_sem]) (by simp [go_sem])) HF1.out).mono ?_)
        rintro e w5 ⟨rfl, hb5⟩
        have hb5' := bt (ba (wr.alloc (.cells #[.int .i64 t, .int .i64 kk, .bool true, .int .i64 oa, .int .i64 ob, .int .i64 oc, .bool false, .int .i64 na, .int .i64 nb, .int .i64 nc] 42)) (.cells #[.int .i64 t, .int .i64 kk, .int .i64 1] 3)) hb5
        have HC5 := Lib.hid (ChAt.below (ChAt_new wr ⟨t, kk, true, ⟨oa, ob, oc⟩, false, ⟨na, nb, nc⟩⟩) (by simp) hb5')
        have HB5 := Lib.hid (bt (ba wr (.cells #[.int .i64 t, .int .i64 kk, .bool true, .int .i64 oa, .int .i64 ob, .int .i64 oc, .bool false, .int .i64 na, .int .i64 nb, .int .i64 nc] 42)) hb5')
        have hl5 : wr.heap.size < w5.heap.size := by have := hb5'.size; simp only [World.size_alloc] at this; omega
        clear hb5 hb5' d0 d1 d2 d3 d4 d5 d6 d7 d8 d9
        obtain ⟨d0, d1, d2, d3, d4, d5, d6, d7, d8, d9⟩ := HC5.out.cells
        go_wp2_with fail
        (with_reducible refine (refPut_any _ [oa, ob, oc] _ (IntS.three (by simp) (by simp [go_sem]) (by simp [go_sem]) (by simp [go_sem])) HF2.out).mono ?_)
        rintro e w6 ⟨rfl, hb6⟩
        have hb6' := bt (ba w5 (.cells #[.int .i64 oa, .int .i64 ob, .int .i64 oc] 3)) hb6
        have HC6 := Lib.hid (HC5.out.below hl5 hb6')
        have HB6 := Lib.hid (bt HB5.out hb6')
        have hl6 : wr.heap.size < w6.heap.size := Nat.lt_of_lt_of_le hl5 hb6'.size
        clear hb6 hb6' d0 d1 d2 d3 d4 d5 d6 d7 d8 d9
        obtain ⟨d0, d1, d2, d3, d4, d5, d6, d7, d8, d9⟩ := HC6.out.cells
        have HBn := Lib.hid (HB.out.trans (HB6.out.mono hsz))
        go_wp2_with fail
        exact ⟨⟨k + 1, by omega, by go_num, by rw [← HEq.out], HBn⟩, by simp [intOf]; omega⟩
      · skip
        have HF1 : Hid (∀ x ∈ [t, kk, 3], Fit x) := Lib.hid (fun x hx => HFk.out x (by simp [tokCh, tok3, marks] at hx ⊢; omega))
        have HF2 : Hid (∀ x ∈ [oa, ob, oc], Fit x) := Lib.hid (fun x hx => HFk.out x (by simp [tokCh, tok3, marks] at hx ⊢; omega))
        have HF3 : Hid (∀ x ∈ [na, nb, nc], Fit x) := Lib.hid (fun x hx => HFk.out x (by simp [tokCh, tok3, marks] at hx ⊢; omega))
        have hs1 := encStr_size [t, kk, 3]
        have hs2 := encStr_size [oa, ob, oc]
        have hs3 := encStr_size [na, nb, nc]
        simp only [List.length_cons, List.length_nil] at hs1 hs2 hs3
        have HEq : Hid (((S ++ encStr [t, kk, 3]) ++ encStr [oa, ob, oc]) ++ encStr [na, nb, nc] = recS p n L (k + 1)) := Lib.hid (by rw [HT.out]; simp only [ByteArray.append_assoc, encStr_app]; rfl)
        go_wp2_with fail
        (with_reducible refine (refPut_any _ [t, kk, 3] _ (IntS.three (by simp) (by simp [go_sem]) (by simp [go_sem]) (by simp [go_sem])) HF1.out).mono ?_)
        rintro e w5 ⟨rfl, hb5⟩
        have hb5' := bt (ba (wr.alloc (.cells #[.int .i64 t, .int .i64 kk, .bool true, .int .i64 oa, .int .i64 ob, .int .i64 oc, .bool true, .int .i64 na, .int .i64 nb, .int .i64 nc] 42)) (.cells #[.int .i64 t, .int .i64 kk, .int .i64 3] 3)) hb5
        have HC5 := Lib.hid (ChAt.below (ChAt_new wr ⟨t, kk, true, ⟨oa, ob, oc⟩, true, ⟨na, nb, nc⟩⟩) (by simp) hb5')
        have HB5 := Lib.hid (bt (ba wr (.cells #[.int .i64 t, .int .i64 kk, .bool true, .int .i64 oa, .int .i64 ob, .int .i64 oc, .bool true, .int .i64 na, .int .i64 nb, .int .i64 nc] 42)) hb5')
        have hl5 : wr.heap.size < w5.heap.size := by have := hb5'.size; simp only [World.size_alloc] at this; omega
        clear hb5 hb5' d0 d1 d2 d3 d4 d5 d6 d7 d8 d9
        obtain ⟨d0, d1, d2, d3, d4, d5, d6, d7, d8, d9⟩ := HC5.out.cells
        go_wp2_with fail
        (with_reducible refine (refPut_any _ [oa, ob, oc] _ (IntS.three (by simp) (by simp [go_sem]) (by simp [go_sem]) (by simp [go_sem])) HF2.out).mono ?_)
        rintro e w6 ⟨rfl, hb6⟩
        have hb6' := bt (ba w5 (.cells #[.int .i64 oa, .int .i64 ob, .int .i64 oc] 3)) hb6
        have HC6 := Lib.hid (HC5.out.below hl5 hb6')
        have HB6 := Lib.hid (bt HB5.out hb6')
        have hl6 : wr.heap.size < w6.heap.size := Nat.lt_of_lt_of_le hl5 hb6'.size
        clear hb6 hb6' d0 d1 d2 d3 d4 d5 d6 d7 d8 d9
        obtain ⟨d0, d1, d2, d3, d4, d5, d6, d7, d8, d9⟩ := HC6.out.cells
        go_wp2_with fail
        (with_reducible refine (refPut_any _ [na, nb, nc] _ (IntS.three (by simp) (by simp [go_sem]) (by simp [go_sem]) (by simp [go_sem])) HF3.out).mono ?_)
        rintro e w7 ⟨rfl, hb7⟩
        have hb7' := bt (ba w6 (.cells #[.int .i64 na, .int .i64 nb, .int .i64 nc] 3)) hb7
        have HB7 := Lib.hid (bt HB6.out hb7')
        clear hb7 hb7' d0 d1 d2 d3 d4 d5 d6 d7 d8 d9
        have HBn := Lib.hid (HB.out.trans (HB7.out.mono hsz))
        go_wp2_with fail
        exact ⟨⟨k + 1, by omega, by go_num, by rw [← HEq.out], HBn⟩, by simp [intOf]; omega⟩
    · obtain rfl : k = n := by omega
      have HA := Lib.hid (recS_all p k L HN.out)
      go_wp2_with fail
      go_ret2
      exact ⟨by rw [HA.out]; rfl, Hw0.out⟩
theorem refEncodeRecord_ok (p : Int) (v : Value) (L : List MCh) (w : World) (hv : VRec p L) (hs : ChS w v L) :
    Calls Tryd.prog 30 #[.agg #[.int .i64 p, v]] w fun e w' => e = .returned (.tuple #[.string (encRecS p L), .int .i64 0]) ∧ Below w.heap.size w w' := by
  have hs' := hs
  obtain ⟨a, n, cap, rfl, hn, hc1, hc2, hcell⟩ := hs
  obtain ⟨b, o, rfl, hb, hc⟩ := hcell (by rw [hn]; exact hv.2.1.1)
  exact refEncodeRecord_in p n cap L w hn hv b o hs' hb hc
end Go.Proofs.YtgkdliocfnoffaaDoor
