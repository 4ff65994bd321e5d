/- WALKS: Encode, EncodeRecord. -/
import Derived.Test.YtgkdliocfnoffaaDoorN5
set_option linter.unusedVariables false
namespace Go.Proofs.YtgkdliocfnoffaaDoor
open Go.RowKit Go.Sort

theorem valid_t (r : MRow) (w : World) (h : VRow r) : Calls Tryd.prog 17 #[rowV r] w fun e w' => e = .returned (.bool true) ∧ Below w.heap.size w w' :=
  (valid_any r.t r.k r.v.a r.v.b r.v.c w).mono fun e w' hw => by
    rw [show vr ⟨r.t, r.k, ⟨r.v.a, r.v.b, r.v.c⟩⟩ = true from decide_eq_true h] at hw; exact hw
theorem valid_f (r : MRow) (w : World) (h : ¬ VRow r) : Calls Tryd.prog 17 #[rowV r] w fun e w' => e = .returned (.bool false) ∧ Below w.heap.size w w' :=
  (valid_any r.t r.k r.v.a r.v.b r.v.c w).mono fun e w' hw => by
    rw [show vr ⟨r.t, r.k, ⟨r.v.a, r.v.b, r.v.c⟩⟩ = false from decide_eq_false h] at hw; exact hw
theorem VRow.fit {r : MRow} (h : VRow r) : ∀ n ∈ tokRow r, Fit n := by
  intro n hn
  simp [tokRow, tok3] at hn
  unfold VRow at h
  unfold Fit
  omega

/-- What Encode hands back. -/
def encRowS (r : MRow) : ByteArray := encStr (tokRow r)

set_option maxRecDepth 100000 in
set_option maxHeartbeats 4000000 in
theorem encodeRow_ok (t k a b c : Int) (w : World) (hv : VRow ⟨t, k, ⟨a, b, c⟩⟩) :
    Calls Tryd.prog 13 #[rowV ⟨t, k, ⟨a, b, c⟩⟩] w fun e w' => e = .returned (.tuple #[.string (encRowS ⟨t, k, ⟨a, b, c⟩⟩), .int .i64 0]) ∧ Below w.heap.size w w' := by
  have HF1 : Hid (∀ n ∈ [t, k], Fit n) := Lib.hid (fun n hn => hv.fit n (by simp [tokRow, tok3] at hn ⊢; omega))
  have HF2 : Hid (∀ n ∈ [a, b, c], Fit n) := Lib.hid (fun n hn => hv.fit n (by simp [tokRow, tok3] at hn ⊢; omega))
  have hs1 := encStr_size [t, k]
  have hs2 := encStr_size [a, b, c]
  simp only [List.length_cons, List.length_nil] at hs1 hs2
  have HV := Lib.hid hv
  have hns : ¬ 9223372036854775807 < (encStr [t, k]).size + (encStr [a, b, c]).size := by omega
  have HE : Hid (encStr [t, k] ++ encStr [a, b, c] = encRowS ⟨t, k, ⟨a, b, c⟩⟩) := Lib.hid (by rw [encStr_app]; rfl)
  clear hv hs1 hs2
  go_enter Tryd.func13, Tryd.ntmps13
  go_wp2_with fail
  (with_reducible refine (valid_t _ _ HV.out).mono ?_)
  rintro e w1 ⟨rfl, hb1⟩
  have hlt1 : w.heap.size < w1.heap.size := by have := hb1.size; simp only [World.size_alloc] at this; omega
  have HK : Hid (∀ w', Below w1.heap.size w1 w' → (fun w' => (w'.cell? ⟨w.heap.size, 0, none⟩ = some (Value.int .i64 t) ∧ w'.cell? ⟨w.heap.size, 1, none⟩ = some (Value.int .i64 k) ∧ w'.cell? ⟨w.heap.size, 2, none⟩ = some (Value.int .i64 a) ∧ w'.cell? ⟨w.heap.size, 3, none⟩ = some (Value.int .i64 b) ∧ w'.cell? ⟨w.heap.size, 4, none⟩ = some (Value.int .i64 c)) ∧ Below w1.heap.size w1 w') w') := Lib.hid (fun w' hw' => by
    obtain ⟨hc1, _⟩ := bcell hb1
    obtain ⟨hc2, _⟩ := bcell hw'
    exact ⟨by simp [go_sem, hc2, hc1, hlt1], hw'⟩)
  have HB1 := Lib.hid (bt (ba w _) hb1)
  clear hb1
  go_wp2_with fail
  go_region_held3 (fun w' => (w'.cell? ⟨w.heap.size, 0, none⟩ = some (Value.int .i64 t) ∧ w'.cell? ⟨w.heap.size, 1, none⟩ = some (Value.int .i64 k) ∧ w'.cell? ⟨w.heap.size, 2, none⟩ = some (Value.int .i64 a) ∧ w'.cell? ⟨w.heap.size, 3, none⟩ = some (Value.int .i64 b) ∧ w'.cell? ⟨w.heap.size, 4, none⟩ = some (Value.int .i64 c)) ∧ Below w1.heap.size w1 w')
    (first | assumption | exact HK.out _ (Below.refl _ _).drew | exact HK.out _ (bt (Below.refl _ _).drew (ba _ _)) | exact HK.out _ (bt (And.right (by assumption)) (by assumption)) | exact HK.out _ (bt (bt (Below.refl _ _).drew (ba _ _)) (by assumption)))
    (first
      | (go_at_call 37; (with_reducible refine (encode_any _ [t, k] _ (IntS.two (by simp) (by simp [go_sem]) (by simp [go_sem])) HF1.out).mono ?_); rintro e w9 ⟨rfl, hb9⟩)
      | (go_at_call 37; (with_reducible refine (encode_any _ [a, b, c] _ (IntS.three (Nat.lt_of_lt_of_le hlt1 (Below.size (And.right (by assumption)))) (by simp [*]) (by simp [*]) (by simp [*])) HF2.out).mono ?_); rintro e w9 ⟨rfl, hb9⟩))
  go_wp2_with fail
  go_ret2
  exact ⟨by rw [← HE.out]; rfl, bt HB1.out (And.right (by assumption))⟩

set_option maxRecDepth 100000 in
set_option maxHeartbeats 1000000 in
theorem encodeRow_bad (t k a b c : Int) (w : World) (hv : ¬ VRow ⟨t, k, ⟨a, b, c⟩⟩) :
    Calls Tryd.prog 13 #[rowV ⟨t, k, ⟨a, b, c⟩⟩] w fun e w' => e = .returned (.tuple #[.string ⟨#[]⟩, .int .i64 30]) ∧ Below w.heap.size w w' := by
  have HV := Lib.hid hv
  clear hv
  go_enter Tryd.func13, Tryd.ntmps13
  go_wp2_with fail
  (with_reducible refine (valid_f _ _ HV.out).mono ?_)
  rintro e w1 ⟨rfl, hb1⟩
  go_wp2_with fail
  go_ret2
  exact ⟨rfl, bt (ba w _) hb1⟩

/-- A valid record's numbers fit. -/
theorem VCh.fit {c : MCh} (h : VCh c) : FitCh c := by
  obtain ⟨t, k, had, ⟨oa, ob, oc⟩, has, ⟨na, nb, nc⟩⟩ := c
  obtain ⟨h1, h2, ⟨h3, h3'⟩, ⟨h4, h4'⟩⟩ := h
  intro n hn
  unfold Fit
  cases had <;> cases has <;> simp [tokCh, tok3, marks, VRow] at * <;> omega
theorem VRec.fit {p : Int} {L : List MCh} (h : VRec p L) : ∀ n ∈ tokRec ⟨p, L⟩, Fit n := by
  obtain ⟨h1, h2, h3⟩ := h
  intro n hn
  simp only [tokRec, List.mem_append, List.mem_cons, List.not_mem_nil, or_false, tokChs, List.mem_flatMap] at hn
  rcases hn with (rfl | rfl) | ⟨c, hc, hn⟩
  · unfold Fit; omega
  · unfold Fit; omega
  · obtain ⟨i, hi, rfl⟩ := List.getElem_of_mem hc
    have := (h3 i hi).1
    rw [List.getD_eq_getElem?_getD, List.getElem?_eq_getElem hi] at this
    exact this.fit n hn

theorem vrecC_t (p : Int) (v : Value) (L : List MCh) (w : World) (hv : ChS w v L) (h : VRec p L) : Calls Tryd.prog 33 #[.agg #[.int .i64 p, v]] w fun e w' => e = .returned (.bool true) ∧ Below w.heap.size w w' :=
  (validRecord_any p v L w hv).mono fun e w' hw => by rw [vrec, decide_eq_true h] at hw; exact hw
theorem vrecC_f (p : Int) (v : Value) (L : List MCh) (w : World) (hv : ChS w v L) (h : ¬ VRec p L) : Calls Tryd.prog 33 #[.agg #[.int .i64 p, v]] w fun e w' => e = .returned (.bool false) ∧ Below w.heap.size w w' :=
  (validRecord_any p v L w hv).mono fun e w' hw => by rw [vrec, decide_eq_false h] at hw; exact hw

def encRecS (p : Int) (L : List MCh) : ByteArray := encStr (tokRec ⟨p, L⟩)
theorem tok_take_succ (L : List MCh) (k : Nat) (h : k < L.length) : tokChs (L.take (k + 1)) = tokChs (L.take k) ++ tokCh (L.getD k chZ) := by
  rw [List.take_succ_eq_append_getElem h, List.getD_eq_getElem?_getD, List.getElem?_eq_getElem h]
  simp only [tokChs, List.flatMap_append, List.flatMap_cons, List.flatMap_nil, List.append_nil, Option.getD_some]
theorem tokCh_len (c : MCh) : (tokCh c).length ≤ 9 := by
  unfold tokCh tok3
  cases c.had <;> cases c.has <;> simp
theorem tokChs_len (L : List MCh) : (tokChs L).length ≤ 9 * L.length := by
  induction L with
  | nil => simp [tokChs]
  | cons c L ih =>
    have := tokCh_len c
    simp only [tokChs, List.flatMap_cons, List.length_append, List.length_cons] at ih ⊢
    omega
theorem strCells_encStr (l : List Int) : Lib.strCells (encStr l) = Lib.byteCells (encs l) := rfl

set_option maxRecDepth 100000 in
set_option maxHeartbeats 1000000 in
theorem encodeRecord_bad (p : Int) (v : Value) (L : List MCh) (w : World) (hs : ChS w v L) (hv : ¬ VRec p L) :
    Calls Tryd.prog 29 #[.agg #[.int .i64 p, v]] w fun e w' => e = .returned (.tuple #[.string ⟨#[]⟩, .int .i64 30]) ∧ Below w.heap.size w w' := by
  have HV := Lib.hid hv
  have HS := Lib.hid hs
  have hvs : ∃ a n c, v = .slice a n c := by obtain ⟨a, n, c, e, _⟩ := hs; exact ⟨a, n, c, e⟩
  obtain ⟨a1, n1, c1, rfl⟩ := hvs
  clear hv hs
  go_enter Tryd.func29, Tryd.ntmps29
  go_wp2_with fail
  (with_reducible refine (vrecC_f _ _ L _ (HS.out.below (ba _ _)) HV.out).mono ?_)
  rintro e w1 ⟨rfl, hb1⟩
  go_wp2_with fail
  go_ret2
  exact ⟨rfl, bt (ba w _) hb1⟩

set_option maxRecDepth 100000 in
set_option maxHeartbeats 4000000 in
theorem encodeRecord_ok (p : Int) (v : Value) (L : List MCh) (w : World) (hs : ChS w v L) (hv : VRec p L) :
    Calls Tryd.prog 29 #[.agg #[.int .i64 p, v]] w fun e w' => e = .returned (.tuple #[.string (encRecS p L), .int .i64 0]) ∧ Below w.heap.size w w' := by
  have HV := Lib.hid hv
  have HS := Lib.hid hs
  have HF1 : Hid (∀ n ∈ [p, (L.length : Int)], Fit n) := Lib.hid (fun n hn => hv.fit n (by simp [tokRec] at hn ⊢; omega))
  have hl8 : L.length ≤ 8 := hv.2.1.2
  obtain ⟨a, n, cap, rfl, hn, h1, h2, hc⟩ := hs
  have HN := Lib.hid hn
  have HC := Lib.hid hc
  have hn8 : n ≤ 8 := by omega
  clear hv hn hc hl8
  rw [← HN.out] at HF1
  go_enter Tryd.func29, Tryd.ntmps29
  go_wp2_with fail
  (with_reducible refine (vrecC_t _ _ L _ (HS.out.below (ba _ _)) HV.out).mono ?_)
  rintro e w1 ⟨rfl, hb1⟩
  have hlt1 : w.heap.size < w1.heap.size := by have := hb1.size; simp only [World.size_alloc] at this; omega
  have hr0 : w1.cell? ⟨w.heap.size, 0, none⟩ = some (.int .i64 p) := by rw [(bcell hb1).1 _ _ (by simp)]; simp [go_sem]
  have hr1 : w1.cell? ⟨w.heap.size, 1, none⟩ = some (.slice a n cap) := by rw [(bcell hb1).1 _ _ (by simp)]; simp [go_sem]
  have HB1 := Lib.hid (bt (ba w _) hb1)
  clear hb1
  go_wp2_with fail
  (with_reducible refine (encode_any _ [p, (n : Int)] _ (IntS.two (by simp) (by simp [go_sem]) (by simp [go_sem])) HF1.out).mono ?_)
  rintro e w2 ⟨rfl, hb2⟩
  have HI2 : Hid (Lib.IsBuilder 74 5 w1.heap.size w1.heap.size (Lib.byteCells (encs [])) w2) := Lib.hid (builder_below (by exact (builder_below (Lib.fresh_isBuilder 74 5 w1) (ba _ _))) hb2)
  have hlt2 : w1.heap.size + 1 < w2.heap.size := by have := hb2.size; simp only [World.size_alloc] at this; omega
  have hr12 : w2.cell? ⟨w.heap.size, 1, none⟩ = some (.slice a n cap) := by
    rw [(bcell hb2).1 _ _ (by simp; omega)]; simp [go_sem, hlt1, hr1]
  have HB12 : Hid (Below w1.heap.size w1 w2) := Lib.hid (bt (bt (ba _ _) (ba _ _)) hb2)
  clear hb2
  have hs1 := encStr_size [p, (n : Int)]
  simp only [List.length_cons, List.length_nil] at hs1
  go_wp2_with fail
  (with_reducible refine (Tryd.Builder_WriteString _ _ _ _ _ HI2.out (by rw [byteCells_len, encs_nil]; simp only [List.length_nil]; omega) (by omega)).mono ?_)
  rintro e w3 ⟨rfl, hI3, hb3⟩
  have HI3 : Hid (Lib.IsBuilder 74 5 w1.heap.size w1.heap.size (Lib.byteCells (encs ([p, (n : Int)] ++ tokChs (L.take 0)))) w3) := Lib.hid (by
    rw [encs_append, byteCells_app]
    exact .inr (by simpa [tokChs, encs_nil, Lib.byteCells, strCells_encStr] using hI3))
  have hlt3 : w1.heap.size < w3.heap.size := by have := hb3.size; omega
  have hr13 : w3.cell? ⟨w.heap.size, 1, none⟩ = some (.slice a n cap) := by
    rw [hb3.cell (p := ⟨w.heap.size, 1, none⟩) hlt1]; exact hr12
  have HB13 : Hid (Below w1.heap.size w1 w3) := Lib.hid (HB12.out.trans hb3)
  clear hI3 hb3 hs1 hr0 hr1 hr12
  go_wp2_with fail
  go_loopw [21, 6] (fun i _ wr => ∃ k : Nat, k ≤ n ∧ i = .int .i64 k ∧ Below w1.heap.size w3 wr ∧ Hid (Lib.IsBuilder 74 5 w1.heap.size w1.heap.size (Lib.byteCells (encs ([p, (n : Int)] ++ tokChs (L.take k)))) wr)) (fun i _ _ => n - (intOf i).toNat)
  case atStart => exact ⟨0, by omega, rfl, Below.refl _ _, HI3⟩
  case round =>
    obtain ⟨k, hk, rfl, HB, HI⟩ := hrel
    have HBw : Hid (Below w.heap.size w wr) := Lib.hid (bt HB1.out (HB13.out.trans HB))
    have hsz : w1.heap.size < wr.heap.size := by have := HB.size; omega
    have HLen : Hid ((encs ([p, (n : Int)] ++ tokChs (L.take k))).length ≤ 9000) := Lib.hid (by
      have h1 := encs_len ([p, (n : Int)] ++ tokChs (L.take k))
      have h2 := tokChs_len (L.take k)
      have h3 : (L.take k).length ≤ k := List.length_take_le _ _
      simp only [List.length_append, List.length_cons, List.length_nil] at h1
      omega)
    by_cases hlt : k < n
    · obtain ⟨b, o, rfl, hb, hx⟩ := HC.out (by omega)
      have HA := (hx k hlt).below hb HBw.out
      clear hx
      have HT := Lib.hid (tok_take_succ L k (by rw [← HN.out]; exact hlt))
      have HFk : Hid (FitCh (L.getD k chZ)) := Lib.hid ((HV.out.2.2 k (by rw [← HN.out]; exact hlt)).1.fit)
      obtain ⟨x, HX⟩ : ∃ x, Hid (L.getD k chZ = x) := ⟨_, Lib.hid rfl⟩
      rw [HX.out] at HA HT HFk
      have HCl := Lib.hid (tokCh_len x)
      obtain ⟨t, kk, had, ⟨oa, ob, oc⟩, has, ⟨na, nb, nc⟩⟩ := x
      obtain ⟨d0, d1, d2, d3, d4, d5, d6, d7, d8, d9⟩ := HA.cells
      go_wp2_with fail
      (with_reducible refine (encodeChange_any _ _ HFk.out).mono ?_)
      rintro e w4 ⟨rfl, hb4⟩
      have HI4 := Lib.hid (builder_below (builder_below HI.out (ba _ _)) hb4)
      have HB4 : Hid (Below w1.heap.size w3 w4) := Lib.hid (HB.trans ((bt (ba _ _) hb4).mono (Nat.le_of_lt hsz)))
      have hsz4 : w1.heap.size ≤ w4.heap.size := Nat.le_trans (Nat.le_of_lt hlt3) HB4.out.size
      clear hb4 d0 d1 d2 d3 d4 d5 d6 d7 d8 d9
      go_wp2_with fail
      (with_reducible refine (Tryd.Builder_WriteString _ _ _ _ _ HI4.out (by rw [byteCells_len]; have := HLen.out; have := encStr_size (tokCh ⟨t, kk, had, ⟨oa, ob, oc⟩, has, ⟨na, nb, nc⟩⟩); have := HCl.out; omega) hsz4).mono ?_)
      rintro e w5 ⟨rfl, hI5, hb5⟩
      have HI5 : Hid (Lib.IsBuilder 74 5 w1.heap.size w1.heap.size (Lib.byteCells (encs ([p, (n : Int)] ++ tokChs (L.take (k + 1))))) w5) := Lib.hid (by
        rw [HT.out, ← List.append_assoc, encs_append, byteCells_app]
        exact .inr (by simpa [strCells_encStr] using hI5))
      have HB5 := Lib.hid (HB4.out.trans hb5)
      clear hI5 hb5
      go_wp2_with fail
      exact ⟨⟨k + 1, by omega, by go_num, HB5.out, HI5⟩, by simp [intOf]; omega⟩
    · have HT : Hid (p :: (n : Int) :: tokChs (L.take k) = tokRec ⟨p, L⟩) := Lib.hid (by
        rw [List.take_of_length_le (by rw [← HN.out]; omega), HN.out]; rfl)
      go_wp2_with fail
      (with_reducible refine (Tryd.Builder_String_any _ _ _ _ HI.out (Nat.le_of_lt hsz)).mono ?_)
      rintro e w6 ⟨rfl, hb6⟩
      go_wp2_with fail
      go_ret2
      exact ⟨by rw [HT.out]; rfl, bt HB1.out ((HB13.out.trans HB).trans hb6)⟩
end Go.Proofs.YtgkdliocfnoffaaDoor
