/- WALKS: encode, encodeChange, Encode, EncodeRecord. -/
import Derived.Test.YtgkdliocfnoffaaDoorN4
import Derived.Test.YtgkdliocfnoffaaDoorShelf
set_option linter.unusedVariables false set_option linter.unusedSimpArgs false
namespace Go.Proofs.YtgkdliocfnoffaaDoor
open Go.RowKit Go.Sort

theorem ownsRow_below {w w' : World} {base : Nat} {e : TypeId} {size : Nat} {v : Value} {n : Nat} {xs : List Value} (h : w.ownsRow base e size v n xs) (hb : Below w.heap.size w w') : w'.ownsRow base e size v n xs := by
  obtain ⟨h1, h2⟩ := h
  refine ⟨h1, ?_⟩
  rcases h2 with h2 | ⟨g, cap, cur, e1, e2, e3, e4⟩
  · exact .inl h2
  · exact .inr ⟨g, cap, cur, e1, e2, (hb.block g (Array.getElem?_eq_some_iff.1 e3).1).trans e3, e4⟩
theorem builder_below {w w' : World} {T e : TypeId} {B b : Nat} {bs : List Value} (h : Lib.IsBuilder T e B b bs w) (hb : Below w.heap.size w w') : Lib.IsBuilder T e B b bs w' := by
  rcases h with ⟨h1, v, h2, h3, h4⟩ | ⟨h1, v, h2, h3, h4⟩
  · exact .inl ⟨h1, v, (hb.block b (Array.getElem?_eq_some_iff.1 h2).1).trans h2, ownsRow_below h3 hb, h4⟩
  · exact .inr ⟨h1, v, (hb.block b (Array.getElem?_eq_some_iff.1 h2).1).trans h2, ownsRow_below h3 hb, h4⟩

/-- A slice that reads as a list of ints. -/
def IntS (w : World) (v : Value) (l : List Int) : Prop :=
  ∃ a n cap, v = .slice a n cap ∧ n = l.length ∧ n ≤ 1000 ∧ (1 ≤ n → ∃ b o, a = some ⟨b, o, none⟩ ∧ b < w.heap.size ∧ ∀ i, i < n → w.cell? ⟨b, o + i, none⟩ = some (.int .i64 (l.getD i 0)))
theorem IntS.below {w w1 : World} {v : Value} {l : List Int} (h : IntS w v l) (k : Below w.heap.size w w1) : IntS w1 v l := by
  obtain ⟨a, n, cap, e, hn, h1, h3⟩ := h
  refine ⟨a, n, cap, e, hn, h1, fun h => ?_⟩
  obtain ⟨b, o, e, hb, hc⟩ := h3 h
  exact ⟨b, o, e, Nat.lt_of_lt_of_le hb k.size, fun i hi => by rw [(bcell k).1 b _ hb]; exact hc i hi⟩

theorem putInt_fit (x : Int) (w : World) (h : Fit x) : Calls Tryd.prog 56 #[.int .i64 x] w fun e W' => e = .returned (.tuple #[.string (encI x), .int .i64 0]) ∧ Below w.heap.size w W' := putInt_enc x w h.1 h.2
def encStr (l : List Int) : ByteArray := ⟨(encs l).toArray⟩
theorem encs_take_succ (l : List Int) (k : Nat) (h : k < l.length) : encs (l.take (k + 1)) = encs (l.take k) ++ encInt (l.getD k 0) := by
  rw [List.take_succ_eq_append_getElem h, encs_append]
  simp [encs, List.getD_eq_getElem?_getD, h]
theorem byteCells_app (a b : List UInt8) : Lib.byteCells (a ++ b) = Lib.byteCells a ++ Lib.byteCells b := by simp [Lib.byteCells]
theorem strCells_enc (n : Int) : Lib.strCells (encI n) = Lib.byteCells (encInt n) := rfl
theorem byteCells_len (a : List UInt8) : (Lib.byteCells a).length = a.length := by simp [Lib.byteCells]

set_option maxRecDepth 100000 in
set_option maxHeartbeats 2000000 in
theorem encode_any (v : Value) (l : List Int) (w : World) (hv : IntS w v l) (hf : ∀ n ∈ l, Fit n) :
    Calls Tryd.prog 37 #[v] w fun e w' => e = .returned (.string (encStr l)) ∧ Below w.heap.size w w' := by
  obtain ⟨a, n, cap, rfl, hn, h1, hc⟩ := hv
  have HN := Lib.hid hn
  have HC := Lib.hid hc
  have HF := Lib.hid hf
  clear hn hc hf
  go_enter Tryd.func37, Tryd.ntmps37
  go_wp2_with fail
  go_loopw [10, 5, 6, 7] (fun i _ _ _ wr => ∃ k : Nat, k ≤ n ∧ i = .int .i64 k ∧ Below w.heap.size w wr ∧ Hid (Lib.IsBuilder 74 5 w.heap.size w.heap.size (Lib.byteCells (encs (l.take k))) wr)) (fun i _ _ _ _ => n - (intOf i).toNat)
  case atStart => exact ⟨0, by omega, rfl, ba _ _, Lib.hid (Lib.fresh_isBuilder 74 5 w)⟩
  case round =>
    obtain ⟨k, hk, rfl, HB, HI⟩ := hrel
    by_cases hlt : k < n
    · obtain ⟨b, o, rfl, hb, hx⟩ := HC.out (by omega)
      have hcell : wr.cell? ⟨b, o + k, none⟩ = some (.int .i64 (l.getD k 0)) := by rw [(bcell HB).1 b _ hb]; exact hx k hlt
      have HT := Lib.hid (encs_take_succ l k (by rw [← HN.out]; exact hlt))
      have HFk : Hid (Fit (l.getD k 0)) := Lib.hid (HF.out _ (by
        have : k < l.length := by rw [← HN.out]; exact hlt
        rw [List.getD_eq_getElem?_getD, List.getElem?_eq_getElem this]
        exact List.getElem_mem _))
      have HLen : Hid ((encs (l.take k)).length ≤ 9000) := Lib.hid (by
        have := encs_len (l.take k)
        have : (l.take k).length ≤ k := List.length_take_le _ _
        omega)
      clear hx
      obtain ⟨x, HX⟩ : ∃ x, Hid (l.getD k 0 = x) := ⟨_, Lib.hid rfl⟩
      rw [HX.out] at hcell HT HFk
      go_wp2_with fail
      (with_reducible refine (putInt_fit x _ HFk.out).mono ?_)
      rintro e w1 ⟨rfl, hb1⟩
      have HI1 := Lib.hid (builder_below HI.out hb1)
      go_wp2_with fail
      (with_reducible refine (Tryd.Builder_WriteString _ _ _ _ _ HI1.out (by rw [byteCells_len]; have := HLen.out; have := encI_size_le x; omega) (Nat.le_trans HB.size hb1.size)).mono ?_)
      rintro e w2 ⟨rfl, hI2, hb2⟩
      have HI2 : Hid (Lib.IsBuilder 74 5 w.heap.size w.heap.size (Lib.byteCells (encs (l.take (k + 1)))) w2) := Lib.hid (by rw [HT.out, byteCells_app, ← strCells_enc]; exact .inr hI2)
      clear hI2
      go_wp2_with fail
      exact ⟨⟨k + 1, by omega, by go_num, (bt HB hb1).trans hb2, HI2⟩, by simp [intOf]; omega⟩
    · have HT : Hid (l.take k = l) := Lib.hid (List.take_of_length_le (by rw [← HN.out]; omega))
      go_wp2_with fail
      (with_reducible refine (Tryd.Builder_String_any _ _ _ _ HI.out HB.size).mono ?_)
      rintro e w1 ⟨rfl, hb1⟩
      go_wp2_with fail
      go_ret
      exact ⟨by rw [HT.out]; rfl, HB.trans hb1⟩

theorem encStr_app (a b : List Int) : encStr a ++ encStr b = encStr (a ++ b) := by
  apply ext_list
  rw [app_list]
  simp [encStr, encs_append]
theorem encStr_nil (s : ByteArray) : (⟨#[]⟩ : ByteArray) ++ s = s := by
  apply ext_list
  rw [app_list]
  simp
theorem encStr_nil_r (s : ByteArray) : s ++ (⟨#[]⟩ : ByteArray) = s := by
  apply ext_list
  rw [app_list]
  simp
theorem encStr_size (l : List Int) : (encStr l).size ≤ 9 * l.length := by
  have := encs_len l
  simpa [encStr, ByteArray.size] using this
/-- Three cells in a row are a list of three. -/
theorem IntS.three {w : World} {b o cap : Nat} {x y z : Int} (hb : b < w.heap.size) (h0 : w.cell? ⟨b, o, none⟩ = some (.int .i64 x)) (h1 : w.cell? ⟨b, o + 1, none⟩ = some (.int .i64 y)) (h2 : w.cell? ⟨b, o + 2, none⟩ = some (.int .i64 z)) :
    IntS w (.slice (some ⟨b, o, none⟩) 3 cap) [x, y, z] :=
  ⟨_, 3, cap, rfl, rfl, by omega, fun _ => ⟨b, o, rfl, hb, fun i hi => by
    match i, hi with
    | 0, _ => exact h0
    | 1, _ => exact h1
    | 2, _ => exact h2⟩⟩
theorem IntS.two {w : World} {b o cap : Nat} {x y : Int} (hb : b < w.heap.size) (h0 : w.cell? ⟨b, o, none⟩ = some (.int .i64 x)) (h1 : w.cell? ⟨b, o + 1, none⟩ = some (.int .i64 y)) :
    IntS w (.slice (some ⟨b, o, none⟩) 2 cap) [x, y] :=
  ⟨_, 2, cap, rfl, rfl, by omega, fun _ => ⟨b, o, rfl, hb, fun i hi => by
    match i, hi with
    | 0, _ => exact h0
    | 1, _ => exact h1⟩⟩

/-- A change fits the encoding. -/
def FitCh (c : MCh) : Prop := ∀ n ∈ tokCh c, Fit n
set_option maxRecDepth 100000 in
set_option maxHeartbeats 4000000 in
theorem encodeChange_any (c : MCh) (w : World) (hf : FitCh c) :
    Calls Tryd.prog 49 #[chV c] w fun e w' => e = .returned (.string (encStr (tokCh c))) ∧ Below w.heap.size w w' := by
  obtain ⟨t, k, had, ⟨oa, ob, oc⟩, has, ⟨na, nb, nc⟩⟩ := c
  cases had <;> cases has
  · have HF1 : Hid (∀ n ∈ [t, k, 0], Fit n) := Lib.hid (fun n hn => hf n (by simp [tokCh, tok3, marks] at hn ⊢; omega))
    have hs1 := encStr_size [t, k, 0]
    simp only [List.length_cons, List.length_nil] at hs1
    clear hf
    go_enter Tryd.func49, Tryd.ntmps49
    go_wp2_with fail
    (with_reducible refine (encode_any _ [t, k, 0] _ (IntS.three (by simp) (by simp [go_sem]) (by simp [go_sem]) (by simp [go_sem])) HF1.out).mono ?_)
    rintro e w3 ⟨rfl, hb3⟩
    go_wp2_with fail
    go_ret
    exact ⟨by simp only [encStr_nil, encStr_nil_r, encStr_app, ByteArray.append_assoc]; rfl, bt (bt (ba w _) (ba _ _)) hb3⟩
  · have HF1 : Hid (∀ n ∈ [t, k, 2], Fit n) := Lib.hid (fun n hn => hf n (by simp [tokCh, tok3, marks] at hn ⊢; omega))
    have HF3 : Hid (∀ n ∈ [na, nb, nc], Fit n) := Lib.hid (fun n hn => hf n (by simp [tokCh, tok3, marks] at hn ⊢; omega))
    have hs3 := encStr_size [na, nb, nc]
    have hs1 := encStr_size [t, k, 2]
    simp only [List.length_cons, List.length_nil] at hs3 hs1
    clear hf
    go_enter Tryd.func49, Tryd.ntmps49
    go_wp2_with fail
    (with_reducible refine (encode_any _ [na, nb, nc] _ (IntS.three (by simp) (by simp [go_sem]) (by simp [go_sem]) (by simp [go_sem])) HF3.out).mono ?_)
    rintro e w1 ⟨rfl, hb1⟩
    obtain ⟨hc1, hf1⟩ := bcell hb1
    go_wp2_with fail
    (with_reducible refine (encode_any _ [t, k, 2] _ (IntS.three (by simp) (by simp [go_sem]) (by simp [go_sem]) (by simp [go_sem])) HF1.out).mono ?_)
    rintro e w3 ⟨rfl, hb3⟩
    go_wp2_with fail
    go_ret
    exact ⟨by simp only [encStr_nil, encStr_nil_r, encStr_app, ByteArray.append_assoc]; rfl, bt (bt (bt (ba w _) hb1) (ba _ _)) hb3⟩
  · have HF1 : Hid (∀ n ∈ [t, k, 1], Fit n) := Lib.hid (fun n hn => hf n (by simp [tokCh, tok3, marks] at hn ⊢; omega))
    have HF2 : Hid (∀ n ∈ [oa, ob, oc], Fit n) := Lib.hid (fun n hn => hf n (by simp [tokCh, tok3, marks] at hn ⊢; omega))
    have hs2 := encStr_size [oa, ob, oc]
    have hs1 := encStr_size [t, k, 1]
    simp only [List.length_cons, List.length_nil] at hs2 hs1
    clear hf
    go_enter Tryd.func49, Tryd.ntmps49
    go_wp2_with fail
    (with_reducible refine (encode_any _ [oa, ob, oc] _ (IntS.three (by simp) (by simp [go_sem]) (by simp [go_sem]) (by simp [go_sem])) HF2.out).mono ?_)
    rintro e w1 ⟨rfl, hb1⟩
    obtain ⟨hc1, hf1⟩ := bcell hb1
    go_wp2_with fail
    (with_reducible refine (encode_any _ [t, k, 1] _ (IntS.three (by simp) (by simp [go_sem]) (by simp [go_sem]) (by simp [go_sem])) HF1.out).mono ?_)
    rintro e w3 ⟨rfl, hb3⟩
    go_wp2_with fail
    go_ret
    exact ⟨by simp only [encStr_nil, encStr_nil_r, encStr_app, ByteArray.append_assoc]; rfl, bt (bt (bt (ba w _) hb1) (ba _ _)) hb3⟩
  · have HF1 : Hid (∀ n ∈ [t, k, 3], Fit n) := Lib.hid (fun n hn => hf n (by simp [tokCh, tok3, marks] at hn ⊢; omega))
    have HF2 : Hid (∀ n ∈ [oa, ob, oc], Fit n) := Lib.hid (fun n hn => hf n (by simp [tokCh, tok3, marks] at hn ⊢; omega))
    have hs2 := encStr_size [oa, ob, oc]
    have HF3 : Hid (∀ n ∈ [na, nb, nc], Fit n) := Lib.hid (fun n hn => hf n (by simp [tokCh, tok3, marks] at hn ⊢; omega))
    have hs3 := encStr_size [na, nb, nc]
    have hs1 := encStr_size [t, k, 3]
    simp only [List.length_cons, List.length_nil] at hs2 hs3 hs1
    clear hf
    go_enter Tryd.func49, Tryd.ntmps49
    go_wp2_with fail
    (with_reducible refine (encode_any _ [oa, ob, oc] _ (IntS.three (by simp) (by simp [go_sem]) (by simp [go_sem]) (by simp [go_sem])) HF2.out).mono ?_)
    rintro e w1 ⟨rfl, hb1⟩
    obtain ⟨hc1, hf1⟩ := bcell hb1
    go_wp2_with fail
    (with_reducible refine (encode_any _ [na, nb, nc] _ (IntS.three (Nat.lt_of_lt_of_le (by simp) hb1.size) (by simp [go_sem, hc1]) (by simp [go_sem, hc1]) (by simp [go_sem, hc1])) HF3.out).mono ?_)
    rintro e w2 ⟨rfl, hb2⟩
    obtain ⟨hc2, hf2⟩ := bcell hb2
    have hlt2 : w.heap.size < w1.heap.size := by have := hb1.size; simp only [World.size_alloc] at this; omega
    go_wp2_with fail
    (with_reducible refine (encode_any _ [t, k, 3] _ (IntS.three (by simp) (by simp [go_sem]) (by simp [go_sem]) (by simp [go_sem])) HF1.out).mono ?_)
    rintro e w3 ⟨rfl, hb3⟩
    go_wp2_with fail
    go_ret
    exact ⟨by simp only [encStr_nil, encStr_nil_r, encStr_app, ByteArray.append_assoc]; rfl, bt (bt (bt (bt (ba w _) hb1) hb2) (ba _ _)) hb3⟩
end Go.Proofs.YtgkdliocfnoffaaDoor
