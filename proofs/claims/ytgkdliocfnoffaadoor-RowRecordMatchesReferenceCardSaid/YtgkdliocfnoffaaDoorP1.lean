/- WHAT THE LAWS SAY, in plain numbers: encodings and decodings. -/
import Derived.Test.YtgkdliocfnoffaaDoorQ4
set_option linter.unusedVariables false
namespace Go.Proofs.YtgkdliocfnoffaaDoor

def rowZ : MRow := ⟨0, 0, V3.zero⟩
theorem encStr_list (l : List Int) : (encStr l).data.toList = encs l := rfl
theorem encStr_len (l : List Int) : (encStr l).size = (encs l).length := by simp [encStr, ByteArray.size]
theorem bytes_ext {s t : ByteArray} (h : s.data.toList = t.data.toList) : s = t := by
  obtain ⟨⟨a⟩⟩ := s; obtain ⟨⟨b⟩⟩ := t; simp at h; rw [h]

theorem bsz (s : ByteArray) : s.data.toList.length = s.size := by obtain ⟨⟨l⟩⟩ := s; rfl
/-- Rows. -/
theorem decRow_enc {r : MRow} (h : VRow r) : decRow (encRowS r) = (r, 0) := by
  have := run_full (encRowS r).data.toList rdRow (tokRow r) 0 r [] (feed_rdRow r) h.fit (by rw [encRowS, encStr_list]; simp)
  have hz : (encRowS r).size = (encs (tokRow r)).length := encStr_len _
  unfold decRow
  rw [this]
  simp [hz, h]
theorem decRow_sound {s : ByteArray} {r : MRow} (h : decRow s = (r, 0)) : VRow r ∧ s = encRowS r := by
  unfold decRow at h
  cases hr : rdRow.run s.data.toList 0 with
  | error b => rw [hr] at h; cases b <;> simp at h
  | ok q =>
    obtain ⟨r', k⟩ := q
    rw [hr] at h
    by_cases hk : k = s.size
    · by_cases hv : VRow r'
      · simp only [hk, hv, if_true, Prod.mk.injEq] at h
        obtain ⟨rfl, _⟩ := h
        obtain ⟨toks, h1, h2, h3, h4, h5⟩ := run_sound s.data.toList rdRow 0 k r' (by omega) hr
        obtain rfl := feed_rdRow_inv h1
        refine ⟨hv, bytes_ext ?_⟩
        rw [encRowS, encStr_list]
        rw [List.drop_zero, List.drop_of_length_le (l := s.data.toList) (i := k) (by rw [hk, bsz]; exact Nat.le_refl _), List.append_nil] at h3
        exact h3
      · simp [hk, hv] at h
    · simp [hk] at h
theorem decRow_no {s : ByteArray} {r : MRow} {c : Int} (h : decRow s = (r, c)) (hc : c ≠ 0) : r = rowZ ∧ (c = 10 ∨ c = 30) := by
  unfold decRow at h
  cases hr : rdRow.run s.data.toList 0 with
  | error b => rw [hr] at h; cases b <;> simp at h <;> exact ⟨h.1.symm, by omega⟩
  | ok q =>
    obtain ⟨r', k⟩ := q
    rw [hr] at h
    simp only at h
    split at h
    · split at h
      · simp at h; omega
      · simp at h; exact ⟨h.1.symm, by omega⟩
    · simp at h; exact ⟨h.1.symm, by omega⟩
theorem encRowS_inj {a b : MRow} (ha : VRow a) (hb : VRow b) (h : encRowS a = encRowS b) : a = b := by
  have h1 := decRow_enc ha
  rw [h, decRow_enc hb] at h1
  exact (Prod.mk.inj h1).1.symm

/-- Records. -/
theorem VCh.shaped {c : MCh} (h : VCh c) : c.shaped := ⟨h.1, fun hh => h.2.2.1.2 hh, fun hh => h.2.2.2.2 hh⟩
theorem VRec.shaped {p : Int} {L : List MCh} (h : VRec p L) : ∀ c ∈ L, c.shaped := fun c hc => by
  obtain ⟨i, hi, rfl⟩ := List.getElem_of_mem hc
  have := (h.2.2 i hi).1
  rw [List.getD_eq_getElem?_getD, List.getElem?_eq_getElem hi] at this
  exact this.shaped
theorem decRec_enc {p : Int} {L : List MCh} (h : VRec p L) : decRec (encRecS p L) = (⟨p, L⟩, 0) := by
  have := run_full (encRecS p L).data.toList rdRec (tokRec ⟨p, L⟩) 0 ⟨p, L⟩ [] (feed_rdRec ⟨p, L⟩ h.shaped h.2.1.1 h.2.1.2) h.fit (by rw [encRecS, encStr_list]; simp)
  have hz : (encRecS p L).size = (encs (tokRec ⟨p, L⟩)).length := encStr_len _
  unfold decRec
  rw [this]
  simp [hz, h]
theorem decRec_sound {s : ByteArray} {x : MRec} (h : decRec s = (x, 0)) : VRec x.pos x.chs ∧ s = encRecS x.pos x.chs := by
  unfold decRec at h
  cases hr : rdRec.run s.data.toList 0 with
  | error b => rw [hr] at h; cases b <;> simp at h
  | ok q =>
    obtain ⟨r', k⟩ := q
    rw [hr] at h
    by_cases hk : k = s.size
    · by_cases hv : VRec r'.pos r'.chs
      · simp only [hk, hv, if_true, Prod.mk.injEq] at h
        obtain ⟨rfl, _⟩ := h
        obtain ⟨toks, h1, h2, h3, h4, h5⟩ := run_sound s.data.toList rdRec 0 k r' (by omega) hr
        obtain ⟨rfl, _⟩ := feed_rdRec_inv h1
        refine ⟨hv, bytes_ext ?_⟩
        rw [encRecS, encStr_list]
        rw [List.drop_zero, List.drop_of_length_le (l := s.data.toList) (i := k) (by rw [hk, bsz]; exact Nat.le_refl _), List.append_nil] at h3
        exact h3
      · simp [hk, hv] at h
    · simp [hk] at h
theorem decRec_no {s : ByteArray} {x : MRec} {c : Int} (h : decRec s = (x, c)) (hc : c ≠ 0) : x = recZ ∧ (c = 10 ∨ c = 30) := by
  unfold decRec at h
  cases hr : rdRec.run s.data.toList 0 with
  | error b => rw [hr] at h; cases b <;> simp at h <;> exact ⟨h.1.symm, by omega⟩
  | ok q =>
    obtain ⟨r', k⟩ := q
    rw [hr] at h
    simp only at h
    split at h
    · split at h
      · simp at h; omega
      · simp at h; exact ⟨h.1.symm, by omega⟩
    · simp at h; exact ⟨h.1.symm, by omega⟩
theorem encRecS_inj {p q : Int} {L M : List MCh} (ha : VRec p L) (hb : VRec q M) (h : encRecS p L = encRecS q M) : p = q ∧ L = M := by
  have h1 := decRec_enc ha
  rw [h, decRec_enc hb] at h1
  have := (Prod.mk.inj h1).1
  simp at this
  exact ⟨this.1.symm, this.2.symm⟩

/-- What is cut off, and what is too long. -/
theorem dec_cut_row {r : MRow} (h : VRow r) {s : ByteArray} {j : Nat} (hj : j < (encRowS r).size) (hs : s.data.toList = (encRowS r).data.toList.take j) : decRow s = (rowZ, 10) := by
  rw [encRowS, encStr_list] at hs
  rw [encRowS, encStr_len] at hj
  have := run_cut s.data.toList rdRow (tokRow r) 0 j r (feed_rdRow r) h.fit hj (by simpa using hs)
  simp [decRow, this, rowZ]
theorem dec_cut_rec {p : Int} {L : List MCh} (h : VRec p L) {s : ByteArray} {j : Nat} (hj : j < (encRecS p L).size) (hs : s.data.toList = (encRecS p L).data.toList.take j) : decRec s = (recZ, 10) := by
  rw [encRecS, encStr_list] at hs
  rw [encRecS, encStr_len] at hj
  have := run_cut s.data.toList rdRec (tokRec ⟨p, L⟩) 0 j ⟨p, L⟩ (feed_rdRec ⟨p, L⟩ h.shaped h.2.1.1 h.2.1.2) h.fit hj (by simpa using hs)
  simp [decRec, this]
theorem dec_long_row {r : MRow} (h : VRow r) {s : ByteArray} {more : List UInt8} (hm : more ≠ []) (hs : s.data.toList = (encRowS r).data.toList ++ more) : decRow s = (rowZ, 10) := by
  rw [encRowS, encStr_list] at hs
  have this0 := run_full s.data.toList rdRow (tokRow r) 0 r more (feed_rdRow r) h.fit (by simpa using hs)
  have hl : s.size = (encs (tokRow r)).length + more.length := by rw [← bsz s, hs, List.length_append]
  have : 0 < more.length := List.length_pos_iff.2 hm
  unfold decRow
  rw [this0]
  simp only [Nat.zero_add]
  rw [if_neg (by omega)]
  rfl
theorem dec_long_rec {p : Int} {L : List MCh} (h : VRec p L) {s : ByteArray} {more : List UInt8} (hm : more ≠ []) (hs : s.data.toList = (encRecS p L).data.toList ++ more) : decRec s = (recZ, 10) := by
  rw [encRecS, encStr_list] at hs
  have this0 := run_full s.data.toList rdRec (tokRec ⟨p, L⟩) 0 ⟨p, L⟩ more (feed_rdRec ⟨p, L⟩ h.shaped h.2.1.1 h.2.1.2) h.fit (by simpa using hs)
  have hl : s.size = (encs (tokRec ⟨p, L⟩)).length + more.length := by rw [← bsz s, hs, List.length_append]
  have : 0 < more.length := List.length_pos_iff.2 hm
  unfold decRec
  rw [this0]
  simp only [Nat.zero_add]
  rw [if_neg (by omega)]
end Go.Proofs.YtgkdliocfnoffaaDoor
