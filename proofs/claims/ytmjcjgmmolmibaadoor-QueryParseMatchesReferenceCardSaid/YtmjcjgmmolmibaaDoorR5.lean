/- WALKS: the reference's words. -/
import Derived.Test.YtmjcjgmmolmibaaDoorW6
set_option linter.unusedVariables false
set_option linter.unusedSimpArgs false
namespace Go.Proofs.YtmjcjgmmolmibaaDoor
open Go.RowKit

/-- What the loop over the bytes has come to. -/
def WSt (L : List UInt8) (m k : Nat) (ws : List (List UInt8)) : Prop :=
  ws.length ≤ m ∧ ((m ≤ L.length ∧ k ≤ m ∧ spl L = ws ++ spl (L.drop k) ∧ ∀ j, k ≤ j → j < m → L[j]? ≠ some 32) ∨ (m = L.length + 1 ∧ ws = spl L))
theorem WSt.start (L : List UInt8) : WSt L 0 0 [] := ⟨Nat.zero_le _, .inl ⟨Nat.zero_le _, Nat.le_refl _, by simp, fun j _ h => by omega⟩⟩
theorem mid_mem {L : List UInt8} {m k : Nat} (h : ∀ j, k ≤ j → j < m → L[j]? ≠ some 32) : ∀ c ∈ (L.drop k).take (m - k), c ≠ 32 := by
  intro c hc e
  subst e
  obtain ⟨i, hi⟩ := List.mem_iff_getElem?.1 hc
  have hlt : i < m - k := by
    have := (List.getElem?_eq_some_iff.1 hi).1
    simp at this; omega
  rw [List.getElem?_take_of_lt hlt, List.getElem?_drop] at hi
  exact h (k + i) (by omega) (by omega) hi
theorem WSt.next {L : List UInt8} {m k : Nat} {ws : List (List UInt8)} (h : WSt L m k ws) (hm : m < L.length) (hc : L[m]? ≠ some 32) : WSt L (m + 1) k ws := by
  obtain ⟨h0, ⟨h1, h2, h3, h4⟩ | ⟨h1, _⟩⟩ := h
  · refine ⟨by omega, .inl ⟨hm, by omega, h3, fun j hj hlt => ?_⟩⟩
    by_cases e : j = m
    · rw [e]; exact hc
    · exact h4 j hj (by omega)
  · omega
theorem drop_cut (L : List UInt8) (m k : Nat) (h : k ≤ m) : L.drop k = (L.drop k).take (m - k) ++ L.drop m := by
  have := List.take_append_drop (m - k) (L.drop k)
  rw [List.drop_drop, show k + (m - k) = m by omega] at this
  exact this.symm
theorem WSt.cut {L : List UInt8} {m k : Nat} {ws : List (List UInt8)} (h : WSt L m k ws) (hm : m < L.length) (hc : L[m]? = some 32) : WSt L (m + 1) (m + 1) (ws ++ [(L.drop k).take (m - k)]) := by
  obtain ⟨h0, ⟨h1, h2, h3, h4⟩ | ⟨h1, _⟩⟩ := h
  · refine ⟨by simp; omega, .inl ⟨hm, Nat.le_refl _, ?_, fun j hj hlt => by omega⟩⟩
    have e : L.drop m = 32 :: L.drop (m + 1) := by
      rw [List.drop_eq_getElem_cons hm]
      obtain ⟨_, he⟩ := List.getElem?_eq_some_iff.1 hc
      rw [he]
    have e3 : spl (L.drop k) = (L.drop k).take (m - k) :: spl (L.drop (m + 1)) := by
      conv => lhs; rw [drop_cut L m k h2, e, spl_app (mid_mem h4)]
    rw [h3, e3]
    simp
  · omega
theorem WSt.last {L : List UInt8} {m k : Nat} {ws : List (List UInt8)} (h : WSt L m k ws) (hm : m = L.length) : WSt L (m + 1) (m + 1) (ws ++ [(L.drop k).take (m - k)]) := by
  obtain ⟨h0, ⟨h1, h2, h3, h4⟩ | ⟨h1, _⟩⟩ := h
  · refine ⟨by simp; omega, .inr ⟨by omega, ?_⟩⟩
    have e : (L.drop k).take (m - k) = L.drop k := by rw [List.take_of_length_le (by simp; omega)]
    rw [h3, e, spl_word (by rw [← e]; exact mid_mem h4)]
  · omega
theorem WSt.done {L : List UInt8} {m k : Nat} {ws : List (List UInt8)} (h : WSt L m k ws) (hm : L.length < m) : ws = spl L := by
  obtain ⟨h0, ⟨h1, _⟩ | ⟨_, h1⟩⟩ := h
  · omega
  · exact h1
theorem WSt.le {L : List UInt8} {m k : Nat} {ws : List (List UInt8)} (h : WSt L m k ws) (hm : m ≤ L.length) : k ≤ m ∧ ws.length ≤ m := by
  obtain ⟨h0, ⟨_, h1, _⟩ | ⟨h1, _⟩⟩ := h
  · exact ⟨h1, h0⟩
  · omega
theorem ownS_nil (w : World) (base : Nat) : OwnS w base (.slice none 0 0) [] := ⟨rfl, .inl ⟨rfl, rfl⟩⟩
theorem cut_str (s : ByteArray) (k m : Nat) : s.extract k m = bstr ((s.data.toList.drop k).take (m - k)) := by
  apply ByteArray.ext
  apply Array.toList_inj.1
  simp [bstr, ByteArray.data_extract, List.extract_eq_take_drop]
theorem u8_of {x : UInt8} (h : ((x.toNat : Int) == 32) = true) : x = 32 := by
  apply UInt8.toNat_inj.1
  have : (x.toNat : Int) = 32 := by simpa using h
  simp; omega
def WordsOut (W : World) (s : ByteArray) (e : Ending) (w' : World) : Prop := ∃ v, e = .returned v ∧ OwnS w' W.heap.size v (spl s.data.toList) ∧ Below W.heap.size W w'
theorem byte_at (s : ByteArray) (m : Nat) (h : m < s.size) : s.data.toList[m]? = some (s[m]'h) := by
  rw [List.getElem?_eq_some_iff]
  exact ⟨by simpa using h, by simp [ByteArray.getElem_eq_getElem_data]⟩

set_option maxRecDepth 100000 in
set_option maxHeartbeats 2000000 in
theorem rwords_any (s : ByteArray) (hs : s.size ≤ 100) (W : World) : Calls Tryd.prog 31 #[.string s] W (WordsOut W s) := by
  obtain ⟨i0, hI, hZ0, hZ1, hZ2⟩ := info_parts Tryd.info9
  have HInf := Lib.hid hI
  have HZ0 := Lib.hid hZ0
  have HZ1 := Lib.hid hZ1
  have HZ2 := Lib.hid hZ2
  clear hI hZ0 hZ1 hZ2
  have Hsl : Hid (s.data.toList.length = s.size) := Lib.hid (by rw [Array.length_toList]; rfl)
  have hs64 : s.size < 9223372036854775807 := by omega
  have HS := Lib.hid hs
  clear hs
  go_enter Tryd.func31, Tryd.ntmps31
  go_wp2_with fail
  go_loopw [3, 4, 5] (fun v f i wr => ∃ (m k : Nat) (ws : List (List UInt8)), f = .int .i64 k ∧ i = .int .i64 m ∧ WSt s.data.toList m k ws ∧ m ≤ s.size + 1 ∧ OwnS wr W.heap.size v ws ∧ Below W.heap.size W wr) (fun _ _ i _ => s.size + 1 - (intOf i).toNat)
  case atStart => exact ⟨0, 0, [], rfl, rfl, WSt.start _, Nat.zero_le _, ownS_nil _ _, Below.refl _ _⟩
  case round =>
    obtain ⟨m, k, ws, rfl, rfl, hst, hm, ho, hb⟩ := hrel
    have HSt := Lib.hid hst
    have HO := Lib.hid ho
    have HB := Lib.hid hb
    obtain ⟨va, vn, vc, rfl⟩ := ho.form
    clear ho hb
    have HSl := HS.out
    have hb0 : W.heap.size ≤ wr.heap.size := HB.out.size
    by_cases hlt : s.size < m
    · have hd : decide (m ≤ s.size) = false := decide_eq_false (by omega)
      clear hst hm HSl hb0
      have HLt := Lib.hid hlt
      clear hlt
      go_wp2_with fail
      exact bodyPost_ret (results_tmp rfl _ _ _) rfl ⟨_, rfl, (by rw [← HSt.out.done (by have := Hsl.out; have := HLt.out; omega)]; exact HO.out), HB.out⟩
    · have hd : decide (m ≤ s.size) = true := decide_eq_true (by omega)
      obtain ⟨hkm, hwl⟩ := hst.le (by have := Hsl.out; omega)
      have hms : m ≤ s.size := by omega
      have hwx : ws.length + 1 ≤ 1000 := by omega
      have hm1 : m + 1 < 9223372036854775807 := by omega
      have hcut := cut_str s k m
      obtain ⟨x, Hx⟩ : ∃ x, Hid ((s.data.toList.drop k).take (m - k) = x) := ⟨_, Lib.hid rfl⟩
      rw [Hx.out] at hcut
      have HCut := Lib.hid hcut
      have HM := Lib.hid hm
      clear hcut HSl
      by_cases he : m = s.size
      · have hd2 : ((m : Int) == (s.size : Int)) = true := by simp [he]
        have hnx := hst.last (by have := Hsl.out; omega)
        rw [Hx.out] at hnx
        have HNx := Lib.hid hnx
        clear hnx hst hm hlt he
        go_wp2_with (at_builtin; (refine wpList_append_own _ rfl (.tmp 22) (.tmp 27) 35 rfl W.heap.size 9 i0 (.string ⟨#[]⟩) 1 16 Tryd.underlying35 HInf.out HZ0.out HZ1.out HZ2.out rfl (by decide) _ _ _ rfl (HO.out.alloc _) ⟨wr.heap.size, 0, none⟩ 1 1 [.string (s.extract k m)] rfl rfl (World.news_of_block (heap_alloc_new wr _)) (strOne _) (by unfold maxLen; omega) (by omega) (by simp; omega) ?_; intro v' w5 hown' hgrow _; have HOn : Hid (OwnS w5 W.heap.size v' (ws ++ [x])) := (Lib.hid (by unfold OwnS; rw [List.length_append, strs_snoc, ← HCut.out]; exact hown')); have HG := Lib.hid (grown_of_below (ba wr _) hgrow); obtain ⟨va', vn', vc', rfl⟩ := HOn.out.form; clear hown' hgrow))
        exact ⟨⟨m + 1, m + 1, ws ++ [x], rfl, rfl, HNx.out, by omega, HOn.out, HB.out.grown HG.out HB.out.size (fun k hk => (HO.out.block hk).1)⟩, by simp only [intOf]; omega⟩
      · have hd2 : ((m : Int) == (s.size : Int)) = false := by simp; omega
        have hlt2 : m < s.size := by omega
        have hby := byte_at s m hlt2
        cases h32 : ((s[m].toNat : Int) == 32) with
        | true =>
          have hnx := hst.cut (by have := Hsl.out; omega) (by rw [hby]; congr 1; exact u8_of h32)
          rw [Hx.out] at hnx
          have HNx := Lib.hid hnx
          clear hby hnx hst hm hlt he
          go_wp2_with (at_builtin; (refine wpList_append_own _ rfl (.tmp 22) (.tmp 27) 35 rfl W.heap.size 9 i0 (.string ⟨#[]⟩) 1 16 Tryd.underlying35 HInf.out HZ0.out HZ1.out HZ2.out rfl (by decide) _ _ _ rfl (HO.out.alloc _) ⟨wr.heap.size, 0, none⟩ 1 1 [.string (s.extract k m)] rfl rfl (World.news_of_block (heap_alloc_new wr _)) (strOne _) (by unfold maxLen; omega) (by omega) (by simp; omega) ?_; intro v' w5 hown' hgrow _; have HOn : Hid (OwnS w5 W.heap.size v' (ws ++ [x])) := (Lib.hid (by unfold OwnS; rw [List.length_append, strs_snoc, ← HCut.out]; exact hown')); have HG := Lib.hid (grown_of_below (ba wr _) hgrow); obtain ⟨va', vn', vc', rfl⟩ := HOn.out.form; clear hown' hgrow))
          exact ⟨⟨m + 1, m + 1, ws ++ [x], rfl, rfl, HNx.out, by omega, HOn.out, HB.out.grown HG.out HB.out.size (fun k hk => (HO.out.block hk).1)⟩, by simp only [intOf]; omega⟩
        | false =>
          have hnx := hst.next (by have := Hsl.out; omega) (by rw [hby]; intro e; simp at e; rw [e] at h32; simp at h32)
          have HNx := Lib.hid hnx
          clear hby hnx hst
          go_wp2_with fail
          exact ⟨⟨m + 1, k, ws, rfl, rfl, HNx.out, by omega, HO.out, HB.out⟩, by simp only [intOf]; omega⟩
end Go.Proofs.YtmjcjgmmolmibaaDoor
