/- THE WALK OF WireTruncated. -/
import Derived.Test.YtdbjnojalfkaaaaDoorA9
set_option linter.unusedVariables false
namespace Go.Proofs.YtdbjnojalfkaaaaDoor
open Go.RowKit

theorem string_none (s : ByteArray) (k : Nat) (w : World) (hs : s.size ≤ maxLen) (hk : k ≤ s.size) (h : strRes s k = none) :
    Calls Tryd.prog 17 #[.string s, .int .i64 k] w fun e w' => e = .returned (.tuple #[.string ⟨#[]⟩, .int .i64 0, .int .i64 10]) ∧ Below w.heap.size w w' :=
  (string_any s k w hs hk).mono fun e w' hw => by rw [h] at hw; exact hw

set_option maxRecDepth 100000 in
set_option maxHeartbeats 1000000 in
theorem truncated_walk (c d : Int) (text : ByteArray) (at' : Int) (w : World) (h1 : -9223372036854775808 ≤ c) (h2 : c ≤ 9223372036854775807) (h3 : -9223372036854775808 ≤ d) (h4 : d ≤ 9223372036854775807)
    (ht : text.size ≤ maxLen) (h5 : -9223372036854775808 ≤ at') (h6 : at' ≤ 9223372036854775807) (hN : Nib w) :
    Calls Tryd.prog 7 #[.int .i64 c, .int .i64 d, .string text, .int .i64 at'] w fun e W' => e = .returned (.bool true) ∧ Below w.heap.size w W' := by
  unfold maxLen at ht
  have HN := Lib.hid hN
  clear hN
  go_enter Tryd.func7, Tryd.ntmps7
  go_wp2_with fail
  refine (sane_any _ HN.out).mono ?_
  rintro e w1 ⟨rfl, hb1⟩
  go_wp2_with fail
  refine (nf_any c _ h1 h2).mono ?_
  rintro e w2 ⟨rfl, hb2⟩
  have hn := nf_range c
  obtain ⟨n, HF⟩ : ∃ n, Hid (nf c = n) := ⟨_, Lib.hid rfl⟩
  rw [HF.out] at hn ⊢
  go_wp2_with fail
  refine (putInt_enc n _ (by omega) (by omega)).mono ?_
  rintro e w3 ⟨rfl, hb3⟩
  go_wp2_with fail
  refine (nf_any d _ h3 h4).mono ?_
  rintro e w4 ⟨rfl, hb4⟩
  have hm := nf_range d
  obtain ⟨m, HG⟩ : ∃ n, Hid (nf d = n) := ⟨_, Lib.hid rfl⟩
  rw [HG.out] at hm ⊢
  go_wp2_with fail
  refine (putInt_enc m _ (by omega) (by omega)).mono ?_
  rintro e w5 ⟨rfl, hb5⟩
  go_wp2_with fail
  have hts := cut_size text 200
  rw [show ((200 : Nat) : Int) = 200 from rfl] at hts
  generalize text.extract 0 (min (text.size : Int) 200).toNat = t at hts ⊢
  refine (putString_enc t _ (by omega)).mono ?_
  rintro e w6 ⟨rfl, hb6⟩
  have hl1 := encI_size_le n
  have hl2 := encI_size_pos n
  have hl3 : 1 ≤ (encS t).size := by rw [encS_size]; have := encI_size_pos t.size; omega
  have hl4 : (encS t).size ≤ 209 := by rw [encS_size]; have := encI_size_le t.size; omega
  have hl5 := encI_size_le m
  have HC := Lib.hid (fun k hk => int_cut n k (by omega) (by omega) hk)
  have HS := Lib.hid (fun k hk => str_cut t k (by omega) hk)
  have HX := Lib.hid (fun h => encI_inj_prefix (a := n) (b := m) (by omega) (by omega) (by omega) (by omega) h)
  obtain ⟨en, HEN⟩ : ∃ x, Hid (encI n = x) := ⟨_, Lib.hid rfl⟩
  obtain ⟨em, HEM⟩ : ∃ x, Hid (encI m = x) := ⟨_, Lib.hid rfl⟩
  obtain ⟨es, HES⟩ : ∃ x, Hid (encS t = x) := ⟨_, Lib.hid rfl⟩
  rw [HEN.out] at hl1 hl2 HC HX ⊢
  rw [HEM.out] at hl5 HX ⊢
  rw [HES.out] at hl3 hl4 HS ⊢
  have z1 : ((en.size : Int) == 0) = false := beq_eq_false_iff_ne.2 (by omega)
  have z2 : ((es.size : Int) == 0) = false := beq_eq_false_iff_ne.2 (by omega)
  go_wp2_with fail
  have hk := pk_range (c := at') (n := en.size) (by omega)
  refine (pick_any at' en.size _ h5 h6 (by omega) (by omega)).mono ?_
  rintro e w7 ⟨rfl, rfl⟩
  obtain ⟨k, HK⟩ : ∃ k : Nat, Hid (pk at' en.size = (k : Int)) := ⟨(pk at' en.size).toNat, Lib.hid (by omega)⟩
  rw [HK.out] at hk ⊢
  have hk2 : k < en.size := by omega
  go_wp2_with fail
  refine (int_none (en.extract 0 k) 0 _ (by unfold maxLen; rw [ByteArray.size_extract]; omega) (by omega) (HC.out k hk2)).mono ?_
  rintro e w8 ⟨rfl, rfl⟩
  go_wp2_with fail
  have hj := pk_range (c := at') (n := es.size) (by omega)
  refine (pick_any at' es.size _ h5 h6 (by omega) (by omega)).mono ?_
  rintro e w9 ⟨rfl, rfl⟩
  obtain ⟨j, HJ⟩ : ∃ k : Nat, Hid (pk at' es.size = (k : Int)) := ⟨(pk at' es.size).toNat, Lib.hid (by omega)⟩
  rw [HJ.out] at hj ⊢
  have hj2 : j < es.size := by omega
  go_wp2_with fail
  refine (string_none (es.extract 0 j) 0 _ (by unfold maxLen; rw [ByteArray.size_extract]; omega) (by omega) (HS.out j hj2)).mono ?_
  rintro e w10 ⟨rfl, hb10⟩
  have hB := bt (bt (bt (bt (bt (bt (bt hb1 hb2) hb3) hb4) hb5) hb6) (Below.refl _ _)) hb10
  by_cases hnm : n = m
  · obtain rfl : en = em := by rw [← HEN.out, ← HEM.out, hnm]
    have hx : en.extract 0 en.size = en := ext_all en
    have hnm2 : (n == m) = true := beq_iff_eq.2 hnm
    clear hnm
    go_wp2_with fail
    refine (nf_any c _ h1 h2).mono ?_
    rintro e w11 ⟨rfl, hb11⟩
    rw [HF.out]
    go_wp2_with fail
    refine (nf_any d _ h3 h4).mono ?_
    rintro e w12 ⟨rfl, hb12⟩
    rw [HG.out]
    go_wp2_with fail
    go_ret
    exact ⟨rfl, bt (bt hB hb11) hb12⟩
  · have hnm2 : (n == m) = false := beq_eq_false_iff_ne.2 hnm
    by_cases hle : en.size ≤ em.size
    · have hx := str_ne (a := em.extract 0 en.size) (b := en) (fun h => hnm (HX.out h))
      clear hnm
      go_wp2_with fail
      refine (nf_any c _ h1 h2).mono ?_
      rintro e w11 ⟨rfl, hb11⟩
      rw [HF.out]
      go_wp2_with fail
      refine (nf_any d _ h3 h4).mono ?_
      rintro e w12 ⟨rfl, hb12⟩
      rw [HG.out]
      go_wp2_with fail
      go_ret
      exact ⟨rfl, bt (bt hB hb11) hb12⟩
    · clear hnm
      go_wp2_with fail
      refine (nf_any c _ h1 h2).mono ?_
      rintro e w11 ⟨rfl, hb11⟩
      rw [HF.out]
      go_wp2_with fail
      refine (nf_any d _ h3 h4).mono ?_
      rintro e w12 ⟨rfl, hb12⟩
      rw [HG.out]
      go_wp2_with fail
      go_ret
      exact ⟨rfl, bt (bt hB hb11) hb12⟩
end Go.Proofs.YtdbjnojalfkaaaaDoor
