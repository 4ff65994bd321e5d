/- THE WALK OF WireRoundTrip. -/
import Derived.Test.YtdbjnojalfkaaaaDoorA9
set_option linter.unusedVariables false
namespace Go.Proofs.YtdbjnojalfkaaaaDoor
open Go.RowKit

set_option maxRecDepth 100000 in
set_option maxHeartbeats 1000000 in
theorem roundTrip_walk (c : Int) (text a0 a1 : ByteArray) (w : World) (h1 : -9223372036854775808 ≤ c) (h2 : c ≤ 9223372036854775807) (ht : text.size ≤ maxLen) (ha0 : a0.size ≤ maxLen) (ha1 : a1.size ≤ maxLen) (hN : Nib w) :
    Calls Tryd.prog 4 #[.int .i64 c, .string text, .agg #[.string a0, .string a1]] w fun e W' => e = .returned (.bool true) ∧ Below w.heap.size w W' := by
  unfold maxLen at ht ha0 ha1
  have HN := Lib.hid hN
  clear hN
  go_enter Tryd.func4, Tryd.ntmps4
  go_wp2_with fail
  refine (sane_any _ (HN.out.below ((Below.refl _ _).alloc (Nat.le_refl _) _))).mono ?_
  rintro e w1 ⟨rfl, hb1⟩
  go_wp2_with fail
  refine (nf_any c _ h1 h2).mono ?_
  rintro e w2 ⟨rfl, hb2⟩
  have hn := nf_range c
  obtain ⟨n, HF⟩ : ∃ n, Hid (nf c = n) := ⟨_, Lib.hid rfl⟩
  rw [HF.out] at hn ⊢
  have hc0 : w2.cell? ⟨w.heap.size, 0, none⟩ = some (.string a0) := (hb2.cell (p := ⟨w.heap.size, 0, none⟩) (by have := hb1.size; simp at this ⊢; omega)).trans ((hb1.cell (p := ⟨w.heap.size, 0, none⟩) (by simp)).trans (by simp))
  have hc1 : w2.cell? ⟨w.heap.size, 1, none⟩ = some (.string a1) := (hb2.cell (p := ⟨w.heap.size, 1, none⟩) (by have := hb1.size; simp at this ⊢; omega)).trans ((hb1.cell (p := ⟨w.heap.size, 1, none⟩) (by simp)).trans (by simp))
  go_wp2_with fail
  have hps := cut_size a0 200
  have hqs := cut_size a1 200
  have hts := cut_size text 200
  rw [show ((200 : Nat) : Int) = 200 from rfl] at hps hqs hts
  generalize a0.extract 0 (min (a0.size : Int) 200).toNat = p at hps ⊢
  generalize a1.extract 0 (min (a1.size : Int) 200).toNat = q at hqs ⊢
  generalize text.extract 0 (min (text.size : Int) 200).toNat = t at hts ⊢
  refine (putInt_enc n _ (by omega) (by omega)).mono ?_
  rintro e w3 ⟨rfl, hb3⟩
  have HI := Lib.hid (decInt_at p q n (by omega) (by omega))
  have HS := Lib.hid (strRes_at p q t (by omega))
  have hel := encI_size_le n
  have hsl : (encS t).size ≤ 209 := by rw [encS_size]; have := encI_size_le t.size; omega
  generalize encI n = en at HI hel ⊢
  go_wp2_with fail
  refine (putString_enc t _ (by omega)).mono ?_
  rintro e w4 ⟨rfl, hb4⟩
  generalize encS t = es at HS hsl ⊢
  clear hc0 hc1
  go_wp2_with fail
  refine (int_some (p ++ en ++ q) p.size _ (by unfold maxLen; simp; omega) (by simp; omega) HI.out).mono ?_
  rintro e w5 ⟨rfl, rfl⟩
  go_wp2_with fail
  refine (string_any (p ++ es ++ q) p.size _ (by unfold maxLen; simp; omega) (by simp; omega)).mono ?_
  rintro e w6 ⟨rfl, hb6⟩
  rw [HS.out]
  dsimp only [strOut]
  go_wp2_with fail
  go_ret
  exact ⟨rfl, bt (bt (bt (bt (bt (ba _ _) hb1) hb2) hb3) hb4) hb6⟩
end Go.Proofs.YtdbjnojalfkaaaaDoor
