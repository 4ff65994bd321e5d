/- WALKS: the law's log. -/
import Derived.Test.YtpapfegbodolgaaDoorT1
import Derived.Test.YtpapfegbodolgaaDoorS2
import Derived.Test.YtpapfegbodolgaaDoorP8
import Derived.StillTail
set_option linter.unusedVariables false
set_option linter.unusedSimpArgs false
namespace Go.Proofs.YtpapfegbodolgaaDoor
open Go.RowKit Go.Sort

/-- The heads of a log with records. -/
def hdsTo (R : List MRec) : Nat → List MHead
  | 0 => [⟨0, zr32, stS 0⟩]
  | k + 1 => hdsTo R k ++ [nxH ((hdsTo R k).getD k hdZ) (R.getD k recZ).pos (R.getD k recZ).chs (stS (100 + k))]
def hdsOf (R : List MRec) : List MHead := hdsTo R R.length
theorem hdsTo_len (R : List MRec) : ∀ k, (hdsTo R k).length = k + 1
  | 0 => rfl
  | k + 1 => by unfold hdsTo; rw [List.length_append, hdsTo_len R k]; rfl
def RsOk (R : List MRec) : Prop := R.length ≤ 12 ∧ ∀ i, i < R.length → VRec (R.getD i recZ).pos (R.getD i recZ).chs ∧ (R.getD i recZ).pos = i + 1
theorem recs_ok (X : List (List Int)) : RsOk (recsOf X) := ⟨recsOf_len X, recsOf_ok X⟩
theorem take_getD (R : List MRec) {k : Nat} (h : k < R.length) : R.take (k + 1) = R.take k ++ [R.getD k recZ] := by
  rw [List.take_add_one, List.getElem?_eq_getElem h, List.getD_eq_getElem?_getD, List.getElem?_eq_getElem h]; rfl

set_option maxRecDepth 100000 in
set_option maxHeartbeats 8000000 in
theorem logged_any (R : List MRec) (v : Value) (w : World) (hR : RecS w v R) (hT : Tab w) (hok : RsOk R) :
    Calls Tryd.prog 11 #[v] w fun e w' => ∃ b, e = .returned (.pointer (some ⟨b, 0, none⟩)) ∧ LgAt w' (fun k => w.heap.size ≤ k) b R (hdsOf R) ∧ Below w.heap.size w w' := by
  have HRS := Lib.hid hR
  have HT := Lib.hid hT
  have HOK := Lib.hid hok
  obtain ⟨a, n, cap, rfl, hn, hc1, hc2, hcell⟩ := id hR
  have HN := Lib.hid hn
  have HCL := Lib.hid hcell
  have hn12 : n ≤ 12 := by rw [hn]; exact hok.1
  have HS0 : Hid (∀ W, Calls Tryd.prog 27 #[.int .i64 0] W fun e w' => e = .returned (.string (stS 0)) ∧ Below W.heap.size W w') := Lib.hid fun W => state_any 0 W (by decide) (by decide)
  clear hn hcell hR hT hok
  go_enter Tryd.func11, Tryd.ntmps11
  go_wp2_with fail
  (with_reducible refine (HS0.out _).mono ?_)
  rintro e w1 ⟨rfl, hb1⟩
  have HB1 := Lib.hid hb1
  clear hb1
  go_wp2_with fail
  (with_reducible refine (new_ok (stS 0) _ (stS_size 0)).mono ?_)
  rintro e w2 ⟨b, rfl, hl2, hb2⟩
  have HL2 : Hid (LgAt w2 (fun k => w.heap.size ≤ k) b [] [⟨0, zr32, stS 0⟩]) := Lib.hid (hl2.mono fun k hk => Nat.le_trans HB1.out.size hk)
  have HB2 := Lib.hid (bt HB1.out hb2)
  clear hl2 hb2 HB1
  go_wp2_with fail
  go_loopw [5] (fun i wr => ∃ k : Nat, k ≤ n ∧ i = .int .i64 k ∧ Hid (LgAt wr (fun k => w.heap.size ≤ k) b (R.take k) (hdsTo R k)) ∧ Hid (Below w.heap.size w wr)) (fun i _ => n - (intOf i).toNat)
  case atStart => exact ⟨0, by omega, rfl, HL2, HB2⟩
  case round =>
    clear HL2 HB2
    obtain ⟨k, hk, rfl, HL, HB⟩ := hrel
    by_cases h1 : k < n
    · have d1 : decide ((k : Int) < (n : Int)) = true := decide_eq_true (by omega)
      obtain ⟨ib, io, rfl, hib, hrow⟩ := HCL.out (by omega)
      obtain ⟨hr0, u, hr1, hru⟩ := hrow k h1
      obtain ⟨st, Hst⟩ : ∃ s, Hid (stS (100 + k) = s) := ⟨_, Lib.hid rfl⟩
      have HSk : Hid (∀ W, Calls Tryd.prog 27 #[.int .i64 (100 + (k : Int))] W fun e w' => e = .returned (.string st) ∧ Below W.heap.size W w') := Lib.hid fun W => by rw [← Hst.out]; exact state_any _ W (by omega) (by omega)
      obtain ⟨rp, Hrp⟩ : ∃ x, Hid ((R.getD k recZ).pos = x) := ⟨_, Lib.hid rfl⟩
      obtain ⟨rc, Hrc⟩ : ∃ x, Hid ((R.getD k recZ).chs = x) := ⟨_, Lib.hid rfl⟩
      rw [Hrp.out] at hr0
      rw [Hrc.out] at hru
      have HRU := Lib.hid hru
      have hkR : k < R.length := by rw [← HN.out]; exact h1
      have hHl := hdsTo_len R k
      have htk : (R.take k).length = k := by rw [List.length_take]; omega
      have HNX : Hid (NxOk ((hdsTo R k).getD (R.take k).length hdZ) rp rc st) := Lib.hid (by
        obtain ⟨e1, e2⟩ := HOK.out.2 k hkR
        obtain ⟨e3, e4⟩ := HL.out.lg.ok k (by omega)
        rw [Hrp.out] at e1 e2
        rw [Hrc.out] at e1
        rw [htk]
        exact ⟨e1, e3, by rw [e2, e4], by rw [← Hst.out]; exact stS_size _⟩)
      have HHn : Hid (hdsTo R (k + 1) = hdsTo R k ++ [nxH ((hdsTo R k).getD (R.take k).length hdZ) rp rc st]) := Lib.hid (by rw [htk, ← Hrp.out, ← Hrc.out, ← Hst.out]; rfl)
      have HRn : Hid (R.take (k + 1) = R.take k ++ [⟨rp, rc⟩]) := Lib.hid (by rw [take_getD R hkR, ← Hrp.out, ← Hrc.out])
      have g0 : ∀ w0, BW wr w0 → ∀ d os, (grow (redrawn w0 d) os).cell? ⟨ib, io + k * 2, none⟩ = some (.int .i64 rp) := fun w0 h d os => ((bt HB.out (bt h (below_regrown w0 d os))).cell (p := ⟨ib, io + k * 2, none⟩) hib).trans hr0
      have g1 : ∀ w0, BW wr w0 → ∀ d os, (grow (redrawn w0 d) os).cell? ⟨ib, io + k * 2 + 1, none⟩ = some u := fun w0 h d os => ((bt HB.out (bt h (below_regrown w0 d os))).cell (p := ⟨ib, io + k * 2 + 1, none⟩) hib).trans hr1
      have hk12 : (k : Int) ≤ 12 := by omega
      clear hkR hHl htk hrow hru
      go_upto_region 5 with fail
      refine wp_region_calm 8 99 [0, 1, 2, 3, 4, 5, 6, 7] (by kernel_rfl) (by kernel_rfl) (by intro oz h; simp at h) (by intro oz h; simp at h) (by rfl) ?_
      simp only [List.take_succ_cons, List.take_zero]
      iterate 7
        apply wpCalm_want
        · rfl
        · exact bc_refl
        · exact ⟨_, Below.refl _ _⟩
        · intro w00 hC0 K hK
          go_big_quiet_op
          exact hK
      apply wpCalm_want
      · rfl
      · exact bc_refl
      · exact ⟨_, Below.refl _ _⟩
      · intro w00 hC0 K hK
        go_big_quiet_op
        apply Exists.intro
        refine ⟨fun p => ?_, ?_⟩
        · exact Calls.regrown_of (HSk.out _)
        · exact hK
      refine wpCalm_nil ?_
      intro w3 hbq
      try simp only [List.drop_succ_cons, List.drop_zero]
      have HB3 := Lib.hid (bt HB.out hbq)
      have HL3 := Lib.hid (HL.out.below hbq)
      clear g0 g1 hbq
      try go_frame
      go_wp2_with fail
      (with_reducible refine (append_ok HL3.out (HRU.out.below HB3.out) (HT.out.below HB3.out) HNX.out).mono ?_)
      rintro e w4 ⟨rfl, hl4, hk4⟩
      have HL4 : Hid (LgAt w4 (fun k => w.heap.size ≤ k) b (R.take (k + 1)) (hdsTo R (k + 1))) := Lib.hid (by
        rw [HRn.out, HHn.out]
        exact hl4.mono fun i hi => hi.elim id fun h => Nat.le_trans HB3.out.size h)
      have HB4 : Hid (Below w.heap.size w w4) := Lib.hid (HB3.out.trans (hk4.below HB3.out.size fun k hf => hf))
      clear hl4 hk4 HL3 HB3
      go_wp2_with fail
      exact ⟨⟨k + 1, by omega, by go_num, HL4, HB4⟩, by simp [intOf]; omega⟩
    · have d1 : decide ((k : Int) < (n : Int)) = false := decide_eq_false (by omega)
      obtain rfl : k = n := by omega
      go_wp2_with fail
      go_ret
      refine ⟨b, rfl, ?_, HB.out⟩
      have := HL.out
      rwa [HN.out, List.take_length] at this
end Go.Proofs.YtpapfegbodolgaaDoor
