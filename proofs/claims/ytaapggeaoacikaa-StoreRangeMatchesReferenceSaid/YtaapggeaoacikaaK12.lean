/- WALKS: At. -/
import Derived.Test.YtaapggeaoacikaaR1
set_option linter.unusedVariables false
set_option linter.unusedSimpArgs false
namespace Go.Proofs.Ytaapggeaoacikaa
open Go.RowKit Go.Sort Go.ChangeMaps Go.MapKept

theorem at_neg (v : Value) (p : Int) (W : World) (hp : p < 0) : Calls Try.prog 19 #[v, .int .i64 p] W fun e w' => e = .returned (.tuple #[.pointer none, .int .i64 40]) ∧ W = w' := by
  have d1 : decide (p < 0) = true := decide_eq_true hp
  go_enter Try.func19, Try.ntmps19
  go_wp2_with fail
  refine bodyPost_ret (v := .tuple #[.pointer none, .int .i64 40]) (by simp [results, Try.results19, go_sem]) rfl ⟨rfl, ?_⟩
  rfl

theorem at_far {W : World} {v : Value} {R : List MRec} (h : RecS W v R) (p : Int) (hp : R.length < p) : Calls Try.prog 19 #[v, .int .i64 p] W fun e w' => e = .returned (.tuple #[.pointer none, .int .i64 40]) ∧ W = w' := by
  obtain ⟨a, n, cap, rfl, rfl, _⟩ := h
  have d1 : decide (p < 0) = false := decide_eq_false (by omega)
  have d2 : decide ((R.length : Int) < p) = true := decide_eq_true hp
  clear hp
  go_enter Try.func19, Try.ntmps19
  go_wp2_with fail
  refine bodyPost_ret (v := .tuple #[.pointer none, .int .i64 40]) (by simp [results, Try.results19, go_sem]) rfl ⟨rfl, ?_⟩
  rfl

/-- What At returns: a state of its own. -/
def AtOut (W : World) (L : List MRow) (p : Int) (e : Ending) (w' : World) : Prop :=
  ∃ b m, e = .returned (.tuple #[.pointer (some ⟨b, 0, none⟩), .int .i64 0]) ∧ StAt w' b m L p ∧ Own W.heap.size b m ∧ Below W.heap.size W w'

set_option maxRecDepth 100000 in
set_option maxHeartbeats 4000000 in
theorem at_any {W : World} {v : Value} {R : List MRec} (h : RecS W v R) (hR : Chn R) (p : Nat) (hp : p ≤ R.length) :
    Calls Try.prog 19 #[v, .int .i64 p] W (AtOut W (rowsOf (R.take p)) p) := by
  have hl := hR.len
  obtain ⟨a, n, cap, rfl, hn, hc1, hc2, hcell⟩ := h
  have hpn : p ≤ n := by omega
  have d1 : decide ((p : Int) < 0) = false := decide_eq_false (by omega)
  have d2 : decide ((n : Int) < (p : Int)) = false := decide_eq_false (by omega)
  have HN := Lib.hid hn
  have HR := Lib.hid hR
  have hn4 : n ≤ 10000 := by omega
  have HC : Hid (1 ≤ n → ∃ b o, a = some ⟨b, o, none⟩ ∧ b < W.heap.size ∧ ∀ i, i < n → RecAt W b (o + i * 2) (R.getD i recZ)) := Lib.hid hcell
  have HNew := Lib.hid (new_any W)
  clear hl hn hR hcell hp
  go_enter Try.func19, Try.ntmps19
  go_wp2_with fail
  (with_reducible refine HNew.out.mono ?_)
  rintro e w1 ⟨rfl, hw1⟩
  have HS1 : Hid (StAt w1 W.heap.size none [] 0) := Lib.hid (by rw [hw1]; exact stAt_new W)
  have HB1 : Hid (Below W.heap.size W w1) := Lib.hid (by rw [hw1]; exact ba _ _)
  clear hw1
  go_wp2_with fail
  have hz1 : W.heap.size < w1.heap.size := HS1.out.lt
  have HP : Hid (p ≤ R.length) := Lib.hid (by rw [← HN.out]; exact hpn)
  go_loopw [23] (fun i wr => ∃ k : Nat, k ≤ p ∧ i = .int .i64 k ∧ ∃ m, Hid (StAt wr W.heap.size m (rowsOf (R.take k)) k) ∧ Hid (Own W.heap.size W.heap.size m) ∧ Hid (Below W.heap.size W wr)) (fun i _ => p - (intOf i).toNat)
  case atStart => exact ⟨0, by omega, rfl, none, HS1, Lib.hid ⟨Nat.le_refl _, fun i e => by cases e⟩, HB1⟩
  case round =>
    obtain ⟨k, hk, rfl, m, HS, HO, HB⟩ := hrel
    by_cases hlt : k < p
    · have hz := HS.out.lt
      have hkn : k < n := by omega
      obtain ⟨vb, vo, rfl, hvb, hcs⟩ := HC.out (by omega)
      have HRk : Hid (RecAt wr vb (vo + k * 2) (R.getD k recZ)) := Lib.hid ((hcs k hkn).below hvb HB.out)
      have HOk : Hid (Okay (rowsOf (R.take k)) k (R.getD k recZ).pos (R.getD k recZ).chs) := Lib.hid (HR.out k (by have := HP.out; omega))
      have Htk : Hid (stepAll (rowsOf (R.take k)) (R.getD k recZ).chs = rowsOf (R.take (k + 1))) := Lib.hid (rowsOf_succ (by have := HP.out; omega)).symm
      clear hcs
      obtain ⟨r, Hr⟩ : ∃ r, Hid (R.getD k recZ = r) := ⟨_, Lib.hid rfl⟩
      rw [Hr.out] at HRk HOk Htk
      obtain ⟨pos, cs⟩ := r
      obtain rfl : pos = k + 1 := HOk.out.2.1
      obtain ⟨q0, v, q1, hv⟩ := HRk.out
      simp only at q0
      have HV : Hid (ChS wr v cs) := Lib.hid hv
      obtain ⟨va, vn, vcap, rfl, hrest⟩ := hv
      clear hrest
      go_wp2_with fail
      (with_reducible refine (apply_ok (HS.out.below (ba wr _)) (HV.out.below (ba wr _)) HOk.out).mono ?_)
      rintro e w2 ⟨rfl, m', hst, hkt, hm'⟩
      have HS2 : Hid (StAt w2 W.heap.size m' (rowsOf (R.take (k + 1))) ((k : Int) + 1)) := Lib.hid (by rw [← Htk.out]; exact hst)
      have HO2 : Hid (Own W.heap.size W.heap.size m') := Lib.hid ⟨Nat.le_refl _, fun i e => by
        rcases hm' with rfl | ⟨x, rfl, hx⟩
        · exact HO.out.2 i e
        · cases e
          simp at hx
          omega⟩
      have HB2 : Hid (Below W.heap.size W w2) := Lib.hid (((Kept.of_below (F := foot W.heap.size m) (bt HB.out (ba wr _))).trans hkt (fun _ _ f => f)).below (Nat.le_refl _) (fun i f => by
        rcases f with rfl | f
        · exact Nat.le_refl _
        · exact HO.out.2 i f))
      clear hst hkt hm'
      go_wp2_with fail
      exact ⟨⟨k + 1, by omega, by go_num, m', by rw [Int.natCast_add]; exact HS2, HO2, HB2⟩, by simp [intOf]; omega⟩
    · obtain rfl : k = p := by omega
      go_wp2_with fail
      refine bodyPost_ret (v := .tuple #[.pointer (some ⟨W.heap.size, 0, none⟩), .int .i64 0]) (by simp [results, Try.results19, go_sem]) rfl ?_
      exact ⟨W.heap.size, m, rfl, HS.out, HO.out, HB.out⟩
end Go.Proofs.Ytaapggeaoacikaa
