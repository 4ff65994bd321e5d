/- WALKS: the reference's Apply, whatever the record; its At. -/
import Derived.Test.YtaapggeaoacikaaX6
set_option linter.unusedVariables false
set_option linter.unusedSimpArgs false
namespace Go.Proofs.Ytaapggeaoacikaa
open Go.RowKit Go.Sort Go.ChangeMaps Go.MapKept

/-- What the reference's Apply does. -/
def RApp (W : World) (b : Nat) (L : List MRow) (p pos : Int) (cs : List MCh) (e : Ending) (w' : World) : Prop :=
  (Okay L p pos cs ∧ e = .returned (.int .i64 0) ∧ ∃ v', RfAt w' b v' (stepAll L cs) pos ∧ Kept (fun k => k = b) W w' ∧ ∀ i, v'.ownBlock = some i → W.heap.size ≤ i) ∨
  (¬ Okay L p pos cs ∧ e = .returned (.int .i64 40) ∧ Below W.heap.size W w')
theorem applyR_any {W : World} {b : Nat} {v : Value} {L : List MRow} {p : Int} (h : RfAt W b v L p) {pos : Int} {cs : List MCh} {u : Value} (hv : ChS W u cs) :
    Calls Try.prog 16 #[.pointer (some ⟨b, 0, none⟩), .agg #[.int .i64 pos, u]] W (RApp W b L p pos cs) := by
  by_cases h1 : VRec pos cs ∧ pos = p + 1
  · refine (applyR_next h hv h1.1 h1.2).mono fun e w' hp => ?_
    rcases hp with ⟨h2, h3, he, v', hi, hk, ho⟩ | ⟨h2, he, hb⟩
    · have hok : Okay L p pos cs := ⟨h1.1, h1.2, h2, h3⟩
      have hp1 := h1.1.1
      exact .inl ⟨hok, he, v', ⟨hi.blk, hi.own, good_all h.good hok, by omega⟩, hk, ho⟩
    · exact .inr ⟨fun ho => h2 ho.2.2, he, hb⟩
  · exact (applyR_inv h hv h1).mono fun e w' ⟨he, hb⟩ => .inr ⟨fun ho => h1 ⟨ho.1, ho.2.1⟩, he, hb⟩

theorem atR_neg (v : Value) (p : Int) (W : World) (hp : p < 0) : Calls Try.prog 20 #[v, .int .i64 p] W fun e w' => e = .returned (.tuple #[.pointer none, .int .i64 40]) ∧ W = w' := by
  have d1 : decide (p < 0) = true := decide_eq_true hp
  go_enter Try.func20, Try.ntmps20
  go_wp2_with fail
  refine bodyPost_ret (v := .tuple #[.pointer none, .int .i64 40]) (by simp [results, Try.results20, go_sem]) rfl ⟨rfl, ?_⟩
  rfl

theorem atR_far {W : World} {v : Value} {R : List MRec} (h : RecS W v R) (p : Int) (hp : R.length < p) : Calls Try.prog 20 #[v, .int .i64 p] W fun e w' => e = .returned (.tuple #[.pointer none, .int .i64 40]) ∧ W = w' := by
  obtain ⟨a, n, cap, rfl, rfl, _⟩ := h
  have d1 : decide (p < 0) = false := decide_eq_false (by omega)
  have d2 : decide ((R.length : Int) < p) = true := decide_eq_true hp
  clear hp
  go_enter Try.func20, Try.ntmps20
  go_wp2_with fail
  refine bodyPost_ret (v := .tuple #[.pointer none, .int .i64 40]) (by simp [results, Try.results20, go_sem]) rfl ⟨rfl, ?_⟩
  rfl

/-- What the reference's At returns: a state of its own. -/
def AtROut (W : World) (L : List MRow) (p : Int) (e : Ending) (w' : World) : Prop :=
  ∃ b v, e = .returned (.tuple #[.pointer (some ⟨b, 0, none⟩), .int .i64 0]) ∧ RfAt w' b v L p ∧ W.heap.size ≤ b ∧ (∀ i, v.ownBlock = some i → W.heap.size ≤ i) ∧ Below W.heap.size W w'

set_option maxRecDepth 100000 in
set_option maxHeartbeats 4000000 in
theorem atR_any {W : World} {v : Value} {R : List MRec} (h : RecS W v R) (hR : Chn R) (p : Nat) (hp : p ≤ R.length) :
    Calls Try.prog 20 #[v, .int .i64 p] W (AtROut W (rowsOf (R.take p)) p) := by
  have hl := hR.len
  obtain ⟨a, n, cap, rfl, hn, hc1, hc2, hcell⟩ := h
  have hpn : p ≤ n := by omega
  have d1 : decide ((p : Int) < 0) = false := decide_eq_false (by omega)
  have d2 : decide ((n : Int) < (p : Int)) = false := decide_eq_false (by omega)
  have HN := Lib.hid hn
  have HR := Lib.hid hR
  have hn4 : n ≤ 10000 := by omega
  have HC : Hid (1 ≤ n → ∃ b o, a = some ⟨b, o, none⟩ ∧ b < W.heap.size ∧ ∀ i, i < n → RecAt W b (o + i * 2) (R.getD i recZ)) := Lib.hid hcell
  have HNew := Lib.hid (newR_any W)
  clear hl hn hR hcell hp
  go_enter Try.func20, Try.ntmps20
  go_wp2_with fail
  (with_reducible refine HNew.out.mono ?_)
  rintro e w1 ⟨rfl, hw1⟩
  have HS1 : Hid (RfAt w1 W.heap.size (.slice none 0 0) [] 0) := Lib.hid (by rw [hw1]; exact rfAt_new W)
  have HB1 : Hid (Below W.heap.size W w1) := Lib.hid (by rw [hw1]; exact ba _ _)
  clear hw1
  go_wp2_with fail
  have hz1 : W.heap.size < w1.heap.size := HS1.out.lt
  have HP : Hid (p ≤ R.length) := Lib.hid (by rw [← HN.out]; exact hpn)
  go_loopw [7] (fun i wr => ∃ k : Nat, k ≤ p ∧ i = .int .i64 k ∧ ∃ m, Hid (RfAt wr W.heap.size m (rowsOf (R.take k)) k) ∧ Hid (∀ i, m.ownBlock = some i → W.heap.size ≤ i) ∧ Hid (Below W.heap.size W wr)) (fun i _ => p - (intOf i).toNat)
  case atStart => exact ⟨0, by omega, rfl, _, HS1, Lib.hid (fun i e => by simp [Value.ownBlock] at e), HB1⟩
  case round =>
    obtain ⟨k, hk, rfl, m, HS, HO, HB⟩ := hrel
    by_cases hlt : k < p
    · have hz := HS.out.lt
      have hkn : k < n := by omega
      obtain ⟨vb, vo, rfl, hvb, hcs⟩ := HC.out (by omega)
      have HRk : Hid (RecAt wr vb (vo + k * 2) (R.getD k recZ)) := Lib.hid ((hcs k hkn).below hvb HB.out)
      have HOk : Hid (Okay (rowsOf (R.take k)) k (R.getD k recZ).pos (R.getD k recZ).chs) := Lib.hid (HR.out k (by have := HP.out; omega))
      have Htk : Hid (stepAll (rowsOf (R.take k)) (R.getD k recZ).chs = rowsOf (R.take (k + 1))) := Lib.hid (rowsOf_succ (by have := HP.out; omega)).symm
      clear hcs
      obtain ⟨r, Hr⟩ : ∃ r, Hid (R.getD k recZ = r) := ⟨_, Lib.hid rfl⟩
      rw [Hr.out] at HRk HOk Htk
      obtain ⟨pos, cs⟩ := r
      obtain rfl : pos = k + 1 := HOk.out.2.1
      obtain ⟨q0, v, q1, hv⟩ := HRk.out
      simp only at q0
      have HV : Hid (ChS wr v cs) := Lib.hid hv
      obtain ⟨va, vn, vcap, rfl, hrest⟩ := hv
      clear hrest
      go_wp2_with fail
      (with_reducible refine (applyR_any HS.out HV.out).mono ?_)
      intro e w2 happ
      rcases happ with ⟨_, rfl, m', hst, hkt, hm'⟩ | ⟨hno, _⟩
      · have HS2 : Hid (RfAt w2 W.heap.size m' (rowsOf (R.take (k + 1))) ((k : Int) + 1)) := Lib.hid (by rw [← Htk.out]; exact hst)
        have HO2 : Hid (∀ i, m'.ownBlock = some i → W.heap.size ≤ i) := Lib.hid (fun i e => Nat.le_trans (Nat.le_of_lt hz) (hm' i e))
        have HB2 : Hid (Below W.heap.size W w2) := Lib.hid (((Kept.of_below (F := fun i => i = W.heap.size) HB.out).trans hkt (fun _ _ f => f)).below (Nat.le_refl _) (fun i f => by omega))
        clear hst hkt hm'
        go_wp2_with fail
        exact ⟨⟨k + 1, by omega, by go_num, m', by rw [Int.natCast_add]; exact HS2, HO2, HB2⟩, by simp [intOf]; omega⟩
      · exact absurd HOk.out hno
    · obtain rfl : k = p := by omega
      go_wp2_with fail
      refine bodyPost_ret (v := .tuple #[.pointer (some ⟨W.heap.size, 0, none⟩), .int .i64 0]) (by simp [results, Try.results20, go_sem]) rfl ?_
      exact ⟨W.heap.size, m, rfl, HS.out, Nat.le_refl _, HO.out, HB.out⟩
end Go.Proofs.Ytaapggeaoacikaa
