/- WALKS: row.Before, whether a row is in a range, stage 6's law's state. -/
import Derived.Test.YtcffofjialihaaaA7
set_option linter.unusedVariables false
set_option linter.unusedSimpArgs false
namespace Go.Proofs.Ytcffofjialihaaa
open Go.RowKit Go.Sort Go.ChangeMaps Go.MapKept

set_option maxRecDepth 100000 in
set_option maxHeartbeats 1000000 in
theorem before_any (c : MCh) (w : World) :
    Calls Try.prog 32 #[chV c] w fun e w' => e = .returned (.tuple #[rowV (if c.had then ⟨c.t, c.k, c.o⟩ else ⟨0, 0, V3.zero⟩), .bool c.had]) ∧ Below w.heap.size w w' := by
  obtain ⟨t, k, had, ⟨oa, ob, oc⟩, has, ⟨na, nb, nc⟩⟩ := c
  cases had
  · unfold chV rowV
    go_enter Try.func32, Try.ntmps32
    go_wp2
    exact bodyPost_ret (v := .tuple #[.agg #[.int .i64 0, .int .i64 0, .int .i64 0, .int .i64 0, .int .i64 0], .bool false]) (by simp [results, Try.results32, go_sem]) rfl ⟨rfl, ((Below.refl _ w).alloc (Nat.le_refl _) _).alloc (by simp) _⟩
  · unfold chV rowV
    go_enter Try.func32, Try.ntmps32
    go_wp2_with (go_at_call 76; refine (rowOf_w _ _ _ _ _ _ _ _ _ _ _ _ _ _).mono ?_; rintro e w1 ⟨rfl, rfl⟩)
    refine bodyPost_ret (v := .tuple #[.agg #[.int .i64 t, .int .i64 k, .int .i64 oa, .int .i64 ob, .int .i64 oc], .bool true]) (by simp [results, Try.results32, go_sem]) rfl ⟨rfl, ?_⟩
    exact (((((Below.refl _ w).alloc (Nat.le_refl _) _).alloc (by simp) _).alloc (by simp; omega) _).alloc (by simp; omega) _).alloc (by simp; omega) _

/-- What 'state' returns. -/
def StOut (W : World) (e : Ending) (w' : World) : Prop :=
  ∃ R b m, e = .returned (ptr b) ∧ StAt w' b m (rowsOf R) R.length ∧ Chn R ∧ R.length ≤ 40 ∧ (∀ r ∈ R, ∃ c, r.chs = [c] ∧ SmallK c) ∧ Below W.heap.size W w'
set_option maxRecDepth 100000 in
set_option maxHeartbeats 2000000 in
theorem state_any {W : World} {v : Value} {n : Nat} (h : XS4 W v n) : Calls Try.prog 28 #[v] W (StOut W) := by
  have HX := Lib.hid h
  go_enter Try.func28, Try.ntmps28
  go_wp2_with fail
  refine (changes_any HX.out).mono ?_
  rintro e w1 ⟨R, u, rfl, hrs, hch, hl, hsm, hb⟩
  have HRS := Lib.hid hrs
  have HCh := Lib.hid hch
  have HSm := Lib.hid hsm
  have HB := Lib.hid hb
  have HL := Lib.hid hl
  obtain ⟨ra, rn, rcap, rfl, hrn, -, -, -⟩ := hrs
  subst hrn
  clear hch hl hsm hb
  go_wp2_with fail
  refine (at_any HRS.out HCh.out R.length (Nat.le_refl _)).mono ?_
  rintro e w2 ⟨b, m, rfl, hst, -, hb⟩
  rw [List.take_length] at hst
  have HO : Hid (StOut W (.returned (ptr b)) w2) := Lib.hid ⟨R, b, m, rfl, hst, HCh.out, HL.out, HSm.out, bt HB.out hb⟩
  clear hst hb
  go_wp2_with fail
  go_ret
  exact HO.out

attribute [local irreducible] wpCalm in
set_option maxRecDepth 100000 in
set_option maxHeartbeats 8000000 in
theorem in_low (k t c l h y o rk ra rb rc : Int) (W : World) (v : Int) (HV : Hid (∀ w, Calls Try.prog 30 #[.agg #[.int .i64 t, .int .i64 rk, .int .i64 ra, .int .i64 rb, .int .i64 rc], .int .i64 c] w fun e w' => e = .returned (.int .i64 v) ∧ Below w.heap.size w w')) (h2 : ¬ l ≤ v) :
    Calls Try.prog 34 #[.agg #[.int .i64 k, .int .i64 t, .int .i64 c, .int .i64 l, .int .i64 h, .int .i64 y, .int .i64 o], .agg #[.int .i64 t, .int .i64 rk, .int .i64 ra, .int .i64 rb, .int .i64 rc], .bool true] W fun e w' => e = .returned (.bool false) ∧ Below W.heap.size W w' := by
  have HG : Hid (¬ l ≤ v) := Lib.hid h2
  clear h2
  go_enter Try.func34, Try.ntmps34
  go_upto_region 1 with fail
  generalize hw2 : (W.alloc (.cells #[.int .i64 k, .int .i64 t, .int .i64 c, .int .i64 l, .int .i64 h, .int .i64 y, .int .i64 o] 23)).alloc (.cells #[.int .i64 t, .int .i64 rk, .int .i64 ra, .int .i64 rb, .int .i64 rc] 31) = wb
  have HBb : Hid (Below W.heap.size W wb) := Lib.hid (by rw [← hw2]; exact bt (ba W _) (ba _ _))
  have HX : Hid (wb.heap[W.heap.size]? = some (.cells #[.int .i64 k, .int .i64 t, .int .i64 c, .int .i64 l, .int .i64 h, .int .i64 y, .int .i64 o] 23 (0, 0))) := Lib.hid (by
    rw [← hw2]
    exact ((ba (W.alloc _) _).block _ (by simp)).trans (heap_alloc_new W _))
  have HY : Hid (wb.heap[W.heap.size + 1]? = some (.cells #[.int .i64 t, .int .i64 rk, .int .i64 ra, .int .i64 rb, .int .i64 rc] 31 (0, 0))) := Lib.hid (by
    rw [← hw2]
    have h := heap_alloc_new (W.alloc (.cells #[.int .i64 k, .int .i64 t, .int .i64 c, .int .i64 l, .int .i64 h, .int .i64 y, .int .i64 o] 23)) (.cells #[.int .i64 t, .int .i64 rk, .int .i64 ra, .int .i64 rb, .int .i64 rc] 31)
    rw [World.size_alloc] at h
    exact h)
  clear hw2
  have HG1 : Hid (∀ w0, BW wb w0 → ∀ d' os, (grow (redrawn w0 d') os).heap[W.heap.size]? = some (.cells #[.int .i64 k, .int .i64 t, .int .i64 c, .int .i64 l, .int .i64 h, .int .i64 y, .int .i64 o] 23 (0, 0))) := Lib.hid (fun w0 h d' os => ((show Below wb.heap.size wb (grow (redrawn w0 d') os) from bt h (below_regrown w0 d' os)).block _ (lt_of_block HX.out)).trans HX.out)
  have HG2 : Hid (∀ w0, BW wb w0 → ∀ d' os, (grow (redrawn w0 d') os).heap[W.heap.size + 1]? = some (.cells #[.int .i64 t, .int .i64 rk, .int .i64 ra, .int .i64 rb, .int .i64 rc] 31 (0, 0))) := Lib.hid (fun w0 h d' os => ((show Below wb.heap.size wb (grow (redrawn w0 d') os) from bt h (below_regrown w0 d' os)).block _ (lt_of_block HY.out)).trans HY.out)
  have g1 : ∀ w0, BW wb w0 → ∀ d' os, (grow (redrawn w0 d') os).cell? ⟨W.heap.size, 1, none⟩ = some (.int .i64 t) := fun w0 h d' os => by simp [World.cell?, HG1.out w0 h d' os]
  have g2 : ∀ w0, BW wb w0 → ∀ d' os, (grow (redrawn w0 d') os).cell? ⟨W.heap.size, 2, none⟩ = some (.int .i64 c) := fun w0 h d' os => by simp [World.cell?, HG1.out w0 h d' os]
  have g3 : ∀ w0, BW wb w0 → ∀ d' os, (grow (redrawn w0 d') os).cell? ⟨W.heap.size, 3, none⟩ = some (.int .i64 l) := fun w0 h d' os => by simp [World.cell?, HG1.out w0 h d' os]
  have r0 : ∀ w0, BW wb w0 → ∀ d' os, (grow (redrawn w0 d') os).cell? ⟨W.heap.size + 1, 0, none⟩ = some (.int .i64 t) := fun w0 h d' os => by simp [World.cell?, HG2.out w0 h d' os]
  have r1 : ∀ w0, BW wb w0 → ∀ d' os, (grow (redrawn w0 d') os).cell? ⟨W.heap.size + 1, 1, none⟩ = some (.int .i64 rk) := fun w0 h d' os => by simp [World.cell?, HG2.out w0 h d' os]
  have r2 : ∀ w0, BW wb w0 → ∀ d' os, (grow (redrawn w0 d') os).cell? ⟨W.heap.size + 1, 2, none⟩ = some (.int .i64 ra) := fun w0 h d' os => by simp [World.cell?, HG2.out w0 h d' os]
  have r3 : ∀ w0, BW wb w0 → ∀ d' os, (grow (redrawn w0 d') os).cell? ⟨W.heap.size + 1, 3, none⟩ = some (.int .i64 rb) := fun w0 h d' os => by simp [World.cell?, HG2.out w0 h d' os]
  have r4 : ∀ w0, BW wb w0 → ∀ d' os, (grow (redrawn w0 d') os).cell? ⟨W.heap.size + 1, 4, none⟩ = some (.int .i64 rc) := fun w0 h d' os => by simp [World.cell?, HG2.out w0 h d' os]
  have hd := HG.out
  refine wp_region_calm 26 99 [0, 1, 2, 3, 4, 5, 6, 7, 8, 9, 10, 11, 12, 13, 14, 15, 16, 17, 18, 19, 20, 21, 22, 23, 24, 25] (by kernel_rfl) (by kernel_rfl) (by intro oz h; simp at h) (by intro oz h; simp at h) (by rfl) ?_
  simp only [List.take_succ_cons, List.take_zero]
  iterate 12
    apply wpCalm_want
    · rfl
    · exact bc_refl
    · exact ⟨_, Below.refl _ _⟩
    · intro w0 hC0 K hK
      go_big_quiet_op
      exact hK
  apply wpCalm_want
  · rfl
  · exact bc_refl
  · exact ⟨_, Below.refl _ _⟩
  · intro w0 hC0 K hK
    go_big_quiet_op
    apply Exists.intro
    refine ⟨fun p => ?_, ?_⟩
    · exact Calls.regrown_of (HV.out _)
    · exact hK
  iterate 5
    apply wpCalm_want
    · rfl
    · exact bc_refl
    · exact ⟨_, Below.refl _ _⟩
    · intro w0 hC0 K hK
      go_big_quiet_op
      exact hK
  have gd : decide (l ≤ v) = false := decide_eq_false hd
  try simp only [gd]
  clear gd hd
  refine wpCalm_skip (by rfl) ?_
  go_frame
  refine wpCalm_skip (by rfl) ?_
  go_frame
  refine wpCalm_skip (by rfl) ?_
  go_frame
  refine wpCalm_skip (by rfl) ?_
  go_frame
  refine wpCalm_skip (by rfl) ?_
  go_frame
  refine wpCalm_skip (by rfl) ?_
  go_frame
  refine wpCalm_skip (by rfl) ?_
  go_frame
  apply wpCalm_want
  · rfl
  · exact bc_refl
  · exact ⟨_, Below.refl _ _⟩
  · intro w0 hC0 K hK
    go_big_quiet_op
    exact hK
  refine wpCalm_nil ?_
  intro wq hbq
  try simp only [List.drop_succ_cons, List.drop_zero]
  have HBq := Lib.hid (bt HBb.out hbq)
  clear g1 g2 g3 r0 r1 r2 r3 r4 hbq
  go_wp2_with fail
  go_ret
  exact ⟨rfl, HBq.out⟩

set_option maxRecDepth 100000 in
set_option maxHeartbeats 8000000 in
theorem in_any (q : MQ) (r : MRow) (b : Bool) (W : World) (hc : I64 q.column) : Calls Try.prog 34 #[qV q, rowV r, .bool b] W fun e w' => e = .returned (.bool (b && selR q.table q.column q.low q.high r)) ∧ Below W.heap.size W w' := by
  obtain ⟨k, t, c, l, h, y, o⟩ := q
  obtain ⟨rt, rk, ⟨ra, rb, rc⟩⟩ := r
  simp only at hc
  have HV := Lib.hid (fun w => value_any rt rk ra rb rc c w hc.1 hc.2)
  obtain ⟨v, Hv⟩ : ∃ v, Hid (vget ⟨rt, rk, ⟨ra, rb, rc⟩⟩ c = v) := ⟨_, Lib.hid rfl⟩
  have HE : Hid ((b && selR t c l h ⟨rt, rk, ⟨ra, rb, rc⟩⟩) = decide (b = true ∧ rt = t ∧ l ≤ v ∧ v ≤ h)) := Lib.hid (by
    unfold selR
    rw [Hv.out]
    cases b <;> simp)
  simp only
  rw [HE.out]
  rw [Hv.out] at HV
  have HK : Hid (Below W.heap.size W ((W.alloc (.cells #[.int .i64 k, .int .i64 t, .int .i64 c, .int .i64 l, .int .i64 h, .int .i64 y, .int .i64 o] 23)).alloc (.cells #[.int .i64 rt, .int .i64 rk, .int .i64 ra, .int .i64 rb, .int .i64 rc] 31)) ∧ ∀ w', Below ((W.alloc (.cells #[.int .i64 k, .int .i64 t, .int .i64 c, .int .i64 l, .int .i64 h, .int .i64 y, .int .i64 o] 23)).alloc (.cells #[.int .i64 rt, .int .i64 rk, .int .i64 ra, .int .i64 rb, .int .i64 rc] 31)).heap.size ((W.alloc (.cells #[.int .i64 k, .int .i64 t, .int .i64 c, .int .i64 l, .int .i64 h, .int .i64 y, .int .i64 o] 23)).alloc (.cells #[.int .i64 rt, .int .i64 rk, .int .i64 ra, .int .i64 rb, .int .i64 rc] 31)) w' → w'.cell? ⟨W.heap.size, 1, none⟩ = some (.int .i64 t) ∧ w'.cell? ⟨W.heap.size, 2, none⟩ = some (.int .i64 c) ∧ w'.cell? ⟨W.heap.size, 3, none⟩ = some (.int .i64 l) ∧ w'.cell? ⟨W.heap.size, 4, none⟩ = some (.int .i64 h) ∧ w'.cell? ⟨W.heap.size + 1, 0, none⟩ = some (.int .i64 rt) ∧ w'.cell? ⟨W.heap.size + 1, 1, none⟩ = some (.int .i64 rk) ∧ w'.cell? ⟨W.heap.size + 1, 2, none⟩ = some (.int .i64 ra) ∧ w'.cell? ⟨W.heap.size + 1, 3, none⟩ = some (.int .i64 rb) ∧ w'.cell? ⟨W.heap.size + 1, 4, none⟩ = some (.int .i64 rc)) := Lib.hid ⟨bt (ba W _) (ba _ _), fun w' hb => by
    have e1 := (hb.block W.heap.size (by simp; omega)).trans (((ba (W.alloc (.cells #[.int .i64 k, .int .i64 t, .int .i64 c, .int .i64 l, .int .i64 h, .int .i64 y, .int .i64 o] 23)) _).block _ (by simp)).trans (heap_alloc_new W _))
    have e2 := heap_alloc_new (W.alloc (.cells #[.int .i64 k, .int .i64 t, .int .i64 c, .int .i64 l, .int .i64 h, .int .i64 y, .int .i64 o] 23)) (.cells #[.int .i64 rt, .int .i64 rk, .int .i64 ra, .int .i64 rb, .int .i64 rc] 31)
    rw [World.size_alloc] at e2
    have e3 := (hb.block (W.heap.size + 1) (by simp)).trans e2
    refine ⟨?_, ?_, ?_, ?_, ?_, ?_, ?_, ?_, ?_⟩ <;> simp [World.cell?, e1, e3]⟩
  unfold qV rowV at *
  simp only at *
  cases b
  · have HD : Hid (decide (false = true ∧ rt = t ∧ l ≤ v ∧ v ≤ h) = false) := Lib.hid (by simp)
    rw [HD.out]
    clear HE Hv hc
    go_enter Try.func34, Try.ntmps34
    go_upto_region 1 with fail
    generalize hw2 : (W.alloc (.cells #[.int .i64 k, .int .i64 t, .int .i64 c, .int .i64 l, .int .i64 h, .int .i64 y, .int .i64 o] 23)).alloc (.cells #[.int .i64 rt, .int .i64 rk, .int .i64 ra, .int .i64 rb, .int .i64 rc] 31) = w2
    rw [hw2] at HK
    clear hw2
    obtain ⟨c1, c2, c3, c4, c5, c6, c7, c8, c9⟩ := HK.out.2 _ (Below.refl _ _)
    go_quiet (fail)
    go_wp2_with fail
    go_ret
    exact ⟨rfl, bt HK.out.1 ⟨rfl, rfl, rfl, Nat.le_refl _, fun _ _ => rfl⟩⟩
  · by_cases h1 : rt = t
    · have g1 : (rt == t) = true := by simp [h1]
      by_cases h2 : l ≤ v
      · have g2 : decide (l ≤ v) = true := decide_eq_true h2
        have HD : Hid (decide (true = true ∧ rt = t ∧ l ≤ v ∧ v ≤ h) = decide (v ≤ h)) := Lib.hid (by simp [h1, h2])
        rw [HD.out]
        clear HE Hv hc h1 h2
        go_enter Try.func34, Try.ntmps34
        go_upto_region 1 with fail
        generalize hw2 : (W.alloc (.cells #[.int .i64 k, .int .i64 t, .int .i64 c, .int .i64 l, .int .i64 h, .int .i64 y, .int .i64 o] 23)).alloc (.cells #[.int .i64 rt, .int .i64 rk, .int .i64 ra, .int .i64 rb, .int .i64 rc] 31) = w2
        rw [hw2] at HK
        clear hw2
        have HBd : Hid (Below w2.heap.size w2 w2.drew) := Lib.hid ⟨rfl, rfl, rfl, Nat.le_refl _, fun _ _ => rfl⟩
        go_region_held3 (fun w' => w'.cell? ⟨W.heap.size, 1, none⟩ = some (.int .i64 t) ∧ w'.cell? ⟨W.heap.size, 2, none⟩ = some (.int .i64 c) ∧ w'.cell? ⟨W.heap.size, 3, none⟩ = some (.int .i64 l) ∧ w'.cell? ⟨W.heap.size, 4, none⟩ = some (.int .i64 h) ∧ w'.cell? ⟨W.heap.size + 1, 0, none⟩ = some (.int .i64 rt) ∧ w'.cell? ⟨W.heap.size + 1, 1, none⟩ = some (.int .i64 rk) ∧ w'.cell? ⟨W.heap.size + 1, 2, none⟩ = some (.int .i64 ra) ∧ w'.cell? ⟨W.heap.size + 1, 3, none⟩ = some (.int .i64 rb) ∧ w'.cell? ⟨W.heap.size + 1, 4, none⟩ = some (.int .i64 rc))
          (first | exact (HK.out.2 _ HBd.out) | exact (HK.out.2 _ hb1.out) | exact (HK.out.2 _ hb2.out))
          (first | (go_at_call 30; (with_reducible refine (HV.out _).mono ?_); rintro e w3 ⟨rfl, hb⟩; have hb1 := Lib.hid (bt HBd.out hb); clear hb) | (go_at_call 30; (with_reducible refine (HV.out _).mono ?_); rintro e w4 ⟨rfl, hb⟩; have hb2 := Lib.hid (bt hb1.out hb); clear hb))
        go_wp2_with fail
        go_ret
        exact ⟨rfl, bt HK.out.1 (by first | exact hb2.out | exact hb1.out | exact HBd.out)⟩
      · have HD : Hid (decide (true = true ∧ rt = t ∧ l ≤ v ∧ v ≤ h) = false) := Lib.hid (by simp [h2])
        rw [HD.out]
        subst h1
        exact in_low k rt c l h y o rk ra rb rc W v HV h2
    · have g1 : (rt == t) = false := by simp [h1]
      have HD : Hid (decide (true = true ∧ rt = t ∧ l ≤ v ∧ v ≤ h) = false) := Lib.hid (by simp [h1])
      rw [HD.out]
      clear HE Hv hc h1
      go_enter Try.func34, Try.ntmps34
      go_upto_region 1 with fail
      generalize hw2 : (W.alloc (.cells #[.int .i64 k, .int .i64 t, .int .i64 c, .int .i64 l, .int .i64 h, .int .i64 y, .int .i64 o] 23)).alloc (.cells #[.int .i64 rt, .int .i64 rk, .int .i64 ra, .int .i64 rb, .int .i64 rc] 31) = w2
      rw [hw2] at HK
      clear hw2
      obtain ⟨c1, c2, c3, c4, c5, c6, c7, c8, c9⟩ := HK.out.2 _ (Below.refl _ _)
      go_quiet (fail)
      go_wp2_with fail
      go_ret
      exact ⟨rfl, bt HK.out.1 ⟨rfl, rfl, rfl, Nat.le_refl _, fun _ _ => rfl⟩⟩
end Go.Proofs.Ytcffofjialihaaa
