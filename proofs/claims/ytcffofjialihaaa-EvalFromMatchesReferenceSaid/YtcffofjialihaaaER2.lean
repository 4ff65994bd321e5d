/- WALK: the reference's From (18). -/
import Derived.Test.YtcffofjialihaaaER1
import Derived.Deep.AppendLies
import Derived.Deep.RegionLaw
set_option linter.unusedVariables false
set_option linter.unusedSimpArgs false
namespace Go.Proofs.Ytcffofjialihaaa
open Go.RowKit Go.Sort Go.ChangeMaps Go.MapKept

/-- What From has at hand: its query in a variable, its result in another. -/
structure FS (W w : World) (q : MQ) (a : Option Addr) (n c : Nat) (r : MRes) : Prop where
  old : Below W.heap.size W w
  qry : w.heap[W.heap.size]? = some (.cells (qC q) 23 (0, 0))
  ret : w.heap[W.heap.size + 1]? = some (.cells (resC (.slice none 0 0) 0 false) 27 (0, 0))
  out : w.heap[W.heap.size + 2]? = some (.cells (resC (.slice a n c) r.val r.fnd) 27 (0, 0))
  own : OwnR w (W.heap.size + 3) (.slice a n c) r.rows
theorem FS.below {W w w' : World} {q : MQ} {a : Option Addr} {n c : Nat} {r : MRes} (h : FS W w q a n c r) (k : Below w.heap.size w w') : FS W w' q a n c r :=
  ⟨bt h.old k, (k.block _ (lt_of_block h.qry)).trans h.qry, (k.block _ (lt_of_block h.ret)).trans h.ret, (k.block _ (lt_of_block h.out)).trans h.out, h.own.below k⟩
theorem FS.set {W w : World} {q : MQ} {a a' : Option Addr} {n n' c c' : Nat} {r r' : MRes} (h : FS W w q a n c r) {j : Nat} {u : Value} (hq : (resC (.slice a n c) r.val r.fnd).setIfInBounds j u = resC (.slice a' n' c') r'.val r'.fnd) (hO : OwnR w (W.heap.size + 3) (.slice a' n' c') r'.rows) : FS W (w.setCell ⟨W.heap.size + 2, j, none⟩ u) q a' n' c' r' :=
  ⟨below_setCell h.old (by show W.heap.size ≤ W.heap.size + 2; omega) u, (Below.heap_setCell _ _ _ _ (by show W.heap.size ≠ W.heap.size + 2; omega)).trans h.qry, (Below.heap_setCell _ _ _ _ (by show W.heap.size + 1 ≠ W.heap.size + 2; omega)).trans h.ret, by rw [setC_heap h.out j u, hq], hO.kept (F := fun i => i = W.heap.size + 2) (Kept.setCell (F := fun i => i = W.heap.size + 2) (p := ⟨W.heap.size + 2, j, none⟩) (Kept.refl _ _) (.inl rfl) u) (fun i hi e => by omega)⟩
theorem FS.g4 {W w w' : World} {q : MQ} {a : Option Addr} {n c : Nat} {r : MRes} (h : FS W w q a n c r) (hg : w.grownBy w' (Value.slice a n c).ownBlock) : Below W.heap.size W w' ∧ w'.heap[W.heap.size]? = some (.cells (qC q) 23 (0, 0)) ∧ w'.heap[W.heap.size + 1]? = some (.cells (resC (.slice none 0 0) 0 false) 27 (0, 0)) ∧ w'.heap[W.heap.size + 2]? = some (.cells (resC (.slice a n c) r.val r.fnd) 27 (0, 0)) := by
  have hne : ∀ i, i < W.heap.size + 3 → some i ≠ (Value.slice a n c).ownBlock := fun i hi e => by
    have := h.own.own_ge e.symm
    omega
  exact ⟨h.old.grown hg h.old.size (fun k hk => by have := h.own.own_ge hk; omega), (hg.block _ (lt_of_block h.qry) (hne _ (by omega))).trans h.qry, (hg.block _ (lt_of_block h.ret) (hne _ (by omega))).trans h.ret, (hg.block _ (lt_of_block h.out) (hne _ (by omega))).trans h.out⟩
theorem FS.app {W w w' : World} {q : MQ} {a a2 : Option Addr} {n c n2 c2 : Nat} {T T2 : List MRow} {v : Int} {f : Bool} (h : FS W w q a n c ⟨T, v, f⟩) (hg : w.grownBy w' (Value.slice a n c).ownBlock) (ho : OwnR w' (W.heap.size + 3) (.slice a2 n2 c2) T2) : FS W (w'.setCell ⟨W.heap.size + 2, 0, none⟩ (.slice a2 n2 c2)) q a2 n2 c2 ⟨T2, v, f⟩ := by
  obtain ⟨h1, h2, h3, h4⟩ := h.g4 hg
  exact ⟨below_setCell h1 (by show W.heap.size ≤ W.heap.size + 2; omega) _, (Below.heap_setCell _ _ _ _ (by show W.heap.size ≠ W.heap.size + 2; omega)).trans h2, (Below.heap_setCell _ _ _ _ (by show W.heap.size + 1 ≠ W.heap.size + 2; omega)).trans h3, by rw [setC_heap h4 0]; rfl, ho.kept (F := fun i => i = W.heap.size + 2) (Kept.setCell (F := fun i => i = W.heap.size + 2) (p := ⟨W.heap.size + 2, 0, none⟩) (Kept.refl _ _) (.inl rfl) _) (fun i hi e => by omega)⟩
theorem res1 {q : MQ} (hv : validB q = true) (hk : q.kind = 1) (M O : List MRow) : resM q M O = ⟨M, 0, false⟩ := by
  unfold resM
  rw [if_neg (by rw [hv]; decide), if_neg (by omega), if_neg (by omega), if_neg (by omega), if_neg (by omega), if_neg (by omega)]
theorem res7 {q : MQ} (hv : validB q = true) (hk : q.kind = 7) (M O : List MRow) : resM q M O = ⟨M.flatMap (fun r => match firstM q.other (vget r q.by_) O with | some p => [r, p] | none => []), 0, false⟩ := by
  unfold resM
  rw [if_neg (by rw [hv]; decide), if_neg (by omega), if_neg (by omega), if_neg (by omega), if_neg (by omega), if_pos hk]
  congr 1
  congr 1
  funext r
  unfold pairR
  rw [lookK_fold]
  rfl
theorem res_nil {q : MQ} (hv : validB q = true) (O : List MRow) : resM q [] O = ⟨[], 0, false⟩ := by
  unfold resM
  rw [if_neg (by rw [hv]; decide)]
  repeat' split
  all_goals rfl

set_option maxRecDepth 100000 in
set_option maxHeartbeats 16000000 in
theorem fromR_any {W : World} {q : MQ} {va vb : Value} {L O : List MRow} (hR : RowS W va L) (hO : RowS W vb O) (hq : I64 q.by_) (hl : L.length ≤ 40000) :
    Calls Try.prog 18 #[qV q, va, vb] W (ResOut W (resM q L O)) := by
  have HR := Lib.hid hR
  have HO := Lib.hid hO
  obtain ⟨aL, nL, cL, rfl, hnL, -, -, -⟩ := hR
  obtain ⟨aO, nO, cO, rfl, hnO, -, -, -⟩ := hO
  have HNL := Lib.hid hnL
  have HNO := Lib.hid hnO
  have hL4 : nL ≤ 40000 := by omega
  have HQ := Lib.hid hq
  have HRV := Lib.hid (fun w => rvalid_any q w)
  obtain ⟨qk, qt, qc, ql, qh, qy, qo⟩ := q
  unfold qV at HRV ⊢
  simp only at HRV HQ
  clear hnL hnO hq hl
  have hWn : W.heap.size ≤ W.heap.size + 1 := by omega
  go_enter Try.func18, Try.ntmps18
  go_upto_region 2 with fail
  generalize hw1 : ((W.alloc _).alloc _).alloc _ = w1
  have HF1 : Hid (FS W w1 ⟨qk, qt, qc, ql, qh, qy, qo⟩ none 0 0 ⟨[], 0, false⟩) := Lib.hid (by
    rw [← hw1]
    refine ⟨bt (bt (ba W _) (ba _ _)) (ba _ _), ?_, ?_, ?_, OwnR.nil _ _⟩
    · exact ((bt (ba (W.alloc _) _) (ba _ _)).block _ (by simp)).trans (heap_alloc_new W _)
    · have h := heap_alloc_new (W.alloc (.cells (qC ⟨qk, qt, qc, ql, qh, qy, qo⟩) 23)) (.cells (resC (.slice none 0 0) 0 false) 27)
      rw [World.size_alloc] at h
      exact ((ba _ _).block _ (by simp)).trans h
    · have h := heap_alloc_new ((W.alloc (.cells (qC ⟨qk, qt, qc, ql, qh, qy, qo⟩) 23)).alloc (.cells (resC (.slice none 0 0) 0 false) 27)) (.cells (resC (.slice none 0 0) 0 false) 27)
      rw [World.size_alloc, World.size_alloc] at h
      exact h)
  clear hw1
  have c0 : w1.cell? ⟨W.heap.size, 0, none⟩ = some (.int .i64 qk) := by simp [World.cell?, qC, HF1.out.qry]
  have c1 : w1.cell? ⟨W.heap.size, 1, none⟩ = some (.int .i64 qt) := by simp [World.cell?, qC, HF1.out.qry]
  have c2 : w1.cell? ⟨W.heap.size, 2, none⟩ = some (.int .i64 qc) := by simp [World.cell?, qC, HF1.out.qry]
  have c3 : w1.cell? ⟨W.heap.size, 3, none⟩ = some (.int .i64 ql) := by simp [World.cell?, qC, HF1.out.qry]
  have c4 : w1.cell? ⟨W.heap.size, 4, none⟩ = some (.int .i64 qh) := by simp [World.cell?, qC, HF1.out.qry]
  have c5 : w1.cell? ⟨W.heap.size, 5, none⟩ = some (.int .i64 qy) := by simp [World.cell?, qC, HF1.out.qry]
  have c6 : w1.cell? ⟨W.heap.size, 6, none⟩ = some (.int .i64 qo) := by simp [World.cell?, qC, HF1.out.qry]
  cases hvq : validB ⟨qk, qt, qc, ql, qh, qy, qo⟩
  · rw [hvq] at HRV
    have HE : Hid (resM ⟨qk, qt, qc, ql, qh, qy, qo⟩ L O = ⟨[], 0, false⟩) := Lib.hid (by unfold resM; rw [if_pos hvq])
    clear hvq
    go_wp2_with fail
    (with_reducible refine (HRV.out _).mono ?_)
    rintro e w2 ⟨rfl, hb⟩
    have HF2 := Lib.hid (HF1.out.below hb)
    clear hb c0 c1 c2 c3 c4 c5 c6
    have o0 : w2.cell? ⟨W.heap.size + 2, 0, none⟩ = some (.slice none 0 0) := by simp [World.cell?, HF2.out.out]
    have o1 : w2.cell? ⟨W.heap.size + 2, 1, none⟩ = some (.int .i64 0) := by simp [World.cell?, HF2.out.out]
    have o2 : w2.cell? ⟨W.heap.size + 2, 2, none⟩ = some (.bool false) := by simp [World.cell?, HF2.out.out]
    have t0 : w2.cell? ⟨W.heap.size + 1, 0, none⟩ = some (.slice none 0 0) := by simp [World.cell?, HF2.out.ret]
    have t1 : w2.cell? ⟨W.heap.size + 1, 1, none⟩ = some (.int .i64 0) := by simp [World.cell?, HF2.out.ret]
    have t2 : w2.cell? ⟨W.heap.size + 1, 2, none⟩ = some (.bool false) := by simp [World.cell?, HF2.out.ret]
    have tf : ∀ j, w2.frozen? ⟨W.heap.size + 1, j, none⟩ = false := fun j => by simp [World.frozen?, HF2.out.ret]
    go_wp2_with fail
    refine bodyPost_ret (v := resV (.slice none 0 0) 0 false) (results_cell_row rfl _ _ (W.heap.size + 1) 27 _ (0, 0) _ rfl (set3_heap HF2.out.ret) Try.underlying27 rfl (by kernel_rfl)) rfl (res_eq HE.out ⟨_, rfl, OwnR.nil _ _, below_setCell (below_setCell (below_setCell HF2.out.old hWn _) hWn _) hWn _⟩)
  rw [hvq] at HRV
  have HVq := Lib.hid hvq
  clear hvq
  go_wp2_with fail
  (with_reducible refine (HRV.out _).mono ?_)
  rintro e w2 ⟨rfl, hb⟩
  have HF2 := Lib.hid (HF1.out.below hb)
  clear hb c0 c1 c2 c3 c4 c5 c6 HF1 HRV
  go_wp2_with fail
  go_loopw [8] (fun i wr => ∃ k : Nat, k ≤ nL ∧ i = .int .i64 k ∧ Hid (∃ a n c, FS W wr ⟨qk, qt, qc, ql, qh, qy, qo⟩ a n c (resM ⟨qk, qt, qc, ql, qh, qy, qo⟩ (L.take k) O))) (fun i _ => nL - (intOf i).toNat)
  case atStart =>
    refine ⟨0, by omega, rfl, Lib.hid ⟨none, 0, 0, ?_⟩⟩
    rw [List.take_zero, res_nil HVq.out]
    exact HF2.out
  case round =>
    obtain ⟨k, hk, rfl, HFx⟩ := hrel
    obtain ⟨a, n, c, hF⟩ := HFx.out
    by_cases hlt : k < nL
    · have hki : (k : Int) < nL := by omega
      obtain ⟨g2, o2', cp2, e2, hg2, hrw⟩ := rowS_form nL HR.out HNL.out.symm (by omega)
      simp only [Value.slice.injEq] at e2
      obtain ⟨rfl, -, rfl⟩ := e2
      have hkL : k < L.length := by rw [← HNL.out]; exact hlt
      have HkL := Lib.hid hkL
      have HRw := Lib.hid ((hrw k hlt).below hg2 hF.old)
      have Ht1 : Hid (L.take (k + 1) = L.take k ++ [L.getD k rowZ]) := Lib.hid (take_snoc' hkL)
      obtain ⟨⟨rt, rk, ⟨ra, rb, rc⟩⟩, Hr⟩ : ∃ r, Hid (L.getD k rowZ = r) := ⟨_, Lib.hid rfl⟩
      rw [Hr.out] at HRw Ht1
      have HVal := Lib.hid (fun w => refValue_any rt rk ra rb rc qy w HQ.out.1 HQ.out.2)
      obtain ⟨m, Hm⟩ : ∃ m, Hid (vget ⟨rt, rk, ⟨ra, rb, rc⟩⟩ qy = m) := ⟨_, Lib.hid rfl⟩
      simp only [Hm.out] at HVal
      unfold rowV at HVal
      simp only at HVal
      obtain ⟨T, v, f, HT⟩ : ∃ T v f, Hid (resM ⟨qk, qt, qc, ql, qh, qy, qo⟩ (L.take k) O = ⟨T, v, f⟩) := ⟨_, _, _, Lib.hid rfl⟩
      rw [HT.out] at hF
      have HF := Lib.hid hF
      have hg3 : g2 < wr.heap.size := Nat.lt_of_lt_of_le hg2 hF.old.size
      have Hg3 := Lib.hid hg3
      have hgo : g2 ≠ W.heap.size + 2 := by omega
      clear hF hkL hg3 hg2 hrw HFx HF2
      go_upto_region 7 with fail
      have HGr : Hid (∀ w0, BW wr w0 → ∀ d' os, RwO (grow (redrawn w0 d') os) g2 (o2' + k * 5) ⟨rt, rk, ⟨ra, rb, rc⟩⟩) := Lib.hid (fun w0 h d' os => HRw.out.below Hg3.out (bt h (below_regrown w0 d' os)))
      have HGq : Hid (∀ w0, BW wr w0 → ∀ d' os, (grow (redrawn w0 d') os).heap[W.heap.size]? = some (.cells (qC ⟨qk, qt, qc, ql, qh, qy, qo⟩) 23 (0, 0))) := Lib.hid (fun w0 h d' os => ((show Below wr.heap.size wr (grow (redrawn w0 d') os) from bt h (below_regrown w0 d' os)).block _ (lt_of_block HF.out.qry)).trans HF.out.qry)
      have gy : ∀ w0, BW wr w0 → ∀ d' os, (grow (redrawn w0 d') os).cell? ⟨W.heap.size, 5, none⟩ = some (.int .i64 qy) := fun w0 h d' os => by simp [World.cell?, qC, HGq.out w0 h d' os]
      have gr0 : ∀ w0, BW wr w0 → ∀ d' os, (grow (redrawn w0 d') os).cell? ⟨g2, o2' + k * 5, none⟩ = some (.int .i64 rt) := fun w0 h d' os => (HGr.out w0 h d' os).cells.1
      have gr1 : ∀ w0, BW wr w0 → ∀ d' os, (grow (redrawn w0 d') os).cell? ⟨g2, o2' + k * 5 + 1, none⟩ = some (.int .i64 rk) := fun w0 h d' os => (HGr.out w0 h d' os).cells.2.1
      have gr2 : ∀ w0, BW wr w0 → ∀ d' os, (grow (redrawn w0 d') os).cell? ⟨g2, o2' + k * 5 + 2, none⟩ = some (.int .i64 ra) := fun w0 h d' os => (HGr.out w0 h d' os).cells.2.2.1
      have gr3 : ∀ w0, BW wr w0 → ∀ d' os, (grow (redrawn w0 d') os).cell? ⟨g2, o2' + k * 5 + 3, none⟩ = some (.int .i64 rb) := fun w0 h d' os => (HGr.out w0 h d' os).cells.2.2.2.1
      have gr4 : ∀ w0, BW wr w0 → ∀ d' os, (grow (redrawn w0 d') os).cell? ⟨g2, o2' + k * 5 + 4, none⟩ = some (.int .i64 rc) := fun w0 h d' os => (HGr.out w0 h d' os).cells.2.2.2.2
      refine wp_region_calm 7 8 [0, 1, 2, 3, 4, 5, 6] (by kernel_rfl) (by kernel_rfl) (by intro oz h; simp at h) (by intro oz h; simp at h) (by rfl) ?_
      simp only [List.take_succ_cons, List.take_zero]
      apply wpCalm_want
      · rfl
      · exact bc_refl
      · exact ⟨_, Below.refl _ _⟩
      · intro w00 hC0 K hK
        go_big_quiet_op
        exact hK
      apply wpCalm_want
      · rfl
      · exact bc_refl
      · exact ⟨_, Below.refl _ _⟩
      · intro w00 hC0 K hK
        go_big_quiet_op
        exact hK
      apply wpCalm_want
      · rfl
      · exact bc_refl
      · exact ⟨_, Below.refl _ _⟩
      · intro w00 hC0 K hK
        go_big_quiet_op
        exact hK
      apply wpCalm_want
      · rfl
      · exact bc_refl
      · exact ⟨_, Below.refl _ _⟩
      · intro w00 hC0 K hK
        go_big_quiet_op
        exact hK
      apply wpCalm_want
      · rfl
      · exact bc_refl
      · exact ⟨_, Below.refl _ _⟩
      · intro w00 hC0 K hK
        go_big_quiet_op
        exact hK
      apply wpCalm_want
      · rfl
      · exact bc_refl
      · exact ⟨_, Below.refl _ _⟩
      · intro w00 hC0 K hK
        go_big_quiet_op
        exact hK
      apply wpCalm_want
      · rfl
      · exact bc_refl
      · exact ⟨_, Below.refl _ _⟩
      · intro w00 hC0 K hK
        go_big_quiet_op
        apply Exists.intro
        refine ⟨fun p => ?_, ?_⟩
        · exact Calls.regrown_of (HVal.out _)
        · exact hK
      refine wpCalm_nil ?_
      intro wq hbq
      try simp only [List.drop_succ_cons, List.drop_zero]
      clear gy gr0 gr1 gr2 gr3 gr4
      have HFq := Lib.hid (HF.out.below hbq)
      have HRq := Lib.hid (HRw.out.below Hg3.out hbq)
      have hgq : g2 < wq.heap.size := Nat.lt_of_lt_of_le Hg3.out hbq.size
      have Hgq := Lib.hid hgq
      clear hbq HGr HGq HF HRw HVal Hg3 hgq
      have HK := Lib.hid (valid_ok HVq.out).2
      obtain ⟨d0, d1, d2, d3, d4⟩ := HRq.out.cells
      simp only at d0 d1 d2 d3 d4
      have q0 : wq.cell? ⟨W.heap.size, 0, none⟩ = some (.int .i64 qk) := by simp [World.cell?, qC, HFq.out.qry]
      have o0 : wq.cell? ⟨W.heap.size + 2, 0, none⟩ = some (.slice a n c) := by simp [World.cell?, HFq.out.out]
      have o1 : wq.cell? ⟨W.heap.size + 2, 1, none⟩ = some (.int .i64 v) := by simp [World.cell?, HFq.out.out]
      have o2 : wq.cell? ⟨W.heap.size + 2, 2, none⟩ = some (.bool f) := by simp [World.cell?, HFq.out.out]
      have of : ∀ j, wq.frozen? ⟨W.heap.size + 2, j, none⟩ = false := fun j => by simp [World.frozen?, HFq.out.out]
      by_cases hk1 : qk = 1
      · skip
        have e1 : (qk == 1) = true := by simp [hk1]
        have HN : Hid (resM ⟨qk, qt, qc, ql, qh, qy, qo⟩ (L.take (k + 1)) O = ⟨T ++ [⟨rt, rk, ⟨ra, rb, rc⟩⟩], v, f⟩) := Lib.hid (by
          have h := HT.out
          rw [res1 HVq.out hk1] at h ⊢
          rw [Ht1.out]
          simp only [MRes.mk.injEq] at h ⊢
          obtain ⟨rfl, h2, h3⟩ := h
          exact ⟨rfl, h2, h3⟩)
        have HTl : Hid (T.length ≤ 40000) := Lib.hid (by
          have h := HT.out
          rw [res1 HVq.out hk1] at h
          simp only [MRes.mk.injEq] at h
          rw [← h.1, List.length_take]
          have := HNL.out
          omega)
        clear hk1
        have hob : ¬ W.heap.size + 2 = wq.heap.size := by have := lt_of_block HFq.out.out; omega
        have hog : ¬ g2 = wq.heap.size := by have := Hgq.out; omega
        have od : ∀ o, (wq.alloc o).drew.cell? ⟨W.heap.size + 2, 0, none⟩ = some (.slice a n c) := fun o => ((bt (ba wq o) (below_drew _)).cell (p := ⟨W.heap.size + 2, 0, none⟩) (lt_of_block HFq.out.out)).trans o0
        have od' : (wq.alloc (.cells #[.int .i64 rt, .int .i64 rk, .int .i64 ra, .int .i64 rb, .int .i64 rc] 31)).drew.cell? ⟨W.heap.size + 2, 0, none⟩ = some (.slice a n c) := od _
        go_upto_region 11 with fail
        go_region_law (first
          | (refine step_append_rows (by rfl) (.tmp 35) (.tmp 40) (by rfl) (W.heap.size + 3) (.slice a n c) _ T [⟨rt, rk, ⟨ra, rb, rc⟩⟩] (by rfl) (by rfl) (HFq.out.own.below (bt (below_drew _) (ba _ _))) (rowX_one (heap_alloc_new _ _)) (by have := HTl.out; simp; omega) (by have := lt_of_block HFq.out.out; simp; omega) ?_; intro v2 w2 ho2 hg2; obtain ⟨a2, n2, c2, rfl⟩ := ho2.form; have HFa := Lib.hid ((HFq.out.below (bt (below_drew _) (ba _ _))).app hg2 ho2); have HG4 := Lib.hid ((HFq.out.below (bt (below_drew _) (ba _ _))).g4 hg2); clear ho2 hg2; have f0 : w2.frozen? ⟨W.heap.size + 2, 0, none⟩ = false := (by simp [World.frozen?, HG4.out.2.2.2]); have x0 : w2.cell? ⟨W.heap.size + 2, 0, none⟩ = some (.slice a n c) := (by simp [World.cell?, HG4.out.2.2.2])))
        all_goals
          go_wp2_with fail
          refine ⟨⟨k + 1, by omega, by go_num, Lib.hid ⟨a2, n2, c2, ?_⟩⟩, by simp [intOf]; omega⟩
          rw [HN.out]
          exact HFa.out
      by_cases hk2 : qk = 2
      · skip
        have e1 : (qk == 1) = false := by simp [hk2]
        have e2 : (qk == 2) = true := by simp [hk2]
        have HN : Hid (resM ⟨qk, qt, qc, ql, qh, qy, qo⟩ (L.take (k + 1)) O = ⟨T ++ [⟨rt, rk, ⟨ra, rb, rc⟩⟩], v, f⟩) := Lib.hid (by
          have h := HT.out
          rw [res2 HVq.out hk2] at h ⊢
          rw [Ht1.out]
          simp only [MRes.mk.injEq] at h ⊢
          obtain ⟨rfl, h2, h3⟩ := h
          exact ⟨rfl, h2, h3⟩)
        have HTl : Hid (T.length ≤ 40000) := Lib.hid (by
          have h := HT.out
          rw [res2 HVq.out hk2] at h
          simp only [MRes.mk.injEq] at h
          rw [← h.1, List.length_take]
          have := HNL.out
          omega)
        clear hk2
        have hob : ¬ W.heap.size + 2 = wq.heap.size := by have := lt_of_block HFq.out.out; omega
        have hog : ¬ g2 = wq.heap.size := by have := Hgq.out; omega
        have od : ∀ o, (wq.alloc o).drew.cell? ⟨W.heap.size + 2, 0, none⟩ = some (.slice a n c) := fun o => ((bt (ba wq o) (below_drew _)).cell (p := ⟨W.heap.size + 2, 0, none⟩) (lt_of_block HFq.out.out)).trans o0
        have od' : (wq.alloc (.cells #[.int .i64 rt, .int .i64 rk, .int .i64 ra, .int .i64 rb, .int .i64 rc] 31)).drew.cell? ⟨W.heap.size + 2, 0, none⟩ = some (.slice a n c) := od _
        go_upto_region 11 with fail
        go_region_law (first
          | (refine step_append_rows (by rfl) (.tmp 35) (.tmp 40) (by rfl) (W.heap.size + 3) (.slice a n c) _ T [⟨rt, rk, ⟨ra, rb, rc⟩⟩] (by rfl) (by rfl) (HFq.out.own.below (bt (below_drew _) (ba _ _))) (rowX_one (heap_alloc_new _ _)) (by have := HTl.out; simp; omega) (by have := lt_of_block HFq.out.out; simp; omega) ?_; intro v2 w2 ho2 hg2; obtain ⟨a2, n2, c2, rfl⟩ := ho2.form; have HFa := Lib.hid ((HFq.out.below (bt (below_drew _) (ba _ _))).app hg2 ho2); have HG4 := Lib.hid ((HFq.out.below (bt (below_drew _) (ba _ _))).g4 hg2); clear ho2 hg2; have f0 : w2.frozen? ⟨W.heap.size + 2, 0, none⟩ = false := (by simp [World.frozen?, HG4.out.2.2.2]); have x0 : w2.cell? ⟨W.heap.size + 2, 0, none⟩ = some (.slice a n c) := (by simp [World.cell?, HG4.out.2.2.2])))
        all_goals
          go_wp2_with fail
          refine ⟨⟨k + 1, by omega, by go_num, Lib.hid ⟨a2, n2, c2, ?_⟩⟩, by simp [intOf]; omega⟩
          rw [HN.out]
          exact HFa.out
      by_cases hk3 : qk = 3
      · skip
        have e1 : (qk == 1) = false := by simp [hk3]
        have e2 : (qk == 2) = false := by simp [hk3]
        have e3 : (qk == 3) = true := by simp [hk3]
        have HN : Hid (resM ⟨qk, qt, qc, ql, qh, qy, qo⟩ (L.take (k + 1)) O = ⟨T, wrap64 (v + 1), f⟩) := Lib.hid (by
          have h := HT.out
          rw [res3 HVq.out hk3] at h ⊢
          rw [Ht1.out]
          simp only [MRes.mk.injEq, List.length_append, List.length_singleton] at h ⊢
          obtain ⟨rfl, h2, h3⟩ := h
          refine ⟨rfl, ?_, h3⟩
          rw [← h2, List.length_take]
          have := HNL.out
          push_cast
          unfold wrap64
          omega)
        have HFn := Lib.hid (HFq.out.set (j := 1) (u := .int .i64 (wrap64 (v + 1))) (r' := ⟨T, wrap64 (v + 1), f⟩) rfl HFq.out.own)
        clear hk3
        go_wp2_with fail
        refine ⟨⟨k + 1, by omega, by go_num, Lib.hid ⟨a, n, c, ?_⟩⟩, by simp [intOf]; omega⟩
        rw [HN.out]
        exact HFn.out
      by_cases hk4 : qk = 4
      · skip
        have e1 : (qk == 1) = false := by simp [hk4]
        have e2 : (qk == 2) = false := by simp [hk4]
        have e3 : (qk == 3) = false := by simp [hk4]
        have e4 : (qk == 4) = true := by simp [hk4]
        have HN : Hid (resM ⟨qk, qt, qc, ql, qh, qy, qo⟩ (L.take (k + 1)) O = ⟨T, wrap64 (v + m), f⟩) := Lib.hid (by
          have h := HT.out
          rw [res4 HVq.out hk4] at h ⊢
          have hs := sum_take (y := qy) HkL.out
          rw [Hr.out, Hm.out] at hs
          simp only [MRes.mk.injEq] at h ⊢
          obtain ⟨rfl, h2, h3⟩ := h
          refine ⟨rfl, ?_, h3⟩
          rw [hs, h2]
          rfl)
        have HFn := Lib.hid (HFq.out.set (j := 1) (u := .int .i64 (wrap64 (v + m))) (r' := ⟨T, wrap64 (v + m), f⟩) rfl HFq.out.own)
        clear hk4
        go_wp2_with fail
        refine ⟨⟨k + 1, by omega, by go_num, Lib.hid ⟨a, n, c, ?_⟩⟩, by simp [intOf]; omega⟩
        rw [HN.out]
        exact HFn.out
      by_cases hk5 : qk = 5
      · skip
        have e1 : (qk == 1) = false := by simp [hk5]
        have e2 : (qk == 2) = false := by simp [hk5]
        have e3 : (qk == 3) = false := by simp [hk5]
        have e4 : (qk == 4) = false := by simp [hk5]
        have e5 : (qk == 5) = true := by simp [hk5]
        have HN : Hid (resM ⟨qk, qt, qc, ql, qh, qy, qo⟩ (L.take (k + 1)) O = ⟨T, (extS ltB qy (v, f) ⟨rt, rk, ⟨ra, rb, rc⟩⟩).1, (extS ltB qy (v, f) ⟨rt, rk, ⟨ra, rb, rc⟩⟩).2⟩) := Lib.hid (by
          have h := HT.out
          rw [res5 HVq.out hk5] at h ⊢
          have hs : extF ltB qy (L.take (k + 1)) = extS ltB qy (extF ltB qy (L.take k)) (L.getD k rowZ) := foldl_take _ _ _ HkL.out
          rw [Hr.out] at hs
          simp only [MRes.mk.injEq] at h ⊢
          obtain ⟨rfl, h2, h3⟩ := h
          have he : extF ltB qy (L.take k) = (v, f) := Prod.ext h2 h3
          rw [hs, he]
          exact ⟨rfl, rfl, rfl⟩)
        cases f
        · have HE : Hid (resM ⟨qk, qt, qc, ql, qh, qy, qo⟩ (L.take (k + 1)) O = ⟨T, m, true⟩) := Lib.hid (by rw [HN.out]; unfold extS; rw [Hm.out]; rfl)
          have HF1 := Lib.hid (HFq.out.set (j := 1) (u := .int .i64 m) (r' := ⟨T, m, false⟩) rfl HFq.out.own)
          have HF2 := Lib.hid (HF1.out.set (j := 2) (u := .bool true) (r' := ⟨T, m, true⟩) rfl HF1.out.own)
          clear hk5
          go_wp2_with fail
          refine ⟨⟨k + 1, by omega, by go_num, Lib.hid ⟨a, n, c, ?_⟩⟩, by simp [intOf]; omega⟩
          rw [HE.out]
          exact HF2.out
        · by_cases hc : m < v
          · have hd : decide (m < v) = true := decide_eq_true hc
            have HE : Hid (resM ⟨qk, qt, qc, ql, qh, qy, qo⟩ (L.take (k + 1)) O = ⟨T, m, true⟩) := Lib.hid (by rw [HN.out]; unfold extS ltB; rw [Hm.out]; simp [hc])
            have HF1 := Lib.hid (HFq.out.set (j := 1) (u := .int .i64 m) (r' := ⟨T, m, true⟩) rfl HFq.out.own)
            have HF2 := Lib.hid (HF1.out.set (j := 2) (u := .bool true) (r' := ⟨T, m, true⟩) rfl HF1.out.own)
            clear hk5 hc
            go_wp2_with fail
            refine ⟨⟨k + 1, by omega, by go_num, Lib.hid ⟨a, n, c, ?_⟩⟩, by simp [intOf]; omega⟩
            rw [HE.out]
            exact HF2.out
          · have hd : decide (m < v) = false := decide_eq_false hc
            have HE : Hid (resM ⟨qk, qt, qc, ql, qh, qy, qo⟩ (L.take (k + 1)) O = ⟨T, v, true⟩) := Lib.hid (by rw [HN.out]; unfold extS ltB; rw [Hm.out]; simp [hc])
            have HF2 := Lib.hid (HFq.out.set (j := 2) (u := .bool true) (r' := ⟨T, v, true⟩) rfl HFq.out.own)
            clear hk5 hc
            go_wp2_with fail
            refine ⟨⟨k + 1, by omega, by go_num, Lib.hid ⟨a, n, c, ?_⟩⟩, by simp [intOf]; omega⟩
            rw [HE.out]
            exact HF2.out
      by_cases hk6 : qk = 6
      · skip
        have e1 : (qk == 1) = false := by simp [hk6]
        have e2 : (qk == 2) = false := by simp [hk6]
        have e3 : (qk == 3) = false := by simp [hk6]
        have e4 : (qk == 4) = false := by simp [hk6]
        have e5 : (qk == 5) = false := by simp [hk6]
        have e6 : (qk == 6) = true := by simp [hk6]
        have HN : Hid (resM ⟨qk, qt, qc, ql, qh, qy, qo⟩ (L.take (k + 1)) O = ⟨T, (extS gtB qy (v, f) ⟨rt, rk, ⟨ra, rb, rc⟩⟩).1, (extS gtB qy (v, f) ⟨rt, rk, ⟨ra, rb, rc⟩⟩).2⟩) := Lib.hid (by
          have h := HT.out
          rw [res6 HVq.out hk6] at h ⊢
          have hs : extF gtB qy (L.take (k + 1)) = extS gtB qy (extF gtB qy (L.take k)) (L.getD k rowZ) := foldl_take _ _ _ HkL.out
          rw [Hr.out] at hs
          simp only [MRes.mk.injEq] at h ⊢
          obtain ⟨rfl, h2, h3⟩ := h
          have he : extF gtB qy (L.take k) = (v, f) := Prod.ext h2 h3
          rw [hs, he]
          exact ⟨rfl, rfl, rfl⟩)
        cases f
        · have HE : Hid (resM ⟨qk, qt, qc, ql, qh, qy, qo⟩ (L.take (k + 1)) O = ⟨T, m, true⟩) := Lib.hid (by rw [HN.out]; unfold extS; rw [Hm.out]; rfl)
          have HF1 := Lib.hid (HFq.out.set (j := 1) (u := .int .i64 m) (r' := ⟨T, m, false⟩) rfl HFq.out.own)
          have HF2 := Lib.hid (HF1.out.set (j := 2) (u := .bool true) (r' := ⟨T, m, true⟩) rfl HF1.out.own)
          clear hk6
          go_wp2_with fail
          refine ⟨⟨k + 1, by omega, by go_num, Lib.hid ⟨a, n, c, ?_⟩⟩, by simp [intOf]; omega⟩
          rw [HE.out]
          exact HF2.out
        · by_cases hc : v < m
          · have hd : decide (v < m) = true := decide_eq_true hc
            have HE : Hid (resM ⟨qk, qt, qc, ql, qh, qy, qo⟩ (L.take (k + 1)) O = ⟨T, m, true⟩) := Lib.hid (by rw [HN.out]; unfold extS gtB; rw [Hm.out]; simp [hc])
            have HF1 := Lib.hid (HFq.out.set (j := 1) (u := .int .i64 m) (r' := ⟨T, m, true⟩) rfl HFq.out.own)
            have HF2 := Lib.hid (HF1.out.set (j := 2) (u := .bool true) (r' := ⟨T, m, true⟩) rfl HF1.out.own)
            clear hk6 hc
            go_wp2_with fail
            refine ⟨⟨k + 1, by omega, by go_num, Lib.hid ⟨a, n, c, ?_⟩⟩, by simp [intOf]; omega⟩
            rw [HE.out]
            exact HF2.out
          · have hd : decide (v < m) = false := decide_eq_false hc
            have HE : Hid (resM ⟨qk, qt, qc, ql, qh, qy, qo⟩ (L.take (k + 1)) O = ⟨T, v, true⟩) := Lib.hid (by rw [HN.out]; unfold extS gtB; rw [Hm.out]; simp [hc])
            have HF2 := Lib.hid (HFq.out.set (j := 2) (u := .bool true) (r' := ⟨T, v, true⟩) rfl HFq.out.own)
            clear hk6 hc
            go_wp2_with fail
            refine ⟨⟨k + 1, by omega, by go_num, Lib.hid ⟨a, n, c, ?_⟩⟩, by simp [intOf]; omega⟩
            rw [HE.out]
            exact HF2.out
      by_cases hk7 : qk = 7
      · skip
        have e1 : (qk == 1) = false := by simp [hk7]
        have e2 : (qk == 2) = false := by simp [hk7]
        have e3 : (qk == 3) = false := by simp [hk7]
        have e4 : (qk == 4) = false := by simp [hk7]
        have e5 : (qk == 5) = false := by simp [hk7]
        have e6 : (qk == 6) = false := by simp [hk7]
        have e7 : (qk == 7) = true := by simp [hk7]
        have HT7 : Hid ((L.take k).flatMap (fun r => match firstM qo (vget r qy) O with | some p => [r, p] | none => []) = T ∧ v = 0 ∧ f = false) := Lib.hid (by
          have h := HT.out
          rw [res7 HVq.out hk7] at h
          simp only [MRes.mk.injEq] at h
          exact ⟨h.1, h.2.1.symm, h.2.2.symm⟩)
        have HR7 : Hid (∀ M, resM ⟨qk, qt, qc, ql, qh, qy, qo⟩ M O = ⟨M.flatMap (fun r => match firstM qo (vget r qy) O with | some p => [r, p] | none => []), 0, false⟩) := Lib.hid (fun M => res7 HVq.out hk7 M O)
        have HTl : Hid (T.length ≤ 80000) := Lib.hid (by
          have h := HT7.out.1
          rw [← h]
          have hk' := HkL.out
          have hl := HNL.out
          have hgen : ∀ M : List MRow, (M.flatMap (fun r => match firstM qo (vget r qy) O with | some p => [r, p] | none => [])).length ≤ 2 * M.length := fun M => by
            induction M with
            | nil => simp
            | cons x M ih =>
              rw [List.flatMap_cons, List.length_append, List.length_cons]
              have : ((fun r => match firstM qo (vget r qy) O with | some p => [r, p] | none => []) x).length ≤ 2 := by
                simp only
                split <;> simp
              simp only at this ⊢
              omega
          have h2 := hgen (L.take k)
          rw [List.length_take] at h2
          omega)
        obtain ⟨hv0, hf0⟩ := HT7.out.2
        subst hv0 hf0
        have HOq := Lib.hid (HO.out.below HFq.out.old)
        have HP := Lib.hid (partner_any HOq.out qo m)
        have q6 : wq.cell? ⟨W.heap.size, 6, none⟩ = some (.int .i64 qo) := by simp [World.cell?, qC, HFq.out.qry]
        obtain ⟨ok, Hok⟩ : ∃ ok, Hid ((firstM qo m O).isSome = ok) := ⟨_, Lib.hid rfl⟩
        obtain ⟨⟨pt, pk', ⟨pa, pb, pc⟩⟩, Hp⟩ : ∃ r, Hid ((firstM qo m O).getD rowZ = r) := ⟨_, Lib.hid rfl⟩
        rw [Hok.out, Hp.out] at HP
        unfold rowV at HP
        simp only at HP
        clear hk7
        go_upto_region 25 with fail
        go_wp2_with fail
        (with_reducible refine HP.out.mono ?_)
        rintro e w3 ⟨rfl, hb⟩
        clear q0 o0 o1 o2 of d0 d1 d2 d3 d4 q6 e1 e2 e3 e4 e5 e6 e7
        go_upto_region 26 with fail
        generalize hw4 : w3.alloc _ = w4
        have HB4 : Hid (Below wq.heap.size wq w4) := Lib.hid (by rw [← hw4]; exact bt hb (ba _ _))
        have HPb : Hid (w4.heap[w3.heap.size]? = some (.cells #[.int .i64 pt, .int .i64 pk', .int .i64 pa, .int .i64 pb, .int .i64 pc] 31 (0, 0))) := Lib.hid (by rw [← hw4]; exact heap_alloc_new w3 _)
        obtain ⟨pB, HpB⟩ : ∃ b, Hid (w3.heap.size = b) := ⟨_, Lib.hid rfl⟩
        rw [HpB.out] at HPb ⊢
        have HF4 := Lib.hid (HFq.out.below HB4.out)
        have HR4 := Lib.hid (HRq.out.below Hgq.out HB4.out)
        clear hw4 hb HP HOq HFq HRq HB4 HpB Hgq
        cases ok
        · have hn : firstM qo m O = none := by
            have h := Hok.out
            cases hl : firstM qo m O with
            | none => rfl
            | some p => rw [hl] at h; simp at h
          have HN : Hid (resM ⟨qk, qt, qc, ql, qh, qy, qo⟩ (L.take (k + 1)) O = ⟨T, 0, false⟩) := Lib.hid (by
            rw [HR7.out, Ht1.out, List.flatMap_append, HT7.out.1, List.flatMap_singleton, Hm.out, hn]
            simp)
          clear hn
          go_wp2_with fail
          refine ⟨⟨k + 1, by omega, by go_num, Lib.hid ⟨a, n, c, ?_⟩⟩, by simp [intOf]; omega⟩
          rw [HN.out]
          exact HF4.out
        · have hn : firstM qo m O = some ⟨pt, pk', ⟨pa, pb, pc⟩⟩ := by
            have h := Hok.out
            have h2 := Hp.out
            cases hl : firstM qo m O with
            | none => rw [hl] at h; simp at h
            | some p => rw [hl] at h2; simpa using h2
          have HN : Hid (resM ⟨qk, qt, qc, ql, qh, qy, qo⟩ (L.take (k + 1)) O = ⟨T ++ [⟨rt, rk, ⟨ra, rb, rc⟩⟩, ⟨pt, pk', ⟨pa, pb, pc⟩⟩], 0, false⟩) := Lib.hid (by
            rw [HR7.out, Ht1.out, List.flatMap_append, HT7.out.1, List.flatMap_singleton, Hm.out, hn])
          clear hn
          obtain ⟨d0, d1, d2, d3, d4⟩ := HR4.out.cells
          simp only at d0 d1 d2 d3 d4
          have o0 : w4.cell? ⟨W.heap.size + 2, 0, none⟩ = some (.slice a n c) := by simp [World.cell?, HF4.out.out]
          have pp0 : w4.cell? ⟨pB, 0, none⟩ = some (.int .i64 pt) := by simp [World.cell?, HPb.out]
          have pp1 : w4.cell? ⟨pB, 1, none⟩ = some (.int .i64 pk') := by simp [World.cell?, HPb.out]
          have pp2 : w4.cell? ⟨pB, 2, none⟩ = some (.int .i64 pa) := by simp [World.cell?, HPb.out]
          have pp3 : w4.cell? ⟨pB, 3, none⟩ = some (.int .i64 pb) := by simp [World.cell?, HPb.out]
          have pp4 : w4.cell? ⟨pB, 4, none⟩ = some (.int .i64 pc) := by simp [World.cell?, HPb.out]
          have hob : ¬ W.heap.size + 2 = w4.heap.size := by have := lt_of_block HF4.out.out; omega
          have od : ∀ o, (w4.alloc o).drew.cell? ⟨W.heap.size + 2, 0, none⟩ = some (.slice a n c) := fun o => ((bt (ba w4 o) (below_drew _)).cell (p := ⟨W.heap.size + 2, 0, none⟩) (lt_of_block HF4.out.out)).trans o0
          have od' : (w4.alloc (.cells #[.int .i64 rt, .int .i64 rk, .int .i64 ra, .int .i64 rb, .int .i64 rc, .int .i64 pt, .int .i64 pk', .int .i64 pa, .int .i64 pb, .int .i64 pc] 31)).drew.cell? ⟨W.heap.size + 2, 0, none⟩ = some (.slice a n c) := od _
          go_upto_region 27 with fail
          go_region_law (first
            | (refine step_append_rows (by rfl) (.tmp 96) (.tmp 102) (by rfl) (W.heap.size + 3) (.slice a n c) _ T [⟨rt, rk, ⟨ra, rb, rc⟩⟩, ⟨pt, pk', ⟨pa, pb, pc⟩⟩] (by rfl) (by rfl) (HF4.out.own.below (bt (below_drew _) (ba _ _))) (rowX_two (r := ⟨rt, rk, ⟨ra, rb, rc⟩⟩) (p := ⟨pt, pk', ⟨pa, pb, pc⟩⟩) (heap_alloc_new _ _)) (by have := HTl.out; simp; omega) (by have := lt_of_block HF4.out.out; simp; omega) ?_; intro v2 w2 ho2 hg2; obtain ⟨a2, n2, c2, rfl⟩ := ho2.form; have HFa := Lib.hid ((HF4.out.below (bt (below_drew _) (ba _ _))).app hg2 ho2); have HG4 := Lib.hid ((HF4.out.below (bt (below_drew _) (ba _ _))).g4 hg2); clear ho2 hg2; have f0 : w2.frozen? ⟨W.heap.size + 2, 0, none⟩ = false := (by simp [World.frozen?, HG4.out.2.2.2]); have x0 : w2.cell? ⟨W.heap.size + 2, 0, none⟩ = some (.slice a n c) := (by simp [World.cell?, HG4.out.2.2.2])))
          all_goals
            go_wp2_with fail
            refine ⟨⟨k + 1, by omega, by go_num, Lib.hid ⟨a2, n2, c2, ?_⟩⟩, by simp [intOf]; omega⟩
            rw [HN.out]
            exact HFa.out
      · have hk := HK.out
        simp only at hk
        omega
    · have hkn : k = nL := by omega
      subst hkn
      rw [HNL.out, List.take_length] at hF
      have HF := Lib.hid hF
      clear hF
      obtain ⟨T, v, f, HT⟩ : ∃ T v f, Hid (resM ⟨qk, qt, qc, ql, qh, qy, qo⟩ L O = ⟨T, v, f⟩) := ⟨_, _, _, Lib.hid rfl⟩
      rw [HT.out] at HF
      have o0 : wr.cell? ⟨W.heap.size + 2, 0, none⟩ = some (.slice a n c) := by simp [World.cell?, HF.out.out]
      have o1 : wr.cell? ⟨W.heap.size + 2, 1, none⟩ = some (.int .i64 v) := by simp [World.cell?, HF.out.out]
      have o2 : wr.cell? ⟨W.heap.size + 2, 2, none⟩ = some (.bool f) := by simp [World.cell?, HF.out.out]
      have t0 : wr.cell? ⟨W.heap.size + 1, 0, none⟩ = some (.slice none 0 0) := by simp [World.cell?, HF.out.ret]
      have t1 : wr.cell? ⟨W.heap.size + 1, 1, none⟩ = some (.int .i64 0) := by simp [World.cell?, HF.out.ret]
      have t2 : wr.cell? ⟨W.heap.size + 1, 2, none⟩ = some (.bool false) := by simp [World.cell?, HF.out.ret]
      have tf : ∀ j, wr.frozen? ⟨W.heap.size + 1, j, none⟩ = false := fun j => by simp [World.frozen?, HF.out.ret]
      have hob : ¬ W.heap.size + 2 = W.heap.size + 1 := by omega
      go_wp2_with fail
      refine bodyPost_ret (v := resV (.slice a n c) v f) (results_cell_row rfl _ _ (W.heap.size + 1) 27 _ (0, 0) _ rfl (set3_heap HF.out.ret) Try.underlying27 rfl (by kernel_rfl)) rfl (res_eq HT.out ⟨_, rfl, own_set3 HF.out.own (by omega) (by omega) _ _ _, below_setCell (below_setCell (below_setCell HF.out.old hWn _) hWn _) hWn _⟩)
end Go.Proofs.Ytcffofjialihaaa
