/- WALK: EvalFromMatchesReference. -/
import Derived.Test.YtcffofjialihaaaET
set_option linter.unusedVariables false
set_option linter.unusedSimpArgs false
namespace Go.Proofs.Ytcffofjialihaaa
open Go.RowKit Go.Sort Go.ChangeMaps Go.MapKept

theorem rowS_take {w : World} {a : Option Addr} {n cap : Nat} {M : List MRow} (h : RowS w (.slice a n cap) M) {m : Nat} (hm : m ≤ n) : RowS w (.slice a m cap) (M.take m) := by
  obtain ⟨a', n', cap', e, hn, h1, h2, hc⟩ := h
  simp only [Value.slice.injEq] at e
  obtain ⟨rfl, rfl, rfl⟩ := e
  refine ⟨a, m, cap, rfl, by rw [List.length_take]; omega, by omega, h2, fun h => ?_⟩
  obtain ⟨b, o, e, hb, hcs⟩ := hc (by omega)
  refine ⟨b, o, e, hb, fun i hi => ?_⟩
  have := hcs i (by omega)
  rwa [show (M.take m).getD i rowZ = M.getD i rowZ from by rw [List.getD_eq_getElem?_getD, List.getElem?_take_of_lt hi, ← List.getD_eq_getElem?_getD]]
theorem rowX_of_S {w : World} {b o n c : Nat} {M : List MRow} (h : RowS w (.slice (some ⟨b, o, none⟩) n c) M) : RowX w (.slice (some ⟨b, o, none⟩) n c) M := by
  obtain ⟨a', n', cap', e, hn, h1, h2, hc⟩ := h
  simp only [Value.slice.injEq] at e
  obtain ⟨rfl, rfl, rfl⟩ := e
  refine .inr ⟨b, o, _, _, rfl, hn, fun i hi => ?_⟩
  obtain ⟨b', o', e, hb, hcs⟩ := hc (by omega)
  simp at e
  obtain ⟨rfl, rfl⟩ := e
  exact hcs i hi
/-- What a parameter's slice of rows looks like. -/
def Shape (v : Value) (M : List MRow) : Prop := (v = .slice none 0 0 ∧ M = []) ∨ (∃ ad, v = .slice (some ad) 0 0 ∧ M = []) ∨ ∃ b o n c, v = .slice (some ⟨b, o, none⟩) n c
theorem res_len2 (q : MQ) (M O : List MRow) : (resM q M O).rows.length ≤ 2 * M.length := by
  have hp : ∀ (F : List MRow) (y : Int) (M : List MRow), (M.flatMap (pairR F y)).length ≤ 2 * M.length := fun F y M => by
    induction M with
    | nil => simp
    | cons x M ih =>
      rw [List.flatMap_cons, List.length_append, List.length_cons]
      have : (pairR F y x).length ≤ 2 := by unfold pairR; split <;> simp
      omega
  unfold resM
  split
  · simp
  · split
    · simp
    · split
      · simp
      · split
        · simp
        · split
          · simp
          · split
            · exact hp _ _ _
            · simp only; omega
theorem wpList_append_zero {w : World} {ops : Array Oper} {rest : List Oper} {o : Oper} {a : Act} {Q : Exit → Act → World → Prop} (hgd : o.guard = none) (s x : Operand)
    (ho : o.op = .call { callee := .builtin .append, args := #[s, x], argTypes := #[25, 25] })
    (base : Nat) (v : Value) (ad : Addr) (hs : a.eval s = v) (hx : a.eval x = .slice (some ad) 0 0) (hown : OwnR w base v []) (hbase : base ≤ w.heap.size)
    (h : ∀ v' w', OwnR w' base v' [] → w.grownBy w' v.ownBlock → wpList Try.prog ops Q rest (a.put o.dst v') w') : wpList Try.prog ops Q (o :: rest) a w := by
  obtain ⟨i0, hI, hZ0, hZ1, hZ2⟩ := info_parts Try.info31
  refine wpList_append_own w hgd s x 25 ho base 31 i0 (.agg #[.int .i64 0, .int .i64 0, .int .i64 0, .int .i64 0, .int .i64 0]) 5 40 Try.underlying25 hI hZ0 hZ1 hZ2 rfl (by decide) v 0 [] hs hown ad 0 0 [] hx rfl (by simp) (by simp) (by unfold maxLen; omega) (by omega) hbase ?_
  intro v' w' hown' hg _
  exact h v' w' hown' hg
theorem own_of_append {w : World} {base : Nat} (hb : base ≤ w.heap.size) : OwnR (w.alloc (.cells #[] 31)) base (.slice (some ⟨w.heap.size, 0, none⟩) 0 0) [] := empty_own w base hb

set_option maxRecDepth 100000 in
set_option maxHeartbeats 16000000 in
theorem evalFrom_of {W : World} {p0 : MQ} (hp : p0.Ok) {x : X4} (hx : x.Ok) {va vb u : Value} {L O T : List MRow} (hL : RowS W va L) (hLw : ∀ r ∈ L, r.wd) (hO : RowS W vb O) (hOw : ∀ r ∈ O, r.wd) (hT : RowS W u T) (sL : Shape va L) (sO : Shape vb O) (sT : Shape u T) {tv : Int} {tf : Bool} :
    Calls Try.prog 3 #[qV p0, x4V x, va, vb, resV u tv tf] W fun e w' => e = .returned (.bool true) ∧ Below W.heap.size W w' := by
  have HQ := Lib.hid (fun w => query_any x hx w)
  have HQv := Lib.hid (qryX_valid x)
  have HPy := Lib.hid hp.2.2.2.2.2.1
  obtain ⟨q, Hq⟩ : ∃ q, Hid (qryX x = q) := ⟨_, Lib.hid rfl⟩
  rw [Hq.out] at HQ HQv
  have HQy := Lib.hid (valid_ok HQv.out).1.2.2.2.2.2.1
  obtain ⟨x0, x1, x2, x3⟩ := x
  obtain ⟨pk, pt, pc, pl, ph, py, po⟩ := p0
  unfold x4V at *
  obtain ⟨qk, qt, qc, ql, qh, qy, qo⟩ := q
  unfold qV at HQ ⊢
  unfold resV
  simp only at *
  have HL := Lib.hid hL
  have HLw := Lib.hid hLw
  have HO := Lib.hid hO
  have HOw := Lib.hid hOw
  have HT := Lib.hid hT
  obtain ⟨aL, nL, cL, rfl, hnL, hcL, hcL2, -⟩ := hL
  have HcL := Lib.hid (And.intro hcL hcL2)
  clear hcL hcL2
  obtain ⟨aO, nO, cO, rfl, hnO, hcO, hcO2, -⟩ := hO
  have HcO := Lib.hid (And.intro hcO hcO2)
  clear hcO hcO2
  obtain ⟨aT, nT, cT, rfl, hnT, hcT, hcT2, -⟩ := hT
  have HcT := Lib.hid (And.intro hcT hcT2)
  clear hcT hcT2
  have HNL := Lib.hid hnL
  have HNO := Lib.hid hnO
  have HNT := Lib.hid hnT
  clear Hq hx hp hnL hnO hnT hLw hOw
  go_enter Try.func3, Try.ntmps3
  go_upto_region 1 with fail
  generalize hw0 : ((W.alloc _).alloc _).alloc _ = w0
  have HB0 : Hid (Below W.heap.size W w0) := Lib.hid (by rw [← hw0]; exact bt (bt (ba W _) (ba _ _)) (ba _ _))
  have HP0 : Hid (w0.heap[W.heap.size]? = some (.cells (qC ⟨pk, pt, pc, pl, ph, py, po⟩) 23 (0, 0))) := Lib.hid (by rw [← hw0]; exact ((bt (ba (W.alloc _) _) (ba _ _)).block _ (by simp)).trans (heap_alloc_new W _))
  have HC0 : Hid (w0.heap[W.heap.size + 1]? = some (.cells #[.int .i64 x0, .int .i64 x1, .int .i64 x2, .int .i64 x3] 24 (0, 0))) := Lib.hid (by
    rw [← hw0]
    have h := heap_alloc_new (W.alloc (.cells (qC ⟨pk, pt, pc, pl, ph, py, po⟩) 23)) (.cells #[.int .i64 x0, .int .i64 x1, .int .i64 x2, .int .i64 x3] 24)
    rw [World.size_alloc] at h
    exact ((ba _ _).block _ (by simp)).trans h)
  have HR0 : Hid (w0.heap[W.heap.size + 2]? = some (.cells (resC (.slice aT nT cT) tv tf) 27 (0, 0))) := Lib.hid (by
    rw [← hw0]
    have h := heap_alloc_new ((W.alloc (.cells (qC ⟨pk, pt, pc, pl, ph, py, po⟩) 23)).alloc (.cells #[.int .i64 x0, .int .i64 x1, .int .i64 x2, .int .i64 x3] 24)) (.cells (resC (.slice aT nT cT) tv tf) 27)
    rw [World.size_alloc, World.size_alloc] at h
    exact h)
  clear hw0
  go_wp2_with fail
  refine (sane_any _).mono ?_
  rintro e w1 ⟨rfl, hb⟩
  have HB1 := Lib.hid (bt HB0.out hb)
  have HC1 := Lib.hid ((hb.block _ (lt_of_block HC0.out)).trans HC0.out)
  have HP1 := Lib.hid ((hb.block _ (lt_of_block HP0.out)).trans HP0.out)
  have HR1 := Lib.hid ((hb.block _ (lt_of_block HR0.out)).trans HR0.out)
  clear hb HC0 HB0 HP0 HR0
  go_upto_region 2 with fail
  go_cut [2] (fun v2 wy => Hid (Below w1.heap.size w1 wy) ∧ Hid (OwnR wy w1.heap.size v2 (L.take 20)))
  case first =>
    rcases sL with ⟨e, hM⟩ | ⟨ad, e, hM⟩ | ⟨b, o, n', c', e⟩
    · simp only [Value.slice.injEq] at e
      obtain ⟨rfl, rfl, rfl⟩ := e
      go_wp2_with (at_builtin; refine hold ?_)
      refine Lib.hid ?_
      refine wpList_append_rows rfl (.tmp 19) (.tmp 24) rfl w1.heap.size (.slice (some ⟨w1.heap.size, 0, none⟩) 0 0) _ [] [] rfl rfl (empty_own _ _ (Nat.le_refl _)) (.inl ⟨rfl, rfl⟩) (by simp) (by simp) ?_
      intro v2 w' ho hg
      have HOx := Lib.hid ho
      have HGx := Lib.hid ((ba w1 (.cells #[] 31)).grown hg (by simp) (fun k hk => by simp [Value.ownBlock] at hk; omega))
      clear ho hg
      go_wp2_with fail
      go_meet
      refine ⟨HGx, Lib.hid ?_⟩
      rw [hM]
      exact HOx.out
    · simp only [Value.slice.injEq] at e
      obtain ⟨rfl, rfl, rfl⟩ := e
      go_wp2_with (at_builtin; refine wpList_append_zero rfl (.tmp 19) (.tmp 24) rfl w1.heap.size (.slice (some ⟨w1.heap.size, 0, none⟩) 0 0) ad rfl rfl (empty_own _ _ (Nat.le_refl _)) (by simp) ?_; intro v2 w' ho hg; have HOx := Lib.hid ho; have HGx := Lib.hid ((ba w1 (.cells #[] 31)).grown hg (by simp) (fun k hk => by simp [Value.ownBlock] at hk; omega)); clear ho hg)
      go_wp2_with fail
      go_meet
      refine ⟨HGx, Lib.hid ?_⟩
      rw [hM]
      exact HOx.out
    · simp only [Value.slice.injEq] at e
      obtain ⟨rfl, rfl, rfl⟩ := e
      have hnc := HcL.out.1
      have hc63 := HcL.out.2
      obtain ⟨m, Hm⟩ : ∃ m : Nat, Hid (min nL 20 = m) := ⟨_, Lib.hid rfl⟩
      have hmi : min (nL : Int) 20 = (m : Int) := by have := Hm.out; omega
      have hmn : m ≤ nL := by have := Hm.out; omega
      have HX1 := Lib.hid (rowX_of_S (rowS_take (HL.out.below (bt HB1.out (bt (Below.refl _ _) (ba w1 (.cells #[] 31))))) hmn))
      have HMt : Hid (L.take m = L.take 20) := Lib.hid (by
        have h1 := Hm.out
        have h2 := HNL.out
        by_cases h : L.length ≤ 20
        · rw [List.take_of_length_le (by omega), List.take_of_length_le h]
        · rw [show m = 20 by omega])
      by_cases hc0 : cL = 0
      · subst hc0
        go_wp2_with (at_builtin; refine wpList_append_rows rfl (.tmp 19) (.tmp 24) rfl w1.heap.size (.slice (some ⟨w1.heap.size, 0, none⟩) 0 0) _ [] (L.take m) rfl rfl (empty_own _ _ (Nat.le_refl _)) HX1.out (by have := List.length_take_le m L; have := Hm.out; simp; omega) (by simp) ?_; intro v2 w' ho hg; have HOx := Lib.hid ho; have HGx := Lib.hid ((ba w1 (.cells #[] 31)).grown hg (by simp) (fun k hk => by simp [Value.ownBlock] at hk; omega)); clear ho hg)
        go_wp2_with fail
        go_meet
        refine ⟨HGx, Lib.hid ?_⟩
        rw [← HMt.out]
        exact HOx.out
      · go_wp2_with (at_builtin; refine wpList_append_rows rfl (.tmp 19) (.tmp 24) rfl w1.heap.size (.slice (some ⟨w1.heap.size, 0, none⟩) 0 0) _ [] (L.take m) rfl rfl (empty_own _ _ (Nat.le_refl _)) HX1.out (by have := List.length_take_le m L; have := Hm.out; simp; omega) (by simp) ?_; intro v2 w' ho hg; have HOx := Lib.hid ho; have HGx := Lib.hid ((ba w1 (.cells #[] 31)).grown hg (by simp) (fun k hk => by simp [Value.ownBlock] at hk; omega)); clear ho hg)
        go_wp2_with fail
        go_meet
        refine ⟨HGx, Lib.hid ?_⟩
        rw [← HMt.out]
        exact HOx.out
  case rest =>
    obtain ⟨hb2, ho2⟩ := hcut
    rename World => w2
    have HB12 := hb2
    have HO2 := ho2
    clear hb2 ho2
    go_upto_region 3 with fail
    go_cut [3] (fun v2 wy => Hid (Below w2.heap.size w2 wy) ∧ Hid (OwnR wy w2.heap.size v2 (O.take 20)))
    case first =>
      rcases sO with ⟨e, hM⟩ | ⟨ad, e, hM⟩ | ⟨b, o, n', c', e⟩
      · simp only [Value.slice.injEq] at e
        obtain ⟨rfl, rfl, rfl⟩ := e
        go_wp2_with (at_builtin; refine hold ?_)
        refine Lib.hid ?_
        refine wpList_append_rows rfl (.tmp 26) (.tmp 31) rfl w2.heap.size (.slice (some ⟨w2.heap.size, 0, none⟩) 0 0) _ [] [] rfl rfl (empty_own _ _ (Nat.le_refl _)) (.inl ⟨rfl, rfl⟩) (by simp) (by simp) ?_
        intro v2 w' ho hg
        have HOx := Lib.hid ho
        have HGx := Lib.hid ((ba w2 (.cells #[] 31)).grown hg (by simp) (fun k hk => by simp [Value.ownBlock] at hk; omega))
        clear ho hg
        go_wp2_with fail
        go_meet
        refine ⟨HGx, Lib.hid ?_⟩
        rw [hM]
        exact HOx.out
      · simp only [Value.slice.injEq] at e
        obtain ⟨rfl, rfl, rfl⟩ := e
        go_wp2_with (at_builtin; refine wpList_append_zero rfl (.tmp 26) (.tmp 31) rfl w2.heap.size (.slice (some ⟨w2.heap.size, 0, none⟩) 0 0) ad rfl rfl (empty_own _ _ (Nat.le_refl _)) (by simp) ?_; intro v2 w' ho hg; have HOx := Lib.hid ho; have HGx := Lib.hid ((ba w2 (.cells #[] 31)).grown hg (by simp) (fun k hk => by simp [Value.ownBlock] at hk; omega)); clear ho hg)
        go_wp2_with fail
        go_meet
        refine ⟨HGx, Lib.hid ?_⟩
        rw [hM]
        exact HOx.out
      · simp only [Value.slice.injEq] at e
        obtain ⟨rfl, rfl, rfl⟩ := e
        have hnc := HcO.out.1
        have hc63 := HcO.out.2
        obtain ⟨m, Hm⟩ : ∃ m : Nat, Hid (min nO 20 = m) := ⟨_, Lib.hid rfl⟩
        have hmi : min (nO : Int) 20 = (m : Int) := by have := Hm.out; omega
        have hmn : m ≤ nO := by have := Hm.out; omega
        have HX1 := Lib.hid (rowX_of_S (rowS_take (HO.out.below (bt HB1.out (bt HB12.out (ba w2 (.cells #[] 31))))) hmn))
        have HMt : Hid (O.take m = O.take 20) := Lib.hid (by
          have h1 := Hm.out
          have h2 := HNO.out
          by_cases h : O.length ≤ 20
          · rw [List.take_of_length_le (by omega), List.take_of_length_le h]
          · rw [show m = 20 by omega])
        by_cases hc0 : cO = 0
        · subst hc0
          go_wp2_with (at_builtin; refine wpList_append_rows rfl (.tmp 26) (.tmp 31) rfl w2.heap.size (.slice (some ⟨w2.heap.size, 0, none⟩) 0 0) _ [] (O.take m) rfl rfl (empty_own _ _ (Nat.le_refl _)) HX1.out (by have := List.length_take_le m O; have := Hm.out; simp; omega) (by simp) ?_; intro v2 w' ho hg; have HOx := Lib.hid ho; have HGx := Lib.hid ((ba w2 (.cells #[] 31)).grown hg (by simp) (fun k hk => by simp [Value.ownBlock] at hk; omega)); clear ho hg)
          go_wp2_with fail
          go_meet
          refine ⟨HGx, Lib.hid ?_⟩
          rw [← HMt.out]
          exact HOx.out
        · go_wp2_with (at_builtin; refine wpList_append_rows rfl (.tmp 26) (.tmp 31) rfl w2.heap.size (.slice (some ⟨w2.heap.size, 0, none⟩) 0 0) _ [] (O.take m) rfl rfl (empty_own _ _ (Nat.le_refl _)) HX1.out (by have := List.length_take_le m O; have := Hm.out; simp; omega) (by simp) ?_; intro v2 w' ho hg; have HOx := Lib.hid ho; have HGx := Lib.hid ((ba w2 (.cells #[] 31)).grown hg (by simp) (fun k hk => by simp [Value.ownBlock] at hk; omega)); clear ho hg)
          go_wp2_with fail
          go_meet
          refine ⟨HGx, Lib.hid ?_⟩
          rw [← HMt.out]
          exact HOx.out
    case rest =>
      obtain ⟨hb3, ho3⟩ := hcut
      rename World => w3
      have HB23 := hb3
      have HO3 := ho3
      clear hb3 ho3
      obtain ⟨v2, hv2⟩ : ∃ v, v = u2 := ⟨_, rfl⟩
      subst hv2
      obtain ⟨v3, hv3⟩ : ∃ v, v = u3 := ⟨_, rfl⟩
      subst hv3
      obtain ⟨a2, m, c2, rfl⟩ := HO2.out.form
      have HM : Hid (m = (L.take 20).length) := Lib.hid (by
        obtain ⟨a, m', cap, e, e2, _⟩ := HO2.out.rowS
        simp only [Value.slice.injEq] at e
        obtain ⟨rfl, rfl, rfl⟩ := e
        exact e2)
      have hm20 : m ≤ 20 := by have := HM.out; have := List.length_take_le 20 L; omega
      have HF0 : Hid (FE w1 w2.heap.size w3 (.slice a2 m c2) v3 m (O.take 20) (L.take 20)) := Lib.hid ⟨bt HB12.out HB23.out, HO2.out.below HB23.out, fun i hi => HO2.out.own_lt hi, HO3.out, HM.out.symm, fun r hr => HLw.out r (List.mem_of_mem_take hr)⟩
      have HOw3 : Hid (∀ r ∈ O.take 20, r.wd) := Lib.hid (fun r hr => HOw.out r (List.mem_of_mem_take hr))
      have HSz : Hid (w1.heap.size ≤ w2.heap.size) := Lib.hid HB12.out.size
      clear HB12 HB23 HO2 HO3 HM HcL HcO HNL HNO sL sO HLw HOw HL HO
      go_wp2_with fail
      go_loopw [12] (fun iv wr => ∃ k : Nat, k ≤ m ∧ iv = .int .i64 k ∧ Hid (∃ M, FE w1 w2.heap.size wr (.slice a2 m c2) v3 m (O.take 20) M)) (fun i _ => m - (intOf i).toNat)
      case atStart => exact ⟨0, by omega, rfl, Lib.hid ⟨_, HF0.out⟩⟩
      case round =>
        obtain ⟨k, hk, rfl, HFx⟩ := hrel
        by_cases hlt : k < m
        · have hki : (k : Int) < m := by omega
          go_wp2_with fail
          go_loopw [13] (fun jv wr' => ∃ j : Nat, j ≤ 3 ∧ jv = .int .i64 j ∧ Hid (∃ M, FE w1 w2.heap.size wr' (.slice a2 m c2) v3 m (O.take 20) M)) (fun j _ => 3 - (intOf j).toNat)
          case atStart => exact ⟨0, by omega, rfl, HFx⟩
          case round =>
            obtain ⟨j, hj, rfl, HFy⟩ := hrel
            obtain ⟨M, hF⟩ := HFy.out
            by_cases hj3 : j < 3
            · have hji : (j : Int) < 3 := by omega
              obtain ⟨g, o2, cp2, e2, hg, -⟩ := rowS_form m hF.own2.rowS hF.len (by omega)
              simp only [Value.slice.injEq] at e2
              obtain ⟨rfl, -, rfl⟩ := e2
              obtain rfl : o2 = 0 := by
                have h := hF.own2
                unfold OwnR at h
                rcases h.2 with ⟨e, _⟩ | ⟨g', cap', cur, e, _⟩
                · simp at e
                · simp at e; exact e.1.2
              have HF := Lib.hid hF
              obtain ⟨zv, Hzv⟩ : ∃ z, Hid (vnth (M.getD k rowZ) j = z) := ⟨_, Lib.hid rfl⟩
              have HG : Hid (∀ w0, BW wr w0 → ∀ d' os, (grow (redrawn w0 d') os).cell? ⟨g, k * 5 + 2 + j, none⟩ = some (.int .i64 zv)) := Lib.hid (fun w0 h d' os => by
                have hc := (own_vcell (HF.out.below (bt h (below_regrown w0 d' os))).own2 (i := k) (k := j) (by rw [HF.out.len]; exact hlt) hj3).1
                rw [Hzv.out] at hc
                exact hc)
              have gz := HG.out
              clear hF HFy
              go_upto_region 10 with fail
              refine wp_region_calm 15 16 [0, 1, 2, 3, 4, 5, 6, 7, 8, 9, 10, 11, 12, 13, 14] (by kernel_rfl) (by kernel_rfl) (by intro oz h; simp at h) (by intro oz h; simp at h) (by rfl) ?_
              simp only [List.take_succ_cons, List.take_zero]
              apply wpCalm_want
              · rfl
              · exact bc_refl
              · exact ⟨_, Below.refl _ _⟩
              · intro w00 hC0 K hK
                go_big_quiet_op
                exact hK
              apply wpCalm_want
              · rfl
              · exact bc_refl
              · exact ⟨_, Below.refl _ _⟩
              · intro w00 hC0 K hK
                go_big_quiet_op
                exact hK
              apply wpCalm_want
              · rfl
              · exact bc_refl
              · exact ⟨_, Below.refl _ _⟩
              · intro w00 hC0 K hK
                go_big_quiet_op
                exact hK
              apply wpCalm_want
              · rfl
              · exact bc_refl
              · exact ⟨_, Below.refl _ _⟩
              · intro w00 hC0 K hK
                go_big_quiet_op
                exact hK
              apply wpCalm_want
              · rfl
              · exact bc_refl
              · exact ⟨_, Below.refl _ _⟩
              · intro w00 hC0 K hK
                go_big_quiet_op
                exact hK
              apply wpCalm_want
              · rfl
              · exact bc_refl
              · exact ⟨_, Below.refl _ _⟩
              · intro w00 hC0 K hK
                go_big_quiet_op
                exact hK
              apply wpCalm_want
              · rfl
              · exact bc_refl
              · exact ⟨_, Below.refl _ _⟩
              · intro w00 hC0 K hK
                go_big_quiet_op
                exact hK
              apply wpCalm_want
              · rfl
              · exact bc_refl
              · exact ⟨_, Below.refl _ _⟩
              · intro w00 hC0 K hK
                go_big_quiet_op
                exact hK
              apply wpCalm_want
              · rfl
              · exact bc_refl
              · exact ⟨_, Below.refl _ _⟩
              · intro w00 hC0 K hK
                go_big_quiet_op
                exact hK
              apply wpCalm_want
              · rfl
              · exact bc_refl
              · exact ⟨_, Below.refl _ _⟩
              · intro w00 hC0 K hK
                go_big_quiet_op
                exact hK
              apply wpCalm_want
              · rfl
              · exact bc_refl
              · exact ⟨_, Below.refl _ _⟩
              · intro w00 hC0 K hK
                go_big_quiet_op
                exact hK
              apply wpCalm_want
              · rfl
              · exact bc_refl
              · exact ⟨_, Below.refl _ _⟩
              · intro w00 hC0 K hK
                go_big_quiet_op
                exact hK
              apply wpCalm_want
              · rfl
              · exact bc_refl
              · exact ⟨_, Below.refl _ _⟩
              · intro w00 hC0 K hK
                go_big_quiet_op
                exact hK
              apply wpCalm_want
              · rfl
              · exact bc_refl
              · exact ⟨_, Below.refl _ _⟩
              · intro w00 hC0 K hK
                go_big_quiet_op
                exact hK
              apply wpCalm_want
              · rfl
              · exact bc_refl
              · exact ⟨_, Below.refl _ _⟩
              · intro w00 hC0 K hK
                go_big_quiet_op
                exact hK
              refine wpCalm_nil ?_
              intro wq hbq
              try simp only [List.drop_succ_cons, List.drop_zero]
              clear gz HG
              have HFq := Lib.hid (HF.out.below hbq)
              have hcf := own_vcell HFq.out.own2 (i := k) (k := j) (by rw [HFq.out.len]; exact hlt) hj3
              obtain ⟨q1, q2⟩ := hcf
              clear hbq HF
              have HFn := Lib.hid (HFq.out.setv (i := k) (k := j) hlt hj3 (z := min (max zv (-1000000000000)) 1000000000000) (by unfold I64; omega))
              rw [Hzv.out] at q1
              clear HFq
              go_wp2_with fail
              exact ⟨⟨j + 1, by omega, by go_num, Lib.hid ⟨_, HFn.out⟩⟩, by simp [intOf]; omega⟩
            · go_wp2_with fail
              exact ⟨⟨k + 1, by omega, by go_num, HFy⟩, by simp [intOf]; omega⟩
        · obtain ⟨M, hF⟩ := HFx.out
          have HF := Lib.hid hF
          have HMl : Hid (M.length ≤ 20) := Lib.hid (by rw [hF.len]; exact hm20)
          clear hF HFx HF0
          have HRr := Lib.hid ((HF.out.old.block _ (lt_of_block HR1.out)).trans HR1.out)
          have HPr := Lib.hid ((HF.out.old.block _ (lt_of_block HP1.out)).trans HP1.out)
          have HCr := Lib.hid ((HF.out.old.block _ (lt_of_block HC1.out)).trans HC1.out)
          have HBr := Lib.hid (bt HB1.out HF.out.old)
          have hrb : Hid (W.heap.size + 2 < w1.heap.size) := Lib.hid (lt_of_block HR1.out)
          have HTr := Lib.hid (HT.out.below HBr.out)
          have hrbr : W.heap.size + 2 < wr.heap.size := lt_of_block HRr.out
          have r0 : wr.cell? ⟨W.heap.size + 2, 0, none⟩ = some (.slice aT nT cT) := by simp [World.cell?, HRr.out]
          have rfz : ∀ j, wr.frozen? ⟨W.heap.size + 2, j, none⟩ = false := fun j => by simp [World.frozen?, HRr.out]
          go_upto_region 11 with fail
          go_cut [] (fun wy => ∃ a n c, Hid (wy = wr.setCell ⟨W.heap.size + 2, 0, none⟩ (.slice a n c)) ∧ Hid (RowS W (.slice a n c) (T.take 20)))
          case first =>
            rcases sT with ⟨e, hM⟩ | ⟨ad, e, hM⟩ | ⟨b, o, n', c', e⟩
            · simp only [Value.slice.injEq] at e
              obtain ⟨rfl, rfl, rfl⟩ := e
              go_wp2_with fail
              go_meet
              refine ⟨none, 0, 0, Lib.hid rfl, Lib.hid ?_⟩
              rw [hM]
              exact rowS_nil W
            · simp only [Value.slice.injEq] at e
              obtain ⟨rfl, rfl, rfl⟩ := e
              go_wp2_with fail
              go_meet
              refine ⟨some ad, 0, 0, Lib.hid rfl, Lib.hid ?_⟩
              rw [hM]
              exact ⟨some ad, 0, 0, rfl, rfl, Nat.le_refl _, by omega, fun h => by omega⟩
            · simp only [Value.slice.injEq] at e
              obtain ⟨rfl, rfl, rfl⟩ := e
              have hnc := HcT.out.1
              have hc63 := HcT.out.2
              obtain ⟨mt, Hm⟩ : ∃ m : Nat, Hid (min nT 20 = m) := ⟨_, Lib.hid rfl⟩
              have hmi : min (nT : Int) 20 = (mt : Int) := by have := Hm.out; omega
              have hmn : mt ≤ nT := by have := Hm.out; omega
              have HX1 := Lib.hid (rowS_take HT.out hmn)
              have HMt : Hid (T.take mt = T.take 20) := Lib.hid (by
                have h1 := Hm.out
                have h2 := HNT.out
                by_cases h : T.length ≤ 20
                · rw [List.take_of_length_le (by omega), List.take_of_length_le h]
                · rw [show mt = 20 by omega])
              by_cases hc0 : cT = 0
              · subst hc0
                go_wp2_with fail
                go_meet
                refine ⟨_, _, _, Lib.hid rfl, Lib.hid ?_⟩
                rw [← HMt.out]
                exact HX1.out
              · go_wp2_with fail
                go_meet
                refine ⟨_, _, _, Lib.hid rfl, Lib.hid ?_⟩
                rw [← HMt.out]
                exact HX1.out
          case rest =>
            obtain ⟨ta, tn, tc, hw, hrow⟩ := hcut
            rename World => w4
            have HR4 : Hid (w4.heap[W.heap.size + 2]? = some (.cells (resC (.slice ta tn tc) tv tf) 27 (0, 0))) := Lib.hid (by rw [hw.out, setC_heap HRr.out 0]; rfl)
            have HP4 : Hid (w4.heap[W.heap.size]? = some (.cells (qC ⟨pk, pt, pc, pl, ph, py, po⟩) 23 (0, 0))) := Lib.hid (by rw [hw.out]; exact (Below.heap_setCell _ _ _ _ (by show W.heap.size ≠ W.heap.size + 2; omega)).trans HPr.out)
            have HC4 : Hid (w4.heap[W.heap.size + 1]? = some (.cells #[.int .i64 x0, .int .i64 x1, .int .i64 x2, .int .i64 x3] 24 (0, 0))) := Lib.hid (by rw [hw.out]; exact (Below.heap_setCell _ _ _ _ (by show W.heap.size + 1 ≠ W.heap.size + 2; omega)).trans HCr.out)
            have HB4 : Hid (Below W.heap.size W w4) := Lib.hid (by rw [hw.out]; exact below_setCell HBr.out (by show W.heap.size ≤ W.heap.size + 2; omega) _)
            have HK0 : Hid (Kept (fun j => j = W.heap.size + 2) wr w4) := Lib.hid (by rw [hw.out]; exact Kept.setCell (F := fun j => j = W.heap.size + 2) (p := ⟨W.heap.size + 2, 0, none⟩) (Kept.refl _ _) (.inl rfl) _)
            have HM4 := Lib.hid (HF.out.own2.kept HK0.out (fun j hj e => by have := hrb.out; omega)).rowS
            have hw12 : w1.heap.size ≤ w2.heap.size := HSz.out
            have HO4 := Lib.hid (HF.out.own3.kept HK0.out (fun j hj e => by have := hrb.out; omega)).rowS
            have HT4 := Lib.hid (hrow.out.below HB4.out)
            have HMw : Hid (∀ r ∈ M, ∀ y, I64 (vget r y)) := Lib.hid (fun r hr y => by
              obtain ⟨h1, h2, h3, h4, h5⟩ := HF.out.wd r hr
              exact rowV_i64 y ⟨h2, h3, h4, h5⟩)
            have HOk : Hid (∀ r ∈ O.take 20, I64 r.k) := Lib.hid (fun r hr => (HOw3.out r hr).2.1)
            obtain ⟨O3, HO3⟩ : ∃ x, Hid (O.take 20 = x) := ⟨_, Lib.hid rfl⟩
            obtain ⟨T3, HT3⟩ : ∃ x, Hid (T.take 20 = x) := ⟨_, Lib.hid rfl⟩
            have HTl : Hid (T3.length ≤ 20) := Lib.hid (by rw [← HT3.out]; exact List.length_take_le 20 T)
            rw [HO3.out] at HO4 HOk
            rw [HT3.out] at HT4
            obtain ⟨b3, m3, c3, rfl⟩ := HF.out.own3.form
            clear hw hrow HRr HPr HCr HBr HTr hrbr r0 rfz HK0 HF hrb HOw3 HB1 HC1 HP1 HR1 HT HNT HcT sT hw12 HSz HT3 HO3
            have HBd : Hid (Below w4.heap.size w4 w4.drew) := Lib.hid (below_drew _)
            have HK : Hid (∀ w, Below w4.heap.size w4 w → w.cell? ⟨W.heap.size, 0, none⟩ = some (.int .i64 pk) ∧ w.cell? ⟨W.heap.size, 1, none⟩ = some (.int .i64 pt) ∧ w.cell? ⟨W.heap.size, 2, none⟩ = some (.int .i64 pc) ∧ w.cell? ⟨W.heap.size, 3, none⟩ = some (.int .i64 pl) ∧ w.cell? ⟨W.heap.size, 4, none⟩ = some (.int .i64 ph) ∧ w.cell? ⟨W.heap.size, 5, none⟩ = some (.int .i64 py) ∧ w.cell? ⟨W.heap.size, 6, none⟩ = some (.int .i64 po) ∧ w.cell? ⟨W.heap.size + 1, 0, none⟩ = some (.int .i64 x0) ∧ w.cell? ⟨W.heap.size + 1, 1, none⟩ = some (.int .i64 x1) ∧ w.cell? ⟨W.heap.size + 1, 2, none⟩ = some (.int .i64 x2) ∧ w.cell? ⟨W.heap.size + 1, 3, none⟩ = some (.int .i64 x3)) := Lib.hid (fun w hb => by
              have h1 := (hb.block _ (lt_of_block HP4.out)).trans HP4.out
              have h2 := (hb.block _ (lt_of_block HC4.out)).trans HC4.out
              refine ⟨?_, ?_, ?_, ?_, ?_, ?_, ?_, ?_, ?_, ?_, ?_⟩ <;> simp [World.cell?, qC, h1, h2])
            have HC16 : Hid (∀ w, Hid (Below w4.heap.size w4 w) → Calls Try.prog 16 #[.agg #[.int .i64 x0, .int .i64 x1, .int .i64 x2, .int .i64 x3]] w fun e w' => e = .returned (.agg #[.int .i64 qk, .int .i64 qt, .int .i64 qc, .int .i64 ql, .int .i64 qh, .int .i64 qy, .int .i64 qo]) ∧ Hid (Below w4.heap.size w4 w')) := Lib.hid (fun w hb => (HQ.out w).mono fun e w' hw => ⟨hw.1, Lib.hid (bt hb.out hw.2)⟩)
            go_upto_region 12 with fail
            go_region_held3 (fun w => w.cell? ⟨W.heap.size, 0, none⟩ = some (.int .i64 pk) ∧ w.cell? ⟨W.heap.size, 1, none⟩ = some (.int .i64 pt) ∧ w.cell? ⟨W.heap.size, 2, none⟩ = some (.int .i64 pc) ∧ w.cell? ⟨W.heap.size, 3, none⟩ = some (.int .i64 pl) ∧ w.cell? ⟨W.heap.size, 4, none⟩ = some (.int .i64 ph) ∧ w.cell? ⟨W.heap.size, 5, none⟩ = some (.int .i64 py) ∧ w.cell? ⟨W.heap.size, 6, none⟩ = some (.int .i64 po) ∧ w.cell? ⟨W.heap.size + 1, 0, none⟩ = some (.int .i64 x0) ∧ w.cell? ⟨W.heap.size + 1, 1, none⟩ = some (.int .i64 x1) ∧ w.cell? ⟨W.heap.size + 1, 2, none⟩ = some (.int .i64 x2) ∧ w.cell? ⟨W.heap.size + 1, 3, none⟩ = some (.int .i64 x3))
              (first | exact HK.out _ HBd.out | exact HK.out _ HBk.out | exact HK.out _ (bt HBk.out (ba _ _)))
              (first
                | (go_at_call 16; (with_reducible refine (HC16.out _ HBd).mono ?_); rintro e w5 ⟨rfl, HBk⟩))
            generalize hw6 : w5.alloc _ = w6
            have HB46 : Hid (Below w4.heap.size w4 w6) := Lib.hid (by rw [← hw6]; exact bt HBk.out (ba _ _))
            have HZ6 : Hid (w6.heap[w5.heap.size]? = some (.cells #[.int .i64 pk, .int .i64 pt, .int .i64 pc, .int .i64 pl, .int .i64 ph, .int .i64 py, .int .i64 po, .int .i64 qk, .int .i64 qt, .int .i64 qc, .int .i64 ql, .int .i64 qh, .int .i64 qy, .int .i64 qo] 23 (0, 0))) := Lib.hid (by rw [← hw6]; exact heap_alloc_new w5 _)
            obtain ⟨zb, Hzb⟩ : ∃ b, Hid (w5.heap.size = b) := ⟨_, Lib.hid rfl⟩
            rw [Hzb.out] at HZ6 ⊢
            have HB6 := Lib.hid (bt HB4.out HB46.out)
            have HM6 := Lib.hid (HM4.out.below HB46.out)
            have HO6 := Lib.hid (HO4.out.below HB46.out)
            have HT6 := Lib.hid (HT4.out.below HB46.out)
            have HR6 := Lib.hid ((HB46.out.block _ (lt_of_block HR4.out)).trans HR4.out)
            clear hw6 HBk Hzb HB46 HB4 HM4 HO4 HT4 HR4 HK HC16 HBd HC4 HP4 HQ
            go_wp2_with fail
            go_loopw [71] (fun iv wr => ∃ k : Nat, k ≤ 2 ∧ iv = .int .i64 k ∧ Hid (Below w6.heap.size w6 wr)) (fun i _ => 2 - (intOf i).toNat)
            case atStart => exact ⟨0, by omega, rfl, Lib.hid (Below.refl _ _)⟩
            case round =>
              obtain ⟨k, hk, rfl, HB⟩ := hrel
              have HZr := Lib.hid ((HB.out.block _ (lt_of_block HZ6.out)).trans HZ6.out)
              obtain hk2 | hk2 | hk2 : k = 2 ∨ k = 0 ∨ k = 1 := by omega
              · subst hk2
                have HBf := Lib.hid (bt HB6.out HB.out)
                have HSU := Lib.hid (HT6.out.below HB.out)
                have HRu := Lib.hid ((HB.out.block _ (lt_of_block HR6.out)).trans HR6.out)
                have HC2 := Lib.hid (fun w (hb : Below wr.heap.size wr w) => evSame_any (HSU.out.below hb) (HSU.out.below hb) tv tv tf tf)
                have HC4 := Lib.hid (fun w (hb : Below wr.heap.size wr w) => size_any (HSU.out.below hb) tv tf (by have := HTl.out; omega))
                have HC5 := Lib.hid (fun w (hb : Below wr.heap.size wr w) => sizeR_any (HSU.out.below hb) tv tf (by have := HTl.out; omega))
                have e1 : decide (tv = tv ∧ tf = tf ∧ T3 = T3) = true := by simp
                simp only [e1] at HC2
                clear e1
                obtain ⟨sz, Hsz⟩ : ∃ d : Int, Hid (1 + (T3.length : Int) = d) := ⟨_, Lib.hid rfl⟩
                simp only [Hsz.out] at HC4 HC5
                have esz : (sz == sz) = true := by simp
                go_upto_region 20 with fail
                have gu0 : ∀ w0, BW wr w0 → ∀ d' os, (grow (redrawn w0 d') os).cell? ⟨W.heap.size + 2, 0, none⟩ = some (.slice ta tn tc) := fun w0 h d' os => by simp [World.cell?, (((show Below wr.heap.size wr (grow (redrawn w0 d') os) from bt h (below_regrown w0 d' os)).block _ (lt_of_block HRu.out)).trans HRu.out)]
                have gu1 : ∀ w0, BW wr w0 → ∀ d' os, (grow (redrawn w0 d') os).cell? ⟨W.heap.size + 2, 1, none⟩ = some (.int .i64 tv) := fun w0 h d' os => by simp [World.cell?, (((show Below wr.heap.size wr (grow (redrawn w0 d') os) from bt h (below_regrown w0 d' os)).block _ (lt_of_block HRu.out)).trans HRu.out)]
                have gu2 : ∀ w0, BW wr w0 → ∀ d' os, (grow (redrawn w0 d') os).cell? ⟨W.heap.size + 2, 2, none⟩ = some (.bool tf) := fun w0 h d' os => by simp [World.cell?, (((show Below wr.heap.size wr (grow (redrawn w0 d') os) from bt h (below_regrown w0 d' os)).block _ (lt_of_block HRu.out)).trans HRu.out)]
                refine wp_region_calm 13 14 [0, 1, 2, 3, 4, 5, 6, 7, 8, 9, 10, 11, 12] (by kernel_rfl) (by kernel_rfl) (by intro oz h; simp at h) (by intro oz h; simp at h) (by rfl) ?_
                simp only [List.take_succ_cons, List.take_zero]
                apply wpCalm_want
                · rfl
                · exact bc_refl
                · exact ⟨_, Below.refl _ _⟩
                · intro w00 hC0 K hK
                  go_big_quiet_op
                  exact hK
                apply wpCalm_want
                · rfl
                · exact bc_refl
                · exact ⟨_, Below.refl _ _⟩
                · intro w00 hC0 K hK
                  go_big_quiet_op
                  exact hK
                apply wpCalm_want
                · rfl
                · exact bc_refl
                · exact ⟨_, Below.refl _ _⟩
                · intro w00 hC0 K hK
                  go_big_quiet_op
                  exact hK
                apply wpCalm_want
                · rfl
                · exact bc_refl
                · exact ⟨_, Below.refl _ _⟩
                · intro w00 hC0 K hK
                  go_big_quiet_op
                  exact hK
                apply wpCalm_want
                · rfl
                · exact bc_refl
                · exact ⟨_, Below.refl _ _⟩
                · intro w00 hC0 K hK
                  go_big_quiet_op
                  apply Exists.intro
                  refine ⟨fun p => ?_, ?_⟩
                  · exact Calls.regrown_of (HC2.out _ (bt hC0 (below_regrown _ _ _)))
                  · exact hK
                apply wpCalm_want
                · rfl
                · exact bc_refl
                · exact ⟨_, Below.refl _ _⟩
                · intro w00 hC0 K hK
                  go_big_quiet_op
                  exact hK
                apply wpCalm_want
                · rfl
                · exact bc_refl
                · exact ⟨_, Below.refl _ _⟩
                · intro w00 hC0 K hK
                  go_big_quiet_op
                  exact hK
                apply wpCalm_want
                · rfl
                · exact bc_refl
                · exact ⟨_, Below.refl _ _⟩
                · intro w00 hC0 K hK
                  go_big_quiet_op
                  exact hK
                apply wpCalm_want
                · rfl
                · exact bc_refl
                · exact ⟨_, Below.refl _ _⟩
                · intro w00 hC0 K hK
                  go_big_quiet_op
                  apply Exists.intro
                  refine ⟨fun p => ?_, ?_⟩
                  · exact Calls.regrown_of (HC4.out _ (bt hC0 (below_regrown _ _ _)))
                  · exact hK
                apply wpCalm_want
                · rfl
                · exact bc_refl
                · exact ⟨_, Below.refl _ _⟩
                · intro w00 hC0 K hK
                  go_big_quiet_op
                  exact hK
                apply wpCalm_want
                · rfl
                · exact bc_refl
                · exact ⟨_, Below.refl _ _⟩
                · intro w00 hC0 K hK
                  go_big_quiet_op
                  apply Exists.intro
                  refine ⟨fun p => ?_, ?_⟩
                  · exact Calls.regrown_of (HC5.out _ (bt hC0 (below_regrown _ _ _)))
                  · exact hK
                apply wpCalm_want
                · rfl
                · exact bc_refl
                · exact ⟨_, Below.refl _ _⟩
                · intro w00 hC0 K hK
                  go_big_quiet_op
                  exact hK
                try simp only [esz]
                apply wpCalm_want
                · rfl
                · exact bc_refl
                · exact ⟨_, Below.refl _ _⟩
                · intro w00 hC0 K hK
                  go_big_quiet_op
                  exact hK
                refine wpCalm_nil ?_
                intro wq hbq
                try simp only [List.drop_succ_cons, List.drop_zero]
                have HBq := Lib.hid (bt HBf.out hbq)
                clear hbq gu0 gu1 gu2 esz
                go_wp2_with fail
                go_ret
                exact ⟨rfl, HBq.out⟩
              · subst hk2
                have z0 : wr.cell? ⟨zb, 0, none⟩ = some (.int .i64 pk) := by simp [World.cell?, HZr.out]
                have z1 : wr.cell? ⟨zb, 1, none⟩ = some (.int .i64 pt) := by simp [World.cell?, HZr.out]
                have z2 : wr.cell? ⟨zb, 2, none⟩ = some (.int .i64 pc) := by simp [World.cell?, HZr.out]
                have z3 : wr.cell? ⟨zb, 3, none⟩ = some (.int .i64 pl) := by simp [World.cell?, HZr.out]
                have z4 : wr.cell? ⟨zb, 4, none⟩ = some (.int .i64 ph) := by simp [World.cell?, HZr.out]
                have z5 : wr.cell? ⟨zb, 5, none⟩ = some (.int .i64 py) := by simp [World.cell?, HZr.out]
                have z6 : wr.cell? ⟨zb, 6, none⟩ = some (.int .i64 po) := by simp [World.cell?, HZr.out]
                go_upto_region 15 with fail
                generalize hw7 : wr.alloc _ = w7
                have HB7 : Hid (Below wr.heap.size wr w7) := Lib.hid (by rw [← hw7]; exact ba _ _)
                have HY7 : Hid (w7.heap[wr.heap.size]? = some (.cells (qC ⟨pk, pt, pc, pl, ph, py, po⟩) 23 (0, 0))) := Lib.hid (by rw [← hw7]; exact heap_alloc_new wr _)
                obtain ⟨yb, Hyb⟩ : ∃ b, Hid (wr.heap.size = b) := ⟨_, Lib.hid rfl⟩
                rw [Hyb.out] at HY7 ⊢
                have HB67 := Lib.hid (bt HB.out HB7.out)
                have HM7 := Lib.hid (HM6.out.below HB67.out)
                have HO7 := Lib.hid (HO6.out.below HB67.out)
                have HRu7 := Lib.hid ((HB67.out.block _ (lt_of_block HR6.out)).trans HR6.out)
                clear hw7 HB7 Hyb z0 z1 z2 z3 z4 z5 z6 HZr HB
                obtain ⟨RT, rv, rf, HT'⟩ : ∃ T v f, Hid (resM ⟨pk, pt, pc, pl, ph, py, po⟩ M O3 = ⟨T, v, f⟩) := ⟨_, _, _, Lib.hid rfl⟩
                have HTl' : Hid (RT.length ≤ 100) := Lib.hid (by
                  have h := res_len2 ⟨pk, pt, pc, pl, ph, py, po⟩ M O3
                  rw [HT'.out] at h
                  have := HMl.out
                  simp only at h
                  omega)
                have HF17 := Lib.hid (from_any (q := ⟨pk, pt, pc, pl, ph, py, po⟩) HM7.out HO7.out HOk.out HMw.out (by have := HMl.out; omega))
                rw [HT'.out] at HF17
                unfold qV at HF17
                simp only at HF17
                have c0 : w7.cell? ⟨yb, 0, none⟩ = some (.int .i64 pk) := by simp [World.cell?, qC, HY7.out]
                have c1 : w7.cell? ⟨yb, 1, none⟩ = some (.int .i64 pt) := by simp [World.cell?, qC, HY7.out]
                have c2 : w7.cell? ⟨yb, 2, none⟩ = some (.int .i64 pc) := by simp [World.cell?, qC, HY7.out]
                have c3 : w7.cell? ⟨yb, 3, none⟩ = some (.int .i64 pl) := by simp [World.cell?, qC, HY7.out]
                have c4 : w7.cell? ⟨yb, 4, none⟩ = some (.int .i64 ph) := by simp [World.cell?, qC, HY7.out]
                have c5 : w7.cell? ⟨yb, 5, none⟩ = some (.int .i64 py) := by simp [World.cell?, qC, HY7.out]
                have c6 : w7.cell? ⟨yb, 6, none⟩ = some (.int .i64 po) := by simp [World.cell?, qC, HY7.out]
                go_wp2_with fail
                (with_reducible refine HF17.out.mono ?_)
                rintro e w8 ⟨u1, rfl, ho, hb⟩
                simp only at ho ⊢
                obtain ⟨sa, sn, sc, rfl⟩ := ho.form
                have HA8 := Lib.hid ho
                have HB78 := Lib.hid hb
                clear ho hb c0 c1 c2 c3 c4 c5 c6 HF17
                unfold resV
                go_upto_region 16 with fail
                generalize hw9 : w8.alloc _ = w9
                have HB89 : Hid (Below w8.heap.size w8 w9) := Lib.hid (by rw [← hw9]; exact ba _ _)
                have HB79 := Lib.hid (bt HB78.out HB89.out)
                have HRa9 : Hid (w9.heap[w8.heap.size]? = some (.cells (resC (.slice sa sn sc) rv rf) 27 (0, 0))) := Lib.hid (by rw [← hw9]; exact heap_alloc_new w8 _)
                obtain ⟨rb, Hrb⟩ : ∃ b, Hid (w8.heap.size = b) := ⟨_, Lib.hid rfl⟩
                rw [Hrb.out] at HRa9 ⊢
                have HY9 := Lib.hid ((HB79.out.block _ (lt_of_block HY7.out)).trans HY7.out)
                have HA9 := Lib.hid (HA8.out.below HB89.out).rowS
                have HF18 := Lib.hid (fromR_any (q := ⟨pk, pt, pc, pl, ph, py, po⟩) (HM7.out.below HB79.out) (HO7.out.below HB79.out) HPy.out (by have := HMl.out; omega))
                rw [HT'.out] at HF18
                unfold qV at HF18
                simp only at HF18
                clear hw9 HB78 HB89 Hrb HA8
                have c0 : w9.cell? ⟨yb, 0, none⟩ = some (.int .i64 pk) := by simp [World.cell?, qC, HY9.out]
                have c1 : w9.cell? ⟨yb, 1, none⟩ = some (.int .i64 pt) := by simp [World.cell?, qC, HY9.out]
                have c2 : w9.cell? ⟨yb, 2, none⟩ = some (.int .i64 pc) := by simp [World.cell?, qC, HY9.out]
                have c3 : w9.cell? ⟨yb, 3, none⟩ = some (.int .i64 pl) := by simp [World.cell?, qC, HY9.out]
                have c4 : w9.cell? ⟨yb, 4, none⟩ = some (.int .i64 ph) := by simp [World.cell?, qC, HY9.out]
                have c5 : w9.cell? ⟨yb, 5, none⟩ = some (.int .i64 py) := by simp [World.cell?, qC, HY9.out]
                have c6 : w9.cell? ⟨yb, 6, none⟩ = some (.int .i64 po) := by simp [World.cell?, qC, HY9.out]
                go_wp2_with fail
                (with_reducible refine HF18.out.mono ?_)
                rintro e w10 ⟨u2, rfl, ho, hb⟩
                simp only at ho ⊢
                obtain ⟨sb', sm', sc', rfl⟩ := ho.form
                have HA10 := Lib.hid ho
                have HB910 := Lib.hid hb
                clear ho hb c0 c1 c2 c3 c4 c5 c6 HF18
                unfold resV
                go_upto_region 17 with fail
                generalize hw11 : w10.alloc _ = w11
                have HB1011 : Hid (Below w10.heap.size w10 w11) := Lib.hid (by rw [← hw11]; exact ba _ _)
                have HB911 := Lib.hid (bt HB910.out HB1011.out)
                have HRb11 : Hid (w11.heap[w10.heap.size]? = some (.cells (resC (.slice sb' sm' sc') rv rf) 27 (0, 0))) := Lib.hid (by rw [← hw11]; exact heap_alloc_new w10 _)
                obtain ⟨rc, Hrc⟩ : ∃ b, Hid (w10.heap.size = b) := ⟨_, Lib.hid rfl⟩
                rw [Hrc.out] at HRb11 ⊢
                have HRa11 := Lib.hid ((HB911.out.block _ (lt_of_block HRa9.out)).trans HRa9.out)
                have HB711 := Lib.hid (bt HB79.out HB911.out)
                have HB611 := Lib.hid (bt HB67.out HB711.out)
                have HRu11 := Lib.hid ((HB711.out.block _ (lt_of_block HRu7.out)).trans HRu7.out)
                have HSA := Lib.hid (HA9.out.below HB911.out)
                have HSB := Lib.hid (HA10.out.below HB1011.out).rowS
                have HSU := Lib.hid (HT6.out.below HB611.out)
                clear hw11 HB910 HB1011 HB911 Hrc HRa9 HA9 HA10 HB79 HB67 HM7 HO7 HRu7 HY7 HY9 HB711
                have HC1 := Lib.hid (fun w (hb : Below w11.heap.size w11 w) => rfSame_any (HSA.out.below hb) (HSB.out.below hb) rv rv rf rf)
                have HC2 := Lib.hid (fun w (hb : Below w11.heap.size w11 w) => evSame_any (HSA.out.below hb) (HSU.out.below hb) rv tv rf tf)
                have HC3 := Lib.hid (fun w (hb : Below w11.heap.size w11 w) => rfSame_any (HSA.out.below hb) (HSU.out.below hb) rv tv rf tf)
                have HC4 := Lib.hid (fun w (hb : Below w11.heap.size w11 w) => size_any (HSA.out.below hb) rv rf (by have := HTl'.out; omega))
                have HC5 := Lib.hid (fun w (hb : Below w11.heap.size w11 w) => sizeR_any (HSB.out.below hb) rv rf (by have := HTl'.out; omega))
                have e1 : decide (rv = rv ∧ rf = rf ∧ RT = RT) = true := by simp
                simp only [e1] at HC1
                clear e1
                obtain ⟨dd, Hdd⟩ : ∃ d, Hid (decide (rv = tv ∧ rf = tf ∧ RT = T3) = d) := ⟨_, Lib.hid rfl⟩
                obtain ⟨sz, Hsz⟩ : ∃ d : Int, Hid (1 + (RT.length : Int) = d) := ⟨_, Lib.hid rfl⟩
                simp only [Hdd.out] at HC2 HC3
                simp only [Hsz.out] at HC4 HC5
                have ebd : (dd != dd) = false := by simp
                have esz : (sz != sz) = false := by simp
                have ga0 : ∀ w0, BW w11 w0 → ∀ d' os, (grow (redrawn w0 d') os).cell? ⟨rb, 0, none⟩ = some (.slice sa sn sc) := fun w0 h d' os => by simp [World.cell?, (((show Below w11.heap.size w11 (grow (redrawn w0 d') os) from bt h (below_regrown w0 d' os)).block _ (lt_of_block HRa11.out)).trans HRa11.out)]
                have ga1 : ∀ w0, BW w11 w0 → ∀ d' os, (grow (redrawn w0 d') os).cell? ⟨rb, 1, none⟩ = some (.int .i64 rv) := fun w0 h d' os => by simp [World.cell?, (((show Below w11.heap.size w11 (grow (redrawn w0 d') os) from bt h (below_regrown w0 d' os)).block _ (lt_of_block HRa11.out)).trans HRa11.out)]
                have ga2 : ∀ w0, BW w11 w0 → ∀ d' os, (grow (redrawn w0 d') os).cell? ⟨rb, 2, none⟩ = some (.bool rf) := fun w0 h d' os => by simp [World.cell?, (((show Below w11.heap.size w11 (grow (redrawn w0 d') os) from bt h (below_regrown w0 d' os)).block _ (lt_of_block HRa11.out)).trans HRa11.out)]
                have gb0 : ∀ w0, BW w11 w0 → ∀ d' os, (grow (redrawn w0 d') os).cell? ⟨rc, 0, none⟩ = some (.slice sb' sm' sc') := fun w0 h d' os => by simp [World.cell?, (((show Below w11.heap.size w11 (grow (redrawn w0 d') os) from bt h (below_regrown w0 d' os)).block _ (lt_of_block HRb11.out)).trans HRb11.out)]
                have gb1 : ∀ w0, BW w11 w0 → ∀ d' os, (grow (redrawn w0 d') os).cell? ⟨rc, 1, none⟩ = some (.int .i64 rv) := fun w0 h d' os => by simp [World.cell?, (((show Below w11.heap.size w11 (grow (redrawn w0 d') os) from bt h (below_regrown w0 d' os)).block _ (lt_of_block HRb11.out)).trans HRb11.out)]
                have gb2 : ∀ w0, BW w11 w0 → ∀ d' os, (grow (redrawn w0 d') os).cell? ⟨rc, 2, none⟩ = some (.bool rf) := fun w0 h d' os => by simp [World.cell?, (((show Below w11.heap.size w11 (grow (redrawn w0 d') os) from bt h (below_regrown w0 d' os)).block _ (lt_of_block HRb11.out)).trans HRb11.out)]
                have gu0 : ∀ w0, BW w11 w0 → ∀ d' os, (grow (redrawn w0 d') os).cell? ⟨W.heap.size + 2, 0, none⟩ = some (.slice ta tn tc) := fun w0 h d' os => by simp [World.cell?, (((show Below w11.heap.size w11 (grow (redrawn w0 d') os) from bt h (below_regrown w0 d' os)).block _ (lt_of_block HRu11.out)).trans HRu11.out)]
                have gu1 : ∀ w0, BW w11 w0 → ∀ d' os, (grow (redrawn w0 d') os).cell? ⟨W.heap.size + 2, 1, none⟩ = some (.int .i64 tv) := fun w0 h d' os => by simp [World.cell?, (((show Below w11.heap.size w11 (grow (redrawn w0 d') os) from bt h (below_regrown w0 d' os)).block _ (lt_of_block HRu11.out)).trans HRu11.out)]
                have gu2 : ∀ w0, BW w11 w0 → ∀ d' os, (grow (redrawn w0 d') os).cell? ⟨W.heap.size + 2, 2, none⟩ = some (.bool tf) := fun w0 h d' os => by simp [World.cell?, (((show Below w11.heap.size w11 (grow (redrawn w0 d') os) from bt h (below_regrown w0 d' os)).block _ (lt_of_block HRu11.out)).trans HRu11.out)]
                refine wp_region_calm 19 20 [0, 1, 2, 3, 4, 5, 6, 7, 8, 9, 10, 11, 12, 13, 14, 15, 16, 17, 18] (by kernel_rfl) (by kernel_rfl) (by intro oz h; simp at h) (by intro oz h; simp at h) (by rfl) ?_
                simp only [List.take_succ_cons, List.take_zero]
                apply wpCalm_want
                · rfl
                · exact bc_refl
                · exact ⟨_, Below.refl _ _⟩
                · intro w00 hC0 K hK
                  go_big_quiet_op
                  exact hK
                apply wpCalm_want
                · rfl
                · exact bc_refl
                · exact ⟨_, Below.refl _ _⟩
                · intro w00 hC0 K hK
                  go_big_quiet_op
                  exact hK
                apply wpCalm_want
                · rfl
                · exact bc_refl
                · exact ⟨_, Below.refl _ _⟩
                · intro w00 hC0 K hK
                  go_big_quiet_op
                  apply Exists.intro
                  refine ⟨fun p => ?_, ?_⟩
                  · exact Calls.regrown_of (HC1.out _ (bt hC0 (below_regrown _ _ _)))
                  · exact hK
                apply wpCalm_want
                · rfl
                · exact bc_refl
                · exact ⟨_, Below.refl _ _⟩
                · intro w00 hC0 K hK
                  go_big_quiet_op
                  exact hK
                apply wpCalm_want
                · rfl
                · exact bc_refl
                · exact ⟨_, Below.refl _ _⟩
                · intro w00 hC0 K hK
                  go_big_quiet_op
                  exact hK
                apply wpCalm_want
                · rfl
                · exact bc_refl
                · exact ⟨_, Below.refl _ _⟩
                · intro w00 hC0 K hK
                  go_big_quiet_op
                  exact hK
                apply wpCalm_want
                · rfl
                · exact bc_refl
                · exact ⟨_, Below.refl _ _⟩
                · intro w00 hC0 K hK
                  go_big_quiet_op
                  exact hK
                apply wpCalm_want
                · rfl
                · exact bc_refl
                · exact ⟨_, Below.refl _ _⟩
                · intro w00 hC0 K hK
                  go_big_quiet_op
                  apply Exists.intro
                  refine ⟨fun p => ?_, ?_⟩
                  · exact Calls.regrown_of (HC2.out _ (bt hC0 (below_regrown _ _ _)))
                  · exact hK
                apply wpCalm_want
                · rfl
                · exact bc_refl
                · exact ⟨_, Below.refl _ _⟩
                · intro w00 hC0 K hK
                  go_big_quiet_op
                  exact hK
                apply wpCalm_want
                · rfl
                · exact bc_refl
                · exact ⟨_, Below.refl _ _⟩
                · intro w00 hC0 K hK
                  go_big_quiet_op
                  exact hK
                apply wpCalm_want
                · rfl
                · exact bc_refl
                · exact ⟨_, Below.refl _ _⟩
                · intro w00 hC0 K hK
                  go_big_quiet_op
                  apply Exists.intro
                  refine ⟨fun p => ?_, ?_⟩
                  · exact Calls.regrown_of (HC3.out _ (bt hC0 (below_regrown _ _ _)))
                  · exact hK
                apply wpCalm_want
                · rfl
                · exact bc_refl
                · exact ⟨_, Below.refl _ _⟩
                · intro w00 hC0 K hK
                  go_big_quiet_op
                  exact hK
                try simp only [ebd, esz]
                apply wpCalm_want
                · rfl
                · exact bc_refl
                · exact ⟨_, Below.refl _ _⟩
                · intro w00 hC0 K hK
                  go_big_quiet_op
                  exact hK
                apply wpCalm_want
                · rfl
                · exact bc_refl
                · exact ⟨_, Below.refl _ _⟩
                · intro w00 hC0 K hK
                  go_big_quiet_op
                  exact hK
                apply wpCalm_want
                · rfl
                · exact bc_refl
                · exact ⟨_, Below.refl _ _⟩
                · intro w00 hC0 K hK
                  go_big_quiet_op
                  exact hK
                apply wpCalm_want
                · rfl
                · exact bc_refl
                · exact ⟨_, Below.refl _ _⟩
                · intro w00 hC0 K hK
                  go_big_quiet_op
                  apply Exists.intro
                  refine ⟨fun p => ?_, ?_⟩
                  · exact Calls.regrown_of (HC4.out _ (bt hC0 (below_regrown _ _ _)))
                  · exact hK
                apply wpCalm_want
                · rfl
                · exact bc_refl
                · exact ⟨_, Below.refl _ _⟩
                · intro w00 hC0 K hK
                  go_big_quiet_op
                  exact hK
                apply wpCalm_want
                · rfl
                · exact bc_refl
                · exact ⟨_, Below.refl _ _⟩
                · intro w00 hC0 K hK
                  go_big_quiet_op
                  apply Exists.intro
                  refine ⟨fun p => ?_, ?_⟩
                  · exact Calls.regrown_of (HC5.out _ (bt hC0 (below_regrown _ _ _)))
                  · exact hK
                apply wpCalm_want
                · rfl
                · exact bc_refl
                · exact ⟨_, Below.refl _ _⟩
                · intro w00 hC0 K hK
                  go_big_quiet_op
                  exact hK
                try simp only [ebd, esz]
                refine wpCalm_nil ?_
                intro wq hbq
                try simp only [List.drop_succ_cons, List.drop_zero]
                have HBq := Lib.hid (bt HB611.out hbq)
                clear hbq ga0 ga1 ga2 gb0 gb1 gb2 gu0 gu1 gu2 ebd esz
                go_wp2_with fail
                exact ⟨⟨1, by omega, by go_num, HBq⟩, by simp [intOf]⟩
              · subst hk2
                have z0 : wr.cell? ⟨zb, 7, none⟩ = some (.int .i64 qk) := by simp [World.cell?, HZr.out]
                have z1 : wr.cell? ⟨zb, 8, none⟩ = some (.int .i64 qt) := by simp [World.cell?, HZr.out]
                have z2 : wr.cell? ⟨zb, 9, none⟩ = some (.int .i64 qc) := by simp [World.cell?, HZr.out]
                have z3 : wr.cell? ⟨zb, 10, none⟩ = some (.int .i64 ql) := by simp [World.cell?, HZr.out]
                have z4 : wr.cell? ⟨zb, 11, none⟩ = some (.int .i64 qh) := by simp [World.cell?, HZr.out]
                have z5 : wr.cell? ⟨zb, 12, none⟩ = some (.int .i64 qy) := by simp [World.cell?, HZr.out]
                have z6 : wr.cell? ⟨zb, 13, none⟩ = some (.int .i64 qo) := by simp [World.cell?, HZr.out]
                go_upto_region 15 with fail
                generalize hw7 : wr.alloc _ = w7
                have HB7 : Hid (Below wr.heap.size wr w7) := Lib.hid (by rw [← hw7]; exact ba _ _)
                have HY7 : Hid (w7.heap[wr.heap.size]? = some (.cells (qC ⟨qk, qt, qc, ql, qh, qy, qo⟩) 23 (0, 0))) := Lib.hid (by rw [← hw7]; exact heap_alloc_new wr _)
                obtain ⟨yb, Hyb⟩ : ∃ b, Hid (wr.heap.size = b) := ⟨_, Lib.hid rfl⟩
                rw [Hyb.out] at HY7 ⊢
                have HB67 := Lib.hid (bt HB.out HB7.out)
                have HM7 := Lib.hid (HM6.out.below HB67.out)
                have HO7 := Lib.hid (HO6.out.below HB67.out)
                have HRu7 := Lib.hid ((HB67.out.block _ (lt_of_block HR6.out)).trans HR6.out)
                clear hw7 HB7 Hyb z0 z1 z2 z3 z4 z5 z6 HZr HB
                obtain ⟨RT, rv, rf, HT'⟩ : ∃ T v f, Hid (resM ⟨qk, qt, qc, ql, qh, qy, qo⟩ M O3 = ⟨T, v, f⟩) := ⟨_, _, _, Lib.hid rfl⟩
                have HTl' : Hid (RT.length ≤ 100) := Lib.hid (by
                  have h := res_len2 ⟨qk, qt, qc, ql, qh, qy, qo⟩ M O3
                  rw [HT'.out] at h
                  have := HMl.out
                  simp only at h
                  omega)
                have HF17 := Lib.hid (from_any (q := ⟨qk, qt, qc, ql, qh, qy, qo⟩) HM7.out HO7.out HOk.out HMw.out (by have := HMl.out; omega))
                rw [HT'.out] at HF17
                unfold qV at HF17
                simp only at HF17
                have c0 : w7.cell? ⟨yb, 0, none⟩ = some (.int .i64 qk) := by simp [World.cell?, qC, HY7.out]
                have c1 : w7.cell? ⟨yb, 1, none⟩ = some (.int .i64 qt) := by simp [World.cell?, qC, HY7.out]
                have c2 : w7.cell? ⟨yb, 2, none⟩ = some (.int .i64 qc) := by simp [World.cell?, qC, HY7.out]
                have c3 : w7.cell? ⟨yb, 3, none⟩ = some (.int .i64 ql) := by simp [World.cell?, qC, HY7.out]
                have c4 : w7.cell? ⟨yb, 4, none⟩ = some (.int .i64 qh) := by simp [World.cell?, qC, HY7.out]
                have c5 : w7.cell? ⟨yb, 5, none⟩ = some (.int .i64 qy) := by simp [World.cell?, qC, HY7.out]
                have c6 : w7.cell? ⟨yb, 6, none⟩ = some (.int .i64 qo) := by simp [World.cell?, qC, HY7.out]
                go_wp2_with fail
                (with_reducible refine HF17.out.mono ?_)
                rintro e w8 ⟨u1, rfl, ho, hb⟩
                simp only at ho ⊢
                obtain ⟨sa, sn, sc, rfl⟩ := ho.form
                have HA8 := Lib.hid ho
                have HB78 := Lib.hid hb
                clear ho hb c0 c1 c2 c3 c4 c5 c6 HF17
                unfold resV
                go_upto_region 16 with fail
                generalize hw9 : w8.alloc _ = w9
                have HB89 : Hid (Below w8.heap.size w8 w9) := Lib.hid (by rw [← hw9]; exact ba _ _)
                have HB79 := Lib.hid (bt HB78.out HB89.out)
                have HRa9 : Hid (w9.heap[w8.heap.size]? = some (.cells (resC (.slice sa sn sc) rv rf) 27 (0, 0))) := Lib.hid (by rw [← hw9]; exact heap_alloc_new w8 _)
                obtain ⟨rb, Hrb⟩ : ∃ b, Hid (w8.heap.size = b) := ⟨_, Lib.hid rfl⟩
                rw [Hrb.out] at HRa9 ⊢
                have HY9 := Lib.hid ((HB79.out.block _ (lt_of_block HY7.out)).trans HY7.out)
                have HA9 := Lib.hid (HA8.out.below HB89.out).rowS
                have HF18 := Lib.hid (fromR_any (q := ⟨qk, qt, qc, ql, qh, qy, qo⟩) (HM7.out.below HB79.out) (HO7.out.below HB79.out) HQy.out (by have := HMl.out; omega))
                rw [HT'.out] at HF18
                unfold qV at HF18
                simp only at HF18
                clear hw9 HB78 HB89 Hrb HA8
                have c0 : w9.cell? ⟨yb, 0, none⟩ = some (.int .i64 qk) := by simp [World.cell?, qC, HY9.out]
                have c1 : w9.cell? ⟨yb, 1, none⟩ = some (.int .i64 qt) := by simp [World.cell?, qC, HY9.out]
                have c2 : w9.cell? ⟨yb, 2, none⟩ = some (.int .i64 qc) := by simp [World.cell?, qC, HY9.out]
                have c3 : w9.cell? ⟨yb, 3, none⟩ = some (.int .i64 ql) := by simp [World.cell?, qC, HY9.out]
                have c4 : w9.cell? ⟨yb, 4, none⟩ = some (.int .i64 qh) := by simp [World.cell?, qC, HY9.out]
                have c5 : w9.cell? ⟨yb, 5, none⟩ = some (.int .i64 qy) := by simp [World.cell?, qC, HY9.out]
                have c6 : w9.cell? ⟨yb, 6, none⟩ = some (.int .i64 qo) := by simp [World.cell?, qC, HY9.out]
                go_wp2_with fail
                (with_reducible refine HF18.out.mono ?_)
                rintro e w10 ⟨u2, rfl, ho, hb⟩
                simp only at ho ⊢
                obtain ⟨sb', sm', sc', rfl⟩ := ho.form
                have HA10 := Lib.hid ho
                have HB910 := Lib.hid hb
                clear ho hb c0 c1 c2 c3 c4 c5 c6 HF18
                unfold resV
                go_upto_region 17 with fail
                generalize hw11 : w10.alloc _ = w11
                have HB1011 : Hid (Below w10.heap.size w10 w11) := Lib.hid (by rw [← hw11]; exact ba _ _)
                have HB911 := Lib.hid (bt HB910.out HB1011.out)
                have HRb11 : Hid (w11.heap[w10.heap.size]? = some (.cells (resC (.slice sb' sm' sc') rv rf) 27 (0, 0))) := Lib.hid (by rw [← hw11]; exact heap_alloc_new w10 _)
                obtain ⟨rc, Hrc⟩ : ∃ b, Hid (w10.heap.size = b) := ⟨_, Lib.hid rfl⟩
                rw [Hrc.out] at HRb11 ⊢
                have HRa11 := Lib.hid ((HB911.out.block _ (lt_of_block HRa9.out)).trans HRa9.out)
                have HB711 := Lib.hid (bt HB79.out HB911.out)
                have HB611 := Lib.hid (bt HB67.out HB711.out)
                have HRu11 := Lib.hid ((HB711.out.block _ (lt_of_block HRu7.out)).trans HRu7.out)
                have HSA := Lib.hid (HA9.out.below HB911.out)
                have HSB := Lib.hid (HA10.out.below HB1011.out).rowS
                have HSU := Lib.hid (HT6.out.below HB611.out)
                clear hw11 HB910 HB1011 HB911 Hrc HRa9 HA9 HA10 HB79 HB67 HM7 HO7 HRu7 HY7 HY9 HB711
                have HC1 := Lib.hid (fun w (hb : Below w11.heap.size w11 w) => rfSame_any (HSA.out.below hb) (HSB.out.below hb) rv rv rf rf)
                have HC2 := Lib.hid (fun w (hb : Below w11.heap.size w11 w) => evSame_any (HSA.out.below hb) (HSU.out.below hb) rv tv rf tf)
                have HC3 := Lib.hid (fun w (hb : Below w11.heap.size w11 w) => rfSame_any (HSA.out.below hb) (HSU.out.below hb) rv tv rf tf)
                have HC4 := Lib.hid (fun w (hb : Below w11.heap.size w11 w) => size_any (HSA.out.below hb) rv rf (by have := HTl'.out; omega))
                have HC5 := Lib.hid (fun w (hb : Below w11.heap.size w11 w) => sizeR_any (HSB.out.below hb) rv rf (by have := HTl'.out; omega))
                have e1 : decide (rv = rv ∧ rf = rf ∧ RT = RT) = true := by simp
                simp only [e1] at HC1
                clear e1
                obtain ⟨dd, Hdd⟩ : ∃ d, Hid (decide (rv = tv ∧ rf = tf ∧ RT = T3) = d) := ⟨_, Lib.hid rfl⟩
                obtain ⟨sz, Hsz⟩ : ∃ d : Int, Hid (1 + (RT.length : Int) = d) := ⟨_, Lib.hid rfl⟩
                simp only [Hdd.out] at HC2 HC3
                simp only [Hsz.out] at HC4 HC5
                have ebd : (dd != dd) = false := by simp
                have esz : (sz != sz) = false := by simp
                have ga0 : ∀ w0, BW w11 w0 → ∀ d' os, (grow (redrawn w0 d') os).cell? ⟨rb, 0, none⟩ = some (.slice sa sn sc) := fun w0 h d' os => by simp [World.cell?, (((show Below w11.heap.size w11 (grow (redrawn w0 d') os) from bt h (below_regrown w0 d' os)).block _ (lt_of_block HRa11.out)).trans HRa11.out)]
                have ga1 : ∀ w0, BW w11 w0 → ∀ d' os, (grow (redrawn w0 d') os).cell? ⟨rb, 1, none⟩ = some (.int .i64 rv) := fun w0 h d' os => by simp [World.cell?, (((show Below w11.heap.size w11 (grow (redrawn w0 d') os) from bt h (below_regrown w0 d' os)).block _ (lt_of_block HRa11.out)).trans HRa11.out)]
                have ga2 : ∀ w0, BW w11 w0 → ∀ d' os, (grow (redrawn w0 d') os).cell? ⟨rb, 2, none⟩ = some (.bool rf) := fun w0 h d' os => by simp [World.cell?, (((show Below w11.heap.size w11 (grow (redrawn w0 d') os) from bt h (below_regrown w0 d' os)).block _ (lt_of_block HRa11.out)).trans HRa11.out)]
                have gb0 : ∀ w0, BW w11 w0 → ∀ d' os, (grow (redrawn w0 d') os).cell? ⟨rc, 0, none⟩ = some (.slice sb' sm' sc') := fun w0 h d' os => by simp [World.cell?, (((show Below w11.heap.size w11 (grow (redrawn w0 d') os) from bt h (below_regrown w0 d' os)).block _ (lt_of_block HRb11.out)).trans HRb11.out)]
                have gb1 : ∀ w0, BW w11 w0 → ∀ d' os, (grow (redrawn w0 d') os).cell? ⟨rc, 1, none⟩ = some (.int .i64 rv) := fun w0 h d' os => by simp [World.cell?, (((show Below w11.heap.size w11 (grow (redrawn w0 d') os) from bt h (below_regrown w0 d' os)).block _ (lt_of_block HRb11.out)).trans HRb11.out)]
                have gb2 : ∀ w0, BW w11 w0 → ∀ d' os, (grow (redrawn w0 d') os).cell? ⟨rc, 2, none⟩ = some (.bool rf) := fun w0 h d' os => by simp [World.cell?, (((show Below w11.heap.size w11 (grow (redrawn w0 d') os) from bt h (below_regrown w0 d' os)).block _ (lt_of_block HRb11.out)).trans HRb11.out)]
                have gu0 : ∀ w0, BW w11 w0 → ∀ d' os, (grow (redrawn w0 d') os).cell? ⟨W.heap.size + 2, 0, none⟩ = some (.slice ta tn tc) := fun w0 h d' os => by simp [World.cell?, (((show Below w11.heap.size w11 (grow (redrawn w0 d') os) from bt h (below_regrown w0 d' os)).block _ (lt_of_block HRu11.out)).trans HRu11.out)]
                have gu1 : ∀ w0, BW w11 w0 → ∀ d' os, (grow (redrawn w0 d') os).cell? ⟨W.heap.size + 2, 1, none⟩ = some (.int .i64 tv) := fun w0 h d' os => by simp [World.cell?, (((show Below w11.heap.size w11 (grow (redrawn w0 d') os) from bt h (below_regrown w0 d' os)).block _ (lt_of_block HRu11.out)).trans HRu11.out)]
                have gu2 : ∀ w0, BW w11 w0 → ∀ d' os, (grow (redrawn w0 d') os).cell? ⟨W.heap.size + 2, 2, none⟩ = some (.bool tf) := fun w0 h d' os => by simp [World.cell?, (((show Below w11.heap.size w11 (grow (redrawn w0 d') os) from bt h (below_regrown w0 d' os)).block _ (lt_of_block HRu11.out)).trans HRu11.out)]
                refine wp_region_calm 19 20 [0, 1, 2, 3, 4, 5, 6, 7, 8, 9, 10, 11, 12, 13, 14, 15, 16, 17, 18] (by kernel_rfl) (by kernel_rfl) (by intro oz h; simp at h) (by intro oz h; simp at h) (by rfl) ?_
                simp only [List.take_succ_cons, List.take_zero]
                apply wpCalm_want
                · rfl
                · exact bc_refl
                · exact ⟨_, Below.refl _ _⟩
                · intro w00 hC0 K hK
                  go_big_quiet_op
                  exact hK
                apply wpCalm_want
                · rfl
                · exact bc_refl
                · exact ⟨_, Below.refl _ _⟩
                · intro w00 hC0 K hK
                  go_big_quiet_op
                  exact hK
                apply wpCalm_want
                · rfl
                · exact bc_refl
                · exact ⟨_, Below.refl _ _⟩
                · intro w00 hC0 K hK
                  go_big_quiet_op
                  apply Exists.intro
                  refine ⟨fun p => ?_, ?_⟩
                  · exact Calls.regrown_of (HC1.out _ (bt hC0 (below_regrown _ _ _)))
                  · exact hK
                apply wpCalm_want
                · rfl
                · exact bc_refl
                · exact ⟨_, Below.refl _ _⟩
                · intro w00 hC0 K hK
                  go_big_quiet_op
                  exact hK
                apply wpCalm_want
                · rfl
                · exact bc_refl
                · exact ⟨_, Below.refl _ _⟩
                · intro w00 hC0 K hK
                  go_big_quiet_op
                  exact hK
                apply wpCalm_want
                · rfl
                · exact bc_refl
                · exact ⟨_, Below.refl _ _⟩
                · intro w00 hC0 K hK
                  go_big_quiet_op
                  exact hK
                apply wpCalm_want
                · rfl
                · exact bc_refl
                · exact ⟨_, Below.refl _ _⟩
                · intro w00 hC0 K hK
                  go_big_quiet_op
                  exact hK
                apply wpCalm_want
                · rfl
                · exact bc_refl
                · exact ⟨_, Below.refl _ _⟩
                · intro w00 hC0 K hK
                  go_big_quiet_op
                  apply Exists.intro
                  refine ⟨fun p => ?_, ?_⟩
                  · exact Calls.regrown_of (HC2.out _ (bt hC0 (below_regrown _ _ _)))
                  · exact hK
                apply wpCalm_want
                · rfl
                · exact bc_refl
                · exact ⟨_, Below.refl _ _⟩
                · intro w00 hC0 K hK
                  go_big_quiet_op
                  exact hK
                apply wpCalm_want
                · rfl
                · exact bc_refl
                · exact ⟨_, Below.refl _ _⟩
                · intro w00 hC0 K hK
                  go_big_quiet_op
                  exact hK
                apply wpCalm_want
                · rfl
                · exact bc_refl
                · exact ⟨_, Below.refl _ _⟩
                · intro w00 hC0 K hK
                  go_big_quiet_op
                  apply Exists.intro
                  refine ⟨fun p => ?_, ?_⟩
                  · exact Calls.regrown_of (HC3.out _ (bt hC0 (below_regrown _ _ _)))
                  · exact hK
                apply wpCalm_want
                · rfl
                · exact bc_refl
                · exact ⟨_, Below.refl _ _⟩
                · intro w00 hC0 K hK
                  go_big_quiet_op
                  exact hK
                try simp only [ebd, esz]
                apply wpCalm_want
                · rfl
                · exact bc_refl
                · exact ⟨_, Below.refl _ _⟩
                · intro w00 hC0 K hK
                  go_big_quiet_op
                  exact hK
                apply wpCalm_want
                · rfl
                · exact bc_refl
                · exact ⟨_, Below.refl _ _⟩
                · intro w00 hC0 K hK
                  go_big_quiet_op
                  exact hK
                apply wpCalm_want
                · rfl
                · exact bc_refl
                · exact ⟨_, Below.refl _ _⟩
                · intro w00 hC0 K hK
                  go_big_quiet_op
                  exact hK
                apply wpCalm_want
                · rfl
                · exact bc_refl
                · exact ⟨_, Below.refl _ _⟩
                · intro w00 hC0 K hK
                  go_big_quiet_op
                  apply Exists.intro
                  refine ⟨fun p => ?_, ?_⟩
                  · exact Calls.regrown_of (HC4.out _ (bt hC0 (below_regrown _ _ _)))
                  · exact hK
                apply wpCalm_want
                · rfl
                · exact bc_refl
                · exact ⟨_, Below.refl _ _⟩
                · intro w00 hC0 K hK
                  go_big_quiet_op
                  exact hK
                apply wpCalm_want
                · rfl
                · exact bc_refl
                · exact ⟨_, Below.refl _ _⟩
                · intro w00 hC0 K hK
                  go_big_quiet_op
                  apply Exists.intro
                  refine ⟨fun p => ?_, ?_⟩
                  · exact Calls.regrown_of (HC5.out _ (bt hC0 (below_regrown _ _ _)))
                  · exact hK
                apply wpCalm_want
                · rfl
                · exact bc_refl
                · exact ⟨_, Below.refl _ _⟩
                · intro w00 hC0 K hK
                  go_big_quiet_op
                  exact hK
                try simp only [ebd, esz]
                refine wpCalm_nil ?_
                intro wq hbq
                try simp only [List.drop_succ_cons, List.drop_zero]
                have HBq := Lib.hid (bt HB611.out hbq)
                clear hbq ga0 ga1 ga2 gb0 gb1 gb2 gu0 gu1 gu2 ebd esz
                go_wp2_with fail
                exact ⟨⟨2, by omega, by go_num, HBq⟩, by simp [intOf]⟩
end Go.Proofs.Ytcffofjialihaaa
