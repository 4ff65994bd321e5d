/- QD, QE, PT -/
import Derived.Test.YtgbnjjgnihjfgaaGreatProg
import Derived.WalkKit
import Derived.Below
import Derived.Lib.Hide
import Derived.Laws.StructEq
import Derived.Lib.QuietBelow
import Derived.Deep.RegionHeld3
import Derived.Deep.RegionWith
import Derived.IntWalk
import Derived.BigQuiet
import Derived.Maps.RangeWalk
import Derived.DeepKeys4
import Derived.OneCell
import Derived.StillTail
import Derived.Deep.CutRange
import Derived.Outline
import Derived.WalkSpells
import Derived.Carry
import Derived.Shelf.SlGeneric
import Derived.Shelf.SlSortCmp.WholeK
import Derived.Shelf.SlicesG.Cmp
import Derived.Ground.SlsfProg
import Derived.Ground.SlgcProg
import Derived.Sort.OwnSorted
import Derived.Deep.AppendLies
import Derived.Shelf.SlSortCmp.NoneTotal
import Derived.Deep.QuietTactic
import Derived.Laws.AppendOwnNone
import Derived.Laws.EntriesVeiled
import Derived.Lib.SliceRun
import Derived.Deep.Cut
import Derived.Laws.ResultCell
import Derived.ArgAppend
import Derived.Laws.Rows
import Derived.Great.BuildSlice
import Derived.Great.Frames
import Derived.Deep.DeepCutAuto
import Derived.Lib.AppendZeros
import Derived.Lib.Overlaps
import Derived.Laws.CopyRow
import Derived.Laws.AppendOwn
import Derived.Laws.Externs
import Derived.Deep.RegionLawGrows
import Derived.Test.YtgbnjjgnihjfgaaGreatBAG
import Derived.Test.YtgbnjjgnihjfgaaGreatBAM
import Derived.Test.YtgbnjjgnihjfgaaGreatBAJ
import Derived.Test.YtgbnjjgnihjfgaaGreatBAO
import Derived.Test.YtgbnjjgnihjfgaaGreatBAA
import Derived.Test.YtgbnjjgnihjfgaaGreatBAI
import Derived.Test.YtgbnjjgnihjfgaaGreatBAK
import Derived.Test.YtgbnjjgnihjfgaaGreatBAD
import Derived.Test.YtgbnjjgnihjfgaaGreatBAN
import Derived.Test.YtgbnjjgnihjfgaaGreatBAH
import Derived.Test.YtgbnjjgnihjfgaaGreatBAE
import Derived.Test.YtgbnjjgnihjfgaaGreatBAB
import Derived.Test.YtgbnjjgnihjfgaaGreatBAC
import Derived.Test.YtgbnjjgnihjfgaaGreatBAF
section
set_option linter.unusedVariables false
set_option linter.unusedSimpArgs false
namespace Go.Proofs.YtgbnjjgnihjfgaaGreat
open Go.RowKit Go.Sort Go.ChangeMaps Go.MapKept

theorem kept_set {F : Nat → Prop} {A B : World} (h : Kept F A B) {g j : Nat} (hg : F g) (u : Value) : Kept F A (B.setCell ⟨g, j, none⟩ u) := Kept.setCell (p := ⟨g, j, none⟩) h (.inl hg) u
theorem flatP_set : ∀ (M : List PR) (k : Nat) (x : MRow), k < M.length → (((((flatP M).set (k * 10 + 5) (.int .i64 x.t)).set (k * 10 + 6) (.int .i64 x.k)).set (k * 10 + 7) (.int .i64 x.v.a)).set (k * 10 + 8) (.int .i64 x.v.b)).set (k * 10 + 9) (.int .i64 x.v.c) = flatP (M.set k ((M.getD k prZ).1, x))
  | [], k, x, h => by simp at h
  | p :: M, 0, x, h => by simp [flatP, pcl, prCells]
  | p :: M, k + 1, x, h => by
    have ih := flatP_set M k x (by simpa using h)
    have e : flatP (p :: M) = pcl p ++ flatP M := rfl
    have e2 : (p :: M).set (k + 1) (((p :: M).getD (k + 1) prZ).1, x) = p :: M.set k ((M.getD k prZ).1, x) := by simp
    have hl := pcl_len p
    rw [e2, show flatP (p :: M.set k ((M.getD k prZ).1, x)) = pcl p ++ flatP (M.set k ((M.getD k prZ).1, x)) from rfl, ← ih, e]
    rw [List.set_append_right _ _ (by omega), List.set_append_right _ _ (by omega), List.set_append_right _ _ (by omega), List.set_append_right _ _ (by omega), List.set_append_right _ _ (by omega), hl]
    rw [show (k + 1) * 10 + 5 - 10 = k * 10 + 5 by omega, show (k + 1) * 10 + 6 - 10 = k * 10 + 6 by omega, show (k + 1) * 10 + 7 - 10 = k * 10 + 7 by omega, show (k + 1) * 10 + 8 - 10 = k * 10 + 8 by omega, show (k + 1) * 10 + 9 - 10 = k * 10 + 9 by omega]
/-- The first k pairs patched. -/
def updK (f : PR → PR) (M : List PR) (k : Nat) : List PR := (M.take k).map f ++ M.drop k
theorem updK_len (f : PR → PR) (M : List PR) (k : Nat) : (updK f M k).length = M.length := by
  unfold updK
  rw [List.length_append, List.length_map, ← List.length_append, List.take_append_drop]
theorem updK_get {f : PR → PR} {M : List PR} {k : Nat} (hk : k < M.length) : (updK f M k).getD k prZ = M.getD k prZ := by
  unfold updK
  rw [List.getD_eq_getElem?_getD, List.getElem?_append_right (by rw [List.length_map, List.length_take]; omega), List.length_map, List.length_take, Nat.min_eq_left (by omega), Nat.sub_self, List.getElem?_drop, Nat.add_zero, ← List.getD_eq_getElem?_getD]
theorem updK_succ {f : PR → PR} {M : List PR} {k : Nat} (hk : k < M.length) : updK f M (k + 1) = (updK f M k).set k (f (M.getD k prZ)) := by
  have e := List.drop_eq_getElem_cons hk
  have hl : ((M.take k).map f).length = k := by rw [List.length_map, List.length_take]; omega
  unfold updK
  rw [take_snoc' (d := prZ) hk, List.map_append, List.set_append_right _ _ (by omega), hl, Nat.sub_self, e, List.set_cons_zero, List.append_assoc]
  rfl
theorem updK_same {f : PR → PR} {M : List PR} {k : Nat} (hk : k < M.length) (h : f (M.getD k prZ) = M.getD k prZ) : updK f M (k + 1) = updK f M k := by
  unfold updK
  rw [take_snoc' (d := prZ) hk, List.map_append]
  conv => rhs; rw [List.drop_eq_getElem_cons hk]
  simp only [List.map_cons, List.map_nil, List.append_assoc, List.singleton_append]
  rw [h, getD_at prZ hk]
set_option maxRecDepth 100000 in
set_option maxHeartbeats 8000000 in
theorem patchRight_any {q : MQ} {c : MCh} {W : World} {base : Nat} {v : Value} {ps : List PR} (hO : OwnP W base v ps) (hb : base ≤ W.heap.size) (hl : ps.length ≤ 40000) : Calls Tryz.prog 139 #[v, .agg (effC q c)] W fun e w' => ∃ v', e = .returned (.tuple #[v', .bool (rightP ps c).isSome]) ∧ OwnP w' base v' ((rightP ps c).getD []) ∧ Kept (fun i => v.ownBlock = some i) W w' := by
  have HO := Lib.hid hO
  have HL : Hid (ps.length ≤ 40000) := Lib.hid hl
  have HBs : Hid (base ≤ W.heap.size) := Lib.hid hb
  have HE : Hid (EffAt (W.alloc (.cells (effC q c) 97)) W.heap.size q c) := Lib.hid (EffAt.new W q c)
  have HB : Hid (Below W.heap.size W (W.alloc (.cells (effC q c) 97))) := Lib.hid (ba W _)
  obtain ⟨va, vn, vcap, rfl⟩ := ownP_form2 hO
  have HWi := Lib.hid (fun (w0 : World) (h0 : EffAt w0 W.heap.size q c) (hr : PrS w0 (.slice va vn vcap) ps) => withoutP_any hr HL.out (enters_of Tryz.func169 (by kernel_rfl) rfl) (show ChoosesP w0 169 #[ptr W.heap.size] (fun p => decide (p.2.k = c.k)) from fun W' r hb => pairRight_any (h0.below hb) r))
  have HA : Hid ((effC q c)[22]? = some (.bool c.had) ∧ (effC q c)[30]? = some (.bool c.has) ∧ (effC q c)[8]? = some (.int .i64 c.k) ∧ (effC q c)[25]? = some (.int .i64 (aftR c).t) ∧ (effC q c)[26]? = some (.int .i64 (aftR c).k) ∧ (effC q c)[27]? = some (.int .i64 (aftR c).v.a) ∧ (effC q c)[28]? = some (.int .i64 (aftR c).v.b) ∧ (effC q c)[29]? = some (.int .i64 (aftR c).v.c)) := Lib.hid ⟨rfl, rfl, rfl, rfl, rfl, rfl, rfl, rfl⟩
  obtain ⟨RP, HRP⟩ : ∃ RP, Hid (rightP ps c = RP) := ⟨_, Lib.hid rfl⟩
  rw [HRP.out]
  have HP : Hid (RP = if c.had = false then none else if c.has = false then some (ps.filter fun p => !decide (p.2.k = c.k)) else some (ps.map fun p => if p.2.k = c.k then (p.1, aftR c) else p)) := Lib.hid (by rw [← HRP.out]; rfl)
  clear hO hl hb HRP
  go_enter Tryz.func139, Tryz.ntmps139
  go_upto_region 1 with fail
  have HWw := Lib.hid (HWi.out _ HE.out (HO.out.below HB.out).prS)
  have HOw := Lib.hid (HO.out.below HB.out)
  unfold EffAt at HE HWi
  unfold ptr at HWw
  clear HWi
  generalize c.had = had at *
  generalize c.has = has at *
  generalize c.k = ck at *
  generalize aftR c = ar at *
  generalize effC q c = E at *
  generalize W.alloc (.cells E 97) = w0 at *
  have e22 : w0.cell? ⟨W.heap.size, 22, none⟩ = some (.bool had) := by simp [World.cell?, HE.out, HA.out]
  have e30 : w0.cell? ⟨W.heap.size, 30, none⟩ = some (.bool has) := by simp [World.cell?, HE.out, HA.out]
  cases had
  · have HPf : Hid (RP = none) := Lib.hid (by have h := HP.out; simpa using h)
    go_wp2_with fail
    refine bodyPost_ret (v := .tuple #[.slice none 0 0, .bool false]) (by simp [results, Tryz.results139, go_sem]) rfl ?_
    rw [HPf.out]
    exact ⟨_, rfl, OwnP.nil _ _, Kept.of_below HB.out⟩
  cases has
  · have HPf : Hid (RP = some (ps.filter fun p => !decide (p.2.k = ck))) := Lib.hid (by have h := HP.out; simpa using h)
    go_wp2_with fail
    (with_reducible refine HWw.out.mono ?_)
    rintro e w1 ⟨v1, rfl, hO1, hb1⟩
    have HO1 := Lib.hid (hO1.mono (base' := base) (by have := HBs.out; have := HB.out.size; omega))
    have HK1 : Hid (Kept (fun i => (Value.slice va vn vcap).ownBlock = some i) W w1) := Lib.hid (Kept.of_below (bt HB.out hb1))
    clear hO1 hb1
    go_wp2_with fail
    refine bodyPost_ret (v := .tuple #[v1, .bool true]) (by simp [results, Tryz.results139, go_sem]) rfl ?_
    rw [HPf.out]
    exact ⟨_, rfl, HO1.out, HK1.out⟩
  have HPf : Hid (RP = some (ps.map fun p => if p.2.k = ck then (p.1, ar) else p)) := Lib.hid (by have h := HP.out; simpa using h)
  obtain ⟨at', ak, ⟨a1, a2, a3⟩⟩ := ar
  simp only at HA
  have HN : Hid (vn = ps.length) := Lib.hid (by
    rcases HO.out.2 with ⟨e, h0⟩ | ⟨g, cap, cur, e, _⟩
    · simp at e
      omega
    · simp at e
      omega)
  have HE1 := Lib.hid HE.out
  have hvn : vn ≤ 40000 := by have := HN.out; have := HL.out; omega
  obtain ⟨ff, Hff⟩ : ∃ ff : PR → PR, Hid ((fun p => if p.2.k = ck then (p.1, ⟨at', ak, ⟨a1, a2, a3⟩⟩) else p) = ff) := ⟨_, Lib.hid rfl⟩
  rw [Hff.out] at HPf
  have HHit : Hid (∀ p : PR, p.2.k = ck → ff p = (p.1, ⟨at', ak, ⟨a1, a2, a3⟩⟩)) := Lib.hid (fun p hp => by rw [← Hff.out]; simp [hp])
  have HMiss : Hid (∀ p : PR, ¬ p.2.k = ck → ff p = p) := Lib.hid (fun p hp => by rw [← Hff.out]; simp [hp])
  clear HWw HP
  go_wp2_with fail
  go_loopw [20] (fun i wr => ∃ k : Nat, k ≤ vn ∧ i = .int .i64 k ∧ Hid (OwnP wr base (.slice va vn vcap) (updK ff ps k)) ∧ Hid (Kept (fun i => (Value.slice va vn vcap).ownBlock = some i) W wr) ∧ Hid (wr.heap[W.heap.size]? = some (.cells E 97 (0, 0)))) (fun i _ => vn - (intOf i).toNat)
  case atStart => exact ⟨0, by omega, rfl, Lib.hid (by unfold updK; simpa using HOw.out), Lib.hid (Kept.of_below HB.out), HE1⟩
  case round =>
    obtain ⟨k, hk, rfl, HOr, HKr, HEr⟩ := hrel
    by_cases hlt : k < vn
    · obtain ⟨hol, hnil | ⟨g, cap, cur, e, hg, hcur, hnc, hcm, hcs, ht⟩⟩ := HOr.out
      · have := HN.out
        have := hnil.2
        rw [updK_len] at this
        exact absurd this (by omega)
      simp only [Value.slice.injEq] at e
      obtain ⟨rfl, -, rfl⟩ := e
      have HKL : Hid (k < ps.length) := Lib.hid (by have := HN.out; omega)
      have HPS := Lib.hid HOr.out.prS
      obtain ⟨_, n', _, e1, -, -, -, hcell⟩ := HPS.out
      simp at e1
      obtain ⟨rfl, hnn, rfl⟩ := e1
      obtain ⟨vb, vo, e2, hvb, hcs2⟩ := hcell (by omega)
      simp at e2
      obtain ⟨rfl, rfl⟩ := e2
      have H1 := hcs2 k (by omega)
      rw [updK_get HKL.out] at H1
      clear hcs2 hcell hnn hol hcur hcs ht hnc hcm hg
      obtain ⟨⟨⟨rt, rk, ⟨ra, rb, rc⟩⟩, ⟨st, sk, ⟨sa, sb, sc⟩⟩⟩, Hr⟩ : ∃ r, Hid (ps.getD k prZ = r) := ⟨_, Lib.hid rfl⟩
      rw [Hr.out] at H1
      have HC1 := Lib.hid (fun w (h : Below wr.heap.size wr w) => (H1.below hvb h).cells)
      have HEb := Lib.hid (fun w (h : Below wr.heap.size wr w) => (h.block _ (lt_of_block HEr.out)).trans HEr.out)
      have HOb := Lib.hid (fun w (h : Below wr.heap.size wr w) => HOr.out.below h)
      clear H1
      go_upto_region 8 with fail
      have g6 : ∀ wz, BW wr wz → ∀ d' os, (grow (redrawn wz d') os).cell? ⟨g, 0 + k * 10 + 6, none⟩ = some (.int .i64 sk) := fun wz h d' os => (HC1.out _ (bt h (below_regrown wz d' os))).2.2.2.2.2.2.1
      have g6' : ∀ wz, BW wr wz → ∀ d' os, (grow (redrawn wz d') os).cell? ⟨g, k * 10 + 6, none⟩ = some (.int .i64 sk) := fun wz h d' os => by have := g6 wz h d' os; rw [Nat.zero_add] at this; exact this
      have g6'' : ∀ wz, BW wr wz → ∀ d' os, (grow (redrawn wz d') os).cell? ⟨g, k * 10 + 5 + 1, none⟩ = some (.int .i64 sk) := fun wz h d' os => g6' wz h d' os
      have e8 : ∀ wz, BW wr wz → ∀ d' os, (grow (redrawn wz d') os).cell? ⟨W.heap.size, 8, none⟩ = some (.int .i64 ck) := fun wz h d' os => by simp [World.cell?, HEb.out _ (bt h (below_regrown wz d' os)), HA.out]
      refine wp_region_calm 9 99 [0, 1, 2, 3, 4, 5, 6, 7, 8] (by kernel_rfl) (by kernel_rfl) (by intro oz h; simp at h) (by intro oz h; simp at h) (by rfl) ?_
      simp only [List.take_succ_cons, List.take_zero]
      iterate 9
        apply wpCalm_want
        · rfl
        · exact bc_refl
        · exact ⟨_, Below.refl _ _⟩
        · intro w00 hC0 K hK
          go_big_quiet_op
          exact hK
      refine wpCalm_nil ?_
      intro w2 hbq
      try simp only [List.drop_succ_cons, List.drop_zero]
      have HO2 := Lib.hid (HOb.out _ hbq)
      have HE2 := Lib.hid (HEb.out _ hbq)
      have HK2 : Hid (Kept (fun i => (Value.slice (some ⟨g, 0, none⟩) vn vcap).ownBlock = some i) W w2) := Lib.hid (HKr.out.then hbq)
      have HC2 := Lib.hid (HC1.out _ hbq)
      clear hbq g6 g6' g6'' e8
      by_cases hsk : sk = ck
      · have d1 : (sk == ck) = true := by simp [hsk]
        have HSK := Lib.hid hsk
        clear hsk
        obtain ⟨-, -, -, -, -, y5, y6, y7, y8, y9⟩ := HC2.out
        rw [Nat.zero_add] at y5 y6 y7 y8 y9
        have z6 : w2.cell? ⟨g, k * 10 + 5 + 1, none⟩ = some (.int .i64 sk) := y6
        have z7 : w2.cell? ⟨g, k * 10 + 5 + 2, none⟩ = some (.int .i64 sa) := y7
        have z8 : w2.cell? ⟨g, k * 10 + 5 + 3, none⟩ = some (.int .i64 sb) := y8
        have z9 : w2.cell? ⟨g, k * 10 + 5 + 4, none⟩ = some (.int .i64 sc) := y9
        obtain ⟨_, cur2, hcur2⟩ := own_type HO2.out (g := g) rfl
        have fz : ∀ j, w2.frozen? ⟨g, j, none⟩ = false := fun j => by simp [World.frozen?, hcur2]
        have HCur2 := Lib.hid hcur2
        clear hcur2
        have e25 : w2.cell? ⟨W.heap.size, 25, none⟩ = some (.int .i64 at') := by simp [World.cell?, HE2.out, HA.out]
        have e26 : w2.cell? ⟨W.heap.size, 26, none⟩ = some (.int .i64 ak) := by simp [World.cell?, HE2.out, HA.out]
        have e27 : w2.cell? ⟨W.heap.size, 27, none⟩ = some (.int .i64 a1) := by simp [World.cell?, HE2.out, HA.out]
        have e28 : w2.cell? ⟨W.heap.size, 28, none⟩ = some (.int .i64 a2) := by simp [World.cell?, HE2.out, HA.out]
        have e29 : w2.cell? ⟨W.heap.size, 29, none⟩ = some (.int .i64 a3) := by simp [World.cell?, HE2.out, HA.out]
        go_upto_region 10 with fail
        generalize hw3 : ((((w2.setCell _ _).setCell _ _).setCell _ _).setCell _ _).setCell _ _ = w3
        have HO3 : Hid (OwnP w3 base (.slice (some ⟨g, 0, none⟩) vn vcap) (updK ff ps (k + 1))) := Lib.hid (by
          have hvl : vn = ps.length := HN.out
          have h0 : w2.ownsRow base 198 10 (.slice (some ⟨g, 0, none⟩) vn vcap) vn (flatP (updK ff ps k)) := by
            have h := HO2.out
            unfold OwnP at h
            rw [updK_len, ← hvl] at h
            exact h
          have h5 := (((((h0).stored (k * 10 + 5) (.int .i64 at')).1.stored (k * 10 + 6) (.int .i64 ak)).1.stored (k * 10 + 7) (.int .i64 a1)).1.stored (k * 10 + 8) (.int .i64 a2)).1.stored (k * 10 + 9) (.int .i64 a3)
          have h6 := flatP_set (updK ff ps k) k ⟨at', ak, ⟨a1, a2, a3⟩⟩ (by rw [updK_len]; exact HKL.out)
          simp only at h6
          rw [h6] at h5
          have h7 := h5.1
          rw [hw3] at h7
          unfold OwnP
          rw [updK_succ HKL.out, Hr.out, HHit.out _ HSK.out, List.length_set]
          rw [updK_get HKL.out, Hr.out] at h7
          rw [updK_len, ← hvl]
          exact h7)
        have HK3 : Hid (Kept (fun i => (Value.slice (some ⟨g, 0, none⟩) vn vcap).ownBlock = some i) W w3) := Lib.hid (by
          rw [← hw3]
          exact kept_set (kept_set (kept_set (kept_set (kept_set HK2.out rfl _) rfl _) rfl _) rfl _) rfl _)
        have HE3 : Hid (w3.heap[W.heap.size]? = some (.cells E 97 (0, 0))) := Lib.hid (by
          have hgl : ¬ W.heap.size = g := fun e => by
            have h1 := HE2.out
            rw [e, HCur2.out] at h1
            simp at h1
          rw [← hw3, Below.heap_setCell _ _ _ _ hgl, Below.heap_setCell _ _ _ _ hgl, Below.heap_setCell _ _ _ _ hgl, Below.heap_setCell _ _ _ _ hgl, Below.heap_setCell _ _ _ _ hgl]
          exact HE2.out)
        clear hw3 y5 y6 y7 y8 y9 z6 z7 z8 z9 fz e25 e26 e27 e28 e29
        go_wp2_with fail
        exact ⟨⟨k + 1, by omega, by go_num, HO3, HK3, HE3⟩, by simp [intOf]; omega⟩
      · have d1 : (sk == ck) = false := by simp [hsk]
        have HO3 : Hid (OwnP w2 base (.slice (some ⟨g, 0, none⟩) vn vcap) (updK ff ps (k + 1))) := Lib.hid (by
          rw [updK_same HKL.out (by rw [Hr.out]; exact HMiss.out _ hsk)]
          exact HO2.out)
        clear hsk
        go_wp2_with fail
        exact ⟨⟨k + 1, by omega, by go_num, HO3, HK2, HE2⟩, by simp [intOf]; omega⟩
    · obtain rfl : k = vn := by omega
      have HOe : Hid (OwnP wr base (.slice va k vcap) (ps.map ff)) := Lib.hid (by
        have h := HOr.out
        unfold updK at h
        rw [HN.out, List.take_length, List.drop_length, List.append_nil] at h
        rw [HN.out]
        exact h)
      go_wp2_with fail
      refine bodyPost_ret (v := .tuple #[.slice va k vcap, .bool true]) (by simp [results, Tryz.results139, go_sem]) rfl ?_
      rw [HPf.out]
      exact ⟨_, rfl, HOe.out, HKr.out⟩
end Go.Proofs.YtgbnjjgnihjfgaaGreat
end

section
set_option linter.unusedVariables false
set_option linter.unusedSimpArgs false
namespace Go.Proofs.YtgbnjjgnihjfgaaGreat
open Go.RowKit Go.Sort Go.ChangeMaps Go.MapKept

theorem find_idx {α : Type} (p : α → Bool) (d : α) : ∀ l : List α, l.find? p = if l.findIdx p < l.length then some (l.getD (l.findIdx p) d) else none
  | [] => by simp
  | a :: l => by
    have ih := find_idx p d l
    by_cases h : p a = true
    · rw [List.find?_cons_of_pos h, List.findIdx_cons, h]
      simp
    · have h' : p a = false := by simpa using h
      rw [List.find?_cons_of_neg h, ih, List.findIdx_cons, h']
      simp
attribute [local irreducible] wpCalm in
set_option maxRecDepth 100000 in
set_option maxHeartbeats 8000000 in
theorem patchLeft_any {q : MQ} {c : MCh} {W : World} {base : Nat} {v : Value} {ps : List PR} (hO : OwnP W base v ps) (hb : base ≤ W.heap.size) (hl : ps.length ≤ 39999) (hq : I64 q.column) : Calls Tryz.prog 138 #[v, .agg (effC q c)] W fun e w' => ∃ v', e = .returned (.tuple #[v', .bool (leftP q ps c).isSome]) ∧ (∀ r, leftP q ps c = some r → OwnP w' base v' r) ∧ (∃ r, PrS w' v' r ∧ r.length ≤ 40000) ∧ Below W.heap.size W w' := by
  have HO := Lib.hid hO
  have HL : Hid (ps.length ≤ 39999) := Lib.hid hl
  have HBs : Hid (base ≤ W.heap.size) := Lib.hid hb
  have HE : Hid (EffAt (W.alloc (.cells (effC q c) 97)) W.heap.size q c) := Lib.hid (EffAt.new W q c)
  have HB : Hid (Below W.heap.size W (W.alloc (.cells (effC q c) 97))) := Lib.hid (ba W _)
  obtain ⟨va, vn, vcap, rfl⟩ := ownP_form2 hO
  have HIx := Lib.hid (fun (w0 : World) (h0 : EffAt w0 W.heap.size q c) (hr : PrS w0 (.slice va vn vcap) ps) => indexFuncP_any hr (fs := #[]) (enters_of Tryz.func164 (by kernel_rfl) rfl) (show TellsP w0 164 #[] #[ptr W.heap.size] (fun p => decide (p.2.k = msA q c)) from fun W' r hb => pairPartner_any (h0.below hb) r))
  have HWi := Lib.hid (fun (w0 : World) (h0 : EffAt w0 W.heap.size q c) (hr : PrS w0 (.slice va vn vcap) ps) => withoutP_any hr (by have := HL.out; omega) (enters_of Tryz.func166 (by kernel_rfl) rfl) (show ChoosesP w0 166 #[ptr W.heap.size] (fun p => decide (p.1.k = c.k)) from fun W' r hb => pairLeft_any (h0.below hb) r))
  have HIn := Lib.hid (fun (w0 : World) (b : Nat) (v : Value) (M : List PR) (x : PR) (h0 : OwnP w0 b v M) (he : EffAt w0 W.heap.size q c) (hb0 : b ≤ w0.heap.size) (hm : M.length ≤ 40000) => insertP_any h0 hb0 hm x (fs := #[]) (cb := #[ptr W.heap.size]) (p := fun p => precQ q (aftR c) p.1) (enters_of Tryz.func168 (by kernel_rfl) rfl) (fun W' r hb => pairPrec_any (he.below hb) hq r))
  have HA : Hid ((effC q c)[31]? = some (.bool (inA q c)) ∧ (effC q c)[23]? = some (.bool (inB q c)) ∧ (effC q c)[24]? = some (.int .i64 (msB q c)) ∧ (effC q c)[32]? = some (.int .i64 (msA q c)) ∧ (effC q c)[25]? = some (.int .i64 (aftR c).t) ∧ (effC q c)[26]? = some (.int .i64 (aftR c).k) ∧ (effC q c)[27]? = some (.int .i64 (aftR c).v.a) ∧ (effC q c)[28]? = some (.int .i64 (aftR c).v.b) ∧ (effC q c)[29]? = some (.int .i64 (aftR c).v.c)) := Lib.hid ⟨rfl, rfl, rfl, rfl, rfl, rfl, rfl, rfl, rfl⟩
  obtain ⟨RP, HRP⟩ : ∃ RP, Hid (leftP q ps c = RP) := ⟨_, Lib.hid rfl⟩
  rw [HRP.out]
  have HP : Hid (RP = if inA q c = false then some (ps.filter fun p => !decide (p.1.k = c.k))
      else match (if ps.findIdx (fun p => decide (p.2.k = msA q c)) < ps.length then some (ps.getD (ps.findIdx (fun p => decide (p.2.k = msA q c))) prZ) else none) with
      | none => if inB q c && decide (msB q c = msA q c) then some (ps.filter fun p => !decide (p.1.k = c.k)) else none
      | some m => some (insB (fun p => precQ q (aftR c) p.1) (aftR c, m.2) (ps.filter fun p => !decide (p.1.k = c.k)))) := Lib.hid (by rw [← HRP.out]; unfold leftP; rw [find_idx _ prZ]; rfl)
  have HN : Hid (vn = ps.length) := Lib.hid (by
    rcases hO.2 with ⟨e, h0⟩ | ⟨g, cap, cur, e, _⟩
    · simp at e
      omega
    · simp at e
      omega)
  have HFl : Hid ((ps.filter fun p => !decide (p.1.k = c.k)).length ≤ 39999) := Lib.hid (by have := List.length_filter_le (fun p : PR => !decide (p.1.k = c.k)) ps; omega)
  clear hO hl hb HRP hq
  go_enter Tryz.func138, Tryz.ntmps138
  go_upto_region 1 with fail
  have HIw := Lib.hid (HIx.out _ HE.out (HO.out.below HB.out).prS)
  have HWw := Lib.hid (fun w1 (h : Below _ (W.alloc (.cells (effC q c) 97)) w1) => HWi.out w1 (HE.out.below h) (HO.out.below (bt HB.out h)).prS)
  have HInn := Lib.hid (fun w1 (h : Below _ (W.alloc (.cells (effC q c) 97)) w1) b v M x h0 => HIn.out w1 b v M x h0 (HE.out.below h))
  unfold EffAt at HE HWi HIx HIn
  unfold ptr at HWw HIw HInn
  clear HWi HIx HIn
  generalize inA q c = ia at *
  generalize inB q c = ib at *
  generalize msA q c = ma at *
  generalize msB q c = mb at *
  obtain ⟨ix, Hix⟩ : ∃ ix, Hid (ps.findIdx (fun p => decide (p.2.k = ma)) = ix) := ⟨_, Lib.hid rfl⟩
  obtain ⟨II, HII⟩ : ∃ II, Hid (idxI (fun p : PR => decide (p.2.k = ma)) ps = II) := ⟨_, Lib.hid rfl⟩
  rw [HII.out] at HIw
  rw [Hix.out] at HP
  have HIX : Hid (II = if ix < ps.length then (ix : Int) else -1) := Lib.hid (by rw [← HII.out]; unfold idxI; rw [Hix.out])
  generalize (ps.filter fun p => !decide (p.1.k = c.k)) = F at *
  generalize aftR c = ar at *
  generalize effC q c = E at *
  generalize W.alloc (.cells E 97) = w0 at *
  go_wp2_with fail
  (with_reducible refine HIw.out.mono ?_)
  rintro e w1 ⟨rfl, hb1⟩
  have HB01 := Lib.hid hb1
  have HWx := Lib.hid (HWw.out w1 hb1)
  clear hb1 HWw HIw
  go_wp2_with fail
  (with_reducible refine HWx.out.mono ?_)
  rintro e w2 ⟨vo, rfl, hO2, hb2⟩
  have HB02 := Lib.hid (bt HB01.out hb2)
  have HB2 := Lib.hid (bt HB.out HB02.out)
  have HO2 := Lib.hid (hO2.mono (base' := base) (by have := HBs.out; have := HB.out.size; have := HB01.out.size; omega))
  have HO2w := Lib.hid hO2
  have HE2 := Lib.hid ((HB02.out.block _ (lt_of_block HE.out)).trans HE.out)
  have HPS2 := Lib.hid (HO.out.below HB2.out).prS
  have HB12 := Lib.hid hb2
  clear hO2 hb2 HWx
  have e31 : w2.cell? ⟨W.heap.size, 31, none⟩ = some (.bool ia) := by simp [World.cell?, HE2.out, HA.out]
  cases ia
  · have HPf : Hid (RP = some F) := Lib.hid (by have h := HP.out; simpa using h)
    go_wp2_with fail
    refine bodyPost_ret (v := .tuple #[vo, .bool true]) (by simp [results, Tryz.results138, go_sem]) rfl ?_
    rw [HPf.out]
    exact ⟨_, rfl, (fun r h => by cases h; exact HO2.out), ⟨F, HO2.out.prS, by have := HFl.out; omega⟩, HB2.out⟩
  have HG2 : Hid (∀ w3, BW w2 w3 → ∀ d' os, (grow (redrawn w3 d') os).heap[W.heap.size]? = some (.cells E 97 (0, 0))) := Lib.hid (fun w3 h d' os => ((show Below w2.heap.size w2 (grow (redrawn w3 d') os) from bt h (below_regrown w3 d' os)).block _ (lt_of_block HE2.out)).trans HE2.out)
  by_cases hix : ix < ps.length
  · have hii : II = ix := by rw [HIX.out, if_pos hix]
    subst hii
    have hi0 : ¬ (ix : Int) < 0 := by omega
    obtain ⟨⟨⟨rt, rk, ⟨ra, rb, rc⟩⟩, ⟨st, sk, ⟨sa, sb, sc⟩⟩⟩, Hr⟩ : ∃ r, Hid (ps.getD ix prZ = r) := ⟨_, Lib.hid rfl⟩
    have HPf : Hid (RP = some (insB (fun p => precQ q ar p.1) (ar, ⟨st, sk, ⟨sa, sb, sc⟩⟩) F)) := Lib.hid (by
      have h := HP.out
      rw [if_neg (by decide), if_pos hix, Hr.out] at h
      exact h)
    have hixn : ix < vn := by have := HN.out; omega
    obtain ⟨_, n', _, e1, -, -, -, hcell⟩ := HPS2.out
    simp at e1
    obtain ⟨rfl, hnn, rfl⟩ := e1
    obtain ⟨vb, vof, rfl, hvb, hcs⟩ := hcell (by omega)
    have H1 := hcs ix (by omega)
    rw [Hr.out] at H1
    have HC1 := Lib.hid (fun w (h : Below w2.heap.size w2 w) => (H1.below hvb h).cells)
    clear hcs hcell hnn H1 hix HP HIX
    obtain ⟨at', ak, ⟨a1, a2, a3⟩⟩ := ar
    simp only at HA
    go_upto_region 7 with fail
    clear e31
    have e25 : ∀ wz, BW w2 wz → ∀ d' os, (grow (redrawn wz d') os).cell? ⟨W.heap.size, 25, none⟩ = some (.int .i64 at') := fun wz h d' os => by simp [World.cell?, HG2.out wz h d' os, HA.out]
    have e26 : ∀ wz, BW w2 wz → ∀ d' os, (grow (redrawn wz d') os).cell? ⟨W.heap.size, 26, none⟩ = some (.int .i64 ak) := fun wz h d' os => by simp [World.cell?, HG2.out wz h d' os, HA.out]
    have e27 : ∀ wz, BW w2 wz → ∀ d' os, (grow (redrawn wz d') os).cell? ⟨W.heap.size, 27, none⟩ = some (.int .i64 a1) := fun wz h d' os => by simp [World.cell?, HG2.out wz h d' os, HA.out]
    have e28 : ∀ wz, BW w2 wz → ∀ d' os, (grow (redrawn wz d') os).cell? ⟨W.heap.size, 28, none⟩ = some (.int .i64 a2) := fun wz h d' os => by simp [World.cell?, HG2.out wz h d' os, HA.out]
    have e29 : ∀ wz, BW w2 wz → ∀ d' os, (grow (redrawn wz d') os).cell? ⟨W.heap.size, 29, none⟩ = some (.int .i64 a3) := fun wz h d' os => by simp [World.cell?, HG2.out wz h d' os, HA.out]
    have y0 : ∀ wz, BW w2 wz → ∀ d' os, (grow (redrawn wz d') os).cell? ⟨vb, vof + ix * 10 + 5, none⟩ = some (.int .i64 st) := fun wz h d' os => (HC1.out _ (bt h (below_regrown wz d' os))).2.2.2.2.2.1
    have y1 : ∀ wz, BW w2 wz → ∀ d' os, (grow (redrawn wz d') os).cell? ⟨vb, vof + ix * 10 + 5 + 1, none⟩ = some (.int .i64 sk) := fun wz h d' os => (HC1.out _ (bt h (below_regrown wz d' os))).2.2.2.2.2.2.1
    have y2 : ∀ wz, BW w2 wz → ∀ d' os, (grow (redrawn wz d') os).cell? ⟨vb, vof + ix * 10 + 5 + 2, none⟩ = some (.int .i64 sa) := fun wz h d' os => (HC1.out _ (bt h (below_regrown wz d' os))).2.2.2.2.2.2.2.1
    have y3 : ∀ wz, BW w2 wz → ∀ d' os, (grow (redrawn wz d') os).cell? ⟨vb, vof + ix * 10 + 5 + 3, none⟩ = some (.int .i64 sb) := fun wz h d' os => (HC1.out _ (bt h (below_regrown wz d' os))).2.2.2.2.2.2.2.2.1
    have y4 : ∀ wz, BW w2 wz → ∀ d' os, (grow (redrawn wz d') os).cell? ⟨vb, vof + ix * 10 + 5 + 4, none⟩ = some (.int .i64 sc) := fun wz h d' os => (HC1.out _ (bt h (below_regrown wz d' os))).2.2.2.2.2.2.2.2.2
    refine wp_region_calm1 10 99 9 [0, 1, 2, 3, 4, 5, 6, 7, 8] (obj := .cells #[.int .i64 0, .int .i64 0, .int .i64 0, .int .i64 0, .int .i64 0, .int .i64 0, .int .i64 0, .int .i64 0, .int .i64 0, .int .i64 0] 198 (0, 0)) (by kernel_rfl) (by kernel_rfl) (by intro oz h; simp at h) (by intro oz h; simp at h) (by rfl) (by rfl) (fun a w => by kernel_rfl) ?_
    simp only [List.take_succ_cons, List.take_zero, List.eraseIdx_cons_succ, List.eraseIdx_cons_zero]
    iterate 9
      apply wpCalm_want
      · rfl
      · exact bc_refl
      · exact ⟨_, Below.refl _ _⟩
      · intro w00 hC0 K hK
        go_big_quiet_op
        exact hK
    refine wpCalm_nil ?_
    intro b w3 hbq hbge hblk
    try simp only [List.drop_succ_cons, List.drop_zero]
    have HBq := Lib.hid hbq
    have HBge := Lib.hid hbge
    have HBlk := Lib.hid hblk
    clear hbq hbge hblk e25 e26 e27 e28 e29 y0 y1 y2 y3 y4
    go_upto_region 8 with (refine wpList_store_row rfl 198 _ _ rfl b #[.int .i64 at', .int .i64 ak, .int .i64 a1, .int .i64 a2, .int .i64 a3, .int .i64 st, .int .i64 sk, .int .i64 sa, .int .i64 sb, .int .i64 sc] rfl rfl 198 _ HBlk.out (by kernel_rfl) rfl (by simp [Value.oneCell']) ?_)
    generalize hw4 : w3.setRow b #[.int .i64 at', .int .i64 ak, .int .i64 a1, .int .i64 a2, .int .i64 a3, .int .i64 st, .int .i64 sk, .int .i64 sa, .int .i64 sb, .int .i64 sc] = w4
    have HX4 : Hid (w4.heap[b]? = some (.cells #[.int .i64 at', .int .i64 ak, .int .i64 a1, .int .i64 a2, .int .i64 a3, .int .i64 st, .int .i64 sk, .int .i64 sa, .int .i64 sb, .int .i64 sc] 198 (0, 0))) := Lib.hid (by
      rw [← hw4]
      exact setRow_heap _ _ _ _ _ _ HBlk.out)
    have HB24 : Hid (Below w2.heap.size w2 w4) := Lib.hid (by
      rw [← hw4]
      exact below_row HBq.out HBge.out _)
    have HO4 := Lib.hid (HO2w.out.below HB24.out)
    have HO4b := Lib.hid (HO2.out.below HB24.out)
    clear hw4
    have HI4 := Lib.hid (HInn.out w4 (bt HB02.out HB24.out) _ vo F (⟨at', ak, ⟨a1, a2, a3⟩⟩, ⟨st, sk, ⟨sa, sb, sc⟩⟩) HO4.out (by have := HB01.out.size; have := HB02.out.size; have := HB24.out.size; have := HB12.out.size; omega) (by have := HFl.out; omega))
    unfold prV prCells at HI4
    simp only at HI4
    go_wp2_with (refine wpList_load_row rfl 198 _ rfl b rfl 198 _ _ _ HX4.out Tryz.underlying198 rfl (by kernel_rfl) ?_)
    (with_reducible refine HI4.out.mono ?_)
    rintro e w5 ⟨v', rfl, hO5, hK5⟩
    have HO5 := Lib.hid hO5
    have HOb5 : Hid (OwnP w5 base v' (insB (fun p => precQ q ⟨at', ak, ⟨a1, a2, a3⟩⟩ p.1) (⟨at', ak, ⟨a1, a2, a3⟩⟩, ⟨st, sk, ⟨sa, sb, sc⟩⟩) F)) := Lib.hid (hO5.mono (base' := base) (by have := HBs.out; have := HB.out.size; have := HB01.out.size; omega))
    have HB5 : Hid (Below W.heap.size W w5) := Lib.hid (((Kept.of_below (F := fun i => vo.ownBlock = some i) (bt HB2.out HB24.out)).trans hK5 (fun _ _ f => f)).below (Nat.le_refl _) (fun k e => by
      have h1 := OwnP.own_ge HO2w.out e
      have := HB.out.size
      have := HB01.out.size
      omega))
    clear hO5 hK5
    go_wp2_with fail
    refine bodyPost_ret (v := .tuple #[v', .bool true]) (by simp [results, Tryz.results138, go_sem]) rfl ?_
    rw [HPf.out]
    exact ⟨_, rfl, (fun r h => by cases h; exact HOb5.out), ⟨_, HO5.out.prS, Nat.le_trans (Nat.le_of_eq (ins_perm _ _ F).length_eq) (by rw [List.length_cons]; have := HFl.out; omega)⟩, HB5.out⟩
  · have hii : II = -1 := by rw [HIX.out, if_neg hix]
    subst hii
    have HPf : Hid (RP = if ib && decide (mb = ma) then some F else none) := Lib.hid (by
      have h := HP.out
      rw [if_neg (by decide), if_neg hix] at h
      exact h)
    clear hix HP HIX
    have e23 : w2.cell? ⟨W.heap.size, 23, none⟩ = some (.bool ib) := by simp [World.cell?, HE2.out, HA.out]
    have e24 : w2.cell? ⟨W.heap.size, 24, none⟩ = some (.int .i64 mb) := by simp [World.cell?, HE2.out, HA.out]
    have e32 : w2.cell? ⟨W.heap.size, 32, none⟩ = some (.int .i64 ma) := by simp [World.cell?, HE2.out, HA.out]
    cases ib
    · have HPg : Hid (RP = none) := Lib.hid (by have h := HPf.out; simpa using h)
      clear HPf
      go_upto_region 6 with fail
      go_quiet (fail)
      have HB3 := Lib.hid (bt HB2.out (below_drewN w2 nq))
      have HPS3 := Lib.hid (HO2.out.below (below_drewN w2 nq)).prS
      go_wp2_with fail
      refine bodyPost_ret (v := .tuple #[vo, .bool false]) (by simp [results, Tryz.results138, go_sem]) rfl ?_
      rw [HPg.out]
      exact ⟨_, rfl, (fun r h => by cases h), ⟨F, HPS3.out, by have := HFl.out; omega⟩, HB3.out⟩
    · by_cases hmm : mb = ma
      · have HPg : Hid (RP = some F) := Lib.hid (by have h := HPf.out; simpa [hmm] using h)
        have d1 : (mb == ma) = true := by simp [hmm]
        clear HPf hmm
        go_upto_region 6 with fail
        go_quiet (fail)
        have HB3 := Lib.hid (bt HB2.out (below_drewN w2 nq))
        have HO3 := Lib.hid (HO2.out.below (below_drewN w2 nq))
        go_wp2_with fail
        refine bodyPost_ret (v := .tuple #[vo, .bool true]) (by simp [results, Tryz.results138, go_sem]) rfl ?_
        rw [HPg.out]
        exact ⟨_, rfl, (fun r h => by cases h; exact HO3.out), ⟨F, HO3.out.prS, by have := HFl.out; omega⟩, HB3.out⟩
      · have HPg : Hid (RP = none) := Lib.hid (by have h := HPf.out; simpa [hmm] using h)
        have d1 : (mb == ma) = false := by simp [hmm]
        clear HPf hmm
        go_upto_region 6 with fail
        go_quiet (fail)
        have HB3 := Lib.hid (bt HB2.out (below_drewN w2 nq))
        have HPS3 := Lib.hid (HO2.out.below (below_drewN w2 nq)).prS
        go_wp2_with fail
        refine bodyPost_ret (v := .tuple #[vo, .bool false]) (by simp [results, Tryz.results138, go_sem]) rfl ?_
        rw [HPg.out]
        exact ⟨_, rfl, (fun r h => by cases h), ⟨F, HPS3.out, by have := HFl.out; omega⟩, HB3.out⟩
end Go.Proofs.YtgbnjjgnihjfgaaGreat
end

section
set_option linter.unusedVariables false
set_option linter.unusedSimpArgs false
namespace Go.Proofs.YtgbnjjgnihjfgaaGreat
open Go.RowKit Go.Sort Go.ChangeMaps Go.MapKept

attribute [local irreducible] wpCalm in
set_option maxRecDepth 100000 in
set_option maxHeartbeats 4000000 in
theorem touch_q (q : MQ) (c : MCh) (W : World) (hv : validB q = false) : Calls Tryz.prog 16 #[qV q, chV c] W fun e w' => e = .returned (.bool false) ∧ Below W.heap.size W w' := by
  have HV := Lib.hid (fun w => qvalid_any q w)
  rw [hv] at HV
  clear hv
  obtain ⟨t, k, had, ⟨oa, ob, oc⟩, has, ⟨na, nb, nc⟩⟩ := c
  obtain ⟨qk, qt, qc, ql, qh, qy, qo⟩ := q
  unfold qV chV at *
  simp only at *
  go_enter Tryz.func16, Tryz.ntmps16
  go_upto_region 1 with fail
  generalize hw0 : (W.alloc (.cells #[.int .i64 qk, .int .i64 qt, .int .i64 qc, .int .i64 ql, .int .i64 qh, .int .i64 qy, .int .i64 qo] 28)).alloc (.cells #[.int .i64 t, .int .i64 k, .bool had, .int .i64 oa, .int .i64 ob, .int .i64 oc, .bool has, .int .i64 na, .int .i64 nb, .int .i64 nc] 45) = w0
  have HB0 : Hid (Below W.heap.size W w0) := Lib.hid (by rw [← hw0]; exact bt (ba W _) (ba _ _))
  have HQ0 : Hid (w0.heap[W.heap.size]? = some (.cells #[.int .i64 qk, .int .i64 qt, .int .i64 qc, .int .i64 ql, .int .i64 qh, .int .i64 qy, .int .i64 qo] 28 (0, 0))) := Lib.hid (by
    rw [← hw0]
    exact ((ba (W.alloc _) _).block _ (by simp)).trans (heap_alloc_new W _))
  have HC0 : Hid (w0.heap[W.heap.size + 1]? = some (.cells #[.int .i64 t, .int .i64 k, .bool had, .int .i64 oa, .int .i64 ob, .int .i64 oc, .bool has, .int .i64 na, .int .i64 nb, .int .i64 nc] 45 (0, 0))) := Lib.hid (by
    rw [← hw0]
    have h := heap_alloc_new (W.alloc (.cells #[.int .i64 qk, .int .i64 qt, .int .i64 qc, .int .i64 ql, .int .i64 qh, .int .i64 qy, .int .i64 qo] 28)) (.cells #[.int .i64 t, .int .i64 k, .bool had, .int .i64 oa, .int .i64 ob, .int .i64 oc, .bool has, .int .i64 na, .int .i64 nb, .int .i64 nc] 45)
    rw [World.size_alloc] at h
    exact h)
  clear hw0
  have HGq : Hid (∀ w1, BW w0 w1 → ∀ d' os, (grow (redrawn w1 d') os).heap[W.heap.size]? = some (.cells #[.int .i64 qk, .int .i64 qt, .int .i64 qc, .int .i64 ql, .int .i64 qh, .int .i64 qy, .int .i64 qo] 28 (0, 0))) := Lib.hid (fun w1 h d' os => ((show Below w0.heap.size w0 (grow (redrawn w1 d') os) from bt h (below_regrown w1 d' os)).block _ (lt_of_block HQ0.out)).trans HQ0.out)
  have HGc : Hid (∀ w1, BW w0 w1 → ∀ d' os, (grow (redrawn w1 d') os).heap[W.heap.size + 1]? = some (.cells #[.int .i64 t, .int .i64 k, .bool had, .int .i64 oa, .int .i64 ob, .int .i64 oc, .bool has, .int .i64 na, .int .i64 nb, .int .i64 nc] 45 (0, 0))) := Lib.hid (fun w1 h d' os => ((show Below w0.heap.size w0 (grow (redrawn w1 d') os) from bt h (below_regrown w1 d' os)).block _ (lt_of_block HC0.out)).trans HC0.out)
  have q0 : ∀ w1, BW w0 w1 → ∀ d' os, (grow (redrawn w1 d') os).cell? ⟨W.heap.size, 0, none⟩ = some (.int .i64 qk) := fun w1 h d' os => by simp [World.cell?, HGq.out w1 h d' os]
  have q1 : ∀ w1, BW w0 w1 → ∀ d' os, (grow (redrawn w1 d') os).cell? ⟨W.heap.size, 1, none⟩ = some (.int .i64 qt) := fun w1 h d' os => by simp [World.cell?, HGq.out w1 h d' os]
  have q2 : ∀ w1, BW w0 w1 → ∀ d' os, (grow (redrawn w1 d') os).cell? ⟨W.heap.size, 2, none⟩ = some (.int .i64 qc) := fun w1 h d' os => by simp [World.cell?, HGq.out w1 h d' os]
  have q3 : ∀ w1, BW w0 w1 → ∀ d' os, (grow (redrawn w1 d') os).cell? ⟨W.heap.size, 3, none⟩ = some (.int .i64 ql) := fun w1 h d' os => by simp [World.cell?, HGq.out w1 h d' os]
  have q4 : ∀ w1, BW w0 w1 → ∀ d' os, (grow (redrawn w1 d') os).cell? ⟨W.heap.size, 4, none⟩ = some (.int .i64 qh) := fun w1 h d' os => by simp [World.cell?, HGq.out w1 h d' os]
  have q5 : ∀ w1, BW w0 w1 → ∀ d' os, (grow (redrawn w1 d') os).cell? ⟨W.heap.size, 5, none⟩ = some (.int .i64 qy) := fun w1 h d' os => by simp [World.cell?, HGq.out w1 h d' os]
  have q6 : ∀ w1, BW w0 w1 → ∀ d' os, (grow (redrawn w1 d') os).cell? ⟨W.heap.size, 6, none⟩ = some (.int .i64 qo) := fun w1 h d' os => by simp [World.cell?, HGq.out w1 h d' os]
  have c0 : ∀ w1, BW w0 w1 → ∀ d' os, (grow (redrawn w1 d') os).cell? ⟨W.heap.size + 1, 0, none⟩ = some (.int .i64 t) := fun w1 h d' os => by simp [World.cell?, HGc.out w1 h d' os]
  have c1 : ∀ w1, BW w0 w1 → ∀ d' os, (grow (redrawn w1 d') os).cell? ⟨W.heap.size + 1, 1, none⟩ = some (.int .i64 k) := fun w1 h d' os => by simp [World.cell?, HGc.out w1 h d' os]
  have c2 : ∀ w1, BW w0 w1 → ∀ d' os, (grow (redrawn w1 d') os).cell? ⟨W.heap.size + 1, 2, none⟩ = some (.bool had) := fun w1 h d' os => by simp [World.cell?, HGc.out w1 h d' os]
  have c3 : ∀ w1, BW w0 w1 → ∀ d' os, (grow (redrawn w1 d') os).cell? ⟨W.heap.size + 1, 3, none⟩ = some (.int .i64 oa) := fun w1 h d' os => by simp [World.cell?, HGc.out w1 h d' os]
  have c4 : ∀ w1, BW w0 w1 → ∀ d' os, (grow (redrawn w1 d') os).cell? ⟨W.heap.size + 1, 4, none⟩ = some (.int .i64 ob) := fun w1 h d' os => by simp [World.cell?, HGc.out w1 h d' os]
  have c5 : ∀ w1, BW w0 w1 → ∀ d' os, (grow (redrawn w1 d') os).cell? ⟨W.heap.size + 1, 5, none⟩ = some (.int .i64 oc) := fun w1 h d' os => by simp [World.cell?, HGc.out w1 h d' os]
  have c6 : ∀ w1, BW w0 w1 → ∀ d' os, (grow (redrawn w1 d') os).cell? ⟨W.heap.size + 1, 6, none⟩ = some (.bool has) := fun w1 h d' os => by simp [World.cell?, HGc.out w1 h d' os]
  have c7 : ∀ w1, BW w0 w1 → ∀ d' os, (grow (redrawn w1 d') os).cell? ⟨W.heap.size + 1, 7, none⟩ = some (.int .i64 na) := fun w1 h d' os => by simp [World.cell?, HGc.out w1 h d' os]
  have c8 : ∀ w1, BW w0 w1 → ∀ d' os, (grow (redrawn w1 d') os).cell? ⟨W.heap.size + 1, 8, none⟩ = some (.int .i64 nb) := fun w1 h d' os => by simp [World.cell?, HGc.out w1 h d' os]
  have c9 : ∀ w1, BW w0 w1 → ∀ d' os, (grow (redrawn w1 d') os).cell? ⟨W.heap.size + 1, 9, none⟩ = some (.int .i64 nc) := fun w1 h d' os => by simp [World.cell?, HGc.out w1 h d' os]
  refine wp_region_calm 16 99 [0, 1, 2, 3, 4, 5, 6, 7, 8, 9, 10, 11, 12, 13, 14, 15] (by kernel_rfl) (by kernel_rfl) (by intro oz h; simp at h) (by intro oz h; simp at h) (by rfl) ?_
  simp only [List.take_succ_cons, List.take_zero]
  apply wpCalm_want
  · rfl
  · exact bc_refl
  · exact ⟨_, Below.refl _ _⟩
  · intro w00 hC0 K hK
    go_big_quiet_op
    exact hK
  apply wpCalm_want
  · rfl
  · exact bc_refl
  · exact ⟨_, Below.refl _ _⟩
  · intro w00 hC0 K hK
    go_big_quiet_op
    apply Exists.intro
    refine ⟨fun p => ?_, ?_⟩
    · exact Calls.regrown_of (HV.out _)
    · exact hK
  apply wpCalm_want
  · rfl
  · exact bc_refl
  · exact ⟨_, Below.refl _ _⟩
  · intro w00 hC0 K hK
    go_big_quiet_op
    exact hK
  refine wpCalm_skip (by rfl) ?_
  go_frame
  refine wpCalm_skip (by rfl) ?_
  go_frame
  apply wpCalm_want
  · rfl
  · exact bc_refl
  · exact ⟨_, Below.refl _ _⟩
  · intro w00 hC0 K hK
    go_big_quiet_op
    exact hK
  apply wpCalm_want
  · rfl
  · exact bc_refl
  · exact ⟨_, Below.refl _ _⟩
  · intro w00 hC0 K hK
    go_big_quiet_op
    exact hK
  refine wpCalm_skip (by rfl) ?_
  go_frame
  refine wpCalm_skip (by rfl) ?_
  go_frame
  refine wpCalm_skip (by rfl) ?_
  go_frame
  refine wpCalm_skip (by rfl) ?_
  go_frame
  refine wpCalm_skip (by rfl) ?_
  go_frame
  refine wpCalm_skip (by rfl) ?_
  go_frame
  refine wpCalm_skip (by rfl) ?_
  go_frame
  refine wpCalm_skip (by rfl) ?_
  go_frame
  apply wpCalm_want
  · rfl
  · exact bc_refl
  · exact ⟨_, Below.refl _ _⟩
  · intro w00 hC0 K hK
    go_big_quiet_op
    exact hK
  refine wpCalm_nil ?_
  intro w2 hbq
  try simp only [List.drop_succ_cons, List.drop_zero]
  have HB2 := Lib.hid (bt HB0.out hbq)
  clear hbq HGq HGc
  clear q0 q1 q2 q3 q4 q5 q6 c0 c1 c2 c3 c4 c5 c6 c7 c8 c9
  go_wp2_with fail
  go_ret
  exact ⟨rfl, HB2.out⟩
attribute [local irreducible] wpCalm in
set_option maxRecDepth 100000 in
set_option maxHeartbeats 4000000 in
theorem touch_c (q : MQ) (c : MCh) (W : World) (hv : validB q = true) (hc : vc c = false) : Calls Tryz.prog 16 #[qV q, chV c] W fun e w' => e = .returned (.bool false) ∧ Below W.heap.size W w' := by
  have HV := Lib.hid (fun w => qvalid_any q w)
  have HX := Lib.hid (fun w => validChange_any c w)
  rw [hv] at HV
  rw [hc] at HX
  clear hv hc
  obtain ⟨t, k, had, ⟨oa, ob, oc⟩, has, ⟨na, nb, nc⟩⟩ := c
  obtain ⟨qk, qt, qc, ql, qh, qy, qo⟩ := q
  unfold qV chV at *
  simp only at *
  go_enter Tryz.func16, Tryz.ntmps16
  go_upto_region 1 with fail
  generalize hw0 : (W.alloc (.cells #[.int .i64 qk, .int .i64 qt, .int .i64 qc, .int .i64 ql, .int .i64 qh, .int .i64 qy, .int .i64 qo] 28)).alloc (.cells #[.int .i64 t, .int .i64 k, .bool had, .int .i64 oa, .int .i64 ob, .int .i64 oc, .bool has, .int .i64 na, .int .i64 nb, .int .i64 nc] 45) = w0
  have HB0 : Hid (Below W.heap.size W w0) := Lib.hid (by rw [← hw0]; exact bt (ba W _) (ba _ _))
  have HQ0 : Hid (w0.heap[W.heap.size]? = some (.cells #[.int .i64 qk, .int .i64 qt, .int .i64 qc, .int .i64 ql, .int .i64 qh, .int .i64 qy, .int .i64 qo] 28 (0, 0))) := Lib.hid (by
    rw [← hw0]
    exact ((ba (W.alloc _) _).block _ (by simp)).trans (heap_alloc_new W _))
  have HC0 : Hid (w0.heap[W.heap.size + 1]? = some (.cells #[.int .i64 t, .int .i64 k, .bool had, .int .i64 oa, .int .i64 ob, .int .i64 oc, .bool has, .int .i64 na, .int .i64 nb, .int .i64 nc] 45 (0, 0))) := Lib.hid (by
    rw [← hw0]
    have h := heap_alloc_new (W.alloc (.cells #[.int .i64 qk, .int .i64 qt, .int .i64 qc, .int .i64 ql, .int .i64 qh, .int .i64 qy, .int .i64 qo] 28)) (.cells #[.int .i64 t, .int .i64 k, .bool had, .int .i64 oa, .int .i64 ob, .int .i64 oc, .bool has, .int .i64 na, .int .i64 nb, .int .i64 nc] 45)
    rw [World.size_alloc] at h
    exact h)
  clear hw0
  have HGq : Hid (∀ w1, BW w0 w1 → ∀ d' os, (grow (redrawn w1 d') os).heap[W.heap.size]? = some (.cells #[.int .i64 qk, .int .i64 qt, .int .i64 qc, .int .i64 ql, .int .i64 qh, .int .i64 qy, .int .i64 qo] 28 (0, 0))) := Lib.hid (fun w1 h d' os => ((show Below w0.heap.size w0 (grow (redrawn w1 d') os) from bt h (below_regrown w1 d' os)).block _ (lt_of_block HQ0.out)).trans HQ0.out)
  have HGc : Hid (∀ w1, BW w0 w1 → ∀ d' os, (grow (redrawn w1 d') os).heap[W.heap.size + 1]? = some (.cells #[.int .i64 t, .int .i64 k, .bool had, .int .i64 oa, .int .i64 ob, .int .i64 oc, .bool has, .int .i64 na, .int .i64 nb, .int .i64 nc] 45 (0, 0))) := Lib.hid (fun w1 h d' os => ((show Below w0.heap.size w0 (grow (redrawn w1 d') os) from bt h (below_regrown w1 d' os)).block _ (lt_of_block HC0.out)).trans HC0.out)
  have q0 : ∀ w1, BW w0 w1 → ∀ d' os, (grow (redrawn w1 d') os).cell? ⟨W.heap.size, 0, none⟩ = some (.int .i64 qk) := fun w1 h d' os => by simp [World.cell?, HGq.out w1 h d' os]
  have q1 : ∀ w1, BW w0 w1 → ∀ d' os, (grow (redrawn w1 d') os).cell? ⟨W.heap.size, 1, none⟩ = some (.int .i64 qt) := fun w1 h d' os => by simp [World.cell?, HGq.out w1 h d' os]
  have q2 : ∀ w1, BW w0 w1 → ∀ d' os, (grow (redrawn w1 d') os).cell? ⟨W.heap.size, 2, none⟩ = some (.int .i64 qc) := fun w1 h d' os => by simp [World.cell?, HGq.out w1 h d' os]
  have q3 : ∀ w1, BW w0 w1 → ∀ d' os, (grow (redrawn w1 d') os).cell? ⟨W.heap.size, 3, none⟩ = some (.int .i64 ql) := fun w1 h d' os => by simp [World.cell?, HGq.out w1 h d' os]
  have q4 : ∀ w1, BW w0 w1 → ∀ d' os, (grow (redrawn w1 d') os).cell? ⟨W.heap.size, 4, none⟩ = some (.int .i64 qh) := fun w1 h d' os => by simp [World.cell?, HGq.out w1 h d' os]
  have q5 : ∀ w1, BW w0 w1 → ∀ d' os, (grow (redrawn w1 d') os).cell? ⟨W.heap.size, 5, none⟩ = some (.int .i64 qy) := fun w1 h d' os => by simp [World.cell?, HGq.out w1 h d' os]
  have q6 : ∀ w1, BW w0 w1 → ∀ d' os, (grow (redrawn w1 d') os).cell? ⟨W.heap.size, 6, none⟩ = some (.int .i64 qo) := fun w1 h d' os => by simp [World.cell?, HGq.out w1 h d' os]
  have c0 : ∀ w1, BW w0 w1 → ∀ d' os, (grow (redrawn w1 d') os).cell? ⟨W.heap.size + 1, 0, none⟩ = some (.int .i64 t) := fun w1 h d' os => by simp [World.cell?, HGc.out w1 h d' os]
  have c1 : ∀ w1, BW w0 w1 → ∀ d' os, (grow (redrawn w1 d') os).cell? ⟨W.heap.size + 1, 1, none⟩ = some (.int .i64 k) := fun w1 h d' os => by simp [World.cell?, HGc.out w1 h d' os]
  have c2 : ∀ w1, BW w0 w1 → ∀ d' os, (grow (redrawn w1 d') os).cell? ⟨W.heap.size + 1, 2, none⟩ = some (.bool had) := fun w1 h d' os => by simp [World.cell?, HGc.out w1 h d' os]
  have c3 : ∀ w1, BW w0 w1 → ∀ d' os, (grow (redrawn w1 d') os).cell? ⟨W.heap.size + 1, 3, none⟩ = some (.int .i64 oa) := fun w1 h d' os => by simp [World.cell?, HGc.out w1 h d' os]
  have c4 : ∀ w1, BW w0 w1 → ∀ d' os, (grow (redrawn w1 d') os).cell? ⟨W.heap.size + 1, 4, none⟩ = some (.int .i64 ob) := fun w1 h d' os => by simp [World.cell?, HGc.out w1 h d' os]
  have c5 : ∀ w1, BW w0 w1 → ∀ d' os, (grow (redrawn w1 d') os).cell? ⟨W.heap.size + 1, 5, none⟩ = some (.int .i64 oc) := fun w1 h d' os => by simp [World.cell?, HGc.out w1 h d' os]
  have c6 : ∀ w1, BW w0 w1 → ∀ d' os, (grow (redrawn w1 d') os).cell? ⟨W.heap.size + 1, 6, none⟩ = some (.bool has) := fun w1 h d' os => by simp [World.cell?, HGc.out w1 h d' os]
  have c7 : ∀ w1, BW w0 w1 → ∀ d' os, (grow (redrawn w1 d') os).cell? ⟨W.heap.size + 1, 7, none⟩ = some (.int .i64 na) := fun w1 h d' os => by simp [World.cell?, HGc.out w1 h d' os]
  have c8 : ∀ w1, BW w0 w1 → ∀ d' os, (grow (redrawn w1 d') os).cell? ⟨W.heap.size + 1, 8, none⟩ = some (.int .i64 nb) := fun w1 h d' os => by simp [World.cell?, HGc.out w1 h d' os]
  have c9 : ∀ w1, BW w0 w1 → ∀ d' os, (grow (redrawn w1 d') os).cell? ⟨W.heap.size + 1, 9, none⟩ = some (.int .i64 nc) := fun w1 h d' os => by simp [World.cell?, HGc.out w1 h d' os]
  refine wp_region_calm 16 99 [0, 1, 2, 3, 4, 5, 6, 7, 8, 9, 10, 11, 12, 13, 14, 15] (by kernel_rfl) (by kernel_rfl) (by intro oz h; simp at h) (by intro oz h; simp at h) (by rfl) ?_
  simp only [List.take_succ_cons, List.take_zero]
  apply wpCalm_want
  · rfl
  · exact bc_refl
  · exact ⟨_, Below.refl _ _⟩
  · intro w00 hC0 K hK
    go_big_quiet_op
    exact hK
  apply wpCalm_want
  · rfl
  · exact bc_refl
  · exact ⟨_, Below.refl _ _⟩
  · intro w00 hC0 K hK
    go_big_quiet_op
    apply Exists.intro
    refine ⟨fun p => ?_, ?_⟩
    · exact Calls.regrown_of (HV.out _)
    · exact hK
  iterate 2
    apply wpCalm_want
    · rfl
    · exact bc_refl
    · exact ⟨_, Below.refl _ _⟩
    · intro w00 hC0 K hK
      go_big_quiet_op
      exact hK
  apply wpCalm_want
  · rfl
  · exact bc_refl
  · exact ⟨_, Below.refl _ _⟩
  · intro w00 hC0 K hK
    go_big_quiet_op
    apply Exists.intro
    refine ⟨fun p => ?_, ?_⟩
    · exact Calls.regrown_of (HX.out _)
    · exact hK
  iterate 2
    apply wpCalm_want
    · rfl
    · exact bc_refl
    · exact ⟨_, Below.refl _ _⟩
    · intro w00 hC0 K hK
      go_big_quiet_op
      exact hK
  refine wpCalm_skip (by rfl) ?_
  go_frame
  refine wpCalm_skip (by rfl) ?_
  go_frame
  refine wpCalm_skip (by rfl) ?_
  go_frame
  refine wpCalm_skip (by rfl) ?_
  go_frame
  refine wpCalm_skip (by rfl) ?_
  go_frame
  refine wpCalm_skip (by rfl) ?_
  go_frame
  refine wpCalm_skip (by rfl) ?_
  go_frame
  refine wpCalm_skip (by rfl) ?_
  go_frame
  apply wpCalm_want
  · rfl
  · exact bc_refl
  · exact ⟨_, Below.refl _ _⟩
  · intro w00 hC0 K hK
    go_big_quiet_op
    exact hK
  refine wpCalm_nil ?_
  intro w2 hbq
  try simp only [List.drop_succ_cons, List.drop_zero]
  have HB2 := Lib.hid (bt HB0.out hbq)
  clear hbq HGq HGc
  clear q0 q1 q2 q3 q4 q5 q6 c0 c1 c2 c3 c4 c5 c6 c7 c8 c9
  go_wp2_with fail
  go_ret
  exact ⟨rfl, HB2.out⟩
end Go.Proofs.YtgbnjjgnihjfgaaGreat
end
