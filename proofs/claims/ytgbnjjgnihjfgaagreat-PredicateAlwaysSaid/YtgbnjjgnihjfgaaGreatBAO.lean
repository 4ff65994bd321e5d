/- PIP, PJP, PKP, QA, QB, QC -/
import Derived.Test.YtgbnjjgnihjfgaaGreatProg
import Derived.WalkKit
import Derived.Below
import Derived.Lib.Hide
import Derived.Laws.StructEq
import Derived.Lib.QuietBelow
import Derived.Deep.RegionHeld3
import Derived.Deep.RegionWith
import Derived.IntWalk
import Derived.BigQuiet
import Derived.Maps.RangeWalk
import Derived.DeepKeys4
import Derived.OneCell
import Derived.StillTail
import Derived.Deep.CutRange
import Derived.Outline
import Derived.WalkSpells
import Derived.Carry
import Derived.Shelf.SlGeneric
import Derived.Shelf.SlSortCmp.WholeK
import Derived.Shelf.SlicesG.Cmp
import Derived.Ground.SlsfProg
import Derived.Ground.SlgcProg
import Derived.Sort.OwnSorted
import Derived.Deep.AppendLies
import Derived.Shelf.SlSortCmp.NoneTotal
import Derived.Deep.QuietTactic
import Derived.Laws.AppendOwnNone
import Derived.Laws.EntriesVeiled
import Derived.Lib.SliceRun
import Derived.Deep.Cut
import Derived.Laws.ResultCell
import Derived.ArgAppend
import Derived.Laws.Rows
import Derived.Great.BuildSlice
import Derived.Great.Frames
import Derived.Deep.DeepCutAuto
import Derived.Lib.AppendZeros
import Derived.Lib.Overlaps
import Derived.Laws.CopyRow
import Derived.Laws.AppendOwn
import Derived.Laws.Externs
import Derived.Deep.RegionLawGrows
import Derived.Test.YtgbnjjgnihjfgaaGreatBAN
import Derived.Test.YtgbnjjgnihjfgaaGreatBAM
import Derived.Test.YtgbnjjgnihjfgaaGreatBAG
import Derived.Test.YtgbnjjgnihjfgaaGreatBAJ
import Derived.Test.YtgbnjjgnihjfgaaGreatBAH
import Derived.Test.YtgbnjjgnihjfgaaGreatBAK
import Derived.Test.YtgbnjjgnihjfgaaGreatBAE
import Derived.Test.YtgbnjjgnihjfgaaGreatBAB
import Derived.Test.YtgbnjjgnihjfgaaGreatBAA
import Derived.Test.YtgbnjjgnihjfgaaGreatBAI
import Derived.Test.YtgbnjjgnihjfgaaGreatBAC
import Derived.Test.YtgbnjjgnihjfgaaGreatBAD
import Derived.Test.YtgbnjjgnihjfgaaGreatBAF
section
set_option linter.unusedVariables false
set_option linter.unusedSimpArgs false
namespace Go.Proofs.YtgbnjjgnihjfgaaGreat
open Go.RowKit Go.Sort Go.ChangeMaps Go.MapKept

set_option maxRecDepth 100000 in
set_option maxHeartbeats 4000000 in
theorem insP_end {W : World} {base : Nat} {v : Value} {n : Nat} {xs : List Value} (h : W.ownsRow base 198 10 v n xs) (hb : base ≤ W.heap.size) (hn : n ≤ 40000) {xb : Nat} {ys : List Value} (hy : W.heap[xb]? = some (.cells ys.toArray 198 (0, 0))) (hyl : ys.length = 10) (h1 : ∀ u ∈ ys, u.oneCell' = true) :
    Calls Tryz.prog 180 #[v, .int .i64 (n : Int), .slice (some ⟨xb, 0, none⟩) 1 1] W fun e w' => ∃ v', e = .returned v' ∧ w'.ownsRow base 198 10 v' (n + 1) (xs ++ ys) ∧ Kept (fun i => v.ownBlock = some i) W w' := by
  obtain ⟨i0, hI, hZ0, hZ1, hZ2⟩ := info_parts Tryz.info198
  have H := Lib.hid h
  have HY := Lib.hid (news_at hy)
  have HYl := Lib.hid hyl
  have H1 := Lib.hid h1
  have hlen := h.1
  rcases h.2 with ⟨rfl, hn0⟩ | ⟨g, cap, cur, rfl, hg, hcur, hnc, hcm, hcs, ht⟩
  · subst hn0
    clear h hy hyl h1 hlen
    go_enter Tryz.func180, Tryz.ntmps180
    go_wp2_with (at_builtin; refine wpList_append_own _ rfl _ _ 173 rfl base 198 i0 (.agg #[.int .i64 0, .int .i64 0, .int .i64 0, .int .i64 0, .int .i64 0, .int .i64 0, .int .i64 0, .int .i64 0, .int .i64 0, .int .i64 0]) 10 80 Tryz.underlying173 hI hZ0 hZ1 hZ2 rfl (by decide) _ 0 xs rfl H.out ⟨xb, 0, none⟩ 1 1 ys rfl (by rw [HYl.out]) HY.out H1.out (by unfold maxLen; omega) (by omega) hb ?_; intro v' w3 hown' hgrow _; have HW := Lib.hid hown'; have HG := Lib.hid hgrow; clear hown' hgrow)
    go_ret
    exact ⟨v', rfl, HW.out, kept_grown HG.out⟩
  · by_cases hcn : cap = n
    · subst hcn
      have hz : ¬ (1 : Int) = 0 := by omega
      clear h hy hyl h1 hlen hcs ht hcur hg
      unfold maxLen at hcm
      go_enter Tryz.func180, Tryz.ntmps180
      go_wp2_with (at_builtin; refine wpList_append_own _ rfl _ _ 173 rfl base 198 i0 (.agg #[.int .i64 0, .int .i64 0, .int .i64 0, .int .i64 0, .int .i64 0, .int .i64 0, .int .i64 0, .int .i64 0, .int .i64 0, .int .i64 0]) 10 80 Tryz.underlying173 hI hZ0 hZ1 hZ2 rfl (by decide) _ cap xs rfl H.out ⟨xb, 0, none⟩ 1 1 ys rfl (by rw [HYl.out]) HY.out H1.out (by unfold maxLen; omega) (by omega) hb ?_; intro v' w3 hown' hgrow _; have HW := Lib.hid hown'; have HG := Lib.hid hgrow; clear hown' hgrow)
      go_ret
      exact ⟨v', rfl, HW.out, kept_grown HG.out⟩
    · have hcn2 : ¬ n = cap := fun e => hcn e.symm
      clear h hy hyl h1 hlen hcs ht hcur hg
      unfold maxLen at hcm
      go_enter Tryz.func180, Tryz.ntmps180
      go_wp2_with (at_builtin; refine wpList_append_own _ rfl _ _ 173 rfl base 198 i0 (.agg #[.int .i64 0, .int .i64 0, .int .i64 0, .int .i64 0, .int .i64 0, .int .i64 0, .int .i64 0, .int .i64 0, .int .i64 0, .int .i64 0]) 10 80 Tryz.underlying173 hI hZ0 hZ1 hZ2 rfl (by decide) _ n xs rfl H.out ⟨xb, 0, none⟩ 1 1 ys rfl (by rw [HYl.out]) HY.out H1.out (by unfold maxLen; omega) (by omega) hb ?_; intro v' w3 hown' hgrow _; have HW := Lib.hid hown'; have HG := Lib.hid hgrow; clear hown' hgrow)
      go_ret
      exact ⟨v', rfl, HW.out, kept_grown HG.out⟩

set_option maxRecDepth 100000 in
set_option maxHeartbeats 8000000 in
theorem insP_grow {W : World} {base g n k : Nat} {cur : Array Value} {xs : List Value} (hk : k < n) (hb : base ≤ W.heap.size) (hn : n ≤ 40000) (hcur : W.heap[g]? = some (.cells cur 198 (0, 0))) (hcs : cur.toList = xs) (hxl : xs.length = n * 10) (hx1 : ∀ u ∈ xs, u.oneCell' = true) {xb : Nat} {ys : List Value} (hy : W.heap[xb]? = some (.cells ys.toArray 198 (0, 0))) (hyl : ys.length = 10) (h1 : ∀ u ∈ ys, u.oneCell' = true) :
    Calls Tryz.prog 180 #[.slice (some ⟨g, 0, none⟩) n n, .int .i64 (k : Int), .slice (some ⟨xb, 0, none⟩) 1 1] W fun e w' => ∃ v', e = .returned v' ∧ w'.ownsRow base 198 10 v' (n + 1) (xs.take (k * 10) ++ (ys ++ xs.drop (k * 10))) ∧ Below W.heap.size W w' := by
  obtain ⟨i0, hI, hZ0, hZ1, hZ2⟩ := info_parts Tryz.info198
  have HSz : Hid ((Tryz.prog.info? 198).map (·.size) = some 10) := Lib.hid (by rw [hI]; simp [hZ1])
  have HCur := Lib.hid hcur
  have HY := Lib.hid (news_at hy)
  have HYb := Lib.hid hy
  have HYl := Lib.hid hyl
  have H1 := Lib.hid h1
  have HX1 := Lib.hid hx1
  have HXl := Lib.hid hxl
  have HAl : Hid ((xs.take (k * 10)).length = k * 10) := Lib.hid (by rw [List.length_take, hxl]; omega)
  have HBl : Hid ((xs.drop (k * 10)).length = (n - k) * 10) := Lib.hid (by rw [List.length_drop, hxl]; omega)
  have HCell : Hid (∀ j u, xs[j]? = some u → W.cell? ⟨g, j, none⟩ = some u) := Lib.hid (fun j u hj => by
    simp only [World.cell?, hcur]
    rw [← hcs] at hj
    simpa using hj)
  obtain ⟨v2, w1, hr, hown, hgrow⟩ := run_append_zeros_grows (P := Tryz.prog) W 173 3 173 198 i0 (.agg #[.int .i64 0, .int .i64 0, .int .i64 0, .int .i64 0, .int .i64 0, .int .i64 0, .int .i64 0, .int .i64 0, .int .i64 0, .int .i64 0]) 10 80 .i64 Tryz.underlying173 Tryz.underlying3 hI hZ0 hZ1 hZ2 rfl (by decide) ⟨g, 0, none⟩ k n (xs.take (k * 10)) HAl.out (fun j u hj => by rw [Addr.add_lit, Nat.zero_add]; exact HCell.out j u (by rw [List.getElem?_take] at hj; split at hj; exact hj; cases hj)) (n + 1 - k) (by omega) (by omega) (by unfold maxLen; omega) (by omega)
  have HR := Lib.hid hr
  have e1 : k + (n + 1 - k) = n + 1 := by omega
  rw [e1] at hown
  obtain ⟨hol, hnil | ⟨g2, cap2, cur2, rfl, hg2, hc2, hn2, hm2, hs2, ht2⟩⟩ := hown
  · exact absurd hnil.2 (by omega)
  have HC2 := Lib.hid hc2
  have HS2 := Lib.hid hs2
  have HT2 := Lib.hid ht2
  have HG2 : Hid (W.heap.size ≤ g2) := Lib.hid hg2
  have HBw1 : Hid (Below W.heap.size W w1) := Lib.hid (by
    exact ⟨hgrow.os, hgrow.tape, hgrow.output, hgrow.size, fun i hi => hgrow.block i hi (by simp)⟩)
  have HYb1 := Lib.hid ((HBw1.out.block _ (lt_of_block HYb.out)).trans HYb.out)
  have HCur1 := Lib.hid ((HBw1.out.block _ (lt_of_block HCur.out)).trans HCur.out)
  have hne1 : ¬ xb = g2 := fun e => by have := lt_of_block HYb.out; have := HG2.out; omega
  have hgne : ¬ g = g2 := fun e => by have := lt_of_block HCur.out; have := HG2.out; omega
  have HCp1 := Lib.hid (run_copy_rowK (P := Tryz.prog) w1 10 173 173 3 198 g2 (k * 10) (n + 1 - k) (cap2 - k) ⟨xb, 0, none⟩ 1 1 cur2 198 ys Tryz.underlying173 HSz.out HC2.out (by rw [HYl.out, show Nat.min 1 (n + 1 - k) = 1 from Nat.min_eq_left (by omega)]) (news_at HYb1.out) (by rw [HYl.out, HS2.out]; omega) H1.out)
  generalize hw2 : w1.setRow g2 _ = w2 at HCp1
  have HC3 : Hid (w2.heap[g2]? = some (.cells (cur2.toList.take (k * 10) ++ ys ++ cur2.toList.drop (k * 10 + ys.length)).toArray 198 (0, 0))) := Lib.hid (by rw [← hw2]; exact setRow_heap _ _ _ _ _ _ HC2.out)
  have HBw2 : Hid (Below W.heap.size W w2) := Lib.hid (by rw [← hw2]; exact below_row HBw1.out HG2.out _)
  have HCur2 := Lib.hid ((HBw2.out.block _ (lt_of_block HCur.out)).trans HCur.out)
  have HSz3 : Hid ((cur2.toList.take (k * 10) ++ ys ++ cur2.toList.drop (k * 10 + ys.length)).length = cap2 * 10) := Lib.hid (by
    have := HS2.out
    have := HYl.out
    simp only [List.length_append, List.length_take, List.length_drop, Array.length_toList]
    omega)
  have HCp2 : Hid (∀ w3, Below w2.heap.size w2 w3 → ∃ w4, (Builtin.copy_ #[173, 173] 3 #[.slice (some ⟨g2, (k + 1) * 10, none⟩) (n - k) (cap2 - (k + 1)), .slice (some ⟨g, k * 10, none⟩) (n - k) (n - k)]).run Tryz.prog w3 = .ok (goInt ((n - k : Nat) : Int)) w4 ∧ Hid (w4.ownsRow base 198 10 (.slice (some ⟨g2, 0, none⟩) (n + 1) cap2) (n + 1) (xs.take (k * 10) ++ (ys ++ xs.drop (k * 10)))) ∧ Hid (Below W.heap.size W w4)) := Lib.hid (fun w3 hb3 => by
    have h3 := (hb3.block _ (lt_of_block HC3.out)).trans HC3.out
    have hc3 := (hb3.block _ (lt_of_block HCur2.out)).trans HCur2.out
    have e2 : Nat.min (n - k) (n - k) = n - k := Nat.min_self _
    have hs4 : (k + 1) * 10 + (xs.drop (k * 10)).length ≤ cap2 * 10 := by rw [HBl.out]; omega
    have hr := run_copy_rowK (P := Tryz.prog) w3 10 173 173 3 198 g2 ((k + 1) * 10) (n - k) (cap2 - (k + 1)) ⟨g, k * 10, none⟩ (n - k) (n - k) _ 198 (xs.drop (k * 10)) Tryz.underlying173 HSz.out h3 (by rw [HBl.out, e2]) (fun j u hj => by
      rw [Addr.add_lit]
      simp only [World.cell?, hc3]
      rw [List.getElem?_drop, ← hcs] at hj
      simpa using hj) (by rw [List.size_toArray, HSz3.out]; exact hs4) (fun u hu => HX1.out u (List.mem_of_mem_drop hu))
    rw [e2] at hr
    refine ⟨_, hr, Lib.hid ⟨?_, .inr ⟨g2, cap2, _, rfl, by have := HG2.out; omega, setRow_heap _ _ _ _ _ _ h3, hn2, hm2, ?_, ?_⟩⟩, Lib.hid (below_row (bt HBw2.out hb3) HG2.out _)⟩
    · rw [List.length_append, List.length_append, HAl.out, HYl.out, HBl.out]; omega
    · have := HSz3.out
      have := HBl.out
      simp only [List.size_toArray, List.length_append, List.length_take, List.length_drop] at *
      omega
    · simp only [List.toList_toArray]
      exact splice_two (n := n) (k := k) (s := 10) HAl.out HYl.out HBl.out (by omega) (by have := HS2.out; rw [Array.length_toList]; omega) (by
        have h := HT2.out
        have h5 : (cur2.toList.take ((n + 1) * 10)).take (k * 10) = xs.take (k * 10) := by
          rw [h, List.take_append_of_le_length (by rw [HAl.out]; omega), List.take_of_length_le (by rw [HAl.out]; omega)]
        rw [List.take_take, Nat.min_eq_left (by omega)] at h5
        exact h5))
  have ec : ((n + 1 - k : Nat) : Int) = (n : Int) + 1 - k := by omega
  rw [ec] at HR
  have hkn : ¬ (k : Int) = (n : Int) := by omega
  have hkc : ¬ cap2 = k := by omega
  have hkc1 : ¬ cap2 = k + 1 := by omega
  have hnk : ¬ n = k := by omega
  have hz1 : ¬ (1 : Int) = 0 := by omega
  have TN1 : Hid (((k : Int) + 1).toNat = k + 1) := Lib.hid (by omega)
  have HW1 : Hid (wrap64 ((k : Int) + 1) = (k : Int) + 1) := Lib.hid (by unfold wrap64; omega)
  unfold maxLen at hm2
  clear hw2 hr hgrow hol hg2 hc2 hs2 ht2 hcur hcs hxl hx1 hy hyl h1 e1 ec hI hZ0 hZ1 hZ2 hb
  go_enter Tryz.func180, Tryz.ntmps180
  go_wp2_with (first
    | (at_builtin; refine Lib.wpList_append_run W rfl _ _ 173 3 rfl _ _ rfl rfl _ _ HR.out ?_)
    | (refine wpList_copy_runK w1 rfl (.tmp 43) (.tmp 44) 173 173 rfl _ _ rfl rfl HCp1.out ?_))
  go_frame
  refine wp_region_calm 8 99 [0, 1, 2, 3, 4, 5, 6, 7] (by kernel_rfl) (by kernel_rfl) (by intro oz h; simp at h) (by intro oz h; simp at h) (by rfl) ?_
  simp only [List.take_succ_cons, List.take_zero]
  iterate 4
    apply wpCalm_want
    · rfl
    · exact bc_refl
    · exact ⟨_, Below.refl _ _⟩
    · intro w00 hC0 K hK
      go_big_quiet_op
      exact hK
  have hw1 := HW1.out
  have tn1 := TN1.out
  try simp only [hw1, tn1]
  apply wpCalm_want
  · rfl
  · exact bc_refl
  · exact ⟨_, Below.refl _ _⟩
  · intro w00 hC0 K hK
    go_big_quiet_op
    exact hK
  try simp only [hw1, tn1]
  iterate 3
    apply wpCalm_want
    · rfl
    · exact bc_refl
    · exact ⟨_, Below.refl _ _⟩
    · intro w00 hC0 K hK
      go_big_quiet_op
      exact hK
  refine wpCalm_nil ?_
  intro w3 hbq
  try simp only [List.drop_succ_cons, List.drop_zero]
  obtain ⟨w4, hr4, HO4, HB4⟩ := HCp2.out w3 hbq
  have HR4 := Lib.hid hr4
  clear hr4 hbq
  refine wpList_copy_runK w3 rfl (.tmp 50) (.tmp 53) 173 173 rfl _ _ rfl rfl HR4.out ?_
  go_wp2_with fail
  go_ret
  exact ⟨_, rfl, HO4.out, HB4.out⟩

end Go.Proofs.YtgbnjjgnihjfgaaGreat
end

section
set_option linter.unusedVariables false
set_option linter.unusedSimpArgs false
namespace Go.Proofs.YtgbnjjgnihjfgaaGreat
open Go.RowKit Go.Sort Go.ChangeMaps Go.MapKept

set_option maxRecDepth 100000 in
set_option maxHeartbeats 8000000 in
theorem insP_room {W : World} {base g n k cap : Nat} {cur : Array Value} {xs : List Value} (hk : k < n) (hg : base ≤ g) (hn : n ≤ 40000) (hnc : n < cap) (hcm : cap ≤ maxLen) (hcur : W.heap[g]? = some (.cells cur 198 (0, 0))) (hcs : cur.size = cap * 10) (ht : cur.toList.take (n * 10) = xs) (hx1 : ∀ u ∈ xs, u.oneCell' = true) {xb : Nat} {ys : List Value} (hy : W.heap[xb]? = some (.cells ys.toArray 198 (0, 0))) (hyl : ys.length = 10) (h1 : ∀ u ∈ ys, u.oneCell' = true) (hne : ¬ xb = g) :
    Calls Tryz.prog 180 #[.slice (some ⟨g, 0, none⟩) n cap, .int .i64 (k : Int), .slice (some ⟨xb, 0, none⟩) 1 1] W fun e w' => ∃ v', e = .returned v' ∧ w'.ownsRow base 198 10 v' (n + 1) (xs.take (k * 10) ++ (ys ++ xs.drop (k * 10))) ∧ Kept (fun i => i = g) W w' := by
  obtain ⟨i0, hI, hZ0, hZ1, hZ2⟩ := info_parts Tryz.info198
  have HSz : Hid ((Tryz.prog.info? 198).map (·.size) = some 10) := Lib.hid (by rw [hI]; simp [hZ1])
  have HZs : Hid (∀ w, (Go.sizeOf 198).run Tryz.prog w = .ok 10 w) := Lib.hid (fun w => by simp [sizeOf, typeInfo, hI, hZ1])
  have HCur := Lib.hid hcur
  have HCs := Lib.hid hcs
  have HT := Lib.hid ht
  have HYb := Lib.hid hy
  have HYl := Lib.hid hyl
  have H1 := Lib.hid h1
  have HX1 := Lib.hid hx1
  have hcl : n * 10 + 10 ≤ cap * 10 := by omega
  have HXl : Hid (xs.length = n * 10) := Lib.hid (by rw [← ht, List.length_take, Array.length_toList, hcs]; omega)
  have HBl : Hid ((xs.drop (k * 10)).length = (n - k) * 10) := Lib.hid (by rw [List.length_drop, HXl.out]; omega)
  have hov : ∀ lb cb, (callFunc 184 #[.slice (some ⟨xb, 0, none⟩) 1 1, .slice (some ⟨g, (k + 1) * 10, none⟩) lb cb]).run Tryz.prog W = .ok (.value (.bool false)) W := fun lb cb => by
    rw [run_callFunc_extern Tryz.func184 (by kernel_rfl) (by kernel_rfl) (by kernel_rfl) (e := Extern.SlicesOverlaps.overlaps #[173, 173] #[4]) (by kernel_rfl),
      Lib.run_overlaps_apart W 173 4 198 Tryz.underlying173 10 HZs.out ⟨xb, 0, none⟩ ⟨g, (k + 1) * 10, none⟩ 1 1 lb cb hne 198 198 ys.toArray.size cur.size (by simp [World.shape?, hy]) (by simp [World.shape?, hcur]) (by rw [hcs]; omega) (by simp [World.frozen?, hy]) (by simp [World.frozen?, hy])]
    rfl
  have HCp1 : Hid (∀ w3, Below W.heap.size W w3 → ∃ w4, (Builtin.copy_ #[173, 173] 3 #[.slice (some ⟨g, (k + 1) * 10, none⟩) (n - k) (cap - (k + 1)), .slice (some ⟨g, k * 10, none⟩) (n + 1 - k) (cap - k)]).run Tryz.prog w3 = .ok (goInt ((n - k : Nat) : Int)) w4 ∧ Hid (∃ w5, (Builtin.copy_ #[173, 173] 3 #[.slice (some ⟨g, k * 10, none⟩) (n + 1 - k) (cap - k), .slice (some ⟨xb, 0, none⟩) 1 1]).run Tryz.prog w4 = .ok (goInt 1) w5 ∧ Hid (w5.ownsRow base 198 10 (.slice (some ⟨g, 0, none⟩) (n + 1) cap) (n + 1) (xs.take (k * 10) ++ (ys ++ xs.drop (k * 10)))) ∧ Hid (Kept (fun i => i = g) W w5))) := Lib.hid (fun w3 hb3 => by
    have h3 := (hb3.block _ (lt_of_block HCur.out)).trans HCur.out
    have hy3 := (hb3.block _ (lt_of_block HYb.out)).trans HYb.out
    have e2 : Nat.min (n + 1 - k) (n - k) = n - k := Nat.min_eq_right (by omega)
    have hr := run_copy_rowK (P := Tryz.prog) w3 10 173 173 3 198 g ((k + 1) * 10) (n - k) (cap - (k + 1)) ⟨g, k * 10, none⟩ (n + 1 - k) (cap - k) _ 198 (xs.drop (k * 10)) Tryz.underlying173 HSz.out h3 (by rw [HBl.out, e2]) (fun j u hj => by
      rw [Addr.add_lit]
      simp only [World.cell?, h3]
      have hj2 := (List.getElem?_eq_some_iff.1 hj).1
      rw [List.getElem?_drop, ← HT.out, List.getElem?_take] at hj
      split at hj
      · simpa using hj
      · cases hj) (by rw [HBl.out, HCs.out]; omega) (fun u hu => HX1.out u (List.mem_of_mem_drop hu))
    rw [e2] at hr
    refine ⟨_, hr, Lib.hid ?_⟩
    generalize hw4 : w3.setRow g _ = w4
    have h4 : w4.heap[g]? = some (.cells (cur.toList.take ((k + 1) * 10) ++ xs.drop (k * 10) ++ cur.toList.drop ((k + 1) * 10 + (xs.drop (k * 10)).length)).toArray 198 (0, 0)) := by rw [← hw4]; exact setRow_heap _ _ _ _ _ _ h3
    have hk4 : Kept (fun i => i = g) W w4 := by
      rw [← hw4]
      exact kept_row (F := fun i => i = g) (Kept.of_below hb3) (.inl rfl) _
    have hy4 : w4.heap[xb]? = some (.cells ys.toArray 198 (0, 0)) := (hk4.block _ (lt_of_block HYb.out) hne).trans HYb.out
    have hs4 : (cur.toList.take ((k + 1) * 10) ++ xs.drop (k * 10) ++ cur.toList.drop ((k + 1) * 10 + (xs.drop (k * 10)).length)).length = cap * 10 := by
      simp only [List.length_append, List.length_take, Array.length_toList, HBl.out, List.length_drop (l := cur.toList), HCs.out]
      omega
    have e3 : Nat.min 1 (n + 1 - k) = 1 := Nat.min_eq_left (by omega)
    have hr2 := run_copy_rowK (P := Tryz.prog) w4 10 173 173 3 198 g (k * 10) (n + 1 - k) (cap - k) ⟨xb, 0, none⟩ 1 1 _ 198 ys Tryz.underlying173 HSz.out h4 (by rw [HYl.out, e3]) (news_at hy4) (by rw [List.size_toArray, hs4, HYl.out]; omega) H1.out
    rw [e3] at hr2
    refine ⟨_, hr2, Lib.hid ⟨?_, .inr ⟨g, cap, _, rfl, hg, setRow_heap _ _ _ _ _ _ h4, hnc, hcm, ?_, ?_⟩⟩, Lib.hid (kept_row (F := fun i => i = g) hk4 (.inl rfl) _)⟩
    · rw [List.length_append, List.length_append, List.length_take, HXl.out, HYl.out, HBl.out]; omega
    · have := HYl.out
      simp only [List.size_toArray, List.length_append, List.length_take, List.length_drop, Array.length_toList] at *
      omega
    · simp only [List.toList_toArray]
      exact splice_room (n := n) (k := k) (s := 10) HYl.out (by omega) HXl.out (by rw [Array.length_toList, HCs.out]; omega) HT.out)
  have hkn : ¬ (k : Int) = (n : Int) := by omega
  have hkc : ¬ cap = k := by omega
  have hkc1 : ¬ cap = k + 1 := by omega
  have hz1 : ¬ (1 : Int) = 0 := by omega
  have TN1 : Hid (((k : Int) + 1).toNat = k + 1) := Lib.hid (by omega)
  have HW1 : Hid (wrap64 ((k : Int) + 1) = (k : Int) + 1) := Lib.hid (by unfold wrap64; omega)
  unfold maxLen at hcm
  have tn1 := TN1.out
  clear hcur hcs ht hx1 hy hyl h1 hI hZ0 hZ1 hZ2 hg hcl
  go_enter Tryz.func180, Tryz.ntmps180
  go_wp2_with (simp only [hov])
  try go_frame
  clear tn1 hov
  refine wp_region_calm 8 99 [0, 1, 2, 3, 4, 5, 6, 7] (by kernel_rfl) (by kernel_rfl) (by intro oz h; simp at h) (by intro oz h; simp at h) (by rfl) ?_
  simp only [List.take_succ_cons, List.take_zero]
  iterate 4
    apply wpCalm_want
    · rfl
    · exact bc_refl
    · exact ⟨_, Below.refl _ _⟩
    · intro w00 hC0 K hK
      go_big_quiet_op
      exact hK
  have hw1 := HW1.out
  have tn1 := TN1.out
  try simp only [hw1, tn1]
  apply wpCalm_want
  · rfl
  · exact bc_refl
  · exact ⟨_, Below.refl _ _⟩
  · intro w00 hC0 K hK
    go_big_quiet_op
    exact hK
  try simp only [hw1, tn1]
  iterate 3
    apply wpCalm_want
    · rfl
    · exact bc_refl
    · exact ⟨_, Below.refl _ _⟩
    · intro w00 hC0 K hK
      go_big_quiet_op
      exact hK
  refine wpCalm_nil ?_
  intro w3 hbq
  try simp only [List.drop_succ_cons, List.drop_zero]
  obtain ⟨w4, hr4, HN4⟩ := HCp1.out w3 hbq
  obtain ⟨w5, hr5, HO5, HK5⟩ := HN4.out
  have HR4 := Lib.hid hr4
  have HR5 := Lib.hid hr5
  clear hr4 hr5 hbq
  refine wpList_copy_runK w3 rfl (.tmp 73) (.tmp 76) 173 173 rfl _ _ rfl rfl HR4.out ?_
  go_wp2_with (refine wpList_copy_runK w4 rfl (.tmp 80) (.tmp 81) 173 173 rfl _ _ rfl rfl HR5.out ?_)
  go_ret
  exact ⟨_, rfl, HO5.out, HK5.out⟩

end Go.Proofs.YtgbnjjgnihjfgaaGreat
end

section
set_option linter.unusedVariables false
set_option linter.unusedSimpArgs false
namespace Go.Proofs.YtgbnjjgnihjfgaaGreat
open Go.RowKit Go.Sort Go.ChangeMaps Go.MapKept

theorem insP_any {W : World} {base : Nat} {v : Value} {n k : Nat} {xs : List Value} (h : W.ownsRow base 198 10 v n xs) (hb : base ≤ W.heap.size) (hn : n ≤ 40000) (hk : k ≤ n) (hx1 : ∀ u ∈ xs, u.oneCell' = true) {xb : Nat} {ys : List Value} (hy : W.heap[xb]? = some (.cells ys.toArray 198 (0, 0))) (hyl : ys.length = 10) (h1 : ∀ u ∈ ys, u.oneCell' = true) (hne : ∀ i, v.ownBlock = some i → i ≠ xb) :
    Calls Tryz.prog 180 #[v, .int .i64 (k : Int), .slice (some ⟨xb, 0, none⟩) 1 1] W fun e w' => ∃ v', e = .returned v' ∧ w'.ownsRow base 198 10 v' (n + 1) (xs.take (k * 10) ++ (ys ++ xs.drop (k * 10))) ∧ Kept (fun i => v.ownBlock = some i) W w' := by
  have hxl := h.1
  by_cases hkn : k = n
  · subst hkn
    rw [List.take_of_length_le (by omega), List.drop_eq_nil_of_le (by omega), List.append_nil]
    exact insP_end h hb hn hy hyl h1
  · rcases h.2 with ⟨rfl, hn0⟩ | ⟨g, cap, cur, rfl, hg, hcur, hnc, hcm, hcs, ht⟩
    · omega
    · by_cases hc : cap = n
      · subst hc
        have hcur2 : cur.toList = xs := by
          rw [← ht, List.take_of_length_le (by rw [Array.length_toList, hcs]; omega)]
        exact (insP_grow (base := base) (by omega) hb hn hcur hcur2 hxl hx1 hy hyl h1).mono fun e w' ⟨v', e1, e2, e3⟩ => ⟨v', e1, e2, Kept.of_below e3⟩
      · refine (insP_room (base := base) (by omega) hg hn (by omega) hcm hcur hcs ht hx1 hy hyl h1 (fun e => hne g rfl e.symm)).mono fun e w' ⟨v', e1, e2, e3⟩ => ⟨v', e1, e2, ?_⟩
        exact ⟨e3.os, e3.tape, e3.output, e3.size, fun i hi hf => e3.block i hi (fun e => hf (by rw [e]; rfl))⟩
set_option maxRecDepth 100000 in
set_option maxHeartbeats 8000000 in
theorem insertP_any {W : World} {base : Nat} {v : Value} {M : List PR} (hO : OwnP W base v M) (hb : base ≤ W.heap.size) (hl : M.length ≤ 40000) (x : PR) {g : FuncId} {fs cb : Array Value} {p : PR → Bool} (eg : ∀ args w, (callFunc g args).run Tryz.prog w = .ok (.enter g args) w) (hp : TellsP W g fs cb p) :
    Calls Tryz.prog 167 #[v, prV x, .func (.func g) fs cb] W fun e w' => ∃ v', e = .returned v' ∧ OwnP w' base v' (insB p x M) ∧ Kept (fun i => v.ownBlock = some i) W w' := by
  have HO := Lib.hid hO
  have HP := Lib.hid hp
  have HF : Hid (M.findIdx p ≤ M.length) := Lib.hid List.findIdx_le_length
  obtain ⟨⟨rt, rk, ⟨ra, rb, rc⟩⟩, ⟨st, sk, ⟨sa, sb, sc⟩⟩⟩ := x
  obtain ⟨a, n, cap, rfl⟩ := ownP_form2 hO
  have HN : Hid (n = M.length) := Lib.hid (by
    rcases hO.2 with ⟨e, h0⟩ | ⟨g, cap, cur, e, _⟩
    · simp at e
      omega
    · simp at e
      omega)
  obtain ⟨k, Hk⟩ : ∃ k, Hid (M.findIdx p = k) := ⟨_, Lib.hid rfl⟩
  have hkn : k ≤ n := by have := HF.out; have := Hk.out; have := HN.out; omega
  have hn4 : n ≤ 40000 := by have := HN.out; omega
  have HX : Hid ((W.alloc (.cells #[.int .i64 rt, .int .i64 rk, .int .i64 ra, .int .i64 rb, .int .i64 rc, .int .i64 st, .int .i64 sk, .int .i64 sa, .int .i64 sb, .int .i64 sc] 198)).heap[W.heap.size]? = some (.cells #[.int .i64 rt, .int .i64 rk, .int .i64 ra, .int .i64 rb, .int .i64 rc, .int .i64 st, .int .i64 sk, .int .i64 sa, .int .i64 sb, .int .i64 sc] 198 (0, 0))) := Lib.hid (heap_alloc_new W _)
  have HB0 : Hid (Below W.heap.size W (W.alloc (.cells #[.int .i64 rt, .int .i64 rk, .int .i64 ra, .int .i64 rb, .int .i64 rc, .int .i64 st, .int .i64 sk, .int .i64 sa, .int .i64 sb, .int .i64 sc] 198))) := Lib.hid (ba W _)
  clear hO hp hl
  go_enter Tryz.func167, Tryz.ntmps167
  go_upto_region 1 with fail
  generalize W.alloc (.cells #[.int .i64 rt, .int .i64 rk, .int .i64 ra, .int .i64 rb, .int .i64 rc, .int .i64 st, .int .i64 sk, .int .i64 sa, .int .i64 sb, .int .i64 sc] 198) = w0 at *
  have HI := Lib.hid (indexFuncP_any (HO.out.below HB0.out).prS eg (fun W' r hb' => HP.out W' r (bt HB0.out hb')))
  go_wp2_with fail
  (with_reducible refine HI.out.mono ?_)
  rintro e w1 ⟨rfl, hb1⟩
  have HB1 := Lib.hid (bt HB0.out hb1)
  have HO1 := Lib.hid (HO.out.below HB1.out)
  have HX1 := Lib.hid ((hb1.block _ (lt_of_block HX.out)).trans HX.out)
  clear hb1
  have hzb : base ≤ w1.heap.size := Nat.le_trans hb HB1.out.size
  have HR : Hid (∀ w2, Below w1.heap.size w1 w2 → ∀ xb, w1.heap.size ≤ xb → w2.heap[xb]? = some (.cells #[.int .i64 rt, .int .i64 rk, .int .i64 ra, .int .i64 rb, .int .i64 rc, .int .i64 st, .int .i64 sk, .int .i64 sa, .int .i64 sb, .int .i64 sc] 198 (0, 0)) → Calls Tryz.prog 180 #[.slice a n cap, .int .i64 (k : Int), .slice (some ⟨xb, 0, none⟩) 1 1] w2 fun e w' => ∃ v', e = .returned v' ∧ Hid (OwnP w' base v' (insB p (⟨rt, rk, ⟨ra, rb, rc⟩⟩, ⟨st, sk, ⟨sa, sb, sc⟩⟩) M)) ∧ Hid (Kept (fun i => (Value.slice a n cap).ownBlock = some i) W w')) := Lib.hid (fun w2 hb2 xb hxb hy => by
    have hO2 := HO1.out.below hb2
    have hlt : ∀ i, (Value.slice a n cap).ownBlock = some i → i ≠ xb := fun i hi e => by
      have := OwnP.own_lt HO1.out hi
      omega
    refine (insP_any (W := w2) (k := k) hO2 (Nat.le_trans hzb hb2.size) (by have := HN.out; omega) (by have := HN.out; omega) (flatP_one M) (ys := [.int .i64 rt, .int .i64 rk, .int .i64 ra, .int .i64 rb, .int .i64 rc, .int .i64 st, .int .i64 sk, .int .i64 sa, .int .i64 sb, .int .i64 sc]) hy rfl (by simp [Value.oneCell']) hlt).mono fun e w' ⟨v', e1, e2, e3⟩ => ⟨v', e1, Lib.hid ?_, Lib.hid ?_⟩
    · rw [insB_eq, Hk.out]
      unfold OwnP
      rw [List.length_append, List.length_cons, flatP_app, flatP_cons, ← flatP_take, ← flatP_drop, List.length_take, List.length_drop]
      rw [show min k M.length + (M.length - k + 1) = M.length + 1 by have := HN.out; omega]
      exact e2
    · exact (Kept.of_below (bt HB1.out hb2)).trans e3 (fun _ _ f => f))
  by_cases hlt : k < n
  · have HII : Hid (idxI p M = k) := Lib.hid (by unfold idxI; rw [if_pos (by have := Hk.out; have := HN.out; omega), Hk.out])
    rw [HII.out]
    have hk0 : ¬ (k : Int) < 0 := by omega
    have y0 : w1.cell? ⟨W.heap.size, 0, none⟩ = some (.int .i64 rt) := by simp [World.cell?, HX1.out]
    have y1 : w1.cell? ⟨W.heap.size, 1, none⟩ = some (.int .i64 rk) := by simp [World.cell?, HX1.out]
    have y2 : w1.cell? ⟨W.heap.size, 2, none⟩ = some (.int .i64 ra) := by simp [World.cell?, HX1.out]
    have y3 : w1.cell? ⟨W.heap.size, 3, none⟩ = some (.int .i64 rb) := by simp [World.cell?, HX1.out]
    have y4 : w1.cell? ⟨W.heap.size, 4, none⟩ = some (.int .i64 rc) := by simp [World.cell?, HX1.out]
    have y5 : w1.cell? ⟨W.heap.size, 5, none⟩ = some (.int .i64 st) := by simp [World.cell?, HX1.out]
    have y6 : w1.cell? ⟨W.heap.size, 6, none⟩ = some (.int .i64 sk) := by simp [World.cell?, HX1.out]
    have y7 : w1.cell? ⟨W.heap.size, 7, none⟩ = some (.int .i64 sa) := by simp [World.cell?, HX1.out]
    have y8 : w1.cell? ⟨W.heap.size, 8, none⟩ = some (.int .i64 sb) := by simp [World.cell?, HX1.out]
    have y9 : w1.cell? ⟨W.heap.size, 9, none⟩ = some (.int .i64 sc) := by simp [World.cell?, HX1.out]
    go_wp2_with fail
    refine (HR.out _ (ba w1 _) _ (Nat.le_refl _) (heap_alloc_new w1 _)).mono ?_
    rintro e w3 ⟨v', rfl, HOn, HKn⟩
    go_wp2_with fail
    go_ret
    exact ⟨v', rfl, HOn.out, HKn.out⟩
  · obtain rfl : k = n := by omega
    have HII : Hid (idxI p M = -1) := Lib.hid (by unfold idxI; rw [if_neg (by have := Hk.out; have := HN.out; omega)])
    rw [HII.out]
    have y0 : w1.cell? ⟨W.heap.size, 0, none⟩ = some (.int .i64 rt) := by simp [World.cell?, HX1.out]
    have y1 : w1.cell? ⟨W.heap.size, 1, none⟩ = some (.int .i64 rk) := by simp [World.cell?, HX1.out]
    have y2 : w1.cell? ⟨W.heap.size, 2, none⟩ = some (.int .i64 ra) := by simp [World.cell?, HX1.out]
    have y3 : w1.cell? ⟨W.heap.size, 3, none⟩ = some (.int .i64 rb) := by simp [World.cell?, HX1.out]
    have y4 : w1.cell? ⟨W.heap.size, 4, none⟩ = some (.int .i64 rc) := by simp [World.cell?, HX1.out]
    have y5 : w1.cell? ⟨W.heap.size, 5, none⟩ = some (.int .i64 st) := by simp [World.cell?, HX1.out]
    have y6 : w1.cell? ⟨W.heap.size, 6, none⟩ = some (.int .i64 sk) := by simp [World.cell?, HX1.out]
    have y7 : w1.cell? ⟨W.heap.size, 7, none⟩ = some (.int .i64 sa) := by simp [World.cell?, HX1.out]
    have y8 : w1.cell? ⟨W.heap.size, 8, none⟩ = some (.int .i64 sb) := by simp [World.cell?, HX1.out]
    have y9 : w1.cell? ⟨W.heap.size, 9, none⟩ = some (.int .i64 sc) := by simp [World.cell?, HX1.out]
    go_wp2_with fail
    refine (HR.out _ (ba w1 _) _ (Nat.le_refl _) (heap_alloc_new w1 _)).mono ?_
    rintro e w3 ⟨v', rfl, HOn, HKn⟩
    go_wp2_with fail
    go_ret
    exact ⟨v', rfl, HOn.out, HKn.out⟩
end Go.Proofs.YtgbnjjgnihjfgaaGreat
end

section
set_option linter.unusedVariables false
set_option linter.unusedSimpArgs false
namespace Go.Proofs.YtgbnjjgnihjfgaaGreat
open Go.RowKit Go.Sort Go.ChangeMaps Go.MapKept

set_option maxRecDepth 100000 in
set_option maxHeartbeats 4000000 in
theorem pairPartner_any {q : MQ} {c : MCh} {eb : Nat} {w : World} (hE : EffAt w eb q c) (r : PR) : Calls Tryz.prog 164 #[prV r, ptr eb] w fun e w' => e = .returned (.bool (decide (r.2.k = msA q c))) ∧ Below w.heap.size w w' := by
  obtain ⟨⟨rt, rk, ⟨ra, rb, rc⟩⟩, ⟨st, sk, ⟨sa, sb, sc⟩⟩⟩ := r
  have HA : Hid ((effC q c)[32]? = some (.int .i64 (msA q c))) := Lib.hid rfl
  have HE := Lib.hid hE
  unfold EffAt at HE
  clear hE
  generalize effC q c = E at *
  generalize msA q c = ck at *
  go_enter Tryz.func164, Tryz.ntmps164
  go_upto_region 1 with fail
  have HE0 := Lib.hid (((ba w (.cells #[.int .i64 rt, .int .i64 rk, .int .i64 ra, .int .i64 rb, .int .i64 rc, .int .i64 st, .int .i64 sk, .int .i64 sa, .int .i64 sb, .int .i64 sc] 198)).block _ (lt_of_block HE.out)).trans HE.out)
  have HR : Hid ((w.alloc (.cells #[.int .i64 rt, .int .i64 rk, .int .i64 ra, .int .i64 rb, .int .i64 rc, .int .i64 st, .int .i64 sk, .int .i64 sa, .int .i64 sb, .int .i64 sc] 198)).heap[w.heap.size]? = some (.cells #[.int .i64 rt, .int .i64 rk, .int .i64 ra, .int .i64 rb, .int .i64 rc, .int .i64 st, .int .i64 sk, .int .i64 sa, .int .i64 sb, .int .i64 sc] 198 (0, 0))) := Lib.hid (heap_alloc_new w _)
  have HB : Hid (Below w.heap.size w (w.alloc (.cells #[.int .i64 rt, .int .i64 rk, .int .i64 ra, .int .i64 rb, .int .i64 rc, .int .i64 st, .int .i64 sk, .int .i64 sa, .int .i64 sb, .int .i64 sc] 198))) := Lib.hid (ba w _)
  generalize w.alloc (.cells #[.int .i64 rt, .int .i64 rk, .int .i64 ra, .int .i64 rb, .int .i64 rc, .int .i64 st, .int .i64 sk, .int .i64 sa, .int .i64 sb, .int .i64 sc] 198) = w0 at *
  have x1 : w0.cell? ⟨w.heap.size, 6, none⟩ = some (.int .i64 sk) := by simp [World.cell?, HR.out]
  have e8 : w0.cell? ⟨eb, 32, none⟩ = some (.int .i64 ck) := by simp [World.cell?, HE0.out, HA.out]
  by_cases h2 : sk = ck
  · have d2 : (sk == ck) = true := by simp [h2]
    have HF : Hid (Ending.returned (.bool true) = .returned (.bool (decide (sk = ck)))) := Lib.hid (by rw [decide_eq_true h2])
    clear h2
    go_wp2_with fail
    go_ret
    exact ⟨HF.out, HB.out⟩
  · have d2 : (sk == ck) = false := by simp [h2]
    have HF : Hid (Ending.returned (.bool false) = .returned (.bool (decide (sk = ck)))) := Lib.hid (by rw [decide_eq_false h2])
    clear h2
    go_wp2_with fail
    go_ret
    exact ⟨HF.out, HB.out⟩
set_option maxRecDepth 100000 in
set_option maxHeartbeats 4000000 in
theorem pairLeft_any {q : MQ} {c : MCh} {eb : Nat} {w : World} (hE : EffAt w eb q c) (r : PR) : Calls Tryz.prog 166 #[prV r, ptr eb] w fun e w' => e = .returned (.bool (decide (r.1.k = c.k))) ∧ Below w.heap.size w w' := by
  obtain ⟨⟨rt, rk, ⟨ra, rb, rc⟩⟩, ⟨st, sk, ⟨sa, sb, sc⟩⟩⟩ := r
  have HA : Hid ((effC q c)[8]? = some (.int .i64 (c.k))) := Lib.hid rfl
  have HE := Lib.hid hE
  unfold EffAt at HE
  clear hE
  generalize effC q c = E at *
  generalize c.k = ck at *
  go_enter Tryz.func166, Tryz.ntmps166
  go_upto_region 1 with fail
  have HE0 := Lib.hid (((ba w (.cells #[.int .i64 rt, .int .i64 rk, .int .i64 ra, .int .i64 rb, .int .i64 rc, .int .i64 st, .int .i64 sk, .int .i64 sa, .int .i64 sb, .int .i64 sc] 198)).block _ (lt_of_block HE.out)).trans HE.out)
  have HR : Hid ((w.alloc (.cells #[.int .i64 rt, .int .i64 rk, .int .i64 ra, .int .i64 rb, .int .i64 rc, .int .i64 st, .int .i64 sk, .int .i64 sa, .int .i64 sb, .int .i64 sc] 198)).heap[w.heap.size]? = some (.cells #[.int .i64 rt, .int .i64 rk, .int .i64 ra, .int .i64 rb, .int .i64 rc, .int .i64 st, .int .i64 sk, .int .i64 sa, .int .i64 sb, .int .i64 sc] 198 (0, 0))) := Lib.hid (heap_alloc_new w _)
  have HB : Hid (Below w.heap.size w (w.alloc (.cells #[.int .i64 rt, .int .i64 rk, .int .i64 ra, .int .i64 rb, .int .i64 rc, .int .i64 st, .int .i64 sk, .int .i64 sa, .int .i64 sb, .int .i64 sc] 198))) := Lib.hid (ba w _)
  generalize w.alloc (.cells #[.int .i64 rt, .int .i64 rk, .int .i64 ra, .int .i64 rb, .int .i64 rc, .int .i64 st, .int .i64 sk, .int .i64 sa, .int .i64 sb, .int .i64 sc] 198) = w0 at *
  have x1 : w0.cell? ⟨w.heap.size, 1, none⟩ = some (.int .i64 rk) := by simp [World.cell?, HR.out]
  have e8 : w0.cell? ⟨eb, 8, none⟩ = some (.int .i64 ck) := by simp [World.cell?, HE0.out, HA.out]
  by_cases h2 : rk = ck
  · have d2 : (rk == ck) = true := by simp [h2]
    have HF : Hid (Ending.returned (.bool true) = .returned (.bool (decide (rk = ck)))) := Lib.hid (by rw [decide_eq_true h2])
    clear h2
    go_wp2_with fail
    go_ret
    exact ⟨HF.out, HB.out⟩
  · have d2 : (rk == ck) = false := by simp [h2]
    have HF : Hid (Ending.returned (.bool false) = .returned (.bool (decide (rk = ck)))) := Lib.hid (by rw [decide_eq_false h2])
    clear h2
    go_wp2_with fail
    go_ret
    exact ⟨HF.out, HB.out⟩
set_option maxRecDepth 100000 in
set_option maxHeartbeats 4000000 in
theorem pairRight_any {q : MQ} {c : MCh} {eb : Nat} {w : World} (hE : EffAt w eb q c) (r : PR) : Calls Tryz.prog 169 #[prV r, ptr eb] w fun e w' => e = .returned (.bool (decide (r.2.k = c.k))) ∧ Below w.heap.size w w' := by
  obtain ⟨⟨rt, rk, ⟨ra, rb, rc⟩⟩, ⟨st, sk, ⟨sa, sb, sc⟩⟩⟩ := r
  have HA : Hid ((effC q c)[8]? = some (.int .i64 (c.k))) := Lib.hid rfl
  have HE := Lib.hid hE
  unfold EffAt at HE
  clear hE
  generalize effC q c = E at *
  generalize c.k = ck at *
  go_enter Tryz.func169, Tryz.ntmps169
  go_upto_region 1 with fail
  have HE0 := Lib.hid (((ba w (.cells #[.int .i64 rt, .int .i64 rk, .int .i64 ra, .int .i64 rb, .int .i64 rc, .int .i64 st, .int .i64 sk, .int .i64 sa, .int .i64 sb, .int .i64 sc] 198)).block _ (lt_of_block HE.out)).trans HE.out)
  have HR : Hid ((w.alloc (.cells #[.int .i64 rt, .int .i64 rk, .int .i64 ra, .int .i64 rb, .int .i64 rc, .int .i64 st, .int .i64 sk, .int .i64 sa, .int .i64 sb, .int .i64 sc] 198)).heap[w.heap.size]? = some (.cells #[.int .i64 rt, .int .i64 rk, .int .i64 ra, .int .i64 rb, .int .i64 rc, .int .i64 st, .int .i64 sk, .int .i64 sa, .int .i64 sb, .int .i64 sc] 198 (0, 0))) := Lib.hid (heap_alloc_new w _)
  have HB : Hid (Below w.heap.size w (w.alloc (.cells #[.int .i64 rt, .int .i64 rk, .int .i64 ra, .int .i64 rb, .int .i64 rc, .int .i64 st, .int .i64 sk, .int .i64 sa, .int .i64 sb, .int .i64 sc] 198))) := Lib.hid (ba w _)
  generalize w.alloc (.cells #[.int .i64 rt, .int .i64 rk, .int .i64 ra, .int .i64 rb, .int .i64 rc, .int .i64 st, .int .i64 sk, .int .i64 sa, .int .i64 sb, .int .i64 sc] 198) = w0 at *
  have x1 : w0.cell? ⟨w.heap.size, 6, none⟩ = some (.int .i64 sk) := by simp [World.cell?, HR.out]
  have e8 : w0.cell? ⟨eb, 8, none⟩ = some (.int .i64 ck) := by simp [World.cell?, HE0.out, HA.out]
  by_cases h2 : sk = ck
  · have d2 : (sk == ck) = true := by simp [h2]
    have HF : Hid (Ending.returned (.bool true) = .returned (.bool (decide (sk = ck)))) := Lib.hid (by rw [decide_eq_true h2])
    clear h2
    go_wp2_with fail
    go_ret
    exact ⟨HF.out, HB.out⟩
  · have d2 : (sk == ck) = false := by simp [h2]
    have HF : Hid (Ending.returned (.bool false) = .returned (.bool (decide (sk = ck)))) := Lib.hid (by rw [decide_eq_false h2])
    clear h2
    go_wp2_with fail
    go_ret
    exact ⟨HF.out, HB.out⟩
set_option maxRecDepth 100000 in
set_option maxHeartbeats 4000000 in
theorem pairPrec_any {q : MQ} {c : MCh} {eb : Nat} {w : World} (hE : EffAt w eb q c) (hq : I64 q.column) (r : PR) : Calls Tryz.prog 168 #[prV r, ptr eb] w fun e w' => e = .returned (.bool (precQ q (aftR c) r.1)) ∧ Below w.heap.size w w' := by
  obtain ⟨⟨rt, rk, ⟨ra, rb, rc⟩⟩, ⟨st, sk, ⟨sa, sb, sc⟩⟩⟩ := r
  have HE := Lib.hid hE
  have HS : Hid ((effC q c).size = 33) := Lib.hid rfl
  have HC := Lib.hid (fun w => effPrec_any q c ⟨rt, rk, ⟨ra, rb, rc⟩⟩ hq w)
  unfold EffAt at HE
  unfold rowV at HC
  simp only at HC ⊢
  clear hE hq
  generalize precQ q (aftR c) _ = bb at *
  generalize effC q c = E at *
  go_enter Tryz.func168, Tryz.ntmps168
  go_upto_region 1 with fail
  have HE0 := Lib.hid (((ba w (.cells #[.int .i64 rt, .int .i64 rk, .int .i64 ra, .int .i64 rb, .int .i64 rc, .int .i64 st, .int .i64 sk, .int .i64 sa, .int .i64 sb, .int .i64 sc] 198)).block _ (lt_of_block HE.out)).trans HE.out)
  have HR : Hid ((w.alloc (.cells #[.int .i64 rt, .int .i64 rk, .int .i64 ra, .int .i64 rb, .int .i64 rc, .int .i64 st, .int .i64 sk, .int .i64 sa, .int .i64 sb, .int .i64 sc] 198)).heap[w.heap.size]? = some (.cells #[.int .i64 rt, .int .i64 rk, .int .i64 ra, .int .i64 rb, .int .i64 rc, .int .i64 st, .int .i64 sk, .int .i64 sa, .int .i64 sb, .int .i64 sc] 198 (0, 0))) := Lib.hid (heap_alloc_new w _)
  have HB : Hid (Below w.heap.size w (w.alloc (.cells #[.int .i64 rt, .int .i64 rk, .int .i64 ra, .int .i64 rb, .int .i64 rc, .int .i64 st, .int .i64 sk, .int .i64 sa, .int .i64 sb, .int .i64 sc] 198))) := Lib.hid (ba w _)
  generalize w.alloc (.cells #[.int .i64 rt, .int .i64 rk, .int .i64 ra, .int .i64 rb, .int .i64 rc, .int .i64 st, .int .i64 sk, .int .i64 sa, .int .i64 sb, .int .i64 sc] 198) = w0 at *
  have x0 : w0.cell? ⟨w.heap.size, 0, none⟩ = some (.int .i64 rt) := by simp [World.cell?, HR.out]
  have x1 : w0.cell? ⟨w.heap.size, 1, none⟩ = some (.int .i64 rk) := by simp [World.cell?, HR.out]
  have x2 : w0.cell? ⟨w.heap.size, 2, none⟩ = some (.int .i64 ra) := by simp [World.cell?, HR.out]
  have x3 : w0.cell? ⟨w.heap.size, 3, none⟩ = some (.int .i64 rb) := by simp [World.cell?, HR.out]
  have x4 : w0.cell? ⟨w.heap.size, 4, none⟩ = some (.int .i64 rc) := by simp [World.cell?, HR.out]
  go_wp2_with (refine wpList_load_row rfl 97 (.tmp 1) rfl eb rfl 97 _ _ _ HE0.out Tryz.underlying97 rfl (by rw [HS.out]; kernel_rfl) ?_)
  (with_reducible refine (HC.out _).mono ?_)
  rintro e w1 ⟨rfl, hb⟩
  have HB1 := Lib.hid (bt HB.out hb)
  clear hb x0 x1 x2 x3 x4
  go_wp2_with fail
  go_ret
  exact ⟨rfl, HB1.out⟩
end Go.Proofs.YtgbnjjgnihjfgaaGreat
end

section
set_option linter.unusedVariables false
set_option linter.unusedSimpArgs false
namespace Go.Proofs.YtgbnjjgnihjfgaaGreat
open Go.RowKit Go.Sort Go.ChangeMaps Go.MapKept

theorem prs_snoc2 : ∀ (l : List MRow) (a b : MRow), l.length % 2 = 0 → prs (l ++ [a, b]) = prs l ++ [(a, b)]
  | [], a, b, _ => rfl
  | [x], a, b, h => by simp at h
  | x :: y :: l, a, b, h => by
    have := prs_snoc2 l a b (by simp at h; omega)
    simp [prs, this]
theorem prs_snoc1 : ∀ (l : List MRow) (a : MRow), l.length % 2 = 0 → prs (l ++ [a]) = prs l
  | [], a, _ => rfl
  | [x], a, h => by simp at h
  | x :: y :: l, a, h => by
    have := prs_snoc1 l a (by simp at h; omega)
    simp [prs, this]
theorem prs_len : ∀ l : List MRow, (prs l).length ≤ l.length
  | [] => by simp [prs]
  | [x] => by simp [prs]
  | x :: y :: l => by
    have := prs_len l
    simp [prs]
    omega
set_option maxRecDepth 100000 in
set_option maxHeartbeats 8000000 in
theorem pairsOf_any {W : World} {va : Value} {L : List MRow} (hR : RowS W va L) (hl : L.length ≤ 40000) : Calls Tryz.prog 140 #[va] W fun e w' => ∃ v, e = .returned v ∧ OwnP w' W.heap.size v (prs L) ∧ Below W.heap.size W w' := by
  obtain ⟨i0, hI, hZ0, hZ1, hZ2⟩ := info_parts Tryz.info198
  have HR := Lib.hid hR
  obtain ⟨a, n, cap, rfl, hn, hc1, hc2, _⟩ := hR
  have HN := Lib.hid hn
  have hn4 : n ≤ 40000 := by omega
  clear hn hl
  go_enter Tryz.func140, Tryz.ntmps140
  go_wp2_with fail
  go_loopw [3, 4] (fun v i wr => ∃ m : Nat, m % 2 = 0 ∧ m ≤ n ∧ i = .int .i64 ((m : Int) + 1) ∧ Hid (OwnP wr W.heap.size v (prs (L.take m))) ∧ Hid (Below W.heap.size W wr)) (fun v i _ => n + 2 - (intOf i).toNat)
  case atStart => exact ⟨0, rfl, by omega, rfl, Lib.hid (OwnP.nil _ _), Lib.hid (Below.refl _ _)⟩
  case round =>
    obtain ⟨m, hm2, hmn, rfl, HO, HB⟩ := hrel
    obtain ⟨v, hvv⟩ : ∃ v, v = u3 := ⟨_, rfl⟩
    subst hvv
    have HM2 : Hid (m % 2 = 0) := Lib.hid hm2
    by_cases hlt : (m : Int) + 1 < (n : Int)
    · obtain ⟨_, n', _, e1, -, -, -, hcell⟩ := HR.out.below HB.out
      simp at e1
      obtain ⟨rfl, hnn, rfl⟩ := e1
      obtain ⟨vb, vo, rfl, hvb, hcs⟩ := hcell (by omega)
      have H1 := hcs m (by omega)
      have H2 := hcs (m + 1) (by omega)
      clear hcs hcell hnn
      obtain ⟨⟨rt, rk, ⟨ra, rb, rc⟩⟩, Hr⟩ : ∃ r, Hid (L.getD m rowZ = r) := ⟨_, Lib.hid rfl⟩
      obtain ⟨⟨st, sk, ⟨sa, sb, sc⟩⟩, Hs⟩ : ∃ r, Hid (L.getD (m + 1) rowZ = r) := ⟨_, Lib.hid rfl⟩
      rw [Hr.out] at H1
      rw [Hs.out] at H2
      have HC1 := Lib.hid (fun w (h : Below wr.heap.size wr w) => (H1.below hvb h).cells)
      have HC2 := Lib.hid (fun w (h : Below wr.heap.size wr w) => (H2.below hvb h).cells)
      simp only at HC1 HC2
      clear H1 H2
      have HTk : Hid (prs (L.take (m + 2)) = prs (L.take m) ++ [(⟨rt, rk, ⟨ra, rb, rc⟩⟩, ⟨st, sk, ⟨sa, sb, sc⟩⟩)]) := Lib.hid (by
        have hlL : n = L.length := HN.out
        rw [take_snoc' (d := rowZ) (i := m + 1) (by omega), Hs.out, take_snoc' (d := rowZ) (i := m) (by omega), Hr.out, List.append_assoc]
        exact prs_snoc2 _ _ _ (by rw [List.length_take]; have := HM2.out; omega))
      have hlen : (prs (L.take m)).length ≤ 40000 := by
        have h1 := prs_len (L.take m)
        have h2 := List.length_take_le m L
        omega
      clear hm2
      go_upto_region 5 with fail
      have g0 : ∀ wz, BW wr wz → ∀ d' os, (grow (redrawn wz d') os).cell? ⟨vb, vo + m * 5, none⟩ = some (.int .i64 rt) := fun wz h d' os => (HC1.out _ (bt h (below_regrown wz d' os))).1
      have g1 : ∀ wz, BW wr wz → ∀ d' os, (grow (redrawn wz d') os).cell? ⟨vb, vo + m * 5 + 1, none⟩ = some (.int .i64 rk) := fun wz h d' os => (HC1.out _ (bt h (below_regrown wz d' os))).2.1
      have g2 : ∀ wz, BW wr wz → ∀ d' os, (grow (redrawn wz d') os).cell? ⟨vb, vo + m * 5 + 2, none⟩ = some (.int .i64 ra) := fun wz h d' os => (HC1.out _ (bt h (below_regrown wz d' os))).2.2.1
      have g3 : ∀ wz, BW wr wz → ∀ d' os, (grow (redrawn wz d') os).cell? ⟨vb, vo + m * 5 + 3, none⟩ = some (.int .i64 rb) := fun wz h d' os => (HC1.out _ (bt h (below_regrown wz d' os))).2.2.2.1
      have g4 : ∀ wz, BW wr wz → ∀ d' os, (grow (redrawn wz d') os).cell? ⟨vb, vo + m * 5 + 4, none⟩ = some (.int .i64 rc) := fun wz h d' os => (HC1.out _ (bt h (below_regrown wz d' os))).2.2.2.2
      have k0 : ∀ wz, BW wr wz → ∀ d' os, (grow (redrawn wz d') os).cell? ⟨vb, vo + (m + 1) * 5, none⟩ = some (.int .i64 st) := fun wz h d' os => (HC2.out _ (bt h (below_regrown wz d' os))).1
      have k1 : ∀ wz, BW wr wz → ∀ d' os, (grow (redrawn wz d') os).cell? ⟨vb, vo + (m + 1) * 5 + 1, none⟩ = some (.int .i64 sk) := fun wz h d' os => (HC2.out _ (bt h (below_regrown wz d' os))).2.1
      have k2 : ∀ wz, BW wr wz → ∀ d' os, (grow (redrawn wz d') os).cell? ⟨vb, vo + (m + 1) * 5 + 2, none⟩ = some (.int .i64 sa) := fun wz h d' os => (HC2.out _ (bt h (below_regrown wz d' os))).2.2.1
      have k3 : ∀ wz, BW wr wz → ∀ d' os, (grow (redrawn wz d') os).cell? ⟨vb, vo + (m + 1) * 5 + 3, none⟩ = some (.int .i64 sb) := fun wz h d' os => (HC2.out _ (bt h (below_regrown wz d' os))).2.2.2.1
      have k4 : ∀ wz, BW wr wz → ∀ d' os, (grow (redrawn wz d') os).cell? ⟨vb, vo + (m + 1) * 5 + 4, none⟩ = some (.int .i64 sc) := fun wz h d' os => (HC2.out _ (bt h (below_regrown wz d' os))).2.2.2.2
      have hw1 : wrap64 ((m : Int) + 1 - 1) = m := by unfold wrap64; omega
      have tn1 : ((m : Int) + 1).toNat = m + 1 := by omega
      have hb1 : (0 : Int) ≤ (m : Int) + 1 := by omega
      refine wp_region_calm 11 0 [0, 1, 2, 3, 4, 5, 6, 7, 8, 9, 10] (by kernel_rfl) (by kernel_rfl) (by rintro _ ⟨rfl⟩; exact worldless_move _ rfl) (by rintro _ ⟨rfl⟩ _ _ _ _ h; exact h) (by rfl) ?_
      simp only [List.take_succ_cons, List.take_zero]
      iterate 4
        apply wpCalm_want
        · rfl
        · exact bc_refl
        · exact ⟨_, Below.refl _ _⟩
        · intro w00 hC0 K hK
          go_big_quiet_op
          exact hK
      try simp only [hw1]
      iterate 7
        apply wpCalm_want
        · rfl
        · exact bc_refl
        · exact ⟨_, Below.refl _ _⟩
        · intro w00 hC0 K hK
          go_big_quiet_op
          exact hK
      refine wpCalm_nil ?_
      intro w2 hbq
      try simp only [List.drop_succ_cons, List.drop_zero]
      clear g0 g1 g2 g3 g4 k0 k1 k2 k3 k4 hw1
      have HO2 : Hid (w2.ownsRow W.heap.size 198 10 v (prs (L.take m)).length (flatP (prs (L.take m)))) := Lib.hid (HO.out.below hbq)
      have HB2 := Lib.hid (bt HB.out hbq)
      clear hbq
      have hzw : W.heap.size ≤ w2.heap.size := HB2.out.size
      go_wp2_with (at_builtin; go_loud (refine wpList_append_own _ rfl _ _ 173 rfl W.heap.size 198 i0 (.agg #[.int .i64 0, .int .i64 0, .int .i64 0, .int .i64 0, .int .i64 0, .int .i64 0, .int .i64 0, .int .i64 0, .int .i64 0, .int .i64 0]) 10 80 Tryz.underlying173 hI hZ0 hZ1 hZ2 rfl (by decide) _ _ _ rfl (HO2.out.alloc _) ⟨w2.heap.size, 0, none⟩ 1 1 [.int .i64 rt, .int .i64 rk, .int .i64 ra, .int .i64 rb, .int .i64 rc, .int .i64 st, .int .i64 sk, .int .i64 sa, .int .i64 sb, .int .i64 sc] rfl rfl (World.news_of_block (cs := #[.int .i64 rt, .int .i64 rk, .int .i64 ra, .int .i64 rb, .int .i64 rc, .int .i64 st, .int .i64 sk, .int .i64 sa, .int .i64 sb, .int .i64 sc]) (t := 198) (fr := (0, 0)) (heap_alloc_new w2 _)) (by simp [Value.oneCell']) (by unfold maxLen; omega) (by omega) (by simp; omega) ?_); intro v' w3 hown' hgrow _)
      have HOn : Hid (OwnP w3 W.heap.size v' (prs (L.take (m + 2)))) := Lib.hid (by
        rw [HTk.out]
        unfold OwnP
        rw [List.length_append, flatP_app]
        exact hown')
      have hge : ∀ k, v.ownBlock = some k → W.heap.size ≤ k := fun k e => OwnP.own_ge HO.out e
      have hKg : Kept (fun k => v.ownBlock = some k) w2 w3 := (Kept.of_below (F := fun k => v.ownBlock = some k) (ba w2 _)).trans (kept_grown hgrow) (fun _ _ f => f)
      have HBn : Hid (Below W.heap.size W w3) := Lib.hid (((Kept.of_below (F := fun k => v.ownBlock = some k) HB2.out).trans hKg (fun _ _ f => f)).below (Nat.le_refl _) (fun k e => hge _ e))
      clear hown' hgrow hKg hge
      go_wp2_with fail
      exact ⟨⟨m + 2, by have := HM2.out; omega, by omega, by go_num, HOn, HBn⟩, by simp [intOf]; omega⟩
    · have HOe : Hid (OwnP wr W.heap.size v (prs L)) := Lib.hid (by
        have h := HO.out
        have hlL : n = L.length := HN.out
        have e : prs (L.take m) = prs L := by
          rcases Nat.lt_or_ge m n with h1 | h1
          · have e2 : L = L.take m ++ [L.getD m rowZ] := by
              rw [← take_snoc' (d := rowZ) (by omega), List.take_of_length_le (by omega)]
            conv => rhs; rw [e2]
            exact (prs_snoc1 _ _ (by rw [List.length_take]; have := HM2.out; omega)).symm
          · rw [List.take_of_length_le (by omega)]
        rw [e] at h
        exact h)
      clear hm2
      go_wp2_with fail
      go_ret
      exact ⟨v, rfl, HOe.out, HB.out⟩

end Go.Proofs.YtgbnjjgnihjfgaaGreat
end

section
set_option linter.unusedVariables false
set_option linter.unusedSimpArgs false
namespace Go.Proofs.YtgbnjjgnihjfgaaGreat
open Go.RowKit Go.Sort Go.ChangeMaps Go.MapKept

theorem unprs_app (A B : List PR) : unprs (A ++ B) = unprs A ++ unprs B := by simp [unprs]
theorem unprs_len (A : List PR) : (unprs A).length = 2 * A.length := by
  induction A with
  | nil => rfl
  | cons p A ih =>
    have : unprs (p :: A) = p.1 :: p.2 :: unprs A := rfl
    rw [this]
    simp only [List.length_cons, ih]
    omega
set_option maxRecDepth 100000 in
set_option maxHeartbeats 8000000 in
theorem rowsOf_any {W : World} {va : Value} {L : List PR} (hR : PrS W va L) (hl : L.length ≤ 40000) : Calls Tryz.prog 141 #[va] W fun e w' => ∃ v, e = .returned v ∧ OwnR w' W.heap.size v (unprs L) ∧ Below W.heap.size W w' := by
  obtain ⟨i0, hI, hZ0, hZ1, hZ2⟩ := info_parts Tryz.info57
  have HR := Lib.hid hR
  obtain ⟨a, n, cap, rfl, hn, hc1, hc2, _⟩ := hR
  have HN := Lib.hid hn
  have hn2 : n ≤ 9223372036854775807 := by omega
  have HLl : Hid (L.length ≤ 40000) := Lib.hid hl
  clear hn hl
  go_enter Tryz.func141, Tryz.ntmps141
  go_wp2_with fail
  go_loopw [3, 8] (fun v i wr => ∃ k : Nat, k ≤ n ∧ i = .int .i64 k ∧ Hid (OwnR wr W.heap.size v (unprs (L.take k))) ∧ Hid (Below W.heap.size W wr)) (fun v i _ => n - (intOf i).toNat)
  case atStart => exact ⟨0, by omega, rfl, Lib.hid (OwnR.nil _ _), Lib.hid (Below.refl _ _)⟩
  case round =>
    obtain ⟨k, hk, rfl, HO, HB⟩ := hrel
    obtain ⟨v, hvv⟩ : ∃ v, v = u3 := ⟨_, rfl⟩
    subst hvv
    by_cases hlt : k < n
    · obtain ⟨_, n', _, e1, -, -, -, hcell⟩ := HR.out.below HB.out
      simp at e1
      obtain ⟨rfl, hnn, rfl⟩ := e1
      obtain ⟨vb, vo, rfl, hvb, hcs⟩ := hcell (by omega)
      have HRm := hcs k (by omega)
      clear hcs hcell hnn
      obtain ⟨⟨⟨rt, rk, ⟨ra, rb, rc⟩⟩, ⟨st, sk, ⟨sa, sb, sc⟩⟩⟩, Hr⟩ : ∃ r, Hid (L.getD k prZ = r) := ⟨_, Lib.hid rfl⟩
      rw [Hr.out] at HRm
      obtain ⟨y0, y1, y2, y3, y4, y5, y6, y7, y8, y9⟩ := HRm.cells
      clear HRm
      have HTk : Hid (unprs (L.take (k + 1)) = unprs (L.take k) ++ [⟨rt, rk, ⟨ra, rb, rc⟩⟩, ⟨st, sk, ⟨sa, sb, sc⟩⟩]) := Lib.hid (by rw [take_snoc' (d := prZ) (by have := HN.out; omega), Hr.out, unprs_app]; rfl)
      have hlen : (unprs (L.take k)).length ≤ 80000 := by
        rw [unprs_len]
        have h2 := List.length_take_le k L
        have h3 := HLl.out
        have h4 := HN.out
        omega
      go_upto_region 5 with fail
      generalize hw1 : wr.alloc (.cells #[.int .i64 rt, .int .i64 rk, .int .i64 ra, .int .i64 rb, .int .i64 rc, .int .i64 st, .int .i64 sk, .int .i64 sa, .int .i64 sb, .int .i64 sc] 198) = w1
      have HX : Hid (w1.heap[wr.heap.size]? = some (.cells #[.int .i64 rt, .int .i64 rk, .int .i64 ra, .int .i64 rb, .int .i64 rc, .int .i64 st, .int .i64 sk, .int .i64 sa, .int .i64 sb, .int .i64 sc] 198 (0, 0))) := Lib.hid (by rw [← hw1]; exact heap_alloc_new wr _)
      have HB1 : Hid (Below wr.heap.size wr w1) := Lib.hid (by rw [← hw1]; exact ba wr _)
      clear hw1 y0 y1 y2 y3 y4 y5 y6 y7 y8 y9
      have y0 : w1.cell? ⟨wr.heap.size, 0, none⟩ = some (.int .i64 rt) := by simp [World.cell?, HX.out]
      have y1 : w1.cell? ⟨wr.heap.size, 1, none⟩ = some (.int .i64 rk) := by simp [World.cell?, HX.out]
      have y2 : w1.cell? ⟨wr.heap.size, 2, none⟩ = some (.int .i64 ra) := by simp [World.cell?, HX.out]
      have y3 : w1.cell? ⟨wr.heap.size, 3, none⟩ = some (.int .i64 rb) := by simp [World.cell?, HX.out]
      have y4 : w1.cell? ⟨wr.heap.size, 4, none⟩ = some (.int .i64 rc) := by simp [World.cell?, HX.out]
      have y5 : w1.cell? ⟨wr.heap.size, 5, none⟩ = some (.int .i64 st) := by simp [World.cell?, HX.out]
      have y6 : w1.cell? ⟨wr.heap.size, 6, none⟩ = some (.int .i64 sk) := by simp [World.cell?, HX.out]
      have y7 : w1.cell? ⟨wr.heap.size, 7, none⟩ = some (.int .i64 sa) := by simp [World.cell?, HX.out]
      have y8 : w1.cell? ⟨wr.heap.size, 8, none⟩ = some (.int .i64 sb) := by simp [World.cell?, HX.out]
      have y9 : w1.cell? ⟨wr.heap.size, 9, none⟩ = some (.int .i64 sc) := by simp [World.cell?, HX.out]
      have HO2 : Hid (w1.ownsRow W.heap.size 57 5 v (unprs (L.take k)).length (flat (unprs (L.take k)))) := Lib.hid (HO.out.below HB1.out)
      have HB2 := Lib.hid (bt HB.out HB1.out)
      have hzw : W.heap.size ≤ w1.heap.size := HB2.out.size
      go_wp2_with (at_builtin; go_loud (refine wpList_append_own _ rfl _ _ 32 rfl W.heap.size 57 i0 (.agg #[.int .i64 0, .int .i64 0, .int .i64 0, .int .i64 0, .int .i64 0]) 5 40 Tryz.underlying32 hI hZ0 hZ1 hZ2 rfl (by decide) _ _ _ rfl (HO2.out.alloc _) ⟨w1.heap.size, 0, none⟩ 2 2 [.int .i64 rt, .int .i64 rk, .int .i64 ra, .int .i64 rb, .int .i64 rc, .int .i64 st, .int .i64 sk, .int .i64 sa, .int .i64 sb, .int .i64 sc] rfl rfl (World.news_of_block (cs := #[.int .i64 rt, .int .i64 rk, .int .i64 ra, .int .i64 rb, .int .i64 rc, .int .i64 st, .int .i64 sk, .int .i64 sa, .int .i64 sb, .int .i64 sc]) (t := 57) (fr := (0, 0)) (heap_alloc_new w1 _)) (by simp [Value.oneCell']) (by unfold maxLen; omega) (by omega) (by simp; omega) ?_); intro v' w3 hown' hgrow _)
      have HOn : Hid (OwnR w3 W.heap.size v' (unprs (L.take (k + 1)))) := Lib.hid (by
        rw [HTk.out]
        unfold OwnR
        rw [List.length_append, flat_app]
        exact hown')
      have hge : ∀ k, v.ownBlock = some k → W.heap.size ≤ k := fun k e => OwnR.own_ge HO.out e
      have hKg : Kept (fun k => v.ownBlock = some k) w1 w3 := (Kept.of_below (F := fun k => v.ownBlock = some k) (ba w1 _)).trans (kept_grown hgrow) (fun _ _ f => f)
      have HBn : Hid (Below W.heap.size W w3) := Lib.hid (((Kept.of_below (F := fun k => v.ownBlock = some k) HB2.out).trans hKg (fun _ _ f => f)).below (Nat.le_refl _) (fun k e => hge _ e))
      clear hown' hgrow hKg hge
      go_wp2_with fail
      exact ⟨⟨k + 1, by omega, by go_num, HOn, HBn⟩, by simp [intOf]; omega⟩
    · obtain rfl : k = n := by omega
      have HOe : Hid (OwnR wr W.heap.size v (unprs L)) := Lib.hid (by
        have h := HO.out
        rw [HN.out, List.take_length] at h
        exact h)
      go_wp2_with fail
      go_ret
      exact ⟨v, rfl, HOe.out, HB.out⟩
end Go.Proofs.YtgbnjjgnihjfgaaGreat
end
