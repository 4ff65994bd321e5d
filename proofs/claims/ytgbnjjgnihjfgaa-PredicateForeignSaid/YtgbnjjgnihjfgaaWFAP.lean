/- QJ, LC -/
import Derived.Test.YtgbnjjgnihjfgaaProg
import Derived.WalkKit
import Derived.Below
import Derived.Lib.Hide
import Derived.Laws.StructEq
import Derived.Lib.QuietBelow
import Derived.Deep.RegionHeld3
import Derived.Deep.RegionWith
import Derived.IntWalk
import Derived.BigQuiet
import Derived.Maps.RangeWalk
import Derived.DeepKeys4
import Derived.OneCell
import Derived.StillTail
import Derived.Deep.CutRange
import Derived.Outline
import Derived.WalkSpells
import Derived.Carry
import Derived.Shelf.SlGeneric
import Derived.Shelf.SlSortCmp.WholeK
import Derived.Shelf.SlicesG.Cmp
import Derived.Ground.SlsfProg
import Derived.Ground.SlgcProg
import Derived.Sort.OwnSorted
import Derived.Deep.AppendLies
import Derived.Shelf.SlSortCmp.NoneTotal
import Derived.Deep.QuietTactic
import Derived.Laws.AppendOwnNone
import Derived.Laws.EntriesVeiled
import Derived.Lib.SliceRun
import Derived.Deep.Cut
import Derived.Laws.ResultCell
import Derived.ArgAppend
import Derived.Laws.Rows
import Derived.Great.BuildSlice
import Derived.Great.Frames
import Derived.Deep.DeepCutAuto
import Derived.Lib.AppendZeros
import Derived.Lib.Overlaps
import Derived.Laws.CopyRow
import Derived.Laws.AppendOwn
import Derived.Laws.Externs
import Derived.Deep.RegionLawGrows
import Derived.Test.YtgbnjjgnihjfgaaWFAL
import Derived.Test.YtgbnjjgnihjfgaaWFAG
import Derived.Test.YtgbnjjgnihjfgaaWFAO
import Derived.Test.YtgbnjjgnihjfgaaWFAH
import Derived.Test.YtgbnjjgnihjfgaaWFAJ
import Derived.Test.YtgbnjjgnihjfgaaWFAE
import Derived.Test.YtgbnjjgnihjfgaaWFAD
import Derived.Test.YtgbnjjgnihjfgaaWFAB
import Derived.Test.YtgbnjjgnihjfgaaWFAI
import Derived.Test.YtgbnjjgnihjfgaaWFAM
import Derived.Test.YtgbnjjgnihjfgaaWFAF
import Derived.Test.YtgbnjjgnihjfgaaWFAN
import Derived.Test.YtgbnjjgnihjfgaaWFAK
import Derived.Test.YtgbnjjgnihjfgaaWFAC
import Derived.Test.YtgbnjjgnihjfgaaWFAA
section
set_option linter.unusedVariables false
set_option linter.unusedSimpArgs false
namespace Go.Proofs.Ytgbnjjgnihjfgaa
open Go.RowKit Go.Sort Go.ChangeMaps Go.MapKept

theorem prs_half : ∀ l : List MRow, 2 * (prs l).length ≤ l.length
  | [] => by simp [prs]
  | [x] => by simp [prs]
  | x :: y :: l => by
    have := prs_half l
    simp only [prs, List.length_cons]
    omega
theorem rowsP_len (q : MQ) (l : List MRow) (c : MCh) : (rowsP q l c).length ≤ l.length + 1 := by
  have hf : ∀ p : MRow → Bool, (l.filter p).length ≤ l.length := fun p => List.length_filter_le p l
  unfold rowsP
  split
  · rw [(ins_perm _ _ _).length_eq, List.length_cons]
    exact Nat.succ_le_succ (hf _)
  · exact Nat.le_trans (hf _) (by omega)
theorem leftP_len {q : MQ} {ps s : List PR} {c : MCh} (hp : leftP q ps c = some s) : s.length ≤ ps.length + 1 := by
  unfold leftP at hp
  have hf : ∀ p : PR → Bool, (ps.filter p).length ≤ ps.length := fun p => List.length_filter_le p ps
  split at hp
  · cases hp
    exact Nat.le_trans (hf _) (by omega)
  · split at hp
    · split at hp
      · cases hp
        exact Nat.le_trans (hf _) (by omega)
      · cases hp
    · cases hp
      refine Nat.le_trans (Nat.le_of_eq (ins_perm _ _ _).length_eq) ?_
      rw [List.length_cons]
      exact Nat.succ_le_succ (hf _)
theorem rightP_len {ps s : List PR} {c : MCh} (hp : rightP ps c = some s) : s.length ≤ ps.length := by
  unfold rightP at hp
  have hf : ∀ p : PR → Bool, (ps.filter p).length ≤ ps.length := fun p => List.length_filter_le p ps
  split at hp
  · cases hp
  · split at hp
    · cases hp
      exact hf _
    · cases hp
      rw [List.length_map]
      exact Nat.le_refl _
theorem patchM_len {q : MQ} {r r' : MRes} {c : MCh} (h : patchM q r c = some r') : r'.rows.length ≤ r.rows.length + 2 := by
  unfold patchM at h
  have hr := rowsP_len q r.rows c
  have hh := prs_half r.rows
  split at h
  · cases h
    simp only
    omega
  · split at h
    · cases h
      simp only
      omega
    · split at h
      · cases h
        simp only
        omega
      · split at h
        · obtain ⟨s, _, rfl⟩ := Option.map_eq_some_iff.1 h
          simp only
          omega
        · split at h
          · obtain ⟨s, _, rfl⟩ := Option.map_eq_some_iff.1 h
            simp only
            omega
          · split at h
            · cases h
            · obtain ⟨s, hs, rfl⟩ := Option.map_eq_some_iff.1 h
              simp only
              rw [unprs_len]
              split at hs
              · have := rightP_len hs
                omega
              · have := leftP_len hs
                omega
/-- What Apply returns. -/
def AppRes (W : World) (s : Option MRes × Bool) (e : Ending) (w' : World) : Prop := ∃ u, e = .returned (.tuple #[.agg (resC u (s.1.getD resZ).val (s.1.getD resZ).fnd), .bool s.2, .bool s.1.isSome]) ∧ OwnR w' W.heap.size u (s.1.getD resZ).rows ∧ Below W.heap.size W w'
theorem fold_none (q : MQ) (l : List MCh) (t : Bool) : l.foldl (applyF q) (none, t) = (none, t) := applyF_none q t l
theorem fold_at {q : MQ} {cs : List MCh} {s : Option MRes × Bool} {k : Nat} (hk : k < cs.length) : (cs.take (k + 1)).foldl (applyF q) s = applyF q ((cs.take k).foldl (applyF q) s) (cs.getD k chZ) := by
  rw [take_snoc' (d := chZ) hk, List.foldl_append]
  rfl
theorem fold_end {q : MQ} {cs : List MCh} {s : Option MRes × Bool} {k : Nat} {t : Bool} (h : (cs.take k).foldl (applyF q) s = (none, t)) : cs.foldl (applyF q) s = (none, t) := by
  conv => lhs; rw [← List.take_append_drop k cs]
  rw [List.foldl_append, h, fold_none]
set_option maxRecDepth 100000 in
set_option maxHeartbeats 8000000 in
/-- **Apply.** -/
theorem Apply_any {q : MQ} {cs : List MCh} {r : MRes} {u cv : Value} {pos : Int} {W : World} (hR : RowS W u r.rows) (hl : r.rows.length + 2 * cs.length ≤ 39999) (hC : ChS W cv cs) : Calls Try.prog 32 #[qV q, .agg (resC u r.val r.fnd), .agg #[.int .i64 pos, cv]] W (AppRes W (applyM q r cs)) := by
  have HT := Lib.hid (fun c w => touches_any q c w)
  have HP := Lib.hid (fun (c : MCh) (r : MRes) (ht : touchB q c = true) (w : World) (base : Nat) (v : Value) (h : OwnR w base v r.rows) (h2 : base ≤ w.heap.size) (hl : r.rows.length ≤ 39999) => patch_any (c := c) (touch_valid ht) h h2 hl)
  have HL : Hid (r.rows.length + 2 * cs.length ≤ 39999) := Lib.hid hl
  have HR := Lib.hid hR
  have HCs := Lib.hid hC
  obtain ⟨SF, HSF⟩ : ∃ SF, Hid (applyM q r cs = SF) := ⟨_, Lib.hid rfl⟩
  have HFo : Hid (cs.foldl (applyF q) (some r, false) = SF) := Lib.hid HSF.out
  rw [HSF.out]
  obtain ⟨ua, un, uc, rfl, -⟩ := id hR
  obtain ⟨ca, n, ccap, rfl, hn, hc1, hc2, -⟩ := id hC
  have HN : Hid (n = cs.length) := Lib.hid hn
  have hnl : n ≤ 39999 := by omega
  clear hR hl hC HSF hn hc2
  obtain ⟨rows, val, fnd⟩ := r
  simp only at HL HR
  obtain ⟨FA, HFA⟩ : ∃ FA, Hid (applyF q = FA) := ⟨_, Lib.hid rfl⟩
  have HF1 : Hid (∀ r t c, touchB q c = false → FA (some r, t) c = (some r, t)) := Lib.hid (fun r t c h => by rw [← HFA.out]; simp [applyF, h])
  have HF2 : Hid (∀ r t c, touchB q c = true → FA (some r, t) c = (patchM q r c, true)) := Lib.hid (fun r t c h => by rw [← HFA.out]; simp [applyF, h])
  have HFe := Lib.hid (fun (k : Nat) (t : Bool) (h : (cs.take k).foldl FA (some ⟨rows, val, fnd⟩, false) = (none, t)) => (by rw [← HFo.out, HFA.out]; rw [← HFA.out] at h ⊢; exact fold_end h : SF = (none, t)))
  have HFs := Lib.hid (fun (k : Nat) (hk : k < cs.length) => (by rw [← HFA.out]; exact fold_at hk : (cs.take (k + 1)).foldl FA (some ⟨rows, val, fnd⟩, false) = FA ((cs.take k).foldl FA (some ⟨rows, val, fnd⟩, false)) (cs.getD k chZ)))
  rw [HFA.out] at HFo
  clear HFA
  obtain ⟨TB, HTB⟩ : ∃ TB, Hid (touchB q = TB) := ⟨_, Lib.hid rfl⟩
  obtain ⟨PM, HPM⟩ : ∃ PM, Hid (patchM q = PM) := ⟨_, Lib.hid rfl⟩
  have HPl : Hid (∀ r r' c, PM r c = some r' → r'.rows.length ≤ r.rows.length + 2) := Lib.hid (fun r r' c h => by rw [← HPM.out] at h; exact patchM_len h)
  rw [HTB.out] at HT HP HF1 HF2
  rw [HPM.out] at HP HF2
  clear HTB HPM
  obtain ⟨qk, qt, qc, ql, qh, qy, qo⟩ := q
  unfold qV at *
  simp only at HT HP
  go_enter Try.func32, Try.ntmps32
  go_upto_region 1 with fail
  obtain ⟨w0, Hw0⟩ : ∃ w0, Hid ((((W.alloc (.cells #[.int .i64 qk, .int .i64 qt, .int .i64 qc, .int .i64 ql, .int .i64 qh, .int .i64 qy, .int .i64 qo] 29)).alloc (.cells #[.slice ua un uc, .int .i64 val, .bool fnd] 46)).alloc (.cells #[.int .i64 pos, .slice ca n ccap] 38)).alloc (.cells #[.slice none 0 0, .int .i64 0, .bool false] 46) = w0) := ⟨_, Lib.hid rfl⟩
  obtain ⟨hB0, hQ0, hR0, hC0, hZ0⟩ := four W (.cells #[.int .i64 qk, .int .i64 qt, .int .i64 qc, .int .i64 ql, .int .i64 qh, .int .i64 qy, .int .i64 qo] 29) (.cells #[.slice ua un uc, .int .i64 val, .bool fnd] 46) (.cells #[.int .i64 pos, .slice ca n ccap] 38) (.cells #[.slice none 0 0, .int .i64 0, .bool false] 46)
  rw [Hw0.out] at hB0 hQ0 hR0 hC0 hZ0 ⊢
  clear Hw0
  have HB0 := Lib.hid hB0
  have HQ0 := Lib.hid hQ0
  have HR0 := Lib.hid hR0
  have HC0 := Lib.hid hC0
  have HZ0 := Lib.hid hZ0
  have HCl := Lib.hid (clone_rows (HR.out.below hB0) (by have := HL.out; omega))
  clear hB0 hQ0 hR0 hC0 hZ0
  have r0 : w0.cell? ⟨W.heap.size + 1, 0, none⟩ = some (.slice ua un uc) := by simp [World.cell?, HR0.out]
  go_wp2_with fail
  (with_reducible refine HCl.out.mono ?_)
  rintro e w1 ⟨v1, rfl, hO1, hb1⟩
  obtain ⟨va, vn, vcap, rfl⟩ := hO1.form
  have HQ1 := Lib.hid ((hb1.block _ (lt_of_block HQ0.out)).trans HQ0.out)
  have HR1 := Lib.hid ((hb1.block _ (lt_of_block HR0.out)).trans HR0.out)
  have HC1 := Lib.hid ((hb1.block _ (lt_of_block HC0.out)).trans HC0.out)
  have HZ1 := Lib.hid ((hb1.block _ (lt_of_block HZ0.out)).trans HZ0.out)
  have HB1 := Lib.hid (bt HB0.out hb1)
  have HO1 := Lib.hid hO1
  have hz0 : W.heap.size ≤ w0.heap.size := HB0.out.size
  have hz1 : w0.heap.size ≤ w1.heap.size := hb1.size
  clear hO1 hb1 r0 HCl HR HQ0 HR0 HC0 HZ0
  have r0 : w1.cell? ⟨W.heap.size + 1, 0, none⟩ = some (.slice ua un uc) := by simp [World.cell?, HR1.out]
  have rf : w1.frozen? ⟨W.heap.size + 1, 0, none⟩ = false := by simp [World.frozen?, HR1.out]
  go_upto_region 2 with fail
  generalize hw2 : w1.setCell ⟨W.heap.size + 1, 0, none⟩ (.slice va vn vcap) = w2
  have HQ2 : Hid (w2.heap[W.heap.size]? = some (.cells #[.int .i64 qk, .int .i64 qt, .int .i64 qc, .int .i64 ql, .int .i64 qh, .int .i64 qy, .int .i64 qo] 29 (0, 0))) := Lib.hid (by rw [← hw2, Below.heap_setCell _ _ _ _ (by show ¬ W.heap.size = W.heap.size + 1; omega)]; exact HQ1.out)
  have HC2 : Hid (w2.heap[W.heap.size + 1 + 1]? = some (.cells #[.int .i64 pos, .slice ca n ccap] 38 (0, 0))) := Lib.hid (by rw [← hw2, Below.heap_setCell _ _ _ _ (by show ¬ W.heap.size + 1 + 1 = W.heap.size + 1; omega)]; exact HC1.out)
  have HZ2 : Hid (w2.heap[W.heap.size + 1 + 1 + 1]? = some (.cells #[.slice none 0 0, .int .i64 0, .bool false] 46 (0, 0))) := Lib.hid (by rw [← hw2, Below.heap_setCell _ _ _ _ (by show ¬ W.heap.size + 1 + 1 + 1 = W.heap.size + 1; omega)]; exact HZ1.out)
  have HR2 : Hid (w2.heap[W.heap.size + 1]? = some (.cells #[.slice va vn vcap, .int .i64 val, .bool fnd] 46 (0, 0))) := Lib.hid (by rw [← hw2]; exact setC_heap HR1.out 0 _)
  have HO2 : Hid (OwnR w2 w0.heap.size (.slice va vn vcap) rows) := Lib.hid (by rw [← hw2]; exact own_setc HO1.out HR1.out)
  have HB2 : Hid (Below W.heap.size W w2) := Lib.hid (by
    have h := (Kept.setCell (F := fun i => i = W.heap.size + 1) (p := ⟨W.heap.size + 1, 0, none⟩) (Kept.of_below HB1.out) (.inl rfl) (.slice va vn vcap)).below (Nat.le_refl _) (fun k e => by omega)
    rw [hw2] at h
    exact h)
  have HZz2 : Hid (w0.heap.size ≤ w2.heap.size) := Lib.hid (by
    rw [← hw2]
    simpa using hz1)
  clear hw2 r0 rf HQ1 HR1 HC1 HZ1 HB1 HO1 hz1
  have c1 : w2.cell? ⟨W.heap.size + 1 + 1, 1, none⟩ = some (.slice ca n ccap) := by simp [World.cell?, HC2.out]
  go_wp2_with fail
  go_loopw [9, 20] (fun tv i wr => ∃ (k : Nat) (tb : Bool) (r : MRes) (u : Value), k ≤ n ∧ i = .int .i64 k ∧ tv = .bool tb ∧ Hid ((cs.take k).foldl FA (some ⟨rows, val, fnd⟩, false) = (some r, tb)) ∧ Hid (wr.heap[W.heap.size + 1]? = some (.cells #[u, .int .i64 r.val, .bool r.fnd] 46 (0, 0))) ∧ Hid (OwnR wr w0.heap.size u r.rows ∧ w0.heap.size ≤ wr.heap.size ∧ r.rows.length ≤ rows.length + 2 * k) ∧ Hid (Below W.heap.size W wr) ∧ Hid (wr.heap[W.heap.size]? = some (.cells #[.int .i64 qk, .int .i64 qt, .int .i64 qc, .int .i64 ql, .int .i64 qh, .int .i64 qy, .int .i64 qo] 29 (0, 0))) ∧ Hid (wr.heap[W.heap.size + 1 + 1 + 1]? = some (.cells #[.slice none 0 0, .int .i64 0, .bool false] 46 (0, 0)))) (fun tv i _ => n - (intOf i).toNat)
  case atStart => exact ⟨0, false, ⟨rows, val, fnd⟩, _, by omega, rfl, rfl, Lib.hid rfl, HR2, Lib.hid ⟨HO2.out, HZz2.out, by simp⟩, HB2, HQ2, HZ2⟩
  case round =>
    obtain ⟨k, tb, ⟨rws, rv, rfo⟩, u, hk, rfl, rfl, HS, HRr, HO, HB, HQr, HZr⟩ := hrel
    simp only at HRr HO
    obtain ⟨xa, xn, xc, rfl⟩ := HO.out.1.form
    have HOr := Lib.hid HO.out.1
    have HZr2 := Lib.hid HO.out.2
    by_cases hlt : k < n
    · obtain ⟨_, n', _, e1, -, -, -, hcell⟩ := HCs.out.below HB.out
      simp at e1
      obtain ⟨rfl, hnn, rfl⟩ := e1
      obtain ⟨cb, co, rfl, hcb, hcs⟩ := hcell (by omega)
      have H1 := hcs k (by omega)
      have hkc : k < cs.length := by have := HN.out; omega
      have HFk := Lib.hid (HFs.out k hkc)
      obtain ⟨⟨t, kk, had, ⟨oa, ob, oc⟩, has, ⟨na, nb, nc⟩⟩, Hc⟩ : ∃ c, Hid (cs.getD k chZ = c) := ⟨_, Lib.hid rfl⟩
      rw [Hc.out] at H1 HFk
      rw [HS.out] at HFk
      obtain ⟨y0, y1, y2, y3, y4, y5, y6, y7, y8, y9⟩ := H1.cells
      clear hcell hcs hnn H1 Hc hkc c1
      obtain ⟨cc, Hcc⟩ : ∃ cc : MCh, Hid ((⟨t, kk, had, ⟨oa, ob, oc⟩, has, ⟨na, nb, nc⟩⟩ : MCh) = cc) := ⟨_, Lib.hid rfl⟩
      have HTw := Lib.hid (fun w => HT.out ⟨t, kk, had, ⟨oa, ob, oc⟩, has, ⟨na, nb, nc⟩⟩ w)
      have HPw := Lib.hid (fun r ht w b v h h2 hl => HP.out ⟨t, kk, had, ⟨oa, ob, oc⟩, has, ⟨na, nb, nc⟩⟩ r ht w b v h h2 hl)
      unfold chV at HTw HPw
      simp only at HTw HPw
      rw [Hcc.out] at HFk HTw HPw
      go_upto_region 6 with fail
      generalize hw3 : wr.alloc _ = w3
      have HX3 : Hid (w3.heap[wr.heap.size]? = some (.cells #[.int .i64 t, .int .i64 kk, .bool had, .int .i64 oa, .int .i64 ob, .int .i64 oc, .bool has, .int .i64 na, .int .i64 nb, .int .i64 nc] 35 (0, 0))) := Lib.hid (by rw [← hw3]; exact heap_alloc_new wr _)
      have hb3 : Below wr.heap.size wr w3 := by rw [← hw3]; exact ba wr _
      have HQ3 := Lib.hid ((hb3.block _ (lt_of_block HQr.out)).trans HQr.out)
      have HR3 := Lib.hid ((hb3.block _ (lt_of_block HRr.out)).trans HRr.out)
      have HZ3 := Lib.hid ((hb3.block _ (lt_of_block HZr.out)).trans HZr.out)
      have HB3 := Lib.hid (bt HB.out hb3)
      have HO3 := Lib.hid (HOr.out.below hb3)
      have HZz3 : Hid (w0.heap.size ≤ w3.heap.size) := Lib.hid (Nat.le_trans HZr2.out.1 hb3.size)
      have hrz : W.heap.size + 1 + 1 + 1 < wr.heap.size := lt_of_block HZr.out
      clear hw3 hb3 y0 y1 y2 y3 y4 y5 y6 y7 y8 y9 hcb
      obtain ⟨tc, HTc⟩ : ∃ tc, Hid (TB cc = tc) := ⟨_, Lib.hid rfl⟩
      have HT3 := Lib.hid (HTw.out w3)
      rw [HTc.out] at HT3
      clear HTw
      go_wp2_with (first
        | refine wpList_load_row rfl 29 _ rfl W.heap.size rfl 29 _ _ _ HQ3.out Try.underlying29 rfl (by kernel_rfl) ?_
        | refine wpList_load_row rfl 35 _ rfl wr.heap.size rfl 35 _ _ _ HX3.out Try.underlying35 rfl (by kernel_rfl) ?_)
      (with_reducible refine HT3.out.mono ?_)
      rintro e w4 ⟨rfl, hb4⟩
      have HQ4 := Lib.hid ((hb4.block _ (lt_of_block HQ3.out)).trans HQ3.out)
      have HR4 := Lib.hid ((hb4.block _ (lt_of_block HR3.out)).trans HR3.out)
      have HZ4 := Lib.hid ((hb4.block _ (lt_of_block HZ3.out)).trans HZ3.out)
      have HX4 := Lib.hid ((hb4.block _ (lt_of_block HX3.out)).trans HX3.out)
      have HB4 := Lib.hid (bt HB3.out hb4)
      have HO4 := Lib.hid (HO3.out.below hb4)
      have HZz4 : Hid (w0.heap.size ≤ w4.heap.size) := Lib.hid (Nat.le_trans HZz3.out hb4.size)
      clear hb4 HT3
      cases tc
      · have HSn : Hid ((cs.take (k + 1)).foldl FA (some ⟨rows, val, fnd⟩, false) = (some ⟨rws, rv, rfo⟩, tb)) := Lib.hid (by rw [HFk.out, HF1.out _ _ _ HTc.out])
        clear HPw HFk
        go_wp2_with fail
        exact ⟨⟨k + 1, tb, ⟨rws, rv, rfo⟩, _, by omega, by go_num, rfl, HSn, HR4, Lib.hid ⟨HO4.out, HZz4.out, by have := HZr2.out.2; simp only at this ⊢; omega⟩, HB4, HQ4, HZ4⟩, by simp [intOf]; omega⟩
      · have HFn : Hid ((cs.take (k + 1)).foldl FA (some ⟨rows, val, fnd⟩, false) = (PM ⟨rws, rv, rfo⟩ cc, true)) := Lib.hid (by rw [HFk.out, HF2.out _ _ _ HTc.out])
        have HP4 := Lib.hid (HPw.out ⟨rws, rv, rfo⟩ HTc.out w4 _ _ HO4.out HZz4.out (by have := HZr2.out.2; have := HL.out; have := HN.out; simp only at *; omega))
        have HPlk := Lib.hid (fun r' => HPl.out ⟨rws, rv, rfo⟩ r' cc)
        obtain ⟨RM, HRM⟩ : ∃ RM, Hid (PM ⟨rws, rv, rfo⟩ cc = RM) := ⟨_, Lib.hid rfl⟩
        rw [HRM.out] at HFn HP4 HPlk
        clear HPw HFk HRM
        go_wp2_with (first
          | refine wpList_load_row rfl 29 _ rfl W.heap.size rfl 29 _ _ _ HQ4.out Try.underlying29 rfl (by kernel_rfl) ?_
          | refine wpList_load_row rfl 46 _ rfl (W.heap.size + 1) rfl 46 _ _ _ HR4.out Try.underlying46 rfl (by kernel_rfl) ?_
          | refine wpList_load_row rfl 35 _ rfl wr.heap.size rfl 35 _ _ _ HX4.out Try.underlying35 rfl (by kernel_rfl) ?_)
        (with_reducible refine HP4.out.mono ?_)
        rintro e w5 ⟨u5, rfl, hO5, hb5⟩
        have HQ5 := Lib.hid ((hb5.block _ (lt_of_block HQ4.out)).trans HQ4.out)
        have HR5 := Lib.hid ((hb5.block _ (lt_of_block HR4.out)).trans HR4.out)
        have HZ5 := Lib.hid ((hb5.block _ (lt_of_block HZ4.out)).trans HZ4.out)
        have HB5 := Lib.hid (bt HB4.out hb5)
        obtain ⟨ya, yn, yc, rfl⟩ := hO5.form
        have HO5 := Lib.hid hO5
        have HZz5 : Hid (w0.heap.size ≤ w5.heap.size) := Lib.hid (Nat.le_trans HZz4.out hb5.size)
        obtain ⟨⟨rows', val', fnd'⟩, HRd⟩ : ∃ x, Hid (RM.getD resZ = x) := ⟨_, Lib.hid rfl⟩
        have hv : (RM.getD resZ).val = val' := by rw [HRd.out]
        have hf : (RM.getD resZ).fnd = fnd' := by rw [HRd.out]
        rw [HRd.out] at HO5
        simp only [hv, hf] at HO5 ⊢
        obtain ⟨bb, HBB⟩ : ∃ bb, Hid (RM.isSome = bb) := ⟨_, Lib.hid rfl⟩
        rw [HBB.out]
        clear hb5 hO5 HP4 hv hf
        go_upto_region 8 with (refine wpList_store_row rfl 46 _ _ rfl (W.heap.size + 1) #[.slice ya yn yc, .int .i64 val', .bool fnd'] rfl rfl 46 _ HR5.out (by kernel_rfl) rfl (by simp [Value.oneCell']) ?_)
        generalize hw6 : w5.setRow _ _ = w6
        have HR6 : Hid (w6.heap[W.heap.size + 1]? = some (.cells #[.slice ya yn yc, .int .i64 val', .bool fnd'] 46 (0, 0))) := Lib.hid (by rw [← hw6]; exact setRow_heap _ _ _ _ _ _ HR5.out)
        have HQ6 : Hid (w6.heap[W.heap.size]? = some (.cells #[.int .i64 qk, .int .i64 qt, .int .i64 qc, .int .i64 ql, .int .i64 qh, .int .i64 qy, .int .i64 qo] 29 (0, 0))) := Lib.hid (by rw [← hw6, setRow_other _ _ _ _ (by omega)]; exact HQ5.out)
        have HZ6 : Hid (w6.heap[W.heap.size + 1 + 1 + 1]? = some (.cells #[.slice none 0 0, .int .i64 0, .bool false] 46 (0, 0))) := Lib.hid (by rw [← hw6, setRow_other _ _ _ _ (by omega)]; exact HZ5.out)
        have HB6 : Hid (Below W.heap.size W w6) := Lib.hid (by rw [← hw6]; exact below_row HB5.out (by omega) _)
        have HO6 : Hid (OwnR w6 w0.heap.size (.slice ya yn yc) rows') := Lib.hid (by
          rw [← hw6]
          exact HO5.out.kept' (F := fun k => k = W.heap.size + 1) (kept_row (F := fun k => k = W.heap.size + 1) (Kept.of_below (Below.refl _ _)) (.inl rfl) _) (fun i hi e => own_ne HO5.out HR5.out (by decide) i hi e))
        have HZz6 : Hid (w0.heap.size ≤ w6.heap.size) := Lib.hid (by rw [← hw6, setRow_size]; exact HZz5.out)
        clear hw6
        cases bb
        · have HNo : Hid (RM = none) := Lib.hid (by have h := HBB.out; cases RM with | none => rfl | some _ => simp at h)
          have HSe : Hid (SF = (none, true)) := Lib.hid (HFe.out (k + 1) true (by rw [HFn.out, HNo.out]))
          go_wp2_with (refine wpList_store_row rfl 46 _ _ rfl (W.heap.size + 1 + 1 + 1) #[.slice none 0 0, .int .i64 0, .bool false] rfl rfl 46 _ HZ6.out (by kernel_rfl) rfl (by simp [Value.oneCell']) ?_)
          generalize hw7 : w6.setRow _ _ = w7
          have HZ7 : Hid (w7.heap[W.heap.size + 1 + 1 + 1]? = some (.cells #[.slice none 0 0, .int .i64 0, .bool false] 46 (0, 0))) := Lib.hid (by rw [← hw7]; exact setRow_heap _ _ _ _ _ _ HZ6.out)
          have HB7 : Hid (Below W.heap.size W w7) := Lib.hid (by rw [← hw7]; exact below_row HB6.out (by omega) _)
          refine bodyPost_ret (v := .tuple #[.agg #[.slice none 0 0, .int .i64 0, .bool false], .bool true, .bool false]) (by simp [results, Try.results32, go_sem, World.cell?, HZ7.out]) rfl ?_
          rw [HSe.out]
          exact ⟨_, rfl, OwnR.nil _ _, HB7.out⟩
        · have HSo : Hid (RM = some ⟨rows', val', fnd'⟩) := Lib.hid (by
            have h := HBB.out
            have h2 := HRd.out
            cases RM with
            | none => simp at h
            | some _ => simpa using h2)
          have HSn : Hid ((cs.take (k + 1)).foldl FA (some ⟨rows, val, fnd⟩, false) = (some ⟨rows', val', fnd'⟩, true)) := Lib.hid (by rw [HFn.out, HSo.out])
          go_wp2_with fail
          exact ⟨⟨k + 1, true, ⟨rows', val', fnd'⟩, _, by omega, by go_num, rfl, HSn, HR6, Lib.hid ⟨HO6.out, HZz6.out, by have := HPlk.out _ HSo.out; have := HZr2.out.2; simp only at *; omega⟩, HB6, HQ6, HZ6⟩, by simp [intOf]; omega⟩
    · obtain rfl : k = n := by omega
      have HSe : Hid (SF = (some ⟨rws, rv, rfo⟩, tb)) := Lib.hid (by
        rw [← HFo.out, ← HS.out, HN.out, List.take_length])
      have hrz : W.heap.size + 1 + 1 + 1 < wr.heap.size := lt_of_block HZr.out
      go_wp2_with (first
        | refine wpList_load_row rfl 46 _ rfl (W.heap.size + 1) rfl 46 _ _ _ HRr.out Try.underlying46 rfl (by kernel_rfl) ?_
        | refine wpList_store_row rfl 46 _ _ rfl (W.heap.size + 1 + 1 + 1) #[.slice xa xn xc, .int .i64 rv, .bool rfo] rfl rfl 46 _ HZr.out (by kernel_rfl) rfl (by simp [Value.oneCell']) ?_)
      generalize hw6 : wr.setRow _ _ = w6
      have HZ6 : Hid (w6.heap[W.heap.size + 1 + 1 + 1]? = some (.cells #[.slice xa xn xc, .int .i64 rv, .bool rfo] 46 (0, 0))) := Lib.hid (by rw [← hw6]; exact setRow_heap _ _ _ _ _ _ HZr.out)
      have HB6 : Hid (Below W.heap.size W w6) := Lib.hid (by rw [← hw6]; exact below_row HB.out (by omega) _)
      have HO6 : Hid (OwnR w6 W.heap.size (.slice xa xn xc) rws) := Lib.hid (by
        rw [← hw6]
        exact (HOr.out.mono (by omega)).kept' (F := fun k => k = W.heap.size + 1 + 1 + 1) (kept_row (F := fun k => k = W.heap.size + 1 + 1 + 1) (Kept.of_below (Below.refl _ _)) (.inl rfl) _) (fun i hi e => own_ne HOr.out HZr.out (by decide) i hi e))
      refine bodyPost_ret (v := .tuple #[.agg #[.slice xa xn xc, .int .i64 rv, .bool rfo], .bool tb, .bool true]) (by simp [results, Try.results32, go_sem, World.cell?, HZ6.out]) rfl ?_
      rw [HSe.out]
      exact ⟨_, rfl, HO6.out, HB6.out⟩
end Go.Proofs.Ytgbnjjgnihjfgaa
end

section
set_option linter.unusedVariables false
set_option linter.unusedSimpArgs false
namespace Go.Proofs.Ytgbnjjgnihjfgaa
open Go.RowKit Go.Sort Go.ChangeMaps Go.MapKept

def sQ : MQ := ⟨5, 0, 1, 10, 19, 2, 0⟩
def sC : MQ := ⟨3, 0, 1, 10, 19, 0, 0⟩
def sR : MQ := ⟨1, 0, 0, 5, 5, 0, 0⟩
def cAdd : MCh := ⟨0, 5, false, ⟨0, 0, 0⟩, true, ⟨12, 3, 0⟩⟩
def cFar : MCh := ⟨0, 5, false, ⟨0, 0, 0⟩, true, ⟨25, 3, 0⟩⟩
def cGone : MCh := ⟨0, 6, true, ⟨12, 7, 0⟩, false, ⟨0, 0, 0⟩⟩
def cLess : MCh := ⟨0, 6, true, ⟨12, 7, 0⟩, true, ⟨12, 5, 0⟩⟩
def cMoved : MCh := ⟨0, 6, true, ⟨12, 9, 1⟩, true, ⟨13, 9, 1⟩⟩
def rS : MRes := ⟨[], 7, true⟩
def rC : MRes := ⟨[], 4, false⟩
theorem pAdd : patchF sQ rS cAdd = some ⟨[], 3, true⟩ := by decide +kernel
theorem pFar : patchF sQ rS cFar = some ⟨[], 7, true⟩ := by decide +kernel
theorem pGone : patchF sQ rS cGone = none := by decide +kernel
theorem pLess : patchF sQ rS cLess = some ⟨[], 5, true⟩ := by decide +kernel
theorem aC : applyM sC rC [cAdd, cGone] = (some ⟨[], 4, false⟩, true) := by decide +kernel
theorem aR : applyM sR resZ [cAdd] = (some ⟨[⟨0, 5, ⟨12, 3, 0⟩⟩], 0, false⟩, true) := by decide +kernel
theorem tAdd : touchB sQ cAdd = true := by decide +kernel
theorem tFar : touchB sQ cFar = false := by decide +kernel
theorem tGone : touchB sQ cGone = true := by decide +kernel
theorem tMoved : touchB sQ cMoved = false := by decide +kernel
theorem ChS_mk {w : World} {g : Nat} {L : List MCh} {cs : Array Value} {t : TypeId} {fr : Nat × Nat} (hb : w.heap[g]? = some (.cells cs t fr)) (h : ∀ i, i < L.length → ∀ j : Nat, j < 10 → cs[i * 10 + j]? = (chCells (L.getD i chZ))[j]?) (hl : L.length ≤ 100) : ChS w (.slice (some ⟨g, 0, none⟩) L.length L.length) L :=
  ⟨_, _, _, rfl, rfl, Nat.le_refl _, by omega, fun _ => ⟨g, 0, rfl, lt_of_block hb, fun i hi j hj => by
    simp only [World.cell?, Nat.zero_add]
    rw [hb]
    exact h i hi j hj⟩⟩
theorem sp1 (w : World) : Calls Try.prog 25 #[.agg #[.int .i64 5, .int .i64 0, .int .i64 1, .int .i64 10, .int .i64 19, .int .i64 2, .int .i64 0], .agg #[.slice none 0 0, .int .i64 7, .bool true], .agg #[.int .i64 0, .int .i64 5, .bool false, .int .i64 0, .int .i64 0, .int .i64 0, .bool true, .int .i64 12, .int .i64 3, .int .i64 0]] w fun e w' => ∃ a n c, e = .returned (.tuple #[.agg #[.slice a n c, .int .i64 3, .bool true], .bool true]) ∧ Hid (Below w.heap.size w w') :=
  (Patch_any (q := sQ) (c := cAdd) (r := rS) (u := .slice none 0 0) (rowS_nil w) (by decide)).mono fun e w' ⟨u, h1, h2, h3⟩ => by
    obtain ⟨a, n, c, rfl⟩ := h2.form
    rw [pAdd] at h1
    exact ⟨a, n, c, h1, Lib.hid h3⟩
theorem sp2 (w : World) : Calls Try.prog 25 #[.agg #[.int .i64 5, .int .i64 0, .int .i64 1, .int .i64 10, .int .i64 19, .int .i64 2, .int .i64 0], .agg #[.slice none 0 0, .int .i64 7, .bool true], .agg #[.int .i64 0, .int .i64 5, .bool false, .int .i64 0, .int .i64 0, .int .i64 0, .bool true, .int .i64 25, .int .i64 3, .int .i64 0]] w fun e w' => ∃ a n c, e = .returned (.tuple #[.agg #[.slice a n c, .int .i64 7, .bool true], .bool true]) ∧ Hid (Below w.heap.size w w') :=
  (Patch_any (q := sQ) (c := cFar) (r := rS) (u := .slice none 0 0) (rowS_nil w) (by decide)).mono fun e w' ⟨u, h1, h2, h3⟩ => by
    obtain ⟨a, n, c, rfl⟩ := h2.form
    rw [pFar] at h1
    exact ⟨a, n, c, h1, Lib.hid h3⟩
theorem sp4 (w : World) : Calls Try.prog 25 #[.agg #[.int .i64 5, .int .i64 0, .int .i64 1, .int .i64 10, .int .i64 19, .int .i64 2, .int .i64 0], .agg #[.slice none 0 0, .int .i64 7, .bool true], .agg #[.int .i64 0, .int .i64 6, .bool true, .int .i64 12, .int .i64 7, .int .i64 0, .bool true, .int .i64 12, .int .i64 5, .int .i64 0]] w fun e w' => ∃ a n c, e = .returned (.tuple #[.agg #[.slice a n c, .int .i64 5, .bool true], .bool true]) ∧ Hid (Below w.heap.size w w') :=
  (Patch_any (q := sQ) (c := cLess) (r := rS) (u := .slice none 0 0) (rowS_nil w) (by decide)).mono fun e w' ⟨u, h1, h2, h3⟩ => by
    obtain ⟨a, n, c, rfl⟩ := h2.form
    rw [pLess] at h1
    exact ⟨a, n, c, h1, Lib.hid h3⟩
theorem sp3 (w : World) : Calls Try.prog 25 #[.agg #[.int .i64 5, .int .i64 0, .int .i64 1, .int .i64 10, .int .i64 19, .int .i64 2, .int .i64 0], .agg #[.slice none 0 0, .int .i64 7, .bool true], .agg #[.int .i64 0, .int .i64 6, .bool true, .int .i64 12, .int .i64 7, .int .i64 0, .bool false, .int .i64 0, .int .i64 0, .int .i64 0]] w fun e w' => ∃ a n c, e = .returned (.tuple #[.agg #[.slice a n c, .int .i64 0, .bool false], .bool false]) ∧ Hid (Below w.heap.size w w') :=
  (Patch_any (q := sQ) (c := cGone) (r := rS) (u := .slice none 0 0) (rowS_nil w) (by decide)).mono fun e w' ⟨u, h1, h2, h3⟩ => by
    obtain ⟨a, n, c, rfl⟩ := h2.form
    rw [pGone] at h1
    exact ⟨a, n, c, h1, Lib.hid h3⟩
theorem stAdd (w : World) : Calls Try.prog 27 #[.agg #[.int .i64 5, .int .i64 0, .int .i64 1, .int .i64 10, .int .i64 19, .int .i64 2, .int .i64 0], .agg #[.int .i64 0, .int .i64 5, .bool false, .int .i64 0, .int .i64 0, .int .i64 0, .bool true, .int .i64 12, .int .i64 3, .int .i64 0]] w fun e w' => e = .returned (.bool true) ∧ Hid (Below w.heap.size w w') :=
  (touches_any sQ cAdd w).mono fun e w' ⟨h1, h2⟩ => ⟨by rw [tAdd] at h1; exact h1, Lib.hid h2⟩
theorem stFar (w : World) : Calls Try.prog 27 #[.agg #[.int .i64 5, .int .i64 0, .int .i64 1, .int .i64 10, .int .i64 19, .int .i64 2, .int .i64 0], .agg #[.int .i64 0, .int .i64 5, .bool false, .int .i64 0, .int .i64 0, .int .i64 0, .bool true, .int .i64 25, .int .i64 3, .int .i64 0]] w fun e w' => e = .returned (.bool false) ∧ Hid (Below w.heap.size w w') :=
  (touches_any sQ cFar w).mono fun e w' ⟨h1, h2⟩ => ⟨by rw [tFar] at h1; exact h1, Lib.hid h2⟩
theorem stGone (w : World) : Calls Try.prog 27 #[.agg #[.int .i64 5, .int .i64 0, .int .i64 1, .int .i64 10, .int .i64 19, .int .i64 2, .int .i64 0], .agg #[.int .i64 0, .int .i64 6, .bool true, .int .i64 12, .int .i64 7, .int .i64 0, .bool false, .int .i64 0, .int .i64 0, .int .i64 0]] w fun e w' => e = .returned (.bool true) ∧ Hid (Below w.heap.size w w') :=
  (touches_any sQ cGone w).mono fun e w' ⟨h1, h2⟩ => ⟨by rw [tGone] at h1; exact h1, Lib.hid h2⟩
theorem stMoved (w : World) : Calls Try.prog 27 #[.agg #[.int .i64 5, .int .i64 0, .int .i64 1, .int .i64 10, .int .i64 19, .int .i64 2, .int .i64 0], .agg #[.int .i64 0, .int .i64 6, .bool true, .int .i64 12, .int .i64 9, .int .i64 1, .bool true, .int .i64 13, .int .i64 9, .int .i64 1]] w fun e w' => e = .returned (.bool false) ∧ Hid (Below w.heap.size w w') :=
  (touches_any sQ cMoved w).mono fun e w' ⟨h1, h2⟩ => ⟨by rw [tMoved] at h1; exact h1, Lib.hid h2⟩
theorem saC {w : World} {cv : Value} (h : ChS w cv [cAdd, cGone]) : Calls Try.prog 32 #[.agg #[.int .i64 3, .int .i64 0, .int .i64 1, .int .i64 10, .int .i64 19, .int .i64 0, .int .i64 0], .agg #[.slice none 0 0, .int .i64 4, .bool false], .agg #[.int .i64 1, cv]] w fun e w' => ∃ a n c, e = .returned (.tuple #[.agg #[.slice a n c, .int .i64 4, .bool false], .bool true, .bool true]) ∧ Hid (Below w.heap.size w w') :=
  (Apply_any (q := sC) (r := rC) (u := .slice none 0 0) (pos := 1) (rowS_nil w) (by decide) h).mono fun e w' ⟨u, h1, h2, h3⟩ => by
    obtain ⟨a, n, c, rfl⟩ := h2.form
    rw [aC] at h1
    exact ⟨a, n, c, h1, Lib.hid h3⟩
theorem saR {w : World} {cv : Value} (h : ChS w cv [cAdd]) : Calls Try.prog 32 #[.agg #[.int .i64 1, .int .i64 0, .int .i64 0, .int .i64 5, .int .i64 5, .int .i64 0, .int .i64 0], .agg #[.slice none 0 0, .int .i64 0, .bool false], .agg #[.int .i64 1, cv]] w fun e w' => ∃ g f c, e = .returned (.tuple #[.agg #[.slice (some ⟨g, f, none⟩) 1 c, .int .i64 0, .bool false], .bool true, .bool true]) ∧ Hid (w'.cell? ⟨g, f + 3, none⟩ = some (.int .i64 3) ∧ g < w'.heap.size) ∧ Hid (1 ≤ c) ∧ Hid (Below w.heap.size w w') :=
  (Apply_any (q := sR) (r := resZ) (u := .slice none 0 0) (pos := 1) (rowS_nil w) (by decide) h).mono fun e w' ⟨u, h1, h2, h3⟩ => by
    rw [aR] at h1 h2
    have h4 := h2.rowS
    obtain ⟨a, n, c, rfl, hn, hc, _, hr⟩ := h4
    simp at hn
    subst hn
    obtain ⟨g, f, rfl, hg, hcs⟩ := hr (by omega)
    have h5 := (hcs 0 (by omega)).cells
    simp at h5
    exact ⟨g, f, c, h1, Lib.hid ⟨h5.2.2.2.1, hg⟩, Lib.hid hc, Lib.hid h3⟩
end Go.Proofs.Ytgbnjjgnihjfgaa
end
