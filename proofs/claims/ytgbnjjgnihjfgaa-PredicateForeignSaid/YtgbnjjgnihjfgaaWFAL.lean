/- QG, PR, PIP, PJP, PKP -/
import Derived.Test.YtgbnjjgnihjfgaaProg
import Derived.WalkKit
import Derived.Below
import Derived.Lib.Hide
import Derived.Laws.StructEq
import Derived.Lib.QuietBelow
import Derived.Deep.RegionHeld3
import Derived.Deep.RegionWith
import Derived.IntWalk
import Derived.BigQuiet
import Derived.Maps.RangeWalk
import Derived.DeepKeys4
import Derived.OneCell
import Derived.StillTail
import Derived.Deep.CutRange
import Derived.Outline
import Derived.WalkSpells
import Derived.Carry
import Derived.Shelf.SlGeneric
import Derived.Shelf.SlSortCmp.WholeK
import Derived.Shelf.SlicesG.Cmp
import Derived.Ground.SlsfProg
import Derived.Ground.SlgcProg
import Derived.Sort.OwnSorted
import Derived.Deep.AppendLies
import Derived.Shelf.SlSortCmp.NoneTotal
import Derived.Deep.QuietTactic
import Derived.Laws.AppendOwnNone
import Derived.Laws.EntriesVeiled
import Derived.Lib.SliceRun
import Derived.Deep.Cut
import Derived.Laws.ResultCell
import Derived.ArgAppend
import Derived.Laws.Rows
import Derived.Great.BuildSlice
import Derived.Great.Frames
import Derived.Deep.DeepCutAuto
import Derived.Lib.AppendZeros
import Derived.Lib.Overlaps
import Derived.Laws.CopyRow
import Derived.Laws.AppendOwn
import Derived.Laws.Externs
import Derived.Deep.RegionLawGrows
import Derived.Test.YtgbnjjgnihjfgaaWFAG
import Derived.Test.YtgbnjjgnihjfgaaWFAJ
import Derived.Test.YtgbnjjgnihjfgaaWFAH
import Derived.Test.YtgbnjjgnihjfgaaWFAE
import Derived.Test.YtgbnjjgnihjfgaaWFAD
import Derived.Test.YtgbnjjgnihjfgaaWFAB
import Derived.Test.YtgbnjjgnihjfgaaWFAI
import Derived.Test.YtgbnjjgnihjfgaaWFAF
import Derived.Test.YtgbnjjgnihjfgaaWFAK
import Derived.Test.YtgbnjjgnihjfgaaWFAC
import Derived.Test.YtgbnjjgnihjfgaaWFAA
section
set_option linter.unusedVariables false
set_option linter.unusedSimpArgs false
namespace Go.Proofs.Ytgbnjjgnihjfgaa
open Go.RowKit Go.Sort Go.ChangeMaps Go.MapKept

theorem ordLt : Ord 146 ltB Lib.compareInt where
  call a b w := (Try.cmp_Compare_int a b w).mono fun e w' ⟨h1, h2⟩ => ⟨h1, by subst h2; exact Below.refl _ _⟩
  le a b := by unfold Lib.compareInt ltB; by_cases h1 : a < b <;> by_cases h2 : b < a <;> simp [h1, h2] <;> omega
  gt a b := by unfold Lib.compareInt ltB; by_cases h1 : a < b <;> by_cases h2 : b < a <;> simp [h1, h2] <;> omega
  neg a b := by unfold Lib.compareInt ltB; by_cases h1 : a < b <;> by_cases h2 : b < a <;> simp [h1, h2] <;> omega
set_option maxRecDepth 100000 in
set_option maxHeartbeats 4000000 in
theorem swapped_any (a b : Int) (w : World) : Calls Try.prog 159 #[.int .i64 a, .int .i64 b] w fun e w' => e = .returned (.int .i64 (Lib.compareInt b a)) ∧ Below w.heap.size w w' := by
  have HC := Lib.hid (Try.cmp_Compare_int b a w)
  generalize Lib.compareInt b a = k at *
  go_enter Try.func159, Try.ntmps159
  go_wp2_with fail
  (with_reducible refine HC.out.mono ?_)
  rintro e w1 ⟨rfl, rfl⟩
  go_wp2_with fail
  go_ret
  exact ⟨rfl, Below.refl _ _⟩
theorem ordGt : Ord 159 gtB (fun a b => Lib.compareInt b a) where
  call := swapped_any
  le a b := by unfold Lib.compareInt gtB; by_cases h1 : a < b <;> by_cases h2 : b < a <;> simp [h1, h2] <;> omega
  gt a b := by unfold Lib.compareInt gtB; by_cases h1 : a < b <;> by_cases h2 : b < a <;> simp [h1, h2] <;> omega
  neg a b := by unfold Lib.compareInt gtB; by_cases h1 : a < b <;> by_cases h2 : b < a <;> simp [h1, h2] <;> omega
theorem PatchOut.of_below {W w0 : World} {rb base : Nat} {r : Option MRes} {e : Ending} {w' : World} (hb : Below W.heap.size W w0) (h : PatchOut w0 rb base r e w') : PatchOut W rb base r e w' :=
  ⟨h.1, h.2.1, (Kept.of_below (F := fun k => k = rb) hb).trans h.2.2 (fun _ _ f => f)⟩
set_option maxRecDepth 100000 in
set_option maxHeartbeats 4000000 in
theorem patchMin_any {q : MQ} {c : MCh} {rb base : Nat} {r : MRes} {W : World} (hR : ResAt W rb base r) : Calls Try.prog 156 #[ptr rb, .agg (effC q c)] W (PatchOut W rb base ((extP ltB r.val r.fnd (inA q c) (inB q c) (msA q c) (msB q c)).map fun s => ⟨r.rows, s.1, s.2⟩)) := by
  have HE : Hid (EffAt (W.alloc (.cells (effC q c) 132)) W.heap.size q c) := Lib.hid (EffAt.new W q c)
  have HB : Hid (Below W.heap.size W (W.alloc (.cells (effC q c) 132))) := Lib.hid (ba W _)
  have HS : Hid ((effC q c).size = 33) := Lib.hid rfl
  have HP := Lib.hid ((patchExtreme_any ordLt (enters_of Try.func146 (by kernel_rfl) rfl) (q := q) (c := c) (hR.below HB.out)).mono fun e w' h => PatchOut.of_below HB.out h)
  unfold ptr fnV at *
  unfold EffAt at HE
  generalize ((extP ltB r.val r.fnd (inA q c) (inB q c) (msA q c) (msB q c)).map fun s => (⟨r.rows, s.1, s.2⟩ : MRes)) = RP at *
  clear hR
  generalize effC q c = E at *
  go_enter Try.func156, Try.ntmps156
  go_upto_region 1 with fail
  generalize W.alloc (.cells E 132) = w0 at *
  go_wp2_with (refine wpList_load_row rfl 132 _ rfl W.heap.size rfl 132 _ _ _ HE.out Try.underlying132 rfl (by rw [HS.out]; kernel_rfl) ?_)
  (with_reducible refine HP.out.mono ?_)
  rintro e w1 ⟨rfl, h2, h3⟩
  have H23 := Lib.hid (And.intro h2 h3)
  clear h2 h3
  go_wp2_with fail
  go_ret
  exact ⟨rfl, H23.out.1, H23.out.2⟩
set_option maxRecDepth 100000 in
set_option maxHeartbeats 4000000 in
theorem patchMax_any {q : MQ} {c : MCh} {rb base : Nat} {r : MRes} {W : World} (hR : ResAt W rb base r) : Calls Try.prog 158 #[ptr rb, .agg (effC q c)] W (PatchOut W rb base ((extP gtB r.val r.fnd (inA q c) (inB q c) (msA q c) (msB q c)).map fun s => ⟨r.rows, s.1, s.2⟩)) := by
  have HE : Hid (EffAt (W.alloc (.cells (effC q c) 132)) W.heap.size q c) := Lib.hid (EffAt.new W q c)
  have HB : Hid (Below W.heap.size W (W.alloc (.cells (effC q c) 132))) := Lib.hid (ba W _)
  have HS : Hid ((effC q c).size = 33) := Lib.hid rfl
  have HP := Lib.hid ((patchExtreme_any ordGt (enters_of Try.func159 (by kernel_rfl) rfl) (q := q) (c := c) (hR.below HB.out)).mono fun e w' h => PatchOut.of_below HB.out h)
  unfold ptr fnV at *
  unfold EffAt at HE
  generalize ((extP gtB r.val r.fnd (inA q c) (inB q c) (msA q c) (msB q c)).map fun s => (⟨r.rows, s.1, s.2⟩ : MRes)) = RP at *
  clear hR
  generalize effC q c = E at *
  go_enter Try.func158, Try.ntmps158
  go_upto_region 1 with fail
  generalize W.alloc (.cells E 132) = w0 at *
  go_wp2_with (refine wpList_load_row rfl 132 _ rfl W.heap.size rfl 132 _ _ _ HE.out Try.underlying132 rfl (by rw [HS.out]; kernel_rfl) ?_)
  (with_reducible refine HP.out.mono ?_)
  rintro e w1 ⟨rfl, h2, h3⟩
  have H23 := Lib.hid (And.intro h2 h3)
  clear h2 h3
  go_wp2_with fail
  go_ret
  exact ⟨rfl, H23.out.1, H23.out.2⟩
end Go.Proofs.Ytgbnjjgnihjfgaa
end

section
set_option linter.unusedVariables false
set_option linter.unusedSimpArgs false
namespace Go.Proofs.Ytgbnjjgnihjfgaa
open Go.RowKit Go.Sort Go.ChangeMaps Go.MapKept

/-- What 'without' is handed for pairs. -/
def ChoosesP (W : World) (g : FuncId) (cb : Array Value) (sel : PR → Bool) : Prop :=
  ∀ (W' : World) (r : PR), Below W.heap.size W W' → Calls Try.prog g (#[prV r] ++ cb) W' fun e w' => e = .returned (.bool (sel r)) ∧ Below W'.heap.size W' w'
def TellsP (W : World) (g : FuncId) (fs cb : Array Value) (p : PR → Bool) : Prop :=
  ∀ (W' : World) (r : PR), Below W.heap.size W W' → Calls Try.prog g (fs ++ #[prV r] ++ cb) W' fun e w' => e = .returned (.bool (p r)) ∧ Below W'.heap.size W' w'
set_option maxRecDepth 100000 in
set_option maxHeartbeats 8000000 in
theorem withoutP_any {W : World} {va : Value} {L : List PR} (hR : PrS W va L) (hl : L.length ≤ 40000) {g : FuncId} {cb : Array Value} {sel : PR → Bool} (eg : ∀ args w, (callFunc g args).run Try.prog w = .ok (.enter g args) w) (hsel : ChoosesP W g cb sel) :
    Calls Try.prog 198 #[va, .func (.func g) #[] cb] W fun e w' => ∃ v, e = .returned v ∧ OwnP w' W.heap.size v (L.filter fun r => !sel r) ∧ Below W.heap.size W w' := by
  obtain ⟨i0, hI, hZ0, hZ1, hZ2⟩ := info_parts Try.info231
  have HR := Lib.hid hR
  have HSel := Lib.hid hsel
  obtain ⟨a, n, cap, rfl, hn, hc1, hc2, _⟩ := hR
  have HN := Lib.hid hn
  have hn2 : n ≤ 9223372036854775807 := by omega
  have HLl : Hid (L.length ≤ 40000) := Lib.hid hl
  clear hsel hn hl
  go_enter Try.func198, Try.ntmps198
  go_wp2_with fail
  go_loopw [5, 10] (fun v i wr => ∃ k : Nat, k ≤ n ∧ i = .int .i64 k ∧ Hid (OwnP wr W.heap.size v ((L.take k).filter fun r => !sel r)) ∧ Hid (Below W.heap.size W wr)) (fun v i _ => n - (intOf i).toNat)
  case atStart => exact ⟨0, by omega, rfl, Lib.hid (OwnP.nil _ _), Lib.hid (Below.refl _ _)⟩
  case round =>
    obtain ⟨k, hk, rfl, HO, HB⟩ := hrel
    obtain ⟨v, hvv⟩ : ∃ v, v = u5 := ⟨_, rfl⟩
    subst hvv
    by_cases hlt : k < n
    · obtain ⟨_, n', _, e1, -, -, -, hcell⟩ := HR.out.below HB.out
      simp at e1
      obtain ⟨rfl, hnn, rfl⟩ := e1
      obtain ⟨vb, vo, rfl, hvb, hcs⟩ := hcell (by omega)
      have HRm := hcs k (by omega)
      clear hcs hcell hnn
      obtain ⟨⟨⟨rt, rk, ⟨ra, rb, rc⟩⟩, ⟨st, sk, ⟨sa, sb, sc⟩⟩⟩, Hr⟩ : ∃ r, Hid (L.getD k prZ = r) := ⟨_, Lib.hid rfl⟩
      rw [Hr.out] at HRm
      obtain ⟨y0, y1, y2, y3, y4, y5, y6, y7, y8, y9⟩ := HRm.cells
      skip
      clear HRm
      have HTk : Hid (L.take (k + 1) = L.take k ++ [(⟨rt, rk, ⟨ra, rb, rc⟩⟩, ⟨st, sk, ⟨sa, sb, sc⟩⟩)]) := Lib.hid (by rw [take_snoc' (d := prZ) (by have := HN.out; omega), Hr.out])
      have hlen : ((L.take k).filter fun r => !sel r).length ≤ 40000 := by
        have h1 := List.length_filter_le (fun r => !sel r) (L.take k)
        have h2 := List.length_take_le k L
        have h3 := HLl.out
        have h4 := HN.out
        omega
      go_wp2_with fail
      refine (HSel.out _ (⟨rt, rk, ⟨ra, rb, rc⟩⟩, ⟨st, sk, ⟨sa, sb, sc⟩⟩) (bt HB.out (ba wr _))).mono ?_
      rintro e w2 ⟨rfl, hb2⟩
      have HY2 : Hid (PrAt w2 wr.heap.size 0 (⟨rt, rk, ⟨ra, rb, rc⟩⟩, ⟨st, sk, ⟨sa, sb, sc⟩⟩)) := Lib.hid (prAt_of (t := 231) ((hb2.block _ (by simp)).trans (MapKept.heap_alloc wr _).1))
      have HB12 : Hid (Below wr.heap.size wr w2) := Lib.hid (bt (ba wr _) hb2)
      obtain ⟨bq, Hbq⟩ : ∃ bq, Hid (sel (⟨rt, rk, ⟨ra, rb, rc⟩⟩, ⟨st, sk, ⟨sa, sb, sc⟩⟩) = bq) := ⟨_, Lib.hid rfl⟩
      rw [Hbq.out]
      clear hb2 y0 y1 y2 y3 y4 y5 y6 y7 y8 y9
      have HB2 := Lib.hid (bt HB.out HB12.out)
      cases bq
      · obtain ⟨y0, y1, y2, y3, y4, y5, y6, y7, y8, y9⟩ := PrAt.cells0 HY2.out
        skip
        have HO2 : Hid (w2.ownsRow W.heap.size 231 10 v ((L.take k).filter fun r => !sel r).length (flatP ((L.take k).filter fun r => !sel r))) := Lib.hid (HO.out.below HB12.out)
        have hzw : W.heap.size ≤ w2.heap.size := HB2.out.size
        go_wp2_with (at_builtin; go_loud (refine wpList_append_own _ rfl _ _ 207 rfl W.heap.size 231 i0 (.agg #[.int .i64 0, .int .i64 0, .int .i64 0, .int .i64 0, .int .i64 0, .int .i64 0, .int .i64 0, .int .i64 0, .int .i64 0, .int .i64 0]) 10 80 Try.underlying207 hI hZ0 hZ1 hZ2 rfl (by decide) _ _ _ rfl (HO2.out.alloc _) ⟨w2.heap.size, 0, none⟩ 1 1 [.int .i64 rt, .int .i64 rk, .int .i64 ra, .int .i64 rb, .int .i64 rc, .int .i64 st, .int .i64 sk, .int .i64 sa, .int .i64 sb, .int .i64 sc] rfl rfl (World.news_of_block (cs := #[.int .i64 rt, .int .i64 rk, .int .i64 ra, .int .i64 rb, .int .i64 rc, .int .i64 st, .int .i64 sk, .int .i64 sa, .int .i64 sb, .int .i64 sc]) (t := 231) (fr := (0, 0)) (heap_alloc_new w2 _)) (by simp [Value.oneCell']) (by unfold maxLen; omega) (by omega) (by simp; omega) ?_); intro v' w3 hown' hgrow _)
        have HOn : Hid (OwnP w3 W.heap.size v' ((L.take (k + 1)).filter fun r => !sel r)) := Lib.hid (by
          rw [HTk.out, List.filter_append, List.filter_cons_of_pos (by rw [Hbq.out]; rfl), List.filter_nil]
          unfold OwnP
          rw [List.length_append, flatP_app]
          exact hown')
        have hge : ∀ k, v.ownBlock = some k → W.heap.size ≤ k := fun k e => OwnP.own_ge HO.out e
        have hKg : Kept (fun k => v.ownBlock = some k) w2 w3 := (Kept.of_below (F := fun k => v.ownBlock = some k) (ba w2 _)).trans (kept_grown hgrow) (fun _ _ f => f)
        have HBn : Hid (Below W.heap.size W w3) := Lib.hid (((Kept.of_below (F := fun k => v.ownBlock = some k) HB2.out).trans hKg (fun _ _ f => f)).below (Nat.le_refl _) (fun k e => hge _ e))
        clear hown' hgrow hKg hge
        go_wp2_with fail
        exact ⟨⟨k + 1, by omega, by go_num, HOn, HBn⟩, by simp [intOf]; omega⟩
      · have HOn : Hid (OwnP w2 W.heap.size v ((L.take (k + 1)).filter fun r => !sel r)) := Lib.hid (by
          rw [HTk.out, List.filter_append, List.filter_cons_of_neg (by rw [Hbq.out]; decide), List.filter_nil, List.append_nil]
          exact HO.out.below HB12.out)
        go_wp2_with fail
        exact ⟨⟨k + 1, by omega, by go_num, HOn, HB2⟩, by simp [intOf]; omega⟩
    · obtain rfl : k = n := by omega
      have HOe : Hid (OwnP wr W.heap.size v (L.filter fun r => !sel r)) := Lib.hid (by
        have h := HO.out
        rw [HN.out, List.take_length] at h
        exact h)
      go_wp2_with fail
      go_ret
      exact ⟨v, rfl, HOe.out, HB.out⟩

set_option maxRecDepth 100000 in
set_option maxHeartbeats 8000000 in
theorem indexFuncP_any {W : World} {va : Value} {L : List PR} (hR : PrS W va L) {g : FuncId} {fs cb : Array Value} {p : PR → Bool} (eg : ∀ args w, (callFunc g args).run Try.prog w = .ok (.enter g args) w) (hsel : TellsP W g fs cb p) :
    Calls Try.prog 196 #[va, .func (.func g) fs cb] W fun e w' => e = .returned (.int .i64 (idxI p L)) ∧ Below W.heap.size W w' := by
  have HR := Lib.hid hR
  have HSel := Lib.hid hsel
  obtain ⟨a, n, cap, rfl, hn, hc1, hc2, _⟩ := hR
  have HN := Lib.hid hn
  have hn2 : n ≤ 9223372036854775807 := by omega
  clear hsel hn
  go_enter Try.func196, Try.ntmps196
  go_wp2_with fail
  go_loopw [8] (fun i wr => ∃ k : Nat, k ≤ n ∧ i = .int .i64 k ∧ Hid (k ≤ L.findIdx p) ∧ Hid (Below W.heap.size W wr)) (fun i _ => n - (intOf i).toNat)
  case atStart => exact ⟨0, by omega, rfl, Lib.hid (Nat.zero_le _), Lib.hid (Below.refl _ _)⟩
  case round =>
    obtain ⟨k, hk, rfl, HI, HB⟩ := hrel
    by_cases hlt : k < n
    · obtain ⟨_, n', _, e1, -, -, -, hcell⟩ := HR.out.below HB.out
      simp at e1
      obtain ⟨rfl, hnn, rfl⟩ := e1
      obtain ⟨vb, vo, rfl, hvb, hcs⟩ := hcell (by omega)
      have HRm := hcs k (by omega)
      clear hcs hcell hnn
      have HKL : Hid (k < L.length) := Lib.hid (by have := HN.out; omega)
      obtain ⟨⟨⟨rt, rk, ⟨ra, rb, rc⟩⟩, ⟨st, sk, ⟨sa, sb, sc⟩⟩⟩, Hr⟩ : ∃ r, Hid (L.getD k prZ = r) := ⟨_, Lib.hid rfl⟩
      rw [Hr.out] at HRm
      obtain ⟨y0, y1, y2, y3, y4, y5, y6, y7, y8, y9⟩ := HRm.cells
      skip
      clear HRm
      go_wp2_with fail
      refine (HSel.out _ (⟨rt, rk, ⟨ra, rb, rc⟩⟩, ⟨st, sk, ⟨sa, sb, sc⟩⟩) HB.out).mono ?_
      rintro e w2 ⟨rfl, hb2⟩
      have HB2 := Lib.hid (bt HB.out hb2)
      obtain ⟨bq, Hbq⟩ : ∃ bq, Hid (p (⟨rt, rk, ⟨ra, rb, rc⟩⟩, ⟨st, sk, ⟨sa, sb, sc⟩⟩) = bq) := ⟨_, Lib.hid rfl⟩
      have HPk : Hid (p (L[k]'HKL.out) = bq) := Lib.hid (by rw [← getD_at prZ HKL.out, Hr.out]; exact Hbq.out)
      rw [Hbq.out]
      clear hb2 y0 y1 y2 y3 y4 y5 y6 y7 y8 y9
      cases bq
      · have HIn : Hid (k + 1 ≤ L.findIdx p) := Lib.hid (idx_miss HKL.out HI.out HPk.out)
        go_wp2_with fail
        exact ⟨⟨k + 1, by omega, by go_num, HIn, HB2⟩, by simp [intOf]; omega⟩
      · have HIn : Hid (idxI p L = k) := Lib.hid (by unfold idxI; rw [idx_hit HKL.out HI.out HPk.out, if_pos HKL.out])
        go_wp2_with fail
        go_ret
        exact ⟨by rw [HIn.out]; rfl, HB2.out⟩
    · obtain rfl : k = n := by omega
      have HIn : Hid (idxI p L = -1) := Lib.hid (by unfold idxI; rw [if_neg (by have := HI.out; have := HN.out; omega)])
      go_wp2_with fail
      go_ret
      exact ⟨by rw [HIn.out]; rfl, HB.out⟩

end Go.Proofs.Ytgbnjjgnihjfgaa
end

section
set_option linter.unusedVariables false
set_option linter.unusedSimpArgs false
namespace Go.Proofs.Ytgbnjjgnihjfgaa
open Go.RowKit Go.Sort Go.ChangeMaps Go.MapKept

set_option maxRecDepth 100000 in
set_option maxHeartbeats 4000000 in
theorem insP_end {W : World} {base : Nat} {v : Value} {n : Nat} {xs : List Value} (h : W.ownsRow base 231 10 v n xs) (hb : base ≤ W.heap.size) (hn : n ≤ 40000) {xb : Nat} {ys : List Value} (hy : W.heap[xb]? = some (.cells ys.toArray 231 (0, 0))) (hyl : ys.length = 10) (h1 : ∀ u ∈ ys, u.oneCell' = true) :
    Calls Try.prog 213 #[v, .int .i64 (n : Int), .slice (some ⟨xb, 0, none⟩) 1 1] W fun e w' => ∃ v', e = .returned v' ∧ w'.ownsRow base 231 10 v' (n + 1) (xs ++ ys) ∧ Kept (fun i => v.ownBlock = some i) W w' := by
  obtain ⟨i0, hI, hZ0, hZ1, hZ2⟩ := info_parts Try.info231
  have H := Lib.hid h
  have HY := Lib.hid (news_at hy)
  have HYl := Lib.hid hyl
  have H1 := Lib.hid h1
  have hlen := h.1
  rcases h.2 with ⟨rfl, hn0⟩ | ⟨g, cap, cur, rfl, hg, hcur, hnc, hcm, hcs, ht⟩
  · subst hn0
    clear h hy hyl h1 hlen
    go_enter Try.func213, Try.ntmps213
    go_wp2_with (at_builtin; refine wpList_append_own _ rfl _ _ 207 rfl base 231 i0 (.agg #[.int .i64 0, .int .i64 0, .int .i64 0, .int .i64 0, .int .i64 0, .int .i64 0, .int .i64 0, .int .i64 0, .int .i64 0, .int .i64 0]) 10 80 Try.underlying207 hI hZ0 hZ1 hZ2 rfl (by decide) _ 0 xs rfl H.out ⟨xb, 0, none⟩ 1 1 ys rfl (by rw [HYl.out]) HY.out H1.out (by unfold maxLen; omega) (by omega) hb ?_; intro v' w3 hown' hgrow _; have HW := Lib.hid hown'; have HG := Lib.hid hgrow; clear hown' hgrow)
    go_ret
    exact ⟨v', rfl, HW.out, kept_grown HG.out⟩
  · by_cases hcn : cap = n
    · subst hcn
      have hz : ¬ (1 : Int) = 0 := by omega
      clear h hy hyl h1 hlen hcs ht hcur hg
      unfold maxLen at hcm
      go_enter Try.func213, Try.ntmps213
      go_wp2_with (at_builtin; refine wpList_append_own _ rfl _ _ 207 rfl base 231 i0 (.agg #[.int .i64 0, .int .i64 0, .int .i64 0, .int .i64 0, .int .i64 0, .int .i64 0, .int .i64 0, .int .i64 0, .int .i64 0, .int .i64 0]) 10 80 Try.underlying207 hI hZ0 hZ1 hZ2 rfl (by decide) _ cap xs rfl H.out ⟨xb, 0, none⟩ 1 1 ys rfl (by rw [HYl.out]) HY.out H1.out (by unfold maxLen; omega) (by omega) hb ?_; intro v' w3 hown' hgrow _; have HW := Lib.hid hown'; have HG := Lib.hid hgrow; clear hown' hgrow)
      go_ret
      exact ⟨v', rfl, HW.out, kept_grown HG.out⟩
    · have hcn2 : ¬ n = cap := fun e => hcn e.symm
      clear h hy hyl h1 hlen hcs ht hcur hg
      unfold maxLen at hcm
      go_enter Try.func213, Try.ntmps213
      go_wp2_with (at_builtin; refine wpList_append_own _ rfl _ _ 207 rfl base 231 i0 (.agg #[.int .i64 0, .int .i64 0, .int .i64 0, .int .i64 0, .int .i64 0, .int .i64 0, .int .i64 0, .int .i64 0, .int .i64 0, .int .i64 0]) 10 80 Try.underlying207 hI hZ0 hZ1 hZ2 rfl (by decide) _ n xs rfl H.out ⟨xb, 0, none⟩ 1 1 ys rfl (by rw [HYl.out]) HY.out H1.out (by unfold maxLen; omega) (by omega) hb ?_; intro v' w3 hown' hgrow _; have HW := Lib.hid hown'; have HG := Lib.hid hgrow; clear hown' hgrow)
      go_ret
      exact ⟨v', rfl, HW.out, kept_grown HG.out⟩

set_option maxRecDepth 100000 in
set_option maxHeartbeats 8000000 in
theorem insP_grow {W : World} {base g n k : Nat} {cur : Array Value} {xs : List Value} (hk : k < n) (hb : base ≤ W.heap.size) (hn : n ≤ 40000) (hcur : W.heap[g]? = some (.cells cur 231 (0, 0))) (hcs : cur.toList = xs) (hxl : xs.length = n * 10) (hx1 : ∀ u ∈ xs, u.oneCell' = true) {xb : Nat} {ys : List Value} (hy : W.heap[xb]? = some (.cells ys.toArray 231 (0, 0))) (hyl : ys.length = 10) (h1 : ∀ u ∈ ys, u.oneCell' = true) :
    Calls Try.prog 213 #[.slice (some ⟨g, 0, none⟩) n n, .int .i64 (k : Int), .slice (some ⟨xb, 0, none⟩) 1 1] W fun e w' => ∃ v', e = .returned v' ∧ w'.ownsRow base 231 10 v' (n + 1) (xs.take (k * 10) ++ (ys ++ xs.drop (k * 10))) ∧ Below W.heap.size W w' := by
  obtain ⟨i0, hI, hZ0, hZ1, hZ2⟩ := info_parts Try.info231
  have HSz : Hid ((Try.prog.info? 231).map (·.size) = some 10) := Lib.hid (by rw [hI]; simp [hZ1])
  have HCur := Lib.hid hcur
  have HY := Lib.hid (news_at hy)
  have HYb := Lib.hid hy
  have HYl := Lib.hid hyl
  have H1 := Lib.hid h1
  have HX1 := Lib.hid hx1
  have HXl := Lib.hid hxl
  have HAl : Hid ((xs.take (k * 10)).length = k * 10) := Lib.hid (by rw [List.length_take, hxl]; omega)
  have HBl : Hid ((xs.drop (k * 10)).length = (n - k) * 10) := Lib.hid (by rw [List.length_drop, hxl]; omega)
  have HCell : Hid (∀ j u, xs[j]? = some u → W.cell? ⟨g, j, none⟩ = some u) := Lib.hid (fun j u hj => by
    simp only [World.cell?, hcur]
    rw [← hcs] at hj
    simpa using hj)
  obtain ⟨v2, w1, hr, hown, hgrow⟩ := run_append_zeros_grows (P := Try.prog) W 207 3 207 231 i0 (.agg #[.int .i64 0, .int .i64 0, .int .i64 0, .int .i64 0, .int .i64 0, .int .i64 0, .int .i64 0, .int .i64 0, .int .i64 0, .int .i64 0]) 10 80 .i64 Try.underlying207 Try.underlying3 hI hZ0 hZ1 hZ2 rfl (by decide) ⟨g, 0, none⟩ k n (xs.take (k * 10)) HAl.out (fun j u hj => by rw [Addr.add_lit, Nat.zero_add]; exact HCell.out j u (by rw [List.getElem?_take] at hj; split at hj; exact hj; cases hj)) (n + 1 - k) (by omega) (by omega) (by unfold maxLen; omega) (by omega)
  have HR := Lib.hid hr
  have e1 : k + (n + 1 - k) = n + 1 := by omega
  rw [e1] at hown
  obtain ⟨hol, hnil | ⟨g2, cap2, cur2, rfl, hg2, hc2, hn2, hm2, hs2, ht2⟩⟩ := hown
  · exact absurd hnil.2 (by omega)
  have HC2 := Lib.hid hc2
  have HS2 := Lib.hid hs2
  have HT2 := Lib.hid ht2
  have HG2 : Hid (W.heap.size ≤ g2) := Lib.hid hg2
  have HBw1 : Hid (Below W.heap.size W w1) := Lib.hid (by
    exact ⟨hgrow.os, hgrow.tape, hgrow.output, hgrow.size, fun i hi => hgrow.block i hi (by simp)⟩)
  have HYb1 := Lib.hid ((HBw1.out.block _ (lt_of_block HYb.out)).trans HYb.out)
  have HCur1 := Lib.hid ((HBw1.out.block _ (lt_of_block HCur.out)).trans HCur.out)
  have hne1 : ¬ xb = g2 := fun e => by have := lt_of_block HYb.out; have := HG2.out; omega
  have hgne : ¬ g = g2 := fun e => by have := lt_of_block HCur.out; have := HG2.out; omega
  have HCp1 := Lib.hid (run_copy_rowK (P := Try.prog) w1 10 207 207 3 231 g2 (k * 10) (n + 1 - k) (cap2 - k) ⟨xb, 0, none⟩ 1 1 cur2 231 ys Try.underlying207 HSz.out HC2.out (by rw [HYl.out, show Nat.min 1 (n + 1 - k) = 1 from Nat.min_eq_left (by omega)]) (news_at HYb1.out) (by rw [HYl.out, HS2.out]; omega) H1.out)
  generalize hw2 : w1.setRow g2 _ = w2 at HCp1
  have HC3 : Hid (w2.heap[g2]? = some (.cells (cur2.toList.take (k * 10) ++ ys ++ cur2.toList.drop (k * 10 + ys.length)).toArray 231 (0, 0))) := Lib.hid (by rw [← hw2]; exact setRow_heap _ _ _ _ _ _ HC2.out)
  have HBw2 : Hid (Below W.heap.size W w2) := Lib.hid (by rw [← hw2]; exact below_row HBw1.out HG2.out _)
  have HCur2 := Lib.hid ((HBw2.out.block _ (lt_of_block HCur.out)).trans HCur.out)
  have HSz3 : Hid ((cur2.toList.take (k * 10) ++ ys ++ cur2.toList.drop (k * 10 + ys.length)).length = cap2 * 10) := Lib.hid (by
    have := HS2.out
    have := HYl.out
    simp only [List.length_append, List.length_take, List.length_drop, Array.length_toList]
    omega)
  have HCp2 : Hid (∀ w3, Below w2.heap.size w2 w3 → ∃ w4, (Builtin.copy_ #[207, 207] 3 #[.slice (some ⟨g2, (k + 1) * 10, none⟩) (n - k) (cap2 - (k + 1)), .slice (some ⟨g, k * 10, none⟩) (n - k) (n - k)]).run Try.prog w3 = .ok (goInt ((n - k : Nat) : Int)) w4 ∧ Hid (w4.ownsRow base 231 10 (.slice (some ⟨g2, 0, none⟩) (n + 1) cap2) (n + 1) (xs.take (k * 10) ++ (ys ++ xs.drop (k * 10)))) ∧ Hid (Below W.heap.size W w4)) := Lib.hid (fun w3 hb3 => by
    have h3 := (hb3.block _ (lt_of_block HC3.out)).trans HC3.out
    have hc3 := (hb3.block _ (lt_of_block HCur2.out)).trans HCur2.out
    have e2 : Nat.min (n - k) (n - k) = n - k := Nat.min_self _
    have hs4 : (k + 1) * 10 + (xs.drop (k * 10)).length ≤ cap2 * 10 := by rw [HBl.out]; omega
    have hr := run_copy_rowK (P := Try.prog) w3 10 207 207 3 231 g2 ((k + 1) * 10) (n - k) (cap2 - (k + 1)) ⟨g, k * 10, none⟩ (n - k) (n - k) _ 231 (xs.drop (k * 10)) Try.underlying207 HSz.out h3 (by rw [HBl.out, e2]) (fun j u hj => by
      rw [Addr.add_lit]
      simp only [World.cell?, hc3]
      rw [List.getElem?_drop, ← hcs] at hj
      simpa using hj) (by rw [List.size_toArray, HSz3.out]; exact hs4) (fun u hu => HX1.out u (List.mem_of_mem_drop hu))
    rw [e2] at hr
    refine ⟨_, hr, Lib.hid ⟨?_, .inr ⟨g2, cap2, _, rfl, by have := HG2.out; omega, setRow_heap _ _ _ _ _ _ h3, hn2, hm2, ?_, ?_⟩⟩, Lib.hid (below_row (bt HBw2.out hb3) HG2.out _)⟩
    · rw [List.length_append, List.length_append, HAl.out, HYl.out, HBl.out]; omega
    · have := HSz3.out
      have := HBl.out
      simp only [List.size_toArray, List.length_append, List.length_take, List.length_drop] at *
      omega
    · simp only [List.toList_toArray]
      exact splice_two (n := n) (k := k) (s := 10) HAl.out HYl.out HBl.out (by omega) (by have := HS2.out; rw [Array.length_toList]; omega) (by
        have h := HT2.out
        have h5 : (cur2.toList.take ((n + 1) * 10)).take (k * 10) = xs.take (k * 10) := by
          rw [h, List.take_append_of_le_length (by rw [HAl.out]; omega), List.take_of_length_le (by rw [HAl.out]; omega)]
        rw [List.take_take, Nat.min_eq_left (by omega)] at h5
        exact h5))
  have ec : ((n + 1 - k : Nat) : Int) = (n : Int) + 1 - k := by omega
  rw [ec] at HR
  have hkn : ¬ (k : Int) = (n : Int) := by omega
  have hkc : ¬ cap2 = k := by omega
  have hkc1 : ¬ cap2 = k + 1 := by omega
  have hnk : ¬ n = k := by omega
  have hz1 : ¬ (1 : Int) = 0 := by omega
  have TN1 : Hid (((k : Int) + 1).toNat = k + 1) := Lib.hid (by omega)
  have HW1 : Hid (wrap64 ((k : Int) + 1) = (k : Int) + 1) := Lib.hid (by unfold wrap64; omega)
  unfold maxLen at hm2
  clear hw2 hr hgrow hol hg2 hc2 hs2 ht2 hcur hcs hxl hx1 hy hyl h1 e1 ec hI hZ0 hZ1 hZ2 hb
  go_enter Try.func213, Try.ntmps213
  go_wp2_with (first
    | (at_builtin; refine Lib.wpList_append_run W rfl _ _ 207 3 rfl _ _ rfl rfl _ _ HR.out ?_)
    | (refine wpList_copy_runK w1 rfl (.tmp 43) (.tmp 44) 207 207 rfl _ _ rfl rfl HCp1.out ?_))
  go_frame
  refine wp_region_calm 8 99 [0, 1, 2, 3, 4, 5, 6, 7] (by kernel_rfl) (by kernel_rfl) (by intro oz h; simp at h) (by intro oz h; simp at h) (by rfl) ?_
  simp only [List.take_succ_cons, List.take_zero]
  iterate 4
    apply wpCalm_want
    · rfl
    · exact bc_refl
    · exact ⟨_, Below.refl _ _⟩
    · intro w00 hC0 K hK
      go_big_quiet_op
      exact hK
  have hw1 := HW1.out
  have tn1 := TN1.out
  try simp only [hw1, tn1]
  apply wpCalm_want
  · rfl
  · exact bc_refl
  · exact ⟨_, Below.refl _ _⟩
  · intro w00 hC0 K hK
    go_big_quiet_op
    exact hK
  try simp only [hw1, tn1]
  iterate 3
    apply wpCalm_want
    · rfl
    · exact bc_refl
    · exact ⟨_, Below.refl _ _⟩
    · intro w00 hC0 K hK
      go_big_quiet_op
      exact hK
  refine wpCalm_nil ?_
  intro w3 hbq
  try simp only [List.drop_succ_cons, List.drop_zero]
  obtain ⟨w4, hr4, HO4, HB4⟩ := HCp2.out w3 hbq
  have HR4 := Lib.hid hr4
  clear hr4 hbq
  refine wpList_copy_runK w3 rfl (.tmp 50) (.tmp 53) 207 207 rfl _ _ rfl rfl HR4.out ?_
  go_wp2_with fail
  go_ret
  exact ⟨_, rfl, HO4.out, HB4.out⟩

end Go.Proofs.Ytgbnjjgnihjfgaa
end

section
set_option linter.unusedVariables false
set_option linter.unusedSimpArgs false
namespace Go.Proofs.Ytgbnjjgnihjfgaa
open Go.RowKit Go.Sort Go.ChangeMaps Go.MapKept

set_option maxRecDepth 100000 in
set_option maxHeartbeats 8000000 in
theorem insP_room {W : World} {base g n k cap : Nat} {cur : Array Value} {xs : List Value} (hk : k < n) (hg : base ≤ g) (hn : n ≤ 40000) (hnc : n < cap) (hcm : cap ≤ maxLen) (hcur : W.heap[g]? = some (.cells cur 231 (0, 0))) (hcs : cur.size = cap * 10) (ht : cur.toList.take (n * 10) = xs) (hx1 : ∀ u ∈ xs, u.oneCell' = true) {xb : Nat} {ys : List Value} (hy : W.heap[xb]? = some (.cells ys.toArray 231 (0, 0))) (hyl : ys.length = 10) (h1 : ∀ u ∈ ys, u.oneCell' = true) (hne : ¬ xb = g) :
    Calls Try.prog 213 #[.slice (some ⟨g, 0, none⟩) n cap, .int .i64 (k : Int), .slice (some ⟨xb, 0, none⟩) 1 1] W fun e w' => ∃ v', e = .returned v' ∧ w'.ownsRow base 231 10 v' (n + 1) (xs.take (k * 10) ++ (ys ++ xs.drop (k * 10))) ∧ Kept (fun i => i = g) W w' := by
  obtain ⟨i0, hI, hZ0, hZ1, hZ2⟩ := info_parts Try.info231
  have HSz : Hid ((Try.prog.info? 231).map (·.size) = some 10) := Lib.hid (by rw [hI]; simp [hZ1])
  have HZs : Hid (∀ w, (Go.sizeOf 231).run Try.prog w = .ok 10 w) := Lib.hid (fun w => by simp [sizeOf, typeInfo, hI, hZ1])
  have HCur := Lib.hid hcur
  have HCs := Lib.hid hcs
  have HT := Lib.hid ht
  have HYb := Lib.hid hy
  have HYl := Lib.hid hyl
  have H1 := Lib.hid h1
  have HX1 := Lib.hid hx1
  have hcl : n * 10 + 10 ≤ cap * 10 := by omega
  have HXl : Hid (xs.length = n * 10) := Lib.hid (by rw [← ht, List.length_take, Array.length_toList, hcs]; omega)
  have HBl : Hid ((xs.drop (k * 10)).length = (n - k) * 10) := Lib.hid (by rw [List.length_drop, HXl.out]; omega)
  have hov : ∀ lb cb, (callFunc 217 #[.slice (some ⟨xb, 0, none⟩) 1 1, .slice (some ⟨g, (k + 1) * 10, none⟩) lb cb]).run Try.prog W = .ok (.value (.bool false)) W := fun lb cb => by
    rw [run_callFunc_extern Try.func217 (by kernel_rfl) (by kernel_rfl) (by kernel_rfl) (e := Extern.SlicesOverlaps.overlaps #[207, 207] #[4]) (by kernel_rfl),
      Lib.run_overlaps_apart W 207 4 231 Try.underlying207 10 HZs.out ⟨xb, 0, none⟩ ⟨g, (k + 1) * 10, none⟩ 1 1 lb cb hne 231 231 ys.toArray.size cur.size (by simp [World.shape?, hy]) (by simp [World.shape?, hcur]) (by rw [hcs]; omega) (by simp [World.frozen?, hy]) (by simp [World.frozen?, hy])]
    rfl
  have HCp1 : Hid (∀ w3, Below W.heap.size W w3 → ∃ w4, (Builtin.copy_ #[207, 207] 3 #[.slice (some ⟨g, (k + 1) * 10, none⟩) (n - k) (cap - (k + 1)), .slice (some ⟨g, k * 10, none⟩) (n + 1 - k) (cap - k)]).run Try.prog w3 = .ok (goInt ((n - k : Nat) : Int)) w4 ∧ Hid (∃ w5, (Builtin.copy_ #[207, 207] 3 #[.slice (some ⟨g, k * 10, none⟩) (n + 1 - k) (cap - k), .slice (some ⟨xb, 0, none⟩) 1 1]).run Try.prog w4 = .ok (goInt 1) w5 ∧ Hid (w5.ownsRow base 231 10 (.slice (some ⟨g, 0, none⟩) (n + 1) cap) (n + 1) (xs.take (k * 10) ++ (ys ++ xs.drop (k * 10)))) ∧ Hid (Kept (fun i => i = g) W w5))) := Lib.hid (fun w3 hb3 => by
    have h3 := (hb3.block _ (lt_of_block HCur.out)).trans HCur.out
    have hy3 := (hb3.block _ (lt_of_block HYb.out)).trans HYb.out
    have e2 : Nat.min (n + 1 - k) (n - k) = n - k := Nat.min_eq_right (by omega)
    have hr := run_copy_rowK (P := Try.prog) w3 10 207 207 3 231 g ((k + 1) * 10) (n - k) (cap - (k + 1)) ⟨g, k * 10, none⟩ (n + 1 - k) (cap - k) _ 231 (xs.drop (k * 10)) Try.underlying207 HSz.out h3 (by rw [HBl.out, e2]) (fun j u hj => by
      rw [Addr.add_lit]
      simp only [World.cell?, h3]
      have hj2 := (List.getElem?_eq_some_iff.1 hj).1
      rw [List.getElem?_drop, ← HT.out, List.getElem?_take] at hj
      split at hj
      · simpa using hj
      · cases hj) (by rw [HBl.out, HCs.out]; omega) (fun u hu => HX1.out u (List.mem_of_mem_drop hu))
    rw [e2] at hr
    refine ⟨_, hr, Lib.hid ?_⟩
    generalize hw4 : w3.setRow g _ = w4
    have h4 : w4.heap[g]? = some (.cells (cur.toList.take ((k + 1) * 10) ++ xs.drop (k * 10) ++ cur.toList.drop ((k + 1) * 10 + (xs.drop (k * 10)).length)).toArray 231 (0, 0)) := by rw [← hw4]; exact setRow_heap _ _ _ _ _ _ h3
    have hk4 : Kept (fun i => i = g) W w4 := by
      rw [← hw4]
      exact kept_row (F := fun i => i = g) (Kept.of_below hb3) (.inl rfl) _
    have hy4 : w4.heap[xb]? = some (.cells ys.toArray 231 (0, 0)) := (hk4.block _ (lt_of_block HYb.out) hne).trans HYb.out
    have hs4 : (cur.toList.take ((k + 1) * 10) ++ xs.drop (k * 10) ++ cur.toList.drop ((k + 1) * 10 + (xs.drop (k * 10)).length)).length = cap * 10 := by
      simp only [List.length_append, List.length_take, Array.length_toList, HBl.out, List.length_drop (l := cur.toList), HCs.out]
      omega
    have e3 : Nat.min 1 (n + 1 - k) = 1 := Nat.min_eq_left (by omega)
    have hr2 := run_copy_rowK (P := Try.prog) w4 10 207 207 3 231 g (k * 10) (n + 1 - k) (cap - k) ⟨xb, 0, none⟩ 1 1 _ 231 ys Try.underlying207 HSz.out h4 (by rw [HYl.out, e3]) (news_at hy4) (by rw [List.size_toArray, hs4, HYl.out]; omega) H1.out
    rw [e3] at hr2
    refine ⟨_, hr2, Lib.hid ⟨?_, .inr ⟨g, cap, _, rfl, hg, setRow_heap _ _ _ _ _ _ h4, hnc, hcm, ?_, ?_⟩⟩, Lib.hid (kept_row (F := fun i => i = g) hk4 (.inl rfl) _)⟩
    · rw [List.length_append, List.length_append, List.length_take, HXl.out, HYl.out, HBl.out]; omega
    · have := HYl.out
      simp only [List.size_toArray, List.length_append, List.length_take, List.length_drop, Array.length_toList] at *
      omega
    · simp only [List.toList_toArray]
      exact splice_room (n := n) (k := k) (s := 10) HYl.out (by omega) HXl.out (by rw [Array.length_toList, HCs.out]; omega) HT.out)
  have hkn : ¬ (k : Int) = (n : Int) := by omega
  have hkc : ¬ cap = k := by omega
  have hkc1 : ¬ cap = k + 1 := by omega
  have hz1 : ¬ (1 : Int) = 0 := by omega
  have TN1 : Hid (((k : Int) + 1).toNat = k + 1) := Lib.hid (by omega)
  have HW1 : Hid (wrap64 ((k : Int) + 1) = (k : Int) + 1) := Lib.hid (by unfold wrap64; omega)
  unfold maxLen at hcm
  have tn1 := TN1.out
  clear hcur hcs ht hx1 hy hyl h1 hI hZ0 hZ1 hZ2 hg hcl
  go_enter Try.func213, Try.ntmps213
  go_wp2_with (simp only [hov])
  try go_frame
  clear tn1 hov
  refine wp_region_calm 8 99 [0, 1, 2, 3, 4, 5, 6, 7] (by kernel_rfl) (by kernel_rfl) (by intro oz h; simp at h) (by intro oz h; simp at h) (by rfl) ?_
  simp only [List.take_succ_cons, List.take_zero]
  iterate 4
    apply wpCalm_want
    · rfl
    · exact bc_refl
    · exact ⟨_, Below.refl _ _⟩
    · intro w00 hC0 K hK
      go_big_quiet_op
      exact hK
  have hw1 := HW1.out
  have tn1 := TN1.out
  try simp only [hw1, tn1]
  apply wpCalm_want
  · rfl
  · exact bc_refl
  · exact ⟨_, Below.refl _ _⟩
  · intro w00 hC0 K hK
    go_big_quiet_op
    exact hK
  try simp only [hw1, tn1]
  iterate 3
    apply wpCalm_want
    · rfl
    · exact bc_refl
    · exact ⟨_, Below.refl _ _⟩
    · intro w00 hC0 K hK
      go_big_quiet_op
      exact hK
  refine wpCalm_nil ?_
  intro w3 hbq
  try simp only [List.drop_succ_cons, List.drop_zero]
  obtain ⟨w4, hr4, HN4⟩ := HCp1.out w3 hbq
  obtain ⟨w5, hr5, HO5, HK5⟩ := HN4.out
  have HR4 := Lib.hid hr4
  have HR5 := Lib.hid hr5
  clear hr4 hr5 hbq
  refine wpList_copy_runK w3 rfl (.tmp 73) (.tmp 76) 207 207 rfl _ _ rfl rfl HR4.out ?_
  go_wp2_with (refine wpList_copy_runK w4 rfl (.tmp 80) (.tmp 81) 207 207 rfl _ _ rfl rfl HR5.out ?_)
  go_ret
  exact ⟨_, rfl, HO5.out, HK5.out⟩

end Go.Proofs.Ytgbnjjgnihjfgaa
end

section
set_option linter.unusedVariables false
set_option linter.unusedSimpArgs false
namespace Go.Proofs.Ytgbnjjgnihjfgaa
open Go.RowKit Go.Sort Go.ChangeMaps Go.MapKept

theorem insP_any {W : World} {base : Nat} {v : Value} {n k : Nat} {xs : List Value} (h : W.ownsRow base 231 10 v n xs) (hb : base ≤ W.heap.size) (hn : n ≤ 40000) (hk : k ≤ n) (hx1 : ∀ u ∈ xs, u.oneCell' = true) {xb : Nat} {ys : List Value} (hy : W.heap[xb]? = some (.cells ys.toArray 231 (0, 0))) (hyl : ys.length = 10) (h1 : ∀ u ∈ ys, u.oneCell' = true) (hne : ∀ i, v.ownBlock = some i → i ≠ xb) :
    Calls Try.prog 213 #[v, .int .i64 (k : Int), .slice (some ⟨xb, 0, none⟩) 1 1] W fun e w' => ∃ v', e = .returned v' ∧ w'.ownsRow base 231 10 v' (n + 1) (xs.take (k * 10) ++ (ys ++ xs.drop (k * 10))) ∧ Kept (fun i => v.ownBlock = some i) W w' := by
  have hxl := h.1
  by_cases hkn : k = n
  · subst hkn
    rw [List.take_of_length_le (by omega), List.drop_eq_nil_of_le (by omega), List.append_nil]
    exact insP_end h hb hn hy hyl h1
  · rcases h.2 with ⟨rfl, hn0⟩ | ⟨g, cap, cur, rfl, hg, hcur, hnc, hcm, hcs, ht⟩
    · omega
    · by_cases hc : cap = n
      · subst hc
        have hcur2 : cur.toList = xs := by
          rw [← ht, List.take_of_length_le (by rw [Array.length_toList, hcs]; omega)]
        exact (insP_grow (base := base) (by omega) hb hn hcur hcur2 hxl hx1 hy hyl h1).mono fun e w' ⟨v', e1, e2, e3⟩ => ⟨v', e1, e2, Kept.of_below e3⟩
      · refine (insP_room (base := base) (by omega) hg hn (by omega) hcm hcur hcs ht hx1 hy hyl h1 (fun e => hne g rfl e.symm)).mono fun e w' ⟨v', e1, e2, e3⟩ => ⟨v', e1, e2, ?_⟩
        exact ⟨e3.os, e3.tape, e3.output, e3.size, fun i hi hf => e3.block i hi (fun e => hf (by rw [e]; rfl))⟩
set_option maxRecDepth 100000 in
set_option maxHeartbeats 8000000 in
theorem insertP_any {W : World} {base : Nat} {v : Value} {M : List PR} (hO : OwnP W base v M) (hb : base ≤ W.heap.size) (hl : M.length ≤ 40000) (x : PR) {g : FuncId} {fs cb : Array Value} {p : PR → Bool} (eg : ∀ args w, (callFunc g args).run Try.prog w = .ok (.enter g args) w) (hp : TellsP W g fs cb p) :
    Calls Try.prog 200 #[v, prV x, .func (.func g) fs cb] W fun e w' => ∃ v', e = .returned v' ∧ OwnP w' base v' (insB p x M) ∧ Kept (fun i => v.ownBlock = some i) W w' := by
  have HO := Lib.hid hO
  have HP := Lib.hid hp
  have HF : Hid (M.findIdx p ≤ M.length) := Lib.hid List.findIdx_le_length
  obtain ⟨⟨rt, rk, ⟨ra, rb, rc⟩⟩, ⟨st, sk, ⟨sa, sb, sc⟩⟩⟩ := x
  obtain ⟨a, n, cap, rfl⟩ := ownP_form2 hO
  have HN : Hid (n = M.length) := Lib.hid (by
    rcases hO.2 with ⟨e, h0⟩ | ⟨g, cap, cur, e, _⟩
    · simp at e
      omega
    · simp at e
      omega)
  obtain ⟨k, Hk⟩ : ∃ k, Hid (M.findIdx p = k) := ⟨_, Lib.hid rfl⟩
  have hkn : k ≤ n := by have := HF.out; have := Hk.out; have := HN.out; omega
  have hn4 : n ≤ 40000 := by have := HN.out; omega
  have HX : Hid ((W.alloc (.cells #[.int .i64 rt, .int .i64 rk, .int .i64 ra, .int .i64 rb, .int .i64 rc, .int .i64 st, .int .i64 sk, .int .i64 sa, .int .i64 sb, .int .i64 sc] 231)).heap[W.heap.size]? = some (.cells #[.int .i64 rt, .int .i64 rk, .int .i64 ra, .int .i64 rb, .int .i64 rc, .int .i64 st, .int .i64 sk, .int .i64 sa, .int .i64 sb, .int .i64 sc] 231 (0, 0))) := Lib.hid (heap_alloc_new W _)
  have HB0 : Hid (Below W.heap.size W (W.alloc (.cells #[.int .i64 rt, .int .i64 rk, .int .i64 ra, .int .i64 rb, .int .i64 rc, .int .i64 st, .int .i64 sk, .int .i64 sa, .int .i64 sb, .int .i64 sc] 231))) := Lib.hid (ba W _)
  clear hO hp hl
  go_enter Try.func200, Try.ntmps200
  go_upto_region 1 with fail
  generalize W.alloc (.cells #[.int .i64 rt, .int .i64 rk, .int .i64 ra, .int .i64 rb, .int .i64 rc, .int .i64 st, .int .i64 sk, .int .i64 sa, .int .i64 sb, .int .i64 sc] 231) = w0 at *
  have HI := Lib.hid (indexFuncP_any (HO.out.below HB0.out).prS eg (fun W' r hb' => HP.out W' r (bt HB0.out hb')))
  go_wp2_with fail
  (with_reducible refine HI.out.mono ?_)
  rintro e w1 ⟨rfl, hb1⟩
  have HB1 := Lib.hid (bt HB0.out hb1)
  have HO1 := Lib.hid (HO.out.below HB1.out)
  have HX1 := Lib.hid ((hb1.block _ (lt_of_block HX.out)).trans HX.out)
  clear hb1
  have hzb : base ≤ w1.heap.size := Nat.le_trans hb HB1.out.size
  have HR : Hid (∀ w2, Below w1.heap.size w1 w2 → ∀ xb, w1.heap.size ≤ xb → w2.heap[xb]? = some (.cells #[.int .i64 rt, .int .i64 rk, .int .i64 ra, .int .i64 rb, .int .i64 rc, .int .i64 st, .int .i64 sk, .int .i64 sa, .int .i64 sb, .int .i64 sc] 231 (0, 0)) → Calls Try.prog 213 #[.slice a n cap, .int .i64 (k : Int), .slice (some ⟨xb, 0, none⟩) 1 1] w2 fun e w' => ∃ v', e = .returned v' ∧ Hid (OwnP w' base v' (insB p (⟨rt, rk, ⟨ra, rb, rc⟩⟩, ⟨st, sk, ⟨sa, sb, sc⟩⟩) M)) ∧ Hid (Kept (fun i => (Value.slice a n cap).ownBlock = some i) W w')) := Lib.hid (fun w2 hb2 xb hxb hy => by
    have hO2 := HO1.out.below hb2
    have hlt : ∀ i, (Value.slice a n cap).ownBlock = some i → i ≠ xb := fun i hi e => by
      have := OwnP.own_lt HO1.out hi
      omega
    refine (insP_any (W := w2) (k := k) hO2 (Nat.le_trans hzb hb2.size) (by have := HN.out; omega) (by have := HN.out; omega) (flatP_one M) (ys := [.int .i64 rt, .int .i64 rk, .int .i64 ra, .int .i64 rb, .int .i64 rc, .int .i64 st, .int .i64 sk, .int .i64 sa, .int .i64 sb, .int .i64 sc]) hy rfl (by simp [Value.oneCell']) hlt).mono fun e w' ⟨v', e1, e2, e3⟩ => ⟨v', e1, Lib.hid ?_, Lib.hid ?_⟩
    · rw [insB_eq, Hk.out]
      unfold OwnP
      rw [List.length_append, List.length_cons, flatP_app, flatP_cons, ← flatP_take, ← flatP_drop, List.length_take, List.length_drop]
      rw [show min k M.length + (M.length - k + 1) = M.length + 1 by have := HN.out; omega]
      exact e2
    · exact (Kept.of_below (bt HB1.out hb2)).trans e3 (fun _ _ f => f))
  by_cases hlt : k < n
  · have HII : Hid (idxI p M = k) := Lib.hid (by unfold idxI; rw [if_pos (by have := Hk.out; have := HN.out; omega), Hk.out])
    rw [HII.out]
    have hk0 : ¬ (k : Int) < 0 := by omega
    have y0 : w1.cell? ⟨W.heap.size, 0, none⟩ = some (.int .i64 rt) := by simp [World.cell?, HX1.out]
    have y1 : w1.cell? ⟨W.heap.size, 1, none⟩ = some (.int .i64 rk) := by simp [World.cell?, HX1.out]
    have y2 : w1.cell? ⟨W.heap.size, 2, none⟩ = some (.int .i64 ra) := by simp [World.cell?, HX1.out]
    have y3 : w1.cell? ⟨W.heap.size, 3, none⟩ = some (.int .i64 rb) := by simp [World.cell?, HX1.out]
    have y4 : w1.cell? ⟨W.heap.size, 4, none⟩ = some (.int .i64 rc) := by simp [World.cell?, HX1.out]
    have y5 : w1.cell? ⟨W.heap.size, 5, none⟩ = some (.int .i64 st) := by simp [World.cell?, HX1.out]
    have y6 : w1.cell? ⟨W.heap.size, 6, none⟩ = some (.int .i64 sk) := by simp [World.cell?, HX1.out]
    have y7 : w1.cell? ⟨W.heap.size, 7, none⟩ = some (.int .i64 sa) := by simp [World.cell?, HX1.out]
    have y8 : w1.cell? ⟨W.heap.size, 8, none⟩ = some (.int .i64 sb) := by simp [World.cell?, HX1.out]
    have y9 : w1.cell? ⟨W.heap.size, 9, none⟩ = some (.int .i64 sc) := by simp [World.cell?, HX1.out]
    go_wp2_with fail
    refine (HR.out _ (ba w1 _) _ (Nat.le_refl _) (heap_alloc_new w1 _)).mono ?_
    rintro e w3 ⟨v', rfl, HOn, HKn⟩
    go_wp2_with fail
    go_ret
    exact ⟨v', rfl, HOn.out, HKn.out⟩
  · obtain rfl : k = n := by omega
    have HII : Hid (idxI p M = -1) := Lib.hid (by unfold idxI; rw [if_neg (by have := Hk.out; have := HN.out; omega)])
    rw [HII.out]
    have y0 : w1.cell? ⟨W.heap.size, 0, none⟩ = some (.int .i64 rt) := by simp [World.cell?, HX1.out]
    have y1 : w1.cell? ⟨W.heap.size, 1, none⟩ = some (.int .i64 rk) := by simp [World.cell?, HX1.out]
    have y2 : w1.cell? ⟨W.heap.size, 2, none⟩ = some (.int .i64 ra) := by simp [World.cell?, HX1.out]
    have y3 : w1.cell? ⟨W.heap.size, 3, none⟩ = some (.int .i64 rb) := by simp [World.cell?, HX1.out]
    have y4 : w1.cell? ⟨W.heap.size, 4, none⟩ = some (.int .i64 rc) := by simp [World.cell?, HX1.out]
    have y5 : w1.cell? ⟨W.heap.size, 5, none⟩ = some (.int .i64 st) := by simp [World.cell?, HX1.out]
    have y6 : w1.cell? ⟨W.heap.size, 6, none⟩ = some (.int .i64 sk) := by simp [World.cell?, HX1.out]
    have y7 : w1.cell? ⟨W.heap.size, 7, none⟩ = some (.int .i64 sa) := by simp [World.cell?, HX1.out]
    have y8 : w1.cell? ⟨W.heap.size, 8, none⟩ = some (.int .i64 sb) := by simp [World.cell?, HX1.out]
    have y9 : w1.cell? ⟨W.heap.size, 9, none⟩ = some (.int .i64 sc) := by simp [World.cell?, HX1.out]
    go_wp2_with fail
    refine (HR.out _ (ba w1 _) _ (Nat.le_refl _) (heap_alloc_new w1 _)).mono ?_
    rintro e w3 ⟨v', rfl, HOn, HKn⟩
    go_wp2_with fail
    go_ret
    exact ⟨v', rfl, HOn.out, HKn.out⟩
end Go.Proofs.Ytgbnjjgnihjfgaa
end
