/- QA, QB, QC, QD -/
import Derived.Test.YtgbnjjgnihjfgaaProg
import Derived.WalkKit
import Derived.Below
import Derived.Lib.Hide
import Derived.Laws.StructEq
import Derived.Lib.QuietBelow
import Derived.Deep.RegionHeld3
import Derived.Deep.RegionWith
import Derived.IntWalk
import Derived.BigQuiet
import Derived.Maps.RangeWalk
import Derived.DeepKeys4
import Derived.OneCell
import Derived.StillTail
import Derived.Deep.CutRange
import Derived.Outline
import Derived.WalkSpells
import Derived.Carry
import Derived.Shelf.SlGeneric
import Derived.Shelf.SlSortCmp.WholeK
import Derived.Shelf.SlicesG.Cmp
import Derived.Ground.SlsfProg
import Derived.Ground.SlgcProg
import Derived.Sort.OwnSorted
import Derived.Deep.AppendLies
import Derived.Shelf.SlSortCmp.NoneTotal
import Derived.Deep.QuietTactic
import Derived.Laws.AppendOwnNone
import Derived.Laws.EntriesVeiled
import Derived.Lib.SliceRun
import Derived.Deep.Cut
import Derived.Laws.ResultCell
import Derived.ArgAppend
import Derived.Laws.Rows
import Derived.Great.BuildSlice
import Derived.Great.Frames
import Derived.Deep.DeepCutAuto
import Derived.Lib.AppendZeros
import Derived.Lib.Overlaps
import Derived.Laws.CopyRow
import Derived.Laws.AppendOwn
import Derived.Laws.Externs
import Derived.Deep.RegionLawGrows
import Derived.Test.YtgbnjjgnihjfgaaWFAI
import Derived.Test.YtgbnjjgnihjfgaaWFAG
import Derived.Test.YtgbnjjgnihjfgaaWFAH
import Derived.Test.YtgbnjjgnihjfgaaWFAE
import Derived.Test.YtgbnjjgnihjfgaaWFAJ
import Derived.Test.YtgbnjjgnihjfgaaWFAC
import Derived.Test.YtgbnjjgnihjfgaaWFAD
import Derived.Test.YtgbnjjgnihjfgaaWFAB
import Derived.Test.YtgbnjjgnihjfgaaWFAF
import Derived.Test.YtgbnjjgnihjfgaaWFAA
import Derived.Test.YtgbnjjgnihjfgaaWFAL
section
set_option linter.unusedVariables false
set_option linter.unusedSimpArgs false
namespace Go.Proofs.Ytgbnjjgnihjfgaa
open Go.RowKit Go.Sort Go.ChangeMaps Go.MapKept

set_option maxRecDepth 100000 in
set_option maxHeartbeats 4000000 in
theorem pairPartner_any {q : MQ} {c : MCh} {eb : Nat} {w : World} (hE : EffAt w eb q c) (r : PR) : Calls Try.prog 197 #[prV r, ptr eb] w fun e w' => e = .returned (.bool (decide (r.2.k = msA q c))) ∧ Below w.heap.size w w' := by
  obtain ⟨⟨rt, rk, ⟨ra, rb, rc⟩⟩, ⟨st, sk, ⟨sa, sb, sc⟩⟩⟩ := r
  have HA : Hid ((effC q c)[32]? = some (.int .i64 (msA q c))) := Lib.hid rfl
  have HE := Lib.hid hE
  unfold EffAt at HE
  clear hE
  generalize effC q c = E at *
  generalize msA q c = ck at *
  go_enter Try.func197, Try.ntmps197
  go_upto_region 1 with fail
  have HE0 := Lib.hid (((ba w (.cells #[.int .i64 rt, .int .i64 rk, .int .i64 ra, .int .i64 rb, .int .i64 rc, .int .i64 st, .int .i64 sk, .int .i64 sa, .int .i64 sb, .int .i64 sc] 231)).block _ (lt_of_block HE.out)).trans HE.out)
  have HR : Hid ((w.alloc (.cells #[.int .i64 rt, .int .i64 rk, .int .i64 ra, .int .i64 rb, .int .i64 rc, .int .i64 st, .int .i64 sk, .int .i64 sa, .int .i64 sb, .int .i64 sc] 231)).heap[w.heap.size]? = some (.cells #[.int .i64 rt, .int .i64 rk, .int .i64 ra, .int .i64 rb, .int .i64 rc, .int .i64 st, .int .i64 sk, .int .i64 sa, .int .i64 sb, .int .i64 sc] 231 (0, 0))) := Lib.hid (heap_alloc_new w _)
  have HB : Hid (Below w.heap.size w (w.alloc (.cells #[.int .i64 rt, .int .i64 rk, .int .i64 ra, .int .i64 rb, .int .i64 rc, .int .i64 st, .int .i64 sk, .int .i64 sa, .int .i64 sb, .int .i64 sc] 231))) := Lib.hid (ba w _)
  generalize w.alloc (.cells #[.int .i64 rt, .int .i64 rk, .int .i64 ra, .int .i64 rb, .int .i64 rc, .int .i64 st, .int .i64 sk, .int .i64 sa, .int .i64 sb, .int .i64 sc] 231) = w0 at *
  have x1 : w0.cell? ⟨w.heap.size, 6, none⟩ = some (.int .i64 sk) := by simp [World.cell?, HR.out]
  have e8 : w0.cell? ⟨eb, 32, none⟩ = some (.int .i64 ck) := by simp [World.cell?, HE0.out, HA.out]
  by_cases h2 : sk = ck
  · have d2 : (sk == ck) = true := by simp [h2]
    have HF : Hid (Ending.returned (.bool true) = .returned (.bool (decide (sk = ck)))) := Lib.hid (by rw [decide_eq_true h2])
    clear h2
    go_wp2_with fail
    go_ret
    exact ⟨HF.out, HB.out⟩
  · have d2 : (sk == ck) = false := by simp [h2]
    have HF : Hid (Ending.returned (.bool false) = .returned (.bool (decide (sk = ck)))) := Lib.hid (by rw [decide_eq_false h2])
    clear h2
    go_wp2_with fail
    go_ret
    exact ⟨HF.out, HB.out⟩
set_option maxRecDepth 100000 in
set_option maxHeartbeats 4000000 in
theorem pairLeft_any {q : MQ} {c : MCh} {eb : Nat} {w : World} (hE : EffAt w eb q c) (r : PR) : Calls Try.prog 199 #[prV r, ptr eb] w fun e w' => e = .returned (.bool (decide (r.1.k = c.k))) ∧ Below w.heap.size w w' := by
  obtain ⟨⟨rt, rk, ⟨ra, rb, rc⟩⟩, ⟨st, sk, ⟨sa, sb, sc⟩⟩⟩ := r
  have HA : Hid ((effC q c)[8]? = some (.int .i64 (c.k))) := Lib.hid rfl
  have HE := Lib.hid hE
  unfold EffAt at HE
  clear hE
  generalize effC q c = E at *
  generalize c.k = ck at *
  go_enter Try.func199, Try.ntmps199
  go_upto_region 1 with fail
  have HE0 := Lib.hid (((ba w (.cells #[.int .i64 rt, .int .i64 rk, .int .i64 ra, .int .i64 rb, .int .i64 rc, .int .i64 st, .int .i64 sk, .int .i64 sa, .int .i64 sb, .int .i64 sc] 231)).block _ (lt_of_block HE.out)).trans HE.out)
  have HR : Hid ((w.alloc (.cells #[.int .i64 rt, .int .i64 rk, .int .i64 ra, .int .i64 rb, .int .i64 rc, .int .i64 st, .int .i64 sk, .int .i64 sa, .int .i64 sb, .int .i64 sc] 231)).heap[w.heap.size]? = some (.cells #[.int .i64 rt, .int .i64 rk, .int .i64 ra, .int .i64 rb, .int .i64 rc, .int .i64 st, .int .i64 sk, .int .i64 sa, .int .i64 sb, .int .i64 sc] 231 (0, 0))) := Lib.hid (heap_alloc_new w _)
  have HB : Hid (Below w.heap.size w (w.alloc (.cells #[.int .i64 rt, .int .i64 rk, .int .i64 ra, .int .i64 rb, .int .i64 rc, .int .i64 st, .int .i64 sk, .int .i64 sa, .int .i64 sb, .int .i64 sc] 231))) := Lib.hid (ba w _)
  generalize w.alloc (.cells #[.int .i64 rt, .int .i64 rk, .int .i64 ra, .int .i64 rb, .int .i64 rc, .int .i64 st, .int .i64 sk, .int .i64 sa, .int .i64 sb, .int .i64 sc] 231) = w0 at *
  have x1 : w0.cell? ⟨w.heap.size, 1, none⟩ = some (.int .i64 rk) := by simp [World.cell?, HR.out]
  have e8 : w0.cell? ⟨eb, 8, none⟩ = some (.int .i64 ck) := by simp [World.cell?, HE0.out, HA.out]
  by_cases h2 : rk = ck
  · have d2 : (rk == ck) = true := by simp [h2]
    have HF : Hid (Ending.returned (.bool true) = .returned (.bool (decide (rk = ck)))) := Lib.hid (by rw [decide_eq_true h2])
    clear h2
    go_wp2_with fail
    go_ret
    exact ⟨HF.out, HB.out⟩
  · have d2 : (rk == ck) = false := by simp [h2]
    have HF : Hid (Ending.returned (.bool false) = .returned (.bool (decide (rk = ck)))) := Lib.hid (by rw [decide_eq_false h2])
    clear h2
    go_wp2_with fail
    go_ret
    exact ⟨HF.out, HB.out⟩
set_option maxRecDepth 100000 in
set_option maxHeartbeats 4000000 in
theorem pairRight_any {q : MQ} {c : MCh} {eb : Nat} {w : World} (hE : EffAt w eb q c) (r : PR) : Calls Try.prog 202 #[prV r, ptr eb] w fun e w' => e = .returned (.bool (decide (r.2.k = c.k))) ∧ Below w.heap.size w w' := by
  obtain ⟨⟨rt, rk, ⟨ra, rb, rc⟩⟩, ⟨st, sk, ⟨sa, sb, sc⟩⟩⟩ := r
  have HA : Hid ((effC q c)[8]? = some (.int .i64 (c.k))) := Lib.hid rfl
  have HE := Lib.hid hE
  unfold EffAt at HE
  clear hE
  generalize effC q c = E at *
  generalize c.k = ck at *
  go_enter Try.func202, Try.ntmps202
  go_upto_region 1 with fail
  have HE0 := Lib.hid (((ba w (.cells #[.int .i64 rt, .int .i64 rk, .int .i64 ra, .int .i64 rb, .int .i64 rc, .int .i64 st, .int .i64 sk, .int .i64 sa, .int .i64 sb, .int .i64 sc] 231)).block _ (lt_of_block HE.out)).trans HE.out)
  have HR : Hid ((w.alloc (.cells #[.int .i64 rt, .int .i64 rk, .int .i64 ra, .int .i64 rb, .int .i64 rc, .int .i64 st, .int .i64 sk, .int .i64 sa, .int .i64 sb, .int .i64 sc] 231)).heap[w.heap.size]? = some (.cells #[.int .i64 rt, .int .i64 rk, .int .i64 ra, .int .i64 rb, .int .i64 rc, .int .i64 st, .int .i64 sk, .int .i64 sa, .int .i64 sb, .int .i64 sc] 231 (0, 0))) := Lib.hid (heap_alloc_new w _)
  have HB : Hid (Below w.heap.size w (w.alloc (.cells #[.int .i64 rt, .int .i64 rk, .int .i64 ra, .int .i64 rb, .int .i64 rc, .int .i64 st, .int .i64 sk, .int .i64 sa, .int .i64 sb, .int .i64 sc] 231))) := Lib.hid (ba w _)
  generalize w.alloc (.cells #[.int .i64 rt, .int .i64 rk, .int .i64 ra, .int .i64 rb, .int .i64 rc, .int .i64 st, .int .i64 sk, .int .i64 sa, .int .i64 sb, .int .i64 sc] 231) = w0 at *
  have x1 : w0.cell? ⟨w.heap.size, 6, none⟩ = some (.int .i64 sk) := by simp [World.cell?, HR.out]
  have e8 : w0.cell? ⟨eb, 8, none⟩ = some (.int .i64 ck) := by simp [World.cell?, HE0.out, HA.out]
  by_cases h2 : sk = ck
  · have d2 : (sk == ck) = true := by simp [h2]
    have HF : Hid (Ending.returned (.bool true) = .returned (.bool (decide (sk = ck)))) := Lib.hid (by rw [decide_eq_true h2])
    clear h2
    go_wp2_with fail
    go_ret
    exact ⟨HF.out, HB.out⟩
  · have d2 : (sk == ck) = false := by simp [h2]
    have HF : Hid (Ending.returned (.bool false) = .returned (.bool (decide (sk = ck)))) := Lib.hid (by rw [decide_eq_false h2])
    clear h2
    go_wp2_with fail
    go_ret
    exact ⟨HF.out, HB.out⟩
set_option maxRecDepth 100000 in
set_option maxHeartbeats 4000000 in
theorem pairPrec_any {q : MQ} {c : MCh} {eb : Nat} {w : World} (hE : EffAt w eb q c) (hq : I64 q.column) (r : PR) : Calls Try.prog 201 #[prV r, ptr eb] w fun e w' => e = .returned (.bool (precQ q (aftR c) r.1)) ∧ Below w.heap.size w w' := by
  obtain ⟨⟨rt, rk, ⟨ra, rb, rc⟩⟩, ⟨st, sk, ⟨sa, sb, sc⟩⟩⟩ := r
  have HE := Lib.hid hE
  have HS : Hid ((effC q c).size = 33) := Lib.hid rfl
  have HC := Lib.hid (fun w => effPrec_any q c ⟨rt, rk, ⟨ra, rb, rc⟩⟩ hq w)
  unfold EffAt at HE
  unfold rowV at HC
  simp only at HC ⊢
  clear hE hq
  generalize precQ q (aftR c) _ = bb at *
  generalize effC q c = E at *
  go_enter Try.func201, Try.ntmps201
  go_upto_region 1 with fail
  have HE0 := Lib.hid (((ba w (.cells #[.int .i64 rt, .int .i64 rk, .int .i64 ra, .int .i64 rb, .int .i64 rc, .int .i64 st, .int .i64 sk, .int .i64 sa, .int .i64 sb, .int .i64 sc] 231)).block _ (lt_of_block HE.out)).trans HE.out)
  have HR : Hid ((w.alloc (.cells #[.int .i64 rt, .int .i64 rk, .int .i64 ra, .int .i64 rb, .int .i64 rc, .int .i64 st, .int .i64 sk, .int .i64 sa, .int .i64 sb, .int .i64 sc] 231)).heap[w.heap.size]? = some (.cells #[.int .i64 rt, .int .i64 rk, .int .i64 ra, .int .i64 rb, .int .i64 rc, .int .i64 st, .int .i64 sk, .int .i64 sa, .int .i64 sb, .int .i64 sc] 231 (0, 0))) := Lib.hid (heap_alloc_new w _)
  have HB : Hid (Below w.heap.size w (w.alloc (.cells #[.int .i64 rt, .int .i64 rk, .int .i64 ra, .int .i64 rb, .int .i64 rc, .int .i64 st, .int .i64 sk, .int .i64 sa, .int .i64 sb, .int .i64 sc] 231))) := Lib.hid (ba w _)
  generalize w.alloc (.cells #[.int .i64 rt, .int .i64 rk, .int .i64 ra, .int .i64 rb, .int .i64 rc, .int .i64 st, .int .i64 sk, .int .i64 sa, .int .i64 sb, .int .i64 sc] 231) = w0 at *
  have x0 : w0.cell? ⟨w.heap.size, 0, none⟩ = some (.int .i64 rt) := by simp [World.cell?, HR.out]
  have x1 : w0.cell? ⟨w.heap.size, 1, none⟩ = some (.int .i64 rk) := by simp [World.cell?, HR.out]
  have x2 : w0.cell? ⟨w.heap.size, 2, none⟩ = some (.int .i64 ra) := by simp [World.cell?, HR.out]
  have x3 : w0.cell? ⟨w.heap.size, 3, none⟩ = some (.int .i64 rb) := by simp [World.cell?, HR.out]
  have x4 : w0.cell? ⟨w.heap.size, 4, none⟩ = some (.int .i64 rc) := by simp [World.cell?, HR.out]
  go_wp2_with (refine wpList_load_row rfl 132 (.tmp 1) rfl eb rfl 132 _ _ _ HE0.out Try.underlying132 rfl (by rw [HS.out]; kernel_rfl) ?_)
  (with_reducible refine (HC.out _).mono ?_)
  rintro e w1 ⟨rfl, hb⟩
  have HB1 := Lib.hid (bt HB.out hb)
  clear hb x0 x1 x2 x3 x4
  go_wp2_with fail
  go_ret
  exact ⟨rfl, HB1.out⟩
end Go.Proofs.Ytgbnjjgnihjfgaa
end

section
set_option linter.unusedVariables false
set_option linter.unusedSimpArgs false
namespace Go.Proofs.Ytgbnjjgnihjfgaa
open Go.RowKit Go.Sort Go.ChangeMaps Go.MapKept

theorem prs_snoc2 : ∀ (l : List MRow) (a b : MRow), l.length % 2 = 0 → prs (l ++ [a, b]) = prs l ++ [(a, b)]
  | [], a, b, _ => rfl
  | [x], a, b, h => by simp at h
  | x :: y :: l, a, b, h => by
    have := prs_snoc2 l a b (by simp at h; omega)
    simp [prs, this]
theorem prs_snoc1 : ∀ (l : List MRow) (a : MRow), l.length % 2 = 0 → prs (l ++ [a]) = prs l
  | [], a, _ => rfl
  | [x], a, h => by simp at h
  | x :: y :: l, a, h => by
    have := prs_snoc1 l a (by simp at h; omega)
    simp [prs, this]
theorem prs_len : ∀ l : List MRow, (prs l).length ≤ l.length
  | [] => by simp [prs]
  | [x] => by simp [prs]
  | x :: y :: l => by
    have := prs_len l
    simp [prs]
    omega
set_option maxRecDepth 100000 in
set_option maxHeartbeats 8000000 in
theorem pairsOf_any {W : World} {va : Value} {L : List MRow} (hR : RowS W va L) (hl : L.length ≤ 40000) : Calls Try.prog 173 #[va] W fun e w' => ∃ v, e = .returned v ∧ OwnP w' W.heap.size v (prs L) ∧ Below W.heap.size W w' := by
  obtain ⟨i0, hI, hZ0, hZ1, hZ2⟩ := info_parts Try.info231
  have HR := Lib.hid hR
  obtain ⟨a, n, cap, rfl, hn, hc1, hc2, _⟩ := hR
  have HN := Lib.hid hn
  have hn4 : n ≤ 40000 := by omega
  clear hn hl
  go_enter Try.func173, Try.ntmps173
  go_wp2_with fail
  go_loopw [3, 4] (fun v i wr => ∃ m : Nat, m % 2 = 0 ∧ m ≤ n ∧ i = .int .i64 ((m : Int) + 1) ∧ Hid (OwnP wr W.heap.size v (prs (L.take m))) ∧ Hid (Below W.heap.size W wr)) (fun v i _ => n + 2 - (intOf i).toNat)
  case atStart => exact ⟨0, rfl, by omega, rfl, Lib.hid (OwnP.nil _ _), Lib.hid (Below.refl _ _)⟩
  case round =>
    obtain ⟨m, hm2, hmn, rfl, HO, HB⟩ := hrel
    obtain ⟨v, hvv⟩ : ∃ v, v = u3 := ⟨_, rfl⟩
    subst hvv
    have HM2 : Hid (m % 2 = 0) := Lib.hid hm2
    by_cases hlt : (m : Int) + 1 < (n : Int)
    · obtain ⟨_, n', _, e1, -, -, -, hcell⟩ := HR.out.below HB.out
      simp at e1
      obtain ⟨rfl, hnn, rfl⟩ := e1
      obtain ⟨vb, vo, rfl, hvb, hcs⟩ := hcell (by omega)
      have H1 := hcs m (by omega)
      have H2 := hcs (m + 1) (by omega)
      clear hcs hcell hnn
      obtain ⟨⟨rt, rk, ⟨ra, rb, rc⟩⟩, Hr⟩ : ∃ r, Hid (L.getD m rowZ = r) := ⟨_, Lib.hid rfl⟩
      obtain ⟨⟨st, sk, ⟨sa, sb, sc⟩⟩, Hs⟩ : ∃ r, Hid (L.getD (m + 1) rowZ = r) := ⟨_, Lib.hid rfl⟩
      rw [Hr.out] at H1
      rw [Hs.out] at H2
      have HC1 := Lib.hid (fun w (h : Below wr.heap.size wr w) => (H1.below hvb h).cells)
      have HC2 := Lib.hid (fun w (h : Below wr.heap.size wr w) => (H2.below hvb h).cells)
      simp only at HC1 HC2
      clear H1 H2
      have HTk : Hid (prs (L.take (m + 2)) = prs (L.take m) ++ [(⟨rt, rk, ⟨ra, rb, rc⟩⟩, ⟨st, sk, ⟨sa, sb, sc⟩⟩)]) := Lib.hid (by
        have hlL : n = L.length := HN.out
        rw [take_snoc' (d := rowZ) (i := m + 1) (by omega), Hs.out, take_snoc' (d := rowZ) (i := m) (by omega), Hr.out, List.append_assoc]
        exact prs_snoc2 _ _ _ (by rw [List.length_take]; have := HM2.out; omega))
      have hlen : (prs (L.take m)).length ≤ 40000 := by
        have h1 := prs_len (L.take m)
        have h2 := List.length_take_le m L
        omega
      clear hm2
      go_upto_region 5 with fail
      have g0 : ∀ wz, BW wr wz → ∀ d' os, (grow (redrawn wz d') os).cell? ⟨vb, vo + m * 5, none⟩ = some (.int .i64 rt) := fun wz h d' os => (HC1.out _ (bt h (below_regrown wz d' os))).1
      have g1 : ∀ wz, BW wr wz → ∀ d' os, (grow (redrawn wz d') os).cell? ⟨vb, vo + m * 5 + 1, none⟩ = some (.int .i64 rk) := fun wz h d' os => (HC1.out _ (bt h (below_regrown wz d' os))).2.1
      have g2 : ∀ wz, BW wr wz → ∀ d' os, (grow (redrawn wz d') os).cell? ⟨vb, vo + m * 5 + 2, none⟩ = some (.int .i64 ra) := fun wz h d' os => (HC1.out _ (bt h (below_regrown wz d' os))).2.2.1
      have g3 : ∀ wz, BW wr wz → ∀ d' os, (grow (redrawn wz d') os).cell? ⟨vb, vo + m * 5 + 3, none⟩ = some (.int .i64 rb) := fun wz h d' os => (HC1.out _ (bt h (below_regrown wz d' os))).2.2.2.1
      have g4 : ∀ wz, BW wr wz → ∀ d' os, (grow (redrawn wz d') os).cell? ⟨vb, vo + m * 5 + 4, none⟩ = some (.int .i64 rc) := fun wz h d' os => (HC1.out _ (bt h (below_regrown wz d' os))).2.2.2.2
      have k0 : ∀ wz, BW wr wz → ∀ d' os, (grow (redrawn wz d') os).cell? ⟨vb, vo + (m + 1) * 5, none⟩ = some (.int .i64 st) := fun wz h d' os => (HC2.out _ (bt h (below_regrown wz d' os))).1
      have k1 : ∀ wz, BW wr wz → ∀ d' os, (grow (redrawn wz d') os).cell? ⟨vb, vo + (m + 1) * 5 + 1, none⟩ = some (.int .i64 sk) := fun wz h d' os => (HC2.out _ (bt h (below_regrown wz d' os))).2.1
      have k2 : ∀ wz, BW wr wz → ∀ d' os, (grow (redrawn wz d') os).cell? ⟨vb, vo + (m + 1) * 5 + 2, none⟩ = some (.int .i64 sa) := fun wz h d' os => (HC2.out _ (bt h (below_regrown wz d' os))).2.2.1
      have k3 : ∀ wz, BW wr wz → ∀ d' os, (grow (redrawn wz d') os).cell? ⟨vb, vo + (m + 1) * 5 + 3, none⟩ = some (.int .i64 sb) := fun wz h d' os => (HC2.out _ (bt h (below_regrown wz d' os))).2.2.2.1
      have k4 : ∀ wz, BW wr wz → ∀ d' os, (grow (redrawn wz d') os).cell? ⟨vb, vo + (m + 1) * 5 + 4, none⟩ = some (.int .i64 sc) := fun wz h d' os => (HC2.out _ (bt h (below_regrown wz d' os))).2.2.2.2
      have hw1 : wrap64 ((m : Int) + 1 - 1) = m := by unfold wrap64; omega
      have tn1 : ((m : Int) + 1).toNat = m + 1 := by omega
      have hb1 : (0 : Int) ≤ (m : Int) + 1 := by omega
      refine wp_region_calm 11 0 [0, 1, 2, 3, 4, 5, 6, 7, 8, 9, 10] (by kernel_rfl) (by kernel_rfl) (by rintro _ ⟨rfl⟩; exact worldless_move _ rfl) (by rintro _ ⟨rfl⟩ _ _ _ _ h; exact h) (by rfl) ?_
      simp only [List.take_succ_cons, List.take_zero]
      iterate 4
        apply wpCalm_want
        · rfl
        · exact bc_refl
        · exact ⟨_, Below.refl _ _⟩
        · intro w00 hC0 K hK
          go_big_quiet_op
          exact hK
      try simp only [hw1]
      iterate 7
        apply wpCalm_want
        · rfl
        · exact bc_refl
        · exact ⟨_, Below.refl _ _⟩
        · intro w00 hC0 K hK
          go_big_quiet_op
          exact hK
      refine wpCalm_nil ?_
      intro w2 hbq
      try simp only [List.drop_succ_cons, List.drop_zero]
      clear g0 g1 g2 g3 g4 k0 k1 k2 k3 k4 hw1
      have HO2 : Hid (w2.ownsRow W.heap.size 231 10 v (prs (L.take m)).length (flatP (prs (L.take m)))) := Lib.hid (HO.out.below hbq)
      have HB2 := Lib.hid (bt HB.out hbq)
      clear hbq
      have hzw : W.heap.size ≤ w2.heap.size := HB2.out.size
      go_wp2_with (at_builtin; go_loud (refine wpList_append_own _ rfl _ _ 207 rfl W.heap.size 231 i0 (.agg #[.int .i64 0, .int .i64 0, .int .i64 0, .int .i64 0, .int .i64 0, .int .i64 0, .int .i64 0, .int .i64 0, .int .i64 0, .int .i64 0]) 10 80 Try.underlying207 hI hZ0 hZ1 hZ2 rfl (by decide) _ _ _ rfl (HO2.out.alloc _) ⟨w2.heap.size, 0, none⟩ 1 1 [.int .i64 rt, .int .i64 rk, .int .i64 ra, .int .i64 rb, .int .i64 rc, .int .i64 st, .int .i64 sk, .int .i64 sa, .int .i64 sb, .int .i64 sc] rfl rfl (World.news_of_block (cs := #[.int .i64 rt, .int .i64 rk, .int .i64 ra, .int .i64 rb, .int .i64 rc, .int .i64 st, .int .i64 sk, .int .i64 sa, .int .i64 sb, .int .i64 sc]) (t := 231) (fr := (0, 0)) (heap_alloc_new w2 _)) (by simp [Value.oneCell']) (by unfold maxLen; omega) (by omega) (by simp; omega) ?_); intro v' w3 hown' hgrow _)
      have HOn : Hid (OwnP w3 W.heap.size v' (prs (L.take (m + 2)))) := Lib.hid (by
        rw [HTk.out]
        unfold OwnP
        rw [List.length_append, flatP_app]
        exact hown')
      have hge : ∀ k, v.ownBlock = some k → W.heap.size ≤ k := fun k e => OwnP.own_ge HO.out e
      have hKg : Kept (fun k => v.ownBlock = some k) w2 w3 := (Kept.of_below (F := fun k => v.ownBlock = some k) (ba w2 _)).trans (kept_grown hgrow) (fun _ _ f => f)
      have HBn : Hid (Below W.heap.size W w3) := Lib.hid (((Kept.of_below (F := fun k => v.ownBlock = some k) HB2.out).trans hKg (fun _ _ f => f)).below (Nat.le_refl _) (fun k e => hge _ e))
      clear hown' hgrow hKg hge
      go_wp2_with fail
      exact ⟨⟨m + 2, by have := HM2.out; omega, by omega, by go_num, HOn, HBn⟩, by simp [intOf]; omega⟩
    · have HOe : Hid (OwnP wr W.heap.size v (prs L)) := Lib.hid (by
        have h := HO.out
        have hlL : n = L.length := HN.out
        have e : prs (L.take m) = prs L := by
          rcases Nat.lt_or_ge m n with h1 | h1
          · have e2 : L = L.take m ++ [L.getD m rowZ] := by
              rw [← take_snoc' (d := rowZ) (by omega), List.take_of_length_le (by omega)]
            conv => rhs; rw [e2]
            exact (prs_snoc1 _ _ (by rw [List.length_take]; have := HM2.out; omega)).symm
          · rw [List.take_of_length_le (by omega)]
        rw [e] at h
        exact h)
      clear hm2
      go_wp2_with fail
      go_ret
      exact ⟨v, rfl, HOe.out, HB.out⟩

end Go.Proofs.Ytgbnjjgnihjfgaa
end

section
set_option linter.unusedVariables false
set_option linter.unusedSimpArgs false
namespace Go.Proofs.Ytgbnjjgnihjfgaa
open Go.RowKit Go.Sort Go.ChangeMaps Go.MapKept

theorem unprs_app (A B : List PR) : unprs (A ++ B) = unprs A ++ unprs B := by simp [unprs]
theorem unprs_len (A : List PR) : (unprs A).length = 2 * A.length := by
  induction A with
  | nil => rfl
  | cons p A ih =>
    have : unprs (p :: A) = p.1 :: p.2 :: unprs A := rfl
    rw [this]
    simp only [List.length_cons, ih]
    omega
set_option maxRecDepth 100000 in
set_option maxHeartbeats 8000000 in
theorem rowsOf_any {W : World} {va : Value} {L : List PR} (hR : PrS W va L) (hl : L.length ≤ 40000) : Calls Try.prog 174 #[va] W fun e w' => ∃ v, e = .returned v ∧ OwnR w' W.heap.size v (unprs L) ∧ Below W.heap.size W w' := by
  obtain ⟨i0, hI, hZ0, hZ1, hZ2⟩ := info_parts Try.info33
  have HR := Lib.hid hR
  obtain ⟨a, n, cap, rfl, hn, hc1, hc2, _⟩ := hR
  have HN := Lib.hid hn
  have hn2 : n ≤ 9223372036854775807 := by omega
  have HLl : Hid (L.length ≤ 40000) := Lib.hid hl
  clear hn hl
  go_enter Try.func174, Try.ntmps174
  go_wp2_with fail
  go_loopw [3, 8] (fun v i wr => ∃ k : Nat, k ≤ n ∧ i = .int .i64 k ∧ Hid (OwnR wr W.heap.size v (unprs (L.take k))) ∧ Hid (Below W.heap.size W wr)) (fun v i _ => n - (intOf i).toNat)
  case atStart => exact ⟨0, by omega, rfl, Lib.hid (OwnR.nil _ _), Lib.hid (Below.refl _ _)⟩
  case round =>
    obtain ⟨k, hk, rfl, HO, HB⟩ := hrel
    obtain ⟨v, hvv⟩ : ∃ v, v = u3 := ⟨_, rfl⟩
    subst hvv
    by_cases hlt : k < n
    · obtain ⟨_, n', _, e1, -, -, -, hcell⟩ := HR.out.below HB.out
      simp at e1
      obtain ⟨rfl, hnn, rfl⟩ := e1
      obtain ⟨vb, vo, rfl, hvb, hcs⟩ := hcell (by omega)
      have HRm := hcs k (by omega)
      clear hcs hcell hnn
      obtain ⟨⟨⟨rt, rk, ⟨ra, rb, rc⟩⟩, ⟨st, sk, ⟨sa, sb, sc⟩⟩⟩, Hr⟩ : ∃ r, Hid (L.getD k prZ = r) := ⟨_, Lib.hid rfl⟩
      rw [Hr.out] at HRm
      obtain ⟨y0, y1, y2, y3, y4, y5, y6, y7, y8, y9⟩ := HRm.cells
      clear HRm
      have HTk : Hid (unprs (L.take (k + 1)) = unprs (L.take k) ++ [⟨rt, rk, ⟨ra, rb, rc⟩⟩, ⟨st, sk, ⟨sa, sb, sc⟩⟩]) := Lib.hid (by rw [take_snoc' (d := prZ) (by have := HN.out; omega), Hr.out, unprs_app]; rfl)
      have hlen : (unprs (L.take k)).length ≤ 80000 := by
        rw [unprs_len]
        have h2 := List.length_take_le k L
        have h3 := HLl.out
        have h4 := HN.out
        omega
      go_upto_region 5 with fail
      generalize hw1 : wr.alloc (.cells #[.int .i64 rt, .int .i64 rk, .int .i64 ra, .int .i64 rb, .int .i64 rc, .int .i64 st, .int .i64 sk, .int .i64 sa, .int .i64 sb, .int .i64 sc] 231) = w1
      have HX : Hid (w1.heap[wr.heap.size]? = some (.cells #[.int .i64 rt, .int .i64 rk, .int .i64 ra, .int .i64 rb, .int .i64 rc, .int .i64 st, .int .i64 sk, .int .i64 sa, .int .i64 sb, .int .i64 sc] 231 (0, 0))) := Lib.hid (by rw [← hw1]; exact heap_alloc_new wr _)
      have HB1 : Hid (Below wr.heap.size wr w1) := Lib.hid (by rw [← hw1]; exact ba wr _)
      clear hw1 y0 y1 y2 y3 y4 y5 y6 y7 y8 y9
      have y0 : w1.cell? ⟨wr.heap.size, 0, none⟩ = some (.int .i64 rt) := by simp [World.cell?, HX.out]
      have y1 : w1.cell? ⟨wr.heap.size, 1, none⟩ = some (.int .i64 rk) := by simp [World.cell?, HX.out]
      have y2 : w1.cell? ⟨wr.heap.size, 2, none⟩ = some (.int .i64 ra) := by simp [World.cell?, HX.out]
      have y3 : w1.cell? ⟨wr.heap.size, 3, none⟩ = some (.int .i64 rb) := by simp [World.cell?, HX.out]
      have y4 : w1.cell? ⟨wr.heap.size, 4, none⟩ = some (.int .i64 rc) := by simp [World.cell?, HX.out]
      have y5 : w1.cell? ⟨wr.heap.size, 5, none⟩ = some (.int .i64 st) := by simp [World.cell?, HX.out]
      have y6 : w1.cell? ⟨wr.heap.size, 6, none⟩ = some (.int .i64 sk) := by simp [World.cell?, HX.out]
      have y7 : w1.cell? ⟨wr.heap.size, 7, none⟩ = some (.int .i64 sa) := by simp [World.cell?, HX.out]
      have y8 : w1.cell? ⟨wr.heap.size, 8, none⟩ = some (.int .i64 sb) := by simp [World.cell?, HX.out]
      have y9 : w1.cell? ⟨wr.heap.size, 9, none⟩ = some (.int .i64 sc) := by simp [World.cell?, HX.out]
      have HO2 : Hid (w1.ownsRow W.heap.size 33 5 v (unprs (L.take k)).length (flat (unprs (L.take k)))) := Lib.hid (HO.out.below HB1.out)
      have HB2 := Lib.hid (bt HB.out HB1.out)
      have hzw : W.heap.size ≤ w1.heap.size := HB2.out.size
      go_wp2_with (at_builtin; go_loud (refine wpList_append_own _ rfl _ _ 44 rfl W.heap.size 33 i0 (.agg #[.int .i64 0, .int .i64 0, .int .i64 0, .int .i64 0, .int .i64 0]) 5 40 Try.underlying44 hI hZ0 hZ1 hZ2 rfl (by decide) _ _ _ rfl (HO2.out.alloc _) ⟨w1.heap.size, 0, none⟩ 2 2 [.int .i64 rt, .int .i64 rk, .int .i64 ra, .int .i64 rb, .int .i64 rc, .int .i64 st, .int .i64 sk, .int .i64 sa, .int .i64 sb, .int .i64 sc] rfl rfl (World.news_of_block (cs := #[.int .i64 rt, .int .i64 rk, .int .i64 ra, .int .i64 rb, .int .i64 rc, .int .i64 st, .int .i64 sk, .int .i64 sa, .int .i64 sb, .int .i64 sc]) (t := 33) (fr := (0, 0)) (heap_alloc_new w1 _)) (by simp [Value.oneCell']) (by unfold maxLen; omega) (by omega) (by simp; omega) ?_); intro v' w3 hown' hgrow _)
      have HOn : Hid (OwnR w3 W.heap.size v' (unprs (L.take (k + 1)))) := Lib.hid (by
        rw [HTk.out]
        unfold OwnR
        rw [List.length_append, flat_app]
        exact hown')
      have hge : ∀ k, v.ownBlock = some k → W.heap.size ≤ k := fun k e => OwnR.own_ge HO.out e
      have hKg : Kept (fun k => v.ownBlock = some k) w1 w3 := (Kept.of_below (F := fun k => v.ownBlock = some k) (ba w1 _)).trans (kept_grown hgrow) (fun _ _ f => f)
      have HBn : Hid (Below W.heap.size W w3) := Lib.hid (((Kept.of_below (F := fun k => v.ownBlock = some k) HB2.out).trans hKg (fun _ _ f => f)).below (Nat.le_refl _) (fun k e => hge _ e))
      clear hown' hgrow hKg hge
      go_wp2_with fail
      exact ⟨⟨k + 1, by omega, by go_num, HOn, HBn⟩, by simp [intOf]; omega⟩
    · obtain rfl : k = n := by omega
      have HOe : Hid (OwnR wr W.heap.size v (unprs L)) := Lib.hid (by
        have h := HO.out
        rw [HN.out, List.take_length] at h
        exact h)
      go_wp2_with fail
      go_ret
      exact ⟨v, rfl, HOe.out, HB.out⟩
end Go.Proofs.Ytgbnjjgnihjfgaa
end

section
set_option linter.unusedVariables false
set_option linter.unusedSimpArgs false
namespace Go.Proofs.Ytgbnjjgnihjfgaa
open Go.RowKit Go.Sort Go.ChangeMaps Go.MapKept

theorem kept_set {F : Nat → Prop} {A B : World} (h : Kept F A B) {g j : Nat} (hg : F g) (u : Value) : Kept F A (B.setCell ⟨g, j, none⟩ u) := Kept.setCell (p := ⟨g, j, none⟩) h (.inl hg) u
theorem flatP_set : ∀ (M : List PR) (k : Nat) (x : MRow), k < M.length → (((((flatP M).set (k * 10 + 5) (.int .i64 x.t)).set (k * 10 + 6) (.int .i64 x.k)).set (k * 10 + 7) (.int .i64 x.v.a)).set (k * 10 + 8) (.int .i64 x.v.b)).set (k * 10 + 9) (.int .i64 x.v.c) = flatP (M.set k ((M.getD k prZ).1, x))
  | [], k, x, h => by simp at h
  | p :: M, 0, x, h => by simp [flatP, pcl, prCells]
  | p :: M, k + 1, x, h => by
    have ih := flatP_set M k x (by simpa using h)
    have e : flatP (p :: M) = pcl p ++ flatP M := rfl
    have e2 : (p :: M).set (k + 1) (((p :: M).getD (k + 1) prZ).1, x) = p :: M.set k ((M.getD k prZ).1, x) := by simp
    have hl := pcl_len p
    rw [e2, show flatP (p :: M.set k ((M.getD k prZ).1, x)) = pcl p ++ flatP (M.set k ((M.getD k prZ).1, x)) from rfl, ← ih, e]
    rw [List.set_append_right _ _ (by omega), List.set_append_right _ _ (by omega), List.set_append_right _ _ (by omega), List.set_append_right _ _ (by omega), List.set_append_right _ _ (by omega), hl]
    rw [show (k + 1) * 10 + 5 - 10 = k * 10 + 5 by omega, show (k + 1) * 10 + 6 - 10 = k * 10 + 6 by omega, show (k + 1) * 10 + 7 - 10 = k * 10 + 7 by omega, show (k + 1) * 10 + 8 - 10 = k * 10 + 8 by omega, show (k + 1) * 10 + 9 - 10 = k * 10 + 9 by omega]
/-- The first k pairs patched. -/
def updK (f : PR → PR) (M : List PR) (k : Nat) : List PR := (M.take k).map f ++ M.drop k
theorem updK_len (f : PR → PR) (M : List PR) (k : Nat) : (updK f M k).length = M.length := by
  unfold updK
  rw [List.length_append, List.length_map, ← List.length_append, List.take_append_drop]
theorem updK_get {f : PR → PR} {M : List PR} {k : Nat} (hk : k < M.length) : (updK f M k).getD k prZ = M.getD k prZ := by
  unfold updK
  rw [List.getD_eq_getElem?_getD, List.getElem?_append_right (by rw [List.length_map, List.length_take]; omega), List.length_map, List.length_take, Nat.min_eq_left (by omega), Nat.sub_self, List.getElem?_drop, Nat.add_zero, ← List.getD_eq_getElem?_getD]
theorem updK_succ {f : PR → PR} {M : List PR} {k : Nat} (hk : k < M.length) : updK f M (k + 1) = (updK f M k).set k (f (M.getD k prZ)) := by
  have e := List.drop_eq_getElem_cons hk
  have hl : ((M.take k).map f).length = k := by rw [List.length_map, List.length_take]; omega
  unfold updK
  rw [take_snoc' (d := prZ) hk, List.map_append, List.set_append_right _ _ (by omega), hl, Nat.sub_self, e, List.set_cons_zero, List.append_assoc]
  rfl
theorem updK_same {f : PR → PR} {M : List PR} {k : Nat} (hk : k < M.length) (h : f (M.getD k prZ) = M.getD k prZ) : updK f M (k + 1) = updK f M k := by
  unfold updK
  rw [take_snoc' (d := prZ) hk, List.map_append]
  conv => rhs; rw [List.drop_eq_getElem_cons hk]
  simp only [List.map_cons, List.map_nil, List.append_assoc, List.singleton_append]
  rw [h, getD_at prZ hk]
set_option maxRecDepth 100000 in
set_option maxHeartbeats 8000000 in
theorem patchRight_any {q : MQ} {c : MCh} {W : World} {base : Nat} {v : Value} {ps : List PR} (hO : OwnP W base v ps) (hb : base ≤ W.heap.size) (hl : ps.length ≤ 40000) : Calls Try.prog 172 #[v, .agg (effC q c)] W fun e w' => ∃ v', e = .returned (.tuple #[v', .bool (rightP ps c).isSome]) ∧ OwnP w' base v' ((rightP ps c).getD []) ∧ Kept (fun i => v.ownBlock = some i) W w' := by
  have HO := Lib.hid hO
  have HL : Hid (ps.length ≤ 40000) := Lib.hid hl
  have HBs : Hid (base ≤ W.heap.size) := Lib.hid hb
  have HE : Hid (EffAt (W.alloc (.cells (effC q c) 132)) W.heap.size q c) := Lib.hid (EffAt.new W q c)
  have HB : Hid (Below W.heap.size W (W.alloc (.cells (effC q c) 132))) := Lib.hid (ba W _)
  obtain ⟨va, vn, vcap, rfl⟩ := ownP_form2 hO
  have HWi := Lib.hid (fun (w0 : World) (h0 : EffAt w0 W.heap.size q c) (hr : PrS w0 (.slice va vn vcap) ps) => withoutP_any hr HL.out (enters_of Try.func202 (by kernel_rfl) rfl) (show ChoosesP w0 202 #[ptr W.heap.size] (fun p => decide (p.2.k = c.k)) from fun W' r hb => pairRight_any (h0.below hb) r))
  have HA : Hid ((effC q c)[22]? = some (.bool c.had) ∧ (effC q c)[30]? = some (.bool c.has) ∧ (effC q c)[8]? = some (.int .i64 c.k) ∧ (effC q c)[25]? = some (.int .i64 (aftR c).t) ∧ (effC q c)[26]? = some (.int .i64 (aftR c).k) ∧ (effC q c)[27]? = some (.int .i64 (aftR c).v.a) ∧ (effC q c)[28]? = some (.int .i64 (aftR c).v.b) ∧ (effC q c)[29]? = some (.int .i64 (aftR c).v.c)) := Lib.hid ⟨rfl, rfl, rfl, rfl, rfl, rfl, rfl, rfl⟩
  obtain ⟨RP, HRP⟩ : ∃ RP, Hid (rightP ps c = RP) := ⟨_, Lib.hid rfl⟩
  rw [HRP.out]
  have HP : Hid (RP = if c.had = false then none else if c.has = false then some (ps.filter fun p => !decide (p.2.k = c.k)) else some (ps.map fun p => if p.2.k = c.k then (p.1, aftR c) else p)) := Lib.hid (by rw [← HRP.out]; rfl)
  clear hO hl hb HRP
  go_enter Try.func172, Try.ntmps172
  go_upto_region 1 with fail
  have HWw := Lib.hid (HWi.out _ HE.out (HO.out.below HB.out).prS)
  have HOw := Lib.hid (HO.out.below HB.out)
  unfold EffAt at HE HWi
  unfold ptr at HWw
  clear HWi
  generalize c.had = had at *
  generalize c.has = has at *
  generalize c.k = ck at *
  generalize aftR c = ar at *
  generalize effC q c = E at *
  generalize W.alloc (.cells E 132) = w0 at *
  have e22 : w0.cell? ⟨W.heap.size, 22, none⟩ = some (.bool had) := by simp [World.cell?, HE.out, HA.out]
  have e30 : w0.cell? ⟨W.heap.size, 30, none⟩ = some (.bool has) := by simp [World.cell?, HE.out, HA.out]
  cases had
  · have HPf : Hid (RP = none) := Lib.hid (by have h := HP.out; simpa using h)
    go_wp2_with fail
    refine bodyPost_ret (v := .tuple #[.slice none 0 0, .bool false]) (by simp [results, Try.results172, go_sem]) rfl ?_
    rw [HPf.out]
    exact ⟨_, rfl, OwnP.nil _ _, Kept.of_below HB.out⟩
  cases has
  · have HPf : Hid (RP = some (ps.filter fun p => !decide (p.2.k = ck))) := Lib.hid (by have h := HP.out; simpa using h)
    go_wp2_with fail
    (with_reducible refine HWw.out.mono ?_)
    rintro e w1 ⟨v1, rfl, hO1, hb1⟩
    have HO1 := Lib.hid (hO1.mono (base' := base) (by have := HBs.out; have := HB.out.size; omega))
    have HK1 : Hid (Kept (fun i => (Value.slice va vn vcap).ownBlock = some i) W w1) := Lib.hid (Kept.of_below (bt HB.out hb1))
    clear hO1 hb1
    go_wp2_with fail
    refine bodyPost_ret (v := .tuple #[v1, .bool true]) (by simp [results, Try.results172, go_sem]) rfl ?_
    rw [HPf.out]
    exact ⟨_, rfl, HO1.out, HK1.out⟩
  have HPf : Hid (RP = some (ps.map fun p => if p.2.k = ck then (p.1, ar) else p)) := Lib.hid (by have h := HP.out; simpa using h)
  obtain ⟨at', ak, ⟨a1, a2, a3⟩⟩ := ar
  simp only at HA
  have HN : Hid (vn = ps.length) := Lib.hid (by
    rcases HO.out.2 with ⟨e, h0⟩ | ⟨g, cap, cur, e, _⟩
    · simp at e
      omega
    · simp at e
      omega)
  have HE1 := Lib.hid HE.out
  have hvn : vn ≤ 40000 := by have := HN.out; have := HL.out; omega
  obtain ⟨ff, Hff⟩ : ∃ ff : PR → PR, Hid ((fun p => if p.2.k = ck then (p.1, ⟨at', ak, ⟨a1, a2, a3⟩⟩) else p) = ff) := ⟨_, Lib.hid rfl⟩
  rw [Hff.out] at HPf
  have HHit : Hid (∀ p : PR, p.2.k = ck → ff p = (p.1, ⟨at', ak, ⟨a1, a2, a3⟩⟩)) := Lib.hid (fun p hp => by rw [← Hff.out]; simp [hp])
  have HMiss : Hid (∀ p : PR, ¬ p.2.k = ck → ff p = p) := Lib.hid (fun p hp => by rw [← Hff.out]; simp [hp])
  clear HWw HP
  go_wp2_with fail
  go_loopw [20] (fun i wr => ∃ k : Nat, k ≤ vn ∧ i = .int .i64 k ∧ Hid (OwnP wr base (.slice va vn vcap) (updK ff ps k)) ∧ Hid (Kept (fun i => (Value.slice va vn vcap).ownBlock = some i) W wr) ∧ Hid (wr.heap[W.heap.size]? = some (.cells E 132 (0, 0)))) (fun i _ => vn - (intOf i).toNat)
  case atStart => exact ⟨0, by omega, rfl, Lib.hid (by unfold updK; simpa using HOw.out), Lib.hid (Kept.of_below HB.out), HE1⟩
  case round =>
    obtain ⟨k, hk, rfl, HOr, HKr, HEr⟩ := hrel
    by_cases hlt : k < vn
    · obtain ⟨hol, hnil | ⟨g, cap, cur, e, hg, hcur, hnc, hcm, hcs, ht⟩⟩ := HOr.out
      · have := HN.out
        have := hnil.2
        rw [updK_len] at this
        exact absurd this (by omega)
      simp only [Value.slice.injEq] at e
      obtain ⟨rfl, -, rfl⟩ := e
      have HKL : Hid (k < ps.length) := Lib.hid (by have := HN.out; omega)
      have HPS := Lib.hid HOr.out.prS
      obtain ⟨_, n', _, e1, -, -, -, hcell⟩ := HPS.out
      simp at e1
      obtain ⟨rfl, hnn, rfl⟩ := e1
      obtain ⟨vb, vo, e2, hvb, hcs2⟩ := hcell (by omega)
      simp at e2
      obtain ⟨rfl, rfl⟩ := e2
      have H1 := hcs2 k (by omega)
      rw [updK_get HKL.out] at H1
      clear hcs2 hcell hnn hol hcur hcs ht hnc hcm hg
      obtain ⟨⟨⟨rt, rk, ⟨ra, rb, rc⟩⟩, ⟨st, sk, ⟨sa, sb, sc⟩⟩⟩, Hr⟩ : ∃ r, Hid (ps.getD k prZ = r) := ⟨_, Lib.hid rfl⟩
      rw [Hr.out] at H1
      have HC1 := Lib.hid (fun w (h : Below wr.heap.size wr w) => (H1.below hvb h).cells)
      have HEb := Lib.hid (fun w (h : Below wr.heap.size wr w) => (h.block _ (lt_of_block HEr.out)).trans HEr.out)
      have HOb := Lib.hid (fun w (h : Below wr.heap.size wr w) => HOr.out.below h)
      clear H1
      go_upto_region 8 with fail
      have g6 : ∀ wz, BW wr wz → ∀ d' os, (grow (redrawn wz d') os).cell? ⟨g, 0 + k * 10 + 6, none⟩ = some (.int .i64 sk) := fun wz h d' os => (HC1.out _ (bt h (below_regrown wz d' os))).2.2.2.2.2.2.1
      have g6' : ∀ wz, BW wr wz → ∀ d' os, (grow (redrawn wz d') os).cell? ⟨g, k * 10 + 6, none⟩ = some (.int .i64 sk) := fun wz h d' os => by have := g6 wz h d' os; rw [Nat.zero_add] at this; exact this
      have g6'' : ∀ wz, BW wr wz → ∀ d' os, (grow (redrawn wz d') os).cell? ⟨g, k * 10 + 5 + 1, none⟩ = some (.int .i64 sk) := fun wz h d' os => g6' wz h d' os
      have e8 : ∀ wz, BW wr wz → ∀ d' os, (grow (redrawn wz d') os).cell? ⟨W.heap.size, 8, none⟩ = some (.int .i64 ck) := fun wz h d' os => by simp [World.cell?, HEb.out _ (bt h (below_regrown wz d' os)), HA.out]
      refine wp_region_calm 9 99 [0, 1, 2, 3, 4, 5, 6, 7, 8] (by kernel_rfl) (by kernel_rfl) (by intro oz h; simp at h) (by intro oz h; simp at h) (by rfl) ?_
      simp only [List.take_succ_cons, List.take_zero]
      iterate 9
        apply wpCalm_want
        · rfl
        · exact bc_refl
        · exact ⟨_, Below.refl _ _⟩
        · intro w00 hC0 K hK
          go_big_quiet_op
          exact hK
      refine wpCalm_nil ?_
      intro w2 hbq
      try simp only [List.drop_succ_cons, List.drop_zero]
      have HO2 := Lib.hid (HOb.out _ hbq)
      have HE2 := Lib.hid (HEb.out _ hbq)
      have HK2 : Hid (Kept (fun i => (Value.slice (some ⟨g, 0, none⟩) vn vcap).ownBlock = some i) W w2) := Lib.hid (HKr.out.then hbq)
      have HC2 := Lib.hid (HC1.out _ hbq)
      clear hbq g6 g6' g6'' e8
      by_cases hsk : sk = ck
      · have d1 : (sk == ck) = true := by simp [hsk]
        have HSK := Lib.hid hsk
        clear hsk
        obtain ⟨-, -, -, -, -, y5, y6, y7, y8, y9⟩ := HC2.out
        rw [Nat.zero_add] at y5 y6 y7 y8 y9
        have z6 : w2.cell? ⟨g, k * 10 + 5 + 1, none⟩ = some (.int .i64 sk) := y6
        have z7 : w2.cell? ⟨g, k * 10 + 5 + 2, none⟩ = some (.int .i64 sa) := y7
        have z8 : w2.cell? ⟨g, k * 10 + 5 + 3, none⟩ = some (.int .i64 sb) := y8
        have z9 : w2.cell? ⟨g, k * 10 + 5 + 4, none⟩ = some (.int .i64 sc) := y9
        obtain ⟨_, cur2, hcur2⟩ := own_type HO2.out (g := g) rfl
        have fz : ∀ j, w2.frozen? ⟨g, j, none⟩ = false := fun j => by simp [World.frozen?, hcur2]
        have HCur2 := Lib.hid hcur2
        clear hcur2
        have e25 : w2.cell? ⟨W.heap.size, 25, none⟩ = some (.int .i64 at') := by simp [World.cell?, HE2.out, HA.out]
        have e26 : w2.cell? ⟨W.heap.size, 26, none⟩ = some (.int .i64 ak) := by simp [World.cell?, HE2.out, HA.out]
        have e27 : w2.cell? ⟨W.heap.size, 27, none⟩ = some (.int .i64 a1) := by simp [World.cell?, HE2.out, HA.out]
        have e28 : w2.cell? ⟨W.heap.size, 28, none⟩ = some (.int .i64 a2) := by simp [World.cell?, HE2.out, HA.out]
        have e29 : w2.cell? ⟨W.heap.size, 29, none⟩ = some (.int .i64 a3) := by simp [World.cell?, HE2.out, HA.out]
        go_upto_region 10 with fail
        generalize hw3 : ((((w2.setCell _ _).setCell _ _).setCell _ _).setCell _ _).setCell _ _ = w3
        have HO3 : Hid (OwnP w3 base (.slice (some ⟨g, 0, none⟩) vn vcap) (updK ff ps (k + 1))) := Lib.hid (by
          have hvl : vn = ps.length := HN.out
          have h0 : w2.ownsRow base 231 10 (.slice (some ⟨g, 0, none⟩) vn vcap) vn (flatP (updK ff ps k)) := by
            have h := HO2.out
            unfold OwnP at h
            rw [updK_len, ← hvl] at h
            exact h
          have h5 := (((((h0).stored (k * 10 + 5) (.int .i64 at')).1.stored (k * 10 + 6) (.int .i64 ak)).1.stored (k * 10 + 7) (.int .i64 a1)).1.stored (k * 10 + 8) (.int .i64 a2)).1.stored (k * 10 + 9) (.int .i64 a3)
          have h6 := flatP_set (updK ff ps k) k ⟨at', ak, ⟨a1, a2, a3⟩⟩ (by rw [updK_len]; exact HKL.out)
          simp only at h6
          rw [h6] at h5
          have h7 := h5.1
          rw [hw3] at h7
          unfold OwnP
          rw [updK_succ HKL.out, Hr.out, HHit.out _ HSK.out, List.length_set]
          rw [updK_get HKL.out, Hr.out] at h7
          rw [updK_len, ← hvl]
          exact h7)
        have HK3 : Hid (Kept (fun i => (Value.slice (some ⟨g, 0, none⟩) vn vcap).ownBlock = some i) W w3) := Lib.hid (by
          rw [← hw3]
          exact kept_set (kept_set (kept_set (kept_set (kept_set HK2.out rfl _) rfl _) rfl _) rfl _) rfl _)
        have HE3 : Hid (w3.heap[W.heap.size]? = some (.cells E 132 (0, 0))) := Lib.hid (by
          have hgl : ¬ W.heap.size = g := fun e => by
            have h1 := HE2.out
            rw [e, HCur2.out] at h1
            simp at h1
          rw [← hw3, Below.heap_setCell _ _ _ _ hgl, Below.heap_setCell _ _ _ _ hgl, Below.heap_setCell _ _ _ _ hgl, Below.heap_setCell _ _ _ _ hgl, Below.heap_setCell _ _ _ _ hgl]
          exact HE2.out)
        clear hw3 y5 y6 y7 y8 y9 z6 z7 z8 z9 fz e25 e26 e27 e28 e29
        go_wp2_with fail
        exact ⟨⟨k + 1, by omega, by go_num, HO3, HK3, HE3⟩, by simp [intOf]; omega⟩
      · have d1 : (sk == ck) = false := by simp [hsk]
        have HO3 : Hid (OwnP w2 base (.slice (some ⟨g, 0, none⟩) vn vcap) (updK ff ps (k + 1))) := Lib.hid (by
          rw [updK_same HKL.out (by rw [Hr.out]; exact HMiss.out _ hsk)]
          exact HO2.out)
        clear hsk
        go_wp2_with fail
        exact ⟨⟨k + 1, by omega, by go_num, HO3, HK2, HE2⟩, by simp [intOf]; omega⟩
    · obtain rfl : k = vn := by omega
      have HOe : Hid (OwnP wr base (.slice va k vcap) (ps.map ff)) := Lib.hid (by
        have h := HOr.out
        unfold updK at h
        rw [HN.out, List.take_length, List.drop_length, List.append_nil] at h
        rw [HN.out]
        exact h)
      go_wp2_with fail
      refine bodyPost_ret (v := .tuple #[.slice va k vcap, .bool true]) (by simp [results, Try.results172, go_sem]) rfl ?_
      rw [HPf.out]
      exact ⟨_, rfl, HOe.out, HKr.out⟩
end Go.Proofs.Ytgbnjjgnihjfgaa
end
