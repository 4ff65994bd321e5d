/- EK, EM1 -/
import Derived.Test.YtgbnjjgnihjfgaaGreatProg
import Derived.WalkKit
import Derived.Below
import Derived.Lib.Hide
import Derived.Laws.StructEq
import Derived.Lib.QuietBelow
import Derived.Deep.RegionHeld3
import Derived.Deep.RegionWith
import Derived.IntWalk
import Derived.BigQuiet
import Derived.Maps.RangeWalk
import Derived.DeepKeys4
import Derived.OneCell
import Derived.StillTail
import Derived.Deep.CutRange
import Derived.Outline
import Derived.WalkSpells
import Derived.Carry
import Derived.Shelf.SlGeneric
import Derived.Shelf.SlSortCmp.WholeK
import Derived.Shelf.SlicesG.Cmp
import Derived.Ground.SlsfProg
import Derived.Ground.SlgcProg
import Derived.Sort.OwnSorted
import Derived.Deep.AppendLies
import Derived.Shelf.SlSortCmp.NoneTotal
import Derived.Deep.QuietTactic
import Derived.Laws.AppendOwnNone
import Derived.Laws.EntriesVeiled
import Derived.Lib.SliceRun
import Derived.Deep.Cut
import Derived.Laws.ResultCell
import Derived.ArgAppend
import Derived.Laws.Rows
import Derived.Great.BuildSlice
import Derived.Great.Frames
import Derived.Deep.DeepCutAuto
import Derived.Test.YtgbnjjgnihjfgaaGreatBAG
import Derived.Test.YtgbnjjgnihjfgaaGreatBAE
import Derived.Test.YtgbnjjgnihjfgaaGreatBAB
import Derived.Test.YtgbnjjgnihjfgaaGreatBAA
import Derived.Test.YtgbnjjgnihjfgaaGreatBAC
import Derived.Test.YtgbnjjgnihjfgaaGreatBAD
import Derived.Test.YtgbnjjgnihjfgaaGreatBAF
section
set_option linter.unusedVariables false
set_option linter.unusedSimpArgs false
namespace Go.Proofs.YtgbnjjgnihjfgaaGreat
open Go.RowKit Go.Sort Go.ChangeMaps Go.MapKept

theorem ext_low (y : Int) : ∀ (M : List MRow) (s : Int × Bool), (s.2 = true → (M.foldl (extS ltB y) s).2 = true ∧ (M.foldl (extS ltB y) s).1 ≤ s.1) ∧ (∀ r ∈ M, (M.foldl (extS ltB y) s).2 = true ∧ (M.foldl (extS ltB y) s).1 ≤ vget r y) ∧ (((M.foldl (extS ltB y) s).2 = s.2 ∧ (M.foldl (extS ltB y) s).1 = s.1) ∨ ∃ r ∈ M, (M.foldl (extS ltB y) s).1 = vget r y)
  | [], s => ⟨fun h => ⟨h, Int.le_refl _⟩, fun r hr => by simp at hr, .inl ⟨rfl, rfl⟩⟩
  | x :: M, s => by
    rw [List.foldl_cons]
    obtain ⟨h1, h2, h3⟩ := ext_low y M (extS ltB y s x)
    have e1 : (extS ltB y s x).2 = true ∧ (extS ltB y s x).1 ≤ vget x y ∧ (s.2 = true → (extS ltB y s x).1 ≤ s.1) ∧ (extS ltB y s x = s ∨ (extS ltB y s x).1 = vget x y) := by
      obtain ⟨v, f⟩ := s
      unfold extS ltB
      cases f
      · simp
      · by_cases h : vget x y < v
        · simp [h]; omega
        · simp [h]; omega
    obtain ⟨a1, a2⟩ := h1 e1.1
    refine ⟨fun hs => ⟨a1, Int.le_trans a2 (e1.2.2.1 hs)⟩, fun r hr => ?_, ?_⟩
    · rcases List.mem_cons.1 hr with rfl | hr
      · exact ⟨a1, Int.le_trans a2 e1.2.1⟩
      · exact h2 r hr
    · rcases h3 with ⟨b1, b2⟩ | ⟨r, hr, b⟩
      · rcases e1.2.2.2 with e | e
        · left; rw [e] at b1 b2; rw [e]; exact ⟨b1, b2⟩
        · right; exact ⟨x, by simp, b2.trans e⟩
      · right; exact ⟨r, by simp [hr], b⟩
theorem ext_high (y : Int) : ∀ (M : List MRow) (s : Int × Bool), (s.2 = true → (M.foldl (extS gtB y) s).2 = true ∧ s.1 ≤ (M.foldl (extS gtB y) s).1) ∧ (∀ r ∈ M, (M.foldl (extS gtB y) s).2 = true ∧ vget r y ≤ (M.foldl (extS gtB y) s).1) ∧ (((M.foldl (extS gtB y) s).2 = s.2 ∧ (M.foldl (extS gtB y) s).1 = s.1) ∨ ∃ r ∈ M, (M.foldl (extS gtB y) s).1 = vget r y)
  | [], s => ⟨fun h => ⟨h, Int.le_refl _⟩, fun r hr => by simp at hr, .inl ⟨rfl, rfl⟩⟩
  | x :: M, s => by
    rw [List.foldl_cons]
    obtain ⟨h1, h2, h3⟩ := ext_high y M (extS gtB y s x)
    have e1 : (extS gtB y s x).2 = true ∧ vget x y ≤ (extS gtB y s x).1 ∧ (s.2 = true → s.1 ≤ (extS gtB y s x).1) ∧ (extS gtB y s x = s ∨ (extS gtB y s x).1 = vget x y) := by
      obtain ⟨v, f⟩ := s
      unfold extS gtB
      cases f
      · simp
      · by_cases h : v < vget x y
        · simp [h]; omega
        · simp [h]; omega
    obtain ⟨a1, a2⟩ := h1 e1.1
    refine ⟨fun hs => ⟨a1, Int.le_trans (e1.2.2.1 hs) a2⟩, fun r hr => ?_, ?_⟩
    · rcases List.mem_cons.1 hr with rfl | hr
      · exact ⟨a1, Int.le_trans e1.2.1 a2⟩
      · exact h2 r hr
    · rcases h3 with ⟨b1, b2⟩ | ⟨r, hr, b⟩
      · rcases e1.2.2.2 with e | e
        · left; rw [e] at b1 b2; rw [e]; exact ⟨b1, b2⟩
        · right; exact ⟨x, by simp, b2.trans e⟩
      · right; exact ⟨r, by simp [hr], b⟩
/-- **The least and the greatest measure.** -/
theorem ext_facts (y : Int) (M : List MRow) : (∀ r ∈ M, (extF ltB y M).1 ≤ vget r y ∧ vget r y ≤ (extF gtB y M).1) ∧ (extF ltB y M).2 = decide (0 < M.length) ∧ (extF gtB y M).2 = decide (0 < M.length) ∧ (extF ltB y M).1 ≤ (extF gtB y M).1 ∧ (0 < M.length → ∃ r ∈ M, vget r y = (extF ltB y M).1) := by
  obtain ⟨-, l2, l3⟩ := ext_low y M (0, false)
  obtain ⟨-, h2, h3⟩ := ext_high y M (0, false)
  change (∀ r ∈ M, (extF ltB y M).2 = true ∧ (extF ltB y M).1 ≤ vget r y) at l2
  change (∀ r ∈ M, (extF gtB y M).2 = true ∧ vget r y ≤ (extF gtB y M).1) at h2
  cases M with
  | nil => exact ⟨fun r hr => by simp at hr, rfl, rfl, Int.le_refl _, fun h => by simp at h⟩
  | cons x M =>
    refine ⟨fun r hr => ⟨(l2 r hr).2, (h2 r hr).2⟩, ?_, ?_, Int.le_trans (l2 x (by simp)).2 (h2 x (by simp)).2, fun _ => ?_⟩
    · rw [(l2 x (by simp)).1]; simp
    · rw [(h2 x (by simp)).1]; simp
    · rcases l3 with ⟨e, _⟩ | ⟨r, hr, e⟩
      · change (extF ltB y (x :: M)).2 = false at e
        rw [(l2 x (by simp)).1] at e
        cases e
      · exact ⟨r, hr, e.symm⟩

theorem res2 {q : MQ} (hv : validB q = true) (hk : q.kind = 2) (M O : List MRow) : resM q M O = ⟨M, 0, false⟩ := by
  unfold resM
  rw [if_neg (by rw [hv]; decide), if_neg (by omega), if_neg (by omega), if_neg (by omega), if_neg (by omega), if_neg (by omega)]
theorem res3 {q : MQ} (hv : validB q = true) (hk : q.kind = 3) (M O : List MRow) : resM q M O = ⟨[], M.length, false⟩ := by
  unfold resM
  rw [if_neg (by rw [hv]; decide), if_pos hk]
theorem res4 {q : MQ} (hv : validB q = true) (hk : q.kind = 4) (M O : List MRow) : resM q M O = ⟨[], sumM q.by_ M, false⟩ := by
  unfold resM
  rw [if_neg (by rw [hv]; decide), if_neg (by omega), if_pos hk]
theorem res5 {q : MQ} (hv : validB q = true) (hk : q.kind = 5) (M O : List MRow) : resM q M O = ⟨[], (extF ltB q.by_ M).1, (extF ltB q.by_ M).2⟩ := by
  unfold resM
  rw [if_neg (by rw [hv]; decide), if_neg (by omega), if_neg (by omega), if_pos hk]
theorem res6 {q : MQ} (hv : validB q = true) (hk : q.kind = 6) (M O : List MRow) : resM q M O = ⟨[], (extF gtB q.by_ M).1, (extF gtB q.by_ M).2⟩ := by
  unfold resM
  rw [if_neg (by rw [hv]; decide), if_neg (by omega), if_neg (by omega), if_neg (by omega), if_pos hk]

/-- What a law has at hand: a state, a query in a variable, results in variables. -/
structure SEg (L : List MRow) (p : Int) (w0 w : World) (b1 : Nat) (m1 : Option Nat) (qb : Nat) (q : MQ) (A : List (Nat × Value × Int × Bool)) (B : List (Value × List MRow)) : Prop where
  st : StAt w b1 m1 L p
  nb : qb ≠ b1
  nm : m1 ≠ some qb
  qblk : w.heap[qb]? = some (.cells (qC q) 28 (0, 0))
  res : ∀ x ∈ A, w.heap[x.1]? = some (.cells (resC x.2.1 x.2.2.1 x.2.2.2) 34 (0, 0)) ∧ x.1 ≠ qb
  rows : ∀ x ∈ B, OwnR w (qb + 1) x.1 x.2
  old : Below w0.heap.size w0 w
  ge : w0.heap.size ≤ qb
section
variable {L : List MRow} {p : Int} {w0 w w' : World} {b1 qb : Nat} {m1 : Option Nat} {q : MQ} {A : List (Nat × Value × Int × Bool)} {B : List (Value × List MRow)}
theorem SEg.below (h : SEg L p w0 w b1 m1 qb q A B) (k : Below w.heap.size w w') : SEg L p w0 w' b1 m1 qb q A B :=
  ⟨h.st.below k, h.nb, h.nm, (k.block _ (lt_of_block h.qblk)).trans h.qblk, fun x hx => ⟨(k.block _ (lt_of_block (h.res x hx).1)).trans (h.res x hx).1, (h.res x hx).2⟩, fun x hx => (h.rows x hx).below k, bt h.old k, h.ge⟩
theorem SEg.set (h : SEg L p w0 w b1 m1 qb q A B) {j : Nat} {u : Value} {q' : MQ} (hq : (qC q).setIfInBounds j u = qC q') : SEg L p w0 (w.setCell ⟨qb, j, none⟩ u) b1 m1 qb q' A B := by
  have k : Kept (fun i => i = qb) w (w.setCell ⟨qb, j, none⟩ u) := Kept.setCell (F := fun i => i = qb) (p := ⟨qb, j, none⟩) (Kept.refl _ _) (.inl rfl) u
  refine ⟨h.st.kept k (fun i hf e => ?_), h.nb, h.nm, by rw [setC_heap h.qblk j u, hq], fun x hx => ⟨(k.block _ (lt_of_block (h.res x hx).1) (h.res x hx).2).trans (h.res x hx).1, (h.res x hx).2⟩, fun x hx => (h.rows x hx).kept k (fun i hi e => by omega), h.old.trans (k.below h.old.size (fun i e => by have := h.ge; omega)), h.ge⟩
  subst e
  rcases hf with e | e
  · exact h.nb e
  · exact h.nm e
end
end Go.Proofs.YtgbnjjgnihjfgaaGreat
end

section
set_option linter.unusedVariables false
set_option linter.unusedSimpArgs false
namespace Go.Proofs.YtgbnjjgnihjfgaaGreat
open Go.RowKit Go.Sort Go.ChangeMaps Go.MapKept

theorem wrap_add (a b : Int) : wrap64 (wrap64 a + b) = wrap64 (a + b) := by unfold wrap64; omega
theorem wrap_add2 (a b : Int) : wrap64 (a + wrap64 b) = wrap64 (a + b) := by unfold wrap64; omega
theorem sum_from (y : Int) : ∀ (M : List MRow) (s : Int), M.foldl (fun s r => wadd s (vget r y)) (wrap64 s) = wrap64 (s + (M.map fun r => vget r y).sum)
  | [], s => by simp
  | r :: M, s => by
    rw [List.foldl_cons, List.map_cons, List.sum_cons]
    have : wadd (wrap64 s) (vget r y) = wrap64 (s + vget r y) := wrap_add _ _
    rw [this, sum_from y M, Int.add_assoc]
theorem sum_wrap (y : Int) (M : List MRow) : sumM y M = wrap64 (M.map fun r => vget r y).sum := by
  have h := sum_from y M 0
  have hz : wrap64 0 = 0 := by unfold wrap64; omega
  rw [Int.zero_add, hz] at h
  exact h
theorem high_mem (y : Int) (M : List MRow) (h : 0 < M.length) : ∃ r ∈ M, vget r y = (extF gtB y M).1 := by
  obtain ⟨-, h2, h3⟩ := ext_high y M (0, false)
  rcases h3 with ⟨e, _⟩ | ⟨r, hr, e⟩
  · cases M with
    | nil => simp at h
    | cons x M =>
      have := (h2 x (by simp)).1
      rw [e] at this
      cases this
  · exact ⟨r, hr, e.symm⟩
end Go.Proofs.YtgbnjjgnihjfgaaGreat
end
