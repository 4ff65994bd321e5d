/- PLAIN: undoing a record. -/
import Derived.Test.YtaapggeaoacikaaL3
set_option linter.unusedVariables false
set_option linter.unusedSimpArgs false
namespace Go.Proofs.Ytaapggeaoacikaa
open Go.RowKit Go.Sort Go.ChangeMaps Go.MapKept

theorem vch_turn {c : MCh} (h : VCh c) : VCh (turnC c) := by
  obtain ⟨h1, h2, h3, h4⟩ := h
  exact ⟨h1.symm, fun e => h2 ⟨e.2.1, e.1, e.2.2.symm⟩, h4, h3⟩
theorem getD_turn (cs : List MCh) {k : Nat} (h : k < cs.length) : (cs.map turnC).getD k chZ = turnC (cs.getD k chZ) := by
  rw [List.getD_eq_getElem?_getD, List.getD_eq_getElem?_getD, List.getElem?_map, List.getElem?_eq_getElem h]
  rfl
theorem vrec_turn {p q : Int} {cs : List MCh} (h : VRec p cs) (hq : 1 ≤ q ∧ q ≤ 10000) : VRec q (cs.map turnC) := by
  refine ⟨hq, by simpa using h.2.1, fun k hk => ?_⟩
  rw [List.length_map] at hk
  have h1 := h.2.2 k hk
  unfold VGo at h1 ⊢
  rw [getD_turn cs hk]
  refine ⟨vch_turn h1.1, fun h0 => ?_⟩
  rw [getD_turn cs (by omega)]
  exact h1.2 h0
/-- The state behind i undone records; the next one turned round can be applied, and leads one record further back. -/
theorem undo_step {R : List MRec} (h : Chn R) (hl : R.length ≤ 1000) {i : Nat} (hi : i < R.length) :
    Okay (rowsOf (R.take (R.length - i))) (R.length + i : Nat) (R.length + i + 1 : Nat) ((R.getD (R.length - 1 - i) recZ).chs.map turnC) ∧
    stepAll (rowsOf (R.take (R.length - i))) ((R.getD (R.length - 1 - i) recZ).chs.map turnC) = rowsOf (R.take (R.length - (i + 1))) := by
  obtain ⟨m, hm⟩ : ∃ m, m = R.length - 1 - i := ⟨_, rfl⟩
  have e1 : R.length - i = m + 1 := by omega
  have e2 : R.length - (i + 1) = m := by omega
  rw [← hm, e1, e2, rowsOf_succ (by omega)]
  have ho := h m (by omega)
  have hg := h.good m (by omega)
  obtain ⟨u1, u2⟩ := undo_all hg.1 (vrec_apart ho.1) ho.2.2.1
  refine ⟨⟨vrec_turn ho.1 ⟨by omega, by omega⟩, by omega, u1, ?_⟩, u2⟩
  have hap : Apart ((R.getD m recZ).chs.map turnC) := by
    unfold Apart
    rw [List.pairwise_map]
    exact vrec_apart ho.1
  have h1 := length_all (srt_all hg.1 _) hap u1
  rw [u2] at h1
  rw [← h1]
  have := hg.2.2
  omega
end Go.Proofs.Ytaapggeaoacikaa
