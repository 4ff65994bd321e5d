/- PLAIN and WALK: EvalLocal. -/
import Derived.Test.YtcffofjialihaaaEL
set_option linter.unusedVariables false
set_option linter.unusedSimpArgs false
namespace Go.Proofs.Ytcffofjialihaaa
open Go.RowKit Go.Sort Go.ChangeMaps Go.MapKept

theorem srt_mem_ext {L M : List MRow} (hL : Srt L) (hM : Srt M) (h : ∀ r, r ∈ L ↔ r ∈ M) : L = M := by
  have nd : ∀ {L : List MRow}, Srt L → L.Nodup := fun h => h.imp (fun {a b} hab e => by subst e; exact rlt_irr hab)
  refine List.Perm.eq_of_pairwise (le := rlt) (fun a b _ _ h1 h2 => absurd (rlt_trans h1 h2) rlt_irr) hL hM ?_
  exact (List.perm_ext_iff_of_nodup (nd hL) (nd hM)).2 h
theorem filter_step {L : List MRow} {c : MCh} {sel : MRow → Bool} (hS : Srt L) (hS' : Srt (stepC L c)) (hf : fitC L c) (h1 : c.had = true → sel ⟨c.t, c.k, c.o⟩ = false) (h2 : c.has = true → sel ⟨c.t, c.k, c.n⟩ = false) : L.filter sel = (stepC L c).filter sel := by
  refine srt_mem_ext (List.Pairwise.filter _ hS) (List.Pairwise.filter _ hS') fun r => ?_
  rw [List.mem_filter, List.mem_filter, mem_step]
  constructor
  · rintro ⟨hr, hs⟩
    refine ⟨.inl ⟨hr, fun hk => ?_⟩, hs⟩
    unfold fitC at hf
    have hl := (look_some hS).2 ⟨hr, hk.1, hk.2⟩
    rw [hl] at hf
    cases hh : c.had
    · rw [hh] at hf
      simp at hf
    · rw [hh] at hf
      simp at hf
      rw [hf, h1 hh] at hs
      cases hs
  · rintro ⟨⟨hr, _⟩ | ⟨ha, rfl⟩, hs⟩
    · exact ⟨hr, hs⟩
    · rw [h2 ha] at hs
      cases hs
/-- **A change that concerns no row of the range changes no result.** -/
theorem local_fact {L : List MRow} {c : MCh} {q : MQ} {M M' : List MRow} (hS : Srt L) (hS' : Srt (stepC L c)) (hf : fitC L c)
    (h1 : c.had = true → selR q.table q.column q.low q.high ⟨c.t, c.k, c.o⟩ = false) (h2 : c.has = true → selR q.table q.column q.low q.high ⟨c.t, c.k, c.n⟩ = false) (h3 : q.kind = 7 → ¬ c.t = q.other)
    (hM : SortOf L (selR q.table q.column q.low q.high) q.column M) (hM' : SortOf (stepC L c) (selR q.table q.column q.low q.high) q.column M') :
    resM q M (L.filter (selT q.other)) = resM q M' ((stepC L c).filter (selT q.other)) := by
  have e := filter_step hS hS' hf h1 h2
  have hMM : M = M' := sortOf_unique (t := q.table) hS (fun r hr => by unfold selR at hr; simp at hr; exact hr.1) hM (by unfold SortOf at hM' ⊢; rw [e]; exact hM')
  subst hMM
  by_cases hk : q.kind = 7
  · rw [filter_step (sel := selT q.other) hS hS' hf (fun _ => by unfold selT; simpa using h3 hk) (fun _ => by unfold selT; simpa using h3 hk)]
  · exact resM_o hk _ _ _
theorem last_change {R : List MRec} {k : Nat} (hR : Chn R) (hl : R.length = k + 1) {c : MCh} (hc : (R.getD k recZ).chs = [c]) :
    Srt (rowsOf (R.take k)) ∧ fitC (rowsOf (R.take k)) c ∧ rowsOf (R.take (k + 1)) = stepC (rowsOf (R.take k)) c ∧ Srt (stepC (rowsOf (R.take k)) c) := by
  have e : rowsOf (R.take (k + 1)) = stepC (rowsOf (R.take k)) c := by
    rw [rowsOf_succ (by omega), hc]
    rfl
  have h := (hR k (by omega)).2.2.1
  rw [hc] at h
  refine ⟨(hR.good k (by omega)).1, h c (by simp), e, ?_⟩
  rw [← e]
  exact (hR.good (k + 1) (by omega)).1
end Go.Proofs.Ytcffofjialihaaa
