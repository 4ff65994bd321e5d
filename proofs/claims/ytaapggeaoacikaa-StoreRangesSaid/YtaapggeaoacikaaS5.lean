/- STATES COUNTED BY PLACES (plain). -/
import Derived.Test.YtaapggeaoacikaaX1
import Derived.Test.YtaapggeaoacikaaL3
set_option linter.unusedVariables false
set_option linter.unusedSimpArgs false
namespace Go.Proofs.Ytaapggeaoacikaa
open Go.RowKit

def InS (L : List MRow) : Prop := ∀ r ∈ L, 0 ≤ r.t ∧ r.t ≤ 2 ∧ 1 ≤ r.k ∧ r.k ≤ 9
theorem inS_step {L : List MRow} (h : InS L) {c : MCh} (hc : Small c) : InS (stepC L c) := fun r hr => by
  rcases mem_step.1 hr with ⟨h1, _⟩ | ⟨_, rfl⟩
  · exact h r h1
  · exact ⟨hc.1, hc.2.1, hc.2.2.1, hc.2.2.2.1⟩
theorem inS_all {cs : List MCh} : ∀ {L : List MRow}, InS L → (∀ c ∈ cs, Small c) → InS (stepAll L cs) := by
  induction cs with
  | nil => intro L h _; exact h
  | cons c cs ih => intro L h hc; exact ih (inS_step h (hc c (by simp))) (fun d hd => hc d (by simp [hd]))
theorem inS_rows {R : List MRec} (h : ∀ r ∈ R, ∀ c ∈ r.chs, Small c) : InS (rowsOf R) := by
  have key : ∀ (R : List MRec) (L : List MRow), InS L → (∀ r ∈ R, ∀ c ∈ r.chs, Small c) → InS (R.foldl (fun L r => stepAll L r.chs) L) := by
    intro R
    induction R with
    | nil => intro L hL _; exact hL
    | cons r R ih => intro L hL hR; exact ih _ (inS_all hL (hR r (by simp))) (fun q hq => hR q (by simp [hq]))
  exact key R [] (fun r hr => by simp at hr) h
theorem cntk_first {L : List MRow} (h : InS L) : cntk L 0 1 = 0 := by
  unfold cntk
  rw [List.length_eq_zero_iff, List.filter_eq_nil_iff]
  intro r hr
  have := h r hr
  simp [ltk]
  omega
theorem cntk_last {L : List MRow} (h : InS L) : cntk L 3 1 = L.length := by
  unfold cntk
  rw [List.filter_eq_self.2]
  intro r hr
  have := h r hr
  simp [ltk]
  omega
theorem cntk_table {L : List MRow} (h : InS L) (t : Int) : cntk L (t + 1) 1 = cntk L t 10 := by
  unfold cntk
  congr 1
  refine List.filter_congr fun r hr => ?_
  have := h r hr
  unfold ltk
  exact decide_eq_decide.2 (by omega)
theorem cntk_next {L : List MRow} (h : Srt L) (t k : Int) : cntk L t (k + 1) = cntk L t k + (if (look L t k).isSome then 1 else 0) := by
  have e := split_at h t k
  unfold cntk
  have e2 : L.filter (ltk t (k + 1)) = L.filter (ltk t k) ++ (look L t k).toList := by
    conv => lhs; rw [e]
    rw [List.filter_append, List.filter_append]
    have a1 : (L.filter (ltk t k)).filter (ltk t (k + 1)) = L.filter (ltk t k) := List.filter_eq_self.2 (fun r hr => by
      have := (List.mem_filter.1 hr).2
      simp [ltk] at this ⊢
      omega)
    have a2 : ((look L t k).toList).filter (ltk t (k + 1)) = (look L t k).toList := List.filter_eq_self.2 (fun r hr => by
      have hl : look L t k = some r := by simpa using hr
      obtain ⟨_, h1, h2⟩ := (look_some h).1 hl
      simp [ltk]
      omega)
    have a3 : (L.filter (gtk t k)).filter (ltk t (k + 1)) = [] := List.filter_eq_nil_iff.2 (fun r hr => by
      have := (List.mem_filter.1 hr).2
      simp [ltk, gtk] at this ⊢
      omega)
    rw [a1, a2, a3, List.append_nil]
  rw [e2, List.length_append]
  cases look L t k <;> simp
theorem stepAll_take {L : List MRow} {cs : List MCh} {k : Nat} (h : k < cs.length) : stepAll L (cs.take (k + 1)) = stepC (stepAll L (cs.take k)) (cs.getD k chZ) := by
  rw [take_snoc' (d := chZ) h]
  unfold stepAll
  rw [List.foldl_append]
  rfl
end Go.Proofs.Ytaapggeaoacikaa
