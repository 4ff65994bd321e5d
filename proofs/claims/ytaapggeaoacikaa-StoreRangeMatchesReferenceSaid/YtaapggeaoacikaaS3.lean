/- PLAIN: which records can be applied, and what they leave; logs of records. -/
import Derived.Test.YtaapggeaoacikaaK3
set_option linter.unusedVariables false
set_option linter.unusedSimpArgs false
namespace Go.Proofs.Ytaapggeaoacikaa
open Go.RowKit Go.Sort Go.ChangeMaps Go.MapKept

theorem getD_mem {α : Type} {l : List α} {i : Nat} {d : α} (h : i < l.length) : l.getD i d ∈ l := by
  rw [List.getD_eq_getElem?_getD, List.getElem?_eq_getElem h, Option.getD_some]
  exact List.getElem_mem _
theorem mem_getD {α : Type} {l : List α} {x : α} (d : α) (h : x ∈ l) : ∃ i, i < l.length ∧ l.getD i d = x := by
  obtain ⟨i, hi, e⟩ := List.getElem_of_mem h
  exact ⟨i, hi, by rw [List.getD_eq_getElem?_getD, List.getElem?_eq_getElem hi, Option.getD_some, e]⟩
theorem vrec_mem {p : Int} {cs : List MCh} (h : VRec p cs) : ∀ c ∈ cs, VCh c := by
  intro c hc
  obtain ⟨i, hi, rfl⟩ := mem_getD chZ hc
  exact (h.2.2 i hi).1
theorem prec_trans {a b c : MCh} (h : Prec a b) (k : Prec b c) : Prec a c := by unfold Prec at *; omega
theorem prec_lt {p : Int} {cs : List MCh} (h : VRec p cs) : ∀ j i, i < j → j < cs.length → Prec (cs.getD i chZ) (cs.getD j chZ) := by
  intro j
  induction j with
  | zero => intro i hi; omega
  | succ j ih =>
    intro i hi hj
    have h1 := (h.2.2 (j + 1) hj).2 (by omega)
    rw [Nat.add_sub_cancel] at h1
    rcases Nat.lt_or_ge i j with h2 | h2
    · exact prec_trans (ih i h2 (by omega)) h1
    · obtain rfl : i = j := by omega
      exact h1
theorem vrec_apart {p : Int} {cs : List MCh} (h : VRec p cs) : Apart cs := by
  unfold Apart
  rw [List.pairwise_iff_getElem]
  intro i j hi hj hij
  have := prec_lt h j i hij hj
  rw [List.getD_eq_getElem?_getD, List.getElem?_eq_getElem hi, List.getD_eq_getElem?_getD, List.getElem?_eq_getElem hj] at this
  simp only [Option.getD_some] at this
  unfold Prec at this
  unfold keyNe
  omega

/-- The record can be applied. -/
def Okay (L : List MRow) (p pos : Int) (cs : List MCh) : Prop := VRec pos cs ∧ pos = p + 1 ∧ Fits L cs ∧ cnt L.length cs ≤ 2000
instance (L : List MRow) (p pos : Int) (cs : List MCh) : Decidable (Okay L p pos cs) := by unfold Okay; infer_instance

theorem rows_step {L : List MRow} (h : ∀ r ∈ L, VRow r) {c : MCh} (hc : VCh c) : ∀ r ∈ stepC L c, VRow r := by
  intro r hr
  rcases mem_step.1 hr with h1 | ⟨h1, rfl⟩
  · exact h r h1.1
  · exact hc.2.2.2.1 h1
theorem rows_all {cs : List MCh} : ∀ {L : List MRow}, (∀ r ∈ L, VRow r) → (∀ c ∈ cs, VCh c) → ∀ r ∈ stepAll L cs, VRow r := by
  induction cs with
  | nil => intro L h _; exact h
  | cons c cs ih => intro L h hc; exact ih (rows_step h (hc c (by simp))) (fun d hd => hc d (by simp [hd]))
theorem good_all {L : List MRow} {p pos : Int} {cs : List MCh} (h : GoodL L) (ho : Okay L p pos cs) : GoodL (stepAll L cs) := by
  refine ⟨srt_all h.1 cs, rows_all h.2.1 (vrec_mem ho.1), ?_⟩
  have := length_all h.1 (vrec_apart ho.1) ho.2.2.1
  have h2 := ho.2.2.2
  omega

/-! ### Logs -/
def recZ : MRec := ⟨0, []⟩
/-- The rows behind a log. -/
def rowsOf (R : List MRec) : List MRow := R.foldl (fun L r => stepAll L r.chs) []
/-- The records can be applied one after the other. -/
def Chn (R : List MRec) : Prop := ∀ i, i < R.length → Okay (rowsOf (R.take i)) i (R.getD i recZ).pos (R.getD i recZ).chs
theorem rowsOf_snoc (R : List MRec) (r : MRec) : rowsOf (R ++ [r]) = stepAll (rowsOf R) r.chs := by simp [rowsOf, List.foldl_append]
theorem take_snoc' {α : Type} {l : List α} {d : α} {i : Nat} (h : i < l.length) : l.take (i + 1) = l.take i ++ [l.getD i d] := by
  rw [List.take_succ_eq_append_getElem h, List.getD_eq_getElem?_getD, List.getElem?_eq_getElem h, Option.getD_some]
theorem rowsOf_succ {R : List MRec} {i : Nat} (h : i < R.length) : rowsOf (R.take (i + 1)) = stepAll (rowsOf (R.take i)) (R.getD i recZ).chs := by rw [take_snoc' (d := recZ) h, rowsOf_snoc]
theorem Chn.good {R : List MRec} (h : Chn R) : ∀ i, i ≤ R.length → GoodL (rowsOf (R.take i)) := by
  intro i
  induction i with
  | zero => intro _; simpa [rowsOf] using goodL_nil
  | succ i ih =>
    intro hi
    rw [rowsOf_succ hi]
    exact good_all (ih (by omega)) (h i hi)
theorem Chn.snoc {R : List MRec} (h : Chn R) {r : MRec} (ho : Okay (rowsOf R) R.length r.pos r.chs) : Chn (R ++ [r]) := by
  intro i hi
  rw [List.length_append, List.length_singleton] at hi
  rcases Nat.lt_or_ge i R.length with h1 | h1
  · rw [List.take_append_of_le_length (by omega), List.getD_eq_getElem?_getD, List.getElem?_append_left h1, ← List.getD_eq_getElem?_getD]
    exact h i h1
  · obtain rfl : i = R.length := by omega
    rw [List.take_append_of_le_length (Nat.le_refl _), List.take_length, List.getD_eq_getElem?_getD, List.getElem?_append_right (Nat.le_refl _), Nat.sub_self]
    exact ho
theorem Chn.nil : Chn [] := fun i hi => by simp at hi
theorem Chn.take {R : List MRec} (h : Chn R) (n : Nat) : Chn (R.take n) := fun i hi => by
  rw [List.length_take] at hi
  have := h i (by omega)
  rw [List.take_take, Nat.min_eq_left (by omega)]
  rw [List.getD_eq_getElem?_getD, List.getElem?_take_of_lt (by omega), ← List.getD_eq_getElem?_getD]
  exact this
end Go.Proofs.Ytaapggeaoacikaa
