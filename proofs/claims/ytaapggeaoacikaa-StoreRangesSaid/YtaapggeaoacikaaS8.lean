/- A DIVISION OF ALL VALUES (plain): the two ranges, one behind the other. -/
import Derived.Test.YtaapggeaoacikaaL1
set_option linter.unusedVariables false
set_option linter.unusedSimpArgs false
namespace Go.Proofs.Ytaapggeaoacikaa
open Go.RowKit

theorem filter_add {p q s : MRow → Bool} : ∀ {L : List MRow}, (∀ r ∈ L, s r = (p r || q r) ∧ (p r && q r) = false) → (L.filter p).length + (L.filter q).length = (L.filter s).length := by
  intro L
  induction L with
  | nil => intro _; rfl
  | cons r L ih =>
    intro h
    have h1 := h r (by simp)
    have h2 := ih (fun x hx => h x (by simp [hx]))
    simp only [List.filter_cons]
    rw [h1.1]
    have h3 := h1.2
    cases hp : p r <;> cases hq : q r <;> simp [hp, hq] at h3 ⊢ <;> omega
theorem vget_bound {r : MRow} (h : VRow r) {c : Int} (h1 : 0 ≤ c) (h2 : c ≤ 3) : -1000000000 ≤ vget r c ∧ vget r c ≤ 1000000000 := by
  obtain ⟨_, hk, ha, hb, hc⟩ := h
  unfold vget
  split
  · omega
  · split
    · omega
    · split
      · omega
      · split
        · omega
        · omega
/-- What the law asks of both ranges of a division. -/
structure Div (L : List MRow) (t c cut : Int) (A B : List MRow) : Prop where
  len : A.length + B.length = (L.filter (selT t)).length
  small : ∀ i, i < A.length → vget ((A ++ B).getD i rowZ) c ≤ cut
  big : ∀ i, A.length ≤ i → i < (A ++ B).length → cut < vget ((A ++ B).getD i rowZ) c
  up : ∀ i, i + 1 < (A ++ B).length → vget ((A ++ B).getD i rowZ) c < vget ((A ++ B).getD (i + 1) rowZ) c ∨ vget ((A ++ B).getD i rowZ) c = vget ((A ++ B).getD (i + 1) rowZ) c ∧ ((A ++ B).getD i rowZ).k < ((A ++ B).getD (i + 1) rowZ).k
  get : ∀ i, i < (A ++ B).length → look L t ((A ++ B).getD i rowZ).k = some ((A ++ B).getD i rowZ)
theorem getD_app {A B : List MRow} {i : Nat} (h : i < (A ++ B).length) : (A ++ B).getD i rowZ ∈ A ++ B := by
  rw [List.getD_eq_getElem?_getD, List.getElem?_eq_getElem h]
  exact List.getElem_mem _
theorem div_of {L : List MRow} (hs : Srt L) (hv : ∀ r ∈ L, VRow r) {t c cut : Int} (h1 : 0 ≤ c) (h2 : c ≤ 3) (hc : -1000 ≤ cut ∧ cut ≤ 1000) {A B : List MRow} (hA : SortOf L (selR t c (-1000000000) cut) c A) (hB : SortOf L (selR t c (cut + 1) 1000000000) c B) : Div L t c cut A B := by
  have mA : ∀ r ∈ A, r ∈ L ∧ r.t = t ∧ vget r c ≤ cut := fun r hr => by
    have := (List.mem_filter.1 (hA.1.mem_iff.1 hr))
    simp [selR] at this
    exact ⟨this.1, this.2.1, this.2.2.2⟩
  have mB : ∀ r ∈ B, r ∈ L ∧ r.t = t ∧ cut < vget r c := fun r hr => by
    have := (List.mem_filter.1 (hB.1.mem_iff.1 hr))
    simp [selR] at this
    exact ⟨this.1, this.2.1, by omega⟩
  have mAB : ∀ r ∈ A ++ B, r ∈ L ∧ r.t = t := fun r hr => by
    rcases List.mem_append.1 hr with h | h
    · exact ⟨(mA r h).1, (mA r h).2.1⟩
    · exact ⟨(mB r h).1, (mB r h).2.1⟩
  have nd : L.Nodup := hs.imp (fun {a b} hab e => by subst e; exact rlt_irr hab)
  have nA : A.Nodup := hA.1.nodup_iff.2 (nd.filter _)
  have nB : B.Nodup := hB.1.nodup_iff.2 (nd.filter _)
  have pw : (A ++ B).Pairwise (fun x y => rle c x y ∧ x ≠ y) := by
    rw [List.pairwise_append]
    refine ⟨hA.2.and nA, hB.2.and nB, fun x hx y hy => ?_⟩
    have hx' := mA x hx
    have hy' := mB y hy
    refine ⟨.inl (by omega), fun e => ?_⟩
    subst e
    omega
  refine ⟨?_, fun i hi => ?_, fun i hi hl => ?_, fun i hi => ?_, fun i hi => ?_⟩
  · rw [hA.1.length_eq, hB.1.length_eq]
    refine filter_add fun r hr => ?_
    have hb := vget_bound (hv r hr) h1 h2
    by_cases ht : r.t = t
    · by_cases hcut : vget r c ≤ cut
      · have e1 : selR t c (-1000000000) cut r = true := by simp [selR, ht]; omega
        have e2 : selR t c (cut + 1) 1000000000 r = false := by simp [selR, ht]; omega
        rw [e1, e2]
        simp [selT, ht]
      · have e1 : selR t c (-1000000000) cut r = false := by simp [selR, ht]; omega
        have e2 : selR t c (cut + 1) 1000000000 r = true := by simp [selR, ht]; omega
        rw [e1, e2]
        simp [selT, ht]
    · simp [selR, selT, ht]
  · have h : (A ++ B).getD i rowZ = A.getD i rowZ := by
      rw [List.getD_eq_getElem?_getD, List.getElem?_append_left hi, ← List.getD_eq_getElem?_getD]
    rw [h]
    refine (mA _ ?_).2.2
    rw [List.getD_eq_getElem?_getD, List.getElem?_eq_getElem hi]
    exact List.getElem_mem _
  · have hl' : i - A.length < B.length := by rw [List.length_append] at hl; omega
    have h : (A ++ B).getD i rowZ = B.getD (i - A.length) rowZ := by
      rw [List.getD_eq_getElem?_getD, List.getElem?_append_right hi, ← List.getD_eq_getElem?_getD]
    rw [h]
    refine (mB _ ?_).2.2
    rw [List.getD_eq_getElem?_getD, List.getElem?_eq_getElem hl']
    exact List.getElem_mem _
  · have h3 := List.pairwise_iff_getElem.1 pw i (i + 1) (by omega) hi (by omega)
    have e1 : (A ++ B).getD i rowZ = (A ++ B)[i] := by rw [List.getD_eq_getElem?_getD, List.getElem?_eq_getElem (by omega)]; rfl
    have e2 : (A ++ B).getD (i + 1) rowZ = (A ++ B)[i + 1] := by rw [List.getD_eq_getElem?_getD, List.getElem?_eq_getElem hi]; rfl
    rw [e1, e2]
    rcases h3.1 with h4 | ⟨h4, h5⟩
    · exact .inl h4
    · refine .inr ⟨h4, ?_⟩
      have q1 := mAB _ (List.getElem_mem (l := A ++ B) (n := i) (by omega))
      have q2 := mAB _ (List.getElem_mem (l := A ++ B) (n := i + 1) hi)
      have : (A ++ B)[i].k ≠ (A ++ B)[i + 1].k := fun e => h3.2 (srt_inj hs q1.1 q2.1 (by rw [q1.2, q2.2]) e)
      omega
  · have q := mAB _ (getD_app hi)
    exact (look_some hs).2 ⟨q.1, q.2, rfl⟩
theorem keys_all {L : List MRow} (hs : Srt L) (hv : ∀ r ∈ L, VRow r) {t : Int} {M : List MRow} (hM : SortOf L (selR t 0 1 1000000) 0 M) : M = L.filter (selT t) := by
  have e : L.filter (selR t 0 1 1000000) = L.filter (selT t) := List.filter_congr fun r hr => by
    have hk := (hv r hr).2.1
    simp [selR, selT, vget]
    omega
  have h1 : SortOf L (selT t) 0 M := ⟨by rw [← e]; exact hM.1, hM.2⟩
  exact sortOf_unique hs selT_t h1 (sortOf_filter hs t)
end Go.Proofs.Ytaapggeaoacikaa
