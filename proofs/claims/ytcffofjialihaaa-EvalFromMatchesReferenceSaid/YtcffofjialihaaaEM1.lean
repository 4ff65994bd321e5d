/- PLAIN: a range divided into two. -/
import Derived.Test.YtcffofjialihaaaEK
set_option linter.unusedVariables false
set_option linter.unusedSimpArgs false
namespace Go.Proofs.Ytcffofjialihaaa
open Go.RowKit Go.Sort Go.ChangeMaps Go.MapKept

theorem sortOf_app {L : List MRow} {t c lo mid hi : Int} (h1 : lo ≤ mid) (h2 : mid < hi) {M1 M2 : List MRow} (s1 : SortOf L (selR t c lo mid) c M1) (s2 : SortOf L (selR t c (mid + 1) hi) c M2) : SortOf L (selR t c lo hi) c (M1 ++ M2) := by
  have e1 : (L.filter (selR t c lo hi)).filter (fun r => decide (vget r c ≤ mid)) = L.filter (selR t c lo mid) := by
    rw [List.filter_filter]
    congr 1
    funext r
    unfold selR
    rw [Bool.eq_iff_iff]
    simp
    omega
  have e2 : (L.filter (selR t c lo hi)).filter (fun r => !decide (vget r c ≤ mid)) = L.filter (selR t c (mid + 1) hi) := by
    rw [List.filter_filter]
    congr 1
    funext r
    unfold selR
    rw [Bool.eq_iff_iff]
    simp
    omega
  refine ⟨?_, List.pairwise_append.2 ⟨s1.2, s2.2, fun a ha b hb => ?_⟩⟩
  · refine (s1.1.append s2.1).trans ?_
    rw [← e1, ← e2]
    exact List.filter_append_perm _ _
  · have ha' := (List.mem_filter.1 (s1.1.mem_iff.1 ha)).2
    have hb' := (List.mem_filter.1 (s2.1.mem_iff.1 hb)).2
    unfold selR at ha' hb'
    simp at ha' hb'
    unfold rle
    omega
theorem wrap_add (a b : Int) : wrap64 (wrap64 a + b) = wrap64 (a + b) := by unfold wrap64; omega
theorem wrap_add2 (a b : Int) : wrap64 (a + wrap64 b) = wrap64 (a + b) := by unfold wrap64; omega
theorem sum_from (y : Int) : ∀ (M : List MRow) (s : Int), M.foldl (fun s r => wadd s (vget r y)) (wrap64 s) = wrap64 (s + (M.map fun r => vget r y).sum)
  | [], s => by simp
  | r :: M, s => by
    rw [List.foldl_cons, List.map_cons, List.sum_cons]
    have : wadd (wrap64 s) (vget r y) = wrap64 (s + vget r y) := wrap_add _ _
    rw [this, sum_from y M, Int.add_assoc]
theorem sum_wrap (y : Int) (M : List MRow) : sumM y M = wrap64 (M.map fun r => vget r y).sum := by
  have h := sum_from y M 0
  have hz : wrap64 0 = 0 := by unfold wrap64; omega
  rw [Int.zero_add, hz] at h
  exact h
theorem sum_app (y : Int) (M N : List MRow) : wrap64 (sumM y M + sumM y N) = sumM y (M ++ N) := by
  rw [sum_wrap, sum_wrap, sum_wrap, wrap_add, wrap_add2, List.map_append, List.sum_append]
theorem low_app (y : Int) (M N : List MRow) : ∃ v1 v2 w : Int, ∃ f1 f2 : Bool, extF ltB y M = (v1, f1) ∧ extF ltB y N = (v2, f2) ∧ extF ltB y (M ++ N) = (w, f1 || f2) ∧ (f1 = true → w ≤ v1) ∧ (f2 = true → w ≤ v2) ∧ (f1 = true ∨ f2 = true → (f1 = true ∧ w = v1) ∨ (f2 = true ∧ w = v2)) := by
  obtain ⟨a1, a2, -, -, a5⟩ := ext_facts y M
  obtain ⟨b1, b2, -, -, b5⟩ := ext_facts y N
  obtain ⟨c1, c2, -, -, c5⟩ := ext_facts y (M ++ N)
  refine ⟨(extF ltB y M).1, (extF ltB y N).1, (extF ltB y (M ++ N)).1, (extF ltB y M).2, (extF ltB y N).2, rfl, rfl, ?_, ?_, ?_, ?_⟩
  · rw [a2, b2]
    refine Prod.ext rfl ?_
    rw [c2, List.length_append, Bool.eq_iff_iff]
    simp
    omega
  · intro h
    rw [a2] at h
    obtain ⟨r, hr, e⟩ := a5 (of_decide_eq_true h)
    rw [← e]
    exact (c1 r (by simp [hr])).1
  · intro h
    rw [b2] at h
    obtain ⟨r, hr, e⟩ := b5 (of_decide_eq_true h)
    rw [← e]
    exact (c1 r (by simp [hr])).1
  · intro h
    rw [a2, b2] at h
    have hl : 0 < (M ++ N).length := by
      rw [List.length_append]
      rcases h with h | h <;> have := of_decide_eq_true h <;> omega
    obtain ⟨r, hr, e⟩ := c5 hl
    rcases List.mem_append.1 hr with hr | hr
    · left
      have hp : 0 < M.length := List.length_pos_of_mem hr
      refine ⟨by rw [a2]; exact decide_eq_true hp, ?_⟩
      obtain ⟨r', hr', e'⟩ := a5 hp
      have k1 := (a1 r hr).1
      have k2 := (c1 r' (by simp [hr'])).1
      omega
    · right
      have hp : 0 < N.length := List.length_pos_of_mem hr
      refine ⟨by rw [b2]; exact decide_eq_true hp, ?_⟩
      obtain ⟨r', hr', e'⟩ := b5 hp
      have k1 := (b1 r hr).1
      have k2 := (c1 r' (by simp [hr'])).1
      omega
theorem high_mem (y : Int) (M : List MRow) (h : 0 < M.length) : ∃ r ∈ M, vget r y = (extF gtB y M).1 := by
  obtain ⟨-, h2, h3⟩ := ext_high y M (0, false)
  rcases h3 with ⟨e, _⟩ | ⟨r, hr, e⟩
  · cases M with
    | nil => simp at h
    | cons x M =>
      have := (h2 x (by simp)).1
      rw [e] at this
      cases this
  · exact ⟨r, hr, e.symm⟩
theorem high_app (y : Int) (M N : List MRow) : ∃ v1 v2 w : Int, ∃ f1 f2 : Bool, extF gtB y M = (v1, f1) ∧ extF gtB y N = (v2, f2) ∧ extF gtB y (M ++ N) = (w, f1 || f2) ∧ (f1 = true → v1 ≤ w) ∧ (f2 = true → v2 ≤ w) ∧ (f1 = true ∨ f2 = true → (f1 = true ∧ w = v1) ∨ (f2 = true ∧ w = v2)) := by
  obtain ⟨a1, -, a2, -, -⟩ := ext_facts y M
  obtain ⟨b1, -, b2, -, -⟩ := ext_facts y N
  obtain ⟨c1, -, c2, -, -⟩ := ext_facts y (M ++ N)
  have a5 := high_mem y M
  have b5 := high_mem y N
  have c5 := high_mem y (M ++ N)
  refine ⟨(extF gtB y M).1, (extF gtB y N).1, (extF gtB y (M ++ N)).1, (extF gtB y M).2, (extF gtB y N).2, rfl, rfl, ?_, ?_, ?_, ?_⟩
  · rw [a2, b2]
    refine Prod.ext rfl ?_
    rw [c2, List.length_append, Bool.eq_iff_iff]
    simp
    omega
  · intro h
    rw [a2] at h
    obtain ⟨r, hr, e⟩ := a5 (of_decide_eq_true h)
    rw [← e]
    exact (c1 r (by simp [hr])).2
  · intro h
    rw [b2] at h
    obtain ⟨r, hr, e⟩ := b5 (of_decide_eq_true h)
    rw [← e]
    exact (c1 r (by simp [hr])).2
  · intro h
    rw [a2, b2] at h
    have hl : 0 < (M ++ N).length := by
      rw [List.length_append]
      rcases h with h | h <;> have := of_decide_eq_true h <;> omega
    obtain ⟨r, hr, e⟩ := c5 hl
    rcases List.mem_append.1 hr with hr | hr
    · left
      have hp : 0 < M.length := List.length_pos_of_mem hr
      refine ⟨by rw [a2]; exact decide_eq_true hp, ?_⟩
      obtain ⟨r', hr', e'⟩ := a5 hp
      have k1 := (a1 r hr).2
      have k2 := (c1 r' (by simp [hr'])).2
      omega
    · right
      have hp : 0 < N.length := List.length_pos_of_mem hr
      refine ⟨by rw [b2]; exact decide_eq_true hp, ?_⟩
      obtain ⟨r', hr', e'⟩ := b5 hp
      have k1 := (b1 r hr).2
      have k2 := (c1 r' (by simp [hr'])).2
      omega
/-- The rows of the parts are the rows of the whole. -/
theorem res_rows {q q1 q2 : MQ} (hv : validB q = true) (hv1 : validB q1 = true) (hv2 : validB q2 = true) (hk1 : q1.kind = q.kind) (hk2 : q2.kind = q.kind) (hy1 : q1.by_ = q.by_) (hy2 : q2.by_ = q.by_) (ho1 : q1.other = q.other) (ho2 : q2.other = q.other) (M N O : List MRow) :
    (resM q1 M O).rows ++ (resM q2 N O).rows = (resM q (M ++ N) O).rows := by
  unfold resM
  simp only [hv, hv1, hv2, hk1, hk2, hy1, hy2, ho1, ho2]
  simp only [Bool.true_eq_false, if_false]
  by_cases k3 : q.kind = 3
  · simp [k3]
  by_cases k4 : q.kind = 4
  · simp [k4]
  by_cases k5 : q.kind = 5
  · simp [k5]
  by_cases k6 : q.kind = 6
  · simp [k6]
  by_cases k7 : q.kind = 7
  · simp [k7]
  simp [k3, k4, k5, k6, k7]
end Go.Proofs.Ytcffofjialihaaa
