/- RECORDS THAT ARE DAMAGED; a list of changes of one's own, written to. -/
import Derived.Test.YtaapggeaoacikaaX9a
set_option linter.unusedVariables false
set_option linter.unusedSimpArgs false
namespace Go.Proofs.Ytaapggeaoacikaa
open Go.RowKit Go.Sort Go.ChangeMaps Go.MapKept

theorem bad_pos {L : List MRow} {p pos : Int} {cs : List MCh} (h : Okay L p pos cs) : ¬ Okay L p (pos + 1) cs := fun k => by
  have h1 := h.2.1
  have h2 := k.2.1
  omega
theorem bad_nil {L : List MRow} {p pos : Int} : ¬ Okay L p pos [] := fun k => by
  have := k.1.2.1.1
  simp at this
theorem bad_set {L : List MRow} {p pos : Int} {cs : List MCh} {i : Nat} (hi : i < cs.length) {c' : MCh} (hc : ¬ (VCh c' ∧ fitC L c')) : ¬ Okay L p pos (cs.set i c') := fun k => by
  have hm : c' ∈ cs.set i c' := List.mem_set hi c'
  exact hc ⟨vrec_mem k.1 _ hm, k.2.2.1 _ hm⟩
theorem bad_had {L : List MRow} {t k : Int} {had has : Bool} {o n : V3} (h : fitC L ⟨t, k, had, o, has, n⟩) : ¬ (VCh ⟨t, k, !had, V3.zero, has, n⟩ ∧ fitC L ⟨t, k, !had, V3.zero, has, n⟩) := fun ⟨_, h2⟩ => by
  unfold fitC at h h2
  cases had
  · simp at h h2
    rw [h] at h2
    cases h2
  · simp at h h2
    rw [h2] at h
    cases h
theorem bad_old {L : List MRow} {t k a b c : Int} {had has : Bool} {n : V3} (h : fitC L ⟨t, k, had, ⟨a, b, c⟩, has, n⟩) (hv : VCh ⟨t, k, had, ⟨a, b, c⟩, has, n⟩) : ¬ (VCh ⟨t, k, had, ⟨a, b + 1, c⟩, has, n⟩ ∧ fitC L ⟨t, k, had, ⟨a, b + 1, c⟩, has, n⟩) := fun ⟨h1, h2⟩ => by
  cases had
  · have e1 := hv.2.2.1.2 rfl
    have e2 := h1.2.2.1.2 rfl
    simp [V3.zero] at e1 e2
    omega
  · unfold fitC at h h2
    rw [if_pos rfl] at h h2
    rw [h] at h2
    have h4 : b = b + 1 := congrArg (fun r : MRow => r.v.b) (Option.some.inj h2)
    omega
theorem old_bound {t k a b c : Int} {had has : Bool} {n : V3} (hv : VCh ⟨t, k, had, ⟨a, b, c⟩, has, n⟩) : -1000000000 ≤ b ∧ b ≤ 1000000000 := by
  cases had
  · have e1 := hv.2.2.1.2 rfl
    simp [V3.zero] at e1
    omega
  · have e1 := hv.2.2.1.1 rfl
    exact e1.2.2.2.1

theorem ch_news {w : World} {b o : Nat} {cs : List MCh} (h : ∀ i, i < cs.length → ChAt w b (o + i * 10) (cs.getD i chZ)) : ∀ j u, (flatC cs)[j]? = some u → w.cell? ((⟨b, o, none⟩ : Addr).add j) = some u := by
  intro j u hj
  have hlt := (List.getElem?_eq_some_iff.1 hj).1
  rw [flatC_len] at hlt
  have h1 := flatC_get cs (j / 10) (j % 10) (by omega) (by omega)
  rw [show j / 10 * 10 + j % 10 = j by omega, hj] at h1
  have h2 := h (j / 10) (by omega) (j % 10) (by omega)
  unfold ccl at h1
  rw [Array.getElem?_toList] at h1
  rw [← h1] at h2
  rw [add_mk, ← h2]
  congr 1
  simp only [Addr.mk.injEq, true_and, and_true]
  omega
def CAll (w : World) (g : Nat) (cs : List MCh) : Prop := ∀ i, i < cs.length → ChAt w g (i * 10) (cs.getD i chZ)
theorem call_set {w : World} {g : Nat} {cs : List MCh} (h : CAll w g cs) {i j : Nat} (hi : i < cs.length) (hj : j < 10) {v : Value} {c' : MCh} (hc : ∀ j', j' < 10 → (chCells c')[j']? = if j' = j then some v else (chCells (cs.getD i chZ))[j']?) :
    CAll (w.setCell ⟨g, i * 10 + j, none⟩ v) g (cs.set i c') := by
  intro k hk jj hjj
  rw [List.length_set] at hk
  by_cases hki : k = i
  · subst hki
    rw [List.getD_eq_getElem?_getD, List.getElem?_set_self hi, Option.getD_some, hc jj hjj]
    by_cases hjj2 : jj = j
    · subst hjj2
      rw [if_pos rfl]
      have h1 := h k hk jj hjj
      have hs : (chCells (cs.getD k chZ))[jj]? = some ((chCells (cs.getD k chZ))[jj]'(by simpa [chCells] using hjj)) := Array.getElem?_eq_getElem _
      exact World.cell?_setCell_same _ _ _ (h1.trans hs)
    · rw [if_neg hjj2, World.cell?_setCell_other _ _ _ _ (fun e => by simp at e <;> omega)]
      exact h k hk jj hjj
  · rw [List.getD_eq_getElem?_getD, List.getElem?_set_ne (fun e => hki e.symm), ← List.getD_eq_getElem?_getD, World.cell?_setCell_other _ _ _ _ (fun e => by simp at e <;> omega)]
    exact h k hk jj hjj
theorem call_own {w : World} {B g n cap : Nat} {cs : List MCh} (h : OwnC w B (.slice (some ⟨g, 0, none⟩) n cap) cs) (h1 : 1 ≤ cs.length) : CAll w g cs := by
  obtain ⟨a, n', cap', e, hn, _, _, hc⟩ := h.chS
  simp at e
  obtain ⟨rfl, rfl, rfl⟩ := e
  obtain ⟨b, o, e2, _, hc2⟩ := hc (by omega)
  simp at e2
  obtain ⟨rfl, rfl⟩ := e2
  intro i hi
  have := hc2 i (by omega)
  rwa [Nat.zero_add] at this
theorem call_chS {w : World} {g n cap : Nat} {cs : List MCh} (h : CAll w g cs) (hn : n = cs.length) (h1 : n ≤ cap) (h2 : cap ≤ 9223372036854775807) (hg : g < w.heap.size) : ChS w (.slice (some ⟨g, 0, none⟩) n cap) cs :=
  ⟨_, _, _, rfl, hn, h1, h2, fun _ => ⟨g, 0, rfl, hg, fun i hi => by rw [Nat.zero_add]; exact h i (by omega)⟩⟩
theorem call_below {w w' : World} {g : Nat} {cs : List MCh} (h : CAll w g cs) (hg : g < w.heap.size) (k : Below w.heap.size w w') : CAll w' g cs := fun i hi => (h i hi).below hg k
theorem cell_if {c c' : MCh} {j : Nat} {v : Value} (h : ∀ j' : Fin 10, (chCells c')[j'.val]? = if j'.val = j then some v else (chCells c)[j'.val]?) : ∀ j', j' < 10 → (chCells c')[j']? = if j' = j then some v else (chCells c)[j']? := fun j' hj' => h ⟨j', hj'⟩
theorem ch_set2 (t k : Int) (had x has : Bool) (o n : V3) : ∀ j', j' < 10 → (chCells ⟨t, k, x, o, has, n⟩)[j']? = if j' = 2 then some (.bool x) else (chCells ⟨t, k, had, o, has, n⟩)[j']? := fun j' hj' => by
  match j', hj' with
  | 0, _ | 1, _ | 2, _ | 3, _ | 4, _ | 5, _ | 6, _ | 7, _ | 8, _ | 9, _ => simp [chCells]
theorem ch_set3 (t k : Int) (had has : Bool) (a b c x : Int) (n : V3) : ∀ j', j' < 10 → (chCells ⟨t, k, had, ⟨x, b, c⟩, has, n⟩)[j']? = if j' = 3 then some (.int .i64 x) else (chCells ⟨t, k, had, ⟨a, b, c⟩, has, n⟩)[j']? := fun j' hj' => by
  match j', hj' with
  | 0, _ | 1, _ | 2, _ | 3, _ | 4, _ | 5, _ | 6, _ | 7, _ | 8, _ | 9, _ => simp [chCells]
theorem ch_set4 (t k : Int) (had has : Bool) (a b c x : Int) (n : V3) : ∀ j', j' < 10 → (chCells ⟨t, k, had, ⟨a, x, c⟩, has, n⟩)[j']? = if j' = 4 then some (.int .i64 x) else (chCells ⟨t, k, had, ⟨a, b, c⟩, has, n⟩)[j']? := fun j' hj' => by
  match j', hj' with
  | 0, _ | 1, _ | 2, _ | 3, _ | 4, _ | 5, _ | 6, _ | 7, _ | 8, _ | 9, _ => simp [chCells]
theorem ch_set5 (t k : Int) (had has : Bool) (a b c x : Int) (n : V3) : ∀ j', j' < 10 → (chCells ⟨t, k, had, ⟨a, b, x⟩, has, n⟩)[j']? = if j' = 5 then some (.int .i64 x) else (chCells ⟨t, k, had, ⟨a, b, c⟩, has, n⟩)[j']? := fun j' hj' => by
  match j', hj' with
  | 0, _ | 1, _ | 2, _ | 3, _ | 4, _ | 5, _ | 6, _ | 7, _ | 8, _ | 9, _ => simp [chCells]
/-- Change i with Had turned and Old zero. -/
theorem call_had {w : World} {g : Nat} {cs : List MCh} (h : CAll w g cs) {i : Nat} (hi : i < cs.length) {t k a b c : Int} {had has : Bool} {n : V3} (e : cs.getD i chZ = ⟨t, k, had, ⟨a, b, c⟩, has, n⟩) (x : Bool) :
    CAll ((((w.setCell ⟨g, i * 10 + 2, none⟩ (.bool x)).setCell ⟨g, i * 10 + 3, none⟩ (.int .i64 0)).setCell ⟨g, i * 10 + 4, none⟩ (.int .i64 0)).setCell ⟨g, i * 10 + 5, none⟩ (.int .i64 0)) g (cs.set i ⟨t, k, x, ⟨0, 0, 0⟩, has, n⟩) := by
  have gd : ∀ (L : List MCh) (d : MCh), i < L.length → (L.set i d).getD i chZ = d := fun L d hL => by rw [List.getD_eq_getElem?_getD, List.getElem?_set_self hL]; rfl
  have h1 := call_set h hi (j := 2) (by omega) (v := .bool x) (c' := ⟨t, k, x, ⟨a, b, c⟩, has, n⟩) (by rw [e]; exact ch_set2 _ _ _ _ _ _ _)
  have h2 := call_set h1 (i := i) (by simpa using hi) (j := 3) (by omega) (v := .int .i64 0) (c' := ⟨t, k, x, ⟨0, b, c⟩, has, n⟩) (by rw [gd _ _ hi]; exact ch_set3 _ _ _ _ _ _ _ _ _)
  have h3 := call_set h2 (i := i) (by simpa using hi) (j := 4) (by omega) (v := .int .i64 0) (c' := ⟨t, k, x, ⟨0, 0, c⟩, has, n⟩) (by rw [gd _ _ (by simpa using hi)]; exact ch_set4 _ _ _ _ _ _ _ _ _)
  have h4 := call_set h3 (i := i) (by simpa using hi) (j := 5) (by omega) (v := .int .i64 0) (c' := ⟨t, k, x, ⟨0, 0, 0⟩, has, n⟩) (by rw [gd _ _ (by simpa using hi)]; exact ch_set5 _ _ _ _ _ _ _ _ _)
  simpa [List.set_set] using h4
theorem call_old {w : World} {g : Nat} {cs : List MCh} (h : CAll w g cs) {i : Nat} (hi : i < cs.length) {t k a b c : Int} {had has : Bool} {n : V3} (e : cs.getD i chZ = ⟨t, k, had, ⟨a, b, c⟩, has, n⟩) (x : Int) :
    CAll (w.setCell ⟨g, i * 10 + 4, none⟩ (.int .i64 x)) g (cs.set i ⟨t, k, had, ⟨a, x, c⟩, has, n⟩) :=
  call_set h hi (by omega) (by rw [e]; exact ch_set4 _ _ _ _ _ _ _ _ _)
end Go.Proofs.Ytaapggeaoacikaa
