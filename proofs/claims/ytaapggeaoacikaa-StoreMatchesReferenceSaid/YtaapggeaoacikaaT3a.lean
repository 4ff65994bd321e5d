/- BOTH STATES beside each other: the store's and the reference's; what a record makes of them. -/
import Derived.Test.YtaapggeaoacikaaL1
import Derived.Test.YtaapggeaoacikaaX7
import Derived.Test.YtaapggeaoacikaaK5
set_option linter.unusedVariables false
set_option linter.unusedSimpArgs false
namespace Go.Proofs.Ytaapggeaoacikaa
open Go.RowKit Go.Sort Go.ChangeMaps Go.MapKept

/-- The store's state (b, m) with the rows L1, the reference's (b', v) with the rows L2, apart, both younger than w0. -/
def Mix (w0 w : World) (b : Nat) (m : Option Nat) (b' : Nat) (v : Value) (L1 : List MRow) (p1 : Int) (L2 : List MRow) (p2 : Int) : Prop :=
  StAt w b m L1 p1 ∧ RfAt w b' v L2 p2 ∧ (∀ i, foot b m i → ¬ rfoot b' v i) ∧ ((∀ i, foot b m i → w0.heap.size ≤ i) ∧ ∀ i, rfoot b' v i → w0.heap.size ≤ i) ∧ Below w0.heap.size w0 w
section
variable {w0 w w' : World} {b b' : Nat} {m m' : Option Nat} {v v' : Value} {L1 L2 L' : List MRow} {p1 p2 p' : Int}
theorem foot_lt (h : StAt w b m L1 p1) {i : Nat} (hi : foot b m i) : i < w.heap.size := by
  rcases hi with rfl | e
  · exact h.lt
  · exact h.mlt e
theorem rfoot_lt (h : RfAt w b v L1 p1) {i : Nat} (hi : rfoot b v i) : i < w.heap.size := by
  rcases hi with rfl | e
  · exact h.lt
  · exact (h.own_lt e).1
theorem Mix.below (h : Mix w0 w b m b' v L1 p1 L2 p2) (k : Below w.heap.size w w') : Mix w0 w' b m b' v L1 p1 L2 p2 :=
  ⟨h.1.below k, h.2.1.below k, h.2.2.1, h.2.2.2.1, bt h.2.2.2.2 k⟩
theorem Mix.kept (h : Mix w0 w b m b' v L1 p1 L2 p2) {F : Nat → Prop} (k : Kept F w w') (h0 : ∀ i, F i → w0.heap.size ≤ i) (h1 : ∀ i, F i → ¬ foot b m i) (h2 : ∀ i, F i → ¬ rfoot b' v i) : Mix w0 w' b m b' v L1 p1 L2 p2 :=
  ⟨h.1.kept k (fun i hf hi => h1 i hi hf), h.2.1.kept k (fun i hf hi => h2 i hi hf), h.2.2.1, h.2.2.2.1, h.2.2.2.2.trans (k.below h.2.2.2.2.size h0)⟩
theorem Mix.code (h : Mix w0 w b m b' v L1 p1 L2 p2) (hst : StAt w' b m' L' p') (hk : Kept (foot b m) w w') (hm : m' = m ∨ ∃ x, m' = some x ∧ w.heap.size ≤ x) : Mix w0 w' b m' b' v L' p' L2 p2 := by
  refine ⟨hst, h.2.1.kept hk (fun i hr hf => h.2.2.1 i hf hr), fun i hf hr => ?_, ⟨fun i hf => ?_, h.2.2.2.1.2⟩, h.2.2.2.2.trans (hk.below h.2.2.2.2.size h.2.2.2.1.1)⟩
  · rcases hm with rfl | ⟨x, rfl, hx⟩
    · exact h.2.2.1 i hf hr
    · rcases hf with rfl | e
      · exact h.2.2.1 _ (.inl rfl) hr
      · have := rfoot_lt h.2.1 hr
        simp at e
        omega
  · rcases hm with rfl | ⟨x, rfl, hx⟩
    · exact h.2.2.2.1.1 i hf
    · rcases hf with rfl | e
      · exact h.2.2.2.1.1 _ (.inl rfl)
      · have := h.2.2.2.2.size
        simp at e
        omega
theorem Mix.ref (h : Mix w0 w b m b' v L1 p1 L2 p2) (hst : RfAt w' b' v' L' p') (hk : Kept (fun k => k = b') w w') (ho : ∀ i, v'.ownBlock = some i → w.heap.size ≤ i) : Mix w0 w' b m b' v' L1 p1 L' p' := by
  refine ⟨h.1.kept hk (fun i hf e => h.2.2.1 i hf (.inl e)), hst, fun i hf hr => ?_, ⟨h.2.2.2.1.1, fun i hr => ?_⟩, h.2.2.2.2.trans (hk.below h.2.2.2.2.size (fun k e => e ▸ h.2.2.2.1.2 _ (.inl rfl)))⟩
  · rcases hr with e | e
    · exact h.2.2.1 i hf (.inl e)
    · have := ho i e
      have := foot_lt h.1 hf
      omega
  · rcases hr with e | e
    · exact h.2.2.2.1.2 i (.inl e)
    · have := ho i e
      have := h.2.2.2.2.size
      omega

/-- What a record makes of a state, with the answer c. -/
def Res (L : List MRow) (p pos : Int) (cs : List MCh) (c : Int) (L' : List MRow) (p' : Int) : Prop :=
  (Okay L p pos cs ∧ c = 0 ∧ L' = stepAll L cs ∧ p' = pos) ∨ (¬ Okay L p pos cs ∧ c = 40 ∧ L' = L ∧ p' = p)
theorem res_some (L : List MRow) (p pos : Int) (cs : List MCh) : ∃ c L' p', Res L p pos cs c L' p' := by
  by_cases h : Okay L p pos cs
  · exact ⟨_, _, _, .inl ⟨h, rfl, rfl, rfl⟩⟩
  · exact ⟨_, _, _, .inr ⟨h, rfl, rfl, rfl⟩⟩

/-- Both states, and a block yb beside them that holds o. -/
def QY (w0 : World) (b b' yb : Nat) (o : Obj) (L1 : List MRow) (p1 : Int) (L2 : List MRow) (p2 : Int) (w : World) : Prop :=
  ∃ m v, Mix w0 w b m b' v L1 p1 L2 p2 ∧ w.heap[yb]? = some o ∧ ¬ foot b m yb ∧ ¬ rfoot b' v yb
variable {yb : Nat} {o : Obj} {cs : List MCh} {sl : Value} {pos c : Int} {L : List MRow} {p : Int}
theorem QY.old (h : QY w0 b b' yb o L1 p1 L2 p2 w) : Below w0.heap.size w0 w := by
  obtain ⟨m, v, hM, _⟩ := h
  exact hM.2.2.2.2
theorem QY.blk (h : QY w0 b b' yb o L1 p1 L2 p2 w) : w.heap[yb]? = some o := by
  obtain ⟨m, v, hM, hy, _⟩ := h
  exact hy
theorem QY.below (h : QY w0 b b' yb o L1 p1 L2 p2 w) (k : Below w.heap.size w w') : QY w0 b b' yb o L1 p1 L2 p2 w' := by
  obtain ⟨m, v, hM, hy, h1, h2⟩ := h
  exact ⟨m, v, hM.below k, (k.block _ (lt_of_block hy)).trans hy, h1, h2⟩
theorem q15 (h : QY w0 b b' yb o L p L2 p2 w) (hv : ChS w0 sl cs) (hr : Res L p pos cs c L' p') :
    Calls Try.prog 15 #[.pointer (some ⟨b, 0, none⟩), .agg #[.int .i64 pos, sl]] w fun e w' => e = .returned (.int .i64 c) ∧ QY w0 b b' yb o L' p' L2 p2 w' := by
  obtain ⟨m, v, hM, hy, hy1, hy2⟩ := h
  rcases hr with ⟨hok, rfl, rfl, rfl⟩ | ⟨hno, rfl, rfl, rfl⟩
  · refine (apply_ok hM.1 (hv.below hM.2.2.2.2) hok).mono fun e w' hw => ?_
    obtain ⟨rfl, m', hst, hk, hm⟩ := hw
    refine ⟨rfl, m', v, hM.code hst hk hm, (hk.block _ (lt_of_block hy) hy1).trans hy, ?_, hy2⟩
    rcases hm with rfl | ⟨x, rfl, hx⟩
    · exact hy1
    · have := lt_of_block hy
      rintro (e | e)
      · exact hy1 (.inl e)
      · simp at e
        omega
  · exact (apply_bad hM.1 (hv.below hM.2.2.2.2) hno).mono fun e w' hw => ⟨hw.1, (show QY w0 b b' yb o L' p' L2 p2 w from ⟨m, v, hM, hy, hy1, hy2⟩).below hw.2⟩
theorem q16 (h : QY w0 b b' yb o L1 p1 L p w) (hv : ChS w0 sl cs) (hr : Res L p pos cs c L' p') :
    Calls Try.prog 16 #[.pointer (some ⟨b', 0, none⟩), .agg #[.int .i64 pos, sl]] w fun e w' => e = .returned (.int .i64 c) ∧ QY w0 b b' yb o L1 p1 L' p' w' := by
  obtain ⟨m, v, hM, hy, hy1, hy2⟩ := h
  refine (applyR_any hM.2.1 (hv.below hM.2.2.2.2)).mono fun e w' hw => ?_
  rcases hw with ⟨hok, rfl, v', hi, hk, ho⟩ | ⟨hno, rfl, hb⟩
  · rcases hr with ⟨_, rfl, rfl, rfl⟩ | ⟨hno, _⟩
    · refine ⟨rfl, m, v', hM.ref hi hk ho, (hk.block _ (lt_of_block hy) (fun e => hy2 (.inl e))).trans hy, hy1, ?_⟩
      rintro (e | e)
      · exact hy2 (.inl e)
      · have := ho _ e
        have := lt_of_block hy
        omega
    · exact absurd hok hno
  · rcases hr with ⟨hok, _⟩ | ⟨_, rfl, rfl, rfl⟩
    · exact absurd hok hno
    · exact ⟨rfl, (show QY w0 b b' yb o L1 p1 L' p' w from ⟨m, v, hM, hy, hy1, hy2⟩).below hb⟩
theorem q17 (h : QY w0 b b' yb o L p L p w) :
    Calls Try.prog 17 #[.pointer (some ⟨b, 0, none⟩), .pointer (some ⟨b', 0, none⟩)] w fun e w' => e = .returned (.bool true) ∧ QY w0 b b' yb o L p L p w' := by
  have h' := h
  obtain ⟨m, v, hM, hy, hy1, hy2⟩ := h
  exact (same_true hM.1 hM.2.1).mono fun e w' hw => ⟨hw.1, h'.below hw.2⟩
theorem QY.cells {x y : Value} {t : TypeId} (h : QY w0 b b' yb (.cells #[x, y] t (0, 0)) L1 p1 L2 p2 w) : w.cell? ⟨yb, 0, none⟩ = some x ∧ w.cell? ⟨yb, 1, none⟩ = some y := by
  have hb := h.blk
  exact ⟨by simp [World.cell?, hb], by simp [World.cell?, hb]⟩
theorem QY.frozen {x y : Value} {t : TypeId} (h : QY w0 b b' yb (.cells #[x, y] t (0, 0)) L1 p1 L2 p2 w) (j : Nat) : w.frozen? ⟨yb, j, none⟩ = false := by
  have hb := h.blk
  simp [World.frozen?, hb]
theorem QY.set {x : Value} {j : Nat} {o' : Obj} (h : QY w0 b b' yb o L1 p1 L2 p2 w) (hy : w0.heap.size ≤ yb) (ho : (w.setCell ⟨yb, j, none⟩ x).heap[yb]? = some o') : QY w0 b b' yb o' L1 p1 L2 p2 (w.setCell ⟨yb, j, none⟩ x) := by
  obtain ⟨m, v, hM, _, h1, h2⟩ := h
  exact ⟨m, v, hM.kept (F := fun i => i = yb) (Kept.setCell (F := fun i => i = yb) (p := ⟨yb, j, none⟩) (Kept.refl _ _) (.inl rfl) x) (fun i e => e ▸ hy) (fun i e => e ▸ h1) (fun i e => e ▸ h2), ho, h1, h2⟩
theorem QY.new (h : Mix w0 w b m b' v L1 p1 L2 p2) (cs : Array Value) (t : TypeId) : QY w0 b b' w.heap.size (.cells cs t (0, 0)) L1 p1 L2 p2 (w.alloc (.cells cs t)) :=
  ⟨m, v, h.below (ba w _), heap_alloc_new w _, fun hf => Nat.lt_irrefl _ (foot_lt h.1 hf), fun hf => Nat.lt_irrefl _ (rfoot_lt h.2.1 hf)⟩
theorem below_drew (w : World) : Below w.heap.size w w.drew := ⟨rfl, rfl, rfl, Nat.le_refl _, fun _ _ => rfl⟩
end
end Go.Proofs.Ytaapggeaoacikaa
