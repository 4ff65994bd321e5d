/- A RANGE OVER THE MAP's ENTRIES UNDER WAY: what has come, what is still to come. -/
import Derived.Test.YtaapggeaoacikaaK6
set_option linter.unusedVariables false
set_option linter.unusedSimpArgs false
namespace Go.Proofs.Ytaapggeaoacikaa
open Go.RowKit Go.Sort Go.ChangeMaps Go.MapKept

/-- Block b is a map with the rows of L; block r an iterator over it, to which those of rest are still to come. -/
def StRng (W : World) (b r : Nat) (L rest : List MRow) : Prop :=
  ∃ es clock since seen c0, W.heap[b]? = some (.map es clock) ∧ Stamped es clock ∧ Ent es.toList L ∧ Wd L ∧ W.heap[r]? = some (.mapIter (some b) since seen c0) ∧ (∀ x ∈ es.toList, x.born < since) ∧ Ent (leftOf es seen).toList rest ∧ since ≤ c0 ∧ since ≤ clock

theorem StRng.left_eq {W : World} {b r : Nat} {L rest : List MRow} (h : StRng W b r L rest) : W.rangeLeft b r = rest.length := by
  obtain ⟨es, clock, since, seen, c0, hb, hs, he, hw, hr, hold, hl, _⟩ := h
  simp only [World.rangeLeft, hb, hr]
  have := hl.length_eq
  simpa using this
theorem StRng.ne {W : World} {b r : Nat} {L rest : List MRow} (h : StRng W b r L rest) : r ≠ b := by
  obtain ⟨es, clock, since, seen, c0, hb, hs, he, hw, hr, _⟩ := h
  intro e
  rw [e, hb] at hr
  cases hr
theorem StRng.lt {W : World} {b r : Nat} {L rest : List MRow} (h : StRng W b r L rest) : r < W.heap.size ∧ b < W.heap.size := by
  obtain ⟨es, clock, since, seen, c0, hb, hs, he, hw, hr, _⟩ := h
  exact ⟨lt_of_block hr, lt_of_block hb⟩
theorem StRng.kept {F : Nat → Prop} {W W' : World} {b r : Nat} {L rest : List MRow} (h : StRng W b r L rest) (k : Kept F W W') (hb : ¬ F b) (hr : ¬ F r) : StRng W' b r L rest := by
  have hlt := h.lt
  obtain ⟨es, clock, since, seen, c0, h1, hs, he, hw, h2, h3⟩ := h
  exact ⟨es, clock, since, seen, c0, (k.block b hlt.2 hb).trans h1, hs, he, hw, (k.block r hlt.1 hr).trans h2, h3⟩

theorem StMap.range {W : World} {b : Nat} {L : List MRow} (h : StMap W b L) :
    (Instr.range 69 (.map (some b))).run Try.prog W = .ok (.pointer (some ⟨W.heap.size, 0, none⟩)) (W.alloc (.mapIter (some b) (match W.heap[b]? with | some (.map _ c) => c | _ => 0) #[] (match W.heap[b]? with | some (.map _ c) => c | _ => 0))) ∧
    StRng (W.alloc (.mapIter (some b) (match W.heap[b]? with | some (.map _ c) => c | _ => 0) #[] (match W.heap[b]? with | some (.map _ c) => c | _ => 0))) b W.heap.size L L := by
  have hlt := h.lt
  obtain ⟨es, clock, hb, hs, he, hw⟩ := h
  rw [hb]
  refine ⟨run_range_map W 69 78 50 b es clock Try.underlying69 hb, es, clock, clock, #[], clock, ((MapKept.heap_alloc W _).2 b hlt).trans hb, hs, he, hw, (MapKept.heap_alloc W _).1, ((stamped_iff es clock).1 hs).1, ?_, Nat.le_refl _, Nat.le_refl _⟩
  have : (leftOf es #[]).toList = es.toList := by simp [leftOf]
  rw [this]
  exact he

theorem left_push {l : List MapEntry} {seen : Array Nat} {e : MapEntry} (hn : (l.map (·.born)).Nodup) (he : e ∈ l) (hs : seen.contains e.born = false) :
    (l.filter fun x => !seen.contains x.born).Perm (e :: l.filter fun x => !(seen.push e.born).contains x.born) := by
  induction l with
  | nil => simp at he
  | cons a l ih =>
    rw [List.map_cons, List.nodup_cons] at hn
    obtain ⟨h1, h2⟩ := hn
    have hpush : ∀ x : MapEntry, (seen.push e.born).contains x.born = (seen.contains x.born || x.born == e.born) := fun x => by
      rw [Bool.eq_iff_iff]
      simp
    by_cases hae : a = e
    · subst hae
      have ha : (!seen.contains a.born) = true := by rw [hs]; rfl
      have ha2 : (!(seen.push a.born).contains a.born) = false := by rw [hpush]; simp
      rw [List.filter_cons_of_pos (p := fun x : MapEntry => !seen.contains x.born) ha, List.filter_cons_of_neg (p := fun x : MapEntry => !(seen.push a.born).contains x.born) (by rw [ha2]; exact Bool.false_ne_true)]
      refine List.Perm.cons _ (List.Perm.of_eq (List.filter_congr fun x hx => ?_))
      rw [hpush]
      have : (x.born == a.born) = false := by
        simp only [beq_eq_false_iff_ne]
        exact fun q => h1 (List.mem_map.2 ⟨x, hx, q⟩)
      simp [this]
    · have hel : e ∈ l := by
        rcases List.mem_cons.1 he with q | q
        · exact absurd q.symm hae
        · exact q
      have hab : (a.born == e.born) = false := by
        simp only [beq_eq_false_iff_ne]
        exact fun q => h1 (List.mem_map.2 ⟨e, hel, q.symm⟩)
      by_cases ha : seen.contains a.born = true
      · rw [List.filter_cons_of_neg (p := fun x : MapEntry => !seen.contains x.born) (by rw [ha]; simp), List.filter_cons_of_neg (p := fun x : MapEntry => !(seen.push e.born).contains x.born) (by rw [hpush, ha]; simp)]
        exact ih h2 hel
      · have ha' : seen.contains a.born = false := by simpa using ha
        rw [List.filter_cons_of_pos (p := fun x : MapEntry => !seen.contains x.born) (by rw [ha']; rfl), List.filter_cons_of_pos (p := fun x : MapEntry => !(seen.push e.born).contains x.born) (by rw [hpush, ha', hab]; rfl)]
        exact ((ih h2 hel).cons a).trans (List.Perm.swap _ _ _)

/-- The step. -/
theorem StRng.next {W : World} {b r : Nat} {L rest : List MRow} (h : StRng W b r L rest) (ty : TypeId) :
    (rest = [] ∧ (Instr.next (.pointer (some ⟨r, 0, none⟩)) false ty).run Try.prog W = .ok (.tuple #[.bool false]) W) ∨
    ∃ q rest' W', rest.Perm (q :: rest') ∧ (Instr.next (.pointer (some ⟨r, 0, none⟩)) false ty).run Try.prog W = .ok (.tuple #[.bool true, plV q.t q.k, rowV q]) W' ∧ StRng W' b r L rest' ∧ Kept (fun k => k = r) W W' ∧
      (Instr.entry (.pointer (some ⟨r, 0, none⟩))).run Try.prog W' = .ok (.tuple #[plV q.t q.k, rowV q]) W' := by
  have hne := h.ne
  obtain ⟨es, clock, since, seen, c0, hb, hs, he, hw, hr, hold, hl, hsc, hsk⟩ := h
  rcases run_next_at (P := Try.prog) W ty r b since c0 seen es clock hr hb hold hsc with ⟨h0, hrun⟩ | ⟨e, hel, w1, hal, hrun⟩
  · refine .inl ⟨?_, hrun⟩
    have := hl.length_eq
    simp only [List.length_map, Array.length_toList, h0] at this
    exact List.length_eq_zero_iff.1 this.symm
  · obtain ⟨hem, hes⟩ := mem_left hel
    have hr1 : w1.heap[r]? = some (.mapIter (some b) since seen c0) := by rcases hal with rfl | rfl <;> exact hr
    have hb1 : w1.heap[b]? = some (.map es clock) := by rcases hal with rfl | rfl <;> exact hb
    have hset := heap_set (o' := .mapIter (some b) since (seen.push e.born) clock) hr1
    have hb' : (setBlock w1 r (.mapIter (some b) since (seen.push e.born) clock)).heap[b]? = some (.map es clock) := (hset.2 b (fun e1 => hne e1.symm)).trans hb1
    have hm := hl.mem_iff.1 (List.mem_map.2 ⟨e, hel, rfl⟩)
    obtain ⟨q, hq, hqe⟩ := List.mem_map.1 hm
    simp only [Prod.mk.injEq] at hqe
    have hp : rest.Perm (q :: rest.erase q) := List.perm_cons_erase hq
    have hpush := left_push (seen := seen) ((stamped_iff es clock).1 hs).2.1 hem hes
    have hto : ∀ sn : Array Nat, (leftOf es sn).toList = es.toList.filter fun x => !sn.contains x.born := fun sn => by simp [leftOf]
    have hl' : Ent (leftOf es (seen.push e.born)).toList (rest.erase q) := by
      unfold Ent at hl ⊢
      rw [hto] at hl ⊢
      have hA := (hpush.map fun x => (x.key, x.val)).symm.trans (hl.trans (hp.map fun r => (plV r.t r.k, rowV r)))
      rw [List.map_cons, List.map_cons] at hA
      have hh : (e.key, e.val) = (plV q.t q.k, rowV q) := by rw [hqe.1, hqe.2]
      rw [hh] at hA
      exact hA.cons_inv
    refine .inr ⟨q, rest.erase q, _, hp, by rw [hqe.1, hqe.2]; exact hrun, ⟨es, clock, since, seen.push e.born, clock, hb', hs, he, hw, hset.1, hold, hl', hsk, hsk⟩, ?_, ?_⟩
    · refine ⟨?_, ?_, ?_, ?_, ?_⟩
      · rcases hal with rfl | rfl <;> rfl
      · rcases hal with rfl | rfl <;> rfl
      · rcases hal with rfl | rfl <;> rfl
      · rcases hal with rfl | rfl <;> simp [setBlock]
      · intro k hk hkr
        refine (hset.2 k hkr).trans ?_
        rcases hal with rfl | rfl <;> rfl
    · have := run_entry_at (P := Try.prog) _ r b since seen es clock e hset.1 hb' hem ((stamped_iff es clock).1 hs).2.1
      rw [hqe.1, hqe.2]
      exact this

section
variable {w : World} {ops : Array Oper} {rest : List Oper} {o : Oper} {a : Act} {Q : Exit → Act → World → Prop}
theorem wpList_range_st (hg : o.guard = none) (m : Operand) (hop : o.op = Op.range 69 m) (b : Nat) (L : List MRow) (hm : a.eval m = .map (some b)) (hs : StMap w b L)
    (hK : ∀ w', StRng w' b w.heap.size L L → Below w.heap.size w w' → w'.heap.size = w.heap.size + 1 → wpList Try.prog ops Q rest (a.put o.dst (.pointer (some ⟨w.heap.size, 0, none⟩))) w') : wpList Try.prog ops Q (o :: rest) a w := by
  refine wpList_plain hg fun K' hK' => ?_
  obtain ⟨hrun, h1⟩ := hs.range
  unfold Oper.wp
  simp only [execOp, hop, hm, hrun, Result.andThen, Sem.run_bind, Oper.upon]
  exact hK' _ _ (hK _ h1 (ba _ _) (by simp))
theorem wpList_next_st (hg : o.guard = none) (it : Operand) (hop : o.op = Op.next it false) (b r : Nat) (L rs : List MRow) (hit : a.eval it = .pointer (some ⟨r, 0, none⟩)) (h : StRng w b r L rs)
    (hDone : rs = [] → wpList Try.prog ops Q rest (a.put o.dst (.tuple #[.bool false])) w)
    (hMore : ∀ (q : MRow) (rs' : List MRow) (w' : World), rs.Perm (q :: rs') → StRng w' b r L rs' → Kept (fun k => k = r) w w' → (Instr.entry (.pointer (some ⟨r, 0, none⟩))).run Try.prog w' = .ok (.tuple #[plV q.t q.k, rowV q]) w' →
      wpList Try.prog ops Q rest (a.put o.dst (.tuple #[.bool true, plV q.t q.k, rowV q])) w') : wpList Try.prog ops Q (o :: rest) a w := by
  refine wpList_plain hg fun K' hK' => ?_
  unfold Oper.wp
  rcases h.next o.type with ⟨h0, hrun⟩ | ⟨q, rs', w', hp, hrun, hst, hk, hen⟩
  · simp [execOp, hop, hit, hrun, Result.andThen]
    exact hK' _ _ (hDone h0)
  · simp [execOp, hop, hit, hrun, Result.andThen]
    exact hK' _ _ (hMore q rs' w' hp hst hk hen)
end
end Go.Proofs.Ytaapggeaoacikaa
