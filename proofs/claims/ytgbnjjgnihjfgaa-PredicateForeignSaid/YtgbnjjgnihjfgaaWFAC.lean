/- A3, A4 -/
import Derived.Test.YtgbnjjgnihjfgaaProg
import Derived.WalkKit
import Derived.Below
import Derived.Lib.Hide
import Derived.Laws.StructEq
import Derived.Lib.QuietBelow
import Derived.Deep.RegionHeld3
import Derived.Deep.RegionWith
import Derived.IntWalk
import Derived.BigQuiet
import Derived.Maps.RangeWalk
import Derived.DeepKeys4
import Derived.OneCell
import Derived.StillTail
import Derived.Deep.CutRange
import Derived.Outline
import Derived.WalkSpells
import Derived.Carry
import Derived.Shelf.SlGeneric
import Derived.Shelf.SlSortCmp.WholeK
import Derived.Shelf.SlicesG.Cmp
import Derived.Ground.SlsfProg
import Derived.Ground.SlgcProg
import Derived.Sort.OwnSorted
import Derived.Deep.AppendLies
import Derived.Shelf.SlSortCmp.NoneTotal
import Derived.Test.YtgbnjjgnihjfgaaWFAB
import Derived.Test.YtgbnjjgnihjfgaaWFAA
import Derived.Deep.QuietTactic
import Derived.Laws.AppendOwnNone
section
section
set_option linter.unusedVariables false
set_option linter.unusedSimpArgs false
namespace Go.Proofs.Ytgbnjjgnihjfgaa
open Go.RowKit Go.Sort Go.ChangeMaps Go.MapKept

def orI (x y : Int) : Int := if x = 0 then y else x
set_option maxRecDepth 100000 in
set_option maxHeartbeats 1000000 in
theorem or_two (g : Nat) (x y : Int) (w : World) (h0 : w.cell? ⟨g, 0, none⟩ = some (.int .i64 x)) (h1 : w.cell? ⟨g, 1, none⟩ = some (.int .i64 y)) :
    Calls Try.prog 145 #[.slice (some ⟨g, 0, none⟩) 2 2] w fun e w' => e = .returned (.int .i64 (orI x y)) ∧ w = w' := by
  by_cases hx : x = 0
  · have HO : Hid (orI x y = y) := Lib.hid (by simp [orI, hx])
    have d1 : (x != 0) = false := by simp [hx]
    rw [HO.out]
    clear hx
    by_cases hy : y = 0
    · have d2 : (y != 0) = false := by simp [hy]
      have Hy := Lib.hid hy
      clear hy
      go_enter Try.func145, Try.ntmps145
      go_wp2
      refine wp_loop_rounds 3 ?_
      rw [rounds_succ]
      go_wp2
      rw [rounds_succ]
      go_wp2
      rw [rounds_succ]
      go_wp2
      go_ret
      exact ⟨by rw [Hy.out]; rfl, rfl⟩
    · have d2 : (y != 0) = true := by simp [hy]
      clear hy
      go_enter Try.func145, Try.ntmps145
      go_wp2
      refine wp_loop_rounds 2 ?_
      rw [rounds_succ]
      go_wp2
      rw [rounds_succ]
      go_wp2
      go_ret
      exact ⟨rfl, rfl⟩
  · have HO : Hid (orI x y = x) := Lib.hid (by simp [orI, hx])
    have d1 : (x != 0) = true := by simp [hx]
    rw [HO.out]
    clear hx
    go_enter Try.func145, Try.ntmps145
    go_wp2
    refine wp_loop_rounds 2 ?_
    rw [rounds_succ]
    go_wp2
    go_ret
    exact ⟨rfl, rfl⟩

/-- The order of rows by a column's values, then by keys. -/
def cmpR (col : Int) (x y : MRow) : Int := orI (Lib.compareInt (vget x col) (vget y col)) (Lib.compareInt x.k y.k)

/-! ### Which rows are chosen -/
def selR (t col lo hi : Int) (r : MRow) : Bool := decide (r.t = t ∧ lo ≤ vget r col ∧ vget r col ≤ hi)

end Go.Proofs.Ytgbnjjgnihjfgaa
end

section
set_option linter.unusedVariables false
set_option linter.unusedSimpArgs false
namespace Go.Proofs.Ytgbnjjgnihjfgaa
open Go.RowKit Go.Sort Go.ChangeMaps Go.MapKept

/-- Block b is a map with the rows of L; block r an iterator over it, to which those of rest are still to come. -/
def StRng (W : World) (b r : Nat) (L rest : List MRow) : Prop :=
  ∃ es clock since seen c0, W.heap[b]? = some (.map es clock) ∧ Stamped es clock ∧ Ent es.toList L ∧ Wd L ∧ W.heap[r]? = some (.mapIter (some b) since seen c0) ∧ (∀ x ∈ es.toList, x.born < since) ∧ Ent (leftOf es seen).toList rest ∧ since ≤ c0 ∧ since ≤ clock

theorem StRng.ne {W : World} {b r : Nat} {L rest : List MRow} (h : StRng W b r L rest) : r ≠ b := by
  obtain ⟨es, clock, since, seen, c0, hb, hs, he, hw, hr, _⟩ := h
  intro e
  rw [e, hb] at hr
  cases hr
theorem StRng.lt {W : World} {b r : Nat} {L rest : List MRow} (h : StRng W b r L rest) : r < W.heap.size ∧ b < W.heap.size := by
  obtain ⟨es, clock, since, seen, c0, hb, hs, he, hw, hr, _⟩ := h
  exact ⟨lt_of_block hr, lt_of_block hb⟩
theorem StRng.kept {F : Nat → Prop} {W W' : World} {b r : Nat} {L rest : List MRow} (h : StRng W b r L rest) (k : Kept F W W') (hb : ¬ F b) (hr : ¬ F r) : StRng W' b r L rest := by
  have hlt := h.lt
  obtain ⟨es, clock, since, seen, c0, h1, hs, he, hw, h2, h3⟩ := h
  exact ⟨es, clock, since, seen, c0, (k.block b hlt.2 hb).trans h1, hs, he, hw, (k.block r hlt.1 hr).trans h2, h3⟩

theorem StMap.range {W : World} {b : Nat} {L : List MRow} (h : StMap W b L) :
    (Instr.range 110 (.map (some b))).run Try.prog W = .ok (.pointer (some ⟨W.heap.size, 0, none⟩)) (W.alloc (.mapIter (some b) (match W.heap[b]? with | some (.map _ c) => c | _ => 0) #[] (match W.heap[b]? with | some (.map _ c) => c | _ => 0))) ∧
    StRng (W.alloc (.mapIter (some b) (match W.heap[b]? with | some (.map _ c) => c | _ => 0) #[] (match W.heap[b]? with | some (.map _ c) => c | _ => 0))) b W.heap.size L L := by
  have hlt := h.lt
  obtain ⟨es, clock, hb, hs, he, hw⟩ := h
  rw [hb]
  refine ⟨run_range_map W 110 116 33 b es clock Try.underlying110 hb, es, clock, clock, #[], clock, ((MapKept.heap_alloc W _).2 b hlt).trans hb, hs, he, hw, (MapKept.heap_alloc W _).1, ((stamped_iff es clock).1 hs).1, ?_, Nat.le_refl _, Nat.le_refl _⟩
  have : (leftOf es #[]).toList = es.toList := by simp [leftOf]
  rw [this]
  exact he

theorem left_push {l : List MapEntry} {seen : Array Nat} {e : MapEntry} (hn : (l.map (·.born)).Nodup) (he : e ∈ l) (hs : seen.contains e.born = false) :
    (l.filter fun x => !seen.contains x.born).Perm (e :: l.filter fun x => !(seen.push e.born).contains x.born) := by
  induction l with
  | nil => simp at he
  | cons a l ih =>
    rw [List.map_cons, List.nodup_cons] at hn
    obtain ⟨h1, h2⟩ := hn
    have hpush : ∀ x : MapEntry, (seen.push e.born).contains x.born = (seen.contains x.born || x.born == e.born) := fun x => by
      rw [Bool.eq_iff_iff]
      simp
    by_cases hae : a = e
    · subst hae
      have ha : (!seen.contains a.born) = true := by rw [hs]; rfl
      have ha2 : (!(seen.push a.born).contains a.born) = false := by rw [hpush]; simp
      rw [List.filter_cons_of_pos (p := fun x : MapEntry => !seen.contains x.born) ha, List.filter_cons_of_neg (p := fun x : MapEntry => !(seen.push a.born).contains x.born) (by rw [ha2]; exact Bool.false_ne_true)]
      refine List.Perm.cons _ (List.Perm.of_eq (List.filter_congr fun x hx => ?_))
      rw [hpush]
      have : (x.born == a.born) = false := by
        simp only [beq_eq_false_iff_ne]
        exact fun q => h1 (List.mem_map.2 ⟨x, hx, q⟩)
      simp [this]
    · have hel : e ∈ l := by
        rcases List.mem_cons.1 he with q | q
        · exact absurd q.symm hae
        · exact q
      have hab : (a.born == e.born) = false := by
        simp only [beq_eq_false_iff_ne]
        exact fun q => h1 (List.mem_map.2 ⟨e, hel, q.symm⟩)
      by_cases ha : seen.contains a.born = true
      · rw [List.filter_cons_of_neg (p := fun x : MapEntry => !seen.contains x.born) (by rw [ha]; simp), List.filter_cons_of_neg (p := fun x : MapEntry => !(seen.push e.born).contains x.born) (by rw [hpush, ha]; simp)]
        exact ih h2 hel
      · have ha' : seen.contains a.born = false := by simpa using ha
        rw [List.filter_cons_of_pos (p := fun x : MapEntry => !seen.contains x.born) (by rw [ha']; rfl), List.filter_cons_of_pos (p := fun x : MapEntry => !(seen.push e.born).contains x.born) (by rw [hpush, ha', hab]; rfl)]
        exact ((ih h2 hel).cons a).trans (List.Perm.swap _ _ _)

/-- The step. -/
theorem StRng.next {W : World} {b r : Nat} {L rest : List MRow} (h : StRng W b r L rest) (ty : TypeId) :
    (rest = [] ∧ (Instr.next (.pointer (some ⟨r, 0, none⟩)) false ty).run Try.prog W = .ok (.tuple #[.bool false]) W) ∨
    ∃ q rest' W', rest.Perm (q :: rest') ∧ (Instr.next (.pointer (some ⟨r, 0, none⟩)) false ty).run Try.prog W = .ok (.tuple #[.bool true, plV q.t q.k, rowV q]) W' ∧ StRng W' b r L rest' ∧ Kept (fun k => k = r) W W' ∧
      (Instr.entry (.pointer (some ⟨r, 0, none⟩))).run Try.prog W' = .ok (.tuple #[plV q.t q.k, rowV q]) W' := by
  have hne := h.ne
  obtain ⟨es, clock, since, seen, c0, hb, hs, he, hw, hr, hold, hl, hsc, hsk⟩ := h
  rcases run_next_at (P := Try.prog) W ty r b since c0 seen es clock hr hb hold hsc with ⟨h0, hrun⟩ | ⟨e, hel, w1, hal, hrun⟩
  · refine .inl ⟨?_, hrun⟩
    have := hl.length_eq
    simp only [List.length_map, Array.length_toList, h0] at this
    exact List.length_eq_zero_iff.1 this.symm
  · obtain ⟨hem, hes⟩ := mem_left hel
    have hr1 : w1.heap[r]? = some (.mapIter (some b) since seen c0) := by rcases hal with rfl | rfl <;> exact hr
    have hb1 : w1.heap[b]? = some (.map es clock) := by rcases hal with rfl | rfl <;> exact hb
    have hset := heap_set (o' := .mapIter (some b) since (seen.push e.born) clock) hr1
    have hb' : (setBlock w1 r (.mapIter (some b) since (seen.push e.born) clock)).heap[b]? = some (.map es clock) := (hset.2 b (fun e1 => hne e1.symm)).trans hb1
    have hm := hl.mem_iff.1 (List.mem_map.2 ⟨e, hel, rfl⟩)
    obtain ⟨q, hq, hqe⟩ := List.mem_map.1 hm
    simp only [Prod.mk.injEq] at hqe
    have hp : rest.Perm (q :: rest.erase q) := List.perm_cons_erase hq
    have hpush := left_push (seen := seen) ((stamped_iff es clock).1 hs).2.1 hem hes
    have hto : ∀ sn : Array Nat, (leftOf es sn).toList = es.toList.filter fun x => !sn.contains x.born := fun sn => by simp [leftOf]
    have hl' : Ent (leftOf es (seen.push e.born)).toList (rest.erase q) := by
      unfold Ent at hl ⊢
      rw [hto] at hl ⊢
      have hA := (hpush.map fun x => (x.key, x.val)).symm.trans (hl.trans (hp.map fun r => (plV r.t r.k, rowV r)))
      rw [List.map_cons, List.map_cons] at hA
      have hh : (e.key, e.val) = (plV q.t q.k, rowV q) := by rw [hqe.1, hqe.2]
      rw [hh] at hA
      exact hA.cons_inv
    refine .inr ⟨q, rest.erase q, _, hp, by rw [hqe.1, hqe.2]; exact hrun, ⟨es, clock, since, seen.push e.born, clock, hb', hs, he, hw, hset.1, hold, hl', hsk, hsk⟩, ?_, ?_⟩
    · refine ⟨?_, ?_, ?_, ?_, ?_⟩
      · rcases hal with rfl | rfl <;> rfl
      · rcases hal with rfl | rfl <;> rfl
      · rcases hal with rfl | rfl <;> rfl
      · rcases hal with rfl | rfl <;> simp [setBlock]
      · intro k hk hkr
        refine (hset.2 k hkr).trans ?_
        rcases hal with rfl | rfl <;> rfl
    · have := run_entry_at (P := Try.prog) _ r b since seen es clock e hset.1 hb' hem ((stamped_iff es clock).1 hs).2.1
      rw [hqe.1, hqe.2]
      exact this

section
variable {w : World} {ops : Array Oper} {rest : List Oper} {o : Oper} {a : Act} {Q : Exit → Act → World → Prop}
end
end Go.Proofs.Ytgbnjjgnihjfgaa
end

section
set_option linter.unusedVariables false
set_option linter.unusedSimpArgs false
namespace Go.Proofs.Ytgbnjjgnihjfgaa
open Go.RowKit Go.Sort Go.ChangeMaps Go.MapKept

instance : Inhabited MRow := ⟨rowZ⟩
def rcl (r : MRow) : List Value := [.int .i64 r.t, .int .i64 r.k, .int .i64 r.v.a, .int .i64 r.v.b, .int .i64 r.v.c]
def flat (M : List MRow) : List Value := M.flatMap rcl
theorem rcl_len (r : MRow) : (rcl r).length = 5 := rfl
theorem flat_len (M : List MRow) : (flat M).length = M.length * 5 := by
  induction M with
  | nil => rfl
  | cons r M ih => rw [flat, List.flatMap_cons, List.length_append, rcl_len, List.length_cons, ← flat, ih]; omega
theorem flat_app (M N : List MRow) : flat (M ++ N) = flat M ++ flat N := by simp [flat]
theorem flat_get (M : List MRow) : ∀ i j, i < M.length → j < 5 → (flat M)[i * 5 + j]? = (rcl (M.getD i rowZ))[j]? := by
  induction M with
  | nil => intro i j h; simp at h
  | cons r M ih =>
    intro i j hi hj
    rw [flat, List.flatMap_cons, ← flat]
    cases i with
    | zero =>
      rw [List.getElem?_append_left (by rw [rcl_len]; omega)]
      simp
    | succ i =>
      rw [List.getElem?_append_right (by rw [rcl_len]; omega), rcl_len, show (i + 1) * 5 + j - 5 = i * 5 + j by omega, ih i j (by simpa using hi) hj]
      simp
theorem rcl_one (r : MRow) : ∀ v ∈ rcl r, v.oneCell' = true := by
  intro v hv
  simp [rcl] at hv
  rcases hv with rfl | rfl | rfl | rfl | rfl <;> rfl

/-- A row's cells from an offset on. -/
def RwO (W : World) (b o : Nat) (r : MRow) : Prop := ∀ j : Nat, j < 5 → W.cell? ⟨b, o + j, none⟩ = (rcl r)[j]?
/-- A slice that reads as a list of rows. -/
def RowS (W : World) (v : Value) (M : List MRow) : Prop :=
  ∃ a n cap, v = .slice a n cap ∧ n = M.length ∧ n ≤ cap ∧ cap ≤ 9223372036854775807 ∧ (1 ≤ n → ∃ b o, a = some ⟨b, o, none⟩ ∧ b < W.heap.size ∧ ∀ i, i < n → RwO W b (o + i * 5) (M.getD i rowZ))
theorem RwO.cells {W : World} {b o : Nat} {r : MRow} (h : RwO W b o r) : W.cell? ⟨b, o, none⟩ = some (.int .i64 r.t) ∧ W.cell? ⟨b, o + 1, none⟩ = some (.int .i64 r.k) ∧ W.cell? ⟨b, o + 2, none⟩ = some (.int .i64 r.v.a) ∧ W.cell? ⟨b, o + 3, none⟩ = some (.int .i64 r.v.b) ∧ W.cell? ⟨b, o + 4, none⟩ = some (.int .i64 r.v.c) :=
  ⟨h 0 (by omega), h 1 (by omega), h 2 (by omega), h 3 (by omega), h 4 (by omega)⟩
theorem RwO.below {W W' : World} {b o : Nat} {r : MRow} (h : RwO W b o r) (hb : b < W.heap.size) (k : Below W.heap.size W W') : RwO W' b o r := fun j hj => by rw [(bcell k).1 b _ hb]; exact h j hj
theorem RwO.kept {F : Nat → Prop} {W W' : World} {b o : Nat} {r : MRow} (h : RwO W b o r) (k : Kept F W W') (hb : b < W.heap.size) (hf : ¬ F b) : RwO W' b o r := fun j hj => (k.cell (p := ⟨b, o + j, none⟩) hb hf).trans (h j hj)
theorem RowS.below {W W' : World} {v : Value} {M : List MRow} (h : RowS W v M) (k : Below W.heap.size W W') : RowS W' v M := by
  obtain ⟨a, n, cap, e, hn, h1, h2, h3⟩ := h
  refine ⟨a, n, cap, e, hn, h1, h2, fun h => ?_⟩
  obtain ⟨b, o, e, hb, hc⟩ := h3 h
  exact ⟨b, o, e, Nat.lt_of_lt_of_le hb k.size, fun i hi => (hc i hi).below hb k⟩
theorem rowS_nil (W : World) : RowS W (.slice none 0 0) [] := ⟨none, 0, 0, rfl, rfl, Nat.le_refl _, by omega, fun h => by omega⟩

/-- A slice of the call's own that holds a list of rows. -/
def OwnR (W : World) (base : Nat) (v : Value) (M : List MRow) : Prop := W.ownsRow base 33 5 v M.length (flat M)
theorem OwnR.nil (W : World) (base : Nat) : OwnR W base (.slice none 0 0) [] := ⟨rfl, .inl ⟨rfl, rfl⟩⟩
theorem OwnR.rowS {W : World} {base : Nat} {v : Value} {M : List MRow} (h : OwnR W base v M) : RowS W v M := by
  obtain ⟨hl, h⟩ := h
  rcases h with ⟨rfl, h0⟩ | ⟨g, cap, cur, rfl, hg, hb, h1, h2, h3, h4⟩
  · obtain rfl := List.length_eq_zero_iff.1 h0
    exact rowS_nil W
  · refine ⟨_, _, cap, rfl, rfl, h1, by unfold maxLen at h2; omega, fun _ => ⟨g, 0, rfl, lt_of_block hb, fun i hi j hj => ?_⟩⟩
    have h5 := flat_get M i j hi hj
    rw [← h4, List.getElem?_take_of_lt (by omega), Array.getElem?_toList] at h5
    rw [← h5]
    simp [World.cell?, hb]
theorem OwnR.below {W W' : World} {base : Nat} {v : Value} {M : List MRow} (h : OwnR W base v M) (k : Below W.heap.size W W') : OwnR W' base v M := by
  obtain ⟨hl, h⟩ := h
  refine ⟨hl, h.imp id fun ⟨g, cap, cur, e, hg, hb, r⟩ => ⟨g, cap, cur, e, hg, (k.block g (lt_of_block hb)).trans hb, r⟩⟩
theorem flatK_eq (M : List MRow) : (flatK rcl 5 M.toArray).toList = flat M := by
  apply List.ext_getElem?
  intro t
  by_cases ht : t < M.length * 5
  · have h1 := flat_get M (t / 5) (t % 5) (by omega) (by omega)
    rw [show t / 5 * 5 + t % 5 = t by omega] at h1
    rw [h1]
    have h2 : (flatK rcl 5 M.toArray)[t]! = (rcl (M.toArray)[t / 5]!)[t % 5]! := get_flatK rcl 5 M.toArray t (by simpa using ht)
    have hs : t < (flatK rcl 5 M.toArray).size := by simpa using ht
    rw [getElem!_pos _ t hs] at h2
    rw [Array.getElem?_toList, Array.getElem?_eq_getElem hs, h2]
    have h3 : (M.toArray)[t / 5]! = M.getD (t / 5) rowZ := by
      rw [getElem!_pos _ _ (by simp; omega), List.getD_eq_getElem?_getD, List.getElem?_eq_getElem (by omega)]
      simp
    rw [h3]
    rw [getElem!_pos _ _ (by rw [rcl_len]; omega), List.getElem?_eq_getElem (by rw [rcl_len]; omega)]
  · rw [List.getElem?_eq_none (by simp; omega), List.getElem?_eq_none (by rw [flat_len]; omega)]
theorem OwnR.holds {W : World} {base g cap : Nat} {M : List MRow} (h : OwnR W base (.slice (some ⟨g, 0, none⟩) M.length cap) M) : HoldsK rcl 5 W g 0 M.toArray ∧ g < W.heap.size ∧ base ≤ g := by
  obtain ⟨hl, h⟩ := h
  rcases h with ⟨h0, _⟩ | ⟨g', cap', cur, hv, hg, hb, h1, h2, h3, h4⟩
  · simp at h0
  · simp only [Value.slice.injEq, Option.some.injEq, Addr.mk.injEq] at hv
    obtain ⟨⟨rfl, _⟩, _, rfl⟩ := hv
    refine ⟨fun t ht => ?_, lt_of_block hb, hg⟩
    have ht' : t < M.length * 5 := by simpa using ht
    refine ⟨?_, by simp [World.frozen?, hb]⟩
    have e1 : (flatK rcl 5 M.toArray)[t]! = (flatK rcl 5 M.toArray).toList[t]'(by simpa using ht') := by rw [getElem!_pos _ t ht]; simp
    have e2 : (flat M)[t]? = some ((flatK rcl 5 M.toArray)[t]!) := by
      rw [← flatK_eq, Array.getElem?_toList, Array.getElem?_eq_getElem ht, getElem!_pos _ t ht]
    rw [← h4, List.getElem?_take_of_lt ht', Array.getElem?_toList] at e2
    simp only [World.cell?, hb, Nat.zero_add, Option.isSome_none, Bool.false_eq_true, if_false]
    exact e2
end Go.Proofs.Ytgbnjjgnihjfgaa
end

section
set_option linter.unusedVariables false
set_option linter.unusedSimpArgs false
namespace Go.Proofs.Ytgbnjjgnihjfgaa
open Go.RowKit Go.Sort Go.ChangeMaps Go.MapKept

/-- By a column's values, then by keys. -/
def rle (col : Int) (x y : MRow) : Prop := vget x col < vget y col ∨ vget x col = vget y col ∧ x.k ≤ y.k
theorem cmpR_neg (col : Int) (x y : MRow) : cmpR col x y < 0 ↔ (vget x col < vget y col ∨ vget x col = vget y col ∧ x.k < y.k) := by
  unfold cmpR orI Lib.compareInt
  by_cases h1 : vget x col < vget y col
  · simp [h1]
  · by_cases h2 : vget y col < vget x col
    · simp [h1, h2]; omega
    · have h3 : vget x col = vget y col := by omega
      by_cases h4 : x.k < y.k
      · simp [h3, h4]
      · by_cases h5 : y.k < x.k
        · simp [h3, h4, h5]
        · simp [h3, h4, h5]
/-- What a choice of rows, put in order, is. -/
def SortOf (L : List MRow) (sel : MRow → Bool) (col : Int) (M : List MRow) : Prop := M.Perm (L.filter sel) ∧ M.Pairwise (rle col)
theorem Try.info33 : (Try.prog.info? 33).map (fun i => (i.zero, i.size, i.bytes)) = some (some (.agg #[.int .i64 0, .int .i64 0, .int .i64 0, .int .i64 0, .int .i64 0]), 5, 40) := by kernel_rfl
theorem kept_grown {w w' : World} {row : Option Nat} (h : w.grownBy w' row) : Kept (fun k => row = some k) w w' := ⟨h.os, h.tape, h.output, h.size, fun k hk hf => h.block k hk (fun e => hf e.symm)⟩

theorem OwnR.kept {F : Nat → Prop} {W W' : World} {base : Nat} {v : Value} {M : List MRow} (h : OwnR W base v M) (k : Kept F W W') (hF : ∀ i, base ≤ i → ¬ F i) : OwnR W' base v M := by
  obtain ⟨hl, h⟩ := h
  exact ⟨hl, h.imp id fun ⟨g, cap, cur, e, hg, hb, r⟩ => ⟨g, cap, cur, e, hg, (k.block g (lt_of_block hb) (hF g hg)).trans hb, r⟩⟩
theorem OwnR.mono {W : World} {base base' : Nat} {v : Value} {M : List MRow} (h : OwnR W base v M) (hb : base' ≤ base) : OwnR W base' v M := by
  obtain ⟨hl, h⟩ := h
  exact ⟨hl, h.imp id fun ⟨g, cap, cur, e, hg, r⟩ => ⟨g, cap, cur, e, by omega, r⟩⟩
theorem OwnR.own_ge {W : World} {base : Nat} {v : Value} {M : List MRow} (h : OwnR W base v M) {k : Nat} (e : v.ownBlock = some k) : base ≤ k := by
  rcases h.2 with ⟨rfl, _⟩ | ⟨g, cap, cur, rfl, hg, _⟩
  · simp [Value.ownBlock] at e
  · simp [Value.ownBlock] at e; omega

/-- What 'ordered' is handed: a function that says of each row whether it is chosen. -/
def Chooses (W : World) (g : FuncId) (cb : Array Value) (sel : MRow → Bool) : Prop :=
  ∀ (W' : World) (r : MRow), Below W.heap.size W W' → Calls Try.prog g (#[rowV r] ++ cb) W' fun e w' => e = .returned (.bool (sel r)) ∧ Below W'.heap.size W' w'

end Go.Proofs.Ytgbnjjgnihjfgaa
end

section
set_option linter.unusedVariables false
set_option linter.unusedSimpArgs false
namespace Go.Proofs.Ytgbnjjgnihjfgaa
open Go.RowKit Go.Sort Go.ChangeMaps Go.MapKept

end Go.Proofs.Ytgbnjjgnihjfgaa
end

section
set_option linter.unusedVariables false
set_option linter.unusedSimpArgs false
namespace Go.Proofs.Ytgbnjjgnihjfgaa
open Go.RowKit Go.Sort Go.ChangeMaps Go.MapKept

/-- What Rows and Range return: a slice of their own with the chosen rows. -/
def SOut (W : World) (L : List MRow) (sel : MRow → Bool) (col : Int) (e : Ending) (w' : World) : Prop :=
  ∃ v M, e = .returned v ∧ OwnR w' W.heap.size v M ∧ SortOf L sel col M ∧ Below W.heap.size W w'
theorem SOut.from {W W1 w' : World} {L : List MRow} {sel : MRow → Bool} {col : Int} {e : Ending} (h : SOut W1 L sel col e w') (hb : Below W.heap.size W W1) : SOut W L sel col e w' := by
  obtain ⟨v, M, he, ho, hs, hk⟩ := h
  exact ⟨v, M, he, ho.mono hb.size, hs, bt hb hk⟩

end Go.Proofs.Ytgbnjjgnihjfgaa
end

section
set_option linter.unusedVariables false
set_option linter.unusedSimpArgs false
namespace Go.Proofs.Ytgbnjjgnihjfgaa
open Go.RowKit Go.Sort Go.ChangeMaps Go.MapKept

end Go.Proofs.Ytgbnjjgnihjfgaa
end

section
set_option linter.unusedVariables false
set_option linter.unusedSimpArgs false
namespace Go.Proofs.Ytgbnjjgnihjfgaa
open Go.RowKit Go.Sort Go.ChangeMaps Go.MapKept

/-- The two cells of a record. -/
def RecAt (w : World) (b o : Nat) (r : MRec) : Prop :=
  w.cell? ⟨b, o, none⟩ = some (.int .i64 r.pos) ∧ ∃ v, w.cell? ⟨b, o + 1, none⟩ = some v ∧ ChS w v r.chs
/-- A slice that reads as a list of records. -/
def RecS (w : World) (v : Value) (R : List MRec) : Prop :=
  ∃ a n cap, v = .slice a n cap ∧ n = R.length ∧ n ≤ cap ∧ cap ≤ 9223372036854775807 ∧ (1 ≤ n → ∃ b o, a = some ⟨b, o, none⟩ ∧ b < w.heap.size ∧ ∀ i, i < n → RecAt w b (o + i * 2) (R.getD i recZ))
theorem RecAt.below {w w' : World} {b o : Nat} {r : MRec} (h : RecAt w b o r) (hb : b < w.heap.size) (k : Below w.heap.size w w') : RecAt w' b o r := by
  obtain ⟨h0, v, h1, h2⟩ := h
  exact ⟨(k.cell (p := ⟨b, o, none⟩) hb).trans h0, v, (k.cell (p := ⟨b, o + 1, none⟩) hb).trans h1, h2.below k⟩
theorem RecS.below {w w' : World} {v : Value} {R : List MRec} (h : RecS w v R) (k : Below w.heap.size w w') : RecS w' v R := by
  obtain ⟨a, n, cap, e, hn, h1, h2, h3⟩ := h
  refine ⟨a, n, cap, e, hn, h1, h2, fun hh => ?_⟩
  obtain ⟨b, o, ea, hb, hc⟩ := h3 hh
  exact ⟨b, o, ea, Nat.lt_of_lt_of_le hb k.size, fun i hi => (hc i hi).below hb k⟩
theorem Chn.len {R : List MRec} (h : Chn R) : R.length ≤ 10000 := by
  rcases Nat.eq_zero_or_pos R.length with e | e
  · omega
  · have := h (R.length - 1) (by omega)
    have h1 := this.1.1
    have h2 := this.2.1
    omega
end Go.Proofs.Ytgbnjjgnihjfgaa
end

section
set_option linter.unusedVariables false
set_option linter.unusedSimpArgs false
namespace Go.Proofs.Ytgbnjjgnihjfgaa
open Go.RowKit Go.Sort Go.ChangeMaps Go.MapKept

end Go.Proofs.Ytgbnjjgnihjfgaa
end
end

section
section
set_option linter.unusedVariables false
set_option linter.unusedSimpArgs false
namespace Go.Proofs.Ytgbnjjgnihjfgaa
open Go.RowKit Go.Sort Go.ChangeMaps Go.MapKept

/-! ### Plain: where a table and a key stand -/
/-! ### The state -/
theorem OwnR.kept' {F : Nat → Prop} {W W' : World} {base : Nat} {v : Value} {M : List MRow} (h : OwnR W base v M) (k : Kept F W W') (hF : ∀ i, v.ownBlock = some i → ¬ F i) : OwnR W' base v M := by
  obtain ⟨hl, h⟩ := h
  exact ⟨hl, h.imp id fun ⟨g, cap, cur, e, hg, hb, r⟩ => ⟨g, cap, cur, e, hg, (k.block g (lt_of_block hb) (hF g (by rw [e]; rfl))).trans hb, r⟩⟩
/-- Block b is a state of the reference with the rows of L in the slice v, at position p. -/
structure RfAt (W : World) (b : Nat) (v : Value) (L : List MRow) (p : Int) : Prop where
  blk : W.heap[b]? = some (.cells #[v, .int .i64 p] 102 (0, 0))
  own : OwnR W 0 v L
  good : GoodL L
  pos : 0 ≤ p ∧ p ≤ 10000
def rfoot (b : Nat) (v : Value) : Nat → Prop := fun k => k = b ∨ v.ownBlock = some k
theorem RfAt.lt {W : World} {b : Nat} {v : Value} {L : List MRow} {p : Int} (h : RfAt W b v L p) : b < W.heap.size := lt_of_block h.blk
theorem RfAt.kept {W W' : World} {F : Nat → Prop} {b : Nat} {v : Value} {L : List MRow} {p : Int} (h : RfAt W b v L p) (k : Kept F W W') (hF : ∀ i, rfoot b v i → ¬ F i) : RfAt W' b v L p :=
  ⟨(k.block b h.lt (hF b (.inl rfl))).trans h.blk, h.own.kept' k (fun i e => hF i (.inr e)), h.good, h.pos⟩
theorem RfAt.below {W W' : World} {b : Nat} {v : Value} {L : List MRow} {p : Int} (h : RfAt W b v L p) (k : Below W.heap.size W W') : RfAt W' b v L p := h.kept (F := fun _ => False) (Kept.of_below k) (fun _ _ => id)
theorem RfAt.cells {W : World} {b : Nat} {v : Value} {L : List MRow} {p : Int} (h : RfAt W b v L p) : W.cell? ⟨b, 0, none⟩ = some v ∧ W.cell? ⟨b, 1, none⟩ = some (.int .i64 p) ∧ W.frozen? ⟨b, 0, none⟩ = false ∧ W.frozen? ⟨b, 1, none⟩ = false :=
  ⟨by simp [World.cell?, h.blk], by simp [World.cell?, h.blk], by simp [World.frozen?, h.blk], by simp [World.frozen?, h.blk]⟩
theorem RfAt.own_lt {W : World} {b : Nat} {v : Value} {L : List MRow} {p : Int} (h : RfAt W b v L p) {i : Nat} (e : v.ownBlock = some i) : i < W.heap.size ∧ i ≠ b := by
  obtain ⟨_, h1⟩ := h.own
  have hb := h.blk
  rcases h1 with ⟨rfl, _⟩ | ⟨g, cap, cur, rfl, hg, hbk, r⟩
  · simp [Value.ownBlock] at e
  · simp [Value.ownBlock] at e
    subst e
    refine ⟨lt_of_block hbk, fun hh => ?_⟩
    rw [hh, hb] at hbk
    simp at hbk

/-- .. in the middle of a record. -/
structure RfIn (W : World) (b : Nat) (v : Value) (L : List MRow) (p : Int) : Prop where
  blk : W.heap[b]? = some (.cells #[v, .int .i64 p] 102 (0, 0))
  own : OwnR W 0 v L
  srt : Srt L
  len : L.length ≤ 4000
theorem RfAt.in {W : World} {b : Nat} {v : Value} {L : List MRow} {p : Int} (h : RfAt W b v L p) : RfIn W b v L p := ⟨h.blk, h.own, h.good.1, by have := h.good.2.2; omega⟩
theorem RfIn.lt {W : World} {b : Nat} {v : Value} {L : List MRow} {p : Int} (h : RfIn W b v L p) : b < W.heap.size := lt_of_block h.blk
theorem RfIn.cells {W : World} {b : Nat} {v : Value} {L : List MRow} {p : Int} (h : RfIn W b v L p) : W.cell? ⟨b, 0, none⟩ = some v ∧ W.cell? ⟨b, 1, none⟩ = some (.int .i64 p) ∧ W.frozen? ⟨b, 0, none⟩ = false ∧ W.frozen? ⟨b, 1, none⟩ = false :=
  ⟨by simp [World.cell?, h.blk], by simp [World.cell?, h.blk], by simp [World.frozen?, h.blk], by simp [World.frozen?, h.blk]⟩
theorem RfIn.kept {W W' : World} {F : Nat → Prop} {b : Nat} {v : Value} {L : List MRow} {p : Int} (h : RfIn W b v L p) (k : Kept F W W') (hF : ∀ i, rfoot b v i → ¬ F i) : RfIn W' b v L p :=
  ⟨(k.block b h.lt (hF b (.inl rfl))).trans h.blk, h.own.kept' k (fun i e => hF i (.inr e)), h.srt, h.len⟩
theorem RfIn.below {W W' : World} {b : Nat} {v : Value} {L : List MRow} {p : Int} (h : RfIn W b v L p) (k : Below W.heap.size W W') : RfIn W' b v L p := h.kept (F := fun _ => False) (Kept.of_below k) (fun _ _ => id)

end Go.Proofs.Ytgbnjjgnihjfgaa
end

section
set_option linter.unusedVariables false
set_option linter.unusedSimpArgs false
namespace Go.Proofs.Ytgbnjjgnihjfgaa
open Go.RowKit Go.Sort Go.ChangeMaps Go.MapKept

end Go.Proofs.Ytgbnjjgnihjfgaa
end

section
set_option linter.unusedVariables false
set_option linter.unusedSimpArgs false
namespace Go.Proofs.Ytgbnjjgnihjfgaa
open Go.RowKit Go.Sort Go.ChangeMaps Go.MapKept

end Go.Proofs.Ytgbnjjgnihjfgaa
end

section
set_option linter.unusedVariables false
set_option linter.unusedSimpArgs false
namespace Go.Proofs.Ytgbnjjgnihjfgaa
open Go.RowKit Go.Sort Go.ChangeMaps Go.MapKept

theorem below_drewN (w : World) (d : Nat) : Below w.heap.size w (w.drewN d) := ⟨rfl, rfl, rfl, Nat.le_refl _, fun _ _ => rfl⟩
theorem ret_dec {p : Prop} [Decidable p] {W w' : World} (b : Bool) (h : p ↔ b = true) (hb : Below W.heap.size W w') : Ending.returned (.bool b) = .returned (.bool (decide p)) ∧ Below W.heap.size W w' :=
  ⟨by rw [show decide p = b by cases b <;> simp_all], hb⟩

set_option maxRecDepth 100000 in
set_option maxHeartbeats 4000000 in
theorem sameRows_any {W : World} {u v : Value} {M N : List MRow} (h : RowS W u M) (h' : RowS W v N) :
    Calls Try.prog 79 #[u, v] W fun e w' => e = .returned (.bool (decide (M = N))) ∧ Below W.heap.size W w' := by
  obtain ⟨a, n, cap, rfl, hn, hc1, hc2, hcell⟩ := h
  obtain ⟨a', n', cap', rfl, hn', hc1', hc2', hcell'⟩ := h'
  have HC := Lib.hid hcell
  have HC' := Lib.hid hcell'
  clear hcell hcell'
  by_cases hlen : n = n'
  · subst hlen
    have HN := Lib.hid hn
    have HN' := Lib.hid hn'
    have hn63 : n ≤ 9223372036854775807 := by omega
    clear hn hn'
    go_enter Try.func79, Try.ntmps79
    go_wp2_with fail
    go_loopw [5] (fun i wr => ∃ k : Nat, k ≤ n ∧ i = .int .i64 k ∧ Hid (M.take k = N.take k) ∧ Hid (Below W.heap.size W wr)) (fun i _ => n - (intOf i).toNat)
    case atStart => exact ⟨0, by omega, rfl, Lib.hid rfl, Lib.hid (Below.refl _ _)⟩
    case round =>
      obtain ⟨k, hk, rfl, HE, HB⟩ := hrel
      by_cases hlt : k < n
      · obtain ⟨vb, vo, rfl, hvb, hcs⟩ := HC.out (by omega)
        obtain ⟨vb', vo', rfl, hvb', hcs'⟩ := HC'.out (by omega)
        have HR1 := (hcs k hlt).below hvb HB.out
        have HR2 := (hcs' k hlt).below hvb' HB.out
        have Ht1 : Hid (M.take (k + 1) = M.take k ++ [M.getD k rowZ]) := Lib.hid (take_snoc' (by rw [← HN.out]; exact hlt))
        have Ht2 : Hid (N.take (k + 1) = N.take k ++ [N.getD k rowZ]) := Lib.hid (take_snoc' (by rw [← HN'.out]; exact hlt))
        clear hcs hcs'
        obtain ⟨⟨rt, rk, ⟨ra, rb, rc⟩⟩, Hr⟩ : ∃ r, Hid (M.getD k rowZ = r) := ⟨_, Lib.hid rfl⟩
        obtain ⟨⟨st, sk, ⟨sa, sb, sc⟩⟩, Hs⟩ : ∃ r, Hid (N.getD k rowZ = r) := ⟨_, Lib.hid rfl⟩
        rw [Hr.out] at HR1 Ht1
        rw [Hs.out] at HR2 Ht2
        obtain ⟨y0, y1, y2, y3, y4⟩ := HR1.cells
        obtain ⟨z0, z1, z2, z3, z4⟩ := HR2.cells
        simp only at y0 y1 y2 y3 y4 z0 z1 z2 z3 z4
        clear HR1 HR2
        have hki : (k : Int) < n := by omega
        have hne := fun w => neqRow rt rk ra rb rc st sk sa sb sc w
        by_cases g : (⟨rt, rk, ⟨ra, rb, rc⟩⟩ : MRow) = ⟨st, sk, ⟨sa, sb, sc⟩⟩
        · have d1 : rowE ⟨rt, rk, ⟨ra, rb, rc⟩⟩ ⟨st, sk, ⟨sa, sb, sc⟩⟩ = true := by rw [rowE]; simpa using g
          have HEn : Hid (M.take (k + 1) = N.take (k + 1)) := Lib.hid (by rw [Ht1.out, Ht2.out, HE.out, g])
          simp only [d1, Bool.not_true] at hne
          clear g d1
          go_wp2_with fail
          go_quiet (fail)
          have HB2 := Lib.hid (bt HB.out (below_drewN wr nq))
          go_wp2_with fail
          exact ⟨⟨k + 1, by omega, by go_num, HEn, HB2⟩, by simp [intOf]; omega⟩
        · have d1 : rowE ⟨rt, rk, ⟨ra, rb, rc⟩⟩ ⟨st, sk, ⟨sa, sb, sc⟩⟩ = false := by rw [rowE]; simpa using g
          have HEn : Hid (¬ M = N) := Lib.hid (fun e => g (by rw [← Hr.out, ← Hs.out, e]))
          simp only [d1, Bool.not_false] at hne
          clear g d1
          go_wp2_with fail
          go_quiet (fail)
          have HB2 := Lib.hid (bt HB.out (below_drewN wr nq))
          go_wp2_with fail
          go_ret
          exact ret_dec false (by simp [HEn.out]) HB2.out
      · obtain rfl : k = n := by omega
        have HEn : Hid (M = N) := Lib.hid (by
          have := HE.out
          rwa [HN.out, List.take_length, ← HN.out, HN'.out, List.take_length] at this)
        go_wp2_with fail
        go_ret
        exact ret_dec true (by simp [HEn.out]) HB.out
  · have HE : Hid (¬ M = N) := Lib.hid (fun e => hlen (by rw [hn, hn', e]))
    have d1 : ((n : Int) != (n' : Int)) = true := by simp; omega
    clear hn hn' hlen
    go_enter Try.func79, Try.ntmps79
    go_wp2_with fail
    go_ret
    exact ret_dec false (by simp [HE.out]) (Below.refl _ _)
end Go.Proofs.Ytgbnjjgnihjfgaa
end

section
set_option linter.unusedVariables false
set_option linter.unusedSimpArgs false
namespace Go.Proofs.Ytgbnjjgnihjfgaa
open Go.RowKit Go.Sort Go.ChangeMaps Go.MapKept

end Go.Proofs.Ytgbnjjgnihjfgaa
end

section
set_option linter.unusedVariables false
set_option linter.unusedSimpArgs false
namespace Go.Proofs.Ytgbnjjgnihjfgaa
open Go.RowKit Go.Sort Go.ChangeMaps Go.MapKept

/-- A slice, nil or with an address, that reads as the rows N. -/
def RowX (w : World) (u : Value) (N : List MRow) : Prop :=
  (u = .slice none 0 0 ∧ N = []) ∨ ∃ b o n cap, u = .slice (some ⟨b, o, none⟩) n cap ∧ n = N.length ∧ ∀ i, i < n → RwO w b (o + i * 5) (N.getD i rowZ)
theorem rowX_news {w : World} {b o : Nat} {N : List MRow} (h : ∀ i, i < N.length → RwO w b (o + i * 5) (N.getD i rowZ)) : ∀ j u, (flat N)[j]? = some u → w.cell? ((⟨b, o, none⟩ : Addr).add j) = some u := by
  intro j u hj
  have hlt := (List.getElem?_eq_some_iff.1 hj).1
  rw [flat_len] at hlt
  have h1 := flat_get N (j / 5) (j % 5) (by omega) (by omega)
  rw [show j / 5 * 5 + j % 5 = j by omega, hj] at h1
  have h2 := h (j / 5) (by omega) (j % 5) (by omega)
  rw [← h1] at h2
  rw [← h2]
  congr 1
  unfold Addr.add
  split
  · next h0 => subst h0; simp
  · simp only [Addr.mk.injEq, true_and, and_true]
    omega
theorem flat_one (N : List MRow) : ∀ u ∈ flat N, u.oneCell' = true := by
  intro u hu
  obtain ⟨r, _, hr⟩ := List.mem_flatMap.1 hu
  exact rcl_one r u hr
theorem RowX.kept {F : Nat → Prop} {w w' : World} {u : Value} {N : List MRow} (h : RowX w u N) (k : Kept F w w') (hF : ∀ i, u.ownBlock = some i → ¬ F i ∧ i < w.heap.size) : RowX w' u N := by
  rcases h with h | ⟨b, o, n, cap, rfl, hn, hc⟩
  · exact .inl h
  · obtain ⟨h1, h2⟩ := hF b rfl
    exact .inr ⟨b, o, n, cap, rfl, hn, fun i hi => (hc i hi).kept k h2 h1⟩

theorem own_form {w : World} {base : Nat} {v : Value} {M : List MRow} (h : OwnR w base v M) : ∃ a n cap, v = .slice a n cap := by
  rcases h.2 with ⟨rfl, _⟩ | ⟨g, cap, cur, rfl, _⟩
  · exact ⟨_, _, _, rfl⟩
  · exact ⟨_, _, _, rfl⟩
end Go.Proofs.Ytgbnjjgnihjfgaa
end

section
set_option linter.unusedVariables false
set_option linter.unusedSimpArgs false
namespace Go.Proofs.Ytgbnjjgnihjfgaa
open Go.RowKit Go.Sort Go.ChangeMaps Go.MapKept

end Go.Proofs.Ytgbnjjgnihjfgaa
end

section
set_option linter.unusedVariables false
set_option linter.unusedSimpArgs false
namespace Go.Proofs.Ytgbnjjgnihjfgaa
open Go.RowKit Go.Sort Go.ChangeMaps Go.MapKept

end Go.Proofs.Ytgbnjjgnihjfgaa
end

section
set_option linter.unusedVariables false
set_option linter.unusedSimpArgs false
namespace Go.Proofs.Ytgbnjjgnihjfgaa
open Go.RowKit Go.Sort Go.ChangeMaps Go.MapKept

/-- What pick gives: something of 0 .. n - 1. -/
def pk (c : Int) (n : Int) : Int := (if c < 0 then -(c + 1) else c) % n
theorem pk_range (c : Int) {n : Int} (hn : 1 ≤ n) : 0 ≤ pk c n ∧ pk c n < n := by
  unfold pk
  exact ⟨Int.emod_nonneg _ (by omega), Int.emod_lt_of_pos _ (by omega)⟩
end Go.Proofs.Ytgbnjjgnihjfgaa
end
end
