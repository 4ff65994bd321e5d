/- A5, A7, EL, EH -/
import Derived.Test.YtgbnjjgnihjfgaaGreatProg
import Derived.WalkKit
import Derived.Below
import Derived.Lib.Hide
import Derived.Laws.StructEq
import Derived.Lib.QuietBelow
import Derived.Deep.RegionHeld3
import Derived.Deep.RegionWith
import Derived.IntWalk
import Derived.BigQuiet
import Derived.Maps.RangeWalk
import Derived.DeepKeys4
import Derived.OneCell
import Derived.StillTail
import Derived.Deep.CutRange
import Derived.Outline
import Derived.WalkSpells
import Derived.Carry
import Derived.Shelf.SlGeneric
import Derived.Shelf.SlSortCmp.WholeK
import Derived.Shelf.SlicesG.Cmp
import Derived.Ground.SlsfProg
import Derived.Ground.SlgcProg
import Derived.Sort.OwnSorted
import Derived.Deep.AppendLies
import Derived.Shelf.SlSortCmp.NoneTotal
import Derived.Deep.QuietTactic
import Derived.Laws.AppendOwnNone
import Derived.ArgAppend
import Derived.Laws.Rows
import Derived.Great.BuildSlice
import Derived.Great.Frames
import Derived.Laws.EntriesVeiled
import Derived.Lib.SliceRun
import Derived.Deep.Cut
import Derived.Laws.ResultCell
import Derived.Test.YtgbnjjgnihjfgaaGreatBAE
import Derived.Test.YtgbnjjgnihjfgaaGreatBAB
import Derived.Test.YtgbnjjgnihjfgaaGreatBAA
import Derived.Test.YtgbnjjgnihjfgaaGreatBAC
import Derived.Test.YtgbnjjgnihjfgaaGreatBAD
import Derived.Test.YtgbnjjgnihjfgaaGreatBAF
import Derived.Deep.DeepCutAuto
section
section
set_option linter.unusedVariables false
set_option linter.unusedSimpArgs false
namespace Go.Proofs.YtgbnjjgnihjfgaaGreat
open Go.RowKit Go.Sort Go.ChangeMaps Go.MapKept

def ccl (c : MCh) : List Value := (chCells c).toList
theorem ccl_len (c : MCh) : (ccl c).length = 10 := rfl
def flatC (M : List MCh) : List Value := M.flatMap ccl
theorem flatC_len (M : List MCh) : (flatC M).length = M.length * 10 := by
  induction M with
  | nil => rfl
  | cons r M ih => rw [flatC, List.flatMap_cons, List.length_append, ccl_len, List.length_cons, ← flatC, ih]; omega
theorem flatC_app (M N : List MCh) : flatC (M ++ N) = flatC M ++ flatC N := by simp [flatC]
theorem flatC_get (M : List MCh) : ∀ i j, i < M.length → j < 10 → (flatC M)[i * 10 + j]? = (ccl (M.getD i chZ))[j]? := by
  induction M with
  | nil => intro i j h; simp at h
  | cons r M ih =>
    intro i j hi hj
    rw [flatC, List.flatMap_cons, ← flatC]
    cases i with
    | zero =>
      rw [List.getElem?_append_left (by rw [ccl_len]; omega)]
      simp
    | succ i =>
      rw [List.getElem?_append_right (by rw [ccl_len]; omega), ccl_len, show (i + 1) * 10 + j - 10 = i * 10 + j by omega, ih i j (by simpa using hi) hj]
      simp
theorem ccl_one (c : MCh) : ∀ v ∈ ccl c, v.oneCell' = true := by
  intro v hv
  simp [ccl, chCells] at hv
  rcases hv with rfl | rfl | rfl | rfl | rfl | rfl | rfl | rfl | rfl | rfl <;> rfl
theorem flatC_one (N : List MCh) : ∀ u ∈ flatC N, u.oneCell' = true := by
  intro u hu
  obtain ⟨r, _, hr⟩ := List.mem_flatMap.1 hu
  exact ccl_one r u hr

/-- A slice of the call's own that holds a list of changes. -/
def OwnC (W : World) (base : Nat) (v : Value) (M : List MCh) : Prop := W.ownsRow base 45 10 v M.length (flatC M)
theorem OwnC.nil (W : World) (base : Nat) : OwnC W base (.slice none 0 0) [] := ⟨rfl, .inl ⟨rfl, rfl⟩⟩
theorem OwnC.chS {W : World} {base : Nat} {v : Value} {M : List MCh} (h : OwnC W base v M) : ChS W v M := by
  obtain ⟨hl, h⟩ := h
  rcases h with ⟨rfl, h0⟩ | ⟨g, cap, cur, rfl, hg, hb, h1, h2, h3, h4⟩
  · obtain rfl := List.length_eq_zero_iff.1 h0
    exact ⟨none, 0, 0, rfl, rfl, Nat.le_refl _, by omega, fun h => by omega⟩
  · refine ⟨_, _, cap, rfl, rfl, h1, by unfold maxLen at h2; omega, fun _ => ⟨g, 0, rfl, lt_of_block hb, fun i hi j hj => ?_⟩⟩
    have h5 := flatC_get M i j hi hj
    rw [← h4, List.getElem?_take_of_lt (by omega), Array.getElem?_toList] at h5
    unfold ccl at h5
    rw [Array.getElem?_toList] at h5
    rw [← h5]
    simp [World.cell?, hb]
theorem OwnC.kept {F : Nat → Prop} {W W' : World} {base : Nat} {v : Value} {M : List MCh} (h : OwnC W base v M) (k : Kept F W W') (hF : ∀ i, v.ownBlock = some i → ¬ F i) : OwnC W' base v M := by
  obtain ⟨hl, h⟩ := h
  exact ⟨hl, h.imp id fun ⟨g, cap, cur, e, hg, hb, r⟩ => ⟨g, cap, cur, e, hg, (k.block g (lt_of_block hb) (hF g (by rw [e]; rfl))).trans hb, r⟩⟩
theorem OwnC.below {W W' : World} {base : Nat} {v : Value} {M : List MCh} (h : OwnC W base v M) (k : Below W.heap.size W W') : OwnC W' base v M := h.kept (F := fun _ => False) (Kept.of_below k) (fun _ _ => id)
theorem OwnC.mono {W : World} {base base' : Nat} {v : Value} {M : List MCh} (h : OwnC W base v M) (hb : base' ≤ base) : OwnC W base' v M := by
  obtain ⟨hl, h⟩ := h
  exact ⟨hl, h.imp id fun ⟨g, cap, cur, e, hg, r⟩ => ⟨g, cap, cur, e, by omega, r⟩⟩
/-- What block a value owns, and of what type its cells are. -/
theorem own_type {W : World} {base : Nat} {e : TypeId} {s n : Nat} {v : Value} {xs : List Value} (h : W.ownsRow base e s v n xs) {g : Nat} (hg : v.ownBlock = some g) : base ≤ g ∧ ∃ cur, W.heap[g]? = some (.cells cur e (0, 0)) := by
  rcases h.2 with ⟨rfl, _⟩ | ⟨g', cap, cur, rfl, hb, hbk, _⟩
  · simp [Value.ownBlock] at hg
  · simp [Value.ownBlock] at hg
    subst hg
    exact ⟨hb, cur, hbk⟩
theorem type_ne {W : World} {g g' : Nat} {c c' : Array Value} {t t' : TypeId} {f f' : Nat × Nat} (h : W.heap[g]? = some (.cells c t f)) (h' : W.heap[g']? = some (.cells c' t' f')) (ht : t ≠ t') : g ≠ g' := by
  rintro rfl
  rw [h] at h'
  simp at h'
  exact ht h'.2.1

def flatQ (Q : List (MRec × Value)) : List Value := Q.flatMap fun q => [.int .i64 q.1.pos, q.2]
theorem flatQ_app (M N : List (MRec × Value)) : flatQ (M ++ N) = flatQ M ++ flatQ N := by simp [flatQ]
def qZ : MRec × Value := (recZ, .slice none 0 0)
theorem flatQ_get (M : List (MRec × Value)) : ∀ i j, i < M.length → j < 2 → (flatQ M)[i * 2 + j]? = ([.int .i64 (M.getD i qZ).1.pos, (M.getD i qZ).2] : List Value)[j]? := by
  induction M with
  | nil => intro i j h; simp at h
  | cons r M ih =>
    intro i j hi hj
    rw [flatQ, List.flatMap_cons, ← flatQ]
    cases i with
    | zero =>
      rw [List.getElem?_append_left (by simp; omega)]
      simp
    | succ i =>
      rw [List.getElem?_append_right (by simp; omega), show (i + 1) * 2 + j - ([Value.int .i64 r.1.pos, r.2] : List Value).length = i * 2 + j by simp; omega, ih i j (by simpa using hi) hj]
      simp
/-- The records of a log in memory. -/
def OwnQ (W : World) (base : Nat) (v : Value) (Q : List (MRec × Value)) : Prop := W.ownsRow base 41 2 v Q.length (flatQ Q)
theorem OwnQ.nil (W : World) (base : Nat) : OwnQ W base (.slice none 0 0) [] := ⟨rfl, .inl ⟨rfl, rfl⟩⟩
theorem OwnQ.kept {F : Nat → Prop} {W W' : World} {base : Nat} {v : Value} {M : List (MRec × Value)} (h : OwnQ W base v M) (k : Kept F W W') (hF : ∀ i, v.ownBlock = some i → ¬ F i) : OwnQ W' base v M := by
  obtain ⟨hl, h⟩ := h
  exact ⟨hl, h.imp id fun ⟨g, cap, cur, e, hg, hb, r⟩ => ⟨g, cap, cur, e, hg, (k.block g (lt_of_block hb) (hF g (by rw [e]; rfl))).trans hb, r⟩⟩
theorem OwnQ.below {W W' : World} {base : Nat} {v : Value} {M : List (MRec × Value)} (h : OwnQ W base v M) (k : Below W.heap.size W W') : OwnQ W' base v M := h.kept (F := fun _ => False) (Kept.of_below k) (fun _ _ => id)
theorem OwnQ.recS {W : World} {base : Nat} {v : Value} {Q : List (MRec × Value)} (h : OwnQ W base v Q) (hc : ∀ q ∈ Q, ∃ b, OwnC W b q.2 q.1.chs) : RecS W v (Q.map Prod.fst) := by
  obtain ⟨hl, h⟩ := h
  rcases h with ⟨rfl, h0⟩ | ⟨g, cap, cur, rfl, hg, hb, h1, h2, h3, h4⟩
  · obtain rfl := List.length_eq_zero_iff.1 h0
    exact ⟨none, 0, 0, rfl, rfl, Nat.le_refl _, by omega, fun h => by omega⟩
  · refine ⟨_, _, cap, rfl, by simp, h1, by unfold maxLen at h2; omega, fun _ => ⟨g, 0, rfl, lt_of_block hb, fun i hi => ?_⟩⟩
    have hm : Q.getD i qZ ∈ Q := getD_mem hi
    have hmap : (Q.map Prod.fst).getD i recZ = (Q.getD i qZ).1 := by
      rw [List.getD_eq_getElem?_getD, List.getD_eq_getElem?_getD, List.getElem?_map, List.getElem?_eq_getElem hi]
      rfl
    have hget : ∀ j, j < 2 → W.cell? ⟨g, 0 + i * 2 + j, none⟩ = ([.int .i64 (Q.getD i qZ).1.pos, (Q.getD i qZ).2] : List Value)[j]? := fun j hj => by
      have h5 := flatQ_get Q i j hi hj
      rw [← h4, List.getElem?_take_of_lt (by omega), Array.getElem?_toList] at h5
      rw [← h5]
      simp [World.cell?, hb]
    obtain ⟨b, hb2⟩ := hc _ hm
    rw [hmap]
    exact ⟨hget 0 (by omega), _, hget 1 (by omega), hb2.chS⟩
end Go.Proofs.YtgbnjjgnihjfgaaGreat
end

section
set_option linter.unusedVariables false
set_option linter.unusedSimpArgs false
namespace Go.Proofs.YtgbnjjgnihjfgaaGreat
open Go.RowKit Go.Sort Go.ChangeMaps Go.MapKept

theorem setCell_heap {w : World} {b : Nat} {cur : Array Value} {t : TypeId} {fr : Nat × Nat} (h : w.heap[b]? = some (.cells cur t fr)) (j : Nat) (u : Value) : (w.setCell ⟨b, j, none⟩ u).heap[b]? = some (.cells (cur.setIfInBounds j u) t fr) := by
  have hlt := lt_of_block h
  have h' : w.heap[b] = .cells cur t fr := by simpa [Array.getElem?_eq_getElem hlt] using h
  show (w.heap.modify b _)[b]? = _
  rw [Array.getElem?_eq_getElem (by simpa using hlt), Array.getElem_modify_self, h']
  rfl
/-- Block cb holds the change c, and nothing else of w has turned. -/
def CBk (cb : Nat) (w wy : World) (c : MCh) : Prop := wy.heap[cb]? = some (.cells (chCells c) 45 (0, 0)) ∧ Kept (fun i => i = cb) w wy
theorem CBk.alloc {cb : Nat} {w wy : World} {c : MCh} (h : CBk cb w wy c) (o : Obj) : CBk cb w (wy.alloc o) c := ⟨(MapKept.heap_alloc wy o).2 _ (lt_of_block h.1) |>.trans h.1, h.2.then (ba wy o)⟩
theorem CBk.below {cb : Nat} {w wy wz : World} {c : MCh} (h : CBk cb w wy c) (k : Below wy.heap.size wy wz) : CBk cb w wz c := ⟨(k.block _ (lt_of_block h.1)).trans h.1, h.2.then k⟩
theorem ks {cb : Nat} {w wy : World} (h : Kept (fun i => i = cb) w wy) (j : Nat) (u : Value) : Kept (fun i => i = cb) w (wy.setCell ⟨cb, j, none⟩ u) := Kept.setCell (F := fun i => i = cb) (p := ⟨cb, j, none⟩) h (.inl rfl) u
theorem cbk_had {cb : Nat} {w : World} {t k a b c : Int} {had has : Bool} (h : w.heap[cb]? = some (.cells (chCells ⟨t, k, false, ⟨0, 0, 0⟩, false, ⟨0, 0, 0⟩⟩) 45 (0, 0))) :
    CBk cb w (((((w.setCell ⟨cb, 2, none⟩ (.bool had)).setCell ⟨cb, 3, none⟩ (.int .i64 a)).setCell ⟨cb, 4, none⟩ (.int .i64 b)).setCell ⟨cb, 5, none⟩ (.int .i64 c)).setCell ⟨cb, 6, none⟩ (.bool has)) ⟨t, k, had, ⟨a, b, c⟩, has, ⟨0, 0, 0⟩⟩ :=
  ⟨setCell_heap (setCell_heap (setCell_heap (setCell_heap (setCell_heap h 2 _) 3 _) 4 _) 5 _) 6 _, ks (ks (ks (ks (ks (Kept.refl _ _) _ _) _ _) _ _) _ _) _ _⟩
theorem cbk_new {cb : Nat} {w wy : World} {t k oa ob oc a b c : Int} {had has : Bool} (h : CBk cb w wy ⟨t, k, had, ⟨oa, ob, oc⟩, has, ⟨0, 0, 0⟩⟩) :
    CBk cb w (((wy.setCell ⟨cb, 7, none⟩ (.int .i64 a)).setCell ⟨cb, 8, none⟩ (.int .i64 b)).setCell ⟨cb, 9, none⟩ (.int .i64 c)) ⟨t, k, had, ⟨oa, ob, oc⟩, has, ⟨a, b, c⟩⟩ :=
  ⟨setCell_heap (setCell_heap (setCell_heap h.1 7 _) 8 _) 9 _, ks (ks (ks h.2 _ _) _ _) _ _⟩
/-- What the walk reads of it. -/
theorem CBk.cells {cb : Nat} {w wy : World} {t k oa ob oc a b c : Int} {had has : Bool} (h : CBk cb w wy ⟨t, k, had, ⟨oa, ob, oc⟩, has, ⟨a, b, c⟩⟩) :
    (wy.cell? ⟨cb, 0, none⟩ = some (.int .i64 t) ∧ wy.cell? ⟨cb, 1, none⟩ = some (.int .i64 k) ∧ wy.cell? ⟨cb, 2, none⟩ = some (.bool had) ∧ wy.cell? ⟨cb, 3, none⟩ = some (.int .i64 oa) ∧ wy.cell? ⟨cb, 4, none⟩ = some (.int .i64 ob) ∧ wy.cell? ⟨cb, 5, none⟩ = some (.int .i64 oc) ∧
     wy.cell? ⟨cb, 6, none⟩ = some (.bool has) ∧ wy.cell? ⟨cb, 7, none⟩ = some (.int .i64 a) ∧ wy.cell? ⟨cb, 8, none⟩ = some (.int .i64 b) ∧ wy.cell? ⟨cb, 9, none⟩ = some (.int .i64 c)) ∧ ∀ j, wy.frozen? ⟨cb, j, none⟩ = false := by
  have h1 := h.1
  refine ⟨⟨?_, ?_, ?_, ?_, ?_, ?_, ?_, ?_, ?_, ?_⟩, fun j => by simp [World.frozen?, h1]⟩ <;> simp [World.cell?, h1, chCells]
end Go.Proofs.YtgbnjjgnihjfgaaGreat
end

section
set_option linter.unusedVariables false
set_option linter.unusedSimpArgs false
namespace Go.Proofs.YtgbnjjgnihjfgaaGreat
open Go.RowKit

section
variable {P : Program} {ops : Array Oper} {md : Region.Mode}

def pickO (l : List Oper) (ks : List Nat) : List Oper := ks.filterMap fun k => l[k]?
def seqIdx (md : Region.Mode) (ops : Array Oper) : List Nat → Array Bool → Bool
  | [], listed => (Region.ready md ops listed).isEmpty
  | k :: ks, listed => decide (Region.ready md ops listed = [k]) && seqIdx md ops ks (listed.setIfInBounds k true)
def plainB (o : Oper) : Bool := match o.op with
  | .move _ => true
  | .slice .. => true
  | .extract .. => true
  | .unOp .. => true
  | .convert .. => true
  | _ => false
def frontIdx (md : Region.Mode) (ops : Array Oper) (rs : List Nat) : List Nat → Array Bool → Bool
  | [], listed => seqIdx md ops rs listed
  | k :: ks, listed => (Region.ready md ops listed).contains k && Region.free md ops listed k && (match ops[k]? with | some o => plainB o | none => false) && frontIdx md ops rs ks (listed.setIfInBounds k true)
def wpFront (P : Program) (ops : Array Oper) (X : Act → Prop) : List Oper → Act → Prop
  | [], a => X a
  | o :: os, a => ∃ v, (Region.wanted o (yielded ops a.tmps) = true ∧ ∀ w, o.quietAt P a (fun _ => True) w v) ∧ wpFront P ops X os (a.put o.dst v)

theorem plain_yields {o : Oper} {a : Act} {v : Value} (hp : plainB o = true) (hw : Region.wanted o (yielded ops a.tmps) = true) (h : ∀ w, o.quietAt P a (fun _ => True) w v) : Yields P ops o v a := by
  refine .inl ⟨hw, fun w => ?_⟩
  have q := h w
  unfold Oper.quietAt at q
  have key : ∀ s : Sem Value, ∀ r, (do pure (Next.value (← s)) : Sem Next).run P w = r → Oper.quietUpon P (fun _ => True) w v r → r = .ok (.value v) w := by
    intro s r hr hq
    subst hr
    rw [Sem.run_bind] at hq ⊢
    cases hs : s.run P w with
    | ok x w' =>
      rw [hs] at hq
      simp [Sem.run, Result.andThen, Oper.quietUpon] at hq ⊢
      first | exact ⟨hq.2, hq.1⟩ | exact hq
    | halt c w' =>
      rw [hs] at hq
      simp [Sem.run, Result.andThen, Oper.quietUpon] at hq
  unfold plainB at hp
  revert q
  unfold execOp
  cases ho : o.op <;> simp only [ho] at hp <;> try (exact absurd hp Bool.false_ne_true)
  all_goals intro q
  case move x =>
    simp [Sem.run, Oper.quietUpon] at q ⊢
    exact q
  all_goals exact key _ _ rfl q

theorem wpAny_seqIdx {Q' : Exit → Act → World → Prop} (l : List Oper) : ∀ (ks : List Nat) (listed : Array Bool) (a : Act) (w : World), (∀ k ∈ ks, k < l.length) →
    seqIdx md l.toArray ks listed = true → wpList P l.toArray Q' (pickO l ks) a w → wpAny P md l.toArray Q' ks.length listed a w
  | [], _, _, _, _, hB, h => ⟨by simpa [seqIdx] using hB, h⟩
  | k :: ks, listed, a, w, hl, hB, h => by
    have hk : k < l.length := hl k (by simp)
    have h0 : l.toArray[k]? = some l[k] := by simp [hk]
    simp only [List.length_cons, seqIdx, Bool.and_eq_true, decide_eq_true_eq] at hB
    refine ⟨fun h1 => (by rw [hB.1] at h1; cases h1), fun i hi => ?_⟩
    rw [hB.1] at hi
    have hik : i = k := by simpa using hi
    subst hik
    have hp : pickO l (i :: ks) = l[i] :: pickO l ks := by simp [pickO, hk]
    rw [hp] at h
    have hw : wpOp P l.toArray Q' i (wpList P l.toArray Q' (pickO l ks)) a w := by unfold wpOp; simp only [h0]; exact h
    exact wpOp_mono (fun a' w' h' => wpAny_seqIdx l ks _ a' w' (fun k hk => hl k (by simp [hk])) hB.2 h') hw

theorem wpAny_frontIdx {Q' : Exit → Act → World → Prop} (l : List Oper) (rs : List Nat) (hrs : ∀ k ∈ rs, k < l.length) (hsel : Region.noSelect l.toArray = true) (hQ : ∀ d c a v w, Q' (.panic c) (Act.put a d v) w → Q' (.panic c) a w) (w : World) :
    ∀ (ks : List Nat) (listed : Array Bool) (a : Act), frontIdx md l.toArray rs ks listed = true → wpFront P l.toArray (fun a' => wpList P l.toArray Q' (pickO l rs) a' w) (pickO l ks) a → wpAny P md l.toArray Q' (ks.length + rs.length) listed a w
  | [], listed, a, hB, h => by
    rw [List.length_nil, Nat.zero_add]
    exact wpAny_seqIdx l rs listed a w hrs hB h
  | k :: ks, listed, a, hB, h => by
    simp only [frontIdx, Bool.and_eq_true] at hB
    obtain ⟨⟨⟨hr, hf⟩, hp⟩, hB⟩ := hB
    have hr' : k ∈ Region.ready md l.toArray listed := by simpa using hr
    obtain ⟨_, o, ho, _⟩ := mem_ready.1 hr'
    rw [ho] at hp
    have hk : k < l.length := by simpa using (Array.getElem?_eq_some_iff.1 ho).1
    have hok : l[k] = o := by
      have := ho
      rw [List.getElem?_toArray, List.getElem?_eq_getElem hk] at this
      exact Option.some.inj this
    have hpk : pickO l (k :: ks) = o :: pickO l ks := by simp [pickO, hk, hok]
    rw [hpk] at h
    obtain ⟨v, ⟨h1, h2⟩, h3⟩ := h
    rw [show (k :: ks).length + rs.length = (ks.length + rs.length) + 1 by simp only [List.length_cons]; omega]
    refine wpAny_first ho (Region.noSelect_spec hsel) (fun c a w => hQ _ c a v w) _ listed a w (fun j oj hj hjz hun' hno => Region.free_spec ho hf j oj hj hjz hun' hno) hr' (plain_yields hp h1 h2) ?_
    exact wpAny_frontIdx l rs hrs hsel hQ w ks _ _ hB h3

def frontB (l : List Oper) (ks rs : List Nat) : Bool := Region.noSelect l.toArray && rs.all (fun k => decide (k < l.length)) && frontIdx .any l.toArray rs ks (Array.replicate l.toArray.size false) && decide (ks.length + rs.length = l.toArray.size)

/-- **What looks at no world first, then the rest.** -/
theorem wp_region_front {id : Nat} {Q : Exit → Act → World → Prop} {a : Act} {w : World} {l : List Oper} (ks rs : List Nat) (hm : P.follows .mixedOrders = true) (hB : frontB l ks rs = true)
    (h : ∀ wy, BW w wy → wpFront P l.toArray (fun a' => wpList P l.toArray (NoPanic Q) (pickO l rs) a' wy) (pickO l ks) a) : (Code.region id l.toArray true).wp P Q a w := by
  simp only [frontB, Bool.and_eq_true, decide_eq_true_eq] at hB
  obtain ⟨⟨⟨hsel, hrs⟩, hf⟩, hlen⟩ := hB
  refine wp_region_noPanic ?_
  refine wp_region_any hm ?_
  have R := wpAny_frontIdx (P := P) (md := .any) (Q' := NoPanic Q) l rs (fun k hk => by simpa using List.all_eq_true.1 hrs k hk) hsel (fun _ _ _ _ _ h => h) { w with drawn := w.drawn + 1 } ks _ a hf (h _ ⟨rfl, rfl, rfl, Nat.le_refl _, fun _ _ => rfl⟩)
  rw [hlen] at R
  exact R

theorem wpFront_nil {X : Act → Prop} {a : Act} (h : X a) : wpFront P ops X [] a := h
theorem wpFront_want {X : Act → Prop} {a aN : Act} {o : Oper} {rest : List Oper} (hw : Region.wanted o (yielded ops a.tmps) = true) (h : ∀ K : Act → Prop, K aN → o.quiet P a (fun _ => True) K) (hr : wpFront P ops X rest aN) : wpFront P ops X (o :: rest) a := by
  obtain ⟨v0, h1, hN⟩ := h (fun a' => a' = aN) rfl
  exact ⟨v0, ⟨hw, fun w => h1 w trivial⟩, by rw [hN]; exact hr⟩
end
end Go.Proofs.YtgbnjjgnihjfgaaGreat
end

section
set_option linter.unusedVariables false
set_option linter.unusedSimpArgs false
namespace Go.Proofs.YtgbnjjgnihjfgaaGreat
open Go.RowKit

/-- A slice, nil or with an address, that reads as m things of size cells. -/
def RdX (w : World) (size : Nat) (u : Value) (m : Nat) (xs : List Value) : Prop :=
  xs.length = m * size ∧ ((u = .slice none 0 0 ∧ m = 0) ∨ ∃ b o cap, u = .slice (some ⟨b, o, none⟩) m cap ∧ ∀ j v, xs[j]? = some v → w.cell? ((⟨b, o, none⟩ : Addr).add j) = some v)
theorem add_mk (b o j : Nat) : (⟨b, o, none⟩ : Addr).add j = ⟨b, o + j, none⟩ := by
  unfold Addr.add
  split
  · next h => subst h; rfl
  · rfl
theorem own_cell {w : World} {base e size g n cap : Nat} {xs : List Value} (h : w.ownsRow base e size (.slice (some ⟨g, 0, none⟩) n cap) n xs) : ∃ cur : Array Value, w.heap[g]? = some (.cells cur e (0, 0)) ∧ cur.toList.take (n * size) = xs ∧ base ≤ g := by
  rcases h.2 with ⟨e, _⟩ | ⟨g', cap', cur, e, hb, hc, _, _, _, ht⟩
  · cases e
  · simp at e
    obtain ⟨rfl, rfl⟩ := e
    exact ⟨cur, hc, ht, hb⟩
theorem own_rd {w : World} {base e size g n cap : Nat} {xs : List Value} (h : w.ownsRow base e size (.slice (some ⟨g, 0, none⟩) n cap) n xs) {j : Nat} {v : Value} (hj : xs[j]? = some v) : w.cell? ⟨g, j, none⟩ = some v := by
  obtain ⟨cur, hc, ht, _⟩ := own_cell h
  have hlt := (List.getElem?_eq_some_iff.1 hj).1
  rw [← ht] at hj hlt
  rw [List.length_take] at hlt
  rw [List.getElem?_take_of_lt (by omega), Array.getElem?_toList] at hj
  simp [World.cell?, hc, hj]
theorem rdx_take {w wz : World} {base e size g n cap : Nat} {xs : List Value} (h : w.ownsRow base e size (.slice (some ⟨g, 0, none⟩) n cap) n xs) (hB : Below w.heap.size w wz) (q cap' : Nat) (hq : q ≤ n) : RdX wz size (.slice (some ⟨g, 0, none⟩) q cap') q (xs.take (q * size)) := by
  obtain ⟨cur, hc, _, _⟩ := own_cell h
  have hg : g < w.heap.size := by
    rcases Nat.lt_or_ge g w.heap.size with h | h
    · exact h
    · rw [Array.getElem?_eq_none h] at hc; cases hc
  refine ⟨by rw [List.length_take, h.1]; exact Nat.min_eq_left (Nat.mul_le_mul_right _ hq), .inr ⟨g, 0, cap', rfl, fun j v hj => ?_⟩⟩
  have hlt := (List.getElem?_eq_some_iff.1 hj).1
  rw [List.length_take] at hlt
  rw [List.getElem?_take_of_lt (by omega)] at hj
  rw [add_mk, Nat.zero_add, hB.cell (p := ⟨g, j, none⟩) hg]
  exact own_rd h hj
theorem rdx_drop {w wz : World} {base e size g n cap : Nat} {xs : List Value} (h : w.ownsRow base e size (.slice (some ⟨g, 0, none⟩) n cap) n xs) (hB : Below w.heap.size w wz) (q l cap' o : Nat) (hl : l = n - q) (ho : q < n → o = q * size) : RdX wz size (.slice (some ⟨g, o, none⟩) l cap') l (xs.drop (q * size)) := by
  obtain ⟨cur, hc, _, _⟩ := own_cell h
  have hg : g < w.heap.size := by
    rcases Nat.lt_or_ge g w.heap.size with h | h
    · exact h
    · rw [Array.getElem?_eq_none h] at hc; cases hc
  refine ⟨by rw [List.length_drop, h.1, hl, Nat.sub_mul], .inr ⟨g, o, cap', rfl, fun j v hj => ?_⟩⟩
  rw [List.getElem?_drop] at hj
  have hlt := (List.getElem?_eq_some_iff.1 hj).1
  have hqn : q < n := by
    rcases Nat.lt_or_ge q n with h' | h'
    · exact h'
    · have := Nat.mul_le_mul_right size h'
      rw [h.1] at hlt
      omega
  rw [add_mk, ho hqn, hB.cell (p := ⟨g, q * size + j, none⟩) hg]
  exact own_rd h hj
theorem ba' (w : World) (o : Obj) : Below w.heap.size w (w.alloc o) := (Below.refl _ _).alloc (Nat.le_refl _) _
section
variable {P : Program} {w : World} {ops : Array Oper} {rest : List Oper} {o : Oper} {a : Act} {Q : Exit → Act → World → Prop}
theorem wpList_ins9 (hgd : o.guard = none) (s x : Operand) (t : TypeId) (ho : o.op = .call { callee := .builtin .append, args := #[s, x], argTypes := #[t, t] })
    (e : TypeId) (i : TypeInfo) (z : Value) (size bytes : Nat) (ht : P.underlying t = some (.slice e)) (hi : P.info? e = some i) (hz : i.zero = some z)
    (hsize : i.size = size) (hby : i.bytes = bytes) (hzs : z.cells.size = size) (hsz : 0 < size)
    (g : Nat) (xc : List Value) (hs : a.eval s = .slice (some ⟨g, 0, none⟩) 1 1) (hg : w.heap[g]? = some (.cells xc.toArray e (0, 0))) (hxc : xc.length = size)
    (u : Value) (m : Nat) (ys : List Value) (hx : a.eval x = u) (hr : RdX w size u m ys) (h1 : ∀ v ∈ ys, v.oneCell' = true) (b1 : 1 + m ≤ maxLen) (b2 : (1 + m) * bytes ≤ 140737488355328)
    (h : ∀ v' w', RdX w' size v' (1 + m) (xc ++ ys) → w.grownBy w' (some g) → wpList P ops Q rest (a.put o.dst v') w') : wpList P ops Q (o :: rest) a w := by
  have hglt : g < w.heap.size := by
    rcases Nat.lt_or_ge g w.heap.size with h | h
    · exact h
    · rw [Array.getElem?_eq_none h] at hg; cases hg
  have hown : w.ownsRow g e size (.slice (some ⟨g, 0, none⟩) 1 1) 1 xc := by
    refine ⟨by rw [hxc, Nat.one_mul], .inr ⟨g, 1, xc.toArray, rfl, Nat.le_refl _, hg, Nat.le_refl _, by unfold maxLen; omega, by simp [hxc], ?_⟩⟩
    rw [Nat.one_mul, ← hxc]
    simp
  have fin : ∀ v' w', w'.ownsRow g e size v' (1 + m) (xc ++ ys) → RdX w' size v' (1 + m) (xc ++ ys) := fun v' w' ho' => by
    refine ⟨ho'.1, .inr ?_⟩
    rcases ho'.2 with ⟨_, h0⟩ | ⟨g', cap', cur, rfl, _⟩
    · omega
    · exact ⟨g', 0, cap', rfl, fun j v hj => by rw [add_mk, Nat.zero_add]; exact own_rd ho' hj⟩
  obtain ⟨hyl, hr⟩ := hr
  rcases hr with ⟨rfl, rfl⟩ | ⟨b, p, cap, rfl, hc⟩
  · obtain rfl : ys = [] := List.eq_nil_of_length_eq_zero (by simpa using hyl)
    refine wpList_append_own_none hgd s x t ho g e i size ht hi _ 1 xc hs hown hx (h _ _ (fin _ _ ?_) ⟨rfl, rfl, rfl, Nat.le_refl _, fun _ _ _ => rfl⟩)
    rw [List.append_nil]
    exact hown
  · refine wpList_append_own w hgd s x t ho g e i z size bytes ht hi hz hsize hby hzs hsz _ 1 xc hs hown ⟨b, p, none⟩ m cap ys hx hyl hc h1 b1 b2 (Nat.le_of_lt hglt) ?_
    intro v' w' hown' hg' _
    exact h v' w' (fin _ _ hown') hg'
theorem wpList_ins10 (hgd : o.guard = none) (s x : Operand) (t : TypeId) (ho : o.op = .call { callee := .builtin .append, args := #[s, x], argTypes := #[t, t] })
    (e : TypeId) (i : TypeInfo) (z : Value) (size bytes : Nat) (ht : P.underlying t = some (.slice e)) (hi : P.info? e = some i) (hz : i.zero = some z)
    (hsize : i.size = size) (hby : i.bytes = bytes) (hzs : z.cells.size = size) (hsz : 0 < size)
    (ao : Option Addr) (q : Nat) (ps : List Value) (hs : a.eval s = .slice ao q q) (hp : RdX w size (.slice ao q q) q ps)
    (u : Value) (m : Nat) (ys : List Value) (hx : a.eval x = u) (hr : RdX w size u (1 + m) ys) (h1 : ∀ v ∈ ys, v.oneCell' = true) (b1 : q + (1 + m) ≤ maxLen) (b2 : (q + (1 + m)) * bytes ≤ 140737488355328)
    (h : ∀ v' w', w'.ownsRow w.heap.size e size v' (q + (1 + m)) (ps ++ ys) → w.grownBy w' none → wpList P ops Q rest (a.put o.dst v') w') : wpList P ops Q (o :: rest) a w := by
  obtain ⟨hyl, hr⟩ := hr
  obtain ⟨hpl, hp⟩ := hp
  rcases hr with ⟨_, h0⟩ | ⟨b, p, cap, rfl, hc⟩
  · omega
  · refine wpList_append_grows w hgd s x t ho e i z size bytes ht hi hz hsize hby hzs hsz ao q q ps hs ?_ hpl ?_ ⟨b, p, none⟩ (1 + m) cap ys hx hyl hc h1 (by omega) b1 b2 h
    · intro hn
      rcases hp with ⟨e, h0⟩ | ⟨b', p', c', e, _⟩
      · omega
      · rw [hn] at e; simp at e
    · intro b' hb' j v hj
      rcases hp with ⟨e, h0⟩ | ⟨b2, p', c', e, hc'⟩
      · rw [hb'] at e; simp at e
      · rw [hb'] at e
        simp at e
        rw [e.1]
        exact hc' j v hj

theorem own_mono {w : World} {base base' e size n : Nat} {v : Value} {xs : List Value} (h : w.ownsRow base e size v n xs) (hb : base' ≤ base) : w.ownsRow base' e size v n xs := by
  obtain ⟨hl, h⟩ := h
  exact ⟨hl, h.imp id fun ⟨g, cap, cur, e, hg, r⟩ => ⟨g, cap, cur, e, by omega, r⟩⟩

set_option maxHeartbeats 2000000 in
/-- The whole of the putting in, behind the reads of the slots. -/
theorem insert_tail {o4 o5 o9 o10 o11 : Oper} (sb d4 d5 s3 s8 d9 d10 d11 : Nat) (t e : TypeId)
    (g4 : o4.guard = none) (p4 : o4.op = .load e (.tmp sb)) (t4 : o4.dst = some d4) (g5 : o5.guard = none) (p5 : o5.op = .buildSlice t 1 #[(0, .tmp d4)]) (t5 : o5.dst = some d5)
    (g9 : o9.guard = none) (p9 : o9.op = .call { callee := .builtin .append, args := #[.tmp d5, .tmp s8], argTypes := #[t, t] }) (t9 : o9.dst = some d9)
    (g10 : o10.guard = none) (p10 : o10.op = .call { callee := .builtin .append, args := #[.tmp s3, .tmp d9], argTypes := #[t, t] }) (t10 : o10.dst = some d10)
    (g11 : o11.guard = none) (p11 : o11.op = .assign (.tmp d10)) (t11 : o11.dst = some d11)
    (hsz : d4 < a.tmps.size ∧ d5 < a.tmps.size ∧ d9 < a.tmps.size ∧ d10 < a.tmps.size) (hne : d4 ≠ s8 ∧ d5 ≠ s8 ∧ d4 ≠ s3 ∧ d5 ≠ s3 ∧ d9 ≠ s3)
    (i : TypeInfo) (z : Value) (size bytes : Nat) (ht : P.underlying t = some (.slice e)) (hi : P.info? e = some i) (hz : i.zero = some z)
    (hsize : i.size = size) (hby : i.bytes = bytes) (hzs : z.cells.size = size) (hsz0 : 0 < size) (hsmall : size ≤ 1000) (d : TypeDesc) (hu : P.underlying e = some d) (hd : (match d with | .struct _ | .array _ _ => true | _ => false) = true)
    (cb : Nat) (cc : Array Value) (hcc : cc.size = size) (hcb : w.heap[cb]? = some (.cells cc e (0, 0))) (hc1 : ∀ v ∈ cc.toList, v.oneCell' = true)
    (hf : Instr.fill (fun i => some (i * size, size)) ((Array.range (1 * size)).map (z.cells[· % z.cells.size]!)) [(0, Value.agg cc)] = some cc)
    (hsb : a.eval (.tmp sb) = .pointer (some ⟨cb, 0, none⟩)) (ao : Option Addr) (q : Nat) (ps : List Value) (h3 : a.eval (.tmp s3) = .slice ao q q) (u : Value) (m : Nat) (ys : List Value) (h8 : a.eval (.tmp s8) = u)
    (HT : ∀ w', Below w.heap.size w w' → RdX w' size (.slice ao q q) q ps) (HD : ∀ w', Below w.heap.size w w' → RdX w' size u m ys) (h1 : ∀ v ∈ ys, v.oneCell' = true)
    (b1 : q + (1 + m) ≤ maxLen) (b2 : (q + (1 + m)) * bytes ≤ 140737488355328)
    (h : ∀ v9 v10 w10, w10.ownsRow w.heap.size e size v10 (q + (1 + m)) (ps ++ (cc.toList ++ ys)) → Below w.heap.size w w10 →
      Q .normal (((((a.put (some d4) (.agg cc)).put (some d5) (.slice (some ⟨w.heap.size, 0, none⟩) 1 1)).put (some d9) v9).put (some d10) v10).put (some d11) v10) w10) :
    wpList P ops Q [o4, o5, o9, o10, o11] a w := by
  obtain ⟨z4, z5, z9, z10⟩ := hsz
  obtain ⟨n1, n2, n3, n4, n5⟩ := hne
  refine wpList_load_row g4 e (.tmp sb) p4 cb hsb e cc (0, 0) d hcb hu hd (by rw [hi, Option.map_some, hsize, hcc]) ?_
  rw [t4]
  have q1 : ¬ 1 * i.size > 2 ^ 24 := by rw [hsize, Nat.one_mul]; exact Nat.not_lt.2 (Nat.le_trans hsmall (by decide))
  have q2 : ¬ 1 * i.size = 0 := by rw [hsize, Nat.one_mul]; exact Nat.pos_iff_ne_zero.1 hsz0
  have q3 : ((#[(0, Operand.tmp d4)] : Array (Nat × Operand)).map fun (i, x) => (i, (a.put (some d4) (.agg cc)).eval x)).toList = [(0, Value.agg cc)] := by
    simp [Act.eval_put_same _ _ _ z4]
  refine wpList_buildSlice g5 t e 1 #[(0, Operand.tmp d4)] p5 cc i z ht hi hz q1 q2 (by rw [q3, hsize]; exact hf) ?_
  rw [t5]
  have hB5 := ba' w (.cells cc e)
  have b3 : (1 + m) * bytes ≤ 140737488355328 := Nat.le_trans (Nat.mul_le_mul_right _ (by omega)) b2
  refine wpList_ins9 g9 (.tmp d5) (.tmp s8) t p9 e i z size bytes ht hi hz hsize hby hzs hsz0 w.heap.size cc.toList (by rw [Act.eval_put_same _ _ _ (by rw [Act.size_put]; exact z5)]) (by rw [heap_alloc_new]) (by simpa using hcc) u m ys (by rw [Act.eval_put_ne _ _ _ _ n2, Act.eval_put_ne _ _ _ _ n1]; exact h8) (HD _ hB5) h1 (by omega) b3 ?_
  intro v9 w9 hr9 hg9
  rw [t9]
  have hB9 : Below w.heap.size w w9 := hB5.grown hg9 hB5.size (fun k hk => by cases hk; exact Nat.le_refl _)
  refine wpList_ins10 g10 (.tmp s3) (.tmp d9) t p10 e i z size bytes ht hi hz hsize hby hzs hsz0 ao q ps (by rw [Act.eval_put_ne _ _ _ _ n5, Act.eval_put_ne _ _ _ _ n4, Act.eval_put_ne _ _ _ _ n3]; exact h3) (HT _ hB9) v9 m _ (by rw [Act.eval_put_same _ _ _ (by rw [Act.size_put, Act.size_put]; exact z9)]) hr9 ?_ b1 b2 ?_
  · intro v hv
    rcases List.mem_append.1 hv with hv | hv
    · exact hc1 v hv
    · exact h1 v hv
  intro v10 w10 ho10 hg10
  rw [t10]
  refine wpList_plain g11 fun K hK => ?_
  unfold Oper.wp execOp
  simp only [p11]
  rw [Act.eval_put_same _ _ _ (by rw [Act.size_put, Act.size_put, Act.size_put]; exact z10)]
  refine hK _ _ ?_
  rw [t11]
  exact h v9 v10 w10 (own_mono ho10 hB9.size) (hB9.grown hg10 hB9.size (fun k hk => by cases hk))
end
end Go.Proofs.YtgbnjjgnihjfgaaGreat
end

section
set_option linter.unusedVariables false
set_option linter.unusedSimpArgs false
namespace Go.Proofs.YtgbnjjgnihjfgaaGreat
open Go.RowKit Go.Sort Go.ChangeMaps Go.MapKept

theorem Tryz.info57c : (Tryz.prog.info? 45).map (fun i => (i.zero, i.size, i.bytes)) = some (some (.agg #[.int .i64 0, .int .i64 0, .bool false, .int .i64 0, .int .i64 0, .int .i64 0, .bool false, .int .i64 0, .int .i64 0, .int .i64 0]), 10, 80) := by kernel_rfl
theorem Tryz.info41 : (Tryz.prog.info? 41).map (fun i => (i.zero, i.size, i.bytes)) = some (some (.agg #[.int .i64 0, .slice none 0 0]), 2, 32) := by kernel_rfl
theorem flatC_cons (r : MCh) (M : List MCh) : flatC (r :: M) = ccl r ++ flatC M := rfl
theorem flatC_take (M : List MCh) : ∀ q : Nat, (flatC M).take (q * 10) = flatC (M.take q) := by
  induction M with
  | nil => intro q; simp [flatC]
  | cons r M ih =>
    intro q
    cases q with
    | zero => simp [flatC]
    | succ q =>
      rw [flatC_cons, List.take_succ_cons, flatC_cons, ← ih, show (q + 1) * 10 = (ccl r).length + q * 10 by rw [ccl_len]; omega, List.take_length_add_append]
theorem flatC_drop (M : List MCh) : ∀ q : Nat, (flatC M).drop (q * 10) = flatC (M.drop q) := by
  induction M with
  | nil => intro q; simp [flatC]
  | cons r M ih =>
    intro q
    cases q with
    | zero => simp
    | succ q =>
      rw [flatC_cons, List.drop_succ_cons, ← ih, show (q + 1) * 10 = (ccl r).length + q * 10 by rw [ccl_len]; omega, List.drop_length_add_append]
theorem ownC_cases {w : World} {B : Nat} {a : Option Addr} {n cap : Nat} {M : List MCh} (h : OwnC w B (.slice a n cap) M) : n = M.length ∧ n ≤ cap ∧ cap ≤ 9223372036854775807 ∧ ((a = none ∧ cap = 0 ∧ M = []) ∨ ∃ g, a = some ⟨g, 0, none⟩ ∧ g < w.heap.size) := by
  rcases h.2 with ⟨e, h0⟩ | ⟨g, cap', cur, e, _, hb, h1, h2, _⟩
  · simp at e
    obtain ⟨rfl, rfl, rfl⟩ := e
    exact ⟨h0.symm, Nat.le_refl _, by omega, .inl ⟨rfl, rfl, List.eq_nil_of_length_eq_zero h0⟩⟩
  · simp at e
    obtain ⟨rfl, rfl, rfl⟩ := e
    exact ⟨rfl, h1, by unfold maxLen at h2; omega, .inr ⟨g, rfl, lt_of_block hb⟩⟩

section
variable {w : World} {ops : Array Oper} {rest : List Oper} {o : Oper} {a : Act} {Q : Exit → Act → World → Prop}
end
theorem rdxC_take {w wz : World} {B g n cap : Nat} {M : List MCh} (h : OwnC w B (.slice (some ⟨g, 0, none⟩) n cap) M) (hB : Below w.heap.size w wz) (q cap' : Nat) (hq : q ≤ M.length) : RdX wz 10 (.slice (some ⟨g, 0, none⟩) q cap') q (flatC (M.take q)) := by
  obtain rfl := (ownC_cases h).1
  rw [← flatC_take]
  exact rdx_take h hB q cap' hq
theorem rdxC_drop {w wz : World} {B g n cap : Nat} {M : List MCh} (h : OwnC w B (.slice (some ⟨g, 0, none⟩) n cap) M) (hB : Below w.heap.size w wz) (q l cap' o : Nat) (hl : l = M.length - q) (ho : q < M.length → o = q * 10) : RdX wz 10 (.slice (some ⟨g, o, none⟩) l cap') l (flatC (M.drop q)) := by
  obtain rfl := (ownC_cases h).1
  rw [← flatC_drop]
  exact rdx_drop h hB q l cap' o hl ho
theorem fillC (c : MCh) : Instr.fill (fun i => some (i * 10, 10)) ((Array.range (1 * 10)).map ((Value.agg #[.int .i64 0, .int .i64 0, .bool false, .int .i64 0, .int .i64 0, .int .i64 0, .bool false, .int .i64 0, .int .i64 0, .int .i64 0]).cells[· % (Value.agg #[.int .i64 0, .int .i64 0, .bool false, .int .i64 0, .int .i64 0, .int .i64 0, .bool false, .int .i64 0, .int .i64 0, .int .i64 0]).cells.size]!)) [(0, Value.agg (chCells c))] = some (chCells c) := by
  kernel_rfl
theorem insert_C {ops : Array Oper} {Q : Exit → Act → World → Prop} {a : Act} {w : World} {o4 o5 o9 o10 o11 : Oper} (sb d4 d5 s3 s8 d9 d10 d11 : Nat)
    (g4 : o4.guard = none) (p4 : o4.op = .load 45 (.tmp sb)) (t4 : o4.dst = some d4) (g5 : o5.guard = none) (p5 : o5.op = .buildSlice 39 1 #[(0, .tmp d4)]) (t5 : o5.dst = some d5)
    (g9 : o9.guard = none) (p9 : o9.op = .call { callee := .builtin .append, args := #[.tmp d5, .tmp s8], argTypes := #[39, 39] }) (t9 : o9.dst = some d9)
    (g10 : o10.guard = none) (p10 : o10.op = .call { callee := .builtin .append, args := #[.tmp s3, .tmp d9], argTypes := #[39, 39] }) (t10 : o10.dst = some d10)
    (g11 : o11.guard = none) (p11 : o11.op = .assign (.tmp d10)) (t11 : o11.dst = some d11)
    (hsz : d4 < a.tmps.size ∧ d5 < a.tmps.size ∧ d9 < a.tmps.size ∧ d10 < a.tmps.size) (hne : d4 ≠ s8 ∧ d5 ≠ s8 ∧ d4 ≠ s3 ∧ d5 ≠ s3 ∧ d9 ≠ s3)
    (cb : Nat) (c : MCh) (hcb : w.heap[cb]? = some (.cells (chCells c) 45 (0, 0)))
    (hsb : a.eval (.tmp sb) = .pointer (some ⟨cb, 0, none⟩)) (ao : Option Addr) (q : Nat) (M : List MCh) (h3 : a.eval (.tmp s3) = .slice ao q q) (u : Value) (m : Nat) (N : List MCh) (h8 : a.eval (.tmp s8) = u)
    (HT : ∀ w', Below w.heap.size w w' → RdX w' 10 (.slice ao q q) q (flatC M)) (HD : ∀ w', Below w.heap.size w w' → RdX w' 10 u m (flatC N)) (hq : q ≤ 1000) (hm : m ≤ 1000)
    (h : ∀ v9 v10 w10, OwnC w10 w.heap.size v10 (M ++ c :: N) → Below w.heap.size w w10 →
      Q .normal (((((a.put (some d4) (.agg (chCells c))).put (some d5) (.slice (some ⟨w.heap.size, 0, none⟩) 1 1)).put (some d9) v9).put (some d10) v10).put (some d11) v10) w10) :
    wpList Tryz.prog ops Q [o4, o5, o9, o10, o11] a w := by
  obtain ⟨i0, hI, hZ0, hZ1, hZ2⟩ := info_parts Tryz.info57c
  have l1 := (HT w (Below.refl _ _)).1
  have l2 := (HD w (Below.refl _ _)).1
  rw [flatC_len] at l1 l2
  refine insert_tail sb d4 d5 s3 s8 d9 d10 d11 39 45 g4 p4 t4 g5 p5 t5 g9 p9 t9 g10 p10 t10 g11 p11 t11 hsz hne i0 _ 10 80 Tryz.underlying39 hI hZ0 hZ1 hZ2 rfl (by decide) (by decide) _ und57 rfl cb (chCells c) rfl hcb (ccl_one c) (fillC c) hsb ao q (flatC M) h3 u m (flatC N) h8 HT HD (flatC_one N) (by unfold maxLen; omega) (by omega) ?_
  intro v9 v10 w10 ho hb
  refine h v9 v10 w10 ?_ hb
  unfold OwnC
  rw [List.length_append, List.length_cons, flatC_app, flatC_cons, show M.length + (N.length + 1) = q + (1 + m) by omega]
  exact ho

theorem ownC_form2 {w : World} {base : Nat} {v : Value} {M : List MCh} (h : OwnC w base v M) : ∃ a n c, v = .slice a n c := by
  rcases h.2 with ⟨rfl, _⟩ | ⟨g, cap, cur, rfl, _⟩
  · exact ⟨_, _, _, rfl⟩
  · exact ⟨_, _, _, rfl⟩
theorem own_same {w w' : World} {base : Nat} {v : Value} {M : List MRow} (h : OwnR w base v M) (k : ∀ (g : Nat) (cur : Array Value), w.heap[g]? = some (Obj.cells cur 57 (0, 0)) → w'.heap[g]? = w.heap[g]?) : OwnR w' base v M := by
  obtain ⟨hl, h⟩ := h
  exact ⟨hl, h.imp id fun ⟨g, cap, cur, e, hg, hb, r⟩ => ⟨g, cap, cur, e, hg, (k g cur hb).trans hb, r⟩⟩
theorem own_sameC {w w' : World} {base : Nat} {v : Value} {M : List MCh} (h : OwnC w base v M) (k : ∀ (g : Nat) (cur : Array Value), w.heap[g]? = some (Obj.cells cur 45 (0, 0)) → w'.heap[g]? = w.heap[g]?) : OwnC w' base v M := by
  obtain ⟨hl, h⟩ := h
  exact ⟨hl, h.imp id fun ⟨g, cap, cur, e, hg, hb, r⟩ => ⟨g, cap, cur, e, hg, (k g cur hb).trans hb, r⟩⟩

theorem Tryz.follows : Tryz.prog.follows .mixedOrders = true := by kernel_rfl
end Go.Proofs.YtgbnjjgnihjfgaaGreat
end
end

section
section
set_option linter.unusedVariables false
set_option linter.unusedSimpArgs false
namespace Go.Proofs.YtgbnjjgnihjfgaaGreat
open Go.RowKit Go.Sort Go.ChangeMaps Go.MapKept

set_option maxRecDepth 100000 in
set_option maxHeartbeats 1000000 in
theorem pick7_any (c n : Int) (W : World) (hc : I64 c) (hn : 1 ≤ n) (hn2 : n ≤ 1000000) : Calls Tryz.prog 19 #[.int .i64 c, .int .i64 n] W fun e w' => e = .returned (.int .i64 (pk c n)) ∧ W = w' := by
  unfold I64 at hc
  have hn0 : (n == 0) = false := by simp; omega
  by_cases h : c < 0
  · have d1 : decide (c < 0) = true := decide_eq_true h
    have hp : pk c n = (-(c + 1)) % n := by unfold pk; rw [if_pos h]
    rw [hp]
    have ht : Int.tmod (-(c + 1)) n = (-(c + 1)) % n := Int.tmod_eq_emod_of_nonneg (by omega)
    have h3 := Int.emod_nonneg (-(c + 1)) (show n ≠ 0 by omega)
    have h4 := Int.emod_lt_of_pos (-(c + 1)) (show 0 < n by omega)
    go_enter Tryz.func19, Tryz.ntmps19
    go_wp2_with fail
    go_ret
    exact ⟨rfl, rfl⟩
  · have d1 : decide (c < 0) = false := decide_eq_false h
    have hp : pk c n = c % n := by unfold pk; rw [if_neg h]
    rw [hp]
    have ht : Int.tmod c n = c % n := Int.tmod_eq_emod_of_nonneg (by omega)
    have h3 := Int.emod_nonneg c (show n ≠ 0 by omega)
    have h4 := Int.emod_lt_of_pos c (show 0 < n by omega)
    go_enter Tryz.func19, Tryz.ntmps19
    go_wp2_with fail
    go_ret
    exact ⟨rfl, rfl⟩
set_option maxRecDepth 100000 in
set_option maxHeartbeats 4000000 in
theorem equalRows_any {W : World} {u v : Value} {M N : List MRow} (h : RowS W u M) (h' : RowS W v N) :
    Calls Tryz.prog 48 #[u, v] W fun e w' => e = .returned (.bool (decide (M = N))) ∧ Below W.heap.size W w' := by
  obtain ⟨a, n, cap, rfl, hn, hc1, hc2, hcell⟩ := h
  obtain ⟨a', n', cap', rfl, hn', hc1', hc2', hcell'⟩ := h'
  have HC := Lib.hid hcell
  have HC' := Lib.hid hcell'
  clear hcell hcell'
  by_cases hlen : n = n'
  · subst hlen
    have HN := Lib.hid hn
    have HN' := Lib.hid hn'
    have hn63 : n ≤ 9223372036854775807 := by omega
    clear hn hn'
    go_enter Tryz.func48, Tryz.ntmps48
    go_wp2_with fail
    go_loopw [13, 5] (fun i _ wr => ∃ k : Nat, k ≤ n ∧ i = .int .i64 k ∧ Hid (M.take k = N.take k) ∧ Hid (Below W.heap.size W wr)) (fun i _ _ => n - (intOf i).toNat)
    case atStart => exact ⟨0, by omega, rfl, Lib.hid rfl, Lib.hid (Below.refl _ _)⟩
    case round =>
      obtain ⟨k, hk, rfl, HE, HB⟩ := hrel
      by_cases hlt : k < n
      · obtain ⟨vb, vo, rfl, hvb, hcs⟩ := HC.out (by omega)
        obtain ⟨vb', vo', rfl, hvb', hcs'⟩ := HC'.out (by omega)
        have HR1 := (hcs k hlt).below hvb HB.out
        have HR2 := (hcs' k hlt).below hvb' HB.out
        have Ht1 : Hid (M.take (k + 1) = M.take k ++ [M.getD k rowZ]) := Lib.hid (take_snoc' (by rw [← HN.out]; exact hlt))
        have Ht2 : Hid (N.take (k + 1) = N.take k ++ [N.getD k rowZ]) := Lib.hid (take_snoc' (by rw [← HN'.out]; exact hlt))
        clear hcs hcs'
        obtain ⟨⟨rt, rk, ⟨ra, rb, rc⟩⟩, Hr⟩ : ∃ r, Hid (M.getD k rowZ = r) := ⟨_, Lib.hid rfl⟩
        obtain ⟨⟨st, sk, ⟨sa, sb, sc⟩⟩, Hs⟩ : ∃ r, Hid (N.getD k rowZ = r) := ⟨_, Lib.hid rfl⟩
        rw [Hr.out] at HR1 Ht1
        rw [Hs.out] at HR2 Ht2
        obtain ⟨y0, y1, y2, y3, y4⟩ := HR1.cells
        obtain ⟨z0, z1, z2, z3, z4⟩ := HR2.cells
        simp only at y0 y1 y2 y3 y4 z0 z1 z2 z3 z4
        clear HR1 HR2
        have hki : (k : Int) < n := by omega
        have hne := fun w => neqRow rt rk ra rb rc st sk sa sb sc w
        by_cases g : (⟨rt, rk, ⟨ra, rb, rc⟩⟩ : MRow) = ⟨st, sk, ⟨sa, sb, sc⟩⟩
        · have d1 : rowE ⟨rt, rk, ⟨ra, rb, rc⟩⟩ ⟨st, sk, ⟨sa, sb, sc⟩⟩ = true := by rw [rowE]; simpa using g
          have HEn : Hid (M.take (k + 1) = N.take (k + 1)) := Lib.hid (by rw [Ht1.out, Ht2.out, HE.out, g])
          simp only [d1, Bool.not_true] at hne
          clear g d1
          go_wp2_with fail
          go_quiet (fail)
          have HB2 := Lib.hid (bt HB.out (below_drewN wr nq))
          go_wp2_with fail
          exact ⟨⟨k + 1, by omega, by go_num, HEn, HB2⟩, by simp [intOf]; omega⟩
        · have d1 : rowE ⟨rt, rk, ⟨ra, rb, rc⟩⟩ ⟨st, sk, ⟨sa, sb, sc⟩⟩ = false := by rw [rowE]; simpa using g
          have HEn : Hid (¬ M = N) := Lib.hid (fun e => g (by rw [← Hr.out, ← Hs.out, e]))
          simp only [d1, Bool.not_false] at hne
          clear g d1
          go_wp2_with fail
          go_quiet (fail)
          have HB2 := Lib.hid (bt HB.out (below_drewN wr nq))
          go_wp2_with fail
          go_ret
          exact ret_dec false (by simp [HEn.out]) HB2.out
      · obtain rfl : k = n := by omega
        have HEn : Hid (M = N) := Lib.hid (by
          have := HE.out
          rwa [HN.out, List.take_length, ← HN.out, HN'.out, List.take_length] at this)
        go_wp2_with fail
        go_ret
        exact ret_dec true (by simp [HEn.out]) HB.out
  · have HE : Hid (¬ M = N) := Lib.hid (fun e => hlen (by rw [hn, hn', e]))
    have d1 : ((n : Int) != (n' : Int)) = true := by simp; omega
    clear hn hn' hlen
    go_enter Tryz.func48, Tryz.ntmps48
    go_wp2_with fail
    go_ret
    exact ret_dec false (by simp [HE.out]) (Below.refl _ _)

set_option maxRecDepth 100000 in
set_option maxHeartbeats 4000000 in
theorem evSame_any {W : World} {u v : Value} {M N : List MRow} (h : RowS W u M) (h' : RowS W v N) (x y : Int) (f g : Bool) : Calls Tryz.prog 21 #[resV u x f, resV v y g] W fun e w' => e = .returned (.bool (decide (x = y ∧ f = g ∧ M = N))) ∧ Below W.heap.size W w' := by
  have H1 := Lib.hid h
  have H2 := Lib.hid h'
  have HC := Lib.hid (fun w (hb : Below W.heap.size W w) => equalRows_any (H1.out.below hb) (H2.out.below hb))
  obtain ⟨a, n, cap, rfl, -, -, -, -⟩ := h
  obtain ⟨a', n', cap', rfl, -, -, -, -⟩ := h'
  obtain ⟨e, He⟩ : ∃ x, Hid (decide (M = N) = x) := ⟨_, Lib.hid rfl⟩
  simp only [He.out] at HC
  have HA : Hid (Below W.heap.size W ((W.alloc (.cells #[.slice a n cap, .int .i64 x, .bool f] 34)).alloc (.cells #[.slice a' n' cap', .int .i64 y, .bool g] 34))) := Lib.hid (bt (ba W _) (ba _ _))
  unfold resV
  by_cases hx : x = y
  · have gx : (x == y) = true := by simp [hx]
    by_cases hf : f = g
    · have gf : (f == g) = true := by simp [hf]
      have HE : Hid (decide (x = y ∧ f = g ∧ M = N) = e) := Lib.hid (by rw [← He.out]; simp [hx, hf])
      rw [HE.out]
      clear hx hf
      go_enter Tryz.func21, Tryz.ntmps21
      go_wp2_with fail
      (with_reducible refine (HC.out _ HA.out).mono ?_)
      rintro e w1 ⟨rfl, hb⟩
      have HB := Lib.hid (bt HA.out hb)
      clear hb
      go_wp2_with fail
      go_ret
      exact ⟨rfl, HB.out⟩
    · have gf : (f == g) = false := by simp [hf]
      have HE : Hid (decide (x = y ∧ f = g ∧ M = N) = false) := Lib.hid (by simp [hf])
      rw [HE.out]
      clear hx hf
      go_enter Tryz.func21, Tryz.ntmps21
      go_wp2_with fail
      go_ret
      exact ⟨rfl, HA.out⟩
  · have gx : (x == y) = false := by simp [hx]
    have HE : Hid (decide (x = y ∧ f = g ∧ M = N) = false) := Lib.hid (by simp [hx])
    rw [HE.out]
    clear hx
    go_enter Tryz.func21, Tryz.ntmps21
    go_wp2_with fail
    go_ret
    exact ⟨rfl, HA.out⟩

end Go.Proofs.YtgbnjjgnihjfgaaGreat
end

section
set_option linter.unusedVariables false
set_option linter.unusedSimpArgs false
namespace Go.Proofs.YtgbnjjgnihjfgaaGreat
open Go.RowKit Go.Sort Go.ChangeMaps Go.MapKept

def eM : List MRow := [⟨0, 5, ⟨10, 2, 7⟩⟩, ⟨0, 6, ⟨10, 9, 7⟩⟩, ⟨0, 7, ⟨12, 1, 8⟩⟩, ⟨1, 2, ⟨30, 31, 32⟩⟩, ⟨1, 9, ⟨40, 41, 42⟩⟩]
instance (col : Int) (x y : MRow) : Decidable (rle col x y) := by unfold rle; infer_instance
abbrev qC (q : MQ) : Array Value := #[.int .i64 q.kind, .int .i64 q.table, .int .i64 q.column, .int .i64 q.low, .int .i64 q.high, .int .i64 q.by_, .int .i64 q.other]
theorem qAt_of {w : World} {b : Nat} {q : MQ} (h : w.heap[b]? = some (.cells (qC q) 28 (0, 0))) : QAt w b q := by
  constructor <;> simp [World.cell?, h]
/-- What sane has at hand: a state, a query in a variable, results in variables. -/
structure SEv (w0 w : World) (b1 : Nat) (m1 : Option Nat) (qb : Nat) (q : MQ) (A : List (Nat × Value × Int × Bool)) (B : List (Value × List MRow)) : Prop where
  st : StAt w b1 m1 eM 1
  nb : qb ≠ b1
  nm : m1 ≠ some qb
  qblk : w.heap[qb]? = some (.cells (qC q) 28 (0, 0))
  res : ∀ x ∈ A, w.heap[x.1]? = some (.cells (resC x.2.1 x.2.2.1 x.2.2.2) 34 (0, 0)) ∧ x.1 ≠ qb
  rows : ∀ x ∈ B, OwnR w (qb + 1) x.1 x.2
  old : Below w0.heap.size w0 w
  ge : w0.heap.size ≤ qb
section
variable {w0 w w' : World} {b1 qb : Nat} {m1 : Option Nat} {q : MQ} {A : List (Nat × Value × Int × Bool)} {B : List (Value × List MRow)}
theorem SEv.below (h : SEv w0 w b1 m1 qb q A B) (k : Below w.heap.size w w') : SEv w0 w' b1 m1 qb q A B :=
  ⟨h.st.below k, h.nb, h.nm, (k.block _ (lt_of_block h.qblk)).trans h.qblk, fun x hx => ⟨(k.block _ (lt_of_block (h.res x hx).1)).trans (h.res x hx).1, (h.res x hx).2⟩, fun x hx => (h.rows x hx).below k, bt h.old k, h.ge⟩
theorem SEv.set (h : SEv w0 w b1 m1 qb q A B) {j : Nat} {u : Value} {q' : MQ} (hq : (qC q).setIfInBounds j u = qC q') : SEv w0 (w.setCell ⟨qb, j, none⟩ u) b1 m1 qb q' A B := by
  have k : Kept (fun i => i = qb) w (w.setCell ⟨qb, j, none⟩ u) := Kept.setCell (F := fun i => i = qb) (p := ⟨qb, j, none⟩) (Kept.refl _ _) (.inl rfl) u
  refine ⟨h.st.kept k (fun i hf e => ?_), h.nb, h.nm, by rw [setC_heap h.qblk j u, hq], fun x hx => ⟨(k.block _ (lt_of_block (h.res x hx).1) (h.res x hx).2).trans (h.res x hx).1, (h.res x hx).2⟩, fun x hx => (h.rows x hx).kept k (fun i hi e => by omega), h.old.trans (k.below h.old.size (fun i e => by have := h.ge; omega)), h.ge⟩
  subst e
  rcases hf with e | e
  · exact h.nb e
  · exact h.nm e
end
end Go.Proofs.YtgbnjjgnihjfgaaGreat
end

section
set_option linter.unusedVariables false
set_option linter.unusedSimpArgs false
namespace Go.Proofs.YtgbnjjgnihjfgaaGreat
open Go.RowKit Go.Sort Go.ChangeMaps Go.MapKept

structure X4 where
  a : Int
  b : Int
  c : Int
  d : Int
def X4.Ok (x : X4) : Prop := I64 x.a ∧ I64 x.b ∧ I64 x.c ∧ I64 x.d
theorem tdiv_i64 {a n : Int} (h : I64 a) (hn : 2 ≤ n) : I64 (Int.tdiv a n) := by
  unfold I64 at *
  rcases Int.le_total 0 a with h0 | h0
  · have h1 := Int.tdiv_nonneg h0 (show 0 ≤ n by omega)
    have h2 : Int.tdiv a n ≤ a := by
      rw [Int.tdiv_eq_ediv_of_nonneg h0]
      exact Int.ediv_le_self _ h0
    omega
  · have e : Int.tdiv a n = -(Int.tdiv (-a) n) := by rw [Int.neg_tdiv, Int.neg_neg]
    have h0' : 0 ≤ -a := by omega
    have h1 := Int.tdiv_nonneg h0' (show 0 ≤ n by omega)
    have h2 : Int.tdiv (-a) n ≤ -a := by
      rw [Int.tdiv_eq_ediv_of_nonneg h0']
      exact Int.ediv_le_self _ h0'
    omega
end Go.Proofs.YtgbnjjgnihjfgaaGreat
end

section
set_option linter.unusedVariables false
set_option linter.unusedSimpArgs false
namespace Go.Proofs.YtgbnjjgnihjfgaaGreat
open Go.RowKit Go.Sort Go.ChangeMaps Go.MapKept


end Go.Proofs.YtgbnjjgnihjfgaaGreat
end

section
set_option linter.unusedVariables false
set_option linter.unusedSimpArgs false
namespace Go.Proofs.YtgbnjjgnihjfgaaGreat
open Go.RowKit Go.Sort Go.ChangeMaps Go.MapKept

/-- A slice that reads as n lists of four integers. -/
def XS4 (w : World) (v : Value) (n : Nat) : Prop :=
  ∃ a cap, v = .slice a n cap ∧ n ≤ cap ∧ cap ≤ 9223372036854775807 ∧ (1 ≤ n → ∃ b o, a = some ⟨b, o, none⟩ ∧ b < w.heap.size ∧ ∀ i j, i < n → j < 4 → ∃ z, I64 z ∧ w.cell? ⟨b, o + i * 4 + j, none⟩ = some (.int .i64 z))
theorem XS4.below {w w1 : World} {v : Value} {n : Nat} (h : XS4 w v n) (hb1 : Below w.heap.size w w1) : XS4 w1 v n := by
  obtain ⟨a, cap, e, h1, h2, h3⟩ := h
  refine ⟨a, cap, e, h1, h2, fun hh => ?_⟩
  obtain ⟨b, o, ea, hb, hc⟩ := h3 hh
  refine ⟨b, o, ea, Nat.lt_of_lt_of_le hb hb1.size, fun i j hi hj => ?_⟩
  obtain ⟨z, hz, hcz⟩ := hc i j hi hj
  exact ⟨z, hz, (hb1.cell (p := ⟨b, o + i * 4 + j, none⟩) hb).trans hcz⟩
/-- The changes that 'changes' makes. -/
def SmallK (c : MCh) : Prop := 0 ≤ c.t ∧ c.t ≤ 1 ∧ 1 ≤ c.k ∧ c.k ≤ 12
def CgSt (W wr : World) (b : Nat) (vo : Value) (n : Nat) : Prop :=
  ∃ Q vs, RfAt wr b vs (rowsOf (Q.map Prod.fst)) Q.length ∧ OwnQ wr W.heap.size vo Q ∧ (∀ q ∈ Q, OwnC wr W.heap.size q.2 q.1.chs) ∧ Chn (Q.map Prod.fst) ∧ (∀ q ∈ Q, ∃ c, q.1.chs = [c] ∧ SmallK c) ∧ Q.length ≤ n ∧ Below W.heap.size W wr
theorem CgSt.below {W w w' : World} {b n : Nat} {vo : Value} (h : CgSt W w b vo n) (k : Below w.heap.size w w') : CgSt W w' b vo n := by
  obtain ⟨Q, vs, h1, h2, h3, h4, h5, h6, h7⟩ := h
  exact ⟨Q, vs, h1.below k, h2.below k, fun q hq => (h3 q hq).below k, h4, h5, h6, bt h7 k⟩

end Go.Proofs.YtgbnjjgnihjfgaaGreat
end
end

section
set_option linter.unusedVariables false
set_option linter.unusedSimpArgs false
namespace Go.Proofs.YtgbnjjgnihjfgaaGreat
open Go.RowKit Go.Sort Go.ChangeMaps Go.MapKept

set_option maxRecDepth 100000 in
set_option maxHeartbeats 1000000 in
theorem before_any (c : MCh) (w : World) :
    Calls Tryz.prog 90 #[chV c] w fun e w' => e = .returned (.tuple #[rowV (if c.had then ⟨c.t, c.k, c.o⟩ else ⟨0, 0, V3.zero⟩), .bool c.had]) ∧ Below w.heap.size w w' := by
  obtain ⟨t, k, had, ⟨oa, ob, oc⟩, has, ⟨na, nb, nc⟩⟩ := c
  cases had
  · unfold chV rowV
    go_enter Tryz.func90, Tryz.ntmps90
    go_wp2
    exact bodyPost_ret (v := .tuple #[.agg #[.int .i64 0, .int .i64 0, .int .i64 0, .int .i64 0, .int .i64 0], .bool false]) (by simp [results, Tryz.results90, go_sem]) rfl ⟨rfl, ((Below.refl _ w).alloc (Nat.le_refl _) _).alloc (by simp) _⟩
  · unfold chV rowV
    go_enter Tryz.func90, Tryz.ntmps90
    go_wp2_with (go_at_call 114; refine (rowOf_w _ _ _ _ _ _ _ _ _ _ _ _ _ _).mono ?_; rintro e w1 ⟨rfl, rfl⟩)
    refine bodyPost_ret (v := .tuple #[.agg #[.int .i64 t, .int .i64 k, .int .i64 oa, .int .i64 ob, .int .i64 oc], .bool true]) (by simp [results, Tryz.results90, go_sem]) rfl ⟨rfl, ?_⟩
    exact (((((Below.refl _ w).alloc (Nat.le_refl _) _).alloc (by simp) _).alloc (by simp; omega) _).alloc (by simp; omega) _).alloc (by simp; omega) _

end Go.Proofs.YtgbnjjgnihjfgaaGreat
end

section
set_option linter.unusedVariables false
set_option linter.unusedSimpArgs false
namespace Go.Proofs.YtgbnjjgnihjfgaaGreat
open Go.RowKit Go.Sort Go.ChangeMaps Go.MapKept

/-- A row and its partner. -/
def partR (L : List MRow) (o y : Int) (r : MRow) : List MRow := match look L o (vget r y) with | some p => [r, p] | none => []
theorem look_filter (L : List MRow) (o k : Int) : firstM o k (L.filter (selT o)) = look L o k := by
  unfold firstM look
  rw [List.find?_filter]
  congr 1
  funext r
  simp only [selT, atk]
  by_cases h1 : r.t = o <;> by_cases h2 : r.k = k <;> simp [h1, h2]
theorem pairs_rows {q : MQ} (hv : validB q = true) (hk : q.kind = 7) (L M : List MRow) : resM q M (L.filter (selT q.other)) = ⟨M.flatMap (partR L q.other q.by_), 0, false⟩ := by
  unfold resM
  rw [if_neg (by rw [hv]; decide), if_neg (by omega), if_neg (by omega), if_neg (by omega), if_neg (by omega), if_pos hk]
  congr 1
  have e : pairR ((L.filter (selT q.other)).foldl (keyS q.other) []) q.by_ = partR L q.other q.by_ := by
    funext r
    unfold pairR partR
    rw [lookK_fold, look_filter]
    rfl
  rw [e]
end Go.Proofs.YtgbnjjgnihjfgaaGreat
end
