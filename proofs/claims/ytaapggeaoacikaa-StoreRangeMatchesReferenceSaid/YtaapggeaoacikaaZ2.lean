/- A RULE FOR DRAWN REGIONS: operations that look at no world come first, the rest in its one order. No program stands in it. -/
import Derived.Test.YtaapggeaoacikaaQ1
import Derived.Deep.RegionHeld3
set_option linter.unusedVariables false
set_option linter.unusedSimpArgs false
namespace Go.Proofs.Ytaapggeaoacikaa
open Go.RowKit

section
variable {P : Program} {ops : Array Oper} {md : Region.Mode}

def pickO (l : List Oper) (ks : List Nat) : List Oper := ks.filterMap fun k => l[k]?
def seqIdx (md : Region.Mode) (ops : Array Oper) : List Nat → Array Bool → Bool
  | [], listed => (Region.ready md ops listed).isEmpty
  | k :: ks, listed => decide (Region.ready md ops listed = [k]) && seqIdx md ops ks (listed.setIfInBounds k true)
def plainB (o : Oper) : Bool := match o.op with
  | .move _ => true
  | .slice .. => true
  | .extract .. => true
  | .unOp .. => true
  | .convert .. => true
  | _ => false
def frontIdx (md : Region.Mode) (ops : Array Oper) (rs : List Nat) : List Nat → Array Bool → Bool
  | [], listed => seqIdx md ops rs listed
  | k :: ks, listed => (Region.ready md ops listed).contains k && Region.free md ops listed k && (match ops[k]? with | some o => plainB o | none => false) && frontIdx md ops rs ks (listed.setIfInBounds k true)
def wpFront (P : Program) (ops : Array Oper) (X : Act → Prop) : List Oper → Act → Prop
  | [], a => X a
  | o :: os, a => ∃ v, (Region.wanted o (yielded ops a.tmps) = true ∧ ∀ w, o.quietAt P a (fun _ => True) w v) ∧ wpFront P ops X os (a.put o.dst v)

theorem plain_yields {o : Oper} {a : Act} {v : Value} (hp : plainB o = true) (hw : Region.wanted o (yielded ops a.tmps) = true) (h : ∀ w, o.quietAt P a (fun _ => True) w v) : Yields P ops o v a := by
  refine .inl ⟨hw, fun w => ?_⟩
  have q := h w
  unfold Oper.quietAt at q
  have key : ∀ s : Sem Value, ∀ r, (do pure (Next.value (← s)) : Sem Next).run P w = r → Oper.quietUpon P (fun _ => True) w v r → r = .ok (.value v) w := by
    intro s r hr hq
    subst hr
    rw [Sem.run_bind] at hq ⊢
    cases hs : s.run P w with
    | ok x w' =>
      rw [hs] at hq
      simp [Sem.run, Result.andThen, Oper.quietUpon] at hq ⊢
      first | exact ⟨hq.2, hq.1⟩ | exact hq
    | halt c w' =>
      rw [hs] at hq
      simp [Sem.run, Result.andThen, Oper.quietUpon] at hq
  unfold plainB at hp
  revert q
  unfold execOp
  cases ho : o.op <;> simp only [ho] at hp <;> try (exact absurd hp Bool.false_ne_true)
  all_goals intro q
  case move x =>
    simp [Sem.run, Oper.quietUpon] at q ⊢
    exact q
  all_goals exact key _ _ rfl q

theorem wpAny_seqIdx {Q' : Exit → Act → World → Prop} (l : List Oper) : ∀ (ks : List Nat) (listed : Array Bool) (a : Act) (w : World), (∀ k ∈ ks, k < l.length) →
    seqIdx md l.toArray ks listed = true → wpList P l.toArray Q' (pickO l ks) a w → wpAny P md l.toArray Q' ks.length listed a w
  | [], _, _, _, _, hB, h => ⟨by simpa [seqIdx] using hB, h⟩
  | k :: ks, listed, a, w, hl, hB, h => by
    have hk : k < l.length := hl k (by simp)
    have h0 : l.toArray[k]? = some l[k] := by simp [hk]
    simp only [List.length_cons, seqIdx, Bool.and_eq_true, decide_eq_true_eq] at hB
    refine ⟨fun h1 => (by rw [hB.1] at h1; cases h1), fun i hi => ?_⟩
    rw [hB.1] at hi
    have hik : i = k := by simpa using hi
    subst hik
    have hp : pickO l (i :: ks) = l[i] :: pickO l ks := by simp [pickO, hk]
    rw [hp] at h
    have hw : wpOp P l.toArray Q' i (wpList P l.toArray Q' (pickO l ks)) a w := by unfold wpOp; simp only [h0]; exact h
    exact wpOp_mono (fun a' w' h' => wpAny_seqIdx l ks _ a' w' (fun k hk => hl k (by simp [hk])) hB.2 h') hw

theorem wpAny_frontIdx {Q' : Exit → Act → World → Prop} (l : List Oper) (rs : List Nat) (hrs : ∀ k ∈ rs, k < l.length) (hsel : Region.noSelect l.toArray = true) (hQ : ∀ d c a v w, Q' (.panic c) (Act.put a d v) w → Q' (.panic c) a w) (w : World) :
    ∀ (ks : List Nat) (listed : Array Bool) (a : Act), frontIdx md l.toArray rs ks listed = true → wpFront P l.toArray (fun a' => wpList P l.toArray Q' (pickO l rs) a' w) (pickO l ks) a → wpAny P md l.toArray Q' (ks.length + rs.length) listed a w
  | [], listed, a, hB, h => by
    rw [List.length_nil, Nat.zero_add]
    exact wpAny_seqIdx l rs listed a w hrs hB h
  | k :: ks, listed, a, hB, h => by
    simp only [frontIdx, Bool.and_eq_true] at hB
    obtain ⟨⟨⟨hr, hf⟩, hp⟩, hB⟩ := hB
    have hr' : k ∈ Region.ready md l.toArray listed := by simpa using hr
    obtain ⟨_, o, ho, _⟩ := mem_ready.1 hr'
    rw [ho] at hp
    have hk : k < l.length := by simpa using (Array.getElem?_eq_some_iff.1 ho).1
    have hok : l[k] = o := by
      have := ho
      rw [List.getElem?_toArray, List.getElem?_eq_getElem hk] at this
      exact Option.some.inj this
    have hpk : pickO l (k :: ks) = o :: pickO l ks := by simp [pickO, hk, hok]
    rw [hpk] at h
    obtain ⟨v, ⟨h1, h2⟩, h3⟩ := h
    rw [show (k :: ks).length + rs.length = (ks.length + rs.length) + 1 by simp only [List.length_cons]; omega]
    refine wpAny_first ho (Region.noSelect_spec hsel) (fun c a w => hQ _ c a v w) _ listed a w (fun j oj hj hjz hun' hno => Region.free_spec ho hf j oj hj hjz hun' hno) hr' (plain_yields hp h1 h2) ?_
    exact wpAny_frontIdx l rs hrs hsel hQ w ks _ _ hB h3

def frontB (l : List Oper) (ks rs : List Nat) : Bool := Region.noSelect l.toArray && rs.all (fun k => decide (k < l.length)) && frontIdx .any l.toArray rs ks (Array.replicate l.toArray.size false) && decide (ks.length + rs.length = l.toArray.size)

/-- **What looks at no world first, then the rest.** -/
theorem wp_region_front {id : Nat} {Q : Exit → Act → World → Prop} {a : Act} {w : World} {l : List Oper} (ks rs : List Nat) (hm : P.follows .mixedOrders = true) (hB : frontB l ks rs = true)
    (h : ∀ wy, BW w wy → wpFront P l.toArray (fun a' => wpList P l.toArray (NoPanic Q) (pickO l rs) a' wy) (pickO l ks) a) : (Code.region id l.toArray true).wp P Q a w := by
  simp only [frontB, Bool.and_eq_true, decide_eq_true_eq] at hB
  obtain ⟨⟨⟨hsel, hrs⟩, hf⟩, hlen⟩ := hB
  refine wp_region_noPanic ?_
  refine wp_region_any hm ?_
  have R := wpAny_frontIdx (P := P) (md := .any) (Q' := NoPanic Q) l rs (fun k hk => by simpa using List.all_eq_true.1 hrs k hk) hsel (fun _ _ _ _ _ h => h) { w with drawn := w.drawn + 1 } ks _ a hf (h _ ⟨rfl, rfl, rfl, Nat.le_refl _, fun _ _ => rfl⟩)
  rw [hlen] at R
  exact R

theorem wpFront_nil {X : Act → Prop} {a : Act} (h : X a) : wpFront P ops X [] a := h
theorem wpFront_want {X : Act → Prop} {a aN : Act} {o : Oper} {rest : List Oper} (hw : Region.wanted o (yielded ops a.tmps) = true) (h : ∀ K : Act → Prop, K aN → o.quiet P a (fun _ => True) K) (hr : wpFront P ops X rest aN) : wpFront P ops X (o :: rest) a := by
  obtain ⟨v0, h1, hN⟩ := h (fun a' => a' = aN) rfl
  exact ⟨v0, ⟨hw, fun w => h1 w trivial⟩, by rw [hN]; exact hr⟩
end
end Go.Proofs.Ytaapggeaoacikaa
