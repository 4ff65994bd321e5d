/- MERGED: Q1, Q2. -/
import Derived.StillTail
import Derived.Lib.QuietBelow
import Derived.BigQuiet
section
set_option linter.unusedVariables false
set_option linter.unusedSimpArgs false
namespace Go.Proofs.YtpapfegbodolgaaDoor
open Go.RowKit Go.Sort

/-- w with blocks laid behind it. -/
abbrev BC (w : World) : World → Prop := fun w' => ∃ p : Regrown, w' = grow (redrawn w p.d) p.os
theorem bc_below {w w' : World} (h : BC w w') : Below w.heap.size w w' := by
  obtain ⟨p, rfl⟩ := h
  exact below_regrown w p.d p.os
theorem bc_refl (w : World) : BC w w := ⟨⟨w.drawn, #[]⟩, by rw [grow_empty]; rfl⟩

section
variable {P : Program} {ops : Array Oper} {md : Region.Mode} {C : World → Prop} {R : World → World → Prop}

theorem put_inj {a : Act} {e d : Option Tmp} {x y v : Value} (hne : ∀ i, d = some i → e ≠ some i) (h : (a.put e x).put d v = (a.put e y).put d v) : a.put e x = a.put e y := by
  cases d with
  | none => exact h
  | some d =>
    cases e with
    | none => rfl
    | some e =>
      have hde : d ≠ e := fun q => hne d rfl (by rw [q])
      obtain ⟨t, df⟩ := a
      simp only [Act.put, Act.mk.injEq, and_true] at h ⊢
      refine Array.ext_getElem? fun i => ?_
      have hi : (t.setIfInBounds e x |>.setIfInBounds d v)[i]? = (t.setIfInBounds e y |>.setIfInBounds d v)[i]? := by rw [h]
      by_cases hid : i = d
      · rw [hid, Array.getElem?_setIfInBounds_ne (Ne.symm hde), Array.getElem?_setIfInBounds_ne (Ne.symm hde)]
      · rwa [Array.getElem?_setIfInBounds_ne (Ne.symm hid), Array.getElem?_setIfInBounds_ne (Ne.symm hid)] at hi

/-- In every world of C the operation yields one value and turns nothing. -/
def Gives (P : Program) (R : World → World → Prop) (C : World → Prop) (o : Oper) (v0 : Value) (a : Act) : Prop := ∀ w, C w → ∃ v, o.quietAt P a (R w) w v ∧ a.put o.dst v = a.put o.dst v0
def calm (P : Program) (R : World → World → Prop) (C : World → Prop) (o : Oper) (a : Act) (X : Act → Prop) : Prop := ∃ v0, Gives P R C o v0 a ∧ X (a.put o.dst v0)
def calmOp (P : Program) (R : World → World → Prop) (ops : Array Oper) (C : World → Prop) (i : Nat) (X : Act → Prop) (a : Act) : Prop :=
  match ops[i]? with
  | none => X a
  | some o => if Region.wanted o (yielded ops a.tmps) then calm P R C o a X else X (a.put o.dst undef)
def YC (P : Program) (R : World → World → Prop) (ops : Array Oper) (C : World → Prop) (o : Oper) (v0 : Value) (a : Act) : Prop :=
  (Region.wanted o (yielded ops a.tmps) = true ∧ Gives P R C o v0 a) ∨ (Region.wanted o (yielded ops a.tmps) = false ∧ v0 = undef)

theorem calmOp_mono {i : Nat} {a : Act} {X Y : Act → Prop} (h : ∀ a, X a → Y a) (hh : calmOp P R ops C i X a) : calmOp P R ops C i Y a := by
  unfold calmOp at *
  cases ho : ops[i]? with
  | none => rw [ho] at hh; exact h _ hh
  | some o =>
    rw [ho] at hh
    simp only at hh ⊢
    split
    · rename_i hw
      rw [if_pos hw] at hh
      obtain ⟨v, h1, h2⟩ := hh
      exact ⟨v, h1, h _ h2⟩
    · rename_i hw
      rw [if_neg hw] at hh
      exact h _ hh
theorem YC.op {i : Nat} {o : Oper} {v : Value} {a : Act} {X : Act → Prop} (hi : ops[i]? = some o) (hy : YC P R ops C o v a) (h : X (a.put o.dst v)) : calmOp P R ops C i X a := by
  unfold calmOp
  rw [hi]
  simp only
  rcases hy with ⟨hw, hg⟩ | ⟨hw, rfl⟩
  · rw [if_pos hw]; exact ⟨v, hg, h⟩
  · rw [if_neg (by rw [hw]; exact Bool.false_ne_true)]; exact h
theorem yc_of_op {i : Nat} {o : Oper} {a : Act} {X : Act → Prop} (hi : ops[i]? = some o) (h : calmOp P R ops C i X a) : ∃ v, YC P R ops C o v a ∧ X (a.put o.dst v) := by
  unfold calmOp at h
  rw [hi] at h
  simp only at h
  by_cases hw : Region.wanted o (yielded ops a.tmps) = true
  · rw [if_pos hw] at h
    obtain ⟨v, h1, h2⟩ := h
    exact ⟨v, .inl ⟨hw, h1⟩, h2⟩
  · rw [if_neg hw] at h
    exact ⟨undef, .inr ⟨by simpa using hw, rfl⟩, h⟩
theorem gives_put {o : Oper} {v u : Value} {a : Act} {e : Option Tmp} (hs : ∀ cs b, o.op ≠ .select cs b) (h1 : ∀ d, e = some d → d ∉ o.looksAt ops) (h2 : ∀ d, e = some d → o.dst ≠ some d) (h : Gives P R C o v a) : Gives P R C o v (a.put e u) := fun w hw => by
  obtain ⟨x, q, hx⟩ := h w hw
  refine ⟨x, ?_, ?_⟩
  · unfold Oper.quietAt at *
    rwa [execOp_put o hs a e u h1]
  · rw [Act.put_comm a u x h2, Act.put_comm a u v h2, hx]
theorem YC.put {o : Oper} {v u : Value} {a : Act} {e : Option Tmp} (hs : ∀ cs b, o.op ≠ .select cs b) (h1 : ∀ d, e = some d → d ∉ o.looksAt ops) (h2 : ∀ d, e = some d → o.dst ≠ some d) (h : YC P R ops C o v a) : YC P R ops C o v (a.put e u) := by
  unfold YC at *
  rw [wanted_put o a e u h1]
  exact h.imp (fun h => ⟨h.1, gives_put hs h1 h2 h.2⟩) id
theorem calmOp_put {j : Nat} {oi oj : Oper} {v : Value} (hj : ops[j]? = some oj) (hap : oi.apart ops oj = true) (hsi : ∀ cs b, oi.op ≠ .select cs b) (hsj : ∀ cs b, oj.op ≠ .select cs b) {X : Act → Prop} {a : Act}
    (hy : YC P R ops C oi v a) (h : calmOp P R ops C j X (a.put oi.dst v)) : calmOp P R ops C j (fun a' => YC P R ops C oi v a' ∧ X (a'.put oi.dst v)) a := by
  obtain ⟨h1, h2, h3⟩ := Oper.apart_spec hap
  have h2' : ∀ d, oj.dst = some d → oi.dst ≠ some d := fun d e1 e2 => h2 d e2 e1
  unfold calmOp at *
  rw [hj] at h ⊢
  simp only at h ⊢
  rw [wanted_put oj a oi.dst v h1] at h
  split
  · rename_i hw
    rw [if_pos hw] at h
    obtain ⟨u, hu, hn⟩ := h
    refine ⟨u, fun w hw => ?_, hy.put hsi h3 h2', by rw [← Act.put_comm a v u h2]; exact hn⟩
    obtain ⟨x, q, hx⟩ := hu w hw
    refine ⟨x, ?_, ?_⟩
    · unfold Oper.quietAt at *
      rwa [execOp_put oj hsj a oi.dst v h1] at q
    · refine put_inj (d := oi.dst) (v := v) (fun i e1 e2 => h2 i e1 e2) ?_
      rw [← Act.put_comm a v x h2, ← Act.put_comm a v u h2, hx]
  · rename_i hw
    rw [if_neg hw] at h
    exact ⟨hy.put hsi h3 h2', by rw [← Act.put_comm a v undef h2]; exact h⟩

/-- As 'sinkB', with one operation z left out: it may come late. -/
def sinkZ (md : Region.Mode) (ops : Array Oper) (n z : Nat) : Bool :=
  (List.range n).all fun i => i == z || (List.range (n + 1)).any fun j => decide (i < j) && decide (j ≠ z) && Region.waitsFor md ops j i
def lateB (md : Region.Mode) (ops : Array Oper) (n z : Nat) : Bool :=
  match ops[z]? with
  | none => true
  | some oz => decide (z < n) && oz.guard.isNone && (oz.after.all fun e => !Region.binds md e || Region.waitsFor md ops n e.on) && Region.free md ops ((Array.range ops.size).map fun j => Region.waitsFor md ops z j) z

theorem late_unlisted {md : Region.Mode} {ops : Array Oper} {z j : Nat} {oj : Oper} {listed : Array Bool} (hz : z ∈ Region.ready md ops listed) (hj : ops[j]? = some oj) (hun : listed.getD j true = false) : ((Array.range ops.size).map fun j => Region.waitsFor md ops z j).getD j true = false := by
  have hjs : j < ops.size := (Array.getElem?_eq_some_iff.1 hj).1
  have e : ((Array.range ops.size).map fun j => Region.waitsFor md ops z j).getD j true = Region.waitsFor md ops z j := by simp [hjs]
  rw [e]
  cases h : Region.waitsFor md ops z j with
  | false => rfl
  | true =>
    obtain ⟨o', ho', e', he', hb, hon⟩ := Region.waitsFor_spec h
    obtain ⟨_, o, ho, hall⟩ := mem_ready.1 hz
    obtain rfl : o' = o := Option.some.inj (ho'.symm.trans ho)
    have := hall e' he' hb
    rw [hon, getD_both hun] at this
    cases this

theorem waits_off {md : Region.Mode} {ops : Array Oper} {n z : Nat} {listed : Array Bool} (hs : sinkZ md ops n z = true) (inv : HeadInv md ops n listed) :
    ∀ (d i : Nat), n - i = d → i < n → i ≠ z → listed.getD i true = false → n ∉ Region.ready md ops listed := by
  intro d
  induction d using Nat.strongRecOn with
  | _ d ih =>
    intro i hd hi hz hun hr
    have h1 := List.all_eq_true.1 hs i (List.mem_range.2 hi)
    simp only [Bool.or_eq_true, beq_iff_eq, hz, false_or] at h1
    obtain ⟨j, hj, hj2⟩ := List.any_eq_true.1 h1
    simp only [Bool.and_eq_true, decide_eq_true_eq] at hj2
    obtain ⟨⟨hij, hjz⟩, hjw⟩ := hj2
    obtain ⟨oj, hoj, e, he, hb, hon⟩ := Region.waitsFor_spec hjw
    have hjle : j ≤ n := by have := List.mem_range.1 hj; omega
    by_cases hjn : j = n
    · obtain ⟨_, o, ho, hall⟩ := mem_ready.1 hr
      subst hjn
      obtain rfl : oj = o := Option.some.inj (hoj.symm.trans ho)
      have h2 := hall e he hb
      rw [hon, getD_both hun] at h2
      cases h2
    · cases hl : listed.getD j false with
      | true =>
        have h2 := inv.closed j oj hoj hl e he hb
        rw [hon, getD_both hun] at h2
        cases h2
      | false =>
        have hjs : j < listed.size := by rw [inv.size]; exact (Array.getElem?_eq_some_iff.1 hoj).1
        exact ih (n - j) (by omega) j rfl (by omega) hjz (getD_in hjs hl) hr
theorem heads_or_late {md : Region.Mode} {ops : Array Oper} {n z : Nat} {listed : Array Bool} (hs : sinkZ md ops n z = true) (hc : Region.chainB md ops n = true) (hz : lateB md ops n z = true) (hn : n < ops.size) (inv : HeadInv md ops n listed)
    {i : Nat} (hi : i < n) (hun : listed.getD i true = false) : (∀ t ∈ Region.ready md ops listed, t < n) ∨ z ∈ Region.ready md ops listed := by
  by_cases hall : ∀ t ∈ Region.ready md ops listed, t < n
  · exact .inl hall
  refine .inr ?_
  obtain ⟨t, ht⟩ := Classical.not_forall.1 hall
  obtain ⟨hr, htn⟩ := Classical.not_imp.1 ht
  have htlt : t < ops.size := by
    obtain ⟨_, o, ho, _⟩ := mem_ready.1 hr
    exact (Array.getElem?_eq_some_iff.1 ho).1
  obtain rfl : t = n := by
    have h1 := List.all_eq_true.1 hc t (List.mem_range.2 htlt)
    simp only [Bool.or_eq_true, decide_eq_true_eq] at h1
    rcases h1 with h1 | h1
    · omega
    · by_cases hq : t = n
      · exact hq
      obtain ⟨o', ho', e, he, hb, hon⟩ := Region.waitsFor_spec h1
      obtain ⟨_, o, ho, hall⟩ := mem_ready.1 hr
      obtain rfl : o' = o := Option.some.inj (ho'.symm.trans ho)
      have h2 := hall e he hb
      rw [hon, getD_both (inv.tail (t - 1) (by omega) (by omega))] at h2
      cases h2
  obtain ⟨_, on, hon, hall⟩ := mem_ready.1 hr
  unfold lateB at hz
  by_cases hiz : i = z
  · subst hiz
    cases ho : ops[i]? with
    | none => exact absurd (Array.getElem?_eq_none_iff.1 ho) (by omega)
    | some oz =>
      rw [ho] at hz
      simp only [Bool.and_eq_true, decide_eq_true_eq] at hz
      refine mem_ready.2 ⟨hun, oz, ho, fun e he hb => ?_⟩
      have h1 := Array.all_eq_true_iff_forall_mem.1 hz.1.2 e he
      simp only [hb, Bool.not_true, Bool.false_or] at h1
      obtain ⟨o', ho', e', he', hb', hon'⟩ := Region.waitsFor_spec h1
      obtain rfl : o' = on := Option.some.inj (ho'.symm.trans hon)
      rw [← hon']
      exact hall e' he' hb'
  · exact absurd hr (waits_off hs inv _ i rfl hi hiz hun)

/-- The head, whatever order is picked: f operations, each below n; then L. -/
def calmL (P : Program) (R : World → World → Prop) (md : Region.Mode) (ops : Array Oper) (C : World → Prop) (n z : Nat) (L : Array Bool → Act → Prop) : Nat → Array Bool → Act → Prop
  | 0, listed, a => L listed a
  | f + 1, listed, a => (Region.ready md ops listed ≠ [] ∧ ((∀ t ∈ Region.ready md ops listed, t < n) ∨ z ∈ Region.ready md ops listed)) ∧
    ∀ i ∈ Region.ready md ops listed, i < n → calmOp P R ops C i (calmL P R md ops C n z L f (listed.setIfInBounds i true)) a

theorem calmL_first {n z i : Nat} {oi : Oper} {v : Value} {L : Array Bool → Act → Prop} (hi : ops[i]? = some oi) (hsel : ∀ (j : Nat) (o : Oper) cs b, ops[j]? = some o → o.op ≠ .select cs b)
    (hs : sinkZ md ops n z = true) (hc : Region.chainB md ops n = true) (hz : lateB md ops n z = true) (hn : n < ops.size) (hin : i < n)
    (hdone : ∀ listed a, L listed a → ∀ j ∈ Region.ready md ops listed, n ≤ j) (f : Nat) : ∀ (listed : Array Bool) (a : Act), HeadInv md ops n listed →
      (∀ j oj, ops[j]? = some oj → j ≠ i → listed.getD j true = false → (∀ e ∈ oj.after, Region.binds md e = true → e.on ≠ i) → oi.apart ops oj = true) →
      i ∈ Region.ready md ops listed → YC P R ops C oi v a → calmL P R md ops C n z L f (listed.setIfInBounds i true) (a.put oi.dst v) → calmL P R md ops C n z L (f + 1) listed a := by
  induction f with
  | zero =>
    intro listed a inv _ hr hy H
    refine ⟨⟨List.ne_nil_of_mem hr, heads_or_late hs hc hz hn inv hin (mem_ready.1 hr).1⟩, fun j hj hjn => ?_⟩
    by_cases hji : j = i
    · rw [hji]; exact hy.op hi H
    · exact absurd (hdone _ _ H j (ready_mono hj hji)) (by omega)
  | succ f ih =>
    intro listed a inv hfree hr hy H
    refine ⟨⟨List.ne_nil_of_mem hr, heads_or_late hs hc hz hn inv hin (mem_ready.1 hr).1⟩, fun j hj hjn => ?_⟩
    by_cases hji : j = i
    · rw [hji]; exact hy.op hi H
    obtain ⟨hjun, oj, hoj, hall⟩ := mem_ready.1 hj
    have hnot : ∀ e ∈ oj.after, Region.binds md e = true → e.on ≠ i := fun e he hb heq => by
      have h1 := hall e he hb
      rw [heq, getD_both (mem_ready.1 hr).1] at h1
      cases h1
    have h2 := calmOp_put hoj (hfree j oj hoj hji hjun hnot) (fun cs b => hsel i oi cs b hi) (fun cs b => hsel j oj cs b hoj) hy (H.2 j (ready_mono hj hji) hjn)
    refine calmOp_mono (fun a' h3 => ih (listed.setIfInBounds j true) a' (inv.set hj hjn) (fun k ok hk hki hun hno => ?_) (ready_mono hr (Ne.symm hji)) h3.1 (by rw [Array.setIfInBounds_comm _ _ hji]; exact h3.2)) h2
    refine hfree k ok hk hki ?_ hno
    by_cases hjk : j = k
    · rw [← hjk]; exact hjun
    · rwa [getD_set_ne true hjk] at hun

/-- The head's operations in the order of the text, those of a list of indices. -/
def wpCalm (P : Program) (R : World → World → Prop) (ops : Array Oper) (C : World → Prop) (X : Act → Prop) : List Oper → Act → Prop
  | [], a => X a
  | o :: rest, a => if Region.wanted o (yielded ops a.tmps) then calm P R C o a (wpCalm P R ops C X rest) else wpCalm P R ops C X rest (a.put o.dst undef)

/-- The order of the text is allowed, each operation may be taken first. -/
def lexIdx (md : Region.Mode) (ops : Array Oper) (n g : Nat) : List Nat → Array Bool → Bool
  | [], listed => Region.seqB md ops g n listed
  | k :: ks, listed => (Region.ready md ops listed).contains k && Region.free md ops listed k && decide (k < n) && lexIdx md ops n g ks (listed.setIfInBounds k true)

theorem calmL_lex {n g z : Nat} {X : Act → Prop} (hsel : Region.noSelect ops = true) (hs : sinkZ md ops n z = true) (hc : Region.chainB md ops n = true) (hz : lateB md ops n z = true) (hn : n < ops.size) :
    ∀ (ks : List Nat) (l : List Oper) (listed : Array Bool) (a : Act), ks.map (fun k => ops[k]?) = l.map some → HeadInv md ops n listed → lexIdx md ops n g ks listed = true → wpCalm P R ops C X l a →
      calmL P R md ops C n z (fun listed' a' => Region.seqB md ops g n listed' = true ∧ X a') l.length listed a
  | [], l, listed, a, hl, inv, hB, h => by
    obtain rfl : l = [] := by simpa using hl.symm
    exact ⟨hB, h⟩
  | k :: ks, l, listed, a, hl, inv, hB, h => by
    cases l with
    | nil => simp at hl
    | cons o l =>
      simp only [List.map_cons, List.cons.injEq] at hl
      obtain ⟨h0, hl⟩ := hl
      simp only [lexIdx, Bool.and_eq_true, decide_eq_true_eq] at hB
      obtain ⟨⟨⟨hr, hf⟩, hkn⟩, hB'⟩ := hB
      have hr' : k ∈ Region.ready md ops listed := by simpa using hr
      have hop : calmOp P R ops C k (wpCalm P R ops C X l) a := by unfold calmOp; rw [h0]; exact h
      obtain ⟨v, hy, hX⟩ := yc_of_op h0 hop
      exact calmL_first h0 (Region.noSelect_spec hsel) hs hc hz hn hkn (fun _ _ hL => seqB_ready hL.1) l.length listed a inv (Region.free_spec h0 hf) hr' hy
        (calmL_lex hsel hs hc hz hn ks l _ _ hl (inv.set hr' hkn) hB' hX)

/-- One operation of the head, in the frame that holds the new block's address besides. -/
theorem wpOp_of_calm {i : Nat} {o : Oper} {a : Act} {d : Option Tmp} {p : Value} {X : Act → Prop} {K : Act → World → Prop} {Q' : Exit → Act → World → Prop} {w : World} (hi : ops[i]? = some o) (hs : ∀ cs b, o.op ≠ .select cs b)
    (h1 : ∀ t, d = some t → t ∉ o.looksAt ops) (h2 : ∀ t, d = some t → o.dst ≠ some t) (hR : ∀ w, R w w) (hC : C w) (h : calmOp P R ops C i X a) (hK : ∀ a' w', X a' → R w w' → K (a'.put d p) w') : wpOp P ops Q' i K (a.put d p) w := by
  obtain ⟨v, hy, hX⟩ := yc_of_op hi h
  unfold wpOp
  rw [hi]
  simp only
  rw [wanted_put o a d p h1]
  rcases hy with ⟨hw, hg⟩ | ⟨hw, rfl⟩
  · rw [if_pos hw]
    obtain ⟨x, q, hx⟩ := hg w hC
    refine .inl ?_
    unfold Oper.quietAt at q
    rw [← execOp_put o hs a d p h1] at q
    have e1 : (a.put d p).put o.dst x = (a.put o.dst v).put d p := by rw [Act.put_comm a p x h2, hx]
    unfold Oper.wp
    generalize (execOp (a.put d p).eval o).run P w = r at q
    cases r with
    | ok n w' =>
      cases n <;> simp only [Oper.quietUpon] at q <;> simp only [Oper.upon]
      case value u => obtain ⟨rfl, rfl⟩ := q; rw [e1]; exact hK _ _ hX (hR _)
      case skip => obtain ⟨rfl, rfl⟩ := q; rw [e1]; exact hK _ _ hX (hR _)
      case enter f args =>
        obtain ⟨rfl, hc⟩ := q
        exact hc.mono fun e w'' ⟨he, hw''⟩ => by
          subst he
          show K ((a.put d p).put o.dst x) w''
          rw [e1]; exact hK _ _ hX hw''
    | halt c w' => simp only [Oper.quietUpon] at q
  · rw [if_neg (by rw [hw]; exact Bool.false_ne_true), Act.put_comm a p undef h2]
    exact hK _ _ hX (hR _)

variable {n g : Nat} {Q' : Exit → Act → World → Prop} {X : Act → Prop} {d : Option Tmp}

/-- What may be asked of an operation that comes late: it looks at no world. -/
def Worldless (P : Program) (o : Oper) : Prop := ∀ (a : Act) (D : World → Prop) (w : World) (v : Value), o.quietAt P a D w v → ∀ w', (execOp a.eval o).run P w' = .ok (.value v) w'

theorem yields_late {z : Nat} {oz : Oper} {a : Act} {p : Value} {Y : Act → Prop} {w : World} (hz : ops[z]? = some oz) (hg : oz.guard = none) (hwl : Worldless P oz) (hs : ∀ cs b, oz.op ≠ .select cs b) (h1 : ∀ t, d = some t → t ∉ oz.looksAt ops) (hC : C w)
    (h : calmOp P R ops C z Y a) : ∃ x v, Yields P ops oz x (a.put d p) ∧ Y (a.put oz.dst v) ∧ a.put oz.dst x = a.put oz.dst v := by
  obtain ⟨v, hy, hY⟩ := yc_of_op hz h
  have hw : ∀ y, Region.wanted oz y = true := fun y => by unfold Region.wanted; rw [hg]
  rcases hy with ⟨_, hgv⟩ | ⟨hw', _⟩
  · obtain ⟨x, q, hx⟩ := hgv w hC
    exact ⟨x, v, .inl ⟨hw _, fun w' => by rw [execOp_put oz hs a d p h1]; exact hwl _ _ _ _ q w'⟩, hY, hx⟩
  · rw [hw] at hw'; cases hw'

/-- Behind the block's making (or where no block is made): the rest of the head, then the tail. -/
theorem any_of_calm {m z : Nat} (hsel : Region.noSelect ops = true) (hR : ∀ w, R w w) (hCb : ∀ w w', C w → R w w' → C w') {p : Value} {D : World → Prop} (hD : ∀ w w', C w → D w → R w w' → D w')
    (hQ : ∀ oz, ops[z]? = some oz → ∀ c a v w, Q' (.panic c) (Act.put a oz.dst v) w → Q' (.panic c) a w) (hl : lateB md ops n z = true) (hwl : ∀ oz, ops[z]? = some oz → Worldless P oz) (hzm : z ≠ m)
    (h1 : ∀ i o, ops[i]? = some o → i < n → i ≠ m → ∀ t, d = some t → t ∉ o.looksAt ops ∧ o.dst ≠ some t)
    (tail : ∀ listed a w, Region.seqB md ops g n listed = true → X a → C w → D w → wpAny P md ops Q' g listed (a.put d p) w) :
    ∀ (f : Nat) (listed : Array Bool) (a : Act) (w : World), C w → D w → (d = none ∨ listed.getD m false = true) →
      calmL P R md ops C n z (fun listed' a' => Region.seqB md ops g n listed' = true ∧ X a') f listed a → wpAny P md ops Q' (f + g) listed (a.put d p) w
  | 0, listed, a, w, hC, hDw, _, h => by rw [Nat.zero_add]; exact tail _ _ _ h.1 h.2 hC hDw
  | f + 1, listed, a, w, hC, hDw, hm, h => by
    rw [show f + 1 + g = (f + g) + 1 by omega]
    obtain ⟨⟨hne, hor⟩, hops⟩ := h
    rcases hor with hlt | hzr
    · refine ⟨fun h0 => absurd h0 hne, fun i hi => ?_⟩
      obtain ⟨hun, o, ho, _⟩ := mem_ready.1 hi
      have hin := hlt i hi
      have hop := hops i hi hin
      have hx : ∀ t, d = some t → t ∉ o.looksAt ops ∧ o.dst ≠ some t := fun t ht => h1 i o ho hin (fun e => by
        subst e
        rcases hm with hm | hm
        · rw [hm] at ht; cases ht
        · rw [getD_both hun] at hm; cases hm) t ht
      refine wpOp_of_calm ho (fun cs b => Region.noSelect_spec hsel i o cs b ho) (fun t ht => (hx t ht).1) (fun t ht => (hx t ht).2) hR hC hop fun a' w' hX hb => ?_
      exact any_of_calm hsel hR hCb hD hQ hl hwl hzm h1 tail f _ a' w' (hCb _ _ hC hb) (hD _ _ hC hDw hb) (hm.imp id getD_set_true) hX
    · obtain ⟨hun, oz, hoz, _⟩ := mem_ready.1 hzr
      unfold lateB at hl
      rw [hoz] at hl
      simp only [Bool.and_eq_true, decide_eq_true_eq] at hl
      obtain ⟨⟨⟨hzn, hgz⟩, _⟩, hfr⟩ := hl
      have hx := h1 z oz hoz hzn hzm
      have hselz := fun cs b => Region.noSelect_spec hsel z oz cs b hoz
      obtain ⟨x, v, hyz, hY, hxv⟩ := yields_late (p := p) hoz (Option.isNone_iff_eq_none.1 hgz) (hwl oz hoz) hselz (fun t ht => (hx t ht).1) hC (hops z hzr hzn)
      refine wpAny_first hoz (Region.noSelect_spec hsel) (fun c a w => hQ oz hoz c a _ w) (f + g) listed (a.put d p) w (fun j oj hj hjz hun' hno => Region.free_spec hoz hfr j oj hj hjz (late_unlisted hzr hj hun') hno) hzr hyz ?_
      rw [show (a.put d p).put oz.dst x = (a.put oz.dst v).put d p by rw [Act.put_comm a p x (fun t ht => (hx t ht).2), hxv]]
      exact any_of_calm hsel hR hCb hD hQ (by unfold lateB; rw [hoz]; simp only [Bool.and_eq_true, decide_eq_true_eq]; exact ⟨⟨⟨hzn, hgz⟩, by assumption⟩, hfr⟩) hwl hzm h1 tail f _ _ w hC hDw (hm.imp id getD_set_true) hY

/-- Ahead of the block's making. -/
theorem any_of_calm0 {m z : Nat} {om : Oper} {obj : Obj} (hom : ops[m]? = some om) (hmr : ∀ e ∈ om.after, Region.binds md e = false) (hmg : ∀ y, Region.wanted om y = true) (hmn : Region.waitsFor md ops n m = true) (hg : 0 < g)
    (hsel : Region.noSelect ops = true) (hR : ∀ w, R w w) (hCb : ∀ w w', C w → R w w' → C w') {D : Nat → World → Prop} (hD : ∀ b w w', C w → D b w → R w w' → D b w') (hCa : ∀ w, C w → C (w.alloc obj)) (hnew : ∀ w, C w → D w.heap.size (w.alloc obj))
    (hQ : ∀ oz, ops[z]? = some oz → ∀ c a v w, Q' (.panic c) (Act.put a oz.dst v) w → Q' (.panic c) a w) (hl : lateB md ops n z = true) (hwl : ∀ oz, ops[z]? = some oz → Worldless P oz) (hzm : z ≠ m) (hzd : ∀ oz, ops[z]? = some oz → ∀ e ∈ oz.after, e.on ≠ m)
    (halloc : ∀ (a : Act) (w : World), (execOp a.eval om).run P w = .ok (.value (.pointer (some ⟨w.heap.size, 0, none⟩))) (w.alloc obj))
    (h1 : ∀ i o, ops[i]? = some o → i < n → i ≠ m → ∀ t, om.dst = some t → t ∉ o.looksAt ops ∧ o.dst ≠ some t)
    (tail : ∀ b listed a w, Region.seqB md ops g n listed = true → X a → C w → D b w → wpAny P md ops Q' g listed (a.put om.dst (.pointer (some ⟨b, 0, none⟩))) w) :
    ∀ (f : Nat) (listed : Array Bool) (a : Act) (w : World), C w → listed.getD m true = false →
      calmL P R md ops C n z (fun listed' a' => Region.seqB md ops g n listed' = true ∧ X a') f (listed.setIfInBounds m true) a → wpAny P md ops Q' (f + g + 1) listed a w := by
  intro f
  induction f with
  | zero =>
    intro listed a w hC hm h
    have hmm : (listed.setIfInBounds m true).getD m false = true := by
      rcases Nat.lt_or_ge m listed.size with h' | h'
      · simp [h']
      · simp [Array.getElem?_eq_none h'] at hm
    have hrm : m ∈ Region.ready md ops listed := mem_ready.2 ⟨hm, om, hom, fun e he hb => by rw [hmr e he] at hb; cases hb⟩
    refine ⟨fun h0 => absurd h0 (List.ne_nil_of_mem hrm), fun i hi => ?_⟩
    by_cases him : i = m
    · subst him
      unfold wpOp
      rw [hom]
      simp only
      rw [if_pos (hmg _)]
      refine .inl ?_
      unfold Oper.wp
      rw [halloc]
      simp only [Oper.upon]
      exact any_of_calm (m := i) hsel hR hCb (hD _) hQ hl hwl hzm h1 (tail _) 0 _ a _ (hCa _ hC) (hnew _ hC) (.inr hmm) h
    · exfalso
      have hr := ready_mono hi him
      have hs := h.1
      cases g with
      | zero => omega
      | succ g =>
        simp only [Region.seqB, Bool.and_eq_true, decide_eq_true_eq] at hs
        rw [hs.1] at hr
        obtain rfl : i = n := by simpa using hr
        obtain ⟨_, o, ho, hall⟩ := mem_ready.1 hi
        obtain ⟨o', ho', e, he, hb, hon⟩ := Region.waitsFor_spec hmn
        obtain rfl : o' = o := Option.some.inj (ho'.symm.trans ho)
        have := hall e he hb
        rw [hon, getD_both hm] at this
        cases this
  | succ f ih =>
    intro listed a w hC hm h
    have hmm : (listed.setIfInBounds m true).getD m false = true := by
      rcases Nat.lt_or_ge m listed.size with h' | h'
      · simp [h']
      · simp [Array.getElem?_eq_none h'] at hm
    have hrm : m ∈ Region.ready md ops listed := mem_ready.2 ⟨hm, om, hom, fun e he hb => by rw [hmr e he] at hb; cases hb⟩
    rw [show f + 1 + g + 1 = (f + 1 + g) + 1 from rfl]
    rcases h.1.2 with hlt | hzr
    · refine ⟨fun h0 => absurd h0 (List.ne_nil_of_mem hrm), fun i hi => ?_⟩
      by_cases him : i = m
      · subst him
        unfold wpOp
        rw [hom]
        simp only
        rw [if_pos (hmg _)]
        refine .inl ?_
        unfold Oper.wp
        rw [halloc]
        simp only [Oper.upon]
        exact any_of_calm (m := i) hsel hR hCb (hD _) hQ hl hwl hzm h1 (tail _) (f + 1) _ a _ (hCa _ hC) (hnew _ hC) (.inr hmm) h
      · have hr := ready_mono hi him
        have hop := h.2 i hr (hlt i hr)
        obtain ⟨_, o, ho, _⟩ := mem_ready.1 hi
        have := wpOp_of_calm (d := none) (p := undef) (K := wpAny P md ops Q' (f + 1 + g) (listed.setIfInBounds i true)) (Q' := Q') ho (fun cs b => Region.noSelect_spec hsel i o cs b ho) (fun t ht => by cases ht) (fun t ht => by cases ht) hR hC hop fun a' w' hX hb => by
          have := ih (listed.setIfInBounds i true) a' w' (hCb _ _ hC hb) (by rw [getD_set_ne true him]; exact hm) (by rw [Array.setIfInBounds_comm _ _ him]; exact hX)
          rw [show f + 1 + g = f + g + 1 by omega]
          exact this
        exact this
    · obtain ⟨hun, oz, hoz, hall⟩ := mem_ready.1 hzr
      have hl' := hl
      unfold lateB at hl'
      rw [hoz] at hl'
      simp only [Bool.and_eq_true, decide_eq_true_eq] at hl'
      obtain ⟨⟨⟨hzn, hgz⟩, _⟩, hfr⟩ := hl'
      have hselz := fun cs b => Region.noSelect_spec hsel z oz cs b hoz
      have hzr' : z ∈ Region.ready md ops listed := mem_ready.2 ⟨by rw [getD_set_ne true (Ne.symm hzm)] at hun; exact hun, oz, hoz, fun e he hb => by
        have := hall e he hb
        rwa [getD_set_ne false (Ne.symm (hzd oz hoz e he))] at this⟩
      obtain ⟨x, v, hyz, hY, hxv⟩ := yields_late (d := none) (p := undef) hoz (Option.isNone_iff_eq_none.1 hgz) (hwl oz hoz) hselz (fun t ht => by cases ht) hC (h.2 z hzr hzn)
      refine wpAny_first hoz (Region.noSelect_spec hsel) (fun c a w => hQ oz hoz c a _ w) (f + 1 + g) listed a w (fun j oj hj hjz hun' hno => Region.free_spec hoz hfr j oj hj hjz (late_unlisted hzr' hj hun') hno) hzr' hyz ?_
      rw [hxv, show f + 1 + g = f + g + 1 by omega]
      exact ih (listed.setIfInBounds z true) _ w hC (by rw [getD_set_ne true hzm]; exact hm) (by rw [Array.setIfInBounds_comm _ _ hzm]; exact hY)
end

/-- The class: nothing that lay in W has turned. -/
abbrev BW (W : World) : World → Prop := fun w => Below W.heap.size W w
theorem bw_closed (W : World) : ∀ w w', BW W w → BC w w' → BW W w' := fun w w' h k => h.trans ((bc_below k).mono h.size)
/-- w with draws, and with blocks laid behind it. -/
abbrev GC (w : World) : World → Prop := fun w' => ∃ p : Regrown, w' = grow (w.drewN p.d) p.os
theorem gc_refl (w : World) : GC w w := ⟨⟨0, #[]⟩, by rw [grow_empty]; rfl⟩
theorem grow_drewN (w : World) (os : Array Obj) (n : Nat) : (grow w os).drewN n = grow (w.drewN n) os := rfl
theorem gc_trans {a b c : World} (h : GC a b) (k : GC b c) : GC a c := by
  obtain ⟨p, rfl⟩ := h
  obtain ⟨q, rfl⟩ := k
  refine ⟨⟨p.d + q.d, p.os ++ q.os⟩, ?_⟩
  rw [grow_drewN, grow_grow, World.drewN_drewN]
theorem gc_below {w w' : World} (h : GC w w') : Below w.heap.size w w' := by
  obtain ⟨p, rfl⟩ := h
  exact below_regrown w (w.drewN p.d).drawn p.os

def calmB (ops : Array Oper) (n z : Nat) (ks : List Nat) : Bool :=
  lateB .any ops n z && Region.noSelect ops && decide (n < ops.size) && sinkZ .any ops n z && Region.chainB .any ops n && lexIdx .any ops n (ops.size - n) ks (Array.replicate ops.size false) && decide (ks.length + (ops.size - n) = ops.size)

theorem headInv0 {md : Region.Mode} {ops : Array Oper} {n : Nat} : HeadInv md ops n (Array.replicate ops.size false) :=
  ⟨by simp, fun j oj _ hl => (by rw [getD_replicate_false] at hl; cases hl), fun t _ ht => getD_in (by simpa using ht) (getD_replicate_false _ _)⟩

/-- **A head of reads and calls that lay blocks, then a forced tail.** -/
theorem wp_region_calm {P : Program} {id : Nat} {Q : Exit → Act → World → Prop} {a : Act} {w : World} {l : List Oper} (n z : Nat) (ks : List Nat) (hm : P.follows .mixedOrders = true) (hB : calmB l.toArray n z ks = true) (hwl : ∀ oz, l.toArray[z]? = some oz → Worldless P oz) (hQ : ∀ oz, l.toArray[z]? = some oz → ∀ c a v w, Q (.panic c) (Act.put a oz.dst v) w → Q (.panic c) a w)
    (hh : ks.map (fun k => l.toArray[k]?) = (l.take n).map some)
    (h : wpCalm P BC l.toArray (BW w) (fun a' => ∀ w', BW w w' → wpList P l.toArray Q (l.drop n) a' w') (l.take n) a) : (Code.region id l.toArray true).wp P Q a w := by
  simp only [calmB, Bool.and_eq_true, decide_eq_true_eq] at hB
  obtain ⟨⟨⟨⟨⟨⟨hl, hsel⟩, hn⟩, hs⟩, hc⟩, hlex⟩, hlen⟩ := hB
  have hkl : ks.length = (l.take n).length := by simpa using congrArg List.length hh
  have H := calmL_lex (P := P) (R := BC) (C := BW w) hsel hs hc hl hn ks (l.take n) _ a hh headInv0 hlex h
  refine wp_region_any hm ?_
  have R := any_of_calm (P := P) (R := BC) (m := z + 1) (d := none) (p := undef) (Q' := Q) (D := fun _ => True) hsel bc_refl (bw_closed w) (fun _ _ _ _ _ => trivial) hQ hl hwl (by omega) (fun _ _ _ _ _ t ht => by cases ht) (fun listed a' w' hL hX hC _ => by
    have := wpAny_of_seq (md := .any) (Q' := Q) (l.drop n) n listed a' w' (fun j => by simp [List.getElem?_drop]) (by rw [show (l.drop n).length = l.toArray.size - n by simp]; exact hL) (hX w' hC)
    rwa [show (l.drop n).length = l.toArray.size - n by simp] at this) (l.take n).length _ a { w with drawn := w.drawn + 1 } ⟨rfl, rfl, rfl, Nat.le_refl _, fun _ _ => rfl⟩ trivial (.inl rfl) H
  rw [← hkl, hlen] at R
  exact R

/-- .. where each world is W with draws and blocks behind it. -/
theorem wp_region_calmG {P : Program} {id : Nat} {Q : Exit → Act → World → Prop} {a : Act} {w : World} {l : List Oper} (n z : Nat) (ks : List Nat) (hm : P.follows .mixedOrders = true) (hB : calmB l.toArray n z ks = true) (hwl : ∀ oz, l.toArray[z]? = some oz → Worldless P oz) (hQ : ∀ oz, l.toArray[z]? = some oz → ∀ c a v w, Q (.panic c) (Act.put a oz.dst v) w → Q (.panic c) a w)
    (hh : ks.map (fun k => l.toArray[k]?) = (l.take n).map some)
    (h : wpCalm P GC l.toArray (GC w) (fun a' => ∀ w', GC w w' → wpList P l.toArray Q (l.drop n) a' w') (l.take n) a) : (Code.region id l.toArray true).wp P Q a w := by
  simp only [calmB, Bool.and_eq_true, decide_eq_true_eq] at hB
  obtain ⟨⟨⟨⟨⟨⟨hl, hsel⟩, hn⟩, hs⟩, hc⟩, hlex⟩, hlen⟩ := hB
  have hkl : ks.length = (l.take n).length := by simpa using congrArg List.length hh
  have H := calmL_lex (P := P) (R := GC) (C := GC w) hsel hs hc hl hn ks (l.take n) _ a hh headInv0 hlex h
  refine wp_region_any hm ?_
  have R := any_of_calm (P := P) (R := GC) (m := z + 1) (d := none) (p := undef) (Q' := Q) (D := fun _ => True) hsel gc_refl (fun _ _ h k => gc_trans h k) (fun _ _ _ _ _ => trivial) hQ hl hwl (by omega) (fun _ _ _ _ _ t ht => by cases ht) (fun listed a' w' hL hX hC _ => by
    have := wpAny_of_seq (md := .any) (Q' := Q) (l.drop n) n listed a' w' (fun j => by simp [List.getElem?_drop]) (by rw [show (l.drop n).length = l.toArray.size - n by simp]; exact hL) (hX w' hC)
    rwa [show (l.drop n).length = l.toArray.size - n by simp] at this) (l.take n).length _ a { w with drawn := w.drawn + 1 } ⟨⟨1, #[]⟩, by rw [grow_empty]; rfl⟩ trivial (.inl rfl) H
  rw [← hkl, hlen] at R
  exact R

def calmB1 (ops : Array Oper) (n z m : Nat) (ks : List Nat) : Bool :=
  lateB .any ops n z && decide (z ≠ m) && (match ops[z]? with | some oz => oz.after.all (fun e => e.on != m) | none => true) && Region.noSelect ops && decide (n < ops.size) && sinkZ .any ops n z && Region.chainB .any ops n && lexIdx .any ops n (ops.size - n) ks ((Array.replicate ops.size false).setIfInBounds m true) && decide (ks.length + (ops.size - n) + 1 = ops.size) &&
  decide (m < n) && Region.waitsFor .any ops n m &&
  (match ops[m]? with
   | some om => om.after.isEmpty && om.guard.isNone && (List.range n).all fun i => i == m || match ops[i]? with
      | some o => om.apart ops o
      | none => true
   | none => false)

/-- **.. with one block made besides, at whatever point.** -/
theorem wp_region_calm1 {P : Program} {id : Nat} {Q : Exit → Act → World → Prop} {a : Act} {w : World} {l : List Oper} (n z m : Nat) (ks : List Nat) {om : Oper} {obj : Obj} (hm : P.follows .mixedOrders = true) (hB : calmB1 l.toArray n z m ks = true) (hwl : ∀ oz, l.toArray[z]? = some oz → Worldless P oz) (hQ : ∀ oz, l.toArray[z]? = some oz → ∀ c a v w, Q (.panic c) (Act.put a oz.dst v) w → Q (.panic c) a w)
    (hh : ks.map (fun k => l.toArray[k]?) = ((l.take n).eraseIdx m).map some) (hom : l.toArray[m]? = some om)
    (halloc : ∀ (a : Act) (w : World), (execOp a.eval om).run P w = .ok (.value (.pointer (some ⟨w.heap.size, 0, none⟩))) (w.alloc obj))
    (h : wpCalm P BC l.toArray (BW w) (fun a' => ∀ b w', BW w w' → w.heap.size ≤ b → w'.heap[b]? = some obj → wpList P l.toArray Q (l.drop n) (a'.put om.dst (.pointer (some ⟨b, 0, none⟩))) w') ((l.take n).eraseIdx m) a) : (Code.region id l.toArray true).wp P Q a w := by
  simp only [calmB1, Bool.and_eq_true, decide_eq_true_eq, hom] at hB
  obtain ⟨⟨⟨⟨⟨⟨⟨⟨⟨⟨⟨hl, hzm⟩, hzd⟩, hsel⟩, hn⟩, hs⟩, hc⟩, hlex⟩, hlen⟩, hmn⟩, hwf⟩, ⟨haf, hgd⟩, hap⟩ := hB
  have hkl : ks.length = ((l.take n).eraseIdx m).length := by simpa using congrArg List.length hh
  have hms : m < l.toArray.size := by omega
  have inv : HeadInv .any l.toArray n ((Array.replicate l.toArray.size false).setIfInBounds m true) :=
    headInv0.set (mem_ready.2 ⟨getD_in (by simpa using hms) (getD_replicate_false _ _), om, hom, fun e he => by simp [Array.isEmpty_iff.1 haf] at he⟩) hmn
  have H := calmL_lex (P := P) (R := BC) (C := BW w) hsel hs hc hl hn ks ((l.take n).eraseIdx m) _ a hh inv hlex h
  refine wp_region_any hm ?_
  have R := any_of_calm0 (P := P) (R := BC) (Q' := Q) (g := l.toArray.size - n) (D := fun b w' => w.heap.size ≤ b ∧ b < w'.heap.size ∧ w'.heap[b]? = some obj) hom (fun e he => by simp [Array.isEmpty_iff.1 haf] at he) (fun y => by
      unfold Region.wanted
      rw [Option.isNone_iff_eq_none.1 hgd]) hwf (by omega) hsel bc_refl (bw_closed w)
    (fun b w1 w2 _ hb k => ⟨hb.1, Nat.lt_of_lt_of_le hb.2.1 (bc_below k).size, ((bc_below k).block b hb.2.1).trans hb.2.2⟩) (fun w1 h => h.trans ((Below.refl _ _).alloc h.size _)) (fun w1 hw1 => ⟨hw1.size, by simp, (MapKept.heap_alloc w1 obj).1⟩) hQ hl hwl hzm (fun oz hoz e he => by
      rw [hoz] at hzd
      simpa using Array.all_eq_true_iff_forall_mem.1 hzd e he) halloc
    (fun i o ho hin him t ht => by
      have := List.all_eq_true.1 hap i (List.mem_range.2 hin)
      rw [ho] at this
      simp only [Bool.or_eq_true, beq_iff_eq, him, false_or] at this
      obtain ⟨h1, h2, _⟩ := Oper.apart_spec this
      exact ⟨h1 t ht, h2 t ht⟩)
    (fun b listed a' w' hL hX hC hD => by
      have := wpAny_of_seq (md := .any) (Q' := Q) (l.drop n) n listed (a'.put om.dst (.pointer (some ⟨b, 0, none⟩))) w' (fun j => by simp [List.getElem?_drop]) (by rw [show (l.drop n).length = l.toArray.size - n by simp]; exact hL) (hX b w' hC hD.1 hD.2.2)
      rwa [show (l.drop n).length = l.toArray.size - n by simp] at this) ((l.take n).eraseIdx m).length _ a { w with drawn := w.drawn + 1 } ⟨rfl, rfl, rfl, Nat.le_refl _, fun _ _ => rfl⟩ (getD_in (by simpa using hms) (getD_replicate_false _ _)) H
  rw [← hkl, hlen] at R
  exact R

/-! ### Operations that look at no world -/
theorem worldless_extract {P : Program} {o : Oper} (x : Operand) (i : Nat) (h : o.op = .extract x i) : Worldless P o := by
  intro a D w v hq w'
  unfold Oper.quietAt at hq
  simp only [execOp, h, Instr.extract] at hq ⊢
  generalize a.eval x = u at hq ⊢
  cases u <;> simp [Oper.quietUpon, Sem.run] at hq ⊢
  rename_i vs
  cases hv : vs[i]? with
  | none => rw [hv] at hq; simp [stuck, Sem.run, Result.andThen] at hq
  | some u =>
    rw [hv] at hq
    simp [Result.andThen] at hq ⊢
    exact hq

/-! ### The steps of the walk -/
section
variable {P : Program} {ops : Array Oper} {C : World → Prop} {R : World → World → Prop} {X : Act → Prop} {a : Act} {o : Oper} {rest : List Oper}
theorem wpCalm_nil (h : X a) : wpCalm P R ops C X [] a := h
theorem wpCalm_want {aN : Act} (hw : Region.wanted o (yielded ops a.tmps) = true) (hR : ∀ w, R w w) (hne : ∃ w, C w) (h : ∀ w, C w → ∀ K : Act → Prop, K aN → o.quiet P a (R w) K) (hr : wpCalm P R ops C X rest aN) : wpCalm P R ops C X (o :: rest) a := by
  obtain ⟨w1, hw1⟩ := hne
  obtain ⟨v0, _, hN⟩ := h w1 hw1 (fun a' => a' = aN) rfl
  unfold wpCalm
  rw [if_pos hw]
  exact ⟨v0, fun w hw => by
    obtain ⟨v, hv, hK⟩ := h w hw (fun a' => a' = aN) rfl
    exact ⟨v, hv w (hR w), by rw [hK, hN]⟩, by rw [hN]; exact hr⟩
theorem wpCalm_skip (hw : Region.wanted o (yielded ops a.tmps) = false) (h : wpCalm P R ops C X rest (a.put o.dst undef)) : wpCalm P R ops C X (o :: rest) a := by
  unfold wpCalm
  rw [if_neg (by rw [hw]; exact Bool.false_ne_true)]
  exact h
end
end Go.Proofs.YtpapfegbodolgaaDoor
end

section
set_option linter.unusedVariables false
set_option linter.unusedSimpArgs false
namespace Go.Proofs.YtpapfegbodolgaaDoor
open Go.RowKit Go.Sort

section
variable {P : Program} {ops : Array Oper} {Q : Exit → Act → World → Prop} {md : Region.Mode} {F : Nat → Value → World → Prop} {W0 : World} {a0 : Act}

/-- What stands in the midst of the region. -/
structure Fact (ops : Array Oper) (F : Nat → Value → World → Prop) (W0 : World) (a0 : Act) (listed : Array Bool) (a : Act) (w : World) : Prop where
  below : Below W0.heap.size W0 w
  size : a.tmps.size = a0.tmps.size
  defers : a.defers = a0.defers
  other : ∀ t, (∀ (i : Nat) (o : Oper), ops[i]? = some o → o.dst ≠ some t) → a.tmps.getD t undef = a0.tmps.getD t undef
  held : ∀ (i : Nat) (o : Oper) (d : Tmp), ops[i]? = some o → o.dst = some d → listed.getD i false = true → F i (a.tmps.getD d undef) w
  len : listed.size = ops.size

/-- Each slot is written once, and is there; no guard, no choice. -/
def factB (ops : Array Oper) (n : Nat) : Bool :=
  (List.range ops.size).all fun i => match ops[i]? with
    | none => true
    | some o => (match o.dst with
      | none => false
      | some d => decide (d < n) && (List.range ops.size).all fun j => j == i || match ops[j]? with
        | none => true
        | some p => p.dst != some d)
theorem factB_spec {ops : Array Oper} {n : Nat} (h : factB ops n = true) {i : Nat} {o : Oper} (hi : ops[i]? = some o) : ∃ d, o.dst = some d ∧ d < n ∧ ∀ (j : Nat) (p : Oper), ops[j]? = some p → p.dst = some d → j = i := by
  have hlt : ∀ {j : Nat} {p : Oper}, ops[j]? = some p → j < ops.size := fun h => (Array.getElem?_eq_some_iff.1 h).1
  have := List.all_eq_true.1 h i (List.mem_range.2 (hlt hi))
  simp only [hi] at this
  have h2 := this
  cases hd : o.dst with
  | none => rw [hd] at h2; cases h2
  | some d =>
    rw [hd] at h2
    simp only [Bool.and_eq_true, decide_eq_true_eq] at h2
    refine ⟨d, rfl, h2.1, fun j p hj hp => ?_⟩
    have := List.all_eq_true.1 h2.2 j (List.mem_range.2 (hlt hj))
    simp only [Bool.or_eq_true, beq_iff_eq, hj] at this
    rcases this with h | h
    · exact h
    · rw [hp] at h; simp at h

/-- What is asked of one operation. -/
def FactStep (P : Program) (ops : Array Oper) (Q : Exit → Act → World → Prop) (md : Region.Mode) (F : Nat → Value → World → Prop) (W0 : World) (a0 : Act) (i : Nat) (o : Oper) : Prop :=
  ∀ (listed : Array Bool) (a : Act) (w : World), Fact ops F W0 a0 listed a w → (∀ e ∈ o.after, Region.binds md e = true → listed.getD e.on false = true) →
    o.wp P a w (fun a' w' => ∃ v, a' = a.put o.dst v ∧ F i v w' ∧ Below w.heap.size w w') Q
/-- .. where a guard may leave it out. -/
def FactStepG (P : Program) (ops : Array Oper) (Q : Exit → Act → World → Prop) (md : Region.Mode) (F : Nat → Value → World → Prop) (W0 : World) (a0 : Act) (i : Nat) (o : Oper) : Prop :=
  ∀ (listed : Array Bool) (a : Act) (w : World), Fact ops F W0 a0 listed a w → (∀ e ∈ o.after, Region.binds md e = true → listed.getD e.on false = true) →
    if Region.wanted o (yielded ops a.tmps) = true then o.wp P a w (fun a' w' => ∃ v, a' = a.put o.dst v ∧ F i v w' ∧ Below w.heap.size w w') Q else F i undef w
theorem plain {i : Nat} {o : Oper} (hg : o.guard = none) (h : FactStep P ops Q md F W0 a0 i o) : FactStepG P ops Q md F W0 a0 i o := fun listed a w hf hr => by
  rw [if_pos (by simp [Region.wanted, hg])]
  exact h listed a w hf hr
theorem guarded {i : Nat} {o p : Oper} (g : Nat) (d : Tmp) {b : Bool} (hg : o.guard = some (g, b)) (hp : ops[g]? = some p) (hd : p.dst = some d) (hb : (o.after.any fun e => e.on == g && Region.binds md e) = true) (hF : ∀ v w, F g v w → v = .bool b)
    (h : FactStep P ops Q md F W0 a0 i o) : FactStepG P ops Q md F W0 a0 i o := fun listed a w hf hr => by
  obtain ⟨k, hk, hke⟩ := Array.any_eq_true.1 hb
  simp only [Bool.and_eq_true, beq_iff_eq] at hke
  have hl : listed.getD g false = true := by
    have := hr o.after[k] (Array.getElem_mem hk) hke.2
    rwa [hke.1] at this
  have hv := hF _ _ (hf.held g p d hp hd hl)
  rw [if_pos ?_]
  · exact h listed a w hf hr
  · rw [Array.getD_eq_getD_getElem?] at hv
    cases hq : a.tmps[d]? with
    | none => rw [hq] at hv; cases hv
    | some x =>
      rw [hq, Option.getD_some] at hv
      subst hv
      simp [Region.wanted, hg, yielded, hp, hd, hq]
def FactSteps (P : Program) (ops : Array Oper) (Q : Exit → Act → World → Prop) (md : Region.Mode) (F : Nat → Value → World → Prop) (W0 : World) (a0 : Act) : Nat → List Oper → Prop
  | _, [] => True
  | i, o :: l => FactStepG P ops Q md F W0 a0 i o ∧ FactSteps P ops Q md F W0 a0 (i + 1) l
theorem factSteps_get : ∀ (l : List Oper) (k : Nat), FactSteps P ops Q md F W0 a0 k l → ∀ (j : Nat) (o : Oper), l[j]? = some o → FactStepG P ops Q md F W0 a0 (k + j) o
  | [], k, h, j, o, hj => by simp at hj
  | p :: l, k, h, 0, o, hj => by simp only [List.getElem?_cons_zero, Option.some.injEq] at hj; subst hj; exact h.1
  | p :: l, k, h, j + 1, o, hj => by
    have := factSteps_get l (k + 1) h.2 j o (by simpa using hj)
    rwa [show k + (j + 1) = k + 1 + j by omega]

theorem any_of_facts (hB : factB ops a0.tmps.size = true) (hF : ∀ i v w w', F i v w → Below w.heap.size w w' → F i v w')
    (hs : ∀ (i : Nat) (o : Oper), ops[i]? = some o → FactStepG P ops Q md F W0 a0 i o) (hend : ∀ (listed : Array Bool) (a : Act) (w : World), Fact ops F W0 a0 listed a w → (∀ i, i < ops.size → listed.getD i false = true) → Q .normal a w)
    (hdone : ∀ listed : Array Bool, Region.ready md ops listed = [] → listed.size = ops.size → ∀ i, i < ops.size → listed.getD i false = true) :
    ∀ (fuel : Nat) (listed : Array Bool) (a : Act) (w : World), (listed.toList.count false) ≤ fuel → Fact ops F W0 a0 listed a w → wpAny P md ops Q fuel listed a w
  | 0, listed, a, w, hc, hf => by
    have hr : Region.ready md ops listed = [] := by
      rw [List.eq_nil_iff_forall_not_mem]
      intro i hi
      obtain ⟨h1, o, ho, -⟩ := mem_ready.1 hi
      have hlt : i < listed.size := by rw [hf.len]; exact (Array.getElem?_eq_some_iff.1 ho).1
      have : false ∈ listed.toList := by
        rw [Array.getD, dif_pos hlt] at h1
        rw [← h1]; simp
      have := List.count_pos_iff.2 this
      omega
    exact ⟨hr, hend listed a w hf (hdone listed hr hf.len)⟩
  | fuel + 1, listed, a, w, hc, hf => by
    refine ⟨fun hr => hend listed a w hf (hdone listed hr hf.len), fun i hi => ?_⟩
    obtain ⟨h1, o, ho, hall⟩ := mem_ready.1 hi
    obtain ⟨d, hd, hdn, huniq⟩ := factB_spec hB ho
    have hlt : i < listed.size := by rw [hf.len]; exact (Array.getElem?_eq_some_iff.1 ho).1
    have hcount : ((listed.setIfInBounds i true).toList.count false) ≤ fuel := by
      have hgi : listed.toList[i]'(by simpa using hlt) = false := by
        rw [Array.getD, dif_pos hlt] at h1
        simpa using h1
      have e := List.count_set (l := listed.toList) (a := true) (b := false) (i := i) (by simpa using hlt)
      rw [hgi] at e
      have hp : 0 < listed.toList.count false := List.count_pos_iff.2 (by rw [← hgi]; exact List.getElem_mem _)
      simp only [Array.toList_setIfInBounds]
      rw [e]
      show listed.toList.count false - 1 + 0 ≤ fuel
      omega
    unfold wpOp
    rw [ho]
    simp only
    have hst := hs i o ho listed a w hf hall
    suffices hnext : ∀ v w', F i v w' → Below w.heap.size w w' → wpAny P md ops Q fuel (listed.setIfInBounds i true) (a.put o.dst v) w' by
      split
      · rename_i hw
        rw [if_pos hw] at hst
        refine .inl (Oper.wp_mono ?_ hst)
        rintro a' w' ⟨v, rfl, hv, hb⟩
        exact hnext v w' hv hb
      · rename_i hw
        rw [if_neg hw] at hst
        exact hnext undef w hst (Below.refl _ _)
    intro v w' hv hb
    refine any_of_facts hB hF hs hend hdone fuel _ _ _ hcount ?_
    have hds : d < a.tmps.size := by rw [hf.size]; exact hdn
    refine ⟨hf.below.trans (hb.mono hf.below.size), ?_, ?_, ?_, ?_, by simp [hf.len]⟩
    · rw [hd]; simp [Act.put, hf.size]
    · rw [hd]; exact hf.defers
    · intro t ht
      rw [← hf.other t ht, hd]
      have hne : d ≠ t := fun e => ht i o ho (by rw [hd, e])
      simp only [Act.put, Array.getD_eq_getD_getElem?]
      rw [Array.getElem?_setIfInBounds_ne hne]
    · intro j p d' hj hp hl
      by_cases hji : j = i
      · subst hji
        obtain rfl : p = o := Option.some.inj (hj.symm.trans ho)
        obtain rfl : d' = d := Option.some.inj (hp.symm.trans hd)
        rw [hd]
        have : ((a.put (some d') v).tmps.getD d' undef) = v := by
          simp only [Act.put, Array.getD_eq_getD_getElem?]
          rw [Array.getElem?_setIfInBounds_self_of_lt hds]; rfl
        rw [this]; exact hv
      · have hdd : d' ≠ d := fun e => hji (huniq j p hj (by rw [hp, e]))
        have hl' : listed.getD j false = true := by
          simp only [Array.getD_eq_getD_getElem?] at hl ⊢
          rwa [Array.getElem?_setIfInBounds_ne (Ne.symm hji)] at hl
        have := hf.held j p d' hj hp hl'
        rw [hd]
        have e : ((a.put (some d) v).tmps.getD d' undef) = a.tmps.getD d' undef := by
          simp only [Act.put, Array.getD_eq_getD_getElem?]
          rw [Array.getElem?_setIfInBounds_ne (Ne.symm hdd)]
        rw [e]
        exact hF _ _ _ _ this hb
end

/-- **A region that draws its order, by facts.** -/
theorem wp_region_facts {P : Program} {id : Nat} {Q : Exit → Act → World → Prop} {a : Act} {w : World} {l : List Oper} (F : Nat → Value → World → Prop) (hm : P.follows .mixedOrders = true) (hB : factB l.toArray a.tmps.size = true)
    (hC : (List.range l.length).all (fun i => match l.toArray[i]? with | none => true | some o => o.after.all fun e => decide (e.on < i)) = true)
    (hF : ∀ i v w w', F i v w → Below w.heap.size w w' → F i v w') (hs : FactSteps P l.toArray Q .any F w a 0 l)
    (hend : ∀ (listed : Array Bool) (a' : Act) (w' : World), Fact l.toArray F w a listed a' w' → (∀ i, i < l.length → listed.getD i false = true) → Q .normal a' w') : (Code.region id l.toArray true).wp P Q a w := by
  refine wp_region_any hm ?_
  refine any_of_facts (F := F) (W0 := w) (a0 := a) hB hF (fun i o hi => ?_) (fun listed a' w' hf hl => hend listed a' w' hf (by simpa using hl)) ?_ _ _ _ _ ?_ ?_
  · have := factSteps_get l 0 hs i o (by simpa using hi)
    rwa [Nat.zero_add] at this
  · intro listed hr hlen
    have : ∀ (d i : Nat), i = d → i < l.toArray.size → listed.getD i false = true := by
      intro d
      induction d using Nat.strongRecOn with
      | _ d ih =>
        intro i hid hi
        subst hid
        cases hl : listed.getD i false with
        | true => rfl
        | false =>
          exfalso
          obtain ⟨o, ho⟩ : ∃ o, l.toArray[i]? = some o := ⟨l.toArray[i], Array.getElem?_eq_getElem hi⟩
          have : i ∈ Region.ready .any l.toArray listed := mem_ready.2 ⟨by
            rw [Array.getD, dif_pos (by rw [hlen]; exact hi)] at hl ⊢
            exact hl, o, ho, fun e he _ => by
              have hc := List.all_eq_true.1 hC i (List.mem_range.2 (by simpa using hi))
              rw [ho] at hc
              simp only at hc
              obtain ⟨k, hk, hke⟩ := Array.mem_iff_getElem.1 he
              have := Array.all_eq_true.1 hc k hk
              rw [hke] at this
              have hlt := of_decide_eq_true this
              exact ih e.on hlt e.on rfl (by omega)⟩
          rw [hr] at this
          cases this
    exact fun i hi => this i i rfl hi
  · simp [List.count_replicate]
  · refine ⟨⟨rfl, rfl, rfl, Nat.le_refl _, fun _ _ => rfl⟩, rfl, rfl, fun _ _ => rfl, fun i o d ho hd hl => ?_, by simp⟩
    rw [Array.getD_eq_getD_getElem?, Array.getElem?_replicate] at hl
    split at hl <;> cases hl

/-- What follows the region, whatever its slots hold as the facts say. -/
def FactEnd (F : Nat → Value → World → Prop) (K : Act → World → Prop) : Nat → List Oper → Act → World → Prop
  | _, [], a, w => K a w
  | i, o :: l, a, w => ∀ v, F i v w → FactEnd F K (i + 1) l (a.put o.dst v) w
def fills (a' : Act) (l : List Oper) (a : Act) : Act := l.foldl (fun b o => b.put o.dst (a'.tmps.getD (o.dst.getD 0) undef)) a
theorem factEnd_get {F : Nat → Value → World → Prop} {K : Act → World → Prop} (a' : Act) (w : World) : ∀ (l : List Oper) (k : Nat) (a : Act), FactEnd F K k l a w → (∀ (j : Nat) (o : Oper), l[j]? = some o → ∃ d, o.dst = some d ∧ F (k + j) (a'.tmps.getD d undef) w) → K (fills a' l a) w
  | [], k, a, h, _ => h
  | o :: l, k, a, h, hf => by
    obtain ⟨d, hd, hv⟩ := hf 0 o rfl
    have := h (a'.tmps.getD (o.dst.getD 0) undef) (by rw [hd]; exact hv)
    exact factEnd_get a' w l (k + 1) _ this fun j p hj => by
      obtain ⟨d', h1, h2⟩ := hf (j + 1) p (by simpa using hj)
      exact ⟨d', h1, by rwa [show k + 1 + j = k + (j + 1) by omega]⟩
theorem put_defers (a : Act) (d : Option Tmp) (v : Value) : (a.put d v).defers = a.defers := by cases d <;> rfl
theorem put_size (a : Act) (d : Option Tmp) (v : Value) : (a.put d v).tmps.size = a.tmps.size := by cases d <;> simp [Act.put]
theorem fills_defers (a' : Act) : ∀ (l : List Oper) (a : Act), (fills a' l a).defers = a.defers
  | [], _ => rfl
  | o :: l, a => by
    show (fills a' l _).defers = _
    rw [fills_defers a' l]
    exact put_defers _ _ _
theorem fills_size (a' : Act) : ∀ (l : List Oper) (a : Act), (fills a' l a).tmps.size = a.tmps.size
  | [], _ => rfl
  | o :: l, a => by
    show (fills a' l _).tmps.size = _
    rw [fills_size a' l]
    exact put_size _ _ _
theorem fills_get (a' : Act) (t : Nat) : ∀ (l : List Oper) (a : Act), t < a.tmps.size → ((∃ o ∈ l, o.dst = some t) → (fills a' l a).tmps.getD t undef = a'.tmps.getD t undef) ∧ ((¬ ∃ o ∈ l, o.dst = some t) → (fills a' l a).tmps.getD t undef = a.tmps.getD t undef)
  | [], a, _ => ⟨fun ⟨_, h, _⟩ => (by cases h), fun _ => rfl⟩
  | o :: l, a, ht => by
    have hsz : (a.put o.dst (a'.tmps.getD (o.dst.getD 0) undef)).tmps.size = a.tmps.size := put_size _ _ _
    obtain ⟨i1, i2⟩ := fills_get a' t l (a.put o.dst (a'.tmps.getD (o.dst.getD 0) undef)) (by rw [hsz]; exact ht)
    refine ⟨fun h => ?_, fun h => ?_⟩
    · show (fills a' l _).tmps.getD t undef = _
      by_cases hl : ∃ o ∈ l, o.dst = some t
      · exact i1 hl
      · rw [i2 hl]
        have ho : o.dst = some t := by
          obtain ⟨p, hp, hpt⟩ := h
          rcases List.mem_cons.1 hp with rfl | hp
          · exact hpt
          · exact absurd ⟨p, hp, hpt⟩ hl
        rw [ho]
        simp only [Act.put, Option.getD_some, Array.getD_eq_getD_getElem?]
        rw [Array.getElem?_setIfInBounds_self_of_lt ht]; rfl
    · show (fills a' l _).tmps.getD t undef = _
      rw [i2 fun ⟨p, hp, hpt⟩ => h ⟨p, List.mem_cons_of_mem _ hp, hpt⟩]
      cases hd : o.dst with
      | none => rfl
      | some d =>
        have hne : d ≠ t := fun e => h ⟨o, List.mem_cons_self, by rw [hd, e]⟩
        simp only [Act.put, Array.getD_eq_getD_getElem?]
        rw [Array.getElem?_setIfInBounds_ne hne]
theorem fills_all {l : List Oper} {F : Nat → Value → World → Prop} {W0 : World} {a a' : Act} {w : World} {listed : Array Bool} (h : Fact l.toArray F W0 a listed a' w) : fills a' l a = a' := by
  have h1 := fills_defers a' l a
  have h2 := fills_size a' l a
  have h3 : (fills a' l a).tmps = a'.tmps := by
    refine Array.ext (h2.trans h.size.symm) fun t ht1 ht2 => ?_
    have hta : t < a.tmps.size := by rw [← h2]; exact ht1
    have key : (fills a' l a).tmps.getD t undef = a'.tmps.getD t undef := by
      obtain ⟨i1, i2⟩ := fills_get a' t l a hta
      by_cases hl : ∃ o ∈ l, o.dst = some t
      · exact i1 hl
      · rw [i2 hl]
        refine (h.other t fun i o hi hd => hl ⟨o, ?_, hd⟩).symm
        exact List.mem_of_getElem? (by simpa using hi)
    rw [Array.getD, dif_pos ht1, Array.getD, dif_pos ht2] at key
    exact key
  have h4 := h.defers
  generalize fills a' l a = b at h1 h3
  obtain ⟨t, d⟩ := b
  obtain ⟨t', d'⟩ := a'
  simp only at h1 h3 h4
  rw [h3, h1, h4]

/-- **.. and what follows, with each slot's value by its fact.** -/
theorem wp_region_factsE {P : Program} {id : Nat} {Q : Exit → Act → World → Prop} {a : Act} {w : World} {l : List Oper} (F : Nat → Value → World → Prop) (hm : P.follows .mixedOrders = true) (hB : factB l.toArray a.tmps.size = true)
    (hC : (List.range l.length).all (fun i => match l.toArray[i]? with | none => true | some o => o.after.all fun e => decide (e.on < i)) = true)
    (hF : ∀ i v w w', F i v w → Below w.heap.size w w' → F i v w') (hs : FactSteps P l.toArray Q .any F w a 0 l)
    (hend : ∀ w', Below w.heap.size w w' → FactEnd F (Q .normal) 0 l a w') : (Code.region id l.toArray true).wp P Q a w := by
  refine wp_region_facts F hm hB hC hF hs fun listed a' w' hf hl => ?_
  have := factEnd_get a' w' l 0 a (hend w' hf.below) fun j o hj => by
    obtain ⟨d, hd, hdn, hu⟩ := factB_spec hB (i := j) (o := o) (by simpa using hj)
    refine ⟨d, hd, ?_⟩
    rw [Nat.zero_add]
    exact hf.held j o d (by simpa using hj) hd (hl j (List.getElem?_eq_some_iff.1 hj).1)
  rwa [fills_all hf] at this

section
variable {P : Program} {ops : Array Oper} {Q : Exit → Act → World → Prop} {md : Region.Mode} {F : Nat → Value → World → Prop} {W0 : World} {a0 : Act}
theorem wp_value {o : Oper} {a : Act} {w w' : World} {v : Value} {K : Act → World → Prop} (h : (execOp a.eval o).run P w = .ok (.value v) w') (hk : K (a.put o.dst v) w') : o.wp P a w K Q := by
  unfold Oper.wp; rw [h]; exact hk
theorem wp_enter {o : Oper} {a : Act} {w : World} {f : FuncId} {args : Array Value} {K : Act → World → Prop} (h : (execOp a.eval o).run P w = .ok (.enter f args) w) (hk : Calls P f args w fun e w' => ∃ v, e = .returned v ∧ K (a.put o.dst v) w') : o.wp P a w K Q := by
  unfold Oper.wp; rw [h]
  exact hk.mono fun e w' ⟨v, he, hk⟩ => by subst he; exact hk
theorem Fact.out {listed : Array Bool} {a : Act} {w : World} (h : Fact ops F W0 a0 listed a w) (t : Nat) (hb : ops.all (fun o => o.dst != some t) = true) : a.tmps.getD t undef = a0.tmps.getD t undef :=
  h.other t fun i o hi hd => by
    obtain ⟨hlt, rfl⟩ := Array.getElem?_eq_some_iff.1 hi
    have := Array.all_eq_true.1 hb i hlt
    rw [hd] at this
    simp at this
theorem wp_move {o : Oper} {a : Act} {w : World} {v : Value} {x : Operand} {K : Act → World → Prop} (ho : o.op = .move x ∨ o.op = .assign x) (hv : a.eval x = v) (hk : K (a.put o.dst v) w) : o.wp P a w K Q := by
  refine wp_value (w' := w) ?_ hk
  unfold execOp
  rcases ho with ho | ho <;> (rw [ho]; simp only [hv]; rfl)
theorem wp_call1 {o : Oper} {a : Act} {w : World} {f : FuncId} {args : Array Operand} {ts : Array TypeId} {vs : Array Value} {K : Act → World → Prop} (ho : o.op = .call { callee := .value (.func f), args := args, argTypes := ts }) (hq : ((P.funcs[f]?).map fun fn => (fn.name == "runtime.NumGoroutine", fn.body.isNone)) = some (false, false))
    (hv : args.map a.eval = vs) (hk : Calls P f vs w fun e w' => ∃ v, e = .returned v ∧ K (a.put o.dst v) w') : o.wp P a w K Q := by
  refine wp_enter (f := f) (args := vs) ?_ hk
  obtain ⟨fn, hfn, h2⟩ := Option.map_eq_some_iff.1 hq
  simp only [Prod.mk.injEq] at h2
  unfold execOp
  rw [ho]
  have hb : fn.body ≠ none := by intro h; rw [h] at h2; simp at h2
  have hnm : ¬ fn.name = "runtime.NumGoroutine" := by simpa using h2.1
  simp [resolve, invoke, hv, Act.eval, callFunc, go_sem, hfn, hb, hnm]
theorem Fact.dep {listed : Array Bool} {a : Act} {w : World} {o : Oper} (h : Fact ops F W0 a0 listed a w) (hr : ∀ e ∈ o.after, Region.binds md e = true → listed.getD e.on false = true) (i : Nat) (d : Tmp) {p : Oper} (hi : ops[i]? = some p) (hd : p.dst = some d) (hb : (o.after.any fun e => e.on == i && Region.binds md e) = true) : F i (a.tmps.getD d undef) w := by
  obtain ⟨k, hk, hke⟩ := Array.any_eq_true.1 hb
  simp only [Bool.and_eq_true, beq_iff_eq] at hke
  refine h.held i p d hi hd ?_
  have := hr o.after[k] (Array.getElem_mem hk) hke.2
  rwa [hke.1] at this
end
end Go.Proofs.YtpapfegbodolgaaDoor
end
