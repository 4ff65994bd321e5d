/- PLAIN: what records do to a list of rows that is sorted by table and key. No program stands in it. -/
import Derived.Test.YtaapggeaoacikaaP0
set_option linter.unusedVariables false
set_option linter.unusedSimpArgs false
namespace Go.Proofs.Ytaapggeaoacikaa

def rlt (r s : MRow) : Prop := r.t < s.t ∨ r.t = s.t ∧ r.k < s.k
instance (r s : MRow) : Decidable (rlt r s) := by unfold rlt; infer_instance
def Srt (L : List MRow) : Prop := L.Pairwise rlt
def atk (t k : Int) (r : MRow) : Bool := decide (r.t = t ∧ r.k = k)
def ltk (t k : Int) (r : MRow) : Bool := decide (r.t < t ∨ r.t = t ∧ r.k < k)
def gtk (t k : Int) (r : MRow) : Bool := decide (t < r.t ∨ t = r.t ∧ k < r.k)
def look (L : List MRow) (t k : Int) : Option MRow := L.find? (atk t k)
def stepC (L : List MRow) (c : MCh) : List MRow := L.filter (ltk c.t c.k) ++ ((if c.has then [⟨c.t, c.k, c.n⟩] else []) ++ L.filter (gtk c.t c.k))
def stepAll (L : List MRow) (cs : List MCh) : List MRow := cs.foldl stepC L

theorem rlt_trans {a b c : MRow} (h : rlt a b) (k : rlt b c) : rlt a c := by unfold rlt at *; omega
theorem rlt_irr {a : MRow} : ¬ rlt a a := by unfold rlt; omega

theorem srt_inj {L : List MRow} (h : Srt L) {r s : MRow} (hr : r ∈ L) (hs : s ∈ L) (ht : r.t = s.t) (hk : r.k = s.k) : r = s := by
  induction L with
  | nil => simp at hr
  | cons a L ih =>
    obtain ⟨h1, h2⟩ := List.pairwise_cons.1 h
    rcases List.mem_cons.1 hr with e1 | hr <;> rcases List.mem_cons.1 hs with e2 | hs
    · rw [e1, e2]
    · have := h1 s hs; rw [← e1] at this; unfold rlt at this; omega
    · have := h1 r hr; rw [← e2] at this; unfold rlt at this; omega
    · exact ih h2 hr hs

theorem look_some {L : List MRow} (h : Srt L) {t k : Int} {r : MRow} : look L t k = some r ↔ r ∈ L ∧ r.t = t ∧ r.k = k := by
  constructor
  · intro e
    have h1 := List.mem_of_find?_eq_some e
    have h2 := List.find?_some e
    simp only [atk, decide_eq_true_eq] at h2
    exact ⟨h1, h2⟩
  · rintro ⟨h1, h2, h3⟩
    cases e : look L t k with
    | none =>
      have := List.find?_eq_none.1 e r h1
      simp [atk, h2, h3] at this
    | some s =>
      have g1 := List.mem_of_find?_eq_some e
      have g2 := List.find?_some e
      simp only [atk, decide_eq_true_eq] at g2
      rw [srt_inj h g1 h1 (by omega) (by omega)]
theorem look_none {L : List MRow} {t k : Int} : look L t k = none ↔ ∀ r ∈ L, ¬ (r.t = t ∧ r.k = k) := by
  unfold look
  rw [List.find?_eq_none]
  simp [atk]

theorem srt_ext {L M : List MRow} (hL : Srt L) (hM : Srt M) (h : ∀ t k, look L t k = look M t k) : L = M := by
  have nd : ∀ {L : List MRow}, Srt L → L.Nodup := fun h => h.imp (fun {a b} hab e => by subst e; exact rlt_irr hab)
  have hp : L.Perm M := (List.perm_ext_iff_of_nodup (nd hL) (nd hM)).2 fun r => by
    have := h r.t r.k
    constructor
    · intro hr
      have := (look_some hL).2 ⟨hr, rfl, rfl⟩
      rw [h] at this
      exact ((look_some hM).1 this).1
    · intro hr
      have := (look_some hM).2 ⟨hr, rfl, rfl⟩
      rw [← h] at this
      exact ((look_some hL).1 this).1
  exact List.Perm.eq_of_pairwise (le := rlt) (fun a b _ _ h1 h2 => absurd (rlt_trans h1 h2) rlt_irr) hL hM hp

theorem srt_filter {L : List MRow} (h : Srt L) (p : MRow → Bool) : Srt (L.filter p) := List.Pairwise.filter p h
theorem srt_step {L : List MRow} (h : Srt L) (c : MCh) : Srt (stepC L c) := by
  unfold stepC Srt
  rw [List.pairwise_append, List.pairwise_append]
  refine ⟨srt_filter h _, ⟨?_, srt_filter h _, ?_⟩, ?_⟩
  · split <;> simp
  · intro a ha b hb
    have hb2 := (List.mem_filter.1 hb).2
    split at ha
    · simp only [List.mem_singleton] at ha
      subst ha
      simp only [gtk, decide_eq_true_eq] at hb2
      exact hb2
    · simp at ha
  · intro a ha b hb
    have ha2 := (List.mem_filter.1 ha).2
    simp only [ltk, decide_eq_true_eq] at ha2
    rcases List.mem_append.1 hb with hb | hb
    · split at hb
      · simp only [List.mem_singleton] at hb
        subst hb
        exact ha2
      · simp at hb
    · have hb2 := (List.mem_filter.1 hb).2
      simp only [gtk, decide_eq_true_eq] at hb2
      unfold rlt; omega
theorem mem_step {L : List MRow} {c : MCh} {r : MRow} : r ∈ stepC L c ↔ (r ∈ L ∧ ¬ (r.t = c.t ∧ r.k = c.k)) ∨ (c.has = true ∧ r = ⟨c.t, c.k, c.n⟩) := by
  unfold stepC
  simp only [List.mem_append, List.mem_filter, ltk, gtk, decide_eq_true_eq]
  constructor
  · rintro (⟨h1, h2⟩ | h | ⟨h1, h2⟩)
    · exact .inl ⟨h1, by omega⟩
    · split at h
      · exact .inr ⟨‹_›, by simpa using h⟩
      · simp at h
    · exact .inl ⟨h1, by omega⟩
  · rintro (⟨h1, h2⟩ | ⟨h1, h2⟩)
    · by_cases h3 : r.t < c.t ∨ r.t = c.t ∧ r.k < c.k
      · exact .inl ⟨h1, h3⟩
      · exact .inr (.inr ⟨h1, by omega⟩)
    · exact .inr (.inl (by rw [if_pos h1]; simp [h2]))

theorem look_step_same {L : List MRow} (h : Srt L) (c : MCh) : look (stepC L c) c.t c.k = if c.has then some ⟨c.t, c.k, c.n⟩ else none := by
  split
  · exact (look_some (srt_step h c)).2 ⟨mem_step.2 (.inr ⟨‹_›, rfl⟩), rfl, rfl⟩
  · rw [look_none]
    intro r hr
    rcases mem_step.1 hr with h1 | h1
    · exact h1.2
    · exact absurd h1.1 ‹_›
theorem look_step_other {L : List MRow} (h : Srt L) (c : MCh) {t k : Int} (hne : ¬ (t = c.t ∧ k = c.k)) : look (stepC L c) t k = look L t k := by
  cases e : look L t k with
  | none =>
    rw [look_none] at e ⊢
    intro r hr
    rcases mem_step.1 hr with h1 | ⟨_, rfl⟩
    · exact e r h1.1
    · exact fun h2 => hne ⟨h2.1.symm, h2.2.symm⟩
  | some r =>
    obtain ⟨h1, h2, h3⟩ := (look_some h).1 e
    exact (look_some (srt_step h c)).2 ⟨mem_step.2 (.inl ⟨h1, by rw [h2, h3]; exact hne⟩), h2, h3⟩

theorem split_at {L : List MRow} (h : Srt L) (t k : Int) : L = L.filter (ltk t k) ++ ((look L t k).toList ++ L.filter (gtk t k)) := by
  have hs : Srt (L.filter (ltk t k) ++ ((look L t k).toList ++ L.filter (gtk t k))) := by
    unfold Srt
    rw [List.pairwise_append, List.pairwise_append]
    refine ⟨srt_filter h _, ⟨?_, srt_filter h _, ?_⟩, ?_⟩
    · cases look L t k <;> simp
    · intro a ha b hb
      have hb2 := (List.mem_filter.1 hb).2
      have ha2 := (look_some h).1 (Option.mem_toList.1 ha)
      simp only [gtk, decide_eq_true_eq] at hb2
      unfold rlt; omega
    · intro a ha b hb
      have ha2 := (List.mem_filter.1 ha).2
      simp only [ltk, decide_eq_true_eq] at ha2
      rcases List.mem_append.1 hb with hb | hb
      · have hb2 := (look_some h).1 (Option.mem_toList.1 hb)
        unfold rlt; omega
      · have hb2 := (List.mem_filter.1 hb).2
        simp only [gtk, decide_eq_true_eq] at hb2
        unfold rlt; omega
  have nd : ∀ {L : List MRow}, Srt L → L.Nodup := fun h => h.imp (fun {a b} hab e => by subst e; exact rlt_irr hab)
  refine List.Perm.eq_of_pairwise (le := rlt) (fun a b _ _ h1 h2 => absurd (rlt_trans h1 h2) rlt_irr) h hs ((List.perm_ext_iff_of_nodup (nd h) (nd hs)).2 fun r => ?_)
  simp only [List.mem_append, List.mem_filter, ltk, gtk, decide_eq_true_eq, Option.mem_toList]
  constructor
  · intro hr
    by_cases h1 : r.t < t ∨ r.t = t ∧ r.k < k
    · exact .inl ⟨hr, h1⟩
    by_cases h2 : t < r.t ∨ t = r.t ∧ k < r.k
    · exact .inr (.inr ⟨hr, h2⟩)
    · exact .inr (.inl ((look_some h).2 ⟨hr, by omega, by omega⟩))
  · rintro (h1 | h1 | h1)
    · exact h1.1
    · exact ((look_some h).1 h1).1
    · exact h1.1

theorem length_step {L : List MRow} (h : Srt L) (c : MCh) : (stepC L c).length + (look L c.t c.k).toList.length = L.length + (if c.has then 1 else 0) := by
  have e := congrArg List.length (split_at h c.t c.k)
  simp only [List.length_append] at e
  unfold stepC
  simp only [List.length_append]
  split <;> simp <;> omega

/-- What is left of the rows without one key. -/
theorem perm_without (L : List MRow) (t k : Int) : (L.filter fun r => !atk t k r).Perm (L.filter (ltk t k) ++ L.filter (gtk t k)) := by
  induction L with
  | nil => simp
  | cons a L ih =>
    by_cases h1 : a.t < t ∨ a.t = t ∧ a.k < k
    · have e1 : ltk t k a = true := by simp [ltk, h1]
      have e2 : gtk t k a = false := by simp [gtk]; omega
      have e3 : (!atk t k a) = true := by simp [atk]; omega
      rw [List.filter_cons_of_pos (p := fun r => !atk t k r) e3, List.filter_cons_of_pos e1, List.filter_cons_of_neg (by simp [e2])]
      exact ih.cons _
    by_cases h2 : t < a.t ∨ t = a.t ∧ k < a.k
    · have e1 : ltk t k a = false := by simp [ltk]; omega
      have e2 : gtk t k a = true := by simp [gtk]; omega
      have e3 : (!atk t k a) = true := by simp [atk]; omega
      rw [List.filter_cons_of_pos (p := fun r => !atk t k r) e3, List.filter_cons_of_neg (by simp [e1]), List.filter_cons_of_pos e2]
      exact (ih.cons a).trans List.perm_middle.symm
    · have e1 : ltk t k a = false := by simp [ltk]; omega
      have e2 : gtk t k a = false := by simp [gtk]; omega
      have e3 : (!atk t k a) = false := by simp [atk]; omega
      rw [List.filter_cons_of_neg (p := fun r => !atk t k r) (by simp [e3]), List.filter_cons_of_neg (by simp [e1]), List.filter_cons_of_neg (by simp [e2])]
      exact ih
theorem perm_step (L : List MRow) (c : MCh) : (stepC L c).Perm ((if c.has then [⟨c.t, c.k, c.n⟩] else []) ++ L.filter fun r => !atk c.t c.k r) := by
  unfold stepC
  refine List.Perm.trans ?_ ((perm_without L c.t c.k).symm.append_left _)
  rw [← List.append_assoc, ← List.append_assoc]
  exact List.perm_append_comm.append_right _

/-! ### Records -/
def keyNe (c d : MCh) : Prop := ¬ (c.t = d.t ∧ c.k = d.k)
def Apart (cs : List MCh) : Prop := cs.Pairwise keyNe
def fitC (L : List MRow) (c : MCh) : Prop := look L c.t c.k = if c.had then some ⟨c.t, c.k, c.o⟩ else none
def Fits (L : List MRow) (cs : List MCh) : Prop := ∀ c ∈ cs, fitC L c
instance (L : List MRow) (c : MCh) : Decidable (fitC L c) := by unfold fitC; infer_instance
instance (L : List MRow) (cs : List MCh) : Decidable (Fits L cs) := by unfold Fits; infer_instance
def dlt (c : MCh) : Int := (if c.has then 1 else 0) - (if c.had then 1 else 0)
def cnt (n : Int) (cs : List MCh) : Int := cs.foldl (fun n c => n + dlt c) n
theorem cnt_nil (n : Int) : cnt n [] = n := rfl
theorem cnt_cons (n : Int) (c : MCh) (cs : List MCh) : cnt n (c :: cs) = cnt (n + dlt c) cs := rfl
theorem cnt_snoc (n : Int) (c : MCh) (cs : List MCh) : cnt n (cs ++ [c]) = cnt n cs + dlt c := by simp [cnt, List.foldl_append]
theorem stepAll_snoc (L : List MRow) (cs : List MCh) (c : MCh) : stepAll L (cs ++ [c]) = stepC (stepAll L cs) c := by simp [stepAll, List.foldl_append]
theorem stepAll_cons (L : List MRow) (cs : List MCh) (c : MCh) : stepAll L (c :: cs) = stepAll (stepC L c) cs := rfl

theorem srt_all {L : List MRow} (h : Srt L) : ∀ cs : List MCh, Srt (stepAll L cs) := by
  intro cs
  induction cs generalizing L with
  | nil => exact h
  | cons c cs ih => exact ih (srt_step h c)

theorem look_all_other {t k : Int} : ∀ {cs : List MCh} {L : List MRow}, Srt L → (∀ c ∈ cs, ¬ (t = c.t ∧ k = c.k)) → look (stepAll L cs) t k = look L t k := by
  intro cs
  induction cs with
  | nil => intro L _ _; rfl
  | cons c cs ih =>
    intro L h hc
    rw [stepAll_cons, ih (srt_step h c) (fun d hd => hc d (by simp [hd])), look_step_other h c (hc c (by simp))]
theorem look_all_mem : ∀ {cs : List MCh} {L : List MRow} {c : MCh}, Srt L → Apart cs → c ∈ cs → look (stepAll L cs) c.t c.k = if c.has then some ⟨c.t, c.k, c.n⟩ else none := by
  intro cs
  induction cs with
  | nil => intro L c _ _ hc; simp at hc
  | cons d cs ih =>
    intro L c h ha hc
    obtain ⟨h1, h2⟩ := List.pairwise_cons.1 ha
    rw [stepAll_cons]
    rcases List.mem_cons.1 hc with rfl | hc
    · rw [look_all_other (srt_step h c) (fun e he => h1 e he), look_step_same h]
    · exact ih (srt_step h d) h2 hc

theorem fits_step {L : List MRow} (h : Srt L) {c : MCh} {cs : List MCh} (ha : Apart (c :: cs)) (hf : Fits L (c :: cs)) : Fits (stepC L c) cs := by
  intro d hd
  have h1 := (List.pairwise_cons.1 ha).1 d hd
  unfold fitC
  rw [look_step_other h c (fun e => h1 ⟨e.1.symm, e.2.symm⟩)]
  exact hf d (by simp [hd])
theorem fits_take {L : List MRow} (h : Srt L) {A B : List MCh} (ha : Apart (A ++ B)) (hf : Fits L (A ++ B)) : Fits (stepAll L A) B := by
  induction A generalizing L with
  | nil => exact hf
  | cons c A ih =>
    exact ih (srt_step h c) (List.pairwise_cons.1 ha).2 (fits_step h ha hf)

theorem length_all : ∀ {cs : List MCh} {L : List MRow}, Srt L → Apart cs → Fits L cs → ((stepAll L cs).length : Int) = cnt L.length cs := by
  intro cs
  induction cs with
  | nil => intro L _ _ _; rfl
  | cons c cs ih =>
    intro L h ha hf
    rw [stepAll_cons, ih (srt_step h c) (List.pairwise_cons.1 ha).2 (fits_step h ha hf), cnt_cons]
    congr 1
    have h1 := length_step h c
    have h2 := hf c (by simp)
    unfold fitC at h2
    rw [h2] at h1
    unfold dlt
    cases hc : c.had <;> cases hs : c.has <;> rw [hc, hs] at h1 <;> simp at h1 <;> simp <;> omega

/-- The change turned round undoes it. -/
def turnC (c : MCh) : MCh := ⟨c.t, c.k, c.has, c.n, c.had, c.o⟩
theorem undo_all {cs : List MCh} {L : List MRow} (h : Srt L) (ha : Apart cs) (hf : Fits L cs) : Fits (stepAll L cs) (cs.map turnC) ∧ stepAll (stepAll L cs) (cs.map turnC) = L := by
  have ha' : Apart (cs.map turnC) := by
    unfold Apart
    rw [List.pairwise_map]
    exact ha
  refine ⟨fun d hd => ?_, srt_ext (srt_all (srt_all h cs) _) h fun t k => ?_⟩
  · obtain ⟨c, hc, rfl⟩ := List.mem_map.1 hd
    exact look_all_mem h ha hc
  · by_cases hx : ∃ c ∈ cs, t = c.t ∧ k = c.k
    · obtain ⟨c, hc, rfl, rfl⟩ := hx
      have := look_all_mem (L := stepAll L cs) (srt_all h cs) ha' (List.mem_map.2 ⟨c, hc, rfl⟩)
      rw [show c.t = (turnC c).t from rfl, show c.k = (turnC c).k from rfl, this]
      exact (hf c hc).symm
    · have hx' : ∀ c ∈ cs, ¬ (t = c.t ∧ k = c.k) := fun c hc e => hx ⟨c, hc, e⟩
      rw [look_all_other (srt_all h cs) (fun d hd => by obtain ⟨c, hc, rfl⟩ := List.mem_map.1 hd; exact hx' c hc), look_all_other h hx']

/-- Changes of different rows, in either order. -/
theorem step_comm {L : List MRow} (h : Srt L) {c d : MCh} (hne : keyNe c d) : stepC (stepC L c) d = stepC (stepC L d) c := by
  have hne' : ¬ (d.t = c.t ∧ d.k = c.k) := fun e => hne ⟨e.1.symm, e.2.symm⟩
  refine srt_ext (srt_step (srt_step h c) d) (srt_step (srt_step h d) c) fun t k => ?_
  by_cases h1 : t = c.t ∧ k = c.k
  · obtain ⟨rfl, rfl⟩ := h1
    rw [look_step_other (srt_step h c) d hne, look_step_same h, look_step_same (srt_step h d)]
  · by_cases h2 : t = d.t ∧ k = d.k
    · obtain ⟨rfl, rfl⟩ := h2
      rw [look_step_same (srt_step h c), look_step_other (srt_step h d) c hne', look_step_same h]
    · rw [look_step_other (srt_step h c) d h2, look_step_other h c h1, look_step_other (srt_step h d) c h1, look_step_other h d h2]
end Go.Proofs.Ytaapggeaoacikaa
