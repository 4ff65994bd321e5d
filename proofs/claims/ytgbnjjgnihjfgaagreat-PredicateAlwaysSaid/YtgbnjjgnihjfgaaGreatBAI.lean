/- PLAIN: what a change does to the results of queries. -/
import Derived.Test.YtgbnjjgnihjfgaaGreatProg
import Derived.WalkKit
import Derived.Below
import Derived.Lib.Hide
import Derived.Laws.StructEq
import Derived.Lib.QuietBelow
import Derived.Deep.RegionHeld3
import Derived.Deep.RegionWith
import Derived.IntWalk
import Derived.BigQuiet
import Derived.Maps.RangeWalk
import Derived.DeepKeys4
import Derived.OneCell
import Derived.StillTail
import Derived.Deep.CutRange
import Derived.Outline
import Derived.WalkSpells
import Derived.Carry
import Derived.Shelf.SlGeneric
import Derived.Shelf.SlSortCmp.WholeK
import Derived.Shelf.SlicesG.Cmp
import Derived.Ground.SlsfProg
import Derived.Ground.SlgcProg
import Derived.Sort.OwnSorted
import Derived.Deep.AppendLies
import Derived.Shelf.SlSortCmp.NoneTotal
import Derived.Deep.QuietTactic
import Derived.Laws.AppendOwnNone
import Derived.Laws.EntriesVeiled
import Derived.Lib.SliceRun
import Derived.Deep.Cut
import Derived.Laws.ResultCell
import Derived.ArgAppend
import Derived.Laws.Rows
import Derived.Great.BuildSlice
import Derived.Great.Frames
import Derived.Deep.DeepCutAuto
import Derived.Test.YtgbnjjgnihjfgaaGreatBAH
import Derived.Test.YtgbnjjgnihjfgaaGreatBAG
import Derived.Test.YtgbnjjgnihjfgaaGreatBAE
import Derived.Test.YtgbnjjgnihjfgaaGreatBAB
import Derived.Test.YtgbnjjgnihjfgaaGreatBAA
import Derived.Test.YtgbnjjgnihjfgaaGreatBAC
import Derived.Test.YtgbnjjgnihjfgaaGreatBAD
import Derived.Test.YtgbnjjgnihjfgaaGreatBAF
set_option linter.unusedVariables false
set_option linter.unusedSimpArgs false
namespace Go.Proofs.YtgbnjjgnihjfgaaGreat
open Go.RowKit Go.Sort Go.ChangeMaps Go.MapKept

theorem res1 {q : MQ} (hv : validB q = true) (hk : q.kind = 1) (M O : List MRow) : resM q M O = ⟨M, 0, false⟩ := by
  unfold resM
  rw [if_neg (by rw [hv]; decide), if_neg (by omega), if_neg (by omega), if_neg (by omega), if_neg (by omega), if_neg (by omega)]
/-- The row before a change, the one after it; whether they are in a query's scan, and with which measure. -/
def befR (c : MCh) : MRow := if c.had then ⟨c.t, c.k, c.o⟩ else ⟨0, 0, V3.zero⟩
def aftR (c : MCh) : MRow := if c.has then ⟨c.t, c.k, c.n⟩ else ⟨0, 0, V3.zero⟩
def inQ (q : MQ) (r : MRow) (ex : Bool) : Bool := ex && selR q.table q.column q.low q.high r
def msQ (q : MQ) (r : MRow) (b : Bool) : Int := if b then vget r q.by_ else 0
def inB (q : MQ) (c : MCh) : Bool := inQ q (befR c) c.had
def inA (q : MQ) (c : MCh) : Bool := inQ q (aftR c) c.has
def msB (q : MQ) (c : MCh) : Int := msQ q (befR c) (inB q c)
def msA (q : MQ) (c : MCh) : Int := msQ q (aftR c) (inA q c)
def touchK (q : MQ) (c : MCh) : Bool :=
  if q.kind = 1 ∨ q.kind = 2 then inB q c || inA q c
  else if q.kind = 3 then inB q c != inA q c
  else if q.kind = 4 then msB q c != msA q c
  else if q.kind = 5 ∨ q.kind = 6 then inB q c != inA q c || msB q c != msA q c
  else inB q c || inA q c || decide (c.t = q.other)
/-- **A change touches a query.** -/
def touchB (q : MQ) (c : MCh) : Bool := validB q && vc c && touchK q c

/-- x put into a list ahead of the first thing that it precedes. -/
def insB {α : Type} (p : α → Bool) (x : α) (l : List α) : List α := l.take (l.findIdx p) ++ x :: l.drop (l.findIdx p)
theorem ins_mono {α : Type} {p : α → Bool} : ∀ {l : List α}, l.Pairwise (fun a b => p a = true → p b = true) → l.take (l.findIdx p) = l.filter (fun a => !p a) ∧ l.drop (l.findIdx p) = l.filter p
  | [], _ => by simp
  | a :: l, h => by
    obtain ⟨h1, h2⟩ := List.pairwise_cons.1 h
    by_cases ha : p a = true
    · have hall : ∀ b ∈ l, p b = true := fun b hb => h1 b hb ha
      have e1 : l.filter (fun a => !p a) = [] := List.filter_eq_nil_iff.2 fun b hb => by simp [hall b hb]
      have e2 : l.filter p = l := List.filter_eq_self.2 hall
      simp [List.findIdx_cons, ha, e1, e2]
    · have ha' : p a = false := by simpa using ha
      obtain ⟨i1, i2⟩ := ins_mono h2
      simp [List.findIdx_cons, ha', i1, i2]
theorem ins_eq {α : Type} {p : α → Bool} {x : α} {l : List α} (h : l.Pairwise (fun a b => p a = true → p b = true)) : insB p x l = l.filter (fun a => !p a) ++ x :: l.filter p := by
  unfold insB
  rw [(ins_mono h).1, (ins_mono h).2]
theorem ins_perm {α : Type} (p : α → Bool) (x : α) (l : List α) : (insB p x l).Perm (x :: l) := by
  unfold insB
  refine List.perm_middle.trans ?_
  rw [List.take_append_drop]

/-- The row x comes ahead of y in the scan. -/
def precQ (q : MQ) (x y : MRow) : Bool := decide (vget x q.column < vget y q.column ∨ vget x q.column = vget y q.column ∧ x.k < y.k)
def rowsP (q : MQ) (l : List MRow) (c : MCh) : List MRow :=
  if inA q c then insB (precQ q (aftR c)) (aftR c) (l.filter fun r => !atk c.t c.k r) else l.filter fun r => !atk c.t c.k r
def oldL (q : MQ) (c : MCh) : List MRow := if inB q c then [befR c] else []
def newL (q : MQ) (c : MCh) : List MRow := if inA q c then [aftR c] else []

theorem prec_mono {q : MQ} {x : MRow} {l : List MRow} (h : l.Pairwise (rle q.column)) : l.Pairwise (fun a b => precQ q x a = true → precQ q x b = true) :=
  h.imp fun {a b} hab => by
    unfold precQ
    unfold rle at hab
    simp only [decide_eq_true_eq]
    omega
theorem filter_look : ∀ {L : List MRow}, Srt L → ∀ t k : Int, L.filter (atk t k) = (look L t k).toList
  | [], _, _, _ => rfl
  | r :: L, h, t, k => by
    obtain ⟨h1, h2⟩ := List.pairwise_cons.1 h
    unfold look
    by_cases hr : atk t k r = true
    · rw [List.filter_cons_of_pos hr, List.find?_cons_of_pos hr]
      have : L.filter (atk t k) = [] := List.filter_eq_nil_iff.2 fun b hb hb' => by
        have := h1 b hb
        unfold atk at hr hb'
        unfold rlt at this
        simp at hr hb'
        omega
      rw [this]
      rfl
    · rw [List.filter_cons_of_neg hr, List.find?_cons_of_neg hr]
      exact filter_look h2 t k
theorem rowsP_perm (q : MQ) (l : List MRow) (c : MCh) : (rowsP q l c).Perm (newL q c ++ l.filter fun r => !atk c.t c.k r) := by
  unfold rowsP newL
  split
  · exact ins_perm _ _ _
  · exact List.Perm.refl _
theorem aft_has {c : MCh} (h : c.has = true) : aftR c = ⟨c.t, c.k, c.n⟩ := by unfold aftR; rw [if_pos h]
theorem bef_had {c : MCh} (h : c.had = true) : befR c = ⟨c.t, c.k, c.o⟩ := by unfold befR; rw [if_pos h]
theorem inA_has {q : MQ} {c : MCh} (h : inA q c = true) : c.has = true ∧ aftR c = ⟨c.t, c.k, c.n⟩ ∧ c.t = q.table ∧ selR q.table q.column q.low q.high ⟨c.t, c.k, c.n⟩ = true := by
  unfold inA inQ at h
  rw [Bool.and_eq_true] at h
  have e := aft_has h.1
  rw [e] at h
  refine ⟨h.1, e, ?_, h.2⟩
  have := h.2
  unfold selR at this
  simp at this
  exact this.1
theorem inB_had {q : MQ} {c : MCh} (h : inB q c = true) : c.had = true ∧ befR c = ⟨c.t, c.k, c.o⟩ ∧ c.t = q.table ∧ selR q.table q.column q.low q.high ⟨c.t, c.k, c.o⟩ = true := by
  unfold inB inQ at h
  rw [Bool.and_eq_true] at h
  have e := bef_had h.1
  rw [e] at h
  refine ⟨h.1, e, ?_, h.2⟩
  have := h.2
  unfold selR at this
  simp at this
  exact this.1
/-- The rows of the scan behind the change. -/
theorem sort_patch {L : List MRow} {c : MCh} {q : MQ} {M : List MRow} (hM : SortOf L (selR q.table q.column q.low q.high) q.column M) : SortOf (stepC L c) (selR q.table q.column q.low q.high) q.column (rowsP q M c) := by
  obtain ⟨hp, hs⟩ := hM
  have hF : (M.filter fun r => !atk c.t c.k r).Pairwise (rle q.column) := hs.filter _
  constructor
  · refine (rowsP_perm q M c).trans ?_
    refine List.Perm.trans ?_ ((perm_step L c).filter _).symm
    rw [List.filter_append]
    refine List.Perm.append ?_ ?_
    · unfold newL
      cases hh : c.has
      · have : inA q c = false := by unfold inA inQ; rw [hh]; rfl
        simp [this]
      · have ha := aft_has hh
        have hi : inA q c = selR q.table q.column q.low q.high ⟨c.t, c.k, c.n⟩ := by unfold inA inQ; rw [hh, ha]; rfl
        rw [hi, ha]
        cases hsel : selR q.table q.column q.low q.high ⟨c.t, c.k, c.n⟩ <;> simp [hsel]
    · refine (hp.filter _).trans ?_
      rw [List.filter_filter, List.filter_filter]
      have : (fun a => (!atk c.t c.k a) && selR q.table q.column q.low q.high a) = (fun a => selR q.table q.column q.low q.high a && !atk c.t c.k a) := by funext a; rw [Bool.and_comm]
      rw [this]
  · unfold rowsP
    split
    · rw [ins_eq (prec_mono hF)]
      refine List.pairwise_append.2 ⟨hF.filter _, List.pairwise_cons.2 ⟨fun b hb => ?_, hF.filter _⟩, fun a ha b hb => ?_⟩
      · have := (List.mem_filter.1 hb).2
        unfold precQ at this
        unfold rle
        simp only [decide_eq_true_eq] at this
        omega
      · have h1 := (List.mem_filter.1 ha).2
        unfold precQ at h1
        simp only [Bool.not_eq_true', decide_eq_false_iff_not] at h1
        rcases List.mem_cons.1 hb with rfl | hb
        · unfold rle
          omega
        · have h2 := (List.mem_filter.1 hb).2
          unfold precQ at h2
          simp only [decide_eq_true_eq] at h2
          unfold rle
          omega
    · exact hF
theorem old_split {L : List MRow} {c : MCh} {q : MQ} {M : List MRow} (hS : Srt L) (hf : fitC L c) (hM : SortOf L (selR q.table q.column q.low q.high) q.column M) : M.Perm (oldL q c ++ M.filter fun r => !atk c.t c.k r) := by
  have h1 := (List.filter_append_perm (atk c.t c.k) M).symm
  refine h1.trans (List.Perm.append ?_ (List.Perm.refl _))
  refine (hM.1.filter _).trans ?_
  have : (L.filter (selR q.table q.column q.low q.high)).filter (atk c.t c.k) = (L.filter (atk c.t c.k)).filter (selR q.table q.column q.low q.high) := by
    rw [List.filter_filter, List.filter_filter]
    congr 1
    funext a
    rw [Bool.and_comm]
  rw [this, filter_look hS, hf]
  unfold oldL
  cases hh : c.had
  · have : inB q c = false := by unfold inB inQ; rw [hh]; rfl
    simp [this]
  · have ha := bef_had hh
    have hi : inB q c = selR q.table q.column q.low q.high ⟨c.t, c.k, c.o⟩ := by unfold inB inQ; rw [hh, ha]; rfl
    rw [hi, ha]
    cases hsel : selR q.table q.column q.low q.high ⟨c.t, c.k, c.o⟩ <;> simp [hsel]
theorem rowsP_eq {L : List MRow} {c : MCh} {q : MQ} {M M' : List MRow} (hS : Srt L) (hM : SortOf L (selR q.table q.column q.low q.high) q.column M) (hM' : SortOf (stepC L c) (selR q.table q.column q.low q.high) q.column M') : M' = rowsP q M c :=
  sortOf_unique (t := q.table) (srt_step hS c) (fun r hr => by unfold selR at hr; simp at hr; exact hr.1) hM' (sort_patch hM)

def cntP (v : Int) (a b : Bool) : Int := if b then wrap64 ((if a then wrap64 (v + 1) else v) - 1) else if a then wrap64 (v + 1) else v
theorem cnt_true {L : List MRow} {c : MCh} {q : MQ} {M : List MRow} (hS : Srt L) (hf : fitC L c) (hM : SortOf L (selR q.table q.column q.low q.high) q.column M) (hl : M.length ≤ 40000) : cntP M.length (inA q c) (inB q c) = (rowsP q M c).length := by
  have h1 := (old_split hS hf hM).length_eq
  have h2 := (rowsP_perm q M c).length_eq
  rw [List.length_append] at h1 h2
  rw [h2]
  generalize (M.filter fun r => !atk c.t c.k r).length = z at *
  have e1 : (oldL q c).length = if inB q c then 1 else 0 := by unfold oldL; split <;> rfl
  have e2 : (newL q c).length = if inA q c then 1 else 0 := by unfold newL; split <;> rfl
  rw [e1] at h1
  rw [e2]
  clear e1 e2 h2 hM hf hS
  generalize M.length = m at *
  unfold cntP
  have w1 : wrap64 ((m : Int) + 1) = m + 1 := by unfold wrap64; omega
  have w2 : wrap64 ((m : Int) + 1 - 1) = m := by unfold wrap64; omega
  have w3 : 1 ≤ m → wrap64 ((m : Int) - 1) = m - 1 := fun h => by unfold wrap64; omega
  generalize inA q c = a at *
  generalize inB q c = b at *
  cases a <;> cases b <;> simp only [Bool.false_eq_true, ↓reduceIte] at h1 ⊢
  all_goals first
    | (rw [w1, w2]; omega)
    | (rw [w1]; omega)
    | (rw [w3 (by omega)]; omega)
    | omega
theorem perm_sum {l m : List Int} (h : l.Perm m) : l.sum = m.sum := by
  induction h with
  | nil => rfl
  | cons x _ ih => rw [List.sum_cons, List.sum_cons, ih]
  | swap x y l => rw [List.sum_cons, List.sum_cons, List.sum_cons, List.sum_cons]; omega
  | trans _ _ ih1 ih2 => exact ih1.trans ih2
theorem sum_list (l : List MRow) (y : Int) {M : List MRow} {F : List MRow} (h : M.Perm (l ++ F)) : sumM y M = wrap64 ((l.map fun r => vget r y).sum + (F.map fun r => vget r y).sum) := by
  rw [sum_wrap, ← List.sum_append, ← List.map_append]
  congr 1
  exact perm_sum (h.map _)
theorem sum_true {L : List MRow} {c : MCh} {q : MQ} {M : List MRow} (hS : Srt L) (hf : fitC L c) (hM : SortOf L (selR q.table q.column q.low q.high) q.column M) : wrap64 (sumM q.by_ M + wrap64 (msA q c - msB q c)) = sumM q.by_ (rowsP q M c) := by
  rw [sum_list _ _ (old_split hS hf hM), sum_list _ _ (rowsP_perm q M c), wrap_add, wrap_add2]
  generalize ((M.filter fun r => !atk c.t c.k r).map fun r => vget r q.by_).sum = z
  have e1 : ((oldL q c).map fun r => vget r q.by_).sum = msB q c := by
    unfold oldL msB msQ
    split <;> simp
  have e2 : ((newL q c).map fun r => vget r q.by_).sum = msA q c := by
    unfold newL msA msQ
    split <;> simp
  rw [e1, e2]
  congr 1
  omega
/-- A least (greatest) value behind a change: nothing if it is not told. -/
def extP (lt : Int → Int → Bool) (v : Int) (f a b : Bool) (ma mb : Int) : Option (Int × Bool) :=
  if b && (!f || !lt v mb) then (if !a || !f || lt v ma then none else some (ma, f))
  else if a && (!f || lt ma v) then some (ma, true) else some (v, f)
theorem low_at (y : Int) (M : List MRow) (h : 0 < M.length) : ∃ r ∈ M, vget r y = (extF ltB y M).1 := (ext_facts y M).2.2.2.2 h
theorem low_eq {y v : Int} {M : List MRow} (h1 : ∃ r ∈ M, vget r y = v) (h2 : ∀ r ∈ M, v ≤ vget r y) : extF ltB y M = (v, true) := by
  obtain ⟨r, hr, e⟩ := h1
  have hl : 0 < M.length := List.length_pos_of_mem hr
  obtain ⟨a1, a2, -, -, a5⟩ := ext_facts y M
  obtain ⟨s, hs, es⟩ := low_at y M hl
  refine Prod.ext ?_ ?_
  · have h3 := h2 s hs
    have h4 := (a1 r hr).1
    show (extF ltB y M).1 = v
    omega
  · show (extF ltB y M).2 = true
    rw [a2]
    exact decide_eq_true hl
theorem low_perm {y : Int} {M N : List MRow} (h : M.Perm N) : extF ltB y M = extF ltB y N := by
  by_cases hl : 0 < N.length
  · obtain ⟨a1, a2, -, -, a5⟩ := ext_facts y N
    obtain ⟨s, hs, es⟩ := low_at y N hl
    rw [low_eq (v := (extF ltB y N).1) ⟨s, h.mem_iff.2 hs, es⟩ (fun r hr => (a1 r (h.mem_iff.1 hr)).1)]
    refine Prod.ext rfl ?_
    show true = (extF ltB y N).2
    rw [a2]
    exact (decide_eq_true hl).symm
  · have hn : N = [] := List.length_eq_zero_iff.1 (by omega)
    subst hn
    rw [h.eq_nil]
/-- A list with something at its head, without it, with something else. -/
theorem low_patch {y : Int} {F : List MRow} {old new : MRow} {a b : Bool} {ma mb : Int} {s : Int × Bool} (hb : b = true → mb = vget old y) (ha : a = true → ma = vget new y)
    (h : extP ltB (extF ltB y ((if b then [old] else []) ++ F)).1 (extF ltB y ((if b then [old] else []) ++ F)).2 a b ma mb = some s) : extF ltB y ((if a then [new] else []) ++ F) = s := by
  obtain ⟨a1, a2, -, -, -⟩ := ext_facts y ((if b then [old] else []) ++ F)
  have a5 := low_at y ((if b then [old] else []) ++ F)
  generalize hE : extF ltB y ((if b then [old] else []) ++ F) = E at h a1 a2 a5
  obtain ⟨v, f⟩ := E
  simp only at h a1 a2 a5
  cases b
  · simp only [Bool.false_eq_true, if_false, List.nil_append] at a1 a2 a5 hE
    unfold extP at h
    rw [Bool.false_and, if_neg (by decide)] at h
    cases a
    · rw [Bool.false_and, if_neg (by decide)] at h
      simp only [Option.some.injEq] at h
      subst h
      exact hE
    · have ha' := ha rfl
      rw [Bool.true_and] at h
      simp only [if_true]
      by_cases hl : 0 < F.length
      · have hf : f = true := by rw [a2]; exact decide_eq_true hl
        subst hf
        obtain ⟨r, hr, er⟩ := a5 hl
        by_cases hm : ma < v
        · rw [if_pos (by simp [ltB, hm])] at h
          simp only [Option.some.injEq] at h
          subst h
          refine low_eq ⟨new, by simp, ha'.symm⟩ fun r hr => ?_
          rcases List.mem_append.1 hr with h | h
          · rw [List.mem_singleton.1 h]; omega
          · have := (a1 r h).1; omega
        · rw [if_neg (by simp [ltB, hm])] at h
          simp only [Option.some.injEq] at h
          subst h
          refine low_eq ⟨r, by simp [hr], er⟩ fun r hr => ?_
          rcases List.mem_append.1 hr with h | h
          · rw [List.mem_singleton.1 h]; omega
          · have := (a1 r h).1; omega
      · have hn : F = [] := List.length_eq_zero_iff.1 (by omega)
        subst hn
        have hf : f = false := by rw [a2]; rfl
        subst hf
        rw [if_pos (by simp)] at h
        simp only [Option.some.injEq] at h
        subst h
        refine low_eq ⟨new, by simp, ha'.symm⟩ fun r hr => ?_
        rw [List.append_nil] at hr
        rw [List.mem_singleton.1 hr]; omega
  · have hb' := hb rfl
    simp only [if_true] at a1 a2 a5 hE
    have hl : 0 < ([old] ++ F).length := by simp
    have hf : f = true := by rw [a2]; exact decide_eq_true hl
    subst hf
    have ho := (a1 old (by simp)).1
    obtain ⟨r, hr, er⟩ := a5 hl
    unfold extP at h
    rw [Bool.true_and] at h
    by_cases hv : v < mb
    · rw [if_neg (by simp [ltB, hv])] at h
      have hrF : r ∈ F := by
        rcases List.mem_append.1 hr with h | h
        · rw [List.mem_singleton.1 h] at er; omega
        · exact h
      cases a
      · rw [Bool.false_and, if_neg (by decide)] at h
        simp only [Option.some.injEq] at h
        subst h
        refine low_eq ⟨r, by simp [hrF], er⟩ fun r hr => ?_
        have := (a1 r (by simp only [Bool.false_eq_true, if_false, List.nil_append] at hr; simp [hr])).1
        omega
      · have ha' := ha rfl
        rw [Bool.true_and] at h
        simp only [if_true]
        by_cases hm : ma < v
        · rw [if_pos (by simp [ltB, hm])] at h
          simp only [Option.some.injEq] at h
          subst h
          refine low_eq ⟨new, by simp, ha'.symm⟩ fun r hr => ?_
          rcases List.mem_append.1 hr with h | h
          · rw [List.mem_singleton.1 h]; omega
          · have := (a1 r (by simp [h])).1; omega
        · rw [if_neg (by simp [ltB, hm])] at h
          simp only [Option.some.injEq] at h
          subst h
          refine low_eq ⟨r, by simp [hrF], er⟩ fun r hr => ?_
          rcases List.mem_append.1 hr with h | h
          · rw [List.mem_singleton.1 h]; omega
          · have := (a1 r (by simp [h])).1; omega
    · rw [if_pos (by simp [ltB, hv])] at h
      cases a
      · simp at h
      · have ha' := ha rfl
        by_cases hm : v < ma
        · rw [if_pos (by simp [ltB, hm])] at h
          simp at h
        · rw [if_neg (by simp [ltB, hm])] at h
          simp only [Option.some.injEq] at h
          subst h
          simp only [if_true]
          refine low_eq ⟨new, by simp, ha'.symm⟩ fun r hr => ?_
          rcases List.mem_append.1 hr with h | h
          · rw [List.mem_singleton.1 h]; omega
          · have := (a1 r (by simp [h])).1; omega
/-- .. and when it is not told. -/
theorem low_none {y : Int} {F : List MRow} {old : MRow} {a b : Bool} {ma mb : Int} (hb : b = true → mb = vget old y)
    (h : extP ltB (extF ltB y ((if b then [old] else []) ++ F)).1 (extF ltB y ((if b then [old] else []) ++ F)).2 a b ma mb = none) : b = true ∧ (extF ltB y ((if b then [old] else []) ++ F)) = (mb, true) ∧ (a = true → mb < ma) := by
  obtain ⟨a1, a2, -, -, -⟩ := ext_facts y ((if b then [old] else []) ++ F)
  generalize hE : extF ltB y ((if b then [old] else []) ++ F) = E at h a1 a2 ⊢
  obtain ⟨v, f⟩ := E
  simp only at h a1 a2
  cases b
  · unfold extP at h
    rw [Bool.false_and, if_neg (by decide)] at h
    split at h <;> cases h
  · have hb' := hb rfl
    simp only [if_true] at a1 a2 hE
    have hl : 0 < ([old] ++ F).length := by simp
    have hf : f = true := by rw [a2]; exact decide_eq_true hl
    subst hf
    have ho := (a1 old (by simp)).1
    unfold extP at h
    rw [Bool.true_and] at h
    by_cases hv : v < mb
    · rw [if_neg (by simp [ltB, hv])] at h
      split at h <;> cases h
    · rw [if_pos (by simp [ltB, hv])] at h
      have hvm : v = mb := by omega
      subst hvm
      refine ⟨rfl, rfl, fun ha => ?_⟩
      subst ha
      by_cases hm : v < ma
      · exact hm
      · rw [if_neg (by simp [ltB, hm])] at h
        cases h
theorem high_at (y : Int) (M : List MRow) (h : 0 < M.length) : ∃ r ∈ M, vget r y = (extF gtB y M).1 := high_mem y M h
theorem high_eq {y v : Int} {M : List MRow} (h1 : ∃ r ∈ M, vget r y = v) (h2 : ∀ r ∈ M, vget r y ≤ v) : extF gtB y M = (v, true) := by
  obtain ⟨r, hr, e⟩ := h1
  have hl : 0 < M.length := List.length_pos_of_mem hr
  obtain ⟨a1, -, a3, -, a5⟩ := ext_facts y M
  obtain ⟨s, hs, es⟩ := high_at y M hl
  refine Prod.ext ?_ ?_
  · have h3 := h2 s hs
    have h4 := (a1 r hr).2
    show (extF gtB y M).1 = v
    omega
  · show (extF gtB y M).2 = true
    rw [a3]
    exact decide_eq_true hl
theorem high_perm {y : Int} {M N : List MRow} (h : M.Perm N) : extF gtB y M = extF gtB y N := by
  by_cases hl : 0 < N.length
  · obtain ⟨a1, -, a3, -, a5⟩ := ext_facts y N
    obtain ⟨s, hs, es⟩ := high_at y N hl
    rw [high_eq (v := (extF gtB y N).1) ⟨s, h.mem_iff.2 hs, es⟩ (fun r hr => (a1 r (h.mem_iff.1 hr)).2)]
    refine Prod.ext rfl ?_
    show true = (extF gtB y N).2
    rw [a3]
    exact (decide_eq_true hl).symm
  · have hn : N = [] := List.length_eq_zero_iff.1 (by omega)
    subst hn
    rw [h.eq_nil]
/-- A list with something at its head, without it, with something else. -/
theorem high_patch {y : Int} {F : List MRow} {old new : MRow} {a b : Bool} {ma mb : Int} {s : Int × Bool} (hb : b = true → mb = vget old y) (ha : a = true → ma = vget new y)
    (h : extP gtB (extF gtB y ((if b then [old] else []) ++ F)).1 (extF gtB y ((if b then [old] else []) ++ F)).2 a b ma mb = some s) : extF gtB y ((if a then [new] else []) ++ F) = s := by
  obtain ⟨a1, -, a3, -, -⟩ := ext_facts y ((if b then [old] else []) ++ F)
  have a5 := high_at y ((if b then [old] else []) ++ F)
  generalize hE : extF gtB y ((if b then [old] else []) ++ F) = E at h a1 a3 a5
  obtain ⟨v, f⟩ := E
  simp only at h a1 a3 a5
  cases b
  · simp only [Bool.false_eq_true, if_false, List.nil_append] at a1 a3 a5 hE
    unfold extP at h
    rw [Bool.false_and, if_neg (by decide)] at h
    cases a
    · rw [Bool.false_and, if_neg (by decide)] at h
      simp only [Option.some.injEq] at h
      subst h
      exact hE
    · have ha' := ha rfl
      rw [Bool.true_and] at h
      simp only [if_true]
      by_cases hl : 0 < F.length
      · have hf : f = true := by rw [a3]; exact decide_eq_true hl
        subst hf
        obtain ⟨r, hr, er⟩ := a5 hl
        by_cases hm : v < ma
        · rw [if_pos (by simp [gtB, hm])] at h
          simp only [Option.some.injEq] at h
          subst h
          refine high_eq ⟨new, by simp, ha'.symm⟩ fun r hr => ?_
          rcases List.mem_append.1 hr with h | h
          · rw [List.mem_singleton.1 h]; omega
          · have := (a1 r h).2; omega
        · rw [if_neg (by simp [gtB, hm])] at h
          simp only [Option.some.injEq] at h
          subst h
          refine high_eq ⟨r, by simp [hr], er⟩ fun r hr => ?_
          rcases List.mem_append.1 hr with h | h
          · rw [List.mem_singleton.1 h]; omega
          · have := (a1 r h).2; omega
      · have hn : F = [] := List.length_eq_zero_iff.1 (by omega)
        subst hn
        have hf : f = false := by rw [a3]; rfl
        subst hf
        rw [if_pos (by simp)] at h
        simp only [Option.some.injEq] at h
        subst h
        refine high_eq ⟨new, by simp, ha'.symm⟩ fun r hr => ?_
        rw [List.append_nil] at hr
        rw [List.mem_singleton.1 hr]; omega
  · have hb' := hb rfl
    simp only [if_true] at a1 a3 a5 hE
    have hl : 0 < ([old] ++ F).length := by simp
    have hf : f = true := by rw [a3]; exact decide_eq_true hl
    subst hf
    have ho := (a1 old (by simp)).2
    obtain ⟨r, hr, er⟩ := a5 hl
    unfold extP at h
    rw [Bool.true_and] at h
    by_cases hv : mb < v
    · rw [if_neg (by simp [gtB, hv])] at h
      have hrF : r ∈ F := by
        rcases List.mem_append.1 hr with h | h
        · rw [List.mem_singleton.1 h] at er; omega
        · exact h
      cases a
      · rw [Bool.false_and, if_neg (by decide)] at h
        simp only [Option.some.injEq] at h
        subst h
        refine high_eq ⟨r, by simp [hrF], er⟩ fun r hr => ?_
        have := (a1 r (by simp only [Bool.false_eq_true, if_false, List.nil_append] at hr; simp [hr])).2
        omega
      · have ha' := ha rfl
        rw [Bool.true_and] at h
        simp only [if_true]
        by_cases hm : v < ma
        · rw [if_pos (by simp [gtB, hm])] at h
          simp only [Option.some.injEq] at h
          subst h
          refine high_eq ⟨new, by simp, ha'.symm⟩ fun r hr => ?_
          rcases List.mem_append.1 hr with h | h
          · rw [List.mem_singleton.1 h]; omega
          · have := (a1 r (by simp [h])).2; omega
        · rw [if_neg (by simp [gtB, hm])] at h
          simp only [Option.some.injEq] at h
          subst h
          refine high_eq ⟨r, by simp [hrF], er⟩ fun r hr => ?_
          rcases List.mem_append.1 hr with h | h
          · rw [List.mem_singleton.1 h]; omega
          · have := (a1 r (by simp [h])).2; omega
    · rw [if_pos (by simp [gtB, hv])] at h
      cases a
      · simp at h
      · have ha' := ha rfl
        by_cases hm : ma < v
        · rw [if_pos (by simp [gtB, hm])] at h
          simp at h
        · rw [if_neg (by simp [gtB, hm])] at h
          simp only [Option.some.injEq] at h
          subst h
          simp only [if_true]
          refine high_eq ⟨new, by simp, ha'.symm⟩ fun r hr => ?_
          rcases List.mem_append.1 hr with h | h
          · rw [List.mem_singleton.1 h]; omega
          · have := (a1 r (by simp [h])).2; omega
/-- .. and when it is not told. -/
theorem high_none {y : Int} {F : List MRow} {old : MRow} {a b : Bool} {ma mb : Int} (hb : b = true → mb = vget old y)
    (h : extP gtB (extF gtB y ((if b then [old] else []) ++ F)).1 (extF gtB y ((if b then [old] else []) ++ F)).2 a b ma mb = none) : b = true ∧ (extF gtB y ((if b then [old] else []) ++ F)) = (mb, true) ∧ (a = true → ma < mb) := by
  obtain ⟨a1, -, a3, -, -⟩ := ext_facts y ((if b then [old] else []) ++ F)
  generalize hE : extF gtB y ((if b then [old] else []) ++ F) = E at h a1 a3 ⊢
  obtain ⟨v, f⟩ := E
  simp only at h a1 a3
  cases b
  · unfold extP at h
    rw [Bool.false_and, if_neg (by decide)] at h
    split at h <;> cases h
  · have hb' := hb rfl
    simp only [if_true] at a1 a3 hE
    have hl : 0 < ([old] ++ F).length := by simp
    have hf : f = true := by rw [a3]; exact decide_eq_true hl
    subst hf
    have ho := (a1 old (by simp)).2
    unfold extP at h
    rw [Bool.true_and] at h
    by_cases hv : mb < v
    · rw [if_neg (by simp [gtB, hv])] at h
      split at h <;> cases h
    · rw [if_pos (by simp [gtB, hv])] at h
      have hvm : v = mb := by omega
      subst hvm
      refine ⟨rfl, rfl, fun ha => ?_⟩
      subst ha
      by_cases hm : ma < v
      · exact hm
      · rw [if_neg (by simp [gtB, hm])] at h
        cases h
/-- The pairs of which rows consist, without a single row at their end. -/
def prs : List MRow → List (MRow × MRow)
  | a :: b :: l => (a, b) :: prs l
  | _ => []
def unprs (l : List (MRow × MRow)) : List MRow := l.flatMap fun p => [p.1, p.2]
theorem prs_unprs : ∀ l : List (MRow × MRow), prs (unprs l) = l
  | [] => rfl
  | p :: l => by
    have := prs_unprs l
    unfold unprs at this ⊢
    simp [prs, this]
def joinF (L : List MRow) (o y : Int) (r : MRow) : Option (MRow × MRow) := (look L o (vget r y)).map fun p => (r, p)
theorem join_flat (L : List MRow) (o y : Int) : ∀ M : List MRow, M.flatMap (partR L o y) = unprs (M.filterMap (joinF L o y))
  | [] => rfl
  | r :: M => by
    have h := join_flat L o y M
    rw [List.flatMap_cons, h]
    unfold partR unprs
    cases hl : look L o (vget r y) with
    | none => rw [List.filterMap_cons_none (by unfold joinF; rw [hl]; rfl)]; simp
    | some p => rw [List.filterMap_cons_some (b := (r, p)) (by unfold joinF; rw [hl]; rfl)]; simp
def rightP (ps : List (MRow × MRow)) (c : MCh) : Option (List (MRow × MRow)) :=
  if c.had = false then none
  else if c.has = false then some (ps.filter fun p => !decide (p.2.k = c.k))
  else some (ps.map fun p => if p.2.k = c.k then (p.1, aftR c) else p)
def leftP (q : MQ) (ps : List (MRow × MRow)) (c : MCh) : Option (List (MRow × MRow)) :=
  if inA q c = false then some (ps.filter fun p => !decide (p.1.k = c.k))
  else match ps.find? (fun p => decide (p.2.k = msA q c)) with
    | none => if inB q c && decide (msB q c = msA q c) then some (ps.filter fun p => !decide (p.1.k = c.k)) else none
    | some m => some (insB (fun p => precQ q (aftR c) p.1) (aftR c, m.2) (ps.filter fun p => !decide (p.1.k = c.k)))
/-- **The result of a query behind a change that touches it: nothing if the one before does not tell it.** -/
def patchM (q : MQ) (r : MRes) (c : MCh) : Option MRes :=
  if q.kind = 1 ∨ q.kind = 2 then some ⟨rowsP q r.rows c, r.val, r.fnd⟩
  else if q.kind = 3 then some ⟨r.rows, cntP r.val (inA q c) (inB q c), r.fnd⟩
  else if q.kind = 4 then some ⟨r.rows, wrap64 (r.val + wrap64 (msA q c - msB q c)), r.fnd⟩
  else if q.kind = 5 then (extP ltB r.val r.fnd (inA q c) (inB q c) (msA q c) (msB q c)).map fun s => ⟨r.rows, s.1, s.2⟩
  else if q.kind = 6 then (extP gtB r.val r.fnd (inA q c) (inB q c) (msA q c) (msB q c)).map fun s => ⟨r.rows, s.1, s.2⟩
  else if q.table = q.other then none
  else (if c.t = q.other then rightP (prs r.rows) c else leftP q (prs r.rows) c).map fun ps => ⟨unprs ps, r.val, r.fnd⟩
theorem valid_kind {q : MQ} (hv : validB q = true) : 1 ≤ q.kind ∧ q.kind ≤ 7 := by
  unfold validB at hv
  rw [Bool.and_eq_true] at hv
  have h := hv.2
  by_cases h1 : q.kind = 1
  · omega
  rw [if_neg h1] at h
  by_cases h2 : q.kind = 2 ∨ q.kind = 3
  · omega
  rw [if_neg (by simpa using h2)] at h
  by_cases h3 : q.kind = 4 ∨ q.kind = 5 ∨ q.kind = 6
  · omega
  rw [if_neg (by simpa [or_assoc] using h3)] at h
  by_cases h4 : q.kind = 7
  · omega
  rw [if_neg h4] at h
  cases h
theorem filterMap_congr' {α β : Type} {f g : α → Option β} : ∀ {l : List α}, (∀ a ∈ l, f a = g a) → l.filterMap f = l.filterMap g
  | [], _ => rfl
  | a :: l, h => by rw [List.filterMap_cons, List.filterMap_cons, h a (by simp), filterMap_congr' fun b hb => h b (by simp [hb])]
theorem scan_row {L : List MRow} {q : MQ} {M : List MRow} (hM : SortOf L (selR q.table q.column q.low q.high) q.column M) {r : MRow} (hr : r ∈ M) : r ∈ L ∧ r.t = q.table := by
  have := List.mem_filter.1 (hM.1.mem_iff.1 hr)
  refine ⟨this.1, ?_⟩
  have := this.2
  unfold selR at this
  simp at this
  exact this.1
/-- The pairs of a join when the other table changes. -/
theorem right_true {L : List MRow} {c : MCh} {q : MQ} {M : List MRow} {ps : List (MRow × MRow)} (hS : Srt L) (hf : fitC L c) (hM : SortOf L (selR q.table q.column q.low q.high) q.column M) (ho : c.t = q.other)
    (h : rightP (M.filterMap (joinF L q.other q.by_)) c = some ps) : M.filterMap (joinF (stepC L c) q.other q.by_) = ps := by
  unfold rightP at h
  have hsame := look_step_same hS c
  cases hd : c.had
  · rw [if_pos hd] at h; cases h
  · rw [if_neg (by rw [hd]; decide)] at h
    have hold : look L q.other c.k = some ⟨c.t, c.k, c.o⟩ := by rw [← ho]; unfold fitC at hf; rw [hf, hd]; rfl
    cases hh : c.has
    · rw [if_pos hh] at h
      simp only [Option.some.injEq] at h
      subst h
      rw [hh, ho] at hsame
      rw [List.filter_filterMap]
      refine filterMap_congr' fun r hr => ?_
      unfold joinF
      by_cases hk : vget r q.by_ = c.k
      · rw [hk, hsame, hold]
        simp [Option.filter_some]
      · rw [look_step_other hS c (by omega)]
        cases hl : look L q.other (vget r q.by_) with
        | none => rfl
        | some p =>
          have := (look_some hS).1 hl
          simp [Option.filter_some, show ¬ p.k = c.k by omega]
    · rw [if_neg (by rw [hh]; decide)] at h
      simp only [Option.some.injEq] at h
      subst h
      rw [hh, ho] at hsame
      rw [List.map_filterMap]
      refine filterMap_congr' fun r hr => ?_
      unfold joinF
      by_cases hk : vget r q.by_ = c.k
      · rw [hk, hsame, hold]
        simp [aft_has hh, ho]
      · rw [look_step_other hS c (by omega)]
        cases hl : look L q.other (vget r q.by_) with
        | none => rfl
        | some p =>
          have := (look_some hS).1 hl
          simp [show ¬ p.k = c.k by omega]
theorem join_left {L : List MRow} (hS : Srt L) {o y : Int} {M : List MRow} {p : MRow × MRow} (h : p ∈ M.filterMap (joinF L o y)) : p.1 ∈ M ∧ look L o (vget p.1 y) = some p.2 ∧ p.2.k = vget p.1 y := by
  obtain ⟨r, hr, e⟩ := List.mem_filterMap.1 h
  unfold joinF at e
  cases hl : look L o (vget r y) with
  | none => rw [hl] at e; cases e
  | some x =>
    rw [hl] at e
    simp only [Option.map_some, Option.some.injEq] at e
    subst e
    exact ⟨hr, hl, ((look_some hS).1 hl).2.2⟩
theorem join_pair {L : List MRow} {q : MQ} {M : List MRow} (hM : M.Pairwise (rle q.column)) (o y : Int) : (M.filterMap (joinF L o y)).Pairwise (fun a b => rle q.column a.1 b.1) := by
  rw [List.pairwise_filterMap]
  refine hM.imp fun {a b} hab x hx z hz => ?_
  unfold joinF at hx hz
  cases ha : look L o (vget a y) with
  | none => rw [ha] at hx; cases hx
  | some p =>
    rw [ha] at hx
    cases hb : look L o (vget b y) with
    | none => rw [hb] at hz; cases hz
    | some p' =>
      rw [hb] at hz
      simp only [Option.map_some, Option.some.injEq] at hx hz
      subst hx hz
      exact hab
/-- .. when the table of the scan changes. -/
theorem left_true {L : List MRow} {c : MCh} {q : MQ} {M : List MRow} {ps : List (MRow × MRow)} (hS : Srt L) (hf : fitC L c) (hM : SortOf L (selR q.table q.column q.low q.high) q.column M) (ho : ¬ c.t = q.other) (ht : c.t = q.table)
    (h : leftP q (M.filterMap (joinF L q.other q.by_)) c = some ps) : (rowsP q M c).filterMap (joinF (stepC L c) q.other q.by_) = ps := by
  have hjoin : joinF (stepC L c) q.other q.by_ = joinF L q.other q.by_ := by
    funext r
    unfold joinF
    rw [look_step_other hS c (by omega)]
  rw [hjoin]
  have hothers : (M.filterMap (joinF L q.other q.by_)).filter (fun p => !decide (p.1.k = c.k)) = (M.filter fun r => !atk c.t c.k r).filterMap (joinF L q.other q.by_) := by
    rw [List.filter_filterMap, List.filterMap_filter]
    refine filterMap_congr' fun r hr => ?_
    have hrt := (scan_row hM hr).2
    have : atk c.t c.k r = decide (r.k = c.k) := by unfold atk; simp [hrt, ht]
    rw [this]
    unfold joinF
    cases hl : look L q.other (vget r q.by_) with
    | none => simp
    | some p =>
      by_cases hk : r.k = c.k <;> simp [Option.filter_some, hk]
  unfold leftP at h
  rw [hothers] at h
  unfold rowsP
  cases hA : inA q c
  · rw [if_pos hA] at h
    simp only [Option.some.injEq] at h
    rw [if_neg (by decide)]
    exact h
  · rw [if_neg (by rw [hA]; decide)] at h
    rw [if_pos rfl]
    obtain ⟨a1, a2, a3, a4⟩ := inA_has hA
    have hmsA : msA q c = vget (aftR c) q.by_ := by unfold msA msQ; rw [hA]; rfl
    have hF : (M.filter fun r => !atk c.t c.k r).Pairwise (rle q.column) := hM.2.filter _
    rw [ins_eq (prec_mono hF), List.filterMap_append]
    cases hfd : (M.filterMap (joinF L q.other q.by_)).find? (fun p => decide (p.2.k = msA q c)) with
    | none =>
      rw [hfd] at h
      simp only at h
      by_cases hb : (inB q c && decide (msB q c = msA q c)) = true
      · rw [if_pos hb] at h
        simp only [Option.some.injEq] at h
        rw [Bool.and_eq_true, decide_eq_true_eq] at hb
        obtain ⟨b1, b2, b3, b4⟩ := inB_had hb.1
        have hmsB : msB q c = vget (befR c) q.by_ := by unfold msB msQ; rw [hb.1]; rfl
        have hnone : look L q.other (vget (aftR c) q.by_) = none := by
          cases hl : look L q.other (vget (aftR c) q.by_) with
          | none => rfl
          | some p =>
            have hold : befR c ∈ M := by
              refine hM.1.mem_iff.2 (List.mem_filter.2 ⟨?_, ?_⟩)
              · have := hf
                unfold fitC at this
                rw [b1] at this
                simp only [if_true] at this
                rw [b2]
                exact ((look_some hS).1 this).1
              · rw [b2]; exact b4
            have hmem : (befR c, p) ∈ M.filterMap (joinF L q.other q.by_) := by
              refine List.mem_filterMap.2 ⟨_, hold, ?_⟩
              unfold joinF
              rw [show vget (befR c) q.by_ = vget (aftR c) q.by_ by omega, hl]
              rfl
            have := List.find?_eq_none.1 hfd _ hmem
            have hpk := ((look_some hS).1 hl).2.2
            simp only [decide_eq_true_eq] at this
            omega
        rw [List.filterMap_cons_none (by unfold joinF; rw [hnone]; rfl), ← List.filterMap_append, ← h]
        have e1 := ins_mono (prec_mono (q := q) (x := aftR c) hF)
        rw [← e1.1, ← e1.2, List.take_append_drop]
      · rw [if_neg hb] at h; cases h
    | some m =>
      rw [hfd] at h
      simp only [Option.some.injEq] at h
      have hm := List.find?_some hfd
      have hmem := List.mem_of_find?_eq_some hfd
      simp only [decide_eq_true_eq] at hm
      obtain ⟨c1, c2, c3⟩ := join_left hS hmem
      have hl : look L q.other (vget (aftR c) q.by_) = some m.2 := by
        rw [← hmsA, ← hm, c3]; exact c2
      rw [List.filterMap_cons_some (b := (aftR c, m.2)) (by unfold joinF; rw [hl]; rfl), ← h]
      have hmono : ((M.filter fun r => !atk c.t c.k r).filterMap (joinF L q.other q.by_)).Pairwise (fun a b => (fun p : MRow × MRow => precQ q (aftR c) p.1) a = true → (fun p : MRow × MRow => precQ q (aftR c) p.1) b = true) :=
        (join_pair hF _ _).imp fun {a b} hab => by
          unfold precQ
          unfold rle at hab
          simp only [decide_eq_true_eq]
          omega
      rw [ins_eq hmono]
      congr 1
      · rw [List.filter_filterMap, List.filterMap_filter]
        refine filterMap_congr' fun r hr => ?_
        unfold joinF
        cases look L q.other (vget r q.by_) with
        | none => simp
        | some p => cases hp : precQ q (aftR c) r <;> simp [Option.filter_some, hp]
      · congr 1
        rw [List.filter_filterMap, List.filterMap_filter]
        refine filterMap_congr' fun r hr => ?_
        unfold joinF
        cases look L q.other (vget r q.by_) with
        | none => simp
        | some p => cases hp : precQ q (aftR c) r <;> simp [Option.filter_some, hp]
theorem rowsP_none {L : List MRow} {c : MCh} {q : MQ} {M : List MRow} (hS : Srt L) (hf : fitC L c) (hM : SortOf L (selR q.table q.column q.low q.high) q.column M) (h1 : inB q c = false) (h2 : inA q c = false) : rowsP q M c = M := by
  unfold rowsP
  rw [if_neg (by rw [h2]; decide)]
  have hp := old_split hS hf hM
  unfold oldL at hp
  rw [if_neg (by rw [h1]; decide), List.nil_append] at hp
  exact List.Sublist.eq_of_length List.filter_sublist hp.length_eq.symm
theorem oldM {q : MQ} {c : MCh} : inB q c = true → msB q c = vget (befR c) q.by_ := fun h => by unfold msB msQ; rw [h]; rfl
theorem newM {q : MQ} {c : MCh} : inA q c = true → msA q c = vget (aftR c) q.by_ := fun h => by unfold msA msQ; rw [h]; rfl
theorem join_res {q : MQ} (hv : validB q = true) (hk : q.kind = 7) (L M : List MRow) : resM q M (L.filter (selT q.other)) = ⟨unprs (M.filterMap (joinF L q.other q.by_)), 0, false⟩ := by
  rw [pairs_rows hv hk, join_flat]
/-- **What is patched is the new result.** -/
theorem patch_true {L : List MRow} {c : MCh} {q : MQ} {M M' : List MRow} {r : MRes} (hS : Srt L) (hf : fitC L c) (ht : touchB q c = true) (hl : M.length ≤ 40000)
    (hM : SortOf L (selR q.table q.column q.low q.high) q.column M) (hM' : SortOf (stepC L c) (selR q.table q.column q.low q.high) q.column M')
    (hp : patchM q (resM q M (L.filter (selT q.other))) c = some r) : resM q M' ((stepC L c).filter (selT q.other)) = r := by
  have e := rowsP_eq hS hM hM'
  subst e
  unfold touchB at ht
  rw [Bool.and_eq_true, Bool.and_eq_true] at ht
  obtain ⟨⟨hv, hc⟩, hk⟩ := ht
  have hkd := valid_kind hv
  unfold patchM at hp
  by_cases k12 : q.kind = 1 ∨ q.kind = 2
  · rw [if_pos k12] at hp
    simp only [Option.some.injEq] at hp
    subst hp
    rcases k12 with k | k
    · rw [res1 hv k, res1 hv k]
    · rw [res2 hv k, res2 hv k]
  rw [if_neg k12] at hp
  by_cases k3 : q.kind = 3
  · rw [if_pos k3] at hp
    simp only [Option.some.injEq] at hp
    subst hp
    rw [res3 hv k3, res3 hv k3]
    simp only
    rw [cnt_true hS hf hM hl]
  rw [if_neg k3] at hp
  by_cases k4 : q.kind = 4
  · rw [if_pos k4] at hp
    simp only [Option.some.injEq] at hp
    subst hp
    rw [res4 hv k4, res4 hv k4]
    simp only
    rw [sum_true hS hf hM]
  rw [if_neg k4] at hp
  by_cases k5 : q.kind = 5
  · rw [if_pos k5, res5 hv k5] at hp
    simp only at hp
    rw [low_perm (old_split hS hf hM)] at hp
    obtain ⟨s, hs, e⟩ := Option.map_eq_some_iff.1 hp
    subst e
    rw [res5 hv k5, low_perm (rowsP_perm q M c)]
    have := low_patch (old := befR c) (new := aftR c) oldM newM hs
    unfold newL
    rw [this]
  rw [if_neg k5] at hp
  by_cases k6 : q.kind = 6
  · rw [if_pos k6, res6 hv k6] at hp
    simp only at hp
    rw [high_perm (old_split hS hf hM)] at hp
    obtain ⟨s, hs, e⟩ := Option.map_eq_some_iff.1 hp
    subst e
    rw [res6 hv k6, high_perm (rowsP_perm q M c)]
    have := high_patch (old := befR c) (new := aftR c) oldM newM hs
    unfold newL
    rw [this]
  rw [if_neg k6] at hp
  have k7 : q.kind = 7 := by omega
  by_cases hto : q.table = q.other
  · rw [if_pos hto] at hp; cases hp
  rw [if_neg hto, join_res hv k7] at hp
  simp only [prs_unprs] at hp
  rw [join_res hv k7]
  obtain ⟨ps, hps, e⟩ := Option.map_eq_some_iff.1 hp
  subst e
  by_cases ho : c.t = q.other
  · rw [if_pos ho] at hps
    have hB : inB q c = false := by
      cases h : inB q c
      · rfl
      · have := (inB_had h).2.2.1; omega
    have hA : inA q c = false := by
      cases h : inA q c
      · rfl
      · have := (inA_has h).2.2.1; omega
    rw [rowsP_none hS hf hM hB hA, right_true hS hf hM ho hps]
  · rw [if_neg ho] at hps
    have htb : c.t = q.table := by
      unfold touchK at hk
      rw [if_neg k12, if_neg k3, if_neg k4, if_neg (by omega)] at hk
      simp only [Bool.or_eq_true, decide_eq_true_eq] at hk
      rcases hk with (h | h) | h
      · exact (inB_had h).2.2.1
      · exact (inA_has h).2.2.1
      · exact absurd h ho
    rw [left_true hS hf hM ho htb hps]
/-- **What a change does not touch stays.** -/
theorem untouched {L : List MRow} {c : MCh} {q : MQ} {M M' : List MRow} (hS : Srt L) (hf : fitC L c) (hv : validB q = true) (hc : vc c = true) (ht : touchB q c = false) (hl : M.length ≤ 40000)
    (hM : SortOf L (selR q.table q.column q.low q.high) q.column M) (hM' : SortOf (stepC L c) (selR q.table q.column q.low q.high) q.column M') :
    resM q M' ((stepC L c).filter (selT q.other)) = resM q M (L.filter (selT q.other)) := by
  have e := rowsP_eq hS hM hM'
  subst e
  unfold touchB at ht
  rw [hv, hc, Bool.true_and, Bool.true_and] at ht
  unfold touchK at ht
  have hkd := valid_kind hv
  by_cases k12 : q.kind = 1 ∨ q.kind = 2
  · rw [if_pos k12, Bool.or_eq_false_iff] at ht
    rw [rowsP_none hS hf hM ht.1 ht.2]
    rcases k12 with k | k
    · rw [res1 hv k, res1 hv k]
    · rw [res2 hv k, res2 hv k]
  rw [if_neg k12] at ht
  by_cases k3 : q.kind = 3
  · rw [if_pos k3] at ht
    rw [res3 hv k3, res3 hv k3, ← cnt_true hS hf hM hl]
    have : inB q c = inA q c := by simpa using ht
    rw [this]
    unfold cntP
    have e : wrap64 ((M.length : Int) + 1) = M.length + 1 := by unfold wrap64; omega
    have e2 : wrap64 ((M.length : Int) + 1 - 1) = M.length := by unfold wrap64; omega
    cases inA q c
    · rfl
    · simp only [if_true]
      rw [e, e2]
  rw [if_neg k3] at ht
  by_cases k4 : q.kind = 4
  · rw [if_pos k4] at ht
    rw [res4 hv k4, res4 hv k4, ← sum_true hS hf hM]
    have : msB q c = msA q c := by simpa using ht
    rw [this, Int.sub_self]
    have e : wrap64 (sumM q.by_ M + wrap64 0) = sumM q.by_ M := by rw [sum_wrap, wrap_add, wrap_add2, Int.add_zero]
    rw [e]
  rw [if_neg k4] at ht
  by_cases k56 : q.kind = 5 ∨ q.kind = 6
  · rw [if_pos k56, Bool.or_eq_false_iff] at ht
    have hb : inB q c = inA q c := by simpa using ht.1
    have hm : msB q c = msA q c := by simpa using ht.2
    have p1 := old_split hS hf hM
    have p2 := rowsP_perm q M c
    unfold oldL at p1
    unfold newL at p2
    generalize (M.filter fun r => !atk c.t c.k r) = F at p1 p2
    rcases k56 with k | k
    · rw [res5 hv k, res5 hv k, low_perm p1, low_perm p2]
      cases hi : inA q c
      · rw [hb, hi]; rfl
      · rw [hb, hi]
        simp only [if_true]
        have e1 := oldM (hb.trans hi)
        have e2 := newM hi
        unfold extF
        simp only [List.singleton_append, List.foldl_cons]
        have : extS ltB q.by_ (0, false) (aftR c) = extS ltB q.by_ (0, false) (befR c) := by unfold extS; simp; omega
        rw [this]
    · rw [res6 hv k, res6 hv k, high_perm p1, high_perm p2]
      cases hi : inA q c
      · rw [hb, hi]; rfl
      · rw [hb, hi]
        simp only [if_true]
        have e1 := oldM (hb.trans hi)
        have e2 := newM hi
        unfold extF
        simp only [List.singleton_append, List.foldl_cons]
        have : extS gtB q.by_ (0, false) (aftR c) = extS gtB q.by_ (0, false) (befR c) := by unfold extS; simp; omega
        rw [this]
  rw [if_neg k56] at ht
  have k7 : q.kind = 7 := by omega
  rw [Bool.or_eq_false_iff, Bool.or_eq_false_iff, decide_eq_false_iff_not] at ht
  rw [rowsP_none hS hf hM ht.1.1 ht.1.2, join_res hv k7, join_res hv k7]
  have hjoin : joinF (stepC L c) q.other q.by_ = joinF L q.other q.by_ := by
    funext r
    unfold joinF
    rw [look_step_other hS c (by omega)]
  rw [hjoin]
/-- One change more: the result, as long as it is told, and whether a change has touched. -/
def applyF (q : MQ) (s : Option MRes × Bool) (c : MCh) : Option MRes × Bool :=
  match s.1 with
  | none => s
  | some r => if touchB q c then (patchM q r c, true) else s
/-- **What Apply makes of a result by the changes of a record, and whether one touches.** -/
def applyM (q : MQ) (r : MRes) (cs : List MCh) : Option MRes × Bool := cs.foldl (applyF q) (some r, false)
theorem applyF_none (q : MQ) (t : Bool) : ∀ cs : List MCh, cs.foldl (applyF q) (none, t) = (none, t)
  | [] => rfl
  | c :: cs => by rw [List.foldl_cons]; exact applyF_none q t cs
theorem applyF_touch (q : MQ) : ∀ (cs : List MCh) (r : MRes) (t : Bool), (cs.foldl (applyF q) (some r, t)).2 = (t || cs.any (touchB q))
  | [], r, t => by simp
  | c :: cs, r, t => by
    rw [List.foldl_cons, List.any_cons]
    unfold applyF
    simp only
    by_cases h : touchB q c = true
    · rw [if_pos h, h]
      cases hp : patchM q r c with
      | none =>
        have := applyF_none q true cs
        unfold applyF at this
        rw [this]
        simp
      | some s =>
        have := applyF_touch q cs s true
        unfold applyF at this
        rw [this]
        simp
    · rw [if_neg h, show touchB q c = false by simpa using h]
      have := applyF_touch q cs r t
      unfold applyF at this
      rw [this]
      simp
theorem apply_touch (q : MQ) (r : MRes) (cs : List MCh) : (applyM q r cs).2 = cs.any (touchB q) := by
  unfold applyM
  rw [applyF_touch]
  simp
theorem applyF_same (q : MQ) : ∀ (cs : List MCh) (r : MRes) (t : Bool), (∀ c ∈ cs, touchB q c = false) → cs.foldl (applyF q) (some r, t) = (some r, t)
  | [], r, t, _ => rfl
  | c :: cs, r, t, h => by
    rw [List.foldl_cons]
    have h1 : applyF q (some r, t) c = (some r, t) := by unfold applyF; simp [h c (by simp)]
    rw [h1]
    exact applyF_same q cs r t fun d hd => h d (by simp [hd])
theorem apply_same {q : MQ} {r : MRes} {cs : List MCh} (h : cs.any (touchB q) = false) : applyM q r cs = (some r, false) :=
  applyF_same q cs r false fun c hc => by
    cases ht : touchB q c
    · rfl
    · rw [List.any_eq_true.2 ⟨c, hc, ht⟩] at h; cases h
theorem scan_len {L : List MRow} {sel : MRow → Bool} {col : Int} {M : List MRow} (hM : SortOf L sel col M) : M.length ≤ L.length := by
  rw [hM.1.length_eq]
  exact List.length_filter_le _ _
theorem step_len (L : List MRow) (c : MCh) : (stepC L c).length ≤ L.length + 1 := by
  rw [(perm_step L c).length_eq, List.length_append]
  have := List.length_filter_le (fun r => !atk c.t c.k r) L
  split <;> simp <;> omega
theorem applyF_true (q : MQ) (hv : validB q = true) : ∀ (cs : List MCh) (L M : List MRow) (t : Bool) (r : MRes), Srt L → Apart cs → Fits L cs → (∀ c ∈ cs, VCh c) → L.length + cs.length ≤ 40000 →
    SortOf L (selR q.table q.column q.low q.high) q.column M → (cs.foldl (applyF q) (some (resM q M (L.filter (selT q.other))), t)).1 = some r →
    ∃ M', SortOf (stepAll L cs) (selR q.table q.column q.low q.high) q.column M' ∧ r = resM q M' ((stepAll L cs).filter (selT q.other))
  | [], L, M, t, r, _, _, _, _, _, hM, h => ⟨M, hM, (Option.some.inj h).symm⟩
  | c :: cs, L, M, t, r, hS, ha, hf, hc, hl, hM, h => by
    rw [List.foldl_cons] at h
    rw [List.length_cons] at hl
    have hlM : M.length ≤ 40000 := by have := scan_len hM; omega
    have hM1 := sort_patch (c := c) hM
    have hS1 := srt_step hS c
    have hf1 := fits_step hS ha hf
    have ha1 := (List.pairwise_cons.1 ha).2
    have hl1 : (stepC L c).length + cs.length ≤ 40000 := by have := step_len L c; omega
    have hfc := hf c (by simp)
    have hvc : vc c = true := decide_eq_true (hc c (by simp))
    rw [stepAll_cons]
    by_cases ht : touchB q c = true
    · have e : applyF q (some (resM q M (L.filter (selT q.other))), t) c = (patchM q (resM q M (L.filter (selT q.other))) c, true) := by unfold applyF; simp [ht]
      rw [e] at h
      cases hp : patchM q (resM q M (L.filter (selT q.other))) c with
      | none => rw [hp, applyF_none] at h; cases h
      | some s =>
        rw [hp, ← patch_true hS hfc ht hlM hM hM1 hp] at h
        exact applyF_true q hv cs _ _ _ r hS1 ha1 hf1 (fun d hd => hc d (by simp [hd])) hl1 hM1 h
    · have e : applyF q (some (resM q M (L.filter (selT q.other))), t) c = (some (resM q M (L.filter (selT q.other))), t) := by unfold applyF; simp [ht]
      rw [e, ← untouched hS hfc hv hvc (by simpa using ht) hlM hM hM1] at h
      exact applyF_true q hv cs _ _ _ r hS1 ha1 hf1 (fun d hd => hc d (by simp [hd])) hl1 hM1 h
/-- **What Apply tells is the result behind the record.** -/
theorem apply_true {q : MQ} (hv : validB q = true) {cs : List MCh} {L M M' : List MRow} {r : MRes} (hS : Srt L) (ha : Apart cs) (hf : Fits L cs) (hc : ∀ c ∈ cs, VCh c) (hl : L.length + cs.length ≤ 40000)
    (hM : SortOf L (selR q.table q.column q.low q.high) q.column M) (hM' : SortOf (stepAll L cs) (selR q.table q.column q.low q.high) q.column M') (h : (applyM q (resM q M (L.filter (selT q.other))) cs).1 = some r) :
    resM q M' ((stepAll L cs).filter (selT q.other)) = r := by
  obtain ⟨M2, h2, e⟩ := applyF_true q hv cs L M false r hS ha hf hc hl hM h
  rw [e, sortOf_unique (t := q.table) (srt_all hS cs) (fun r hr => by unfold selR at hr; simp at hr; exact hr.1) hM' h2]
/-- **What no change of a record touches stays.** -/
theorem untouched_all {q : MQ} (hv : validB q = true) {cs : List MCh} {L M M' : List MRow} (hS : Srt L) (ha : Apart cs) (hf : Fits L cs) (hc : ∀ c ∈ cs, VCh c) (hl : L.length + cs.length ≤ 40000)
    (hM : SortOf L (selR q.table q.column q.low q.high) q.column M) (hM' : SortOf (stepAll L cs) (selR q.table q.column q.low q.high) q.column M') (ht : cs.any (touchB q) = false) :
    resM q M' ((stepAll L cs).filter (selT q.other)) = resM q M (L.filter (selT q.other)) :=
  apply_true hv hS ha hf hc hl hM hM' (by rw [apply_same ht])
/-- When a change leaves a least or greatest value untold. -/
theorem none_ext {L : List MRow} {c : MCh} {q : MQ} {M : List MRow} (hS : Srt L) (hv : validB q = true) (hf : fitC L c) (hM : SortOf L (selR q.table q.column q.low q.high) q.column M)
    (hp : patchM q (resM q M (L.filter (selT q.other))) c = none) (hk : ¬ q.kind = 7) : (q.kind = 5 ∨ q.kind = 6) ∧ inB q c = true ∧ resM q M (L.filter (selT q.other)) = ⟨[], msB q c, true⟩ ∧ (inA q c = true → (q.kind = 5 → msB q c < msA q c) ∧ (q.kind = 6 → msA q c < msB q c)) := by
  have hkd := valid_kind hv
  unfold patchM at hp
  by_cases k12 : q.kind = 1 ∨ q.kind = 2
  · rw [if_pos k12] at hp; cases hp
  rw [if_neg k12] at hp
  by_cases k3 : q.kind = 3
  · rw [if_pos k3] at hp; cases hp
  rw [if_neg k3] at hp
  by_cases k4 : q.kind = 4
  · rw [if_pos k4] at hp; cases hp
  rw [if_neg k4] at hp
  by_cases k5 : q.kind = 5
  · rw [if_pos k5, res5 hv k5] at hp
    simp only at hp
    rw [low_perm (old_split hS hf hM)] at hp
    have h := low_none (old := befR c) oldM (Option.map_eq_none_iff.1 hp)
    rw [res5 hv k5, low_perm (old_split hS hf hM)]
    unfold oldL
    rw [h.2.1]
    exact ⟨.inl k5, h.1, rfl, fun ha => ⟨fun _ => h.2.2 ha, fun k6 => by omega⟩⟩
  rw [if_neg k5] at hp
  have k6 : q.kind = 6 := by omega
  rw [if_pos k6, res6 hv k6] at hp
  simp only at hp
  rw [high_perm (old_split hS hf hM)] at hp
  have h := high_none (old := befR c) oldM (Option.map_eq_none_iff.1 hp)
  rw [res6 hv k6, high_perm (old_split hS hf hM)]
  unfold oldL
  rw [h.2.1]
  exact ⟨.inr k6, h.1, rfl, fun ha => ⟨fun k5 => by omega, fun _ => h.2.2 ha⟩⟩
end Go.Proofs.YtgbnjjgnihjfgaaGreat

