/- PLAIN, AND SMALL LAWS: the records that integers determine; lists of integers and records in memory. -/
import Derived.Test.YtpapfegbodolgaaDoorS2b
set_option linter.unusedVariables false
set_option linter.unusedSimpArgs false
namespace Go.Proofs.YtpapfegbodolgaaDoor
open Go.RowKit Go.Sort

def lastCh (cs : List MCh) : MCh := cs.getD (cs.length - 1) chZ
def AfterCh (cs : List MCh) (c : MCh) : Prop := cs.length = 0 ∨ (lastCh cs).t < c.t ∨ ((lastCh cs).t = c.t ∧ (lastCh cs).k < c.k)
instance (cs : List MCh) (c : MCh) : Decidable (AfterCh cs c) := by unfold AfterCh; infer_instance
def addCh (cs : List MCh) (c : MCh) : List MCh := if AfterCh cs c then cs ++ [c] else cs
def rowTo (l : List Int) : Nat → List MCh
  | 0 => []
  | k + 1 => addCh (rowTo l k) (chg (l.getD k 0))
def rowChs (l : List Int) : List MCh := rowTo l (min l.length 6)
def addRec (out : List MRec) (l : List Int) : List MRec := if VRec (out.length + 1) (rowChs l) then out ++ [⟨out.length + 1, rowChs l⟩] else out
def recsTo (X : List (List Int)) : Nat → List MRec
  | 0 => []
  | k + 1 => addRec (recsTo X k) (X.getD k [])
def recsOf (X : List (List Int)) : List MRec := recsTo X (min X.length 12)
theorem rowTo_len (l : List Int) : ∀ k, (rowTo l k).length ≤ k
  | 0 => Nat.le_refl _
  | k + 1 => by
    have := rowTo_len l k
    unfold rowTo addCh
    split
    · rw [List.length_append]; simp; omega
    · omega
theorem recsTo_len (X : List (List Int)) : ∀ k, (recsTo X k).length ≤ k
  | 0 => Nat.le_refl _
  | k + 1 => by
    have := recsTo_len X k
    unfold recsTo addRec
    split
    · rw [List.length_append]; simp; omega
    · omega
theorem recsOf_len (X : List (List Int)) : (recsOf X).length ≤ 12 := by have := recsTo_len X (min X.length 12); unfold recsOf; omega
/-- Each of the records is valid, and stands at its position. -/
theorem recsTo_ok (X : List (List Int)) : ∀ k i, i < (recsTo X k).length → VRec ((recsTo X k).getD i recZ).pos ((recsTo X k).getD i recZ).chs ∧ ((recsTo X k).getD i recZ).pos = i + 1
  | 0, i, h => by simp [recsTo] at h
  | k + 1, i, h => by
    unfold recsTo addRec at h ⊢
    split
    · rename_i hv
      rw [if_pos hv, List.length_append] at h
      simp only [List.length_cons, List.length_nil] at h
      by_cases hi : i < (recsTo X k).length
      · rw [show (recsTo X k ++ [(⟨(recsTo X k).length + 1, rowChs (X.getD k [])⟩ : MRec)]).getD i recZ = (recsTo X k).getD i recZ by simp only [List.getD_eq_getElem?_getD]; rw [List.getElem?_append_left hi]]
        exact recsTo_ok X k i hi
      · obtain rfl : i = (recsTo X k).length := by omega
        rw [show (recsTo X k ++ [(⟨(recsTo X k).length + 1, rowChs (X.getD k [])⟩ : MRec)]).getD (recsTo X k).length recZ = ⟨(recsTo X k).length + 1, rowChs (X.getD k [])⟩ by simp only [List.getD_eq_getElem?_getD]; rw [List.getElem?_append_right (Nat.le_refl _)]; simp]
        exact ⟨hv, rfl⟩
    · rename_i hv
      rw [if_neg hv] at h
      exact recsTo_ok X k i h
theorem recsOf_ok (X : List (List Int)) (i : Nat) (h : i < (recsOf X).length) : VRec ((recsOf X).getD i recZ).pos ((recsOf X).getD i recZ).chs ∧ ((recsOf X).getD i recZ).pos = i + 1 := recsTo_ok X _ i h

/-- A slice that reads as a list of integers; as a list of such lists. -/
def NumS (w : World) (v : Value) (L : List Int) : Prop :=
  ∃ a n cap, v = .slice a n cap ∧ n = L.length ∧ n ≤ cap ∧ cap ≤ 9223372036854775807 ∧ (1 ≤ n → ∃ b o, a = some ⟨b, o, none⟩ ∧ b < w.heap.size ∧ ∀ i, i < n → w.cell? ⟨b, o + i, none⟩ = some (.int .i64 (L.getD i 0))) ∧ ∀ x ∈ L, I64 x
def NumSS (w : World) (v : Value) (X : List (List Int)) : Prop :=
  ∃ a n cap, v = .slice a n cap ∧ n = X.length ∧ n ≤ cap ∧ cap ≤ 9223372036854775807 ∧ (1 ≤ n → ∃ b o, a = some ⟨b, o, none⟩ ∧ b < w.heap.size ∧ ∀ i, i < n → ∃ u, w.cell? ⟨b, o + i, none⟩ = some u ∧ NumS w u (X.getD i []))
theorem NumS.below {w w' : World} {v : Value} {L : List Int} (h : NumS w v L) (k : Below w.heap.size w w') : NumS w' v L := by
  obtain ⟨a, n, cap, e, hn, h1, h2, h3, h4⟩ := h
  refine ⟨a, n, cap, e, hn, h1, h2, fun hh => ?_, h4⟩
  obtain ⟨b, o, ea, hb, hc⟩ := h3 hh
  exact ⟨b, o, ea, Nat.lt_of_lt_of_le hb k.size, fun i hi => (k.cell (p := ⟨b, o + i, none⟩) hb).trans (hc i hi)⟩
theorem NumSS.below {w w' : World} {v : Value} {X : List (List Int)} (h : NumSS w v X) (k : Below w.heap.size w w') : NumSS w' v X := by
  obtain ⟨a, n, cap, e, hn, h1, h2, h3⟩ := h
  refine ⟨a, n, cap, e, hn, h1, h2, fun hh => ?_⟩
  obtain ⟨b, o, ea, hb, hc⟩ := h3 hh
  refine ⟨b, o, ea, Nat.lt_of_lt_of_le hb k.size, fun i hi => ?_⟩
  obtain ⟨u, hu, hL⟩ := hc i hi
  exact ⟨u, (k.cell (p := ⟨b, o + i, none⟩) hb).trans hu, hL.below k⟩

/-- Records that lie in blocks of F, each record's changes in a block of its own. -/
structure RsAt (W : World) (F : Nat → Prop) (v : Value) (Q : List (MRec × Value)) : Prop where
  oq : OwnQ W 0 v Q
  fq : ∀ i, v.ownBlock = some i → F i
  oc : ∀ q ∈ Q, OwnC W 0 q.2 q.1.chs ∧ ∀ i, q.2.ownBlock = some i → F i
  ne : Q.Pairwise fun a b => ∀ i, a.2.ownBlock = some i → b.2.ownBlock ≠ some i
theorem RsAt.nil (W : World) (F : Nat → Prop) : RsAt W F (.slice none 0 0) [] := ⟨OwnQ.nil _ _, fun i h => by simp [Value.ownBlock] at h, fun q h => (by cases h), List.Pairwise.nil⟩
theorem RsAt.kept {W W' : World} {F G : Nat → Prop} {v : Value} {Q : List (MRec × Value)} (h : RsAt W F v Q) (k : Kept G W W') (hG : ∀ i, i < W.heap.size → F i → ¬ G i) : RsAt W' F v Q :=
  ⟨ownsRow_kept h.oq k fun i e => hG i ((ownsRow_lt h.oq e).2.elim fun _ h => lt_of_block h) (h.fq i e), h.fq, fun q m => ⟨(h.oc q m).1.kept k fun i e => hG i ((ownsRow_lt (h.oc q m).1 e).2.elim fun _ h => lt_of_block h) ((h.oc q m).2 i e), (h.oc q m).2⟩, h.ne⟩
theorem RsAt.below {W W' : World} {F : Nat → Prop} {v : Value} {Q : List (MRec × Value)} (h : RsAt W F v Q) (k : Below W.heap.size W W') : RsAt W' F v Q := h.kept (G := fun _ => False) (Kept.of_below k) fun _ _ _ => id
theorem RsAt.mono {W : World} {F G : Nat → Prop} {v : Value} {Q : List (MRec × Value)} (h : RsAt W F v Q) (hG : ∀ i, i < W.heap.size → F i → G i) : RsAt W G v Q :=
  ⟨h.oq, fun i e => hG _ ((ownsRow_lt h.oq e).2.elim fun _ h => lt_of_block h) (h.fq i e), fun q m => ⟨(h.oc q m).1, fun i e => hG _ ((ownsRow_lt (h.oc q m).1 e).2.elim fun _ h => lt_of_block h) ((h.oc q m).2 i e)⟩, h.ne⟩
theorem RsAt.recS {W : World} {F : Nat → Prop} {v : Value} {Q : List (MRec × Value)} (h : RsAt W F v Q) : RecS W v (Q.map Prod.fst) := h.oq.recS fun q m => ⟨0, (h.oc q m).1⟩

theorem ownC_zero {W : World} {b : Nat} {v : Value} {M : List MCh} (h : OwnC W b v M) : OwnC W 0 v M := ⟨h.1, h.2.imp id fun ⟨g, cap, cur, e, _, r⟩ => ⟨g, cap, cur, e, Nat.zero_le _, r⟩⟩
theorem Kept.of_below' {W W' : World} {n : Nat} (h : Below n W W') : Kept (fun k => n ≤ k) W W' := ⟨h.os, h.tape, h.output, h.size, fun k _ hk => h.block k (by omega)⟩
theorem Tryd.info57' : (Tryd.prog.info? 57).map (fun i => (i.zero, i.size, i.bytes)) = some (some (.agg #[.int .i64 0, .int .i64 0, .bool false, .int .i64 0, .int .i64 0, .int .i64 0, .bool false, .int .i64 0, .int .i64 0, .int .i64 0]), 10, 80) := by kernel_rfl
section
variable {w : World} {ops : Array Oper} {o : Oper} {a : Act} {K : Act → World → Prop} {Q : Exit → Act → World → Prop} {E : Prop}
theorem step_append_ch (hgd : o.guard = none) (s x : Operand) (ho : o.op = .call { callee := .builtin .append, args := #[s, x], argTypes := #[49, 49] }) (B : Nat)
    (v : Value) (M : List MCh) (c : MCh) (hs : a.eval s = v) (hown : OwnC w B v M) (g0 cp : Nat) (hx : a.eval x = .slice (some ⟨g0, 0, none⟩) 1 cp) (hg0 : w.heap[g0]? = some (.cells (chCells c) 57 (0, 0))) (hl : M.length ≤ 20000) (hB : B ≤ w.heap.size)
    (hK : ∀ g cap w', OwnC w' B (.slice (some ⟨g, 0, none⟩) (M.length + 1) cap) (M ++ [c]) → w.grownBy w' v.ownBlock → (v.ownBlock = some g ∨ g = w.heap.size) → g < w'.heap.size → K (a.put o.dst (.slice (some ⟨g, 0, none⟩) (M.length + 1) cap)) w') :
    if Region.wanted o (yielded ops a.tmps) = true then Oper.wp Tryd.prog o a w K Q else E := by
  obtain ⟨i0, hI, hZ0, hZ1, hZ2⟩ := info_parts Tryd.info57'
  refine step_append_lies w hgd s x 49 ho B 57 i0 _ 10 80 Tryd.underlying49 hI hZ0 hZ1 hZ2 rfl (by decide) v M.length (flatC M) hs hown ⟨g0, 0, none⟩ 1 cp (flatC [c]) hx rfl (World.news_of_block hg0) (flatC_one _) (by decide) (by unfold maxLen; omega) (by omega) hB w.heap.size rfl ?_
  intro g cap w' h1 h2 h3 h4
  refine hK g cap w' ?_ h2 h3 h4
  unfold OwnC
  rw [List.length_append, flatC_app]
  exact h1
end
end Go.Proofs.YtpapfegbodolgaaDoor
