/- A LOG WHILE IT GROWS: one thing appended to a slice that is owned; what the two appends of Append leave. -/
import Derived.Test.YtpapfegbodolgaaDoorLL
import Derived.Deep.RegionLaw
import Derived.Deep.DeepCutAuto
set_option linter.unusedVariables false
set_option linter.unusedSimpArgs false
namespace Go.Proofs.YtpapfegbodolgaaDoor
open Go.RowKit Go.Sort

theorem Tryd.info23 : (Tryd.prog.info? 23).map (fun i => (i.zero, i.size, i.bytes)) = some (some (.agg #[.int .i64 0, .string ⟨#[]⟩, .string ⟨#[]⟩]), 3, 40) := by kernel_rfl
theorem Tryd.info51 : (Tryd.prog.info? 51).map (fun i => (i.zero, i.size, i.bytes)) = some (some (.agg #[.int .i64 0, .slice none 0 0]), 2, 32) := by kernel_rfl

section
variable {w : World} {ops : Array Oper} {o : Oper} {a : Act} {K : Act → World → Prop} {Q : Exit → Act → World → Prop} {E : Prop}
theorem step_append_head (hgd : o.guard = none) (s x : Operand) (ho : o.op = .call { callee := .builtin .append, args := #[s, x], argTypes := #[76, 76] })
    (v : Value) (H : List MHead) (h : MHead) (hs : a.eval s = v) (hown : OwnH w 0 v H) (g0 c : Nat) (hx : a.eval x = .slice (some ⟨g0, 0, none⟩) 1 c) (hg0 : w.heap[g0]? = some (.cells (headC h) 23 (0, 0))) (hl : H.length ≤ 20000) (S : Nat) (hS : w.heap.size = S)
    (hK : ∀ g cap w', OwnH w' 0 (.slice (some ⟨g, 0, none⟩) (H.length + 1) cap) (H ++ [h]) → w.grownBy w' v.ownBlock → (v.ownBlock = some g ∨ g = S) → g < w'.heap.size → K (a.put o.dst (.slice (some ⟨g, 0, none⟩) (H.length + 1) cap)) w') :
    if Region.wanted o (yielded ops a.tmps) = true then Oper.wp Tryd.prog o a w K Q else E := by
  obtain ⟨i0, hI, hZ0, hZ1, hZ2⟩ := info_parts Tryd.info23
  refine step_append_lies w hgd s x 76 ho 0 23 i0 _ 3 40 Tryd.underlying76 hI hZ0 hZ1 hZ2 rfl (by decide) v H.length (flatH H) hs hown ⟨g0, 0, none⟩ 1 c (flatH [h]) hx rfl (World.news_of_block hg0) (flatH_one _) (by decide) (by unfold maxLen; omega) (by omega) (Nat.zero_le _) S hS ?_
  intro g cap w' h1 h2 h3 h4
  refine hK g cap w' ?_ h2 h3 h4
  unfold OwnH
  rw [List.length_append, flatH_app]
  exact h1
theorem step_append_rec (hgd : o.guard = none) (s x : Operand) (ho : o.op = .call { callee := .builtin .append, args := #[s, x], argTypes := #[32, 32] })
    (v : Value) (Qs : List (MRec × Value)) (q : MRec × Value) (hq1 : q.2.oneCell' = true) (hs : a.eval s = v) (hown : OwnQ w 0 v Qs) (hqs : ∀ u ∈ Qs, u.2.oneCell' = true) (g0 c : Nat) (hx : a.eval x = .slice (some ⟨g0, 0, none⟩) 1 c) (hg0 : w.heap[g0]? = some (.cells #[.int .i64 q.1.pos, q.2] 51 (0, 0))) (hl : Qs.length ≤ 20000) (S : Nat) (hS : w.heap.size = S)
    (hK : ∀ g cap w', OwnQ w' 0 (.slice (some ⟨g, 0, none⟩) (Qs.length + 1) cap) (Qs ++ [q]) → w.grownBy w' v.ownBlock → (v.ownBlock = some g ∨ g = S) → g < w'.heap.size → K (a.put o.dst (.slice (some ⟨g, 0, none⟩) (Qs.length + 1) cap)) w') :
    if Region.wanted o (yielded ops a.tmps) = true then Oper.wp Tryd.prog o a w K Q else E := by
  obtain ⟨i0, hI, hZ0, hZ1, hZ2⟩ := info_parts Tryd.info51
  refine step_append_lies w hgd s x 32 ho 0 51 i0 _ 2 32 Tryd.underlying32 hI hZ0 hZ1 hZ2 rfl (by decide) v Qs.length (flatQ Qs) hs hown ⟨g0, 0, none⟩ 1 c (flatQ [q]) hx rfl (World.news_of_block hg0) (fun u hu => by
      simp [flatQ] at hu
      rcases hu with rfl | rfl
      · rfl
      · exact hq1) (by decide) (by unfold maxLen; omega) (by omega) (Nat.zero_le _) S hS ?_
  intro g cap w' h1 h2 h3 h4
  refine hK g cap w' ?_ h2 h3 h4
  unfold OwnQ
  rw [List.length_append, flatQ_app]
  exact h1
end

/-- A log's memory, slice by slice. -/
structure LgRaw (W : World) (F : Nat → Prop) (b : Nat) (vr vh : Value) (Q : List (MRec × Value)) (H : List MHead) : Prop where
  blk : W.heap[b]? = some (.cells #[vr, vh] 78 (0, 0))
  fb : F b
  oq : OwnQ W 0 vr Q
  fq : ∀ i, vr.ownBlock = some i → F i
  oh : OwnH W 0 vh H
  fh : ∀ i, vh.ownBlock = some i → F i
  oc : ∀ q ∈ Q, OwnC W 0 q.2 q.1.chs ∧ ∀ i, q.2.ownBlock = some i → F i
theorem LgAt.raw {W : World} {F : Nat → Prop} {b : Nat} {R : List MRec} {H : List MHead} (h : LgAt W F b R H) : ∃ vr vh Q, LgRaw W F b vr vh Q H ∧ Q.map Prod.fst = R ∧ Lg R H := by
  obtain ⟨vr, vh, Q, h1, h2, h3, h4, h5, h6, h7, h8, h9⟩ := h
  exact ⟨vr, vh, Q, ⟨h1, h2, h3, h4, h5, h6, h8⟩, h7, h9⟩
theorem LgRaw.at {W : World} {F : Nat → Prop} {b : Nat} {vr vh : Value} {Q : List (MRec × Value)} {R : List MRec} {H : List MHead} (h : LgRaw W F b vr vh Q H) (e : Q.map Prod.fst = R) (hl : Lg R H) : LgAt W F b R H :=
  ⟨vr, vh, Q, h.blk, h.fb, h.oq, h.fq, h.oh, h.fh, e, h.oc, hl⟩
theorem LgRaw.mono {W : World} {F G : Nat → Prop} {b : Nat} {vr vh : Value} {Q : List (MRec × Value)} {H : List MHead} (h : LgRaw W F b vr vh Q H) (hG : ∀ i, F i → G i) : LgRaw W G b vr vh Q H :=
  ⟨h.blk, hG _ h.fb, h.oq, fun i e => hG _ (h.fq i e), h.oh, fun i e => hG _ (h.fh i e), fun q m => ⟨(h.oc q m).1, fun i e => hG _ ((h.oc q m).2 i e)⟩⟩
theorem LgRaw.below {W W' : World} {F : Nat → Prop} {b : Nat} {vr vh : Value} {Q : List (MRec × Value)} {H : List MHead} (h : LgRaw W F b vr vh Q H) (k : Below W.heap.size W W') : LgRaw W' F b vr vh Q H :=
  ⟨gone k h.blk, h.fb, ownsRow_kept h.oq (F := fun _ => False) (Kept.of_below k) (fun _ _ => id), h.fq, ownsRow_kept h.oh (F := fun _ => False) (Kept.of_below k) (fun _ _ => id), h.fh, fun q m => ⟨(h.oc q m).1.below k, (h.oc q m).2⟩⟩
theorem LgRaw.forms {W : World} {F : Nat → Prop} {b : Nat} {vr vh : Value} {Q : List (MRec × Value)} {H : List MHead} (h : LgRaw W F b vr vh Q H) : (∃ a cap, vr = .slice a Q.length cap) ∧ (∃ a cap, vh = .slice a H.length cap) := by
  obtain ⟨a, cap, e, _⟩ := ownsRow_form h.oq
  obtain ⟨a', cap', e', _⟩ := ownsRow_form h.oh
  exact ⟨⟨a, cap, e⟩, a', cap', e'⟩
theorem own_one1 {W : World} {base e size n : Nat} {v : Value} {xs : List Value} (h : W.ownsRow base e size v n xs) : v.oneCell' = true := by
  obtain ⟨a, cap, rfl, _⟩ := ownsRow_form h
  rfl
/-- The records' slice has grown, and is stored. -/
theorem LgRaw.addRec {W w w' : World} {F : Nat → Prop} {b : Nat} {vr vh : Value} {Q : List (MRec × Value)} {H : List MHead} {q : MRec × Value} {g cap : Nat} (h : LgRaw w F b vr vh Q H)
    (hk : Kept F W w) (hq : OwnC w 0 q.2 q.1.chs) (hqF : ∀ i, q.2.ownBlock = some i → W.heap.size ≤ i) (ho : OwnQ w' 0 (.slice (some ⟨g, 0, none⟩) (Q.length + 1) cap) (Q ++ [q])) (hg : w.grownBy w' vr.ownBlock) (hgg : vr.ownBlock = some g ∨ W.heap.size ≤ g) :
    LgRaw (w'.setCell ⟨b, 0, none⟩ (.slice (some ⟨g, 0, none⟩) (Q.length + 1) cap)) (fun k => F k ∨ W.heap.size ≤ k) b (.slice (some ⟨g, 0, none⟩) (Q.length + 1) cap) vh (Q ++ [q]) H ∧
      Kept F W (w'.setCell ⟨b, 0, none⟩ (.slice (some ⟨g, 0, none⟩) (Q.length + 1) cap)) ∧
      (∀ (j : Nat) (cs : Array Value) (t : TypeId) (f : Nat × Nat), w.heap[j]? = some (.cells cs t f) → t ≠ 51 → t ≠ 78 → (w'.setCell ⟨b, 0, none⟩ (.slice (some ⟨g, 0, none⟩) (Q.length + 1) cap)).heap[j]? = some (.cells cs t f)) ∧
      w.heap.size ≤ (w'.setCell ⟨b, 0, none⟩ (.slice (some ⟨g, 0, none⟩) (Q.length + 1) cap)).heap.size ∧ w'.heap[b]? = some (.cells #[vr, vh] 78 (0, 0)) := by
  have hrow : ∀ (j : Nat) (cs : Array Value) (t : TypeId) (f : Nat × Nat), w.heap[j]? = some (.cells cs t f) → t ≠ 51 → w'.heap[j]? = some (.cells cs t f) := fun j cs t f hj ht => by
    refine (hg.block j (lt_of_block hj) (fun e => ?_)).trans hj
    obtain ⟨_, cur, hc⟩ := ownsRow_lt h.oq e.symm
    rw [hj] at hc
    simp at hc
    exact ht hc.2.1
  have hb' : w'.heap[b]? = some (.cells #[vr, vh] 78 (0, 0)) := hrow b _ _ _ h.blk (by decide)
  have hset : ∀ (j : Nat) (cs : Array Value) (t : TypeId) (f : Nat × Nat), w'.heap[j]? = some (.cells cs t f) → t ≠ 78 → (w'.setCell ⟨b, 0, none⟩ (.slice (some ⟨g, 0, none⟩) (Q.length + 1) cap)).heap[j]? = some (.cells cs t f) := fun j cs t f hj ht => by
    rw [Below.heap_setCell _ _ _ _ (fun e => by
      have e : j = b := e
      subst e
      rw [hb'] at hj
      simp at hj
      exact ht hj.2.1.symm)]
    exact hj
  have hrows : ∀ {e size n : Nat} {v : Value} {xs : List Value}, w.ownsRow 0 e size v n xs → e ≠ 51 → e ≠ 78 → (w'.setCell ⟨b, 0, none⟩ (.slice (some ⟨g, 0, none⟩) (Q.length + 1) cap)).ownsRow 0 e size v n xs := fun {e size n v xs} hr h1 h2 => by
    obtain ⟨hl, hr⟩ := hr
    exact ⟨hl, hr.imp id fun ⟨g', cap', cur, e', hg', hbk, r⟩ => ⟨g', cap', cur, e', hg', hset _ _ _ _ (hrow _ _ _ _ hbk h1) h2, r⟩⟩
  refine ⟨⟨two_setCell0 hb', .inl h.fb, ?_, ?_, hrows h.oh (by decide) (by decide), fun i e => .inl (h.fh i e), ?_⟩, ?_, fun j cs t f hj h1 h2 => hset j cs t f (hrow j cs t f hj h1) h2, by simpa using hg.size, hb'⟩
  · obtain ⟨hl, hr⟩ := ho
    refine ⟨by simpa using hl, ?_⟩
    rcases hr with ⟨e, _⟩ | ⟨g', cap', cur, e', hg', hbk, r⟩
    · cases e
    · refine .inr ⟨g', cap', cur, ?_, hg', hset _ _ _ _ hbk (by decide), ?_⟩
      · rw [e']
      · simpa using r
  · intro i e
    simp [Value.ownBlock] at e
    subst e
    rcases hgg with e | e
    · exact .inl (h.fq _ e)
    · exact .inr e
  · intro q' hq'
    rcases List.mem_append.1 hq' with m | m
    · exact ⟨hrows (h.oc q' m).1 (by decide) (by decide), fun i e => .inl ((h.oc q' m).2 i e)⟩
    · obtain rfl : q' = q := by simpa using m
      exact ⟨hrows hq (by decide) (by decide), fun i e => .inr (hqF i e)⟩
  · exact (hk.grown hg (fun k e => .inl (h.fq k e))).setCell (.inl h.fb) _
/-- The heads' slice has grown, and is stored. -/
theorem LgRaw.addHead {W w w' : World} {F : Nat → Prop} {b : Nat} {vr vh : Value} {Q : List (MRec × Value)} {H : List MHead} {x : MHead} {g cap : Nat} (h : LgRaw w (fun k => F k ∨ W.heap.size ≤ k) b vr vh Q H) (hfb : F b) (hfh : ∀ i, vh.ownBlock = some i → F i)
    (hk : Kept F W w) (ho : OwnH w' 0 (.slice (some ⟨g, 0, none⟩) (H.length + 1) cap) (H ++ [x])) (hg : w.grownBy w' vh.ownBlock) (hgg : vh.ownBlock = some g ∨ W.heap.size ≤ g) :
    LgRaw (w'.setCell ⟨b, 1, none⟩ (.slice (some ⟨g, 0, none⟩) (H.length + 1) cap)) (fun k => F k ∨ W.heap.size ≤ k) b vr (.slice (some ⟨g, 0, none⟩) (H.length + 1) cap) Q (H ++ [x]) ∧
      Kept F W (w'.setCell ⟨b, 1, none⟩ (.slice (some ⟨g, 0, none⟩) (H.length + 1) cap)) ∧ w'.heap[b]? = some (.cells #[vr, vh] 78 (0, 0)) := by
  have hrow : ∀ (j : Nat) (cs : Array Value) (t : TypeId) (f : Nat × Nat), w.heap[j]? = some (.cells cs t f) → t ≠ 23 → w'.heap[j]? = some (.cells cs t f) := fun j cs t f hj ht => by
    refine (hg.block j (lt_of_block hj) (fun e => ?_)).trans hj
    obtain ⟨_, cur, hc⟩ := ownsRow_lt h.oh e.symm
    rw [hj] at hc
    simp at hc
    exact ht hc.2.1
  have hb' : w'.heap[b]? = some (.cells #[vr, vh] 78 (0, 0)) := hrow b _ _ _ h.blk (by decide)
  have hset : ∀ (j : Nat) (cs : Array Value) (t : TypeId) (f : Nat × Nat), w'.heap[j]? = some (.cells cs t f) → t ≠ 78 → (w'.setCell ⟨b, 1, none⟩ (.slice (some ⟨g, 0, none⟩) (H.length + 1) cap)).heap[j]? = some (.cells cs t f) := fun j cs t f hj ht => by
    rw [Below.heap_setCell _ _ _ _ (fun e => by
      have e : j = b := e
      subst e
      rw [hb'] at hj
      simp at hj
      exact ht hj.2.1.symm)]
    exact hj
  have hrows : ∀ {e size n : Nat} {v : Value} {xs : List Value}, w.ownsRow 0 e size v n xs → e ≠ 23 → e ≠ 78 → (w'.setCell ⟨b, 1, none⟩ (.slice (some ⟨g, 0, none⟩) (H.length + 1) cap)).ownsRow 0 e size v n xs := fun {e size n v xs} hr h1 h2 => by
    obtain ⟨hl, hr⟩ := hr
    exact ⟨hl, hr.imp id fun ⟨g', cap', cur, e', hg', hbk, r⟩ => ⟨g', cap', cur, e', hg', hset _ _ _ _ (hrow _ _ _ _ hbk h1) h2, r⟩⟩
  refine ⟨⟨two_setCell1 hb', .inl hfb, hrows h.oq (by decide) (by decide), h.fq, ?_, ?_, fun q m => ⟨hrows (h.oc q m).1 (by decide) (by decide), (h.oc q m).2⟩⟩, ?_⟩
  · obtain ⟨hl, hr⟩ := ho
    refine ⟨by simpa using hl, ?_⟩
    rcases hr with ⟨e, _⟩ | ⟨g', cap', cur, e', hg', hbk, r⟩
    · cases e
    · refine .inr ⟨g', cap', cur, ?_, hg', hset _ _ _ _ hbk (by decide), ?_⟩
      · rw [e']
      · simpa using r
  · intro i e
    simp [Value.ownBlock] at e
    subst e
    rcases hgg with e | e
    · exact .inl (hfh _ e)
    · exact .inr e
  · exact ⟨(hk.grown hg (fun k e => .inl (hfh k e))).setCell (.inl hfb) _, hb'⟩
/-- A record and its head more. -/
theorem Lg.snoc {R : List MRec} {H : List MHead} (h : Lg R H) {p : Int} {L : List MCh} {st : ByteArray} (k : NxOk (H.getD R.length hdZ) p L st) : Lg (R ++ [⟨p, L⟩]) (H ++ [nxH (H.getD R.length hdZ) p L st]) := by
  have hl := h.len
  have getl : ∀ i, i < H.length → (H ++ [nxH (H.getD R.length hdZ) p L st]).getD i hdZ = H.getD i hdZ := fun i hi => by
    rw [List.getD_eq_getElem?_getD, List.getElem?_append_left hi, ← List.getD_eq_getElem?_getD]
  have getr : (H ++ [nxH (H.getD R.length hdZ) p L st]).getD H.length hdZ = nxH (H.getD R.length hdZ) p L st := by
    rw [List.getD_eq_getElem?_getD, List.getElem?_append_right (Nat.le_refl _)]; simp
  have getR : ∀ i, i < R.length → (R ++ [(⟨p, L⟩ : MRec)]).getD i recZ = R.getD i recZ := fun i hi => by
    rw [List.getD_eq_getElem?_getD, List.getElem?_append_left hi, ← List.getD_eq_getElem?_getD]
  have getRr : (R ++ [(⟨p, L⟩ : MRec)]).getD R.length recZ = ⟨p, L⟩ := by
    rw [List.getD_eq_getElem?_getD, List.getElem?_append_right (Nat.le_refl _)]; simp
  refine ⟨by simp [hl], fun i hi => ?_, fun i hi => ?_⟩
  · rw [List.length_append, List.length_singleton] at hi
    by_cases h1 : i < H.length
    · rw [getl i h1]; exact h.ok i h1
    · obtain rfl : i = H.length := by omega
      rw [getr]
      refine ⟨nx_ok k, ?_⟩
      have h2 := k.2.2.1
      have h3 := (h.ok R.length (by omega)).2
      show p = _
      omega
  · rw [List.length_append, List.length_singleton] at hi
    by_cases h1 : i < R.length
    · rw [getR i h1, getl i (by omega), getl (i + 1) (by omega)]; exact h.nx i h1
    · obtain rfl : i = R.length := by omega
      rw [getRr, getl R.length (by omega), ← hl, getr]
      exact ⟨k.1, rfl⟩
theorem below_drew1 (w : World) : Below w.heap.size w w.drew := ⟨rfl, rfl, rfl, Nat.le_refl _, fun _ _ => rfl⟩
theorem LgRaw.cells1 {W : World} {F : Nat → Prop} {b : Nat} {vr vh : Value} {Q : List (MRec × Value)} {H : List MHead} (h : LgRaw W F b vr vh Q H) : ∀ q ∈ Q, q.2.oneCell' = true := fun q m => own_one1 (h.oc q m).1
/-- The step of Append at its records. -/
theorem addRec5 {W w4 w5 w7 : World} {F : Nat → Prop} {b g cap base : Nat} {vr vh u : Value} {Q : List (MRec × Value)} {H : List MHead} {p : Int} {L : List MCh} {o : Obj} (h : LgRaw w4 F b vr vh Q H) (hB4 : Below W.heap.size W w4) (hB5 : Below w4.heap.size w4 w5)
    (ho : OwnC w5 base u L) (hbase : W.heap.size ≤ base) (ho7 : OwnQ w7 0 (.slice (some ⟨g, 0, none⟩) (Q.length + 1) cap) (Q ++ [(⟨p, L⟩, u)])) (hg7 : (w5.alloc o).grownBy w7 vr.ownBlock) (hgg : vr.ownBlock = some g ∨ g = (w5.alloc o).heap.size) :
    LgRaw (w7.setCell ⟨b, 0, none⟩ (.slice (some ⟨g, 0, none⟩) (Q.length + 1) cap)) (fun k => F k ∨ W.heap.size ≤ k) b (.slice (some ⟨g, 0, none⟩) (Q.length + 1) cap) vh (Q ++ [(⟨p, L⟩, u)]) H ∧
      Kept F W (w7.setCell ⟨b, 0, none⟩ (.slice (some ⟨g, 0, none⟩) (Q.length + 1) cap)) ∧
      (∀ (j : Nat) (cs : Array Value) (t : TypeId) (f : Nat × Nat), w4.heap[j]? = some (.cells cs t f) → t ≠ 51 → t ≠ 78 → (w7.setCell ⟨b, 0, none⟩ (.slice (some ⟨g, 0, none⟩) (Q.length + 1) cap)).heap[j]? = some (.cells cs t f)) ∧
      w4.heap.size ≤ (w7.setCell ⟨b, 0, none⟩ (.slice (some ⟨g, 0, none⟩) (Q.length + 1) cap)).heap.size ∧ w7.heap[b]? = some (.cells #[vr, vh] 78 (0, 0)) := by
  have hk : Below w4.heap.size w4 (w5.alloc o) := bt hB5 (ba w5 o)
  have ho' : OwnC (w5.alloc o) 0 u L := by
    obtain ⟨h1, h2⟩ := ho.below (ba w5 o)
    exact ⟨h1, h2.imp id fun ⟨g, cap, cur, e, hg, r⟩ => ⟨g, cap, cur, e, Nat.zero_le _, r⟩⟩
  obtain ⟨a1, a2, a3, a4, a5⟩ := LgRaw.addRec (W := W) (h.below hk) (Kept.of_below (bt hB4 hk)) (q := (⟨p, L⟩, u)) ho' (fun i e => Nat.le_trans hbase (ownsRow_lt ho e).1) ho7 hg7 (hgg.imp id (fun e => by have h1 := hk.size; have h2 := hB4.size; omega))
  exact ⟨a1, a2, fun j cs t f hj h1 h2 => a3 j cs t f (gone hk hj) h1 h2, Nat.le_trans hk.size a4, a5⟩
end Go.Proofs.YtpapfegbodolgaaDoor
