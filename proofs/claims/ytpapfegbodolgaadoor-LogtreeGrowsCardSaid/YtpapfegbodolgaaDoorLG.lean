/- A LOG IN MEMORY: lists of changes, records and heads that are owned; what a log's blocks hold; worlds in which only some blocks have turned. -/
import Derived.Test.YtpapfegbodolgaaDoorLF
import Derived.Deep.AppendLies
set_option linter.unusedVariables false
set_option linter.unusedSimpArgs false
namespace Go.Proofs.YtpapfegbodolgaaDoor
open Go.RowKit Go.Sort

/-- W' is W but for the blocks of F; blocks may have been laid. -/
structure Kept (F : Nat → Prop) (W W' : World) : Prop where
  os : W'.os = W.os
  tape : W'.tape = W.tape
  output : W'.output = W.output
  size : W.heap.size ≤ W'.heap.size
  block : ∀ k, k < W.heap.size → ¬ F k → W'.heap[k]? = W.heap[k]?
theorem Kept.of_below {F : Nat → Prop} {W W' : World} (h : Below W.heap.size W W') : Kept F W W' := ⟨h.os, h.tape, h.output, h.size, fun k hk _ => h.block k hk⟩
theorem Kept.refl (F : Nat → Prop) (W : World) : Kept F W W := ⟨rfl, rfl, rfl, Nat.le_refl _, fun _ _ _ => rfl⟩
theorem Kept.below {F : Nat → Prop} {W W' : World} (h : Kept F W W') {n : Nat} (hn : n ≤ W.heap.size) (hF : ∀ k, F k → n ≤ k) : Below n W W' :=
  ⟨h.os, h.tape, h.output, h.size, fun k hk => h.block k (by omega) (fun f => by have := hF k f; omega)⟩
theorem Kept.trans {F G : Nat → Prop} {A B C : World} (h : Kept F A B) (k : Kept G B C) (hG : ∀ i, i < A.heap.size → G i → F i) : Kept F A C :=
  ⟨k.os.trans h.os, k.tape.trans h.tape, k.output.trans h.output, Nat.le_trans h.size k.size, fun i hi hf => (k.block i (Nat.lt_of_lt_of_le hi h.size) (fun g => hf (hG i hi g))).trans (h.block i hi hf)⟩
theorem Kept.then {F : Nat → Prop} {A B C : World} (h : Kept F A B) (k : Below B.heap.size B C) : Kept F A C := h.trans (Kept.of_below (F := F) k) (fun _ _ f => f)
theorem Kept.setCell {F : Nat → Prop} {A B : World} (h : Kept F A B) {p : Addr} (hp : F p.block ∨ A.heap.size ≤ p.block) (u : Value) : Kept F A (B.setCell p u) :=
  ⟨h.os, h.tape, h.output, by have := h.size; simpa using this, fun k hk hf => by
    rw [Below.heap_setCell _ _ _ _ (fun e => by
      rcases hp with hp | hp
      · exact hf (e ▸ hp)
      · omega)]
    exact h.block k hk hf⟩
theorem Kept.grown {F : Nat → Prop} {A B C : World} (h : Kept F A B) {row : Option Nat} (hg : B.grownBy C row) (hr : ∀ k, row = some k → F k ∨ A.heap.size ≤ k) : Kept F A C :=
  ⟨hg.os.trans h.os, hg.tape.trans h.tape, hg.output.trans h.output, Nat.le_trans h.size hg.size, fun k hk hf => (hg.block k (Nat.lt_of_lt_of_le hk h.size) (fun e => by
    rcases hr k e.symm with h1 | h1
    · exact hf h1
    · omega)).trans (h.block k hk hf)⟩
theorem Kept.mono {F G : Nat → Prop} {A B : World} (h : Kept F A B) (hG : ∀ k, F k → G k) : Kept G A B := ⟨h.os, h.tape, h.output, h.size, fun k hk hf => h.block k hk (fun f => hf (hG k f))⟩

theorem two_setCell0 {w : World} {b : Nat} {v u x : Value} {t : TypeId} (h : w.heap[b]? = some (.cells #[v, x] t (0, 0))) : (w.setCell ⟨b, 0, none⟩ u).heap[b]? = some (.cells #[u, x] t (0, 0)) := by
  have hlt := lt_of_block h
  have h' : w.heap[b] = .cells #[v, x] t (0, 0) := by simpa [Array.getElem?_eq_getElem hlt] using h
  show (w.heap.modify b _)[b]? = _
  rw [Array.getElem?_eq_getElem (by simpa using hlt), Array.getElem_modify_self, h']
  rfl
theorem two_setCell1 {w : World} {b : Nat} {v u x : Value} {t : TypeId} (h : w.heap[b]? = some (.cells #[v, x] t (0, 0))) : (w.setCell ⟨b, 1, none⟩ u).heap[b]? = some (.cells #[v, u] t (0, 0)) := by
  have hlt := lt_of_block h
  have h' : w.heap[b] = .cells #[v, x] t (0, 0) := by simpa [Array.getElem?_eq_getElem hlt] using h
  show (w.heap.modify b _)[b]? = _
  rw [Array.getElem?_eq_getElem (by simpa using hlt), Array.getElem_modify_self, h']
  rfl

/-! ### Rows that are owned, whatever they hold -/
theorem ownsRow_kept {F : Nat → Prop} {W W' : World} {base e size n : Nat} {v : Value} {xs : List Value} (h : W.ownsRow base e size v n xs) (k : Kept F W W') (hF : ∀ i, v.ownBlock = some i → ¬ F i) : W'.ownsRow base e size v n xs := by
  obtain ⟨hl, h⟩ := h
  exact ⟨hl, h.imp id fun ⟨g, cap, cur, e, hg, hb, r⟩ => ⟨g, cap, cur, e, hg, (k.block g (lt_of_block hb) (hF g (by rw [e]; rfl))).trans hb, r⟩⟩
theorem ownsRow_lt {W : World} {base e size n : Nat} {v : Value} {xs : List Value} (h : W.ownsRow base e size v n xs) {i : Nat} (hi : v.ownBlock = some i) : base ≤ i ∧ ∃ cur, W.heap[i]? = some (.cells cur e (0, 0)) := by
  rcases h.2 with ⟨rfl, _⟩ | ⟨g, cap, cur, rfl, hb, hbk, _⟩
  · simp [Value.ownBlock] at hi
  · simp [Value.ownBlock] at hi
    subst hi
    exact ⟨hb, cur, hbk⟩
theorem type_ne {W : World} {g g' : Nat} {c c' : Array Value} {t t' : TypeId} {f f' : Nat × Nat} (h : W.heap[g]? = some (.cells c t f)) (h' : W.heap[g']? = some (.cells c' t' f')) (ht : t ≠ t') : g ≠ g' := by
  rintro rfl
  rw [h] at h'
  simp at h'
  exact ht h'.2.1
theorem ownsRow_form {W : World} {base e size n : Nat} {v : Value} {xs : List Value} (h : W.ownsRow base e size v n xs) : ∃ a cap, v = .slice a n cap ∧ n ≤ cap ∧ cap ≤ 9223372036854775807 := by
  rcases h.2 with ⟨rfl, rfl⟩ | ⟨g, cap, cur, rfl, hb, hbk, h1, h2, _⟩
  · exact ⟨_, _, rfl, Nat.le_refl _, by omega⟩
  · exact ⟨_, _, rfl, h1, by unfold maxLen at h2; omega⟩
theorem ownsRow_rd {W : World} {base e size n : Nat} {v : Value} {xs : List Value} (h : W.ownsRow base e size v n xs) (h1 : 1 ≤ n) : ∃ g cap, v = .slice (some ⟨g, 0, none⟩) n cap ∧ g < W.heap.size ∧ n ≤ cap ∧ cap ≤ 9223372036854775807 ∧ ∀ j u, xs[j]? = some u → W.cell? ⟨g, j, none⟩ = some u := by
  rcases h.2 with ⟨rfl, rfl⟩ | ⟨g, cap, cur, rfl, hb, hbk, h3, h2, h4, h5⟩
  · omega
  · refine ⟨g, cap, rfl, lt_of_block hbk, h3, by unfold maxLen at h2; omega, fun j u hj => ?_⟩
    rw [← h5] at hj
    have hlt : j < n * size := by
      rcases Nat.lt_or_ge j (n * size) with h | h
      · exact h
      · rw [List.getElem?_take_eq_none h] at hj; cases hj
    rw [List.getElem?_take_of_lt hlt, Array.getElem?_toList] at hj
    simp [World.cell?, hbk, hj]

/-! ### Changes -/
def ccl (c : MCh) : List Value := (chCells c).toList
theorem ccl_len (c : MCh) : (ccl c).length = 10 := rfl
def flatC (M : List MCh) : List Value := M.flatMap ccl
theorem flatC_len (M : List MCh) : (flatC M).length = M.length * 10 := by
  induction M with
  | nil => rfl
  | cons r M ih => rw [flatC, List.flatMap_cons, List.length_append, ccl_len, List.length_cons, ← flatC, ih]; omega
theorem flatC_app (M N : List MCh) : flatC (M ++ N) = flatC M ++ flatC N := by simp [flatC]
theorem flatC_get (M : List MCh) : ∀ i j, i < M.length → j < 10 → (flatC M)[i * 10 + j]? = (ccl (M.getD i chZ))[j]? := by
  induction M with
  | nil => intro i j h; simp at h
  | cons r M ih =>
    intro i j hi hj
    rw [flatC, List.flatMap_cons, ← flatC]
    cases i with
    | zero =>
      rw [List.getElem?_append_left (by rw [ccl_len]; omega)]
      simp
    | succ i =>
      rw [List.getElem?_append_right (by rw [ccl_len]; omega), ccl_len, show (i + 1) * 10 + j - 10 = i * 10 + j by omega, ih i j (by simpa using hi) hj]
      simp
theorem ccl_one (c : MCh) : ∀ v ∈ ccl c, v.oneCell' = true := by
  intro v hv
  simp [ccl, chCells] at hv
  rcases hv with rfl | rfl | rfl | rfl | rfl | rfl | rfl | rfl | rfl | rfl <;> rfl
theorem flatC_one (N : List MCh) : ∀ u ∈ flatC N, u.oneCell' = true := by
  intro u hu
  obtain ⟨r, _, hr⟩ := List.mem_flatMap.1 hu
  exact ccl_one r u hr
/-- A slice of the call's own that holds a list of changes. -/
def OwnC (W : World) (base : Nat) (v : Value) (M : List MCh) : Prop := W.ownsRow base 57 10 v M.length (flatC M)
theorem OwnC.nil (W : World) (base : Nat) : OwnC W base (.slice none 0 0) [] := ⟨rfl, .inl ⟨rfl, rfl⟩⟩
theorem OwnC.chS {W : World} {base : Nat} {v : Value} {M : List MCh} (h : OwnC W base v M) : ChS W v M := by
  obtain ⟨a, cap, e, h1, h2⟩ := ownsRow_form h
  refine ⟨a, _, cap, e, rfl, h1, h2, fun h3 => ?_⟩
  obtain ⟨g, cap', e', hg, _, _, hc⟩ := ownsRow_rd h h3
  rw [e] at e'
  simp at e'
  refine ⟨g, 0, e'.1, hg, fun i hi j hj => ?_⟩
  have h5 := flatC_get M i j hi hj
  have hlt : j < (chCells (M.getD i chZ)).size := by simpa [chCells] using hj
  have h6 : (ccl (M.getD i chZ))[j]? = (chCells (M.getD i chZ))[j]? := by unfold ccl; simp
  rw [h6, Array.getElem?_eq_getElem hlt] at h5
  have := hc _ _ h5
  rw [Nat.zero_add, this, Array.getElem?_eq_getElem hlt]
theorem OwnC.kept {F : Nat → Prop} {W W' : World} {base : Nat} {v : Value} {M : List MCh} (h : OwnC W base v M) (k : Kept F W W') (hF : ∀ i, v.ownBlock = some i → ¬ F i) : OwnC W' base v M := ownsRow_kept h k hF
theorem OwnC.below {W W' : World} {base : Nat} {v : Value} {M : List MCh} (h : OwnC W base v M) (k : Below W.heap.size W W') : OwnC W' base v M := h.kept (F := fun _ => False) (Kept.of_below k) (fun _ _ => id)

/-! ### Records -/
def flatQ (Q : List (MRec × Value)) : List Value := Q.flatMap fun q => [.int .i64 q.1.pos, q.2]
theorem flatQ_len (Q : List (MRec × Value)) : (flatQ Q).length = Q.length * 2 := by
  induction Q with
  | nil => rfl
  | cons r M ih => rw [flatQ, List.flatMap_cons, List.length_append, List.length_cons, ← flatQ, ih]; simp; omega
theorem flatQ_app (M N : List (MRec × Value)) : flatQ (M ++ N) = flatQ M ++ flatQ N := by simp [flatQ]
def qZ : MRec × Value := (recZ, .slice none 0 0)
theorem flatQ_get (M : List (MRec × Value)) : ∀ i j, i < M.length → j < 2 → (flatQ M)[i * 2 + j]? = ([.int .i64 (M.getD i qZ).1.pos, (M.getD i qZ).2] : List Value)[j]? := by
  induction M with
  | nil => intro i j h; simp at h
  | cons r M ih =>
    intro i j hi hj
    rw [flatQ, List.flatMap_cons, ← flatQ]
    cases i with
    | zero =>
      rw [List.getElem?_append_left (by simp; omega)]
      simp
    | succ i =>
      rw [List.getElem?_append_right (by simp; omega), show (i + 1) * 2 + j - ([Value.int .i64 r.1.pos, r.2] : List Value).length = i * 2 + j by simp; omega, ih i j (by simpa using hi) hj]
      simp
def OwnQ (W : World) (base : Nat) (v : Value) (Q : List (MRec × Value)) : Prop := W.ownsRow base 51 2 v Q.length (flatQ Q)
theorem OwnQ.nil (W : World) (base : Nat) : OwnQ W base (.slice none 0 0) [] := ⟨rfl, .inl ⟨rfl, rfl⟩⟩
theorem getD_memQ {α : Type} {l : List α} {i : Nat} (h : i < l.length) (d : α) : l.getD i d ∈ l := by
  rw [List.getD_eq_getElem?_getD, List.getElem?_eq_getElem h]; exact List.getElem_mem h
theorem OwnQ.recS {W : World} {base : Nat} {v : Value} {Q : List (MRec × Value)} (h : OwnQ W base v Q) (hc : ∀ q ∈ Q, ∃ b, OwnC W b q.2 q.1.chs) : RecS W v (Q.map Prod.fst) := by
  obtain ⟨a, cap, e, h1, h2⟩ := ownsRow_form h
  refine ⟨a, _, cap, e, by simp, h1, h2, fun h3 => ?_⟩
  obtain ⟨g, cap', e', hg, _, _, hcl⟩ := ownsRow_rd h h3
  rw [e] at e'
  simp at e'
  refine ⟨g, 0, e'.1, hg, fun i hi => ?_⟩
  have hmap : (Q.map Prod.fst).getD i recZ = (Q.getD i qZ).1 := by
    rw [List.getD_eq_getElem?_getD, List.getD_eq_getElem?_getD, List.getElem?_map, List.getElem?_eq_getElem hi]
    rfl
  obtain ⟨b, hb2⟩ := hc _ (getD_memQ hi qZ)
  rw [hmap]
  have e0 := flatQ_get Q i 0 hi (by omega)
  have e1 := flatQ_get Q i 1 hi (by omega)
  rw [Nat.zero_add]
  exact ⟨hcl _ _ e0, _, hcl _ _ e1, hb2.chS⟩

/-! ### Heads -/
def flatH (H : List MHead) : List Value := H.flatMap fun h => [.int .i64 h.p, .string h.c, .string h.s]
theorem flatH_len (H : List MHead) : (flatH H).length = H.length * 3 := by
  induction H with
  | nil => rfl
  | cons r M ih => rw [flatH, List.flatMap_cons, List.length_append, List.length_cons, ← flatH, ih]; simp; omega
theorem flatH_app (M N : List MHead) : flatH (M ++ N) = flatH M ++ flatH N := by simp [flatH]
theorem flatH_get (M : List MHead) : ∀ i j, i < M.length → j < 3 → (flatH M)[i * 3 + j]? = ([.int .i64 (M.getD i hdZ).p, .string (M.getD i hdZ).c, .string (M.getD i hdZ).s] : List Value)[j]? := by
  induction M with
  | nil => intro i j h; simp at h
  | cons r M ih =>
    intro i j hi hj
    rw [flatH, List.flatMap_cons, ← flatH]
    cases i with
    | zero =>
      rw [List.getElem?_append_left (by simp; omega)]
      simp
    | succ i =>
      rw [List.getElem?_append_right (by simp; omega), show (i + 1) * 3 + j - ([Value.int .i64 r.p, .string r.c, .string r.s] : List Value).length = i * 3 + j by simp; omega, ih i j (by simpa using hi) hj]
      simp
theorem flatH_one (N : List MHead) : ∀ u ∈ flatH N, u.oneCell' = true := by
  intro u hu
  obtain ⟨r, _, hr⟩ := List.mem_flatMap.1 hu
  simp at hr
  rcases hr with rfl | rfl | rfl <;> rfl
def OwnH (W : World) (base : Nat) (v : Value) (H : List MHead) : Prop := W.ownsRow base 23 3 v H.length (flatH H)
/-- A slice that reads as a list of heads. -/
def HdS (w : World) (v : Value) (H : List MHead) : Prop :=
  ∃ a n cap, v = .slice a n cap ∧ n = H.length ∧ n ≤ cap ∧ cap ≤ 9223372036854775807 ∧ (1 ≤ n → ∃ b o, a = some ⟨b, o, none⟩ ∧ b < w.heap.size ∧ ∀ i, i < n → w.cell? ⟨b, o + i * 3, none⟩ = some (.int .i64 (H.getD i hdZ).p) ∧ w.cell? ⟨b, o + i * 3 + 1, none⟩ = some (.string (H.getD i hdZ).c) ∧ w.cell? ⟨b, o + i * 3 + 2, none⟩ = some (.string (H.getD i hdZ).s))
theorem HdS.below {w w' : World} {v : Value} {H : List MHead} (h : HdS w v H) (k : Below w.heap.size w w') : HdS w' v H := by
  obtain ⟨a, n, cap, e, hn, h1, h2, h3⟩ := h
  refine ⟨a, n, cap, e, hn, h1, h2, fun hh => ?_⟩
  obtain ⟨b, o, ea, hb, hc⟩ := h3 hh
  refine ⟨b, o, ea, Nat.lt_of_lt_of_le hb k.size, fun i hi => ?_⟩
  obtain ⟨c0, c1, c2⟩ := hc i hi
  exact ⟨(k.cell (p := ⟨b, _, none⟩) hb).trans c0, (k.cell (p := ⟨b, _, none⟩) hb).trans c1, (k.cell (p := ⟨b, _, none⟩) hb).trans c2⟩
theorem OwnH.hdS {W : World} {base : Nat} {v : Value} {H : List MHead} (h : OwnH W base v H) : HdS W v H := by
  obtain ⟨a, cap, e, h1, h2⟩ := ownsRow_form h
  refine ⟨a, _, cap, e, rfl, h1, h2, fun h3 => ?_⟩
  obtain ⟨g, cap', e', hg, _, _, hcl⟩ := ownsRow_rd h h3
  rw [e] at e'
  simp at e'
  refine ⟨g, 0, e'.1, hg, fun i hi => ?_⟩
  have e0 := flatH_get H i 0 hi (by omega)
  have e1 := flatH_get H i 1 hi (by omega)
  have e2 := flatH_get H i 2 hi (by omega)
  rw [Nat.zero_add]
  exact ⟨hcl _ _ e0, hcl _ _ e1, hcl _ _ e2⟩

/-! ### The log -/
/-- Records and the heads before, between and behind them. -/
structure Lg (R : List MRec) (H : List MHead) : Prop where
  len : H.length = R.length + 1
  ok : ∀ i, i < H.length → Hok (H.getD i hdZ) ∧ (H.getD i hdZ).p = i
  nx : ∀ i, i < R.length → VRec (R.getD i recZ).pos (R.getD i recZ).chs ∧ H.getD (i + 1) hdZ = nxH (H.getD i hdZ) (R.getD i recZ).pos (R.getD i recZ).chs (H.getD (i + 1) hdZ).s
theorem Lg.small {R : List MRec} {H : List MHead} (h : Lg R H) : R.length ≤ 10000 := by
  have := h.ok R.length (by have := h.len; omega)
  have h1 := this.1.1.2
  have h2 := this.2
  omega
/-- Block b is a log; its memory lies in the blocks of F. -/
def LgAt (W : World) (F : Nat → Prop) (b : Nat) (R : List MRec) (H : List MHead) : Prop :=
  ∃ vr vh Q, W.heap[b]? = some (.cells #[vr, vh] 78 (0, 0)) ∧ F b ∧ OwnQ W 0 vr Q ∧ (∀ i, vr.ownBlock = some i → F i) ∧ OwnH W 0 vh H ∧ (∀ i, vh.ownBlock = some i → F i) ∧ Q.map Prod.fst = R ∧
    (∀ q ∈ Q, OwnC W 0 q.2 q.1.chs ∧ ∀ i, q.2.ownBlock = some i → F i) ∧ Lg R H
theorem LgAt.lt {W : World} {F : Nat → Prop} {b : Nat} {R : List MRec} {H : List MHead} (h : LgAt W F b R H) : b < W.heap.size := by
  obtain ⟨vr, vh, Q, hb, _⟩ := h
  exact lt_of_block hb
theorem LgAt.lg {W : World} {F : Nat → Prop} {b : Nat} {R : List MRec} {H : List MHead} (h : LgAt W F b R H) : Lg R H := by
  obtain ⟨vr, vh, Q, _, _, _, _, _, _, _, _, h⟩ := h
  exact h
theorem LgAt.kept {W W' : World} {F G : Nat → Prop} {b : Nat} {R : List MRec} {H : List MHead} (h : LgAt W F b R H) (k : Kept G W W') (hG : ∀ i, F i → ¬ G i) : LgAt W' F b R H := by
  obtain ⟨vr, vh, Q, hb, fb, hq, fq, hh, fh, e, hc, hl⟩ := h
  exact ⟨vr, vh, Q, (k.block b (lt_of_block hb) (hG b fb)).trans hb, fb, ownsRow_kept hq k (fun i e => hG i (fq i e)), fq, ownsRow_kept hh k (fun i e => hG i (fh i e)), fh, e,
    fun q m => ⟨(hc q m).1.kept k (fun i e => hG i ((hc q m).2 i e)), (hc q m).2⟩, hl⟩
theorem LgAt.below {W W' : World} {F : Nat → Prop} {b : Nat} {R : List MRec} {H : List MHead} (h : LgAt W F b R H) (k : Below W.heap.size W W') : LgAt W' F b R H := h.kept (G := fun _ => False) (Kept.of_below k) (fun _ _ => id)
theorem LgAt.mono {W : World} {F G : Nat → Prop} {b : Nat} {R : List MRec} {H : List MHead} (h : LgAt W F b R H) (hG : ∀ i, F i → G i) : LgAt W G b R H := by
  obtain ⟨vr, vh, Q, hb, fb, hq, fq, hh, fh, e, hc, hl⟩ := h
  exact ⟨vr, vh, Q, hb, hG _ fb, hq, fun i e => hG _ (fq i e), hh, fun i e => hG _ (fh i e), e, fun q m => ⟨(hc q m).1, fun i e => hG _ ((hc q m).2 i e)⟩, hl⟩
/-- What a reader of a log needs. -/
theorem LgAt.read {W : World} {F : Nat → Prop} {b : Nat} {R : List MRec} {H : List MHead} (h : LgAt W F b R H) : ∃ vr vh, W.heap[b]? = some (.cells #[vr, vh] 78 (0, 0)) ∧ RecS W vr R ∧ HdS W vh H := by
  obtain ⟨vr, vh, Q, hb, fb, hq, fq, hh, fh, rfl, hc, hl⟩ := h
  exact ⟨vr, vh, hb, hq.recS (fun q m => ⟨0, (hc q m).1⟩), hh.hdS⟩
end Go.Proofs.YtpapfegbodolgaaDoor
