/- ONE THING PUT INTO A SLICE: append(out[:k:k], append([]T{x}, out[k:]...)...). No program stands in it. -/
import Derived.Test.YtaapggeaoacikaaZ2
import Derived.ArgAppend
import Derived.Laws.AppendOwnNone
import Derived.Laws.Rows
import Derived.Great.BuildSlice
import Derived.Great.Frames
set_option linter.unusedVariables false
set_option linter.unusedSimpArgs false
namespace Go.Proofs.Ytaapggeaoacikaa
open Go.RowKit

/-- A slice, nil or with an address, that reads as m things of size cells. -/
def RdX (w : World) (size : Nat) (u : Value) (m : Nat) (xs : List Value) : Prop :=
  xs.length = m * size ∧ ((u = .slice none 0 0 ∧ m = 0) ∨ ∃ b o cap, u = .slice (some ⟨b, o, none⟩) m cap ∧ ∀ j v, xs[j]? = some v → w.cell? ((⟨b, o, none⟩ : Addr).add j) = some v)
theorem add_mk (b o j : Nat) : (⟨b, o, none⟩ : Addr).add j = ⟨b, o + j, none⟩ := by
  unfold Addr.add
  split
  · next h => subst h; rfl
  · rfl
theorem own_cell {w : World} {base e size g n cap : Nat} {xs : List Value} (h : w.ownsRow base e size (.slice (some ⟨g, 0, none⟩) n cap) n xs) : ∃ cur : Array Value, w.heap[g]? = some (.cells cur e (0, 0)) ∧ cur.toList.take (n * size) = xs ∧ base ≤ g := by
  rcases h.2 with ⟨e, _⟩ | ⟨g', cap', cur, e, hb, hc, _, _, _, ht⟩
  · cases e
  · simp at e
    obtain ⟨rfl, rfl⟩ := e
    exact ⟨cur, hc, ht, hb⟩
theorem own_rd {w : World} {base e size g n cap : Nat} {xs : List Value} (h : w.ownsRow base e size (.slice (some ⟨g, 0, none⟩) n cap) n xs) {j : Nat} {v : Value} (hj : xs[j]? = some v) : w.cell? ⟨g, j, none⟩ = some v := by
  obtain ⟨cur, hc, ht, _⟩ := own_cell h
  have hlt := (List.getElem?_eq_some_iff.1 hj).1
  rw [← ht] at hj hlt
  rw [List.length_take] at hlt
  rw [List.getElem?_take_of_lt (by omega), Array.getElem?_toList] at hj
  simp [World.cell?, hc, hj]
theorem rdx_take {w wz : World} {base e size g n cap : Nat} {xs : List Value} (h : w.ownsRow base e size (.slice (some ⟨g, 0, none⟩) n cap) n xs) (hB : Below w.heap.size w wz) (q cap' : Nat) (hq : q ≤ n) : RdX wz size (.slice (some ⟨g, 0, none⟩) q cap') q (xs.take (q * size)) := by
  obtain ⟨cur, hc, _, _⟩ := own_cell h
  have hg : g < w.heap.size := by
    rcases Nat.lt_or_ge g w.heap.size with h | h
    · exact h
    · rw [Array.getElem?_eq_none h] at hc; cases hc
  refine ⟨by rw [List.length_take, h.1]; exact Nat.min_eq_left (Nat.mul_le_mul_right _ hq), .inr ⟨g, 0, cap', rfl, fun j v hj => ?_⟩⟩
  have hlt := (List.getElem?_eq_some_iff.1 hj).1
  rw [List.length_take] at hlt
  rw [List.getElem?_take_of_lt (by omega)] at hj
  rw [add_mk, Nat.zero_add, hB.cell (p := ⟨g, j, none⟩) hg]
  exact own_rd h hj
theorem rdx_drop {w wz : World} {base e size g n cap : Nat} {xs : List Value} (h : w.ownsRow base e size (.slice (some ⟨g, 0, none⟩) n cap) n xs) (hB : Below w.heap.size w wz) (q l cap' o : Nat) (hl : l = n - q) (ho : q < n → o = q * size) : RdX wz size (.slice (some ⟨g, o, none⟩) l cap') l (xs.drop (q * size)) := by
  obtain ⟨cur, hc, _, _⟩ := own_cell h
  have hg : g < w.heap.size := by
    rcases Nat.lt_or_ge g w.heap.size with h | h
    · exact h
    · rw [Array.getElem?_eq_none h] at hc; cases hc
  refine ⟨by rw [List.length_drop, h.1, hl, Nat.sub_mul], .inr ⟨g, o, cap', rfl, fun j v hj => ?_⟩⟩
  rw [List.getElem?_drop] at hj
  have hlt := (List.getElem?_eq_some_iff.1 hj).1
  have hqn : q < n := by
    rcases Nat.lt_or_ge q n with h' | h'
    · exact h'
    · have := Nat.mul_le_mul_right size h'
      rw [h.1] at hlt
      omega
  rw [add_mk, ho hqn, hB.cell (p := ⟨g, q * size + j, none⟩) hg]
  exact own_rd h hj
theorem rdx_nil (w : World) (size q : Nat) (xs : List Value) (h : xs.length = 0) : RdX w size (.slice none 0 0) 0 (xs.drop q) := ⟨by simp [List.eq_nil_of_length_eq_zero h], .inl ⟨rfl, rfl⟩⟩
theorem rdx_nilt (w : World) (size q : Nat) (xs : List Value) (h : xs.length = 0) : RdX w size (.slice none 0 0) 0 (xs.take q) := ⟨by simp [List.eq_nil_of_length_eq_zero h], .inl ⟨rfl, rfl⟩⟩
theorem rdx_kept {F : Nat → Prop} {w w' : World} {size m : Nat} {u : Value} {xs : List Value} (h : RdX w size u m xs) (k : ∀ i, u.ownBlock = some i → w'.heap[i]? = w.heap[i]?) : RdX w' size u m xs := by
  obtain ⟨h1, h2⟩ := h
  refine ⟨h1, h2.imp id fun ⟨b, o, cap, e, hc⟩ => ⟨b, o, cap, e, fun j v hj => ?_⟩⟩
  subst e
  rw [← hc j v hj, add_mk]
  exact World.cell?_of_block (k b rfl)

theorem ba' (w : World) (o : Obj) : Below w.heap.size w (w.alloc o) := (Below.refl _ _).alloc (Nat.le_refl _) _
section
variable {P : Program} {w : World} {ops : Array Oper} {rest : List Oper} {o : Oper} {a : Act} {Q : Exit → Act → World → Prop}
theorem wpList_ins9 (hgd : o.guard = none) (s x : Operand) (t : TypeId) (ho : o.op = .call { callee := .builtin .append, args := #[s, x], argTypes := #[t, t] })
    (e : TypeId) (i : TypeInfo) (z : Value) (size bytes : Nat) (ht : P.underlying t = some (.slice e)) (hi : P.info? e = some i) (hz : i.zero = some z)
    (hsize : i.size = size) (hby : i.bytes = bytes) (hzs : z.cells.size = size) (hsz : 0 < size)
    (g : Nat) (xc : List Value) (hs : a.eval s = .slice (some ⟨g, 0, none⟩) 1 1) (hg : w.heap[g]? = some (.cells xc.toArray e (0, 0))) (hxc : xc.length = size)
    (u : Value) (m : Nat) (ys : List Value) (hx : a.eval x = u) (hr : RdX w size u m ys) (h1 : ∀ v ∈ ys, v.oneCell' = true) (b1 : 1 + m ≤ maxLen) (b2 : (1 + m) * bytes ≤ 140737488355328)
    (h : ∀ v' w', RdX w' size v' (1 + m) (xc ++ ys) → w.grownBy w' (some g) → wpList P ops Q rest (a.put o.dst v') w') : wpList P ops Q (o :: rest) a w := by
  have hglt : g < w.heap.size := by
    rcases Nat.lt_or_ge g w.heap.size with h | h
    · exact h
    · rw [Array.getElem?_eq_none h] at hg; cases hg
  have hown : w.ownsRow g e size (.slice (some ⟨g, 0, none⟩) 1 1) 1 xc := by
    refine ⟨by rw [hxc, Nat.one_mul], .inr ⟨g, 1, xc.toArray, rfl, Nat.le_refl _, hg, Nat.le_refl _, by unfold maxLen; omega, by simp [hxc], ?_⟩⟩
    rw [Nat.one_mul, ← hxc]
    simp
  have fin : ∀ v' w', w'.ownsRow g e size v' (1 + m) (xc ++ ys) → RdX w' size v' (1 + m) (xc ++ ys) := fun v' w' ho' => by
    refine ⟨ho'.1, .inr ?_⟩
    rcases ho'.2 with ⟨_, h0⟩ | ⟨g', cap', cur, rfl, _⟩
    · omega
    · exact ⟨g', 0, cap', rfl, fun j v hj => by rw [add_mk, Nat.zero_add]; exact own_rd ho' hj⟩
  obtain ⟨hyl, hr⟩ := hr
  rcases hr with ⟨rfl, rfl⟩ | ⟨b, p, cap, rfl, hc⟩
  · obtain rfl : ys = [] := List.eq_nil_of_length_eq_zero (by simpa using hyl)
    refine wpList_append_own_none hgd s x t ho g e i size ht hi _ 1 xc hs hown hx (h _ _ (fin _ _ ?_) ⟨rfl, rfl, rfl, Nat.le_refl _, fun _ _ _ => rfl⟩)
    rw [List.append_nil]
    exact hown
  · refine wpList_append_own w hgd s x t ho g e i z size bytes ht hi hz hsize hby hzs hsz _ 1 xc hs hown ⟨b, p, none⟩ m cap ys hx hyl hc h1 b1 b2 (Nat.le_of_lt hglt) ?_
    intro v' w' hown' hg' _
    exact h v' w' (fin _ _ hown') hg'
theorem wpList_ins10 (hgd : o.guard = none) (s x : Operand) (t : TypeId) (ho : o.op = .call { callee := .builtin .append, args := #[s, x], argTypes := #[t, t] })
    (e : TypeId) (i : TypeInfo) (z : Value) (size bytes : Nat) (ht : P.underlying t = some (.slice e)) (hi : P.info? e = some i) (hz : i.zero = some z)
    (hsize : i.size = size) (hby : i.bytes = bytes) (hzs : z.cells.size = size) (hsz : 0 < size)
    (ao : Option Addr) (q : Nat) (ps : List Value) (hs : a.eval s = .slice ao q q) (hp : RdX w size (.slice ao q q) q ps)
    (u : Value) (m : Nat) (ys : List Value) (hx : a.eval x = u) (hr : RdX w size u (1 + m) ys) (h1 : ∀ v ∈ ys, v.oneCell' = true) (b1 : q + (1 + m) ≤ maxLen) (b2 : (q + (1 + m)) * bytes ≤ 140737488355328)
    (h : ∀ v' w', w'.ownsRow w.heap.size e size v' (q + (1 + m)) (ps ++ ys) → w.grownBy w' none → wpList P ops Q rest (a.put o.dst v') w') : wpList P ops Q (o :: rest) a w := by
  obtain ⟨hyl, hr⟩ := hr
  obtain ⟨hpl, hp⟩ := hp
  rcases hr with ⟨_, h0⟩ | ⟨b, p, cap, rfl, hc⟩
  · omega
  · refine wpList_append_grows w hgd s x t ho e i z size bytes ht hi hz hsize hby hzs hsz ao q q ps hs ?_ hpl ?_ ⟨b, p, none⟩ (1 + m) cap ys hx hyl hc h1 (by omega) b1 b2 h
    · intro hn
      rcases hp with ⟨e, h0⟩ | ⟨b', p', c', e, _⟩
      · omega
      · rw [hn] at e; simp at e
    · intro b' hb' j v hj
      rcases hp with ⟨e, h0⟩ | ⟨b2, p', c', e, hc'⟩
      · rw [hb'] at e; simp at e
      · rw [hb'] at e
        simp at e
        rw [e.1]
        exact hc' j v hj

theorem own_mono {w : World} {base base' e size n : Nat} {v : Value} {xs : List Value} (h : w.ownsRow base e size v n xs) (hb : base' ≤ base) : w.ownsRow base' e size v n xs := by
  obtain ⟨hl, h⟩ := h
  exact ⟨hl, h.imp id fun ⟨g, cap, cur, e, hg, r⟩ => ⟨g, cap, cur, e, by omega, r⟩⟩

set_option maxHeartbeats 2000000 in
/-- The whole of the putting in, behind the reads of the slots. -/
theorem insert_tail {o4 o5 o9 o10 o11 : Oper} (sb d4 d5 s3 s8 d9 d10 d11 : Nat) (t e : TypeId)
    (g4 : o4.guard = none) (p4 : o4.op = .load e (.tmp sb)) (t4 : o4.dst = some d4) (g5 : o5.guard = none) (p5 : o5.op = .buildSlice t 1 #[(0, .tmp d4)]) (t5 : o5.dst = some d5)
    (g9 : o9.guard = none) (p9 : o9.op = .call { callee := .builtin .append, args := #[.tmp d5, .tmp s8], argTypes := #[t, t] }) (t9 : o9.dst = some d9)
    (g10 : o10.guard = none) (p10 : o10.op = .call { callee := .builtin .append, args := #[.tmp s3, .tmp d9], argTypes := #[t, t] }) (t10 : o10.dst = some d10)
    (g11 : o11.guard = none) (p11 : o11.op = .assign (.tmp d10)) (t11 : o11.dst = some d11)
    (hsz : d4 < a.tmps.size ∧ d5 < a.tmps.size ∧ d9 < a.tmps.size ∧ d10 < a.tmps.size) (hne : d4 ≠ s8 ∧ d5 ≠ s8 ∧ d4 ≠ s3 ∧ d5 ≠ s3 ∧ d9 ≠ s3)
    (i : TypeInfo) (z : Value) (size bytes : Nat) (ht : P.underlying t = some (.slice e)) (hi : P.info? e = some i) (hz : i.zero = some z)
    (hsize : i.size = size) (hby : i.bytes = bytes) (hzs : z.cells.size = size) (hsz0 : 0 < size) (hsmall : size ≤ 1000) (d : TypeDesc) (hu : P.underlying e = some d) (hd : (match d with | .struct _ | .array _ _ => true | _ => false) = true)
    (cb : Nat) (cc : Array Value) (hcc : cc.size = size) (hcb : w.heap[cb]? = some (.cells cc e (0, 0))) (hc1 : ∀ v ∈ cc.toList, v.oneCell' = true)
    (hf : Instr.fill (fun i => some (i * size, size)) ((Array.range (1 * size)).map (z.cells[· % z.cells.size]!)) [(0, Value.agg cc)] = some cc)
    (hsb : a.eval (.tmp sb) = .pointer (some ⟨cb, 0, none⟩)) (ao : Option Addr) (q : Nat) (ps : List Value) (h3 : a.eval (.tmp s3) = .slice ao q q) (u : Value) (m : Nat) (ys : List Value) (h8 : a.eval (.tmp s8) = u)
    (HT : ∀ w', Below w.heap.size w w' → RdX w' size (.slice ao q q) q ps) (HD : ∀ w', Below w.heap.size w w' → RdX w' size u m ys) (h1 : ∀ v ∈ ys, v.oneCell' = true)
    (b1 : q + (1 + m) ≤ maxLen) (b2 : (q + (1 + m)) * bytes ≤ 140737488355328)
    (h : ∀ v9 v10 w10, w10.ownsRow w.heap.size e size v10 (q + (1 + m)) (ps ++ (cc.toList ++ ys)) → Below w.heap.size w w10 →
      Q .normal (((((a.put (some d4) (.agg cc)).put (some d5) (.slice (some ⟨w.heap.size, 0, none⟩) 1 1)).put (some d9) v9).put (some d10) v10).put (some d11) v10) w10) :
    wpList P ops Q [o4, o5, o9, o10, o11] a w := by
  obtain ⟨z4, z5, z9, z10⟩ := hsz
  obtain ⟨n1, n2, n3, n4, n5⟩ := hne
  refine wpList_load_row g4 e (.tmp sb) p4 cb hsb e cc (0, 0) d hcb hu hd (by rw [hi, Option.map_some, hsize, hcc]) ?_
  rw [t4]
  have q1 : ¬ 1 * i.size > 2 ^ 24 := by rw [hsize, Nat.one_mul]; exact Nat.not_lt.2 (Nat.le_trans hsmall (by decide))
  have q2 : ¬ 1 * i.size = 0 := by rw [hsize, Nat.one_mul]; exact Nat.pos_iff_ne_zero.1 hsz0
  have q3 : ((#[(0, Operand.tmp d4)] : Array (Nat × Operand)).map fun (i, x) => (i, (a.put (some d4) (.agg cc)).eval x)).toList = [(0, Value.agg cc)] := by
    simp [Act.eval_put_same _ _ _ z4]
  refine wpList_buildSlice g5 t e 1 #[(0, Operand.tmp d4)] p5 cc i z ht hi hz q1 q2 (by rw [q3, hsize]; exact hf) ?_
  rw [t5]
  have hB5 := ba' w (.cells cc e)
  have b3 : (1 + m) * bytes ≤ 140737488355328 := Nat.le_trans (Nat.mul_le_mul_right _ (by omega)) b2
  refine wpList_ins9 g9 (.tmp d5) (.tmp s8) t p9 e i z size bytes ht hi hz hsize hby hzs hsz0 w.heap.size cc.toList (by rw [Act.eval_put_same _ _ _ (by rw [Act.size_put]; exact z5)]) (by rw [heap_alloc_new]) (by simpa using hcc) u m ys (by rw [Act.eval_put_ne _ _ _ _ n2, Act.eval_put_ne _ _ _ _ n1]; exact h8) (HD _ hB5) h1 (by omega) b3 ?_
  intro v9 w9 hr9 hg9
  rw [t9]
  have hB9 : Below w.heap.size w w9 := hB5.grown hg9 hB5.size (fun k hk => by cases hk; exact Nat.le_refl _)
  refine wpList_ins10 g10 (.tmp s3) (.tmp d9) t p10 e i z size bytes ht hi hz hsize hby hzs hsz0 ao q ps (by rw [Act.eval_put_ne _ _ _ _ n5, Act.eval_put_ne _ _ _ _ n4, Act.eval_put_ne _ _ _ _ n3]; exact h3) (HT _ hB9) v9 m _ (by rw [Act.eval_put_same _ _ _ (by rw [Act.size_put, Act.size_put]; exact z9)]) hr9 ?_ b1 b2 ?_
  · intro v hv
    rcases List.mem_append.1 hv with hv | hv
    · exact hc1 v hv
    · exact h1 v hv
  intro v10 w10 ho10 hg10
  rw [t10]
  refine wpList_plain g11 fun K hK => ?_
  unfold Oper.wp execOp
  simp only [p11]
  rw [Act.eval_put_same _ _ _ (by rw [Act.size_put, Act.size_put, Act.size_put]; exact z10)]
  refine hK _ _ ?_
  rw [t11]
  exact h v9 v10 w10 (own_mono ho10 hB9.size) (hB9.grown hg10 hB9.size (fun k hk => by cases hk))
end
end Go.Proofs.Ytaapggeaoacikaa
