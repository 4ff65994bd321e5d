/- THE REFERENCE's STATE; place. -/
import Derived.Test.YtaapggeaoacikaaK12
set_option linter.unusedVariables false
set_option linter.unusedSimpArgs false
namespace Go.Proofs.Ytaapggeaoacikaa
open Go.RowKit Go.Sort Go.ChangeMaps Go.MapKept

/-! ### Plain: where a table and a key stand -/
def cntk (L : List MRow) (t k : Int) : Nat := (L.filter (ltk t k)).length
theorem cntk_le (L : List MRow) (t k : Int) : cntk L t k ≤ L.length := List.length_filter_le _ _
theorem take_cntk {L : List MRow} (h : Srt L) (t k : Int) : L.take (cntk L t k) = L.filter (ltk t k) := by
  have e := split_at h t k
  have : (L.filter (ltk t k) ++ ((look L t k).toList ++ L.filter (gtk t k))).take (cntk L t k) = L.filter (ltk t k) := by
    rw [cntk, List.take_left]
  rwa [← e] at this
theorem drop_cntk {L : List MRow} (h : Srt L) (t k : Int) : L.drop (cntk L t k) = (look L t k).toList ++ L.filter (gtk t k) := by
  have e := split_at h t k
  have : (L.filter (ltk t k) ++ ((look L t k).toList ++ L.filter (gtk t k))).drop (cntk L t k) = (look L t k).toList ++ L.filter (gtk t k) := by
    rw [cntk, List.drop_left]
  rwa [← e] at this
theorem ltk_cntk {L : List MRow} (h : Srt L) (t k : Int) {j : Nat} (hj : j < L.length) : ltk t k (L.getD j rowZ) = decide (j < cntk L t k) := by
  rw [List.getD_eq_getElem?_getD]
  rcases Nat.lt_or_ge j (cntk L t k) with h1 | h1
  · rw [decide_eq_true h1]
    have : L[j]? = (L.filter (ltk t k))[j]? := by rw [← take_cntk h t k, List.getElem?_take_of_lt h1]
    rw [this, List.getElem?_eq_getElem h1, Option.getD_some]
    exact (List.mem_filter.1 (List.getElem_mem h1)).2
  · rw [decide_eq_false (by omega)]
    have : L[j]? = ((look L t k).toList ++ L.filter (gtk t k))[j - cntk L t k]? := by rw [← drop_cntk h t k, List.getElem?_drop, show cntk L t k + (j - cntk L t k) = j by omega]
    rw [List.getElem?_eq_getElem hj] at this ⊢
    have hm := List.mem_of_getElem? this.symm
    rw [Option.getD_some]
    rcases List.mem_append.1 hm with h2 | h2
    · rw [Option.mem_toList] at h2
      have := (look_some h).1 h2
      unfold ltk
      exact decide_eq_false (by omega)
    · have := (List.mem_filter.1 h2).2
      simp only [gtk, decide_eq_true_eq] at this
      unfold ltk
      exact decide_eq_false (by omega)
theorem look_cntk {L : List MRow} (h : Srt L) (t k : Int) : look L t k = if cntk L t k < L.length ∧ (L.getD (cntk L t k) rowZ).t = t ∧ (L.getD (cntk L t k) rowZ).k = k then some (L.getD (cntk L t k) rowZ) else none := by
  have e := drop_cntk h t k
  split
  · next hh =>
    rw [look_some h]
    exact ⟨getD_mem hh.1, hh.2⟩
  · next hh =>
    cases hl : look L t k with
    | none => rfl
    | some r =>
      exfalso
      apply hh
      rw [hl] at e
      have e2 := congrArg List.head? e
      simp only [Option.toList_some, List.cons_append, List.head?_cons, List.head?_drop] at e2
      have hlt := List.getElem?_eq_some_iff.1 e2
      obtain ⟨h1, h2⟩ := hlt
      have h3 := (look_some h).1 hl
      rw [List.getD_eq_getElem?_getD, e2, Option.getD_some]
      exact ⟨h1, h3.2⟩

/-! ### The state -/
theorem OwnR.kept' {F : Nat → Prop} {W W' : World} {base : Nat} {v : Value} {M : List MRow} (h : OwnR W base v M) (k : Kept F W W') (hF : ∀ i, v.ownBlock = some i → ¬ F i) : OwnR W' base v M := by
  obtain ⟨hl, h⟩ := h
  exact ⟨hl, h.imp id fun ⟨g, cap, cur, e, hg, hb, r⟩ => ⟨g, cap, cur, e, hg, (k.block g (lt_of_block hb) (hF g (by rw [e]; rfl))).trans hb, r⟩⟩
/-- Block b is a state of the reference with the rows of L in the slice v, at position p. -/
structure RfAt (W : World) (b : Nat) (v : Value) (L : List MRow) (p : Int) : Prop where
  blk : W.heap[b]? = some (.cells #[v, .int .i64 p] 38 (0, 0))
  own : OwnR W 0 v L
  good : GoodL L
  pos : 0 ≤ p ∧ p ≤ 10000
def rfoot (b : Nat) (v : Value) : Nat → Prop := fun k => k = b ∨ v.ownBlock = some k
theorem RfAt.lt {W : World} {b : Nat} {v : Value} {L : List MRow} {p : Int} (h : RfAt W b v L p) : b < W.heap.size := lt_of_block h.blk
theorem RfAt.kept {W W' : World} {F : Nat → Prop} {b : Nat} {v : Value} {L : List MRow} {p : Int} (h : RfAt W b v L p) (k : Kept F W W') (hF : ∀ i, rfoot b v i → ¬ F i) : RfAt W' b v L p :=
  ⟨(k.block b h.lt (hF b (.inl rfl))).trans h.blk, h.own.kept' k (fun i e => hF i (.inr e)), h.good, h.pos⟩
theorem RfAt.below {W W' : World} {b : Nat} {v : Value} {L : List MRow} {p : Int} (h : RfAt W b v L p) (k : Below W.heap.size W W') : RfAt W' b v L p := h.kept (F := fun _ => False) (Kept.of_below k) (fun _ _ => id)
theorem RfAt.cells {W : World} {b : Nat} {v : Value} {L : List MRow} {p : Int} (h : RfAt W b v L p) : W.cell? ⟨b, 0, none⟩ = some v ∧ W.cell? ⟨b, 1, none⟩ = some (.int .i64 p) ∧ W.frozen? ⟨b, 0, none⟩ = false ∧ W.frozen? ⟨b, 1, none⟩ = false :=
  ⟨by simp [World.cell?, h.blk], by simp [World.cell?, h.blk], by simp [World.frozen?, h.blk], by simp [World.frozen?, h.blk]⟩
theorem RfAt.own_lt {W : World} {b : Nat} {v : Value} {L : List MRow} {p : Int} (h : RfAt W b v L p) {i : Nat} (e : v.ownBlock = some i) : i < W.heap.size ∧ i ≠ b := by
  obtain ⟨_, h1⟩ := h.own
  have hb := h.blk
  rcases h1 with ⟨rfl, _⟩ | ⟨g, cap, cur, rfl, hg, hbk, r⟩
  · simp [Value.ownBlock] at e
  · simp [Value.ownBlock] at e
    subst e
    refine ⟨lt_of_block hbk, fun hh => ?_⟩
    rw [hh, hb] at hbk
    simp at hbk

/-- .. in the middle of a record. -/
structure RfIn (W : World) (b : Nat) (v : Value) (L : List MRow) (p : Int) : Prop where
  blk : W.heap[b]? = some (.cells #[v, .int .i64 p] 38 (0, 0))
  own : OwnR W 0 v L
  srt : Srt L
  len : L.length ≤ 4000
theorem RfAt.in {W : World} {b : Nat} {v : Value} {L : List MRow} {p : Int} (h : RfAt W b v L p) : RfIn W b v L p := ⟨h.blk, h.own, h.good.1, by have := h.good.2.2; omega⟩
theorem RfIn.lt {W : World} {b : Nat} {v : Value} {L : List MRow} {p : Int} (h : RfIn W b v L p) : b < W.heap.size := lt_of_block h.blk
theorem RfIn.cells {W : World} {b : Nat} {v : Value} {L : List MRow} {p : Int} (h : RfIn W b v L p) : W.cell? ⟨b, 0, none⟩ = some v ∧ W.cell? ⟨b, 1, none⟩ = some (.int .i64 p) ∧ W.frozen? ⟨b, 0, none⟩ = false ∧ W.frozen? ⟨b, 1, none⟩ = false :=
  ⟨by simp [World.cell?, h.blk], by simp [World.cell?, h.blk], by simp [World.frozen?, h.blk], by simp [World.frozen?, h.blk]⟩
theorem RfIn.kept {W W' : World} {F : Nat → Prop} {b : Nat} {v : Value} {L : List MRow} {p : Int} (h : RfIn W b v L p) (k : Kept F W W') (hF : ∀ i, rfoot b v i → ¬ F i) : RfIn W' b v L p :=
  ⟨(k.block b h.lt (hF b (.inl rfl))).trans h.blk, h.own.kept' k (fun i e => hF i (.inr e)), h.srt, h.len⟩
theorem RfIn.below {W W' : World} {b : Nat} {v : Value} {L : List MRow} {p : Int} (h : RfIn W b v L p) (k : Below W.heap.size W W') : RfIn W' b v L p := h.kept (F := fun _ => False) (Kept.of_below k) (fun _ _ => id)

theorem newR_any (W : World) : Calls Try.prog 14 #[] W fun e w' => e = .returned (.pointer (some ⟨W.heap.size, 0, none⟩)) ∧ w' = W.alloc (.cells #[.slice none 0 0, .int .i64 0] 38) := by
  go_enter Try.func14, Try.ntmps14
  go_wp2_with fail
  go_ret
  exact ⟨rfl, rfl⟩
theorem rfAt_new (W : World) : RfAt (W.alloc (.cells #[.slice none 0 0, .int .i64 0] 38)) W.heap.size (.slice none 0 0) [] 0 :=
  ⟨(MapKept.heap_alloc W _).1, OwnR.nil _ _, goodL_nil, by omega⟩

set_option maxRecDepth 100000 in
set_option maxHeartbeats 4000000 in
theorem place_in {W : World} {b : Nat} {v : Value} {L : List MRow} {p : Int} (h : RfIn W b v L p) (t k : Int) :
    Calls Try.prog 38 #[.pointer (some ⟨b, 0, none⟩), .int .i64 t, .int .i64 k] W fun e w' => e = .returned (.int .i64 (cntk L t k)) ∧ W = w' := by
  obtain ⟨c0, c1, _, _⟩ := h.cells
  have HSt : Hid (Srt L) := Lib.hid h.srt
  have HR : Hid (RowS W v L) := Lib.hid h.own.rowS
  have hlen := h.len
  obtain ⟨a, n, cap, rfl, hn, hc1, hc2, hcell⟩ := HR.out
  have HN := Lib.hid hn
  have hn2 : n ≤ 4000 := by omega
  have HC := Lib.hid hcell
  obtain ⟨c, Hc⟩ : ∃ c, Hid (cntk L t k = c) := ⟨_, Lib.hid rfl⟩
  have hcn : c ≤ n := by rw [← Hc.out, HN.out]; exact cntk_le _ _ _
  rw [Hc.out]
  clear h hcell hn hlen
  go_enter Try.func38, Try.ntmps38
  go_wp2_with fail
  go_loopw [7, 8] (fun lo hi wr => ∃ x y : Nat, x ≤ c ∧ c ≤ y ∧ y ≤ n ∧ lo = .int .i64 x ∧ hi = .int .i64 y ∧ W = wr) (fun lo hi _ => (intOf hi).toNat - (intOf lo).toNat)
  case atStart => exact ⟨0, n, by omega, hcn, Nat.le_refl _, rfl, rfl, rfl⟩
  case round =>
    obtain ⟨x, y, hx, hy, hyn, rfl, rfl, rfl⟩ := hrel
    by_cases hlt : x < y
    · have hmn : (x + y) / 2 < n := by omega
      have hmy : (x + y) / 2 < y := by omega
      have hxm : x ≤ (x + y) / 2 := by omega
      obtain ⟨vb, vo, rfl, hvb, hcs⟩ := HC.out (by omega)
      have HRm := hcs _ hmn
      have hlk := ltk_cntk HSt.out t k (j := (x + y) / 2) (by rw [← HN.out]; exact hmn)
      rw [Hc.out] at hlk
      clear hcs
      obtain ⟨⟨rt, rk, ⟨ra, rb, rc⟩⟩, Hr⟩ : ∃ r, Hid (L.getD ((x + y) / 2) rowZ = r) := ⟨_, Lib.hid rfl⟩
      rw [Hr.out] at HRm hlk
      obtain ⟨y0, y1, y2, y3, y4⟩ := HRm.cells
      simp only at y0 y1 y2 y3 y4
      have HL := Lib.hid hlk
      clear HRm hlk
      simp only [ltk] at HL
      by_cases g1 : rt < t
      · have d1 : decide (rt < t) = true := decide_eq_true g1
        have hmc : (x + y) / 2 < c := by have := HL.out; simp [g1] at this; exact this
        clear g1
        go_wp2_with fail
        exact ⟨⟨(x + y) / 2 + 1, y, by omega, hy, hyn, by go_num, rfl, trivial⟩, by simp [intOf]; omega⟩
      · have d1 : decide (rt < t) = false := decide_eq_false g1
        by_cases g2 : rt = t
        · have d2 : (rt == t) = true := by simp [g2]
          by_cases g3 : rk < k
          · have d3 : decide (rk < k) = true := decide_eq_true g3
            have hmc : (x + y) / 2 < c := by have := HL.out; simp [g2, g3] at this; exact this
            clear g1 g2 g3
            go_wp2_with fail
            exact ⟨⟨(x + y) / 2 + 1, y, by omega, hy, hyn, by go_num, rfl, trivial⟩, by simp [intOf]; omega⟩
          · have d3 : decide (rk < k) = false := decide_eq_false g3
            have hmc : c ≤ (x + y) / 2 := by have := HL.out; simp [g2, g3] at this; exact this
            clear g1 g2 g3
            go_wp2_with fail
            exact ⟨⟨x, (x + y) / 2, hx, hmc, by omega, rfl, by go_num, trivial⟩, by simp [intOf]; omega⟩
        · have d2 : (rt == t) = false := by simp [g2]
          have hmc : c ≤ (x + y) / 2 := by have := HL.out; simp [g1, g2] at this; exact this
          clear g1 g2
          go_wp2_with fail
          exact ⟨⟨x, (x + y) / 2, hx, hmc, by omega, rfl, by go_num, trivial⟩, by simp [intOf]; omega⟩
    · obtain rfl : x = c := by omega
      go_wp2_with fail
      go_ret
      exact ⟨rfl, rfl⟩
theorem place_any {W : World} {b : Nat} {v : Value} {L : List MRow} {p : Int} (h : RfAt W b v L p) (t k : Int) :
    Calls Try.prog 38 #[.pointer (some ⟨b, 0, none⟩), .int .i64 t, .int .i64 k] W fun e w' => e = .returned (.int .i64 (cntk L t k)) ∧ W = w' := place_in h.in t k
end Go.Proofs.Ytaapggeaoacikaa
