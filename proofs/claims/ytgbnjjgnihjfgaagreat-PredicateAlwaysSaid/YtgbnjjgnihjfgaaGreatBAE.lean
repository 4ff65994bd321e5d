/- MERGED: X1, X2, X3, X4, X5, X5b, X6, X7, L1. -/
import Derived.Test.YtgbnjjgnihjfgaaGreatProg
import Derived.WalkKit
import Derived.Below
import Derived.Lib.Hide
import Derived.Laws.StructEq
import Derived.Lib.QuietBelow
import Derived.Deep.RegionHeld3
import Derived.Deep.RegionWith
import Derived.IntWalk
import Derived.BigQuiet
import Derived.Maps.RangeWalk
import Derived.DeepKeys4
import Derived.OneCell
import Derived.StillTail
import Derived.Deep.CutRange
import Derived.Outline
import Derived.WalkSpells
import Derived.Carry
import Derived.Shelf.SlGeneric
import Derived.Shelf.SlSortCmp.WholeK
import Derived.Shelf.SlicesG.Cmp
import Derived.Ground.SlsfProg
import Derived.Ground.SlgcProg
import Derived.Sort.OwnSorted
import Derived.Deep.AppendLies
import Derived.Shelf.SlSortCmp.NoneTotal
import Derived.Deep.QuietTactic
import Derived.Laws.AppendOwnNone
import Derived.Test.YtgbnjjgnihjfgaaGreatBAA
import Derived.Test.YtgbnjjgnihjfgaaGreatBAB
import Derived.Test.YtgbnjjgnihjfgaaGreatBAC
import Derived.Test.YtgbnjjgnihjfgaaGreatBAD
section
set_option linter.unusedVariables false
set_option linter.unusedSimpArgs false
namespace Go.Proofs.YtgbnjjgnihjfgaaGreat
open Go.RowKit Go.Sort Go.ChangeMaps Go.MapKept

/-! ### Plain: where a table and a key stand -/
def cntk (L : List MRow) (t k : Int) : Nat := (L.filter (ltk t k)).length
theorem cntk_le (L : List MRow) (t k : Int) : cntk L t k ≤ L.length := List.length_filter_le _ _
theorem take_cntk {L : List MRow} (h : Srt L) (t k : Int) : L.take (cntk L t k) = L.filter (ltk t k) := by
  have e := split_at h t k
  have : (L.filter (ltk t k) ++ ((look L t k).toList ++ L.filter (gtk t k))).take (cntk L t k) = L.filter (ltk t k) := by
    rw [cntk, List.take_left]
  rwa [← e] at this
theorem drop_cntk {L : List MRow} (h : Srt L) (t k : Int) : L.drop (cntk L t k) = (look L t k).toList ++ L.filter (gtk t k) := by
  have e := split_at h t k
  have : (L.filter (ltk t k) ++ ((look L t k).toList ++ L.filter (gtk t k))).drop (cntk L t k) = (look L t k).toList ++ L.filter (gtk t k) := by
    rw [cntk, List.drop_left]
  rwa [← e] at this
theorem ltk_cntk {L : List MRow} (h : Srt L) (t k : Int) {j : Nat} (hj : j < L.length) : ltk t k (L.getD j rowZ) = decide (j < cntk L t k) := by
  rw [List.getD_eq_getElem?_getD]
  rcases Nat.lt_or_ge j (cntk L t k) with h1 | h1
  · rw [decide_eq_true h1]
    have : L[j]? = (L.filter (ltk t k))[j]? := by rw [← take_cntk h t k, List.getElem?_take_of_lt h1]
    rw [this, List.getElem?_eq_getElem h1, Option.getD_some]
    exact (List.mem_filter.1 (List.getElem_mem h1)).2
  · rw [decide_eq_false (by omega)]
    have : L[j]? = ((look L t k).toList ++ L.filter (gtk t k))[j - cntk L t k]? := by rw [← drop_cntk h t k, List.getElem?_drop, show cntk L t k + (j - cntk L t k) = j by omega]
    rw [List.getElem?_eq_getElem hj] at this ⊢
    have hm := List.mem_of_getElem? this.symm
    rw [Option.getD_some]
    rcases List.mem_append.1 hm with h2 | h2
    · rw [Option.mem_toList] at h2
      have := (look_some h).1 h2
      unfold ltk
      exact decide_eq_false (by omega)
    · have := (List.mem_filter.1 h2).2
      simp only [gtk, decide_eq_true_eq] at this
      unfold ltk
      exact decide_eq_false (by omega)
theorem look_cntk {L : List MRow} (h : Srt L) (t k : Int) : look L t k = if cntk L t k < L.length ∧ (L.getD (cntk L t k) rowZ).t = t ∧ (L.getD (cntk L t k) rowZ).k = k then some (L.getD (cntk L t k) rowZ) else none := by
  have e := drop_cntk h t k
  split
  · next hh =>
    rw [look_some h]
    exact ⟨getD_mem hh.1, hh.2⟩
  · next hh =>
    cases hl : look L t k with
    | none => rfl
    | some r =>
      exfalso
      apply hh
      rw [hl] at e
      have e2 := congrArg List.head? e
      simp only [Option.toList_some, List.cons_append, List.head?_cons, List.head?_drop] at e2
      have hlt := List.getElem?_eq_some_iff.1 e2
      obtain ⟨h1, h2⟩ := hlt
      have h3 := (look_some h).1 hl
      rw [List.getD_eq_getElem?_getD, e2, Option.getD_some]
      exact ⟨h1, h3.2⟩

/-! ### The state -/
theorem OwnR.kept' {F : Nat → Prop} {W W' : World} {base : Nat} {v : Value} {M : List MRow} (h : OwnR W base v M) (k : Kept F W W') (hF : ∀ i, v.ownBlock = some i → ¬ F i) : OwnR W' base v M := by
  obtain ⟨hl, h⟩ := h
  exact ⟨hl, h.imp id fun ⟨g, cap, cur, e, hg, hb, r⟩ => ⟨g, cap, cur, e, hg, (k.block g (lt_of_block hb) (hF g (by rw [e]; rfl))).trans hb, r⟩⟩
/-- Block b is a state of the reference with the rows of L in the slice v, at position p. -/
structure RfAt (W : World) (b : Nat) (v : Value) (L : List MRow) (p : Int) : Prop where
  blk : W.heap[b]? = some (.cells #[v, .int .i64 p] 75 (0, 0))
  own : OwnR W 0 v L
  good : GoodL L
  pos : 0 ≤ p ∧ p ≤ 10000
def rfoot (b : Nat) (v : Value) : Nat → Prop := fun k => k = b ∨ v.ownBlock = some k
theorem RfAt.lt {W : World} {b : Nat} {v : Value} {L : List MRow} {p : Int} (h : RfAt W b v L p) : b < W.heap.size := lt_of_block h.blk
theorem RfAt.kept {W W' : World} {F : Nat → Prop} {b : Nat} {v : Value} {L : List MRow} {p : Int} (h : RfAt W b v L p) (k : Kept F W W') (hF : ∀ i, rfoot b v i → ¬ F i) : RfAt W' b v L p :=
  ⟨(k.block b h.lt (hF b (.inl rfl))).trans h.blk, h.own.kept' k (fun i e => hF i (.inr e)), h.good, h.pos⟩
theorem RfAt.below {W W' : World} {b : Nat} {v : Value} {L : List MRow} {p : Int} (h : RfAt W b v L p) (k : Below W.heap.size W W') : RfAt W' b v L p := h.kept (F := fun _ => False) (Kept.of_below k) (fun _ _ => id)
theorem RfAt.cells {W : World} {b : Nat} {v : Value} {L : List MRow} {p : Int} (h : RfAt W b v L p) : W.cell? ⟨b, 0, none⟩ = some v ∧ W.cell? ⟨b, 1, none⟩ = some (.int .i64 p) ∧ W.frozen? ⟨b, 0, none⟩ = false ∧ W.frozen? ⟨b, 1, none⟩ = false :=
  ⟨by simp [World.cell?, h.blk], by simp [World.cell?, h.blk], by simp [World.frozen?, h.blk], by simp [World.frozen?, h.blk]⟩
theorem RfAt.own_lt {W : World} {b : Nat} {v : Value} {L : List MRow} {p : Int} (h : RfAt W b v L p) {i : Nat} (e : v.ownBlock = some i) : i < W.heap.size ∧ i ≠ b := by
  obtain ⟨_, h1⟩ := h.own
  have hb := h.blk
  rcases h1 with ⟨rfl, _⟩ | ⟨g, cap, cur, rfl, hg, hbk, r⟩
  · simp [Value.ownBlock] at e
  · simp [Value.ownBlock] at e
    subst e
    refine ⟨lt_of_block hbk, fun hh => ?_⟩
    rw [hh, hb] at hbk
    simp at hbk

/-- .. in the middle of a record. -/
structure RfIn (W : World) (b : Nat) (v : Value) (L : List MRow) (p : Int) : Prop where
  blk : W.heap[b]? = some (.cells #[v, .int .i64 p] 75 (0, 0))
  own : OwnR W 0 v L
  srt : Srt L
  len : L.length ≤ 4000
theorem RfAt.in {W : World} {b : Nat} {v : Value} {L : List MRow} {p : Int} (h : RfAt W b v L p) : RfIn W b v L p := ⟨h.blk, h.own, h.good.1, by have := h.good.2.2; omega⟩
theorem RfIn.lt {W : World} {b : Nat} {v : Value} {L : List MRow} {p : Int} (h : RfIn W b v L p) : b < W.heap.size := lt_of_block h.blk
theorem RfIn.cells {W : World} {b : Nat} {v : Value} {L : List MRow} {p : Int} (h : RfIn W b v L p) : W.cell? ⟨b, 0, none⟩ = some v ∧ W.cell? ⟨b, 1, none⟩ = some (.int .i64 p) ∧ W.frozen? ⟨b, 0, none⟩ = false ∧ W.frozen? ⟨b, 1, none⟩ = false :=
  ⟨by simp [World.cell?, h.blk], by simp [World.cell?, h.blk], by simp [World.frozen?, h.blk], by simp [World.frozen?, h.blk]⟩
theorem RfIn.kept {W W' : World} {F : Nat → Prop} {b : Nat} {v : Value} {L : List MRow} {p : Int} (h : RfIn W b v L p) (k : Kept F W W') (hF : ∀ i, rfoot b v i → ¬ F i) : RfIn W' b v L p :=
  ⟨(k.block b h.lt (hF b (.inl rfl))).trans h.blk, h.own.kept' k (fun i e => hF i (.inr e)), h.srt, h.len⟩
theorem RfIn.below {W W' : World} {b : Nat} {v : Value} {L : List MRow} {p : Int} (h : RfIn W b v L p) (k : Below W.heap.size W W') : RfIn W' b v L p := h.kept (F := fun _ => False) (Kept.of_below k) (fun _ _ => id)

theorem newR_any (W : World) : Calls Tryz.prog 31 #[] W fun e w' => e = .returned (.pointer (some ⟨W.heap.size, 0, none⟩)) ∧ w' = W.alloc (.cells #[.slice none 0 0, .int .i64 0] 75) := by
  go_enter Tryz.func31, Tryz.ntmps31
  go_wp2_with fail
  go_ret
  exact ⟨rfl, rfl⟩
theorem rfAt_new (W : World) : RfAt (W.alloc (.cells #[.slice none 0 0, .int .i64 0] 75)) W.heap.size (.slice none 0 0) [] 0 :=
  ⟨(MapKept.heap_alloc W _).1, OwnR.nil _ _, goodL_nil, by omega⟩

set_option maxRecDepth 100000 in
set_option maxHeartbeats 4000000 in
theorem place_in {W : World} {b : Nat} {v : Value} {L : List MRow} {p : Int} (h : RfIn W b v L p) (t k : Int) :
    Calls Tryz.prog 61 #[.pointer (some ⟨b, 0, none⟩), .int .i64 t, .int .i64 k] W fun e w' => e = .returned (.int .i64 (cntk L t k)) ∧ W = w' := by
  obtain ⟨c0, c1, _, _⟩ := h.cells
  have HSt : Hid (Srt L) := Lib.hid h.srt
  have HR : Hid (RowS W v L) := Lib.hid h.own.rowS
  have hlen := h.len
  obtain ⟨a, n, cap, rfl, hn, hc1, hc2, hcell⟩ := HR.out
  have HN := Lib.hid hn
  have hn2 : n ≤ 4000 := by omega
  have HC := Lib.hid hcell
  obtain ⟨c, Hc⟩ : ∃ c, Hid (cntk L t k = c) := ⟨_, Lib.hid rfl⟩
  have hcn : c ≤ n := by rw [← Hc.out, HN.out]; exact cntk_le _ _ _
  rw [Hc.out]
  clear h hcell hn hlen
  go_enter Tryz.func61, Tryz.ntmps61
  go_wp2_with fail
  go_loopw [7, 8] (fun lo hi wr => ∃ x y : Nat, x ≤ c ∧ c ≤ y ∧ y ≤ n ∧ lo = .int .i64 x ∧ hi = .int .i64 y ∧ W = wr) (fun lo hi _ => (intOf hi).toNat - (intOf lo).toNat)
  case atStart => exact ⟨0, n, by omega, hcn, Nat.le_refl _, rfl, rfl, rfl⟩
  case round =>
    obtain ⟨x, y, hx, hy, hyn, rfl, rfl, rfl⟩ := hrel
    by_cases hlt : x < y
    · have hmn : (x + y) / 2 < n := by omega
      have hmy : (x + y) / 2 < y := by omega
      have hxm : x ≤ (x + y) / 2 := by omega
      obtain ⟨vb, vo, rfl, hvb, hcs⟩ := HC.out (by omega)
      have HRm := hcs _ hmn
      have hlk := ltk_cntk HSt.out t k (j := (x + y) / 2) (by rw [← HN.out]; exact hmn)
      rw [Hc.out] at hlk
      clear hcs
      obtain ⟨⟨rt, rk, ⟨ra, rb, rc⟩⟩, Hr⟩ : ∃ r, Hid (L.getD ((x + y) / 2) rowZ = r) := ⟨_, Lib.hid rfl⟩
      rw [Hr.out] at HRm hlk
      obtain ⟨y0, y1, y2, y3, y4⟩ := HRm.cells
      simp only at y0 y1 y2 y3 y4
      have HL := Lib.hid hlk
      clear HRm hlk
      simp only [ltk] at HL
      by_cases g1 : rt < t
      · have d1 : decide (rt < t) = true := decide_eq_true g1
        have hmc : (x + y) / 2 < c := by have := HL.out; simp [g1] at this; exact this
        clear g1
        go_wp2_with fail
        exact ⟨⟨(x + y) / 2 + 1, y, by omega, hy, hyn, by go_num, rfl, trivial⟩, by simp [intOf]; omega⟩
      · have d1 : decide (rt < t) = false := decide_eq_false g1
        by_cases g2 : rt = t
        · have d2 : (rt == t) = true := by simp [g2]
          by_cases g3 : rk < k
          · have d3 : decide (rk < k) = true := decide_eq_true g3
            have hmc : (x + y) / 2 < c := by have := HL.out; simp [g2, g3] at this; exact this
            clear g1 g2 g3
            go_wp2_with fail
            exact ⟨⟨(x + y) / 2 + 1, y, by omega, hy, hyn, by go_num, rfl, trivial⟩, by simp [intOf]; omega⟩
          · have d3 : decide (rk < k) = false := decide_eq_false g3
            have hmc : c ≤ (x + y) / 2 := by have := HL.out; simp [g2, g3] at this; exact this
            clear g1 g2 g3
            go_wp2_with fail
            exact ⟨⟨x, (x + y) / 2, hx, hmc, by omega, rfl, by go_num, trivial⟩, by simp [intOf]; omega⟩
        · have d2 : (rt == t) = false := by simp [g2]
          have hmc : c ≤ (x + y) / 2 := by have := HL.out; simp [g1, g2] at this; exact this
          clear g1 g2
          go_wp2_with fail
          exact ⟨⟨x, (x + y) / 2, hx, hmc, by omega, rfl, by go_num, trivial⟩, by simp [intOf]; omega⟩
    · obtain rfl : x = c := by omega
      go_wp2_with fail
      go_ret
      exact ⟨rfl, rfl⟩
theorem place_any {W : World} {b : Nat} {v : Value} {L : List MRow} {p : Int} (h : RfAt W b v L p) (t k : Int) :
    Calls Tryz.prog 61 #[.pointer (some ⟨b, 0, none⟩), .int .i64 t, .int .i64 k] W fun e w' => e = .returned (.int .i64 (cntk L t k)) ∧ W = w' := place_in h.in t k
end Go.Proofs.YtgbnjjgnihjfgaaGreat
end

section
set_option linter.unusedVariables false
set_option linter.unusedSimpArgs false
namespace Go.Proofs.YtgbnjjgnihjfgaaGreat
open Go.RowKit Go.Sort Go.ChangeMaps Go.MapKept

theorem getR_out {L : List MRow} {t k : Int} {r : MRow} {W w' : World} (h : look L t k = some r) (hb : Below W.heap.size W w') :
    Ending.returned (.tuple #[rowV r, .bool true]) = .returned (.tuple #[rowV ((look L t k).getD rowZ), .bool (look L t k).isSome]) ∧ Below W.heap.size W w' := by rw [h]; exact ⟨rfl, hb⟩
theorem getR_no {L : List MRow} {t k : Int} {W w' : World} (h : look L t k = none) (hb : Below W.heap.size W w') :
    Ending.returned (.tuple #[rowV rowZ, .bool false]) = .returned (.tuple #[rowV ((look L t k).getD rowZ), .bool (look L t k).isSome]) ∧ Below W.heap.size W w' := by rw [h]; exact ⟨rfl, hb⟩

set_option maxRecDepth 100000 in
set_option maxHeartbeats 4000000 in
theorem getR_any {W : World} {b : Nat} {v : Value} {L : List MRow} {p : Int} (h : RfAt W b v L p) (t k : Int) :
    Calls Tryz.prog 32 #[.pointer (some ⟨b, 0, none⟩), .int .i64 t, .int .i64 k] W fun e w' => e = .returned (.tuple #[rowV ((look L t k).getD rowZ), .bool (look L t k).isSome]) ∧ Below W.heap.size W w' := by
  have hlk := look_cntk h.good.1 t k
  have HP := fun o => place_any (h.below (ba W o)) t k
  have hblt := h.lt
  have hbne : ¬ b = W.heap.size := by omega
  obtain ⟨c0, c1, _, _⟩ := h.cells
  have HR : Hid (RowS W v L) := Lib.hid h.own.rowS
  have hlen := h.good.2.2
  obtain ⟨a, n, cap, rfl, hn, hc1, hc2, hcell⟩ := HR.out
  have HN := Lib.hid hn
  have hn2 : n ≤ 2000 := by omega
  have HC := Lib.hid hcell
  obtain ⟨c, Hc⟩ : ∃ c, Hid (cntk L t k = c) := ⟨_, Lib.hid rfl⟩
  have hcn : c ≤ n := by rw [← Hc.out, HN.out]; exact cntk_le _ _ _
  rw [Hc.out, ← HN.out] at hlk
  simp only [Hc.out] at HP
  have HPl := Lib.hid HP
  clear h hcell hn hlen HP
  by_cases hlt : c < n
  · obtain ⟨vb, vo, rfl, hvb, hcs⟩ := HC.out (by omega)
    have hvne : ¬ vb = W.heap.size := by omega
    have HRm := hcs _ hlt
    clear hcs
    obtain ⟨⟨rt, rk, ⟨ra, rb, rc⟩⟩, Hr⟩ : ∃ r, Hid (L.getD c rowZ = r) := ⟨_, Lib.hid rfl⟩
    rw [Hr.out] at HRm hlk
    obtain ⟨y0, y1, y2, y3, y4⟩ := HRm.cells
    simp only at y0 y1 y2 y3 y4
    simp only at hlk
    by_cases g2 : rt = t
    · have d2 : (rt == t) = true := by simp [g2]
      by_cases g3 : rk = k
      · have d3 : (rk == k) = true := by simp [g3]
        have HL : Hid (look L t k = some ⟨rt, rk, ⟨ra, rb, rc⟩⟩) := Lib.hid (by rw [hlk, if_pos ⟨hlt, g2, g3⟩])
        clear HRm hlk g2 g3
        go_enter Tryz.func32, Tryz.ntmps32
        go_wp2_with fail
        (with_reducible refine (HPl.out _).mono ?_)
        rintro e w1 ⟨rfl, rfl⟩
        go_wp2_with fail
        refine bodyPost_ret (v := .tuple #[rowV ⟨rt, rk, ⟨ra, rb, rc⟩⟩, .bool true]) (by simp [results, Tryz.results32, go_sem, rowV]) rfl (getR_out HL.out (ba W _))
      · have d3 : (rk == k) = false := by simp [g3]
        have HL : Hid (look L t k = none) := Lib.hid (by rw [hlk, if_neg (fun h => g3 h.2.2)])
        clear HRm hlk g2 g3
        go_enter Tryz.func32, Tryz.ntmps32
        go_wp2_with fail
        (with_reducible refine (HPl.out _).mono ?_)
        rintro e w1 ⟨rfl, rfl⟩
        go_wp2_with fail
        refine bodyPost_ret (v := .tuple #[rowV rowZ, .bool false]) (by simp [results, Tryz.results32, go_sem, rowV, rowZ]) rfl (getR_no HL.out (ba W _))
    · have d2 : (rt == t) = false := by simp [g2]
      have HL : Hid (look L t k = none) := Lib.hid (by rw [hlk, if_neg (fun h => g2 h.2.1)])
      clear HRm hlk g2
      go_enter Tryz.func32, Tryz.ntmps32
      go_wp2_with fail
      (with_reducible refine (HPl.out _).mono ?_)
      rintro e w1 ⟨rfl, rfl⟩
      go_wp2_with fail
      refine bodyPost_ret (v := .tuple #[rowV rowZ, .bool false]) (by simp [results, Tryz.results32, go_sem, rowV, rowZ]) rfl (getR_no HL.out (ba W _))
  · have HL : Hid (look L t k = none) := Lib.hid (by rw [hlk, if_neg (fun h => hlt h.1)])
    clear hlk
    go_enter Tryz.func32, Tryz.ntmps32
    go_wp2_with fail
    (with_reducible refine (HPl.out _).mono ?_)
    rintro e w1 ⟨rfl, rfl⟩
    go_wp2_with fail
    refine bodyPost_ret (v := .tuple #[rowV rowZ, .bool false]) (by simp [results, Tryz.results32, go_sem, rowV, rowZ]) rfl (getR_no HL.out (ba W _))
end Go.Proofs.YtgbnjjgnihjfgaaGreat
end

section
set_option linter.unusedVariables false
set_option linter.unusedSimpArgs false
namespace Go.Proofs.YtgbnjjgnihjfgaaGreat
open Go.RowKit Go.Sort Go.ChangeMaps Go.MapKept

end Go.Proofs.YtgbnjjgnihjfgaaGreat
end

section
set_option linter.unusedVariables false
set_option linter.unusedSimpArgs false
namespace Go.Proofs.YtgbnjjgnihjfgaaGreat
open Go.RowKit Go.Sort Go.ChangeMaps Go.MapKept

theorem below_drewN (w : World) (d : Nat) : Below w.heap.size w (w.drewN d) := ⟨rfl, rfl, rfl, Nat.le_refl _, fun _ _ => rfl⟩
theorem ret_dec {p : Prop} [Decidable p] {W w' : World} (b : Bool) (h : p ↔ b = true) (hb : Below W.heap.size W w') : Ending.returned (.bool b) = .returned (.bool (decide p)) ∧ Below W.heap.size W w' :=
  ⟨by rw [show decide p = b by cases b <;> simp_all], hb⟩

set_option maxRecDepth 100000 in
set_option maxHeartbeats 4000000 in
theorem sameRows_any {W : World} {u v : Value} {M N : List MRow} (h : RowS W u M) (h' : RowS W v N) :
    Calls Tryz.prog 45 #[u, v] W fun e w' => e = .returned (.bool (decide (M = N))) ∧ Below W.heap.size W w' := by
  obtain ⟨a, n, cap, rfl, hn, hc1, hc2, hcell⟩ := h
  obtain ⟨a', n', cap', rfl, hn', hc1', hc2', hcell'⟩ := h'
  have HC := Lib.hid hcell
  have HC' := Lib.hid hcell'
  clear hcell hcell'
  by_cases hlen : n = n'
  · subst hlen
    have HN := Lib.hid hn
    have HN' := Lib.hid hn'
    have hn63 : n ≤ 9223372036854775807 := by omega
    clear hn hn'
    go_enter Tryz.func45, Tryz.ntmps45
    go_wp2_with fail
    go_loopw [5] (fun i wr => ∃ k : Nat, k ≤ n ∧ i = .int .i64 k ∧ Hid (M.take k = N.take k) ∧ Hid (Below W.heap.size W wr)) (fun i _ => n - (intOf i).toNat)
    case atStart => exact ⟨0, by omega, rfl, Lib.hid rfl, Lib.hid (Below.refl _ _)⟩
    case round =>
      obtain ⟨k, hk, rfl, HE, HB⟩ := hrel
      by_cases hlt : k < n
      · obtain ⟨vb, vo, rfl, hvb, hcs⟩ := HC.out (by omega)
        obtain ⟨vb', vo', rfl, hvb', hcs'⟩ := HC'.out (by omega)
        have HR1 := (hcs k hlt).below hvb HB.out
        have HR2 := (hcs' k hlt).below hvb' HB.out
        have Ht1 : Hid (M.take (k + 1) = M.take k ++ [M.getD k rowZ]) := Lib.hid (take_snoc' (by rw [← HN.out]; exact hlt))
        have Ht2 : Hid (N.take (k + 1) = N.take k ++ [N.getD k rowZ]) := Lib.hid (take_snoc' (by rw [← HN'.out]; exact hlt))
        clear hcs hcs'
        obtain ⟨⟨rt, rk, ⟨ra, rb, rc⟩⟩, Hr⟩ : ∃ r, Hid (M.getD k rowZ = r) := ⟨_, Lib.hid rfl⟩
        obtain ⟨⟨st, sk, ⟨sa, sb, sc⟩⟩, Hs⟩ : ∃ r, Hid (N.getD k rowZ = r) := ⟨_, Lib.hid rfl⟩
        rw [Hr.out] at HR1 Ht1
        rw [Hs.out] at HR2 Ht2
        obtain ⟨y0, y1, y2, y3, y4⟩ := HR1.cells
        obtain ⟨z0, z1, z2, z3, z4⟩ := HR2.cells
        simp only at y0 y1 y2 y3 y4 z0 z1 z2 z3 z4
        clear HR1 HR2
        have hki : (k : Int) < n := by omega
        have hne := fun w => neqRow rt rk ra rb rc st sk sa sb sc w
        by_cases g : (⟨rt, rk, ⟨ra, rb, rc⟩⟩ : MRow) = ⟨st, sk, ⟨sa, sb, sc⟩⟩
        · have d1 : rowE ⟨rt, rk, ⟨ra, rb, rc⟩⟩ ⟨st, sk, ⟨sa, sb, sc⟩⟩ = true := by rw [rowE]; simpa using g
          have HEn : Hid (M.take (k + 1) = N.take (k + 1)) := Lib.hid (by rw [Ht1.out, Ht2.out, HE.out, g])
          simp only [d1, Bool.not_true] at hne
          clear g d1
          go_wp2_with fail
          go_quiet (fail)
          have HB2 := Lib.hid (bt HB.out (below_drewN wr nq))
          go_wp2_with fail
          exact ⟨⟨k + 1, by omega, by go_num, HEn, HB2⟩, by simp [intOf]; omega⟩
        · have d1 : rowE ⟨rt, rk, ⟨ra, rb, rc⟩⟩ ⟨st, sk, ⟨sa, sb, sc⟩⟩ = false := by rw [rowE]; simpa using g
          have HEn : Hid (¬ M = N) := Lib.hid (fun e => g (by rw [← Hr.out, ← Hs.out, e]))
          simp only [d1, Bool.not_false] at hne
          clear g d1
          go_wp2_with fail
          go_quiet (fail)
          have HB2 := Lib.hid (bt HB.out (below_drewN wr nq))
          go_wp2_with fail
          go_ret
          exact ret_dec false (by simp [HEn.out]) HB2.out
      · obtain rfl : k = n := by omega
        have HEn : Hid (M = N) := Lib.hid (by
          have := HE.out
          rwa [HN.out, List.take_length, ← HN.out, HN'.out, List.take_length] at this)
        go_wp2_with fail
        go_ret
        exact ret_dec true (by simp [HEn.out]) HB.out
  · have HE : Hid (¬ M = N) := Lib.hid (fun e => hlen (by rw [hn, hn', e]))
    have d1 : ((n : Int) != (n' : Int)) = true := by simp; omega
    clear hn hn' hlen
    go_enter Tryz.func45, Tryz.ntmps45
    go_wp2_with fail
    go_ret
    exact ret_dec false (by simp [HE.out]) (Below.refl _ _)
end Go.Proofs.YtgbnjjgnihjfgaaGreat
end

section
set_option linter.unusedVariables false
set_option linter.unusedSimpArgs false
namespace Go.Proofs.YtgbnjjgnihjfgaaGreat
open Go.RowKit Go.Sort Go.ChangeMaps Go.MapKept

theorem rvr_t {p : Int} {v : Value} {L : List MCh} {w : World} (hv : ChS w v L) (h : VRec p L) : Calls Tryz.prog 62 #[.agg #[.int .i64 p, v]] w fun e w' => e = .returned (.bool true) ∧ Below w.heap.size w w' :=
  (refValidRecord_any p v L w hv).mono fun e w' ⟨he, hb⟩ => ⟨by rw [he, vrec, decide_eq_true h], hb⟩
theorem rvr_f {p : Int} {v : Value} {L : List MCh} {w : World} (hv : ChS w v L) (h : ¬ VRec p L) : Calls Tryz.prog 62 #[.agg #[.int .i64 p, v]] w fun e w' => e = .returned (.bool false) ∧ Below w.heap.size w w' :=
  (refValidRecord_any p v L w hv).mono fun e w' ⟨he, hb⟩ => ⟨by rw [he, vrec, decide_eq_false h], hb⟩

set_option maxRecDepth 100000 in
set_option maxHeartbeats 4000000 in
theorem applyR_inv {W : World} {b : Nat} {v : Value} {L : List MRow} {p : Int} (h : RfAt W b v L p) {pos : Int} {cs : List MCh} {u : Value} (hv : ChS W u cs) (ho : ¬ (VRec pos cs ∧ pos = p + 1)) :
    Calls Tryz.prog 33 #[.pointer (some ⟨b, 0, none⟩), .agg #[.int .i64 pos, u]] W fun e w' => e = .returned (.int .i64 40) ∧ Below W.heap.size W w' := by
  have HS := Lib.hid h
  have HV := Lib.hid hv
  have hw1 : IntKind.i64.wrap (p + 1) = p + 1 := by rw [IntKind.wrap_i64]; have := h.pos; omega
  obtain ⟨ua, un, ucap, rfl, hrest⟩ := hv
  clear hrest
  by_cases h1 : VRec pos cs
  · have h2 : ¬ pos = p + 1 := fun h2 => ho ⟨h1, h2⟩
    have H1 := Lib.hid h1
    have d2 : (pos != p + 1) = true := by simp [h2]
    clear h ho h1 h2
    go_enter Tryz.func33, Tryz.ntmps33
    go_wp2_with fail
    (with_reducible refine (rvr_t (HV.out.below (ba W _)) H1.out).mono ?_)
    rintro e w1 ⟨rfl, hb⟩
    have HB := Lib.hid (bt (ba W _) hb)
    have HR : Hid (w1.heap[W.heap.size]? = some (.cells #[.int .i64 pos, .slice ua un ucap] 41 (0, 0))) := Lib.hid ((hb.block _ (by simp)).trans (MapKept.heap_alloc W _).1)
    have r0 : w1.cell? ⟨W.heap.size, 0, none⟩ = some (.int .i64 pos) := by simp [World.cell?, HR.out]
    obtain ⟨c0, c1, _, _⟩ := (HS.out.below HB.out).cells
    clear hb
    go_wp2_with fail
    go_quiet (fail)
    have HB2 := Lib.hid (bt HB.out (below_drewN w1 nq))
    go_wp2_with fail
    go_ret
    exact ⟨rfl, HB2.out⟩
  · have H1 := Lib.hid h1
    clear h ho h1
    go_enter Tryz.func33, Tryz.ntmps33
    go_wp2_with fail
    (with_reducible refine (rvr_f (HV.out.below (ba W _)) H1.out).mono ?_)
    rintro e w1 ⟨rfl, hb⟩
    have HB := Lib.hid (bt (ba W _) hb)
    clear hb
    go_wp2_with fail
    go_quiet (fail)
    have HB2 := Lib.hid (bt HB.out (below_drewN w1 nq))
    go_wp2_with fail
    go_ret
    exact ⟨rfl, HB2.out⟩
end Go.Proofs.YtgbnjjgnihjfgaaGreat
end

section
set_option linter.unusedVariables false
set_option linter.unusedSimpArgs false
namespace Go.Proofs.YtgbnjjgnihjfgaaGreat
open Go.RowKit Go.Sort Go.ChangeMaps Go.MapKept

/-- A slice, nil or with an address, that reads as the rows N. -/
def RowX (w : World) (u : Value) (N : List MRow) : Prop :=
  (u = .slice none 0 0 ∧ N = []) ∨ ∃ b o n cap, u = .slice (some ⟨b, o, none⟩) n cap ∧ n = N.length ∧ ∀ i, i < n → RwO w b (o + i * 5) (N.getD i rowZ)
theorem rowX_news {w : World} {b o : Nat} {N : List MRow} (h : ∀ i, i < N.length → RwO w b (o + i * 5) (N.getD i rowZ)) : ∀ j u, (flat N)[j]? = some u → w.cell? ((⟨b, o, none⟩ : Addr).add j) = some u := by
  intro j u hj
  have hlt := (List.getElem?_eq_some_iff.1 hj).1
  rw [flat_len] at hlt
  have h1 := flat_get N (j / 5) (j % 5) (by omega) (by omega)
  rw [show j / 5 * 5 + j % 5 = j by omega, hj] at h1
  have h2 := h (j / 5) (by omega) (j % 5) (by omega)
  rw [← h1] at h2
  rw [← h2]
  congr 1
  unfold Addr.add
  split
  · next h0 => subst h0; simp
  · simp only [Addr.mk.injEq, true_and, and_true]
    omega
theorem flat_one (N : List MRow) : ∀ u ∈ flat N, u.oneCell' = true := by
  intro u hu
  obtain ⟨r, _, hr⟩ := List.mem_flatMap.1 hu
  exact rcl_one r u hr
theorem RowX.kept {F : Nat → Prop} {w w' : World} {u : Value} {N : List MRow} (h : RowX w u N) (k : Kept F w w') (hF : ∀ i, u.ownBlock = some i → ¬ F i ∧ i < w.heap.size) : RowX w' u N := by
  rcases h with h | ⟨b, o, n, cap, rfl, hn, hc⟩
  · exact .inl h
  · obtain ⟨h1, h2⟩ := hF b rfl
    exact .inr ⟨b, o, n, cap, rfl, hn, fun i hi => (hc i hi).kept k h2 h1⟩

theorem wpList_append_rows {w : World} {ops : Array Oper} {rest : List Oper} {o : Oper} {a : Act} {Q : Exit → Act → World → Prop} (hgd : o.guard = none) (s x : Operand)
    (ho : o.op = .call { callee := .builtin .append, args := #[s, x], argTypes := #[32, 32] })
    (base : Nat) (v u : Value) (M N : List MRow) (hs : a.eval s = v) (hx : a.eval x = u) (hown : OwnR w base v M) (hN : RowX w u N) (hlen : M.length + N.length ≤ 100000) (hbase : base ≤ w.heap.size)
    (h : ∀ v' w', OwnR w' base v' (M ++ N) → w.grownBy w' v.ownBlock → wpList Tryz.prog ops Q rest (a.put o.dst v') w') : wpList Tryz.prog ops Q (o :: rest) a w := by
  obtain ⟨i0, hI, hZ0, hZ1, hZ2⟩ := info_parts Tryz.info57
  rcases hN with ⟨rfl, rfl⟩ | ⟨b, p, n, cap, rfl, rfl, hc⟩
  · refine wpList_append_own_none hgd s x 32 ho base 57 i0 5 Tryz.underlying32 hI v M.length (flat M) hs hown hx (h _ _ ?_ ⟨rfl, rfl, rfl, Nat.le_refl _, fun _ _ _ => rfl⟩)
    rw [List.append_nil]
    exact hown
  · refine wpList_append_own w hgd s x 32 ho base 57 i0 (.agg #[.int .i64 0, .int .i64 0, .int .i64 0, .int .i64 0, .int .i64 0]) 5 40 Tryz.underlying32 hI hZ0 hZ1 hZ2 rfl (by decide) v M.length (flat M) hs hown ⟨b, p, none⟩ N.length cap (flat N) hx (flat_len N) (rowX_news hc) (flat_one N) (by unfold maxLen; omega) (by omega) hbase ?_
    intro v' w' hown' hg _
    refine h v' w' ?_ hg
    unfold OwnR
    rw [List.length_append, flat_app]
    exact hown'
theorem below_grow {a w w' : World} {v : Value} {M : List MRow} (hB : Below a.heap.size a w) (ho : OwnR w a.heap.size v M) (hg : w.grownBy w' v.ownBlock) : Below a.heap.size a w' :=
  hB.grown hg hB.size (fun k hk => OwnR.own_ge ho hk)
theorem own_form {w : World} {base : Nat} {v : Value} {M : List MRow} (h : OwnR w base v M) : ∃ a n cap, v = .slice a n cap := by
  rcases h.2 with ⟨rfl, _⟩ | ⟨g, cap, cur, rfl, _⟩
  · exact ⟨_, _, _, rfl⟩
  · exact ⟨_, _, _, rfl⟩
theorem own_cells {w : World} {base g n cap : Nat} {M : List MRow} (h : OwnR w base (.slice (some ⟨g, 0, none⟩) n cap) M) : n = M.length ∧ (∀ i, i < M.length → RwO w g (i * 5) (M.getD i rowZ)) ∧ g < w.heap.size := by
  have hlt : g < w.heap.size := by
    rcases h.2 with ⟨e, _⟩ | ⟨g', cap', cur, e, _, hb, _⟩
    · cases e
    · simp at e
      rw [e.1]
      exact lt_of_block hb
  obtain ⟨a, n', cap', e, hn, _, _, hc⟩ := h.rowS
  simp at e
  obtain ⟨rfl, rfl, rfl⟩ := e
  refine ⟨hn, fun i hi => ?_, hlt⟩
  obtain ⟨b, o, e2, _, hc2⟩ := hc (by omega)
  simp at e2
  obtain ⟨rfl, rfl⟩ := e2
  have := hc2 i (by omega)
  rwa [Nat.zero_add] at this
theorem rowX_take {w wz : World} {base g n cap : Nat} {M : List MRow} (h : OwnR w base (.slice (some ⟨g, 0, none⟩) n cap) M) (q cap' : Nat) (hq : q ≤ M.length) (hB : Below w.heap.size w wz) : RowX wz (.slice (some ⟨g, 0, none⟩) q cap') (M.take q) := by
  obtain ⟨_, hc, hlt⟩ := own_cells h
  refine .inr ⟨g, 0, q, cap', rfl, by rw [List.length_take]; omega, fun i hi => ?_⟩
  have := (hc i (by omega)).below hlt hB
  rw [Nat.zero_add, List.getD_eq_getElem?_getD, List.getElem?_take_of_lt hi, ← List.getD_eq_getElem?_getD]
  exact this
theorem rowX_drop {w wz : World} {base g n cap : Nat} {M : List MRow} (h : OwnR w base (.slice (some ⟨g, 0, none⟩) n cap) M) (q l cap' o : Nat) (ho : o = q * 5) (hl : l = M.length - q) (hB : Below w.heap.size w wz) : RowX wz (.slice (some ⟨g, o, none⟩) l cap') (M.drop q) := by
  obtain ⟨_, hc, hlt⟩ := own_cells h
  refine .inr ⟨g, o, l, cap', rfl, by rw [List.length_drop]; omega, fun i hi => ?_⟩
  have := (hc (q + i) (by omega)).below hlt hB
  rw [ho, List.getD_eq_getElem?_getD, List.getElem?_drop, ← List.getD_eq_getElem?_getD, show q * 5 + i * 5 = (q + i) * 5 by omega]
  exact this
theorem rowX_none {wz : World} {g o l cap' : Nat} {M : List MRow} {q : Nat} (hq : M.length ≤ q) (hl : l = 0) : RowX wz (.slice (some ⟨g, o, none⟩) l cap') (M.drop q) := by
  rw [List.drop_eq_nil_of_le hq]
  exact .inr ⟨g, o, l, cap', rfl, hl, fun i hi => by omega⟩
theorem rowX_one {w : World} {g : Nat} {t k a b c : Int} (h : w.heap[g]? = some (.cells #[.int .i64 t, .int .i64 k, .int .i64 a, .int .i64 b, .int .i64 c] 57 (0, 0))) : RowX w (.slice (some ⟨g, 0, none⟩) 1 1) [⟨t, k, ⟨a, b, c⟩⟩] := by
  refine .inr ⟨g, 0, 1, 1, rfl, rfl, fun i hi => ?_⟩
  obtain rfl : i = 0 := by omega
  intro j hj
  match j, hj with
  | 0, _ => simp [World.cell?, h, rcl]
  | 1, _ => simp [World.cell?, h, rcl]
  | 2, _ => simp [World.cell?, h, rcl]
  | 3, _ => simp [World.cell?, h, rcl]
  | 4, _ => simp [World.cell?, h, rcl]

theorem rf_step {W wx w8 : World} {b : Nat} {vj v3 : Value} {M N : List MRow} {p : Int} {g : Nat} {rec : Obj} (HI : RfIn wx b vj M p) (HK : Kept (fun i => i = b) W wx) (HW : Below wx.heap.size wx w8) (HO : OwnR w8 wx.heap.size v3 N) (hs : Srt N) (hl : N.length ≤ 4000)
    (hrec : wx.heap[g]? = some rec) (hgb : g ≠ b) :
    RfIn (w8.setCell ⟨b, 0, none⟩ v3) b v3 N p ∧ Kept (fun i => i = b) W (w8.setCell ⟨b, 0, none⟩ v3) ∧ (w8.setCell ⟨b, 0, none⟩ v3).heap[g]? = some rec ∧ ∀ i, v3.ownBlock = some i → W.heap.size ≤ i := by
  have hblt := HI.lt
  have hk1 : Kept (fun i => i = b) w8 (w8.setCell ⟨b, 0, none⟩ v3) := Kept.setCell (F := fun i => i = b) (p := ⟨b, 0, none⟩) (Kept.refl _ _) (.inl rfl) _
  have hge : ∀ i, v3.ownBlock = some i → wx.heap.size ≤ i := fun i e => OwnR.own_ge HO e
  have hglt : g < wx.heap.size := by
    rcases Nat.lt_or_ge g wx.heap.size with h | h
    · exact h
    · rw [Array.getElem?_eq_none h] at hrec; cases hrec
  refine ⟨⟨two_setCell0 (HI.below HW).blk, (HO.mono (Nat.zero_le _)).kept' hk1 (fun i e f => ?_), hs, hl⟩, (HK.then HW).trans hk1 (fun _ _ f => f), ?_, fun i e => Nat.le_trans HK.size (hge i e)⟩
  · have := hge i e
    omega
  · rw [hk1.block g (Nat.lt_of_lt_of_le hglt HW.size) hgb, HW.block g hglt]
    exact hrec
theorem cnt_le (cs : List MCh) : ∀ n : Int, cnt n cs ≤ n + cs.length := by
  induction cs with
  | nil => intro n; simp [cnt]
  | cons c cs ih =>
    intro n
    rw [cnt_cons]
    have h := ih (n + dlt c)
    have h2 : dlt c ≤ 1 := by unfold dlt; split <;> split <;> omega
    rw [List.length_cons]
    omega
theorem fits_tk {L : List MRow} {cs : List MCh} (h : Fits L cs) (j : Nat) : Fits L (cs.take j) := fun c hc => h c (List.mem_of_mem_take hc)
theorem len_tk {L : List MRow} {cs : List MCh} (hs : Srt L) (ha : Apart cs) (hf : Fits L cs) (hl : L.length ≤ 2000) (h8 : cs.length ≤ 8) (j : Nat) : (stepAll L (cs.take j)).length ≤ 4000 := by
  have h1 := length_all hs (cs := cs.take j) (List.Pairwise.sublist (List.take_sublist _ _) ha) (fits_tk hf j)
  have h2 := cnt_le (cs.take j) L.length
  have h3 : (cs.take j).length ≤ 8 := by rw [List.length_take]; omega
  omega
end Go.Proofs.YtgbnjjgnihjfgaaGreat
end

section
set_option linter.unusedVariables false
set_option linter.unusedSimpArgs false
namespace Go.Proofs.YtgbnjjgnihjfgaaGreat
open Go.RowKit Go.Sort Go.ChangeMaps Go.MapKept

theorem fits_snoc {L : List MRow} {cs : List MCh} {c : MCh} (h : Fits L cs) (hc : fitC L c) : Fits L (cs ++ [c]) := fun d hd => by
  rcases List.mem_append.1 hd with e | e
  · exact h d e
  · rw [List.mem_singleton.1 e]; exact hc
theorem splice {M : List MRow} (h : Srt M) {c : MCh} (hf : fitC M c) : stepC M c = M.take (cntk M c.t c.k) ++ ((if c.has then [⟨c.t, c.k, c.n⟩] else []) ++ M.drop (cntk M c.t c.k + (if c.had then 1 else 0))) ∧ cntk M c.t c.k + (if c.had then 1 else 0) ≤ M.length := by
  have e := drop_cntk h c.t c.k
  have hl := congrArg List.length e
  unfold fitC at hf
  rw [hf] at e hl
  unfold stepC
  rw [take_cntk h, ← List.drop_drop, e]
  have hle := cntk_le M c.t c.k
  cases hh : c.had
  · simp
    exact hle
  · rw [hh] at hl
    simp at hl
    simp
    omega

/-- What the reference's Apply of the next record returns. -/
def APost (W : World) (b : Nat) (L : List MRow) (pos : Int) (cs : List MCh) (e : Ending) (w' : World) : Prop :=
  (Fits L cs ∧ cnt L.length cs ≤ 2000 ∧ e = .returned (.int .i64 0) ∧ ∃ v', RfIn w' b v' (stepAll L cs) pos ∧ Kept (fun k => k = b) W w' ∧ ∀ i, v'.ownBlock = some i → W.heap.size ≤ i) ∨
  (¬ (Fits L cs ∧ cnt L.length cs ≤ 2000) ∧ e = .returned (.int .i64 40) ∧ Below W.heap.size W w')

set_option maxRecDepth 100000 in
set_option maxHeartbeats 16000000 in
theorem applyR_next {W : World} {b : Nat} {v : Value} {L : List MRow} {p : Int} (h : RfAt W b v L p) {pos : Int} {cs : List MCh} {u : Value} (hv : ChS W u cs) (hr : VRec pos cs) (hp : pos = p + 1) :
    Calls Tryz.prog 33 #[.pointer (some ⟨b, 0, none⟩), .agg #[.int .i64 pos, u]] W (APost W b L pos cs) := by
  have HS := Lib.hid h
  have HV := Lib.hid hv
  have HQ := Lib.hid hr
  have hw1 : IntKind.i64.wrap (p + 1) = p + 1 := by rw [IntKind.wrap_i64]; have := h.pos; omega
  obtain ⟨ua, un, ucap, rfl, hn, hc1, hc2, hcell⟩ := hv
  have hn1 : 1 ≤ un := by rw [hn]; exact hr.2.1.1
  have hn8 : un ≤ 8 := by rw [hn]; exact hr.2.1.2
  obtain ⟨vb, vo, rfl, hvb, hc⟩ := hcell hn1
  have HN := Lib.hid hn
  have HC := Lib.hid hc
  have hnb : vb ≠ b := chat_ne (hc 0 hn1) h.blk
  have d2 : (pos != p + 1) = false := by simp [hp]
  have HP := Lib.hid hp
  have hL : L.length ≤ 2000 := h.good.2.2
  clear h hr hn hcell hc hp
  go_enter Tryz.func33, Tryz.ntmps33
  go_wp2_with fail
  (with_reducible refine (rvr_t (HV.out.below (ba W _)) HQ.out).mono ?_)
  rintro e w1 ⟨rfl, hb⟩
  have HB := Lib.hid (bt (ba W _) hb)
  have HR : Hid (w1.heap[W.heap.size]? = some (.cells #[.int .i64 pos, .slice (some ⟨vb, vo, none⟩) un ucap] 41 (0, 0))) := Lib.hid ((hb.block _ (by simp)).trans (MapKept.heap_alloc W _).1)
  have r0 : w1.cell? ⟨W.heap.size, 0, none⟩ = some (.int .i64 pos) := by simp [World.cell?, HR.out]
  obtain ⟨c0, c1, _, _⟩ := (HS.out.below HB.out).cells
  clear hb
  go_wp2_with fail
  go_quiet (fail)
  have HB2 := Lib.hid (bt HB.out (below_drewN w1 nq))
  have HR2 : Hid ((w1.drewN nq).heap[W.heap.size]? = some (.cells #[.int .i64 pos, .slice (some ⟨vb, vo, none⟩) un ucap] 41 (0, 0))) := Lib.hid HR.out
  obtain ⟨w2, Hw2⟩ : ∃ w2, Hid (w1.drewN nq = w2) := ⟨_, Lib.hid rfl⟩
  rw [Hw2.out] at HB2 HR2 ⊢
  clear r0 c0 c1
  have HS2 := Lib.hid (HS.out.below HB2.out)
  obtain ⟨c0, c1, _, _⟩ := HS2.out.cells
  have hz2 : W.heap.size < w2.heap.size := lt_of_block HR2.out
  obtain ⟨va, vn, vcap, rfl, hvn, _, _, _⟩ := HS.out.own.rowS
  have HVN := Lib.hid hvn
  clear hvn
  go_wp2_with fail
  have HRw : Hid (w2.heap[W.heap.size]? = some (.cells #[.int .i64 pos, .slice (some ⟨vb, vo, none⟩) un ucap] 41 (0, 0))) := HR2
  clear c0 c1
  go_loopw [6, 7] (fun s i wr => ∃ k : Nat, k ≤ un ∧ i = .int .i64 k ∧ Hid (Below W.heap.size W wr) ∧ Hid (wr.heap[W.heap.size]? = some (.cells #[.int .i64 pos, .slice (some ⟨vb, vo, none⟩) un ucap] 41 (0, 0))) ∧ Hid (Fits L (cs.take k)) ∧ ∃ z : Int, s = .int .i64 z ∧ Hid (z = cnt L.length (cs.take k)) ∧ -(k : Int) ≤ z ∧ z ≤ 2000 + k) (fun _ i _ => un - (intOf i).toNat)
  case atStart => exact ⟨0, by omega, rfl, HB2, HRw, Lib.hid (by simp [Fits]), _, rfl, Lib.hid (by rw [HVN.out]; rfl), by omega, by have := HVN.out; omega⟩
  case round =>
    obtain ⟨k, hk, rfl, HBr, HRr, HF, z, rfl, HZ, hz1, hz2'⟩ := hrel
    clear HR2 HB2 HRw HS2 hz2
    have q1 : wr.cell? ⟨W.heap.size, 1, none⟩ = some (.slice (some ⟨vb, vo, none⟩) un ucap) := by simp [World.cell?, HRr.out]
    have hzr : W.heap.size < wr.heap.size := lt_of_block HRr.out
    by_cases hlt : k < un
    · have HCk := (HC.out k hlt).below hvb HBr.out
      obtain ⟨c, HcE⟩ : ∃ c, Hid (cs.getD k chZ = c) := ⟨_, Lib.hid rfl⟩
      rw [HcE.out] at HCk
      have Htk : Hid (cs.take (k + 1) = cs.take k ++ [c]) := Lib.hid (by rw [← HcE.out]; exact take_snoc' (by rw [← HN.out]; exact hlt))
      have HVc : Hid (VCh c) := Lib.hid (by rw [← HcE.out]; exact (HQ.out.2.2 k (by rw [← HN.out]; exact hlt)).1)
      have Hmem : Hid (c ∈ cs) := Lib.hid (by rw [← HcE.out]; exact getD_mem (by rw [← HN.out]; exact hlt))
      have hvr : vb < wr.heap.size := Nat.lt_of_lt_of_le hvb HBr.out.size
      have hvne : ¬ vb = wr.heap.size := by omega
      obtain ⟨t, kk, had, ⟨oa, ob, oc⟩, has, ⟨na, nb, nc⟩⟩ := c
      obtain ⟨d0, d1, d2', d3, d4, d5, d6, d7, d8, d9⟩ := HCk.cells
      obtain ⟨⟨t', k', ⟨a', b', c'⟩⟩, Hr⟩ : ∃ r, Hid ((look L t kk).getD rowZ = r) := ⟨_, Lib.hid rfl⟩
      obtain ⟨ok, Ho⟩ : ∃ ok, Hid ((look L t kk).isSome = ok) := ⟨_, Lib.hid rfl⟩
      have HSr := Lib.hid (HS.out.below HBr.out)
      clear HCk
      go_wp2_with fail
      (with_reducible refine (getR_any (HSr.out.below (ba wr _)) t kk).mono ?_)
      rintro e w3 ⟨rfl, hb3⟩
      rw [Hr.out, Ho.out]
      unfold rowV
      have HB3 := Lib.hid (bt HBr.out (bt (ba wr _) hb3))
      have HC3 : Hid (ChAt w3 wr.heap.size 0 ⟨t, kk, had, ⟨oa, ob, oc⟩, has, ⟨na, nb, nc⟩⟩) := Lib.hid ((show ChAt (wr.alloc (.cells #[.int .i64 t, .int .i64 kk, .bool had, .int .i64 oa, .int .i64 ob, .int .i64 oc, .bool has, .int .i64 na, .int .i64 nb, .int .i64 nc] 45)) wr.heap.size 0 ⟨t, kk, had, ⟨oa, ob, oc⟩, has, ⟨na, nb, nc⟩⟩ from ChAt_new wr ⟨t, kk, had, ⟨oa, ob, oc⟩, has, ⟨na, nb, nc⟩⟩).below (by simp) hb3)
      have hz3 : wr.heap.size < w3.heap.size := by have := hb3.size; simp at this; omega
      have HR3 : Hid (w3.heap[W.heap.size]? = some (.cells #[.int .i64 pos, .slice (some ⟨vb, vo, none⟩) un ucap] 41 (0, 0))) := Lib.hid (((bt (ba wr _) hb3).block _ hzr).trans HRr.out)
      clear hb3 d0 d1 d2' d3 d4 d5 d6 d7 d8 d9
      obtain ⟨e0, e1, e2, e3, e4, e5, e6, e7, e8, e9⟩ := HC3.out.cells
      have hne3 := fun w => neq3 a' b' c' oa ob oc w
      have hwne : ¬ wr.heap.size = w3.heap.size := by omega
      have HFc : Hid ((look L t kk).isSome = had → ((look L t kk).getD rowZ).v = ⟨oa, ob, oc⟩ → Fits L (cs.take (k + 1))) := Lib.hid (fun h1 h2 => by
        rw [Htk.out]
        exact fits_snoc HF.out ((fitC_iff HVc.out).2 ⟨h1, h2⟩))
      rw [Hr.out, Ho.out] at HFc
      have HXc : Hid (¬ (ok = had ∧ (⟨a', b', c'⟩ : V3) = ⟨oa, ob, oc⟩) → ¬ Fits L cs) := Lib.hid (fun hn h => hn (by
        have h1 := (fitC_iff HVc.out).1 (h _ Hmem.out)
        rw [Hr.out, Ho.out] at h1
        exact h1))
      have HZc : Hid (z + dlt ⟨t, kk, had, ⟨oa, ob, oc⟩, has, ⟨na, nb, nc⟩⟩ = cnt L.length (cs.take (k + 1))) := Lib.hid (by rw [Htk.out, cnt_snoc, ← HZ.out])
      have HFn : Hid (ok = false → had = false → (⟨a', b', c'⟩ : V3) = ⟨oa, ob, oc⟩) := Lib.hid (fun h1 h2 => by
        have e1 : look L t kk = none := by
          have := Ho.out
          rw [h1] at this
          exact Option.not_isSome_iff_eq_none.1 (by simp [this])
        have e2 := Hr.out
        rw [e1] at e2
        have e3 := (HVc.out.2.2.1).2 h2
        simp only [Option.getD_none] at e2
        have e4 : (⟨a', b', c'⟩ : V3) = rowZ.v := by rw [e2]
        rw [e4]
        exact e3.symm)
      have HBn := Lib.hid (bt HB3.out (ba w3 (.cells #[.int .i64 t', .int .i64 k', .int .i64 a', .int .i64 b', .int .i64 c'] 57)))
      have HRn : Hid ((w3.alloc (.cells #[.int .i64 t', .int .i64 k', .int .i64 a', .int .i64 b', .int .i64 c'] 57)).heap[W.heap.size]? = some (.cells #[.int .i64 pos, .slice (some ⟨vb, vo, none⟩) un ucap] 41 (0, 0))) := Lib.hid (((ba w3 _).block _ (by omega)).trans HR3.out)
      clear HVc Hmem Htk HSr
      by_cases hoh : ok = had
      · subst hoh
        cases ok
        · have HFk : Hid (Fits L (cs.take (k + 1))) := Lib.hid (HFc.out rfl (HFn.out rfl rfl))
          clear hne3
          cases has
          · go_wp2_with fail
            exact ⟨⟨k + 1, by omega, by go_num, HBn, HRn, HFk, z, rfl, Lib.hid (by have := HZc.out; simp [dlt] at this; omega), by omega, by omega⟩, by simp [intOf]; omega⟩
          · go_wp2_with fail
            exact ⟨⟨k + 1, by omega, by go_num, HBn, HRn, HFk, z + 1, rfl, Lib.hid (by have := HZc.out; simp [dlt] at this; omega), by omega, by omega⟩, by simp [intOf]; omega⟩
        · by_cases hve : (⟨a', b', c'⟩ : V3) = ⟨oa, ob, oc⟩
          · have HFk : Hid (Fits L (cs.take (k + 1))) := Lib.hid (HFc.out rfl hve)
            have hq : v3e ⟨a', b', c'⟩ ⟨oa, ob, oc⟩ = true := decide_eq_true hve
            simp only [hq, Bool.not_true] at hne3
            clear hq hve
            cases has
            · go_wp2_with fail
              exact ⟨⟨k + 1, by omega, by go_num, HBn, HRn, HFk, z - 1, rfl, Lib.hid (by have := HZc.out; simp [dlt] at this; omega), by omega, by omega⟩, by simp [intOf]; omega⟩
            · go_wp2_with fail
              exact ⟨⟨k + 1, by omega, by go_num, HBn, HRn, HFk, z, by go_num, Lib.hid (by have := HZc.out; simp [dlt] at this; omega), by omega, by omega⟩, by simp [intOf]; omega⟩
          · have HX : Hid (¬ Fits L cs) := Lib.hid (HXc.out (fun h => hve h.2))
            have hq : v3e ⟨a', b', c'⟩ ⟨oa, ob, oc⟩ = false := decide_eq_false hve
            simp only [hq, Bool.not_false] at hne3
            clear hq hve
            go_wp2_with fail
            go_ret
            exact .inr ⟨fun h => HX.out h.1, rfl, HBn.out⟩
      · have HX : Hid (¬ Fits L cs) := Lib.hid (HXc.out (fun h => hoh h.1))
        clear hne3
        cases ok <;> cases had
        · exact absurd rfl hoh
        · clear hoh
          go_wp2_with fail
          go_ret
          exact .inr ⟨fun h => HX.out h.1, rfl, HBn.out⟩
        · clear hoh
          go_wp2_with fail
          go_ret
          exact .inr ⟨fun h => HX.out h.1, rfl, HBn.out⟩
        · exact absurd rfl hoh
    · obtain rfl : k = un := by omega
      have HFs : Hid (Fits L cs) := Lib.hid (by have := HF.out; rwa [HN.out, List.take_length] at this)
      have HZs : Hid (z = cnt L.length cs) := Lib.hid (by have := HZ.out; rwa [HN.out, List.take_length] at this)
      clear HF HZ
      by_cases hz : z ≤ 2000
      · have dz : decide (2000 < z) = false := decide_eq_false (by omega)
        go_wp2_with fail
        have hbr : b < W.heap.size := HS.out.lt
        have HI0 : Hid (RfIn wr b (.slice va vn vcap) (stepAll L (cs.take 0)) p) := Lib.hid (HS.out.below HBr.out).in
        have HK0 : Hid (Kept (fun i => i = b) W wr) := Lib.hid (Kept.of_below HBr.out)
        have HCnt : Hid (cnt L.length cs ≤ 2000) := Lib.hid (by rw [← HZs.out]; exact hz)
        clear q1 HZs hz1 hz2' hz dz
        go_loopw [11] (fun i wx => ∃ j : Nat, j ≤ k ∧ i = .int .i64 j ∧ ∃ vj, Hid (RfIn wx b vj (stepAll L (cs.take j)) p) ∧ Hid (Kept (fun i => i = b) W wx) ∧ Hid (wx.heap[W.heap.size]? = some (.cells #[.int .i64 pos, .slice (some ⟨vb, vo, none⟩) k ucap] 41 (0, 0))) ∧ Hid (1 ≤ j → ∀ i, vj.ownBlock = some i → W.heap.size ≤ i)) (fun i _ => k - (intOf i).toNat)
        case atStart => exact ⟨0, by omega, rfl, _, HI0, HK0, HRr, Lib.hid (fun h => by omega)⟩
        case round =>
          obtain ⟨j, hj, rfl, vj, HI, HK, HRx, HO⟩ := hrel
          rename World => wx
          clear HI0 HK0
          have q1 : wx.cell? ⟨W.heap.size, 1, none⟩ = some (.slice (some ⟨vb, vo, none⟩) k ucap) := by simp [World.cell?, HRx.out]
          have hzx : W.heap.size < wx.heap.size := lt_of_block HRx.out
          by_cases hlt : j < k
          · have HCj := (HC.out j hlt).kept HK.out hvb hnb
            obtain ⟨c, HcE⟩ : ∃ c, Hid (cs.getD j chZ = c) := ⟨_, Lib.hid rfl⟩
            rw [HcE.out] at HCj
            have hjl : j < cs.length := by rw [← HN.out]; exact hlt
            have Htk : Hid (stepAll L (cs.take (j + 1)) = stepC (stepAll L (cs.take j)) c) := Lib.hid (by rw [take_snoc' (d := chZ) hjl, stepAll_snoc, HcE.out])
            have HFc : Hid (fitC (stepAll L (cs.take j)) c) := Lib.hid (by
              have hsp : cs.take j ++ cs.drop j = cs := List.take_append_drop _ _
              have h1 := fits_take (A := cs.take j) (B := cs.drop j) HS.out.good.1 (by rw [hsp]; exact vrec_apart HQ.out) (by rw [hsp]; exact HFs.out)
              refine h1 c ?_
              rw [← HcE.out, List.getD_eq_getElem?_getD, List.getElem?_eq_getElem hjl, Option.getD_some, List.drop_eq_getElem_cons hjl]
              exact List.mem_cons_self)
            obtain ⟨M, HM⟩ : ∃ M, Hid (stepAll L (cs.take j) = M) := ⟨_, Lib.hid rfl⟩
            rw [HM.out] at HI HFc Htk
            have HSp := Lib.hid (splice HI.out.srt HFc.out)
            have hvx : vb < wx.heap.size := Nat.lt_of_lt_of_le hvb HK.out.size
            have hvne : ¬ vb = wx.heap.size := by omega
            have hbx := HI.out.lt
            have hbne : ¬ b = wx.heap.size := by omega
            obtain ⟨t, kk, had, ⟨oa, ob, oc⟩, has, ⟨na, nb, nc⟩⟩ := c
            obtain ⟨d0, d1, d2', d3, d4, d5, d6, d7, d8, d9⟩ := HCj.cells
            obtain ⟨q, Hq⟩ : ∃ q, Hid (cntk M t kk = q) := ⟨_, Lib.hid rfl⟩
            simp only [Hq.out] at HSp
            obtain ⟨c0, c1, f0, f1⟩ := HI.out.cells
            have HX := HI.out.own
            obtain ⟨hl0, hx⟩ := HX
            rcases hx with ⟨rfl, hM0⟩ | ⟨g, cap, cur, rfl, hg, hbk, hnc, hcm, hcs, htk⟩
            · obtain rfl : M = [] := List.length_eq_zero_iff.1 hM0
              obtain rfl : q = 0 := by rw [← Hq.out]; rfl
              have hnil : had = false := by
                have := HSp.out.2
                cases had
                · rfl
                · simp at this
              subst hnil
              obtain ⟨M, HMn⟩ : ∃ M : List MRow, Hid (([] : List MRow) = M) := ⟨_, Lib.hid rfl⟩
              rw [HMn.out] at HI HSp Htk HFc HM Hq
              have hMl : M.length = 0 := by rw [← HMn.out]; rfl
              obtain ⟨q, hqq⟩ : ∃ q : Nat, q = 0 := ⟨_, rfl⟩
              have HT : Hid (∀ w, Below wx.heap.size wx w → RowX w (.slice none 0 0) (M.take 0)) := Lib.hid (fun _ _ => .inl ⟨rfl, List.take_zero⟩)
              have HD : Hid (∀ w, Below wx.heap.size wx w → RowX w (.slice none 0 0) (M.drop 0)) := Lib.hid (fun _ _ => .inl ⟨rfl, by rw [← HMn.out]; rfl⟩)
              clear HCj hl0 hM0
              go_wp2_with fail
              (with_reducible refine (place_in (HI.out.below (ba wx _)) t kk).mono ?_)
              rintro e w3 ⟨rfl, rfl⟩
              rw [Hq.out]
              cases has
              · go_wp2_with fail
                (with_reducible refine (raft_false t kk oa ob oc na nb nc false _).mono ?_)
                rintro e w4 ⟨rfl, hb4⟩
                unfold rowV
                have HW4 := Lib.hid (bt (ba wx _) hb4)
                obtain ⟨c0, c1, f0, f1⟩ := (HI.out.below HW4.out).cells
                have hb4z := Nat.lt_of_lt_of_le hbx HW4.out.size
                have hb4n : ¬ b = w4.heap.size := by omega
                have hb4m : ¬ b = w4.heap.size + 1 := by omega
                clear hb4
                have HW8 := HW4
                have HO3 : Hid (OwnR w4 wx.heap.size (.slice none 0 0) (stepC M ⟨t, kk, false, ⟨oa, ob, oc⟩, false, ⟨na, nb, nc⟩⟩)) := Lib.hid (by rw [HSp.out.1, ← HMn.out]; exact OwnR.nil _ _)
                go_wp2_with fail
                obtain ⟨z0, z1, z2, z3⟩ := rf_step HI.out HK.out HW8.out HO3.out (srt_step HI.out.srt _) (by rw [← Htk.out]; exact len_tk HS.out.good.1 (vrec_apart HQ.out) HFs.out hL (by rw [← HN.out]; exact hn8) (j + 1)) HRx.out (by omega)
                exact ⟨⟨j + 1, by omega, by go_num, _, by rw [Htk.out]; exact Lib.hid (z0.below (ba _ _)), Lib.hid (z1.then (ba _ _)), Lib.hid (((ba _ _).block _ (lt_of_block z2)).trans z2), Lib.hid (fun _ => z3)⟩, by simp [intOf]; omega⟩
              · go_wp2_with fail
                (with_reducible refine (raft_true t kk oa ob oc na nb nc false _).mono ?_)
                rintro e w4 ⟨rfl, hb4⟩
                unfold rowV
                have HW4 := Lib.hid (bt (ba wx _) hb4)
                obtain ⟨c0, c1, f0, f1⟩ := (HI.out.below HW4.out).cells
                have hb4z := Nat.lt_of_lt_of_le hbx HW4.out.size
                have hb4n : ¬ b = w4.heap.size := by omega
                have hb4m : ¬ b = w4.heap.size + 1 := by omega
                clear hb4
                have HW5 := Lib.hid (bt (bt HW4.out (ba w4 (.cells #[.int .i64 t, .int .i64 kk, .int .i64 na, .int .i64 nb, .int .i64 nc] 57))) (ba _ (.cells #[.int .i64 t, .int .i64 kk, .int .i64 na, .int .i64 nb, .int .i64 nc] 57)))
                have HMid := Lib.hid (rowX_one (by have := heap_alloc_new (w4.alloc (.cells #[.int .i64 t, .int .i64 kk, .int .i64 na, .int .i64 nb, .int .i64 nc] 57)) (.cells #[.int .i64 t, .int .i64 kk, .int .i64 na, .int .i64 nb, .int .i64 nc] 57); rwa [World.size_alloc] at this))
                go_wp2_with (first | (at_builtin; refine wpList_append_rows rfl (.tmp 126) (.tmp 127) rfl wx.heap.size (.slice none 0 0) _ [] [⟨t, kk, ⟨na, nb, nc⟩⟩] rfl rfl (OwnR.nil _ _) HMid.out (by simp) HW5.out.size ?_; intro v2 w7 ho2 hg2; have HO2 := Lib.hid ho2; have HW7 := Lib.hid (below_grow HW5.out (OwnR.nil _ _) hg2); clear ho2 hg2) | (at_builtin; refine wpList_append_rows rfl (.tmp 128) (.tmp 129) rfl wx.heap.size v2 _ ([] ++ [⟨t, kk, ⟨na, nb, nc⟩⟩]) [] rfl rfl HO2.out (.inl ⟨rfl, rfl⟩) (by simp) HW7.out.size ?_; intro v3 w8 ho3 hg3; have HW8 := Lib.hid (below_grow HW7.out HO2.out hg3); have HO3 : Hid (OwnR w8 wx.heap.size v3 (stepC M ⟨t, kk, false, ⟨oa, ob, oc⟩, true, ⟨na, nb, nc⟩⟩)) := Lib.hid (by rw [HSp.out.1, ← HMn.out]; simpa using ho3); obtain ⟨a3, n3, cap3, rfl⟩ := own_form ho3; obtain ⟨k0, k1, kf0, kf1⟩ := (HI.out.below HW8.out).cells; have hb8 := Nat.lt_of_lt_of_le hbx HW8.out.size; clear ho3 hg3))
                obtain ⟨z0, z1, z2, z3⟩ := rf_step HI.out HK.out HW8.out HO3.out (srt_step HI.out.srt _) (by rw [← Htk.out]; exact len_tk HS.out.good.1 (vrec_apart HQ.out) HFs.out hL (by rw [← HN.out]; exact hn8) (j + 1)) HRx.out (by omega)
                exact ⟨⟨j + 1, by omega, by go_num, _, by rw [Htk.out]; exact Lib.hid z0, Lib.hid z1, Lib.hid z2, Lib.hid (fun _ => z3)⟩, by simp [intOf]; omega⟩
            · have HE := Lib.hid HI.out.own
              clear HCj hg hbk hcs htk hl0
              have hnl : M.length ≤ 4000 := HI.out.len
              have hqn : q ≤ M.length := by rw [← Hq.out]; exact cntk_le _ _ _
              have hcm2 : cap ≤ 9223372036854775807 := by unfold maxLen at hcm; omega
              have HT : Hid (∀ w, Below wx.heap.size wx w → RowX w (.slice (some ⟨g, 0, none⟩) q cap) (M.take q)) := Lib.hid (fun w hB => rowX_take HE.out q cap hqn hB)
              go_wp2_with fail
              (with_reducible refine (place_in (HI.out.below (ba wx _)) t kk).mono ?_)
              rintro e w3 ⟨rfl, rfl⟩
              rw [Hq.out]
              cases had
              · by_cases hcq : cap = q
                · have hcq' := hcq.symm
                  clear hcq
                  subst hcq'
                  have HD : Hid (∀ w, Below wx.heap.size wx w → RowX w (.slice (some ⟨g, 0, none⟩) 0 0) (M.drop q)) := Lib.hid (fun w hB => rowX_none hnc rfl)
                  cases has
                  · go_wp2_with fail
                    (with_reducible refine (raft_false t kk oa ob oc na nb nc false _).mono ?_)
                    rintro e w4 ⟨rfl, hb4⟩
                    unfold rowV
                    have HW4 := Lib.hid (bt (ba wx _) hb4)
                    obtain ⟨c0, c1, f0, f1⟩ := (HI.out.below HW4.out).cells
                    have hb4z := Nat.lt_of_lt_of_le hbx HW4.out.size
                    have hb4n : ¬ b = w4.heap.size := by omega
                    have hb4m : ¬ b = w4.heap.size + 1 := by omega
                    clear hb4
                    have HW5 := Lib.hid (bt HW4.out (ba w4 (.cells #[.int .i64 0, .int .i64 0, .int .i64 0, .int .i64 0, .int .i64 0] 57)))
                    go_wp2_with (first | (at_builtin; refine wpList_append_rows rfl (.tmp 119) (.tmp 125) rfl wx.heap.size (.slice none 0 0) _ [] (M.take q) rfl rfl (OwnR.nil _ _) (HT.out _ HW5.out) (by simp; omega) HW5.out.size ?_; intro v1 w6 ho1 hg1; have HO1 := Lib.hid ho1; have HW6 := Lib.hid (below_grow HW5.out (OwnR.nil _ _) hg1); clear ho1 hg1) | (at_builtin; refine wpList_append_rows rfl (.tmp 126) (.tmp 127) rfl wx.heap.size v1 _ ([] ++ M.take q) [] rfl rfl HO1.out (.inl ⟨rfl, rfl⟩) (by simp; omega) HW6.out.size ?_; intro v2 w7 ho2 hg2; have HO2 := Lib.hid ho2; have HW7 := Lib.hid (below_grow HW6.out HO1.out hg2); clear ho2 hg2) | (at_builtin; refine wpList_append_rows rfl (.tmp 128) (.tmp 129) rfl wx.heap.size v2 _ (([] ++ M.take q) ++ []) (M.drop q) rfl rfl HO2.out (HD.out _ HW7.out) (by simp; omega) HW7.out.size ?_; intro v3 w8 ho3 hg3; have HW8 := Lib.hid (below_grow HW7.out HO2.out hg3); have HO3 : Hid (OwnR w8 wx.heap.size v3 (stepC M ⟨t, kk, false, ⟨oa, ob, oc⟩, false, ⟨na, nb, nc⟩⟩)) := Lib.hid (by rw [HSp.out.1]; simpa [List.append_assoc] using ho3); obtain ⟨a3, n3, cap3, rfl⟩ := own_form ho3; obtain ⟨k0, k1, kf0, kf1⟩ := (HI.out.below HW8.out).cells; have hb8 := Nat.lt_of_lt_of_le hbx HW8.out.size; clear ho3 hg3))
                    obtain ⟨z0, z1, z2, z3⟩ := rf_step HI.out HK.out HW8.out HO3.out (srt_step HI.out.srt _) (by rw [← Htk.out]; exact len_tk HS.out.good.1 (vrec_apart HQ.out) HFs.out hL (by rw [← HN.out]; exact hn8) (j + 1)) HRx.out (by omega)
                    exact ⟨⟨j + 1, by omega, by go_num, _, by rw [Htk.out]; exact Lib.hid z0, Lib.hid z1, Lib.hid z2, Lib.hid (fun _ => z3)⟩, by simp [intOf]; omega⟩
                  · go_wp2_with fail
                    (with_reducible refine (raft_true t kk oa ob oc na nb nc false _).mono ?_)
                    rintro e w4 ⟨rfl, hb4⟩
                    unfold rowV
                    have HW4 := Lib.hid (bt (ba wx _) hb4)
                    obtain ⟨c0, c1, f0, f1⟩ := (HI.out.below HW4.out).cells
                    have hb4z := Nat.lt_of_lt_of_le hbx HW4.out.size
                    have hb4n : ¬ b = w4.heap.size := by omega
                    have hb4m : ¬ b = w4.heap.size + 1 := by omega
                    clear hb4
                    have HW5 := Lib.hid (bt (bt HW4.out (ba w4 (.cells #[.int .i64 t, .int .i64 kk, .int .i64 na, .int .i64 nb, .int .i64 nc] 57))) (ba _ (.cells #[.int .i64 t, .int .i64 kk, .int .i64 na, .int .i64 nb, .int .i64 nc] 57)))
                    go_wp2_with (first | (at_builtin; refine wpList_append_rows rfl (.tmp 119) (.tmp 125) rfl wx.heap.size (.slice none 0 0) _ [] (M.take q) rfl rfl (OwnR.nil _ _) (HT.out _ HW5.out) (by simp; omega) HW5.out.size ?_; intro v1 w6 ho1 hg1; have HO1 := Lib.hid ho1; have HW6 := Lib.hid (below_grow HW5.out (OwnR.nil _ _) hg1); have HMid := Lib.hid (rowX_one ((hg1.block (w4.heap.size + 1) (by simp) (by simp [Value.ownBlock])).trans (by have := heap_alloc_new (w4.alloc (.cells #[.int .i64 t, .int .i64 kk, .int .i64 na, .int .i64 nb, .int .i64 nc] 57)) (.cells #[.int .i64 t, .int .i64 kk, .int .i64 na, .int .i64 nb, .int .i64 nc] 57); rwa [World.size_alloc] at this))); clear ho1 hg1) | (at_builtin; refine wpList_append_rows rfl (.tmp 126) (.tmp 127) rfl wx.heap.size v1 _ ([] ++ M.take q) [⟨t, kk, ⟨na, nb, nc⟩⟩] rfl rfl HO1.out HMid.out (by simp; omega) HW6.out.size ?_; intro v2 w7 ho2 hg2; have HO2 := Lib.hid ho2; have HW7 := Lib.hid (below_grow HW6.out HO1.out hg2); clear ho2 hg2) | (at_builtin; refine wpList_append_rows rfl (.tmp 128) (.tmp 129) rfl wx.heap.size v2 _ (([] ++ M.take q) ++ [⟨t, kk, ⟨na, nb, nc⟩⟩]) (M.drop q) rfl rfl HO2.out (HD.out _ HW7.out) (by simp; omega) HW7.out.size ?_; intro v3 w8 ho3 hg3; have HW8 := Lib.hid (below_grow HW7.out HO2.out hg3); have HO3 : Hid (OwnR w8 wx.heap.size v3 (stepC M ⟨t, kk, false, ⟨oa, ob, oc⟩, true, ⟨na, nb, nc⟩⟩)) := Lib.hid (by rw [HSp.out.1]; simpa [List.append_assoc] using ho3); obtain ⟨a3, n3, cap3, rfl⟩ := own_form ho3; obtain ⟨k0, k1, kf0, kf1⟩ := (HI.out.below HW8.out).cells; have hb8 := Nat.lt_of_lt_of_le hbx HW8.out.size; clear ho3 hg3))
                    obtain ⟨z0, z1, z2, z3⟩ := rf_step HI.out HK.out HW8.out HO3.out (srt_step HI.out.srt _) (by rw [← Htk.out]; exact len_tk HS.out.good.1 (vrec_apart HQ.out) HFs.out hL (by rw [← HN.out]; exact hn8) (j + 1)) HRx.out (by omega)
                    exact ⟨⟨j + 1, by omega, by go_num, _, by rw [Htk.out]; exact Lib.hid z0, Lib.hid z1, Lib.hid z2, Lib.hid (fun _ => z3)⟩, by simp [intOf]; omega⟩
                · have HD : Hid (∀ w, Below wx.heap.size wx w → RowX w (.slice (some ⟨g, q * 5, none⟩) (M.length - q) (cap - q)) (M.drop q)) := Lib.hid (fun w hB => rowX_drop HE.out q _ _ _ rfl rfl hB)
                  cases has
                  · go_wp2_with fail
                    (with_reducible refine (raft_false t kk oa ob oc na nb nc false _).mono ?_)
                    rintro e w4 ⟨rfl, hb4⟩
                    unfold rowV
                    have HW4 := Lib.hid (bt (ba wx _) hb4)
                    obtain ⟨c0, c1, f0, f1⟩ := (HI.out.below HW4.out).cells
                    have hb4z := Nat.lt_of_lt_of_le hbx HW4.out.size
                    have hb4n : ¬ b = w4.heap.size := by omega
                    have hb4m : ¬ b = w4.heap.size + 1 := by omega
                    clear hb4
                    have HW5 := Lib.hid (bt HW4.out (ba w4 (.cells #[.int .i64 0, .int .i64 0, .int .i64 0, .int .i64 0, .int .i64 0] 57)))
                    go_wp2_with (first | (at_builtin; refine wpList_append_rows rfl (.tmp 119) (.tmp 125) rfl wx.heap.size (.slice none 0 0) _ [] (M.take q) rfl rfl (OwnR.nil _ _) (HT.out _ HW5.out) (by simp; omega) HW5.out.size ?_; intro v1 w6 ho1 hg1; have HO1 := Lib.hid ho1; have HW6 := Lib.hid (below_grow HW5.out (OwnR.nil _ _) hg1); clear ho1 hg1) | (at_builtin; refine wpList_append_rows rfl (.tmp 126) (.tmp 127) rfl wx.heap.size v1 _ ([] ++ M.take q) [] rfl rfl HO1.out (.inl ⟨rfl, rfl⟩) (by simp; omega) HW6.out.size ?_; intro v2 w7 ho2 hg2; have HO2 := Lib.hid ho2; have HW7 := Lib.hid (below_grow HW6.out HO1.out hg2); clear ho2 hg2) | (at_builtin; refine wpList_append_rows rfl (.tmp 128) (.tmp 129) rfl wx.heap.size v2 _ (([] ++ M.take q) ++ []) (M.drop q) rfl rfl HO2.out (HD.out _ HW7.out) (by simp; omega) HW7.out.size ?_; intro v3 w8 ho3 hg3; have HW8 := Lib.hid (below_grow HW7.out HO2.out hg3); have HO3 : Hid (OwnR w8 wx.heap.size v3 (stepC M ⟨t, kk, false, ⟨oa, ob, oc⟩, false, ⟨na, nb, nc⟩⟩)) := Lib.hid (by rw [HSp.out.1]; simpa [List.append_assoc] using ho3); obtain ⟨a3, n3, cap3, rfl⟩ := own_form ho3; obtain ⟨k0, k1, kf0, kf1⟩ := (HI.out.below HW8.out).cells; have hb8 := Nat.lt_of_lt_of_le hbx HW8.out.size; clear ho3 hg3))
                    obtain ⟨z0, z1, z2, z3⟩ := rf_step HI.out HK.out HW8.out HO3.out (srt_step HI.out.srt _) (by rw [← Htk.out]; exact len_tk HS.out.good.1 (vrec_apart HQ.out) HFs.out hL (by rw [← HN.out]; exact hn8) (j + 1)) HRx.out (by omega)
                    exact ⟨⟨j + 1, by omega, by go_num, _, by rw [Htk.out]; exact Lib.hid z0, Lib.hid z1, Lib.hid z2, Lib.hid (fun _ => z3)⟩, by simp [intOf]; omega⟩
                  · go_wp2_with fail
                    (with_reducible refine (raft_true t kk oa ob oc na nb nc false _).mono ?_)
                    rintro e w4 ⟨rfl, hb4⟩
                    unfold rowV
                    have HW4 := Lib.hid (bt (ba wx _) hb4)
                    obtain ⟨c0, c1, f0, f1⟩ := (HI.out.below HW4.out).cells
                    have hb4z := Nat.lt_of_lt_of_le hbx HW4.out.size
                    have hb4n : ¬ b = w4.heap.size := by omega
                    have hb4m : ¬ b = w4.heap.size + 1 := by omega
                    clear hb4
                    have HW5 := Lib.hid (bt (bt HW4.out (ba w4 (.cells #[.int .i64 t, .int .i64 kk, .int .i64 na, .int .i64 nb, .int .i64 nc] 57))) (ba _ (.cells #[.int .i64 t, .int .i64 kk, .int .i64 na, .int .i64 nb, .int .i64 nc] 57)))
                    go_wp2_with (first | (at_builtin; refine wpList_append_rows rfl (.tmp 119) (.tmp 125) rfl wx.heap.size (.slice none 0 0) _ [] (M.take q) rfl rfl (OwnR.nil _ _) (HT.out _ HW5.out) (by simp; omega) HW5.out.size ?_; intro v1 w6 ho1 hg1; have HO1 := Lib.hid ho1; have HW6 := Lib.hid (below_grow HW5.out (OwnR.nil _ _) hg1); have HMid := Lib.hid (rowX_one ((hg1.block (w4.heap.size + 1) (by simp) (by simp [Value.ownBlock])).trans (by have := heap_alloc_new (w4.alloc (.cells #[.int .i64 t, .int .i64 kk, .int .i64 na, .int .i64 nb, .int .i64 nc] 57)) (.cells #[.int .i64 t, .int .i64 kk, .int .i64 na, .int .i64 nb, .int .i64 nc] 57); rwa [World.size_alloc] at this))); clear ho1 hg1) | (at_builtin; refine wpList_append_rows rfl (.tmp 126) (.tmp 127) rfl wx.heap.size v1 _ ([] ++ M.take q) [⟨t, kk, ⟨na, nb, nc⟩⟩] rfl rfl HO1.out HMid.out (by simp; omega) HW6.out.size ?_; intro v2 w7 ho2 hg2; have HO2 := Lib.hid ho2; have HW7 := Lib.hid (below_grow HW6.out HO1.out hg2); clear ho2 hg2) | (at_builtin; refine wpList_append_rows rfl (.tmp 128) (.tmp 129) rfl wx.heap.size v2 _ (([] ++ M.take q) ++ [⟨t, kk, ⟨na, nb, nc⟩⟩]) (M.drop q) rfl rfl HO2.out (HD.out _ HW7.out) (by simp; omega) HW7.out.size ?_; intro v3 w8 ho3 hg3; have HW8 := Lib.hid (below_grow HW7.out HO2.out hg3); have HO3 : Hid (OwnR w8 wx.heap.size v3 (stepC M ⟨t, kk, false, ⟨oa, ob, oc⟩, true, ⟨na, nb, nc⟩⟩)) := Lib.hid (by rw [HSp.out.1]; simpa [List.append_assoc] using ho3); obtain ⟨a3, n3, cap3, rfl⟩ := own_form ho3; obtain ⟨k0, k1, kf0, kf1⟩ := (HI.out.below HW8.out).cells; have hb8 := Nat.lt_of_lt_of_le hbx HW8.out.size; clear ho3 hg3))
                    obtain ⟨z0, z1, z2, z3⟩ := rf_step HI.out HK.out HW8.out HO3.out (srt_step HI.out.srt _) (by rw [← Htk.out]; exact len_tk HS.out.good.1 (vrec_apart HQ.out) HFs.out hL (by rw [← HN.out]; exact hn8) (j + 1)) HRx.out (by omega)
                    exact ⟨⟨j + 1, by omega, by go_num, _, by rw [Htk.out]; exact Lib.hid z0, Lib.hid z1, Lib.hid z2, Lib.hid (fun _ => z3)⟩, by simp [intOf]; omega⟩
              · have hq1 : q + 1 ≤ M.length := by have := HSp.out.2; simpa using this
                have hcq : ¬ cap = q := by omega
                by_cases hc1 : cap - q = 1
                · have HD : Hid (∀ w, Below wx.heap.size wx w → RowX w (.slice (some ⟨g, q * 5, none⟩) (M.length - q - 1) 0) (M.drop (q + 1))) := Lib.hid (fun w hB => rowX_none (by omega) (by omega))
                  cases has
                  · go_wp2_with fail
                    (with_reducible refine (raft_false t kk oa ob oc na nb nc true _).mono ?_)
                    rintro e w4 ⟨rfl, hb4⟩
                    unfold rowV
                    have HW4 := Lib.hid (bt (ba wx _) hb4)
                    obtain ⟨c0, c1, f0, f1⟩ := (HI.out.below HW4.out).cells
                    have hb4z := Nat.lt_of_lt_of_le hbx HW4.out.size
                    have hb4n : ¬ b = w4.heap.size := by omega
                    have hb4m : ¬ b = w4.heap.size + 1 := by omega
                    clear hb4
                    have HW5 := Lib.hid (bt HW4.out (ba w4 (.cells #[.int .i64 0, .int .i64 0, .int .i64 0, .int .i64 0, .int .i64 0] 57)))
                    go_wp2_with (first | (at_builtin; refine wpList_append_rows rfl (.tmp 119) (.tmp 125) rfl wx.heap.size (.slice none 0 0) _ [] (M.take q) rfl rfl (OwnR.nil _ _) (HT.out _ HW5.out) (by simp; omega) HW5.out.size ?_; intro v1 w6 ho1 hg1; have HO1 := Lib.hid ho1; have HW6 := Lib.hid (below_grow HW5.out (OwnR.nil _ _) hg1); clear ho1 hg1) | (at_builtin; refine wpList_append_rows rfl (.tmp 126) (.tmp 127) rfl wx.heap.size v1 _ ([] ++ M.take q) [] rfl rfl HO1.out (.inl ⟨rfl, rfl⟩) (by simp; omega) HW6.out.size ?_; intro v2 w7 ho2 hg2; have HO2 := Lib.hid ho2; have HW7 := Lib.hid (below_grow HW6.out HO1.out hg2); clear ho2 hg2) | (at_builtin; refine wpList_append_rows rfl (.tmp 128) (.tmp 129) rfl wx.heap.size v2 _ (([] ++ M.take q) ++ []) (M.drop (q + 1)) rfl rfl HO2.out (HD.out _ HW7.out) (by simp; omega) HW7.out.size ?_; intro v3 w8 ho3 hg3; have HW8 := Lib.hid (below_grow HW7.out HO2.out hg3); have HO3 : Hid (OwnR w8 wx.heap.size v3 (stepC M ⟨t, kk, true, ⟨oa, ob, oc⟩, false, ⟨na, nb, nc⟩⟩)) := Lib.hid (by rw [HSp.out.1]; simpa [List.append_assoc] using ho3); obtain ⟨a3, n3, cap3, rfl⟩ := own_form ho3; obtain ⟨k0, k1, kf0, kf1⟩ := (HI.out.below HW8.out).cells; have hb8 := Nat.lt_of_lt_of_le hbx HW8.out.size; clear ho3 hg3))
                    obtain ⟨z0, z1, z2, z3⟩ := rf_step HI.out HK.out HW8.out HO3.out (srt_step HI.out.srt _) (by rw [← Htk.out]; exact len_tk HS.out.good.1 (vrec_apart HQ.out) HFs.out hL (by rw [← HN.out]; exact hn8) (j + 1)) HRx.out (by omega)
                    exact ⟨⟨j + 1, by omega, by go_num, _, by rw [Htk.out]; exact Lib.hid z0, Lib.hid z1, Lib.hid z2, Lib.hid (fun _ => z3)⟩, by simp [intOf]; omega⟩
                  · go_wp2_with fail
                    (with_reducible refine (raft_true t kk oa ob oc na nb nc true _).mono ?_)
                    rintro e w4 ⟨rfl, hb4⟩
                    unfold rowV
                    have HW4 := Lib.hid (bt (ba wx _) hb4)
                    obtain ⟨c0, c1, f0, f1⟩ := (HI.out.below HW4.out).cells
                    have hb4z := Nat.lt_of_lt_of_le hbx HW4.out.size
                    have hb4n : ¬ b = w4.heap.size := by omega
                    have hb4m : ¬ b = w4.heap.size + 1 := by omega
                    clear hb4
                    have HW5 := Lib.hid (bt (bt HW4.out (ba w4 (.cells #[.int .i64 t, .int .i64 kk, .int .i64 na, .int .i64 nb, .int .i64 nc] 57))) (ba _ (.cells #[.int .i64 t, .int .i64 kk, .int .i64 na, .int .i64 nb, .int .i64 nc] 57)))
                    go_wp2_with (first | (at_builtin; refine wpList_append_rows rfl (.tmp 119) (.tmp 125) rfl wx.heap.size (.slice none 0 0) _ [] (M.take q) rfl rfl (OwnR.nil _ _) (HT.out _ HW5.out) (by simp; omega) HW5.out.size ?_; intro v1 w6 ho1 hg1; have HO1 := Lib.hid ho1; have HW6 := Lib.hid (below_grow HW5.out (OwnR.nil _ _) hg1); have HMid := Lib.hid (rowX_one ((hg1.block (w4.heap.size + 1) (by simp) (by simp [Value.ownBlock])).trans (by have := heap_alloc_new (w4.alloc (.cells #[.int .i64 t, .int .i64 kk, .int .i64 na, .int .i64 nb, .int .i64 nc] 57)) (.cells #[.int .i64 t, .int .i64 kk, .int .i64 na, .int .i64 nb, .int .i64 nc] 57); rwa [World.size_alloc] at this))); clear ho1 hg1) | (at_builtin; refine wpList_append_rows rfl (.tmp 126) (.tmp 127) rfl wx.heap.size v1 _ ([] ++ M.take q) [⟨t, kk, ⟨na, nb, nc⟩⟩] rfl rfl HO1.out HMid.out (by simp; omega) HW6.out.size ?_; intro v2 w7 ho2 hg2; have HO2 := Lib.hid ho2; have HW7 := Lib.hid (below_grow HW6.out HO1.out hg2); clear ho2 hg2) | (at_builtin; refine wpList_append_rows rfl (.tmp 128) (.tmp 129) rfl wx.heap.size v2 _ (([] ++ M.take q) ++ [⟨t, kk, ⟨na, nb, nc⟩⟩]) (M.drop (q + 1)) rfl rfl HO2.out (HD.out _ HW7.out) (by simp; omega) HW7.out.size ?_; intro v3 w8 ho3 hg3; have HW8 := Lib.hid (below_grow HW7.out HO2.out hg3); have HO3 : Hid (OwnR w8 wx.heap.size v3 (stepC M ⟨t, kk, true, ⟨oa, ob, oc⟩, true, ⟨na, nb, nc⟩⟩)) := Lib.hid (by rw [HSp.out.1]; simpa [List.append_assoc] using ho3); obtain ⟨a3, n3, cap3, rfl⟩ := own_form ho3; obtain ⟨k0, k1, kf0, kf1⟩ := (HI.out.below HW8.out).cells; have hb8 := Nat.lt_of_lt_of_le hbx HW8.out.size; clear ho3 hg3))
                    obtain ⟨z0, z1, z2, z3⟩ := rf_step HI.out HK.out HW8.out HO3.out (srt_step HI.out.srt _) (by rw [← Htk.out]; exact len_tk HS.out.good.1 (vrec_apart HQ.out) HFs.out hL (by rw [← HN.out]; exact hn8) (j + 1)) HRx.out (by omega)
                    exact ⟨⟨j + 1, by omega, by go_num, _, by rw [Htk.out]; exact Lib.hid z0, Lib.hid z1, Lib.hid z2, Lib.hid (fun _ => z3)⟩, by simp [intOf]; omega⟩
                · have HD : Hid (∀ w, Below wx.heap.size wx w → RowX w (.slice (some ⟨g, q * 5 + 5, none⟩) (M.length - q - 1) (cap - q - 1)) (M.drop (q + 1))) := Lib.hid (fun w hB => rowX_drop HE.out (q + 1) _ _ _ (by omega) (by omega) hB)
                  cases has
                  · go_wp2_with fail
                    (with_reducible refine (raft_false t kk oa ob oc na nb nc true _).mono ?_)
                    rintro e w4 ⟨rfl, hb4⟩
                    unfold rowV
                    have HW4 := Lib.hid (bt (ba wx _) hb4)
                    obtain ⟨c0, c1, f0, f1⟩ := (HI.out.below HW4.out).cells
                    have hb4z := Nat.lt_of_lt_of_le hbx HW4.out.size
                    have hb4n : ¬ b = w4.heap.size := by omega
                    have hb4m : ¬ b = w4.heap.size + 1 := by omega
                    clear hb4
                    have HW5 := Lib.hid (bt HW4.out (ba w4 (.cells #[.int .i64 0, .int .i64 0, .int .i64 0, .int .i64 0, .int .i64 0] 57)))
                    go_wp2_with (first | (at_builtin; refine wpList_append_rows rfl (.tmp 119) (.tmp 125) rfl wx.heap.size (.slice none 0 0) _ [] (M.take q) rfl rfl (OwnR.nil _ _) (HT.out _ HW5.out) (by simp; omega) HW5.out.size ?_; intro v1 w6 ho1 hg1; have HO1 := Lib.hid ho1; have HW6 := Lib.hid (below_grow HW5.out (OwnR.nil _ _) hg1); clear ho1 hg1) | (at_builtin; refine wpList_append_rows rfl (.tmp 126) (.tmp 127) rfl wx.heap.size v1 _ ([] ++ M.take q) [] rfl rfl HO1.out (.inl ⟨rfl, rfl⟩) (by simp; omega) HW6.out.size ?_; intro v2 w7 ho2 hg2; have HO2 := Lib.hid ho2; have HW7 := Lib.hid (below_grow HW6.out HO1.out hg2); clear ho2 hg2) | (at_builtin; refine wpList_append_rows rfl (.tmp 128) (.tmp 129) rfl wx.heap.size v2 _ (([] ++ M.take q) ++ []) (M.drop (q + 1)) rfl rfl HO2.out (HD.out _ HW7.out) (by simp; omega) HW7.out.size ?_; intro v3 w8 ho3 hg3; have HW8 := Lib.hid (below_grow HW7.out HO2.out hg3); have HO3 : Hid (OwnR w8 wx.heap.size v3 (stepC M ⟨t, kk, true, ⟨oa, ob, oc⟩, false, ⟨na, nb, nc⟩⟩)) := Lib.hid (by rw [HSp.out.1]; simpa [List.append_assoc] using ho3); obtain ⟨a3, n3, cap3, rfl⟩ := own_form ho3; obtain ⟨k0, k1, kf0, kf1⟩ := (HI.out.below HW8.out).cells; have hb8 := Nat.lt_of_lt_of_le hbx HW8.out.size; clear ho3 hg3))
                    obtain ⟨z0, z1, z2, z3⟩ := rf_step HI.out HK.out HW8.out HO3.out (srt_step HI.out.srt _) (by rw [← Htk.out]; exact len_tk HS.out.good.1 (vrec_apart HQ.out) HFs.out hL (by rw [← HN.out]; exact hn8) (j + 1)) HRx.out (by omega)
                    exact ⟨⟨j + 1, by omega, by go_num, _, by rw [Htk.out]; exact Lib.hid z0, Lib.hid z1, Lib.hid z2, Lib.hid (fun _ => z3)⟩, by simp [intOf]; omega⟩
                  · go_wp2_with fail
                    (with_reducible refine (raft_true t kk oa ob oc na nb nc true _).mono ?_)
                    rintro e w4 ⟨rfl, hb4⟩
                    unfold rowV
                    have HW4 := Lib.hid (bt (ba wx _) hb4)
                    obtain ⟨c0, c1, f0, f1⟩ := (HI.out.below HW4.out).cells
                    have hb4z := Nat.lt_of_lt_of_le hbx HW4.out.size
                    have hb4n : ¬ b = w4.heap.size := by omega
                    have hb4m : ¬ b = w4.heap.size + 1 := by omega
                    clear hb4
                    have HW5 := Lib.hid (bt (bt HW4.out (ba w4 (.cells #[.int .i64 t, .int .i64 kk, .int .i64 na, .int .i64 nb, .int .i64 nc] 57))) (ba _ (.cells #[.int .i64 t, .int .i64 kk, .int .i64 na, .int .i64 nb, .int .i64 nc] 57)))
                    go_wp2_with (first | (at_builtin; refine wpList_append_rows rfl (.tmp 119) (.tmp 125) rfl wx.heap.size (.slice none 0 0) _ [] (M.take q) rfl rfl (OwnR.nil _ _) (HT.out _ HW5.out) (by simp; omega) HW5.out.size ?_; intro v1 w6 ho1 hg1; have HO1 := Lib.hid ho1; have HW6 := Lib.hid (below_grow HW5.out (OwnR.nil _ _) hg1); have HMid := Lib.hid (rowX_one ((hg1.block (w4.heap.size + 1) (by simp) (by simp [Value.ownBlock])).trans (by have := heap_alloc_new (w4.alloc (.cells #[.int .i64 t, .int .i64 kk, .int .i64 na, .int .i64 nb, .int .i64 nc] 57)) (.cells #[.int .i64 t, .int .i64 kk, .int .i64 na, .int .i64 nb, .int .i64 nc] 57); rwa [World.size_alloc] at this))); clear ho1 hg1) | (at_builtin; refine wpList_append_rows rfl (.tmp 126) (.tmp 127) rfl wx.heap.size v1 _ ([] ++ M.take q) [⟨t, kk, ⟨na, nb, nc⟩⟩] rfl rfl HO1.out HMid.out (by simp; omega) HW6.out.size ?_; intro v2 w7 ho2 hg2; have HO2 := Lib.hid ho2; have HW7 := Lib.hid (below_grow HW6.out HO1.out hg2); clear ho2 hg2) | (at_builtin; refine wpList_append_rows rfl (.tmp 128) (.tmp 129) rfl wx.heap.size v2 _ (([] ++ M.take q) ++ [⟨t, kk, ⟨na, nb, nc⟩⟩]) (M.drop (q + 1)) rfl rfl HO2.out (HD.out _ HW7.out) (by simp; omega) HW7.out.size ?_; intro v3 w8 ho3 hg3; have HW8 := Lib.hid (below_grow HW7.out HO2.out hg3); have HO3 : Hid (OwnR w8 wx.heap.size v3 (stepC M ⟨t, kk, true, ⟨oa, ob, oc⟩, true, ⟨na, nb, nc⟩⟩)) := Lib.hid (by rw [HSp.out.1]; simpa [List.append_assoc] using ho3); obtain ⟨a3, n3, cap3, rfl⟩ := own_form ho3; obtain ⟨k0, k1, kf0, kf1⟩ := (HI.out.below HW8.out).cells; have hb8 := Nat.lt_of_lt_of_le hbx HW8.out.size; clear ho3 hg3))
                    obtain ⟨z0, z1, z2, z3⟩ := rf_step HI.out HK.out HW8.out HO3.out (srt_step HI.out.srt _) (by rw [← Htk.out]; exact len_tk HS.out.good.1 (vrec_apart HQ.out) HFs.out hL (by rw [← HN.out]; exact hn8) (j + 1)) HRx.out (by omega)
                    exact ⟨⟨j + 1, by omega, by go_num, _, by rw [Htk.out]; exact Lib.hid z0, Lib.hid z1, Lib.hid z2, Lib.hid (fun _ => z3)⟩, by simp [intOf]; omega⟩
          · obtain rfl : j = k := by omega
            have HE : Hid (RfIn wx b vj (stepAll L cs) p) := Lib.hid (by have := HI.out; rwa [HN.out, List.take_length] at this)
            have q0 : wx.cell? ⟨W.heap.size, 0, none⟩ = some (.int .i64 pos) := by simp [World.cell?, HRx.out]
            obtain ⟨c0, c1, f0, f1⟩ := HE.out.cells
            have hbx := HE.out.lt
            go_wp2_with fail
            go_ret
            have hk1 : Kept (fun i => i = b) wx (wx.setCell ⟨b, 1, none⟩ (.int .i64 pos)) := Kept.setCell (F := fun i => i = b) (p := ⟨b, 1, none⟩) (Kept.refl _ _) (.inl rfl) _
            exact .inl ⟨HFs.out, HCnt.out, rfl, vj, ⟨two_setCell1 HE.out.blk, HE.out.own.kept' hk1 (fun i e f => by have := HO.out hn1 i e; omega), HE.out.srt, HE.out.len⟩, HK.out.trans hk1 (fun _ _ f => f), HO.out hn1⟩
      · have dz : decide (2000 < z) = true := decide_eq_true (by omega)
        go_wp2_with fail
        go_ret
        exact .inr ⟨fun h => by have := h.2; rw [← HZs.out] at this; omega, rfl, HBr.out⟩
end Go.Proofs.YtgbnjjgnihjfgaaGreat
end

section
set_option linter.unusedVariables false
set_option linter.unusedSimpArgs false
namespace Go.Proofs.YtgbnjjgnihjfgaaGreat
open Go.RowKit Go.Sort Go.ChangeMaps Go.MapKept

/-- What the reference's Apply does. -/
def RApp (W : World) (b : Nat) (L : List MRow) (p pos : Int) (cs : List MCh) (e : Ending) (w' : World) : Prop :=
  (Okay L p pos cs ∧ e = .returned (.int .i64 0) ∧ ∃ v', RfAt w' b v' (stepAll L cs) pos ∧ Kept (fun k => k = b) W w' ∧ ∀ i, v'.ownBlock = some i → W.heap.size ≤ i) ∨
  (¬ Okay L p pos cs ∧ e = .returned (.int .i64 40) ∧ Below W.heap.size W w')
theorem applyR_any {W : World} {b : Nat} {v : Value} {L : List MRow} {p : Int} (h : RfAt W b v L p) {pos : Int} {cs : List MCh} {u : Value} (hv : ChS W u cs) :
    Calls Tryz.prog 33 #[.pointer (some ⟨b, 0, none⟩), .agg #[.int .i64 pos, u]] W (RApp W b L p pos cs) := by
  by_cases h1 : VRec pos cs ∧ pos = p + 1
  · refine (applyR_next h hv h1.1 h1.2).mono fun e w' hp => ?_
    rcases hp with ⟨h2, h3, he, v', hi, hk, ho⟩ | ⟨h2, he, hb⟩
    · have hok : Okay L p pos cs := ⟨h1.1, h1.2, h2, h3⟩
      have hp1 := h1.1.1
      exact .inl ⟨hok, he, v', ⟨hi.blk, hi.own, good_all h.good hok, by omega⟩, hk, ho⟩
    · exact .inr ⟨fun ho => h2 ho.2.2, he, hb⟩
  · exact (applyR_inv h hv h1).mono fun e w' ⟨he, hb⟩ => .inr ⟨fun ho => h1 ⟨ho.1, ho.2.1⟩, he, hb⟩

end Go.Proofs.YtgbnjjgnihjfgaaGreat
end

section
set_option linter.unusedVariables false
set_option linter.unusedSimpArgs false
namespace Go.Proofs.YtgbnjjgnihjfgaaGreat
open Go.RowKit Go.Sort Go.ChangeMaps Go.MapKept

theorem sortOf_filter {L : List MRow} (h : Srt L) (t : Int) : SortOf L (selT t) 0 (L.filter (selT t)) := by
  refine ⟨List.Perm.refl _, ?_⟩
  have h1 : (L.filter (selT t)).Pairwise rlt := srt_filter h _
  refine List.Pairwise.imp_of_mem (fun {a b} ha hb hab => ?_) h1
  have ha' := (List.mem_filter.1 ha).2
  have hb' := (List.mem_filter.1 hb).2
  simp only [selT, decide_eq_true_eq] at ha' hb'
  unfold rlt at hab
  have e1 : vget a 0 = a.k := rfl
  have e2 : vget b 0 = b.k := rfl
  unfold rle
  rw [e1, e2]
  omega
/-- What pick gives: something of 0 .. n - 1. -/
def pk (c : Int) (n : Int) : Int := (if c < 0 then -(c + 1) else c) % n
theorem pk_range (c : Int) {n : Int} (hn : 1 ≤ n) : 0 ≤ pk c n ∧ pk c n < n := by
  unfold pk
  exact ⟨Int.emod_nonneg _ (by omega), Int.emod_lt_of_pos _ (by omega)⟩
end Go.Proofs.YtgbnjjgnihjfgaaGreat
end

