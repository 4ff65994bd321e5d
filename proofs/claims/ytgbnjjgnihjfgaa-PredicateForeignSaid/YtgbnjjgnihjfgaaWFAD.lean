/- A6, A5 -/
import Derived.Test.YtgbnjjgnihjfgaaProg
import Derived.WalkKit
import Derived.Below
import Derived.Lib.Hide
import Derived.Laws.StructEq
import Derived.Lib.QuietBelow
import Derived.Deep.RegionHeld3
import Derived.Deep.RegionWith
import Derived.IntWalk
import Derived.BigQuiet
import Derived.Maps.RangeWalk
import Derived.DeepKeys4
import Derived.OneCell
import Derived.StillTail
import Derived.Deep.CutRange
import Derived.Outline
import Derived.WalkSpells
import Derived.Carry
import Derived.Shelf.SlGeneric
import Derived.Shelf.SlSortCmp.WholeK
import Derived.Shelf.SlicesG.Cmp
import Derived.Ground.SlsfProg
import Derived.Ground.SlgcProg
import Derived.Sort.OwnSorted
import Derived.Deep.AppendLies
import Derived.Shelf.SlSortCmp.NoneTotal
import Derived.Deep.QuietTactic
import Derived.Laws.AppendOwnNone
import Derived.Laws.EntriesVeiled
import Derived.Lib.SliceRun
import Derived.Deep.Cut
import Derived.Laws.ResultCell
import Derived.Test.YtgbnjjgnihjfgaaWFAB
import Derived.Test.YtgbnjjgnihjfgaaWFAC
import Derived.Test.YtgbnjjgnihjfgaaWFAA
import Derived.ArgAppend
import Derived.Laws.Rows
import Derived.Great.BuildSlice
import Derived.Great.Frames
section
section
set_option linter.unusedVariables false
set_option linter.unusedSimpArgs false
namespace Go.Proofs.Ytgbnjjgnihjfgaa
open Go.RowKit Go.Sort

structure MQ where
  kind : Int
  table : Int
  column : Int
  low : Int
  high : Int
  by_ : Int
  other : Int
deriving DecidableEq
def MQ.zero : MQ := ⟨0, 0, 0, 0, 0, 0, 0⟩
def MQ.Ok (q : MQ) : Prop := I64 q.kind ∧ I64 q.table ∧ I64 q.column ∧ I64 q.low ∧ I64 q.high ∧ I64 q.by_ ∧ I64 q.other
def scanB (q : MQ) : Bool := 0 ≤ q.table && q.table ≤ 3 && (0 ≤ q.column && q.column ≤ 3) && -1000000000 ≤ q.low && q.low ≤ q.high && q.high ≤ 1000000000
def validB (q : MQ) : Bool :=
  scanB q &&
    (if q.kind = 1 then q.column = 0 && q.low = q.high && (1 ≤ q.low && q.low ≤ 1000000) && q.by_ = 0 && q.other = 0
    else if q.kind = 2 || q.kind = 3 then q.by_ = 0 && q.other = 0
    else if q.kind = 4 || q.kind = 5 || q.kind = 6 then (1 ≤ q.by_ && q.by_ ≤ 3) && q.other = 0
    else if q.kind = 7 then (1 ≤ q.by_ && q.by_ ≤ 3) && (0 ≤ q.other && q.other ≤ 3)
    else false)

theorem valid_ok {q : MQ} (h : validB q = true) : q.Ok ∧ 1 ≤ q.kind ∧ q.kind ≤ 7 := by
  obtain ⟨k, t, c, l, hh, b, o⟩ := q
  unfold validB scanB at h
  simp only [Bool.and_eq_true, decide_eq_true_eq] at h
  obtain ⟨⟨⟨⟨⟨⟨h1, h2⟩, h3, h4⟩, h5⟩, h6⟩, h7⟩, hk⟩ := h
  unfold MQ.Ok I64
  simp only
  split at hk
  · simp only [Bool.and_eq_true, decide_eq_true_eq] at hk
    omega
  · split at hk
    · rename_i hq
      simp only [Bool.or_eq_true, decide_eq_true_eq] at hq
      simp only [Bool.and_eq_true, decide_eq_true_eq] at hk
      omega
    · split at hk
      · rename_i hq
        simp only [Bool.or_eq_true, decide_eq_true_eq] at hq
        simp only [Bool.and_eq_true, decide_eq_true_eq] at hk
        omega
      · split at hk
        · simp only [Bool.and_eq_true, decide_eq_true_eq] at hk
          omega
        · cases hk
abbrev qV (q : MQ) : Value := .agg #[.int .i64 q.kind, .int .i64 q.table, .int .i64 q.column, .int .i64 q.low, .int .i64 q.high, .int .i64 q.by_, .int .i64 q.other]
/-- A query in block b. -/
structure QAt (w : World) (b : Nat) (q : MQ) : Prop where
  c0 : w.cell? ⟨b, 0, none⟩ = some (.int .i64 q.kind)
  c1 : w.cell? ⟨b, 1, none⟩ = some (.int .i64 q.table)
  c2 : w.cell? ⟨b, 2, none⟩ = some (.int .i64 q.column)
  c3 : w.cell? ⟨b, 3, none⟩ = some (.int .i64 q.low)
  c4 : w.cell? ⟨b, 4, none⟩ = some (.int .i64 q.high)
  c5 : w.cell? ⟨b, 5, none⟩ = some (.int .i64 q.by_)
  c6 : w.cell? ⟨b, 6, none⟩ = some (.int .i64 q.other)
theorem QAt.below {w w' : World} {b : Nat} {q : MQ} (h : QAt w b q) (k : Below w.heap.size w w') : QAt w' b q := by
  have hlt := World.block_lt_of_cell? w _ h.c0
  exact ⟨(k.cell (p := ⟨b, 0, none⟩) hlt).trans h.c0, (k.cell (p := ⟨b, 1, none⟩) hlt).trans h.c1, (k.cell (p := ⟨b, 2, none⟩) hlt).trans h.c2, (k.cell (p := ⟨b, 3, none⟩) hlt).trans h.c3, (k.cell (p := ⟨b, 4, none⟩) hlt).trans h.c4, (k.cell (p := ⟨b, 5, none⟩) hlt).trans h.c5, (k.cell (p := ⟨b, 6, none⟩) hlt).trans h.c6⟩
theorem QAt.new (w : World) (q : MQ) : QAt (w.alloc (.cells #[.int .i64 q.kind, .int .i64 q.table, .int .i64 q.column, .int .i64 q.low, .int .i64 q.high, .int .i64 q.by_, .int .i64 q.other] 29)) w.heap.size q := by
  constructor <;> simp [go_sem]
def btw (n lo hi : Int) : Bool := decide (lo ≤ n ∧ n ≤ hi)
theorem btw_t {n lo hi : Int} (h : lo ≤ n ∧ n ≤ hi) : btw n lo hi = true := decide_eq_true h
theorem btw_f {n lo hi : Int} (h : ¬ (lo ≤ n ∧ n ≤ hi)) : btw n lo hi = false := decide_eq_false h
theorem ret_bool {a b : Bool} (h : a = b) : Ending.returned (.bool a) = .returned (.bool b) := by rw [h]

theorem between_any (n lo hi : Int) (w : World) : Calls Try.prog 98 #[.int .i64 n, .int .i64 lo, .int .i64 hi] w fun e w' => e = .returned (.bool (btw n lo hi)) ∧ w = w' := by
  go_enter Try.func98, Try.ntmps98
  go_wp2
  all_goals
    go_ret
    exact ⟨ret_bool (by first | (symm; exact btw_f (by omega)) | (unfold btw; simp [*]; done)), rfl⟩
theorem validBy_any (n : Int) (w : World) : Calls Try.prog 100 #[.int .i64 n] w fun e w' => e = .returned (.bool (btw n 1 3)) ∧ w = w' := by
  go_enter Try.func100, Try.ntmps100
  go_wp2_with fail
  (with_reducible refine (between_any _ _ _ _).mono ?_)
  rintro e w' ⟨rfl, rfl⟩
  go_wp2_with fail
  go_ret
  exact ⟨rfl, rfl⟩
theorem validTable_any (n : Int) (w : World) : Calls Try.prog 101 #[.int .i64 n] w fun e w' => e = .returned (.bool (btw n 0 3)) ∧ w = w' := by
  go_enter Try.func101, Try.ntmps101
  go_wp2_with fail
  (with_reducible refine (between_any _ _ _ _).mono ?_)
  rintro e w' ⟨rfl, rfl⟩
  go_wp2_with fail
  go_ret
  exact ⟨rfl, rfl⟩

theorem scanB_f {q : MQ} (h : ¬ ((0 ≤ q.table ∧ q.table ≤ 3) ∧ (0 ≤ q.column ∧ q.column ≤ 3) ∧ -1000000000 ≤ q.low ∧ q.low ≤ q.high ∧ q.high ≤ 1000000000)) : scanB q = false := by
  cases e : scanB q with
  | false => rfl
  | true =>
    refine absurd ?_ h
    unfold scanB at e
    simp only [Bool.and_eq_true, decide_eq_true_eq] at e
    omega
theorem scanB_t {q : MQ} (h1 : (0 ≤ q.table ∧ q.table ≤ 3) ∧ (0 ≤ q.column ∧ q.column ≤ 3) ∧ -1000000000 ≤ q.low ∧ q.low ≤ q.high) : scanB q = decide (q.high ≤ 1000000000) := by
  unfold scanB
  simp [h1]

set_option maxRecDepth 100000 in
set_option maxHeartbeats 1000000 in
theorem validScan_any (k t c l h b o : Int) (w : World) : Calls Try.prog 99 #[qV ⟨k, t, c, l, h, b, o⟩] w fun e w' => e = .returned (.bool (scanB ⟨k, t, c, l, h, b, o⟩)) ∧ Below w.heap.size w w' := by
  unfold qV
  by_cases h1 : 0 ≤ t ∧ t ≤ 3
  · have T := Lib.hid (btw_t h1)
    by_cases h2 : 0 ≤ c ∧ c ≤ 3
    · have C := Lib.hid (btw_t h2)
      go_enter Try.func99, Try.ntmps99
      go_wp2_with fail
      (with_reducible refine (validTable_any _ _).mono ?_)
      rintro e w' ⟨rfl, rfl⟩
      rw [T.out]
      go_wp2_with fail
      (with_reducible refine (between_any _ _ _ _).mono ?_)
      rintro e w' ⟨rfl, rfl⟩
      rw [C.out]
      go_wp2_with fail
      all_goals
        go_ret
        refine ⟨ret_bool ?_, ba _ _⟩
        first
          | (symm; exact scanB_f (by simp only; omega))
          | (symm; exact scanB_t ⟨h1, h2, by assumption, by assumption⟩)
    · have C := Lib.hid (btw_f h2)
      have S := Lib.hid (scanB_f (q := ⟨k, t, c, l, h, b, o⟩) (fun e => h2 e.2.1))
      clear h1 h2
      go_enter Try.func99, Try.ntmps99
      go_wp2_with fail
      (with_reducible refine (validTable_any _ _).mono ?_)
      rintro e w' ⟨rfl, rfl⟩
      rw [T.out]
      go_wp2_with fail
      (with_reducible refine (between_any _ _ _ _).mono ?_)
      rintro e w' ⟨rfl, rfl⟩
      rw [C.out]
      go_wp2_with fail
      go_ret
      exact ⟨ret_bool S.out.symm, ba _ _⟩
  · have T := Lib.hid (btw_f h1)
    have S := Lib.hid (scanB_f (q := ⟨k, t, c, l, h, b, o⟩) (fun e => h1 e.1))
    clear h1
    go_enter Try.func99, Try.ntmps99
    go_wp2_with fail
    (with_reducible refine (validTable_any _ _).mono ?_)
    rintro e w' ⟨rfl, rfl⟩
    rw [T.out]
    go_wp2_with fail
    go_ret
    exact ⟨ret_bool S.out.symm, ba _ _⟩
theorem validB_scan {q : MQ} (h : scanB q = false) : validB q = false := by simp [validB, h]
theorem ne_beq {a b : Int} (h : ¬ a = b) : (a == b) = false := by simp [h]
theorem eq_beq {a b : Int} (h : a = b) : (a == b) = true := by simp [h]

set_option maxRecDepth 100000 in
set_option maxHeartbeats 1000000 in
/-- Ranges and counts. -/
theorem valid_23 (k t c l h b o : Int) (w : World) (hk : k = 2 ∨ k = 3) : Calls Try.prog 56 #[qV ⟨k, t, c, l, h, b, o⟩] w fun e w' => e = .returned (.bool (validB ⟨k, t, c, l, h, b, o⟩)) ∧ Below w.heap.size w w' := by
  have HV : Hid (validB ⟨k, t, c, l, h, b, o⟩ = (scanB ⟨k, t, c, l, h, b, o⟩ && ((b == 0) && (o == 0)))) := Lib.hid (by
    have e : ¬ k = 1 := by omega
    simp [validB, e, hk]; rfl)
  obtain ⟨sb, Hsb⟩ : ∃ sb, Hid (scanB ⟨k, t, c, l, h, b, o⟩ = sb) := ⟨_, Lib.hid rfl⟩
  have HC := Lib.hid (validScan_any k t c l h b o (w.alloc (.cells #[.int .i64 k, .int .i64 t, .int .i64 c, .int .i64 l, .int .i64 h, .int .i64 b, .int .i64 o] 29)))
  unfold qV at HC
  unfold qV
  rcases hk with rfl | rfl
  all_goals
    go_enter Try.func56, Try.ntmps56
    go_wp2_with fail
    (with_reducible refine HC.out.mono ?_)
    rintro e w1 ⟨rfl, hb1⟩
    obtain ⟨y0, y1, y2, y3, y4, y5, y6⟩ := (QAt.new w ⟨2, t, c, l, h, b, o⟩)
    have c5 : w1.cell? ⟨w.heap.size, 5, none⟩ = some (.int .i64 b) := (hb1.cell (p := ⟨w.heap.size, 5, none⟩) (by simp)).trans (by simp [go_sem])
    have c6 : w1.cell? ⟨w.heap.size, 6, none⟩ = some (.int .i64 o) := (hb1.cell (p := ⟨w.heap.size, 6, none⟩) (by simp)).trans (by simp [go_sem])
    have HB := Lib.hid (bt (ba w _) hb1)
    clear hb1 y0 y1 y2 y3 y4 y5 y6
    rw [Hsb.out]
    cases sb
    · go_wp2_with fail
      go_ret
      exact ⟨ret_bool (by rw [HV.out, Hsb.out]; rfl), HB.out⟩
    · by_cases hb : b = 0
      · have gb := eq_beq hb
        by_cases ho : o = 0
        · have go' := eq_beq ho
          clear hb ho
          go_wp2_with fail
          go_ret
          exact ⟨ret_bool (by rw [HV.out, Hsb.out, gb, go']; rfl), HB.out⟩
        · have go' := ne_beq ho
          clear hb ho
          go_wp2_with fail
          go_ret
          exact ⟨ret_bool (by rw [HV.out, Hsb.out, gb, go']; rfl), HB.out⟩
      · have gb := ne_beq hb
        clear hb
        go_wp2_with fail
        go_ret
        exact ⟨ret_bool (by rw [HV.out, Hsb.out, gb]; rfl), HB.out⟩

set_option maxRecDepth 100000 in
set_option maxHeartbeats 1000000 in
/-- Sums and the like. -/
theorem valid_456 (k t c l h b o : Int) (w : World) (hk : k = 4 ∨ k = 5 ∨ k = 6) : Calls Try.prog 56 #[qV ⟨k, t, c, l, h, b, o⟩] w fun e w' => e = .returned (.bool (validB ⟨k, t, c, l, h, b, o⟩)) ∧ Below w.heap.size w w' := by
  have HV : Hid (validB ⟨k, t, c, l, h, b, o⟩ = (scanB ⟨k, t, c, l, h, b, o⟩ && (btw b 1 3 && (o == 0)))) := Lib.hid (by
    have e : ¬ k = 1 := by omega
    have e2 : ¬ (k = 2 ∨ k = 3) := by omega
    have e3 : (k = 4 ∨ k = 5) ∨ k = 6 := by omega
    simp [validB, e, e2, e3, btw]; rfl)
  obtain ⟨sb, Hsb⟩ : ∃ sb, Hid (scanB ⟨k, t, c, l, h, b, o⟩ = sb) := ⟨_, Lib.hid rfl⟩
  have HC := Lib.hid (validScan_any k t c l h b o (w.alloc (.cells #[.int .i64 k, .int .i64 t, .int .i64 c, .int .i64 l, .int .i64 h, .int .i64 b, .int .i64 o] 29)))
  unfold qV at HC
  unfold qV
  obtain ⟨bb, Hbb⟩ : ∃ bb, Hid (btw b 1 3 = bb) := ⟨_, Lib.hid rfl⟩
  rcases hk with rfl | rfl | rfl
  all_goals
    go_enter Try.func56, Try.ntmps56
    go_wp2_with fail
    (with_reducible refine HC.out.mono ?_)
    rintro e w1 ⟨rfl, hb1⟩
    have c5 : w1.cell? ⟨w.heap.size, 5, none⟩ = some (.int .i64 b) := (hb1.cell (p := ⟨w.heap.size, 5, none⟩) (by simp)).trans (by simp [go_sem])
    have c6 : w1.cell? ⟨w.heap.size, 6, none⟩ = some (.int .i64 o) := (hb1.cell (p := ⟨w.heap.size, 6, none⟩) (by simp)).trans (by simp [go_sem])
    have HB := Lib.hid (bt (ba w _) hb1)
    clear hb1
    rw [Hsb.out]
    cases sb
    · go_wp2_with fail
      go_ret
      exact ⟨ret_bool (by rw [HV.out, Hsb.out]; rfl), HB.out⟩
    · go_wp2_with fail
      (with_reducible refine (validBy_any _ _).mono ?_)
      rintro e w' ⟨rfl, rfl⟩
      rw [Hbb.out]
      cases bb
      · go_wp2_with fail
        go_ret
        exact ⟨ret_bool (by rw [HV.out, Hsb.out, Hbb.out]; rfl), HB.out⟩
      · by_cases ho : o = 0
        · have go' := eq_beq ho
          clear ho
          go_wp2_with fail
          go_ret
          exact ⟨ret_bool (by rw [HV.out, Hsb.out, Hbb.out, go']; rfl), HB.out⟩
        · have go' := ne_beq ho
          clear ho
          go_wp2_with fail
          go_ret
          exact ⟨ret_bool (by rw [HV.out, Hsb.out, Hbb.out, go']; rfl), HB.out⟩

set_option maxRecDepth 100000 in
set_option maxHeartbeats 1000000 in
/-- Joins. -/
theorem valid_7 (k t c l h b o : Int) (w : World) (hk : k = 7) : Calls Try.prog 56 #[qV ⟨k, t, c, l, h, b, o⟩] w fun e w' => e = .returned (.bool (validB ⟨k, t, c, l, h, b, o⟩)) ∧ Below w.heap.size w w' := by
  have HV : Hid (validB ⟨k, t, c, l, h, b, o⟩ = (scanB ⟨k, t, c, l, h, b, o⟩ && (btw b 1 3 && btw o 0 3))) := Lib.hid (by
    subst hk
    simp [validB, btw])
  obtain ⟨sb, Hsb⟩ : ∃ sb, Hid (scanB ⟨k, t, c, l, h, b, o⟩ = sb) := ⟨_, Lib.hid rfl⟩
  have HC := Lib.hid (validScan_any k t c l h b o (w.alloc (.cells #[.int .i64 k, .int .i64 t, .int .i64 c, .int .i64 l, .int .i64 h, .int .i64 b, .int .i64 o] 29)))
  unfold qV at HC
  unfold qV
  obtain ⟨bb, Hbb⟩ : ∃ bb, Hid (btw b 1 3 = bb) := ⟨_, Lib.hid rfl⟩
  obtain ⟨ob, Hob⟩ : ∃ ob, Hid (btw o 0 3 = ob) := ⟨_, Lib.hid rfl⟩
  rcases hk with rfl
  all_goals
    go_enter Try.func56, Try.ntmps56
    go_wp2_with fail
    (with_reducible refine HC.out.mono ?_)
    rintro e w1 ⟨rfl, hb1⟩
    have c5 : w1.cell? ⟨w.heap.size, 5, none⟩ = some (.int .i64 b) := (hb1.cell (p := ⟨w.heap.size, 5, none⟩) (by simp)).trans (by simp [go_sem])
    have c6 : w1.cell? ⟨w.heap.size, 6, none⟩ = some (.int .i64 o) := (hb1.cell (p := ⟨w.heap.size, 6, none⟩) (by simp)).trans (by simp [go_sem])
    have HB := Lib.hid (bt (ba w _) hb1)
    clear hb1
    rw [Hsb.out]
    cases sb
    · go_wp2_with fail
      go_ret
      exact ⟨ret_bool (by rw [HV.out, Hsb.out]; rfl), HB.out⟩
    · go_wp2_with fail
      (with_reducible refine (validBy_any _ _).mono ?_)
      rintro e w' ⟨rfl, rfl⟩
      rw [Hbb.out]
      cases bb
      · go_wp2_with fail
        go_ret
        exact ⟨ret_bool (by rw [HV.out, Hsb.out, Hbb.out]; rfl), HB.out⟩
      · go_wp2_with fail
        (with_reducible refine (validTable_any _ _).mono ?_)
        rintro e w' ⟨rfl, rfl⟩
        rw [Hob.out]
        go_wp2_with fail
        go_ret
        exact ⟨ret_bool (by rw [HV.out, Hsb.out, Hbb.out, Hob.out]; rfl), HB.out⟩

set_option maxRecDepth 100000 in
set_option maxHeartbeats 1000000 in
/-- No kind. -/
theorem valid_no (k t c l h b o : Int) (w : World) (hk : ¬ (1 ≤ k ∧ k ≤ 7)) : Calls Try.prog 56 #[qV ⟨k, t, c, l, h, b, o⟩] w fun e w' => e = .returned (.bool (validB ⟨k, t, c, l, h, b, o⟩)) ∧ Below w.heap.size w w' := by
  have HV : Hid (validB ⟨k, t, c, l, h, b, o⟩ = false) := Lib.hid (by
    cases e : validB ⟨k, t, c, l, h, b, o⟩ with
    | false => rfl
    | true => exact absurd (valid_ok e).2 hk)
  have k1 := ne_beq (show ¬ k = 1 by omega)
  have k2 := ne_beq (show ¬ k = 2 by omega)
  have k3 := ne_beq (show ¬ k = 3 by omega)
  have k4 := ne_beq (show ¬ k = 4 by omega)
  have k5 := ne_beq (show ¬ k = 5 by omega)
  have k6 := ne_beq (show ¬ k = 6 by omega)
  have k7 := ne_beq (show ¬ k = 7 by omega)
  clear hk
  unfold qV
  go_enter Try.func56, Try.ntmps56
  go_wp2_with fail
  go_ret
  exact ⟨ret_bool HV.out.symm, ba _ _⟩

set_option maxRecDepth 100000 in
set_option maxHeartbeats 2000000 in
/-- Rows. -/
theorem valid_1 (k t c l h b o : Int) (w : World) (hk : k = 1) : Calls Try.prog 56 #[qV ⟨k, t, c, l, h, b, o⟩] w fun e w' => e = .returned (.bool (validB ⟨k, t, c, l, h, b, o⟩)) ∧ Below w.heap.size w w' := by
  have HV : Hid (validB ⟨k, t, c, l, h, b, o⟩ = ((c == 0) && (l == h) && btw l 1 1000000 && (scanB ⟨k, t, c, l, h, b, o⟩ && ((b == 0) && (o == 0))))) := Lib.hid (by
    subst hk
    unfold validB
    rw [Bool.eq_iff_iff]
    simp only [Bool.and_eq_true, beq_iff_eq, btw, decide_eq_true_eq, if_true]
    constructor
    · rintro ⟨h1, ⟨⟨⟨h2, h3⟩, h4, h5⟩, h6⟩, h7⟩
      exact ⟨⟨⟨h2, h3⟩, h4, h5⟩, h1, h6, h7⟩
    · rintro ⟨⟨⟨h2, h3⟩, h4, h5⟩, h1, h6, h7⟩
      exact ⟨h1, ⟨⟨⟨h2, h3⟩, h4, h5⟩, h6⟩, h7⟩)
  obtain ⟨sb, Hsb⟩ : ∃ sb, Hid (scanB ⟨k, t, c, l, h, b, o⟩ = sb) := ⟨_, Lib.hid rfl⟩
  have HC := Lib.hid (validScan_any k t c l h b o (w.alloc (.cells #[.int .i64 k, .int .i64 t, .int .i64 c, .int .i64 l, .int .i64 h, .int .i64 b, .int .i64 o] 29)))
  unfold qV at HC
  unfold qV
  obtain ⟨lb, Hlb⟩ : ∃ lb, Hid (btw l 1 1000000 = lb) := ⟨_, Lib.hid rfl⟩
  rcases hk with rfl
  by_cases hc : c = 0
  · have gc : (c != 0) = false := by simp [hc]
    have Gc := Lib.hid (eq_beq hc)
    by_cases hl : l = h
    · have gl : (l != h) = false := by simp [hl]
      have Gl := Lib.hid (eq_beq hl)
      clear hc hl
      go_enter Try.func56, Try.ntmps56
      go_wp2_with fail
      (with_reducible refine (between_any _ _ _ _).mono ?_)
      rintro e w' ⟨rfl, rfl⟩
      rw [Hlb.out]
      cases lb
      · go_wp2_with fail
        go_ret
        exact ⟨ret_bool (by rw [HV.out, Hlb.out]; simp), ba _ _⟩
      · go_wp2_with fail
        (with_reducible refine HC.out.mono ?_)
        rintro e w1 ⟨rfl, hb1⟩
        have c5 : w1.cell? ⟨w.heap.size, 5, none⟩ = some (.int .i64 b) := (hb1.cell (p := ⟨w.heap.size, 5, none⟩) (by simp)).trans (by simp [go_sem])
        have c6 : w1.cell? ⟨w.heap.size, 6, none⟩ = some (.int .i64 o) := (hb1.cell (p := ⟨w.heap.size, 6, none⟩) (by simp)).trans (by simp [go_sem])
        have HB := Lib.hid (bt (ba w _) hb1)
        clear hb1
        rw [Hsb.out]
        cases sb
        · go_wp2_with fail
          go_ret
          exact ⟨ret_bool (by rw [HV.out, Hsb.out]; simp), HB.out⟩
        · by_cases hb : b = 0
          · have gb := eq_beq hb
            by_cases ho : o = 0
            · have go' := eq_beq ho
              clear hb ho
              go_wp2_with fail
              go_ret
              exact ⟨ret_bool (by rw [HV.out, Hsb.out, Gc.out, Gl.out, Hlb.out, gb, go']; rfl), HB.out⟩
            · have go' := ne_beq ho
              clear hb ho
              go_wp2_with fail
              go_ret
              exact ⟨ret_bool (by rw [HV.out, go']; simp), HB.out⟩
          · have gb := ne_beq hb
            clear hb
            go_wp2_with fail
            go_ret
            exact ⟨ret_bool (by rw [HV.out, gb]; simp), HB.out⟩
    · have gl : (l != h) = true := by simp [hl]
      have Gl := Lib.hid (ne_beq hl)
      clear hc hl
      go_enter Try.func56, Try.ntmps56
      go_wp2_with fail
      go_ret
      exact ⟨ret_bool (by rw [HV.out, Gl.out]; simp), ba _ _⟩
  · have gc : (c != 0) = true := by simp [hc]
    have Gc := Lib.hid (ne_beq hc)
    clear hc
    go_enter Try.func56, Try.ntmps56
    go_wp2_with fail
    go_ret
    exact ⟨ret_bool (by rw [HV.out, Gc.out]; simp), ba _ _⟩

/-- **Valid.** -/
theorem qvalid_any (q : MQ) (w : World) : Calls Try.prog 56 #[qV q] w fun e w' => e = .returned (.bool (validB q)) ∧ Below w.heap.size w w' := by
  obtain ⟨k, t, c, l, h, b, o⟩ := q
  by_cases h1 : 1 ≤ k ∧ k ≤ 7
  · by_cases h2 : k = 1
    · exact valid_1 k t c l h b o w h2
    · by_cases h3 : k = 2 ∨ k = 3
      · exact valid_23 k t c l h b o w h3
      · by_cases h4 : k = 7
        · exact valid_7 k t c l h b o w h4
        · exact valid_456 k t c l h b o w (by omega)
  · exact valid_no k t c l h b o w h1
set_option maxRecDepth 100000 in
theorem within_any (n a b : Int) (w : World) : Calls Try.prog 87 #[.int .i64 n, .int .i64 a, .int .i64 b] w fun e w' => e = .returned (.bool (btw n a b)) ∧ w = w' := by
  by_cases h1 : a ≤ n
  · have d1 : decide (a ≤ n) = true := decide_eq_true h1
    go_enter Try.func87, Try.ntmps87
    go_wp2_with fail
    go_ret
    exact ⟨ret_bool (by simp [btw, h1]), rfl⟩
  · have d1 : decide (a ≤ n) = false := decide_eq_false h1
    go_enter Try.func87, Try.ntmps87
    go_wp2_with fail
    go_ret
    exact ⟨ret_bool (btw_f (by omega)).symm, rfl⟩

set_option maxRecDepth 100000 in
set_option maxHeartbeats 2000000 in
theorem rvalid_no (k t c l h b o : Int) (w : World) (hs : scanB ⟨k, t, c, l, h, b, o⟩ = false) : Calls Try.prog 39 #[qV ⟨k, t, c, l, h, b, o⟩] w fun e w' => e = .returned (.bool (validB ⟨k, t, c, l, h, b, o⟩)) ∧ Below w.heap.size w w' := by
  have HV := Lib.hid (validB_scan hs)
  have hcase : decide (t < 0) = true ∨ (decide (t < 0) = false ∧ decide (4 ≤ t) = true) ∨ (decide (t < 0) = false ∧ decide (4 ≤ t) = false ∧ decide (c < 0) = true) ∨ (decide (t < 0) = false ∧ decide (4 ≤ t) = false ∧ decide (c < 0) = false ∧ decide (4 ≤ c) = true)
      ∨ (decide (t < 0) = false ∧ decide (4 ≤ t) = false ∧ decide (c < 0) = false ∧ decide (4 ≤ c) = false ∧ decide (l < -1000000000) = true)
      ∨ (decide (t < 0) = false ∧ decide (4 ≤ t) = false ∧ decide (c < 0) = false ∧ decide (4 ≤ c) = false ∧ decide (l < -1000000000) = false ∧ decide (1000000000 < h) = true)
      ∨ (decide (t < 0) = false ∧ decide (4 ≤ t) = false ∧ decide (c < 0) = false ∧ decide (4 ≤ c) = false ∧ decide (l < -1000000000) = false ∧ decide (1000000000 < h) = false ∧ decide (h < l) = true) := by
    simp only [scanB, Bool.and_eq_false_iff, decide_eq_false_iff_not] at hs
    simp only [decide_eq_true_eq, decide_eq_false_iff_not]
    omega
  clear hs
  unfold qV
  rcases hcase with d1 | ⟨d1, d2⟩ | ⟨d1, d2, d3⟩ | ⟨d1, d2, d3, d4⟩ | ⟨d1, d2, d3, d4, d5⟩ | ⟨d1, d2, d3, d4, d5, d6⟩ | ⟨d1, d2, d3, d4, d5, d6, d7⟩
  all_goals
    go_enter Try.func39, Try.ntmps39
    go_wp2_with fail
    go_ret
    exact ⟨ret_bool HV.out.symm, ba _ _⟩

theorem scan_facts {k t c l h b o : Int} (hs : scanB ⟨k, t, c, l, h, b, o⟩ = true) : decide (t < 0) = false ∧ decide (4 ≤ t) = false ∧ decide (c < 0) = false ∧ decide (4 ≤ c) = false ∧ decide (l < -1000000000) = false ∧ decide (1000000000 < h) = false ∧ decide (h < l) = false := by
  simp only [scanB, Bool.and_eq_true, decide_eq_true_eq] at hs
  simp only [decide_eq_false_iff_not]
  omega

set_option maxRecDepth 100000 in
set_option maxHeartbeats 2000000 in
theorem rvalid_none (k t c l h b o : Int) (w : World) (hs : scanB ⟨k, t, c, l, h, b, o⟩ = true) (hk : ¬ (1 ≤ k ∧ k ≤ 7)) : Calls Try.prog 39 #[qV ⟨k, t, c, l, h, b, o⟩] w fun e w' => e = .returned (.bool (validB ⟨k, t, c, l, h, b, o⟩)) ∧ Below w.heap.size w w' := by
  have HV : Hid (validB ⟨k, t, c, l, h, b, o⟩ = false) := Lib.hid (by
    cases e : validB ⟨k, t, c, l, h, b, o⟩ with
    | false => rfl
    | true => exact absurd (valid_ok e).2 hk)
  obtain ⟨d1, d2, d3, d4, d5, d6, d7⟩ := scan_facts hs
  have k1 := ne_beq (show ¬ k = 1 by omega)
  have k2 := ne_beq (show ¬ k = 2 by omega)
  have k3 := ne_beq (show ¬ k = 3 by omega)
  have k4 := ne_beq (show ¬ k = 4 by omega)
  have k5 := ne_beq (show ¬ k = 5 by omega)
  have k6 := ne_beq (show ¬ k = 6 by omega)
  have k7 := ne_beq (show ¬ k = 7 by omega)
  clear hk hs
  unfold qV
  go_enter Try.func39, Try.ntmps39
  go_wp2_with fail
  go_ret
  exact ⟨ret_bool HV.out.symm, ba _ _⟩

set_option maxRecDepth 100000 in
set_option maxHeartbeats 2000000 in
theorem rvalid_23 (k t c l h b o : Int) (w : World) (hs : scanB ⟨k, t, c, l, h, b, o⟩ = true) (hk : k = 2 ∨ k = 3) : Calls Try.prog 39 #[qV ⟨k, t, c, l, h, b, o⟩] w fun e w' => e = .returned (.bool (validB ⟨k, t, c, l, h, b, o⟩)) ∧ Below w.heap.size w w' := by
  have HV : Hid (validB ⟨k, t, c, l, h, b, o⟩ = ((b == 0) && (o == 0))) := Lib.hid (by
    have e : ¬ k = 1 := by omega
    simp [validB, e, hk, hs]; rfl)
  obtain ⟨d1, d2, d3, d4, d5, d6, d7⟩ := scan_facts hs
  clear hs
  obtain ⟨vb, Hb⟩ : ∃ v, (b == 0) = v := ⟨_, rfl⟩
  obtain ⟨vo, Ho⟩ : ∃ v, (o == 0) = v := ⟨_, rfl⟩
  rw [Hb, Ho] at HV
  unfold qV
  rcases hk with rfl | rfl <;> cases vb <;> cases vo
  all_goals
    go_enter Try.func39, Try.ntmps39
    go_wp2_with fail
    go_ret
    exact ⟨ret_bool (by rw [HV.out]; rfl), ba _ _⟩

set_option maxRecDepth 100000 in
set_option maxHeartbeats 2000000 in
theorem rvalid_456 (k t c l h b o : Int) (w : World) (hs : scanB ⟨k, t, c, l, h, b, o⟩ = true) (hk : k = 4 ∨ k = 5 ∨ k = 6) : Calls Try.prog 39 #[qV ⟨k, t, c, l, h, b, o⟩] w fun e w' => e = .returned (.bool (validB ⟨k, t, c, l, h, b, o⟩)) ∧ Below w.heap.size w w' := by
  have HV : Hid (validB ⟨k, t, c, l, h, b, o⟩ = (btw b 1 3 && (o == 0))) := Lib.hid (by
    have e : ¬ k = 1 := by omega
    have e2 : ¬ (k = 2 ∨ k = 3) := by omega
    have e3 : (k = 4 ∨ k = 5) ∨ k = 6 := by omega
    simp [validB, e, e2, e3, btw, hs]; rfl)
  obtain ⟨d1, d2, d3, d4, d5, d6, d7⟩ := scan_facts hs
  clear hs
  obtain ⟨vb, Hb⟩ : ∃ v, Hid (btw b 1 3 = v) := ⟨_, Lib.hid rfl⟩
  obtain ⟨vo, Ho⟩ : ∃ v, (o == 0) = v := ⟨_, rfl⟩
  rw [Hb.out, Ho] at HV
  unfold qV
  rcases hk with rfl | rfl | rfl <;> cases vb <;> cases vo
  all_goals
    go_enter Try.func39, Try.ntmps39
    go_wp2_with fail
    (with_reducible refine (within_any _ _ _ _).mono ?_)
    rintro e w' ⟨rfl, rfl⟩
    rw [Hb.out]
    go_wp2_with fail
    go_ret
    exact ⟨ret_bool (by rw [HV.out]; rfl), ba _ _⟩

set_option maxRecDepth 100000 in
set_option maxHeartbeats 2000000 in
theorem rvalid_7 (k t c l h b o : Int) (w : World) (hs : scanB ⟨k, t, c, l, h, b, o⟩ = true) (hk : k = 7) : Calls Try.prog 39 #[qV ⟨k, t, c, l, h, b, o⟩] w fun e w' => e = .returned (.bool (validB ⟨k, t, c, l, h, b, o⟩)) ∧ Below w.heap.size w w' := by
  have HV : Hid (validB ⟨k, t, c, l, h, b, o⟩ = (btw b 1 3 && btw o 0 3)) := Lib.hid (by
    subst hk
    simp [validB, btw, hs])
  obtain ⟨d1, d2, d3, d4, d5, d6, d7⟩ := scan_facts hs
  clear hs
  obtain ⟨vb, Hb⟩ : ∃ v, Hid (btw b 1 3 = v) := ⟨_, Lib.hid rfl⟩
  obtain ⟨vo, Ho⟩ : ∃ v, Hid (btw o 0 3 = v) := ⟨_, Lib.hid rfl⟩
  rw [Hb.out, Ho.out] at HV
  unfold qV
  subst hk
  cases vb
  · go_enter Try.func39, Try.ntmps39
    go_wp2_with fail
    (with_reducible refine (within_any _ _ _ _).mono ?_)
    rintro e w' ⟨rfl, rfl⟩
    rw [Hb.out]
    go_wp2_with fail
    go_ret
    exact ⟨ret_bool (by rw [HV.out]; rfl), ba _ _⟩
  · go_enter Try.func39, Try.ntmps39
    go_wp2_with fail
    (with_reducible refine (within_any _ _ _ _).mono ?_)
    rintro e w' ⟨rfl, rfl⟩
    rw [Hb.out]
    go_wp2_with fail
    (with_reducible refine (within_any _ _ _ _).mono ?_)
    rintro e w' ⟨rfl, rfl⟩
    rw [Ho.out]
    go_wp2_with fail
    go_ret
    exact ⟨ret_bool (by rw [HV.out]; rfl), ba _ _⟩

set_option maxRecDepth 100000 in
set_option maxHeartbeats 2000000 in
theorem rvalid_1 (k t c l h b o : Int) (w : World) (hs : scanB ⟨k, t, c, l, h, b, o⟩ = true) (hk : k = 1) : Calls Try.prog 39 #[qV ⟨k, t, c, l, h, b, o⟩] w fun e w' => e = .returned (.bool (validB ⟨k, t, c, l, h, b, o⟩)) ∧ Below w.heap.size w w' := by
  have HV : Hid (validB ⟨k, t, c, l, h, b, o⟩ = ((c == 0) && (l == h) && btw l 1 1000000 && ((b == 0) && (o == 0)))) := Lib.hid (by
    subst hk
    unfold validB
    rw [hs, Bool.eq_iff_iff]
    simp only [Bool.and_eq_true, beq_iff_eq, btw, decide_eq_true_eq, if_true, Bool.true_and]
    constructor
    · rintro ⟨⟨⟨⟨h1, h2⟩, h3⟩, h4⟩, h5⟩
      exact ⟨⟨⟨h1, h2⟩, h3⟩, h4, h5⟩
    · rintro ⟨⟨⟨h1, h2⟩, h3⟩, h4, h5⟩
      exact ⟨⟨⟨⟨h1, h2⟩, h3⟩, h4⟩, h5⟩)
  obtain ⟨d1, d2, d3, d4, d5, d6, d7⟩ := scan_facts hs
  clear hs
  obtain ⟨vc, Hc⟩ : ∃ v, (c == 0) = v := ⟨_, rfl⟩
  obtain ⟨vl, Hl⟩ : ∃ v, (l == h) = v := ⟨_, rfl⟩
  obtain ⟨vw, Hw⟩ : ∃ v, Hid (btw l 1 1000000 = v) := ⟨_, Lib.hid rfl⟩
  obtain ⟨vb, Hb⟩ : ∃ v, (b == 0) = v := ⟨_, rfl⟩
  obtain ⟨vo, Ho⟩ : ∃ v, (o == 0) = v := ⟨_, rfl⟩
  rw [Hc, Hl, Hw.out, Hb, Ho] at HV
  unfold qV
  subst hk
  cases vc
  · clear Hl Hb Ho
    go_enter Try.func39, Try.ntmps39
    go_wp2_with fail
    go_ret
    exact ⟨ret_bool (by rw [HV.out]; simp), ba _ _⟩
  cases vl
  · clear Hb Ho
    go_enter Try.func39, Try.ntmps39
    go_wp2_with fail
    go_ret
    exact ⟨ret_bool (by rw [HV.out]; simp), ba _ _⟩
  cases vw
  · clear Hb Ho
    go_enter Try.func39, Try.ntmps39
    go_wp2_with fail
    (with_reducible refine (within_any _ _ _ _).mono ?_)
    rintro e w' ⟨rfl, rfl⟩
    rw [Hw.out]
    go_wp2_with fail
    go_ret
    exact ⟨ret_bool (by rw [HV.out]; simp), ba _ _⟩
  cases vb <;> cases vo
  all_goals
    go_enter Try.func39, Try.ntmps39
    go_wp2_with fail
    (with_reducible refine (within_any _ _ _ _).mono ?_)
    rintro e w' ⟨rfl, rfl⟩
    rw [Hw.out]
    go_wp2_with fail
    go_ret
    exact ⟨ret_bool (by rw [HV.out]; rfl), ba _ _⟩

/-- **The reference's Valid.** -/
theorem rvalid_any (q : MQ) (w : World) : Calls Try.prog 39 #[qV q] w fun e w' => e = .returned (.bool (validB q)) ∧ Below w.heap.size w w' := by
  obtain ⟨k, t, c, l, h, b, o⟩ := q
  cases hs : scanB ⟨k, t, c, l, h, b, o⟩ with
  | false => exact rvalid_no k t c l h b o w hs
  | true =>
    by_cases h1 : 1 ≤ k ∧ k ≤ 7
    · by_cases h2 : k = 1
      · exact rvalid_1 k t c l h b o w hs h2
      · by_cases h3 : k = 2 ∨ k = 3
        · exact rvalid_23 k t c l h b o w hs h3
        · by_cases h4 : k = 7
          · exact rvalid_7 k t c l h b o w hs h4
          · exact rvalid_456 k t c l h b o w hs (by omega)
    · exact rvalid_none k t c l h b o w hs h1
end Go.Proofs.Ytgbnjjgnihjfgaa
end

section
set_option linter.unusedVariables false
set_option linter.unusedSimpArgs false
namespace Go.Proofs.Ytgbnjjgnihjfgaa
open Go.RowKit Go.Sort Go.ChangeMaps Go.MapKept

/-- What a fold is handed: a step of which it is known what it makes of I. -/
structure FoldI (va : Value) (L : List MRow) (g : FuncId) (cb : Array Value) (I : Nat → Value → World → Prop) : Prop where
  below : ∀ k v w w', I k v w → Below w.heap.size w w' → I k v w'
  rows : ∀ k v w, I k v w → RowS w va L
  step : ∀ k v w, k < L.length → I k v w → Calls Try.prog g (#[v, rowV (L.getD k rowZ)] ++ cb) w fun e w' => ∃ v', e = .returned v' ∧ I (k + 1) v' w'

end Go.Proofs.Ytgbnjjgnihjfgaa
end

section
set_option linter.unusedVariables false
set_option linter.unusedSimpArgs false
namespace Go.Proofs.Ytgbnjjgnihjfgaa
open Go.RowKit Go.Sort Go.ChangeMaps Go.MapKept

abbrev resV (r : Value) (v : Int) (f : Bool) : Value := .agg #[r, .int .i64 v, .bool f]
abbrev resC (r : Value) (v : Int) (f : Bool) : Array Value := #[r, .int .i64 v, .bool f]
abbrev fnV (g : FuncId) (cb : Array Value) : Value := .func (.func g) #[] cb
abbrev ptr (b : Nat) : Value := .pointer (some ⟨b, 0, none⟩)
theorem setC_heap {w : World} {b : Nat} {cur : Array Value} {t : TypeId} {fr : Nat × Nat} (h : w.heap[b]? = some (.cells cur t fr)) (j : Nat) (u : Value) : (w.setCell ⟨b, j, none⟩ u).heap[b]? = some (.cells (cur.setIfInBounds j u) t fr) := by
  have hlt := lt_of_block h
  have h' : w.heap[b] = .cells cur t fr := by simpa [Array.getElem?_eq_getElem hlt] using h
  show (w.heap.modify b _)[b]? = _
  rw [Array.getElem?_eq_getElem (by simpa using hlt), Array.getElem_modify_self, h']
  rfl
theorem below_setCell {B : Nat} {w0 w : World} (h : Below B w0 w) {a : Addr} (ha : B ≤ a.block) (v : Value) : Below B w0 (w.setCell a v) :=
  ⟨h.os, h.tape, h.output, by simpa [World.setCell] using h.size, fun k hk => (Below.heap_setCell w a v k (by omega)).trans (h.block k hk)⟩

end Go.Proofs.Ytgbnjjgnihjfgaa
end

section
set_option linter.unusedVariables false
set_option linter.unusedSimpArgs false
namespace Go.Proofs.Ytgbnjjgnihjfgaa
open Go.RowKit Go.Sort Go.ChangeMaps Go.MapKept

def lookK (F : List MRow) (k : Int) : Option MRow := F.find? fun r => decide (r.k = k)
theorem lookK_none {F : List MRow} {k : Int} : lookK F k = none ↔ ∀ r ∈ F, ¬ r.k = k := by
  unfold lookK
  rw [List.find?_eq_none]
  simp

theorem lawK : Maps.Keyed Try.prog 3 := Maps.int_keyed Try.underlying3
theorem key_ofK {k : Int} (hk : I64 k) : keyOf Try.prog 3 (.int .i64 k) = some (.int .i64 k) := Maps.keyOf_int_mk Try.underlying3 (i64_wf hk)
def EntK (es : List MapEntry) (L : List MRow) : Prop := (es.map fun e => (e.key, e.val)).Perm (L.map fun r => (Value.int .i64 r.k, rowV r))
/-- Block b is a map whose entries are the rows of L by their keys. -/
def KMap (W : World) (b : Nat) (L : List MRow) : Prop := ∃ es clock, W.heap[b]? = some (.map es clock) ∧ Stamped es clock ∧ EntK es.toList L ∧ ∀ r ∈ L, I64 r.k
theorem KMap.lt {W : World} {b : Nat} {L : List MRow} (h : KMap W b L) : b < W.heap.size := by
  obtain ⟨es, clock, hb, _⟩ := h
  exact (Array.getElem?_eq_some_iff.1 hb).1
theorem KMap.of_block {W W' : World} {b : Nat} {L : List MRow} (h : KMap W b L) (e : W'.heap[b]? = W.heap[b]?) : KMap W' b L := by
  obtain ⟨es, clock, hb, r⟩ := h
  exact ⟨es, clock, e.trans hb, r⟩
theorem KMap.below {W W' : World} {b : Nat} {L : List MRow} (h : KMap W b L) (k : Below W.heap.size W W') : KMap W' b L := h.of_block (k.block b h.lt)
theorem entK_keys {es : List MapEntry} {L : List MRow} (h : EntK es L) (hw : ∀ r ∈ L, I64 r.k) : ∀ e ∈ es, ∃ l, keyOf Try.prog 3 e.key = some l := by
  intro e he
  have hm := h.mem_iff.1 (List.mem_map.2 ⟨e, he, rfl⟩)
  obtain ⟨r, hr, hre⟩ := List.mem_map.1 hm
  simp only [Prod.mk.injEq] at hre
  rw [← hre.1]
  exact ⟨_, key_ofK (hw r hr)⟩
theorem entK_nodup {es : List MapEntry} {L : List MRow} (h : EntK es L) (hp : es.Pairwise fun x y => x.key ≠ y.key) : L.Pairwise fun r s => ¬ r.k = s.k := by
  have h1 : (es.map fun e => (e.key, e.val)).Pairwise fun p q => p.1 ≠ q.1 := by rw [List.pairwise_map]; exact hp
  have h2 := (h.pairwise_iff (fun {a b} (hab : a.1 ≠ b.1) => hab.symm)).1 h1
  rw [List.pairwise_map] at h2
  exact h2.imp fun {a b} hab e => hab (by simp [e])
theorem lookK_mem {L : List MRow} (hp : L.Pairwise fun r s => ¬ r.k = s.k) {r : MRow} (hr : r ∈ L) : lookK L r.k = some r := by
  induction L with
  | nil => simp at hr
  | cons a L ih =>
    obtain ⟨h1, h2⟩ := List.pairwise_cons.1 hp
    unfold lookK
    rcases List.mem_cons.1 hr with e | hr
    · subst e
      rw [List.find?_cons_of_pos (by simp)]
    · rw [List.find?_cons_of_neg (by simp only [decide_eq_true_eq]; exact h1 r hr)]
      exact ih h2 hr
/-- 'v, ok := m[key]'. -/
theorem KMap.look {W : World} {b : Nat} {L : List MRow} (h : KMap W b L) {k : Int} (hk : I64 k) :
    (Instr.lookup 170 (.map (some b)) (.int .i64 k) true).run Try.prog W = .ok (.tuple #[rowV ((lookK L k).getD rowZ), .bool (lookK L k).isSome]) W := by
  obtain ⟨es, clock, hb, hs, he, hw⟩ := h
  have hl := key_ofK hk
  have hz : (zeroValue 33).run Try.prog W = .ok (rowV rowZ) W := by kernel_rfl
  rcases lawK.find W hl es.toList (entK_keys he hw) with ⟨h1, h2⟩ | ⟨j, e0, h1, h2, h3⟩
  · have hn : lookK L k = none := lookK_none.2 fun r hr e => by
      have hm := he.mem_iff.2 (List.mem_map.2 ⟨r, hr, rfl⟩)
      obtain ⟨x, hx, hxe⟩ := List.mem_map.1 hm
      simp only [Prod.mk.injEq] at hxe
      exact h2 x hx (by rw [hxe.1, e])
    rw [hn]
    simp [Instr.lookup, run_underlying Try.underlying170, MapKept.run_getObj_map hb, lawK.check W _ hl, h1, hz, Result.andThen]
  · have hm0 : e0 ∈ es.toList := List.mem_of_getElem? h2
    have hm := he.mem_iff.1 (List.mem_map.2 ⟨e0, hm0, rfl⟩)
    obtain ⟨r, hr, hre⟩ := List.mem_map.1 hm
    simp only [Prod.mk.injEq] at hre
    rw [h3] at hre
    have e1 : r.k = k := by simpa using hre.1
    have hlk := lookK_mem (entK_nodup he ((stamped_iff es clock).1 hs).2.2) hr
    rw [e1] at hlk
    rw [hlk]
    simp only [Option.getD_some, Option.isSome_some]
    rw [hre.2]
    simp [Instr.lookup, run_underlying Try.underlying170, MapKept.run_getObj_map hb, lawK.check W _ hl, h1, Result.andThen]
/-- 'm[key] = row', of a key that is not there. -/
theorem KMap.add {W : World} {b : Nat} {L : List MRow} (h : KMap W b L) (r : MRow) (hk : I64 r.k) (hn : ∀ s ∈ L, ¬ s.k = r.k) :
    ∃ W', (Instr.mapUpdate 170 (.map (some b)) (.int .i64 r.k) (rowV r)).run Try.prog W = .ok () W' ∧ KMap W' b (r :: L) ∧ Turned W W' b := by
  obtain ⟨es, clock, hb, hs, he, hw⟩ := h
  have hl := key_ofK hk
  rcases lawK.find W hl es.toList (entK_keys he hw) with ⟨h1, h2⟩ | ⟨j, e0, h1, h2, h3⟩
  · refine ⟨setBlock W b (.map (es.push ⟨.int .i64 r.k, rowV r, clock⟩) (clock + 1)), ?_, ⟨_, _, heap_setBlock_same hb _, stamped_push hs h2, ?_, ?_⟩, ⟨es, clock, _, _, hb, rfl⟩⟩
    · simp [Instr.mapUpdate, run_underlying Try.underlying170, MapKept.run_getObj_map hb, lawK.check W false hl, h1, MapKept.run_setObj_map _ hb, Result.andThen, setBlock]
    · unfold EntK
      rw [Array.toList_push, List.map_append, List.map_singleton, List.map_cons]
      exact (List.perm_append_singleton _ _).trans (List.Perm.cons _ he)
    · intro s hs
      rcases List.mem_cons.1 hs with e | hs
      · subst e; exact hk
      · exact hw s hs
  · exfalso
    have hm0 : e0 ∈ es.toList := List.mem_of_getElem? h2
    have hm := he.mem_iff.1 (List.mem_map.2 ⟨e0, hm0, rfl⟩)
    obtain ⟨s, hs, hse⟩ := List.mem_map.1 hm
    simp only [Prod.mk.injEq] at hse
    rw [h3] at hse
    have e1 : s.k = r.k := by simpa using hse.1
    exact hn s hs e1
section
variable {w : World} {ops : Array Oper} {rest : List Oper} {o : Oper} {a : Act} {Q : Exit → Act → World → Prop}
end

end Go.Proofs.Ytgbnjjgnihjfgaa
end

section
set_option linter.unusedVariables false
set_option linter.unusedSimpArgs false
namespace Go.Proofs.Ytgbnjjgnihjfgaa
open Go.RowKit Go.Sort Go.ChangeMaps Go.MapKept

end Go.Proofs.Ytgbnjjgnihjfgaa
end

section
set_option linter.unusedVariables false
set_option linter.unusedSimpArgs false
namespace Go.Proofs.Ytgbnjjgnihjfgaa
open Go.RowKit Go.Sort Go.ChangeMaps Go.MapKept

theorem OwnR.own_lt {W : World} {base : Nat} {v : Value} {M : List MRow} (h : OwnR W base v M) {k : Nat} (e : v.ownBlock = some k) : k < W.heap.size := by
  obtain ⟨_, h⟩ := h
  rcases h with ⟨rfl, _⟩ | ⟨g, cap, cur, rfl, hg, hb, r⟩
  · simp [Value.ownBlock] at e
  · simp [Value.ownBlock] at e
    subst e
    exact lt_of_block hb
theorem OwnR.form {W : World} {base : Nat} {v : Value} {M : List MRow} (h : OwnR W base v M) : ∃ a n c, v = .slice a n c := by
  obtain ⟨_, h⟩ := h
  rcases h with ⟨rfl, _⟩ | ⟨g, cap, cur, rfl, _⟩
  · exact ⟨_, _, _, rfl⟩
  · exact ⟨_, _, _, rfl⟩

end Go.Proofs.Ytgbnjjgnihjfgaa
end

section
set_option linter.unusedVariables false
set_option linter.unusedSimpArgs false
namespace Go.Proofs.Ytgbnjjgnihjfgaa
open Go.RowKit Go.Sort Go.ChangeMaps Go.MapKept

theorem hold {p : Prop} (h : Hid p) : p := h.out
set_option maxRecDepth 100000 in
set_option maxHeartbeats 2000000 in
theorem clone_rows {W : World} {va : Value} {L : List MRow} (hR : RowS W va L) (hl : L.length ≤ 40000) :
    Calls Try.prog 69 #[va] W fun e w' => ∃ v, e = .returned v ∧ OwnR w' W.heap.size v L ∧ Below W.heap.size W w' := by
  have HR := Lib.hid hR
  obtain ⟨a, n, cap, rfl, hn, hc1, hc2, hcell⟩ := hR
  cases a with
  | none =>
    have hn0 : L = [] := by
      rcases Nat.eq_zero_or_pos n with h0 | h0
      · exact List.length_eq_zero_iff.1 (by omega)
      · obtain ⟨_, _, e, _⟩ := hcell h0
        simp at e
    subst hn0
    have hnil := fun w => Lib.run_eql_slice_nil (P := Try.prog) w 44 33 none n cap 0 0 Try.underlying44
    simp only [Option.isNone_none] at hnil
    clear hcell hn
    go_enter Try.func69, Try.ntmps69
    go_wp2_with fail
    go_ret
    exact ⟨_, rfl, OwnR.nil _ _, Below.refl _ _⟩
  | some ad =>
    have hnil := fun w => Lib.run_eql_slice_nil (P := Try.prog) w 44 33 (some ad) n cap 0 0 Try.underlying44
    simp only [Option.isNone_some] at hnil
    obtain ⟨i0, hI, hZ0, hZ1, hZ2⟩ := info_parts Try.info33
    have HOwn : Hid ((W.alloc (.cells #[] 33)).ownsRow W.heap.size 33 5 (.slice (some ⟨W.heap.size, 0, none⟩) 0 0) 0 []) := Lib.hid ⟨rfl, .inr ⟨W.heap.size, 0, #[], rfl, Nat.le_refl _, heap_alloc_new W _, Nat.le_refl _, by unfold maxLen; omega, rfl, rfl⟩⟩
    have HFl : Hid ((flat L).length = n * 5) := Lib.hid (by rw [flat_len, hn])
    have HNews : Hid (∀ j u, (flat L)[j]? = some u → (W.alloc (.cells #[] 33)).cell? (ad.add j) = some u) := Lib.hid (fun j u hj => by
      have hj5 := (List.getElem?_eq_some_iff.1 hj).1
      rw [flat_len] at hj5
      obtain ⟨b, o, e, hb, hc⟩ := hcell (by omega)
      simp at e
      subst e
      have h := rowX_news (w := W) (b := b) (o := o) (N := L) (fun i hi => hc i (by omega)) j u hj
      rw [(ba W _).cell (by rw [Addr.add_lit]; exact hb)]
      exact h)
    have hn4 : n ≤ 40000 := by omega
    have HNL := Lib.hid hn
    clear hcell hn
    go_enter Try.func69, Try.ntmps69
    go_wp2_with (at_builtin; refine wpList_append_own _ rfl (.tmp 5) (.tmp 6) 44 rfl W.heap.size 33 i0 (.agg #[.int .i64 0, .int .i64 0, .int .i64 0, .int .i64 0, .int .i64 0]) 5 40 Try.underlying44 hI hZ0 hZ1 hZ2 rfl (by decide) _ 0 [] rfl HOwn.out ad n cap (flat L) rfl HFl.out HNews.out (flat_one L) (by unfold maxLen; omega) (by omega) (by simp) ?_; intro v2 w7 hown hg _; have HO2 := Lib.hid hown; have HG2 : Hid ((W.alloc (.cells #[] 33)).grownBy w7 (some W.heap.size)) := Lib.hid hg; clear hown hg)
    have HOn : Hid (OwnR w7 W.heap.size v2 L) := Lib.hid (by
      have h := HO2.out
      unfold OwnR
      rw [← HNL.out]
      simpa using h)
    have HBn : Hid (Below W.heap.size W w7) := Lib.hid ((ba W _).grown HG2.out (by simp) (fun k hk => by simp at hk; omega))
    go_wp2_with fail
    go_ret
    exact ⟨v2, rfl, HOn.out, HBn.out⟩
end Go.Proofs.Ytgbnjjgnihjfgaa
end

section
set_option linter.unusedVariables false
set_option linter.unusedSimpArgs false
namespace Go.Proofs.Ytgbnjjgnihjfgaa
open Go.RowKit Go.Sort Go.ChangeMaps Go.MapKept

structure MRes where
  rows : List MRow
  val : Int
  fnd : Bool
deriving DecidableEq
def ltB (a b : Int) : Bool := decide (a < b)
def gtB (a b : Int) : Bool := decide (b < a)
end Go.Proofs.Ytgbnjjgnihjfgaa
end

section
set_option linter.unusedVariables false
set_option linter.unusedSimpArgs false
namespace Go.Proofs.Ytgbnjjgnihjfgaa
open Go.RowKit Go.Sort Go.ChangeMaps Go.MapKept

end Go.Proofs.Ytgbnjjgnihjfgaa
end
end

section
section
set_option linter.unusedVariables false
set_option linter.unusedSimpArgs false
namespace Go.Proofs.Ytgbnjjgnihjfgaa
open Go.RowKit Go.Sort Go.ChangeMaps Go.MapKept

def ccl (c : MCh) : List Value := (chCells c).toList
def flatC (M : List MCh) : List Value := M.flatMap ccl
/-- A slice of the call's own that holds a list of changes. -/
def OwnC (W : World) (base : Nat) (v : Value) (M : List MCh) : Prop := W.ownsRow base 35 10 v M.length (flatC M)
theorem OwnC.nil (W : World) (base : Nat) : OwnC W base (.slice none 0 0) [] := ⟨rfl, .inl ⟨rfl, rfl⟩⟩
theorem OwnC.kept {F : Nat → Prop} {W W' : World} {base : Nat} {v : Value} {M : List MCh} (h : OwnC W base v M) (k : Kept F W W') (hF : ∀ i, v.ownBlock = some i → ¬ F i) : OwnC W' base v M := by
  obtain ⟨hl, h⟩ := h
  exact ⟨hl, h.imp id fun ⟨g, cap, cur, e, hg, hb, r⟩ => ⟨g, cap, cur, e, hg, (k.block g (lt_of_block hb) (hF g (by rw [e]; rfl))).trans hb, r⟩⟩
theorem OwnC.below {W W' : World} {base : Nat} {v : Value} {M : List MCh} (h : OwnC W base v M) (k : Below W.heap.size W W') : OwnC W' base v M := h.kept (F := fun _ => False) (Kept.of_below k) (fun _ _ => id)
theorem OwnC.mono {W : World} {base base' : Nat} {v : Value} {M : List MCh} (h : OwnC W base v M) (hb : base' ≤ base) : OwnC W base' v M := by
  obtain ⟨hl, h⟩ := h
  exact ⟨hl, h.imp id fun ⟨g, cap, cur, e, hg, r⟩ => ⟨g, cap, cur, e, by omega, r⟩⟩
/-- What block a value owns, and of what type its cells are. -/
theorem own_type {W : World} {base : Nat} {e : TypeId} {s n : Nat} {v : Value} {xs : List Value} (h : W.ownsRow base e s v n xs) {g : Nat} (hg : v.ownBlock = some g) : base ≤ g ∧ ∃ cur, W.heap[g]? = some (.cells cur e (0, 0)) := by
  rcases h.2 with ⟨rfl, _⟩ | ⟨g', cap, cur, rfl, hb, hbk, _⟩
  · simp [Value.ownBlock] at hg
  · simp [Value.ownBlock] at hg
    subst hg
    exact ⟨hb, cur, hbk⟩
def flatQ (Q : List (MRec × Value)) : List Value := Q.flatMap fun q => [.int .i64 q.1.pos, q.2]
/-- The records of a log in memory. -/
def OwnQ (W : World) (base : Nat) (v : Value) (Q : List (MRec × Value)) : Prop := W.ownsRow base 38 2 v Q.length (flatQ Q)
theorem OwnQ.nil (W : World) (base : Nat) : OwnQ W base (.slice none 0 0) [] := ⟨rfl, .inl ⟨rfl, rfl⟩⟩
theorem OwnQ.kept {F : Nat → Prop} {W W' : World} {base : Nat} {v : Value} {M : List (MRec × Value)} (h : OwnQ W base v M) (k : Kept F W W') (hF : ∀ i, v.ownBlock = some i → ¬ F i) : OwnQ W' base v M := by
  obtain ⟨hl, h⟩ := h
  exact ⟨hl, h.imp id fun ⟨g, cap, cur, e, hg, hb, r⟩ => ⟨g, cap, cur, e, hg, (k.block g (lt_of_block hb) (hF g (by rw [e]; rfl))).trans hb, r⟩⟩
theorem OwnQ.below {W W' : World} {base : Nat} {v : Value} {M : List (MRec × Value)} (h : OwnQ W base v M) (k : Below W.heap.size W W') : OwnQ W' base v M := h.kept (F := fun _ => False) (Kept.of_below k) (fun _ _ => id)
end Go.Proofs.Ytgbnjjgnihjfgaa
end

section
set_option linter.unusedVariables false
set_option linter.unusedSimpArgs false
namespace Go.Proofs.Ytgbnjjgnihjfgaa
open Go.RowKit Go.Sort Go.ChangeMaps Go.MapKept

/-- Block cb holds the change c, and nothing else of w has turned. -/
def CBk (cb : Nat) (w wy : World) (c : MCh) : Prop := wy.heap[cb]? = some (.cells (chCells c) 35 (0, 0)) ∧ Kept (fun i => i = cb) w wy
theorem CBk.alloc {cb : Nat} {w wy : World} {c : MCh} (h : CBk cb w wy c) (o : Obj) : CBk cb w (wy.alloc o) c := ⟨(MapKept.heap_alloc wy o).2 _ (lt_of_block h.1) |>.trans h.1, h.2.then (ba wy o)⟩
theorem CBk.below {cb : Nat} {w wy wz : World} {c : MCh} (h : CBk cb w wy c) (k : Below wy.heap.size wy wz) : CBk cb w wz c := ⟨(k.block _ (lt_of_block h.1)).trans h.1, h.2.then k⟩
theorem ks {cb : Nat} {w wy : World} (h : Kept (fun i => i = cb) w wy) (j : Nat) (u : Value) : Kept (fun i => i = cb) w (wy.setCell ⟨cb, j, none⟩ u) := Kept.setCell (F := fun i => i = cb) (p := ⟨cb, j, none⟩) h (.inl rfl) u
/-- What the walk reads of it. -/
theorem CBk.cells {cb : Nat} {w wy : World} {t k oa ob oc a b c : Int} {had has : Bool} (h : CBk cb w wy ⟨t, k, had, ⟨oa, ob, oc⟩, has, ⟨a, b, c⟩⟩) :
    (wy.cell? ⟨cb, 0, none⟩ = some (.int .i64 t) ∧ wy.cell? ⟨cb, 1, none⟩ = some (.int .i64 k) ∧ wy.cell? ⟨cb, 2, none⟩ = some (.bool had) ∧ wy.cell? ⟨cb, 3, none⟩ = some (.int .i64 oa) ∧ wy.cell? ⟨cb, 4, none⟩ = some (.int .i64 ob) ∧ wy.cell? ⟨cb, 5, none⟩ = some (.int .i64 oc) ∧
     wy.cell? ⟨cb, 6, none⟩ = some (.bool has) ∧ wy.cell? ⟨cb, 7, none⟩ = some (.int .i64 a) ∧ wy.cell? ⟨cb, 8, none⟩ = some (.int .i64 b) ∧ wy.cell? ⟨cb, 9, none⟩ = some (.int .i64 c)) ∧ ∀ j, wy.frozen? ⟨cb, j, none⟩ = false := by
  have h1 := h.1
  refine ⟨⟨?_, ?_, ?_, ?_, ?_, ?_, ?_, ?_, ?_, ?_⟩, fun j => by simp [World.frozen?, h1]⟩ <;> simp [World.cell?, h1, chCells]
end Go.Proofs.Ytgbnjjgnihjfgaa
end

section
set_option linter.unusedVariables false
set_option linter.unusedSimpArgs false
namespace Go.Proofs.Ytgbnjjgnihjfgaa
open Go.RowKit

section
variable {P : Program} {ops : Array Oper} {md : Region.Mode}

end
end Go.Proofs.Ytgbnjjgnihjfgaa
end

section
set_option linter.unusedVariables false
set_option linter.unusedSimpArgs false
namespace Go.Proofs.Ytgbnjjgnihjfgaa
open Go.RowKit

section
variable {P : Program} {w : World} {ops : Array Oper} {rest : List Oper} {o : Oper} {a : Act} {Q : Exit → Act → World → Prop}
end
end Go.Proofs.Ytgbnjjgnihjfgaa
end

section
set_option linter.unusedVariables false
set_option linter.unusedSimpArgs false
namespace Go.Proofs.Ytgbnjjgnihjfgaa
open Go.RowKit Go.Sort Go.ChangeMaps Go.MapKept

section
variable {w : World} {ops : Array Oper} {rest : List Oper} {o : Oper} {a : Act} {Q : Exit → Act → World → Prop}
end
theorem Try.follows : Try.prog.follows .mixedOrders = true := by kernel_rfl
end Go.Proofs.Ytgbnjjgnihjfgaa
end
end
