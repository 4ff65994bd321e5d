/- MERGED: QV, EV1, EV2, EM, EV3, EV4, EV5, EV6, EV7. -/
import Derived.Test.YtgbnjjgnihjfgaaGreatProg
import Derived.WalkKit
import Derived.Below
import Derived.Lib.Hide
import Derived.Laws.StructEq
import Derived.Lib.QuietBelow
import Derived.Deep.RegionHeld3
import Derived.Deep.RegionWith
import Derived.IntWalk
import Derived.BigQuiet
import Derived.Maps.RangeWalk
import Derived.DeepKeys4
import Derived.OneCell
import Derived.StillTail
import Derived.Deep.CutRange
import Derived.Outline
import Derived.WalkSpells
import Derived.Carry
import Derived.Shelf.SlGeneric
import Derived.Shelf.SlSortCmp.WholeK
import Derived.Shelf.SlicesG.Cmp
import Derived.Ground.SlsfProg
import Derived.Ground.SlgcProg
import Derived.Sort.OwnSorted
import Derived.Deep.AppendLies
import Derived.Shelf.SlSortCmp.NoneTotal
import Derived.Deep.QuietTactic
import Derived.Laws.AppendOwnNone
import Derived.Laws.EntriesVeiled
import Derived.Lib.SliceRun
import Derived.Deep.Cut
import Derived.Laws.ResultCell
import Derived.Test.YtgbnjjgnihjfgaaGreatBAD
import Derived.Test.YtgbnjjgnihjfgaaGreatBAC
import Derived.Test.YtgbnjjgnihjfgaaGreatBAE
import Derived.Test.YtgbnjjgnihjfgaaGreatBAA
import Derived.Test.YtgbnjjgnihjfgaaGreatBAB
section
set_option linter.unusedVariables false
set_option linter.unusedSimpArgs false
namespace Go.Proofs.YtgbnjjgnihjfgaaGreat
open Go.RowKit Go.Sort

structure MQ where
  kind : Int
  table : Int
  column : Int
  low : Int
  high : Int
  by_ : Int
  other : Int
deriving DecidableEq
def MQ.zero : MQ := ⟨0, 0, 0, 0, 0, 0, 0⟩
def MQ.Ok (q : MQ) : Prop := I64 q.kind ∧ I64 q.table ∧ I64 q.column ∧ I64 q.low ∧ I64 q.high ∧ I64 q.by_ ∧ I64 q.other
def scanB (q : MQ) : Bool := 0 ≤ q.table && q.table ≤ 3 && (0 ≤ q.column && q.column ≤ 3) && -1000000000 ≤ q.low && q.low ≤ q.high && q.high ≤ 1000000000
def validB (q : MQ) : Bool :=
  scanB q &&
    (if q.kind = 1 then q.column = 0 && q.low = q.high && (1 ≤ q.low && q.low ≤ 1000000) && q.by_ = 0 && q.other = 0
    else if q.kind = 2 || q.kind = 3 then q.by_ = 0 && q.other = 0
    else if q.kind = 4 || q.kind = 5 || q.kind = 6 then (1 ≤ q.by_ && q.by_ ≤ 3) && q.other = 0
    else if q.kind = 7 then (1 ≤ q.by_ && q.by_ ≤ 3) && (0 ≤ q.other && q.other ≤ 3)
    else false)

theorem valid_ok {q : MQ} (h : validB q = true) : q.Ok ∧ 1 ≤ q.kind ∧ q.kind ≤ 7 := by
  obtain ⟨k, t, c, l, hh, b, o⟩ := q
  unfold validB scanB at h
  simp only [Bool.and_eq_true, decide_eq_true_eq] at h
  obtain ⟨⟨⟨⟨⟨⟨h1, h2⟩, h3, h4⟩, h5⟩, h6⟩, h7⟩, hk⟩ := h
  unfold MQ.Ok I64
  simp only
  split at hk
  · simp only [Bool.and_eq_true, decide_eq_true_eq] at hk
    omega
  · split at hk
    · rename_i hq
      simp only [Bool.or_eq_true, decide_eq_true_eq] at hq
      simp only [Bool.and_eq_true, decide_eq_true_eq] at hk
      omega
    · split at hk
      · rename_i hq
        simp only [Bool.or_eq_true, decide_eq_true_eq] at hq
        simp only [Bool.and_eq_true, decide_eq_true_eq] at hk
        omega
      · split at hk
        · simp only [Bool.and_eq_true, decide_eq_true_eq] at hk
          omega
        · cases hk
abbrev qV (q : MQ) : Value := .agg #[.int .i64 q.kind, .int .i64 q.table, .int .i64 q.column, .int .i64 q.low, .int .i64 q.high, .int .i64 q.by_, .int .i64 q.other]
/-- A query in block b. -/
structure QAt (w : World) (b : Nat) (q : MQ) : Prop where
  c0 : w.cell? ⟨b, 0, none⟩ = some (.int .i64 q.kind)
  c1 : w.cell? ⟨b, 1, none⟩ = some (.int .i64 q.table)
  c2 : w.cell? ⟨b, 2, none⟩ = some (.int .i64 q.column)
  c3 : w.cell? ⟨b, 3, none⟩ = some (.int .i64 q.low)
  c4 : w.cell? ⟨b, 4, none⟩ = some (.int .i64 q.high)
  c5 : w.cell? ⟨b, 5, none⟩ = some (.int .i64 q.by_)
  c6 : w.cell? ⟨b, 6, none⟩ = some (.int .i64 q.other)
theorem QAt.below {w w' : World} {b : Nat} {q : MQ} (h : QAt w b q) (k : Below w.heap.size w w') : QAt w' b q := by
  have hlt := World.block_lt_of_cell? w _ h.c0
  exact ⟨(k.cell (p := ⟨b, 0, none⟩) hlt).trans h.c0, (k.cell (p := ⟨b, 1, none⟩) hlt).trans h.c1, (k.cell (p := ⟨b, 2, none⟩) hlt).trans h.c2, (k.cell (p := ⟨b, 3, none⟩) hlt).trans h.c3, (k.cell (p := ⟨b, 4, none⟩) hlt).trans h.c4, (k.cell (p := ⟨b, 5, none⟩) hlt).trans h.c5, (k.cell (p := ⟨b, 6, none⟩) hlt).trans h.c6⟩
theorem QAt.new (w : World) (q : MQ) : QAt (w.alloc (.cells #[.int .i64 q.kind, .int .i64 q.table, .int .i64 q.column, .int .i64 q.low, .int .i64 q.high, .int .i64 q.by_, .int .i64 q.other] 28)) w.heap.size q := by
  constructor <;> simp [go_sem]
def btw (n lo hi : Int) : Bool := decide (lo ≤ n ∧ n ≤ hi)
theorem btw_t {n lo hi : Int} (h : lo ≤ n ∧ n ≤ hi) : btw n lo hi = true := decide_eq_true h
theorem btw_f {n lo hi : Int} (h : ¬ (lo ≤ n ∧ n ≤ hi)) : btw n lo hi = false := decide_eq_false h
theorem ret_bool {a b : Bool} (h : a = b) : Ending.returned (.bool a) = .returned (.bool b) := by rw [h]

theorem between_any (n lo hi : Int) (w : World) : Calls Tryz.prog 63 #[.int .i64 n, .int .i64 lo, .int .i64 hi] w fun e w' => e = .returned (.bool (btw n lo hi)) ∧ w = w' := by
  go_enter Tryz.func63, Tryz.ntmps63
  go_wp2
  all_goals
    go_ret
    exact ⟨ret_bool (by first | (symm; exact btw_f (by omega)) | (unfold btw; simp [*]; done)), rfl⟩
theorem validBy_any (n : Int) (w : World) : Calls Tryz.prog 65 #[.int .i64 n] w fun e w' => e = .returned (.bool (btw n 1 3)) ∧ w = w' := by
  go_enter Tryz.func65, Tryz.ntmps65
  go_wp2_with fail
  (with_reducible refine (between_any _ _ _ _).mono ?_)
  rintro e w' ⟨rfl, rfl⟩
  go_wp2_with fail
  go_ret
  exact ⟨rfl, rfl⟩
theorem validTable_any (n : Int) (w : World) : Calls Tryz.prog 66 #[.int .i64 n] w fun e w' => e = .returned (.bool (btw n 0 3)) ∧ w = w' := by
  go_enter Tryz.func66, Tryz.ntmps66
  go_wp2_with fail
  (with_reducible refine (between_any _ _ _ _).mono ?_)
  rintro e w' ⟨rfl, rfl⟩
  go_wp2_with fail
  go_ret
  exact ⟨rfl, rfl⟩

theorem scanB_f {q : MQ} (h : ¬ ((0 ≤ q.table ∧ q.table ≤ 3) ∧ (0 ≤ q.column ∧ q.column ≤ 3) ∧ -1000000000 ≤ q.low ∧ q.low ≤ q.high ∧ q.high ≤ 1000000000)) : scanB q = false := by
  cases e : scanB q with
  | false => rfl
  | true =>
    refine absurd ?_ h
    unfold scanB at e
    simp only [Bool.and_eq_true, decide_eq_true_eq] at e
    omega
theorem scanB_t {q : MQ} (h1 : (0 ≤ q.table ∧ q.table ≤ 3) ∧ (0 ≤ q.column ∧ q.column ≤ 3) ∧ -1000000000 ≤ q.low ∧ q.low ≤ q.high) : scanB q = decide (q.high ≤ 1000000000) := by
  unfold scanB
  simp [h1]

set_option maxRecDepth 100000 in
set_option maxHeartbeats 1000000 in
theorem validScan_any (k t c l h b o : Int) (w : World) : Calls Tryz.prog 64 #[qV ⟨k, t, c, l, h, b, o⟩] w fun e w' => e = .returned (.bool (scanB ⟨k, t, c, l, h, b, o⟩)) ∧ Below w.heap.size w w' := by
  unfold qV
  by_cases h1 : 0 ≤ t ∧ t ≤ 3
  · have T := Lib.hid (btw_t h1)
    by_cases h2 : 0 ≤ c ∧ c ≤ 3
    · have C := Lib.hid (btw_t h2)
      go_enter Tryz.func64, Tryz.ntmps64
      go_wp2_with fail
      (with_reducible refine (validTable_any _ _).mono ?_)
      rintro e w' ⟨rfl, rfl⟩
      rw [T.out]
      go_wp2_with fail
      (with_reducible refine (between_any _ _ _ _).mono ?_)
      rintro e w' ⟨rfl, rfl⟩
      rw [C.out]
      go_wp2_with fail
      all_goals
        go_ret
        refine ⟨ret_bool ?_, ba _ _⟩
        first
          | (symm; exact scanB_f (by simp only; omega))
          | (symm; exact scanB_t ⟨h1, h2, by assumption, by assumption⟩)
    · have C := Lib.hid (btw_f h2)
      have S := Lib.hid (scanB_f (q := ⟨k, t, c, l, h, b, o⟩) (fun e => h2 e.2.1))
      clear h1 h2
      go_enter Tryz.func64, Tryz.ntmps64
      go_wp2_with fail
      (with_reducible refine (validTable_any _ _).mono ?_)
      rintro e w' ⟨rfl, rfl⟩
      rw [T.out]
      go_wp2_with fail
      (with_reducible refine (between_any _ _ _ _).mono ?_)
      rintro e w' ⟨rfl, rfl⟩
      rw [C.out]
      go_wp2_with fail
      go_ret
      exact ⟨ret_bool S.out.symm, ba _ _⟩
  · have T := Lib.hid (btw_f h1)
    have S := Lib.hid (scanB_f (q := ⟨k, t, c, l, h, b, o⟩) (fun e => h1 e.1))
    clear h1
    go_enter Tryz.func64, Tryz.ntmps64
    go_wp2_with fail
    (with_reducible refine (validTable_any _ _).mono ?_)
    rintro e w' ⟨rfl, rfl⟩
    rw [T.out]
    go_wp2_with fail
    go_ret
    exact ⟨ret_bool S.out.symm, ba _ _⟩
theorem ne_beq {a b : Int} (h : ¬ a = b) : (a == b) = false := by simp [h]
theorem eq_beq {a b : Int} (h : a = b) : (a == b) = true := by simp [h]

set_option maxRecDepth 100000 in
set_option maxHeartbeats 1000000 in
/-- Ranges and counts. -/
theorem valid_23 (k t c l h b o : Int) (w : World) (hk : k = 2 ∨ k = 3) : Calls Tryz.prog 34 #[qV ⟨k, t, c, l, h, b, o⟩] w fun e w' => e = .returned (.bool (validB ⟨k, t, c, l, h, b, o⟩)) ∧ Below w.heap.size w w' := by
  have HV : Hid (validB ⟨k, t, c, l, h, b, o⟩ = (scanB ⟨k, t, c, l, h, b, o⟩ && ((b == 0) && (o == 0)))) := Lib.hid (by
    have e : ¬ k = 1 := by omega
    simp [validB, e, hk]; rfl)
  obtain ⟨sb, Hsb⟩ : ∃ sb, Hid (scanB ⟨k, t, c, l, h, b, o⟩ = sb) := ⟨_, Lib.hid rfl⟩
  have HC := Lib.hid (validScan_any k t c l h b o (w.alloc (.cells #[.int .i64 k, .int .i64 t, .int .i64 c, .int .i64 l, .int .i64 h, .int .i64 b, .int .i64 o] 28)))
  unfold qV at HC
  unfold qV
  rcases hk with rfl | rfl
  all_goals
    go_enter Tryz.func34, Tryz.ntmps34
    go_wp2_with fail
    (with_reducible refine HC.out.mono ?_)
    rintro e w1 ⟨rfl, hb1⟩
    obtain ⟨y0, y1, y2, y3, y4, y5, y6⟩ := (QAt.new w ⟨2, t, c, l, h, b, o⟩)
    have c5 : w1.cell? ⟨w.heap.size, 5, none⟩ = some (.int .i64 b) := (hb1.cell (p := ⟨w.heap.size, 5, none⟩) (by simp)).trans (by simp [go_sem])
    have c6 : w1.cell? ⟨w.heap.size, 6, none⟩ = some (.int .i64 o) := (hb1.cell (p := ⟨w.heap.size, 6, none⟩) (by simp)).trans (by simp [go_sem])
    have HB := Lib.hid (bt (ba w _) hb1)
    clear hb1 y0 y1 y2 y3 y4 y5 y6
    rw [Hsb.out]
    cases sb
    · go_wp2_with fail
      go_ret
      exact ⟨ret_bool (by rw [HV.out, Hsb.out]; rfl), HB.out⟩
    · by_cases hb : b = 0
      · have gb := eq_beq hb
        by_cases ho : o = 0
        · have go' := eq_beq ho
          clear hb ho
          go_wp2_with fail
          go_ret
          exact ⟨ret_bool (by rw [HV.out, Hsb.out, gb, go']; rfl), HB.out⟩
        · have go' := ne_beq ho
          clear hb ho
          go_wp2_with fail
          go_ret
          exact ⟨ret_bool (by rw [HV.out, Hsb.out, gb, go']; rfl), HB.out⟩
      · have gb := ne_beq hb
        clear hb
        go_wp2_with fail
        go_ret
        exact ⟨ret_bool (by rw [HV.out, Hsb.out, gb]; rfl), HB.out⟩

set_option maxRecDepth 100000 in
set_option maxHeartbeats 1000000 in
/-- Sums and the like. -/
theorem valid_456 (k t c l h b o : Int) (w : World) (hk : k = 4 ∨ k = 5 ∨ k = 6) : Calls Tryz.prog 34 #[qV ⟨k, t, c, l, h, b, o⟩] w fun e w' => e = .returned (.bool (validB ⟨k, t, c, l, h, b, o⟩)) ∧ Below w.heap.size w w' := by
  have HV : Hid (validB ⟨k, t, c, l, h, b, o⟩ = (scanB ⟨k, t, c, l, h, b, o⟩ && (btw b 1 3 && (o == 0)))) := Lib.hid (by
    have e : ¬ k = 1 := by omega
    have e2 : ¬ (k = 2 ∨ k = 3) := by omega
    have e3 : (k = 4 ∨ k = 5) ∨ k = 6 := by omega
    simp [validB, e, e2, e3, btw]; rfl)
  obtain ⟨sb, Hsb⟩ : ∃ sb, Hid (scanB ⟨k, t, c, l, h, b, o⟩ = sb) := ⟨_, Lib.hid rfl⟩
  have HC := Lib.hid (validScan_any k t c l h b o (w.alloc (.cells #[.int .i64 k, .int .i64 t, .int .i64 c, .int .i64 l, .int .i64 h, .int .i64 b, .int .i64 o] 28)))
  unfold qV at HC
  unfold qV
  obtain ⟨bb, Hbb⟩ : ∃ bb, Hid (btw b 1 3 = bb) := ⟨_, Lib.hid rfl⟩
  rcases hk with rfl | rfl | rfl
  all_goals
    go_enter Tryz.func34, Tryz.ntmps34
    go_wp2_with fail
    (with_reducible refine HC.out.mono ?_)
    rintro e w1 ⟨rfl, hb1⟩
    have c5 : w1.cell? ⟨w.heap.size, 5, none⟩ = some (.int .i64 b) := (hb1.cell (p := ⟨w.heap.size, 5, none⟩) (by simp)).trans (by simp [go_sem])
    have c6 : w1.cell? ⟨w.heap.size, 6, none⟩ = some (.int .i64 o) := (hb1.cell (p := ⟨w.heap.size, 6, none⟩) (by simp)).trans (by simp [go_sem])
    have HB := Lib.hid (bt (ba w _) hb1)
    clear hb1
    rw [Hsb.out]
    cases sb
    · go_wp2_with fail
      go_ret
      exact ⟨ret_bool (by rw [HV.out, Hsb.out]; rfl), HB.out⟩
    · go_wp2_with fail
      (with_reducible refine (validBy_any _ _).mono ?_)
      rintro e w' ⟨rfl, rfl⟩
      rw [Hbb.out]
      cases bb
      · go_wp2_with fail
        go_ret
        exact ⟨ret_bool (by rw [HV.out, Hsb.out, Hbb.out]; rfl), HB.out⟩
      · by_cases ho : o = 0
        · have go' := eq_beq ho
          clear ho
          go_wp2_with fail
          go_ret
          exact ⟨ret_bool (by rw [HV.out, Hsb.out, Hbb.out, go']; rfl), HB.out⟩
        · have go' := ne_beq ho
          clear ho
          go_wp2_with fail
          go_ret
          exact ⟨ret_bool (by rw [HV.out, Hsb.out, Hbb.out, go']; rfl), HB.out⟩

set_option maxRecDepth 100000 in
set_option maxHeartbeats 1000000 in
/-- Joins. -/
theorem valid_7 (k t c l h b o : Int) (w : World) (hk : k = 7) : Calls Tryz.prog 34 #[qV ⟨k, t, c, l, h, b, o⟩] w fun e w' => e = .returned (.bool (validB ⟨k, t, c, l, h, b, o⟩)) ∧ Below w.heap.size w w' := by
  have HV : Hid (validB ⟨k, t, c, l, h, b, o⟩ = (scanB ⟨k, t, c, l, h, b, o⟩ && (btw b 1 3 && btw o 0 3))) := Lib.hid (by
    subst hk
    simp [validB, btw])
  obtain ⟨sb, Hsb⟩ : ∃ sb, Hid (scanB ⟨k, t, c, l, h, b, o⟩ = sb) := ⟨_, Lib.hid rfl⟩
  have HC := Lib.hid (validScan_any k t c l h b o (w.alloc (.cells #[.int .i64 k, .int .i64 t, .int .i64 c, .int .i64 l, .int .i64 h, .int .i64 b, .int .i64 o] 28)))
  unfold qV at HC
  unfold qV
  obtain ⟨bb, Hbb⟩ : ∃ bb, Hid (btw b 1 3 = bb) := ⟨_, Lib.hid rfl⟩
  obtain ⟨ob, Hob⟩ : ∃ ob, Hid (btw o 0 3 = ob) := ⟨_, Lib.hid rfl⟩
  rcases hk with rfl
  all_goals
    go_enter Tryz.func34, Tryz.ntmps34
    go_wp2_with fail
    (with_reducible refine HC.out.mono ?_)
    rintro e w1 ⟨rfl, hb1⟩
    have c5 : w1.cell? ⟨w.heap.size, 5, none⟩ = some (.int .i64 b) := (hb1.cell (p := ⟨w.heap.size, 5, none⟩) (by simp)).trans (by simp [go_sem])
    have c6 : w1.cell? ⟨w.heap.size, 6, none⟩ = some (.int .i64 o) := (hb1.cell (p := ⟨w.heap.size, 6, none⟩) (by simp)).trans (by simp [go_sem])
    have HB := Lib.hid (bt (ba w _) hb1)
    clear hb1
    rw [Hsb.out]
    cases sb
    · go_wp2_with fail
      go_ret
      exact ⟨ret_bool (by rw [HV.out, Hsb.out]; rfl), HB.out⟩
    · go_wp2_with fail
      (with_reducible refine (validBy_any _ _).mono ?_)
      rintro e w' ⟨rfl, rfl⟩
      rw [Hbb.out]
      cases bb
      · go_wp2_with fail
        go_ret
        exact ⟨ret_bool (by rw [HV.out, Hsb.out, Hbb.out]; rfl), HB.out⟩
      · go_wp2_with fail
        (with_reducible refine (validTable_any _ _).mono ?_)
        rintro e w' ⟨rfl, rfl⟩
        rw [Hob.out]
        go_wp2_with fail
        go_ret
        exact ⟨ret_bool (by rw [HV.out, Hsb.out, Hbb.out, Hob.out]; rfl), HB.out⟩

set_option maxRecDepth 100000 in
set_option maxHeartbeats 1000000 in
/-- No kind. -/
theorem valid_no (k t c l h b o : Int) (w : World) (hk : ¬ (1 ≤ k ∧ k ≤ 7)) : Calls Tryz.prog 34 #[qV ⟨k, t, c, l, h, b, o⟩] w fun e w' => e = .returned (.bool (validB ⟨k, t, c, l, h, b, o⟩)) ∧ Below w.heap.size w w' := by
  have HV : Hid (validB ⟨k, t, c, l, h, b, o⟩ = false) := Lib.hid (by
    cases e : validB ⟨k, t, c, l, h, b, o⟩ with
    | false => rfl
    | true => exact absurd (valid_ok e).2 hk)
  have k1 := ne_beq (show ¬ k = 1 by omega)
  have k2 := ne_beq (show ¬ k = 2 by omega)
  have k3 := ne_beq (show ¬ k = 3 by omega)
  have k4 := ne_beq (show ¬ k = 4 by omega)
  have k5 := ne_beq (show ¬ k = 5 by omega)
  have k6 := ne_beq (show ¬ k = 6 by omega)
  have k7 := ne_beq (show ¬ k = 7 by omega)
  clear hk
  unfold qV
  go_enter Tryz.func34, Tryz.ntmps34
  go_wp2_with fail
  go_ret
  exact ⟨ret_bool HV.out.symm, ba _ _⟩

set_option maxRecDepth 100000 in
set_option maxHeartbeats 2000000 in
/-- Rows. -/
theorem valid_1 (k t c l h b o : Int) (w : World) (hk : k = 1) : Calls Tryz.prog 34 #[qV ⟨k, t, c, l, h, b, o⟩] w fun e w' => e = .returned (.bool (validB ⟨k, t, c, l, h, b, o⟩)) ∧ Below w.heap.size w w' := by
  have HV : Hid (validB ⟨k, t, c, l, h, b, o⟩ = ((c == 0) && (l == h) && btw l 1 1000000 && (scanB ⟨k, t, c, l, h, b, o⟩ && ((b == 0) && (o == 0))))) := Lib.hid (by
    subst hk
    unfold validB
    rw [Bool.eq_iff_iff]
    simp only [Bool.and_eq_true, beq_iff_eq, btw, decide_eq_true_eq, if_true]
    constructor
    · rintro ⟨h1, ⟨⟨⟨h2, h3⟩, h4, h5⟩, h6⟩, h7⟩
      exact ⟨⟨⟨h2, h3⟩, h4, h5⟩, h1, h6, h7⟩
    · rintro ⟨⟨⟨h2, h3⟩, h4, h5⟩, h1, h6, h7⟩
      exact ⟨h1, ⟨⟨⟨h2, h3⟩, h4, h5⟩, h6⟩, h7⟩)
  obtain ⟨sb, Hsb⟩ : ∃ sb, Hid (scanB ⟨k, t, c, l, h, b, o⟩ = sb) := ⟨_, Lib.hid rfl⟩
  have HC := Lib.hid (validScan_any k t c l h b o (w.alloc (.cells #[.int .i64 k, .int .i64 t, .int .i64 c, .int .i64 l, .int .i64 h, .int .i64 b, .int .i64 o] 28)))
  unfold qV at HC
  unfold qV
  obtain ⟨lb, Hlb⟩ : ∃ lb, Hid (btw l 1 1000000 = lb) := ⟨_, Lib.hid rfl⟩
  rcases hk with rfl
  by_cases hc : c = 0
  · have gc : (c != 0) = false := by simp [hc]
    have Gc := Lib.hid (eq_beq hc)
    by_cases hl : l = h
    · have gl : (l != h) = false := by simp [hl]
      have Gl := Lib.hid (eq_beq hl)
      clear hc hl
      go_enter Tryz.func34, Tryz.ntmps34
      go_wp2_with fail
      (with_reducible refine (between_any _ _ _ _).mono ?_)
      rintro e w' ⟨rfl, rfl⟩
      rw [Hlb.out]
      cases lb
      · go_wp2_with fail
        go_ret
        exact ⟨ret_bool (by rw [HV.out, Hlb.out]; simp), ba _ _⟩
      · go_wp2_with fail
        (with_reducible refine HC.out.mono ?_)
        rintro e w1 ⟨rfl, hb1⟩
        have c5 : w1.cell? ⟨w.heap.size, 5, none⟩ = some (.int .i64 b) := (hb1.cell (p := ⟨w.heap.size, 5, none⟩) (by simp)).trans (by simp [go_sem])
        have c6 : w1.cell? ⟨w.heap.size, 6, none⟩ = some (.int .i64 o) := (hb1.cell (p := ⟨w.heap.size, 6, none⟩) (by simp)).trans (by simp [go_sem])
        have HB := Lib.hid (bt (ba w _) hb1)
        clear hb1
        rw [Hsb.out]
        cases sb
        · go_wp2_with fail
          go_ret
          exact ⟨ret_bool (by rw [HV.out, Hsb.out]; simp), HB.out⟩
        · by_cases hb : b = 0
          · have gb := eq_beq hb
            by_cases ho : o = 0
            · have go' := eq_beq ho
              clear hb ho
              go_wp2_with fail
              go_ret
              exact ⟨ret_bool (by rw [HV.out, Hsb.out, Gc.out, Gl.out, Hlb.out, gb, go']; rfl), HB.out⟩
            · have go' := ne_beq ho
              clear hb ho
              go_wp2_with fail
              go_ret
              exact ⟨ret_bool (by rw [HV.out, go']; simp), HB.out⟩
          · have gb := ne_beq hb
            clear hb
            go_wp2_with fail
            go_ret
            exact ⟨ret_bool (by rw [HV.out, gb]; simp), HB.out⟩
    · have gl : (l != h) = true := by simp [hl]
      have Gl := Lib.hid (ne_beq hl)
      clear hc hl
      go_enter Tryz.func34, Tryz.ntmps34
      go_wp2_with fail
      go_ret
      exact ⟨ret_bool (by rw [HV.out, Gl.out]; simp), ba _ _⟩
  · have gc : (c != 0) = true := by simp [hc]
    have Gc := Lib.hid (ne_beq hc)
    clear hc
    go_enter Tryz.func34, Tryz.ntmps34
    go_wp2_with fail
    go_ret
    exact ⟨ret_bool (by rw [HV.out, Gc.out]; simp), ba _ _⟩

/-- **Valid.** -/
theorem qvalid_any (q : MQ) (w : World) : Calls Tryz.prog 34 #[qV q] w fun e w' => e = .returned (.bool (validB q)) ∧ Below w.heap.size w w' := by
  obtain ⟨k, t, c, l, h, b, o⟩ := q
  by_cases h1 : 1 ≤ k ∧ k ≤ 7
  · by_cases h2 : k = 1
    · exact valid_1 k t c l h b o w h2
    · by_cases h3 : k = 2 ∨ k = 3
      · exact valid_23 k t c l h b o w h3
      · by_cases h4 : k = 7
        · exact valid_7 k t c l h b o w h4
        · exact valid_456 k t c l h b o w (by omega)
  · exact valid_no k t c l h b o w h1
theorem ret4 {w : World} {fn : Func} {t u v x : Tmp} {tmps : Array Value} (P : Program) (h : fn.results = #[.tmp t, .tmp u, .tmp v, .tmp x]) : (results fn tmps).run P w = .ok (.tuple #[tmps.getD t undef, tmps.getD u undef, tmps.getD v undef, tmps.getD x undef]) w := by simp [results, h]
/-- What Scan returns. -/
def scanV (q : MQ) : Value := if validB q then .tuple #[.int .i64 q.table, .int .i64 q.column, .int .i64 q.low, .int .i64 q.high] else .tuple #[.int .i64 0, .int .i64 0, .int .i64 0, .int .i64 0]
set_option maxRecDepth 100000 in
set_option maxHeartbeats 1000000 in
theorem scan_any (q : MQ) (W : World) : Calls Tryz.prog 38 #[qV q] W fun e w' => e = .returned (scanV q) ∧ Below W.heap.size W w' := by
  obtain ⟨k, t, c, l, h, b, o⟩ := q
  obtain ⟨v, Hv⟩ : ∃ v, Hid (validB ⟨k, t, c, l, h, b, o⟩ = v) := ⟨_, Lib.hid rfl⟩
  have HC := Lib.hid (qvalid_any ⟨k, t, c, l, h, b, o⟩ (W.alloc (.cells #[.int .i64 k, .int .i64 t, .int .i64 c, .int .i64 l, .int .i64 h, .int .i64 b, .int .i64 o] 28)))
  rw [Hv.out] at HC
  have HQ := Lib.hid (QAt.new W ⟨k, t, c, l, h, b, o⟩)
  have HS : Hid (scanV ⟨k, t, c, l, h, b, o⟩ = if v then .tuple #[.int .i64 t, .int .i64 c, .int .i64 l, .int .i64 h] else .tuple #[.int .i64 0, .int .i64 0, .int .i64 0, .int .i64 0]) := Lib.hid (by unfold scanV; rw [Hv.out])
  unfold qV at *
  cases v
  · go_enter Tryz.func38, Tryz.ntmps38
    go_wp2_with fail
    (with_reducible refine HC.out.mono ?_)
    rintro e w1 ⟨rfl, hb1⟩
    have HB := Lib.hid (bt (ba W _) hb1)
    clear hb1
    go_wp2_with fail
    exact bodyPost_ret (ret4 _ rfl) rfl ⟨by rw [HS.out]; rfl, HB.out⟩
  · go_enter Tryz.func38, Tryz.ntmps38
    go_wp2_with fail
    (with_reducible refine HC.out.mono ?_)
    rintro e w1 ⟨rfl, hb1⟩
    have HB := Lib.hid (bt (ba W _) hb1)
    obtain ⟨z0, z1, z2, z3, z4, z5, z6⟩ := HQ.out.below hb1
    clear hb1
    go_wp2_with fail
    go_quiet (fail)
    go_wp2_with fail
    exact bodyPost_ret (ret4 _ rfl) rfl ⟨by rw [HS.out]; rfl, bt HB.out ⟨rfl, rfl, rfl, Nat.le_refl _, fun _ _ => rfl⟩⟩
end Go.Proofs.YtgbnjjgnihjfgaaGreat
end

section
set_option linter.unusedVariables false
set_option linter.unusedSimpArgs false
namespace Go.Proofs.YtgbnjjgnihjfgaaGreat
open Go.RowKit Go.Sort Go.ChangeMaps Go.MapKept

/-- What a fold is handed: a step of which it is known what it makes of I. -/
structure FoldI (va : Value) (L : List MRow) (g : FuncId) (cb : Array Value) (I : Nat → Value → World → Prop) : Prop where
  below : ∀ k v w w', I k v w → Below w.heap.size w w' → I k v w'
  rows : ∀ k v w, I k v w → RowS w va L
  step : ∀ k v w, k < L.length → I k v w → Calls Tryz.prog g (#[v, rowV (L.getD k rowZ)] ++ cb) w fun e w' => ∃ v', e = .returned v' ∧ I (k + 1) v' w'

set_option maxRecDepth 100000 in
set_option maxHeartbeats 4000000 in
theorem fold59 {W : World} {va v0 : Value} {L : List MRow} {g : FuncId} {cb : Array Value} {I : Nat → Value → World → Prop} (eg : ∀ args w, (callFunc g args).run Tryz.prog w = .ok (.enter g args) w) (hF : FoldI va L g cb I) (h0 : I 0 v0 W) :
    Calls Tryz.prog 71 #[va, v0, .func (.func g) #[] cb] W fun e w' => ∃ v, e = .returned v ∧ I L.length v w' := by
  have HF := Lib.hid hF
  have H0 := Lib.hid h0
  obtain ⟨a, n, cap, rfl, hn, hc1, hc2, _⟩ := hF.rows _ _ _ h0
  have HN := Lib.hid hn
  have hn2 : n ≤ 9223372036854775807 := by omega
  clear hF h0 hn
  go_enter Tryz.func71, Tryz.ntmps71
  go_wp2_with fail
  go_loopw [1, 11] (fun v i wr => ∃ k : Nat, k ≤ n ∧ i = .int .i64 k ∧ Hid (I k v wr)) (fun v i _ => n - (intOf i).toNat)
  case atStart => exact ⟨0, by omega, rfl, H0⟩
  case round =>
    obtain ⟨k, hk, rfl, HI⟩ := hrel
    obtain ⟨v, hvv⟩ : ∃ v, v = u1 := ⟨_, rfl⟩
    subst hvv
    by_cases hlt : k < n
    · obtain ⟨_, n', _, e1, -, -, -, hcell⟩ := HF.out.rows _ _ _ HI.out
      simp at e1
      obtain ⟨rfl, hnn, rfl⟩ := e1
      obtain ⟨vb, vo, rfl, hvb, hcs⟩ := hcell (by omega)
      have HRm := hcs k (by omega)
      clear hcs hcell hnn
      have HSt := Lib.hid (HF.out.step k v)
      obtain ⟨⟨rt, rk, ⟨ra, rb, rc⟩⟩, Hr⟩ : ∃ r, Hid (L.getD k rowZ = r) := ⟨_, Lib.hid rfl⟩
      rw [Hr.out] at HRm HSt
      obtain ⟨y0, y1, y2, y3, y4⟩ := HRm.cells
      simp only at y0 y1 y2 y3 y4
      clear HRm
      have HKL : Hid (k < L.length) := Lib.hid (by rw [← HN.out]; exact hlt)
      have HIa := Lib.hid (HF.out.below _ _ _ _ HI.out (ba wr (.cells #[.int .i64 rt, .int .i64 rk, .int .i64 ra, .int .i64 rb, .int .i64 rc] 57)))
      go_wp2_with fail
      refine (HSt.out _ HKL.out HIa.out).mono ?_
      rintro e w2 ⟨v', rfl, hI2⟩
      have HI2 := Lib.hid hI2
      clear hI2
      go_wp2_with fail
      exact ⟨⟨k + 1, by omega, by go_num, HI2⟩, by simp [intOf]; omega⟩
    · obtain rfl : k = n := by omega
      have HIe : Hid (I L.length v wr) := Lib.hid (by rw [← HN.out]; exact HI.out)
      go_wp2_with fail
      go_ret
      exact ⟨v, rfl, HIe.out⟩

set_option maxRecDepth 100000 in
set_option maxHeartbeats 4000000 in
theorem fold103 {W : World} {va v0 : Value} {L : List MRow} {g : FuncId} {cb : Array Value} {I : Nat → Value → World → Prop} (eg : ∀ args w, (callFunc g args).run Tryz.prog w = .ok (.enter g args) w) (hF : FoldI va L g cb I) (h0 : I 0 v0 W) :
    Calls Tryz.prog 110 #[va, v0, .func (.func g) #[] cb] W fun e w' => ∃ v, e = .returned v ∧ I L.length v w' := by
  have HF := Lib.hid hF
  have H0 := Lib.hid h0
  obtain ⟨a, n, cap, rfl, hn, hc1, hc2, _⟩ := hF.rows _ _ _ h0
  have HN := Lib.hid hn
  have hn2 : n ≤ 9223372036854775807 := by omega
  clear hF h0 hn
  go_enter Tryz.func110, Tryz.ntmps110
  go_wp2_with fail
  go_loopw [1, 11] (fun v i wr => ∃ k : Nat, k ≤ n ∧ i = .int .i64 k ∧ Hid (I k v wr)) (fun v i _ => n - (intOf i).toNat)
  case atStart => exact ⟨0, by omega, rfl, H0⟩
  case round =>
    obtain ⟨k, hk, rfl, HI⟩ := hrel
    obtain ⟨v, hvv⟩ : ∃ v, v = u1 := ⟨_, rfl⟩
    subst hvv
    by_cases hlt : k < n
    · obtain ⟨_, n', _, e1, -, -, -, hcell⟩ := HF.out.rows _ _ _ HI.out
      simp at e1
      obtain ⟨rfl, hnn, rfl⟩ := e1
      obtain ⟨vb, vo, rfl, hvb, hcs⟩ := hcell (by omega)
      have HRm := hcs k (by omega)
      clear hcs hcell hnn
      have HSt := Lib.hid (HF.out.step k v)
      obtain ⟨⟨rt, rk, ⟨ra, rb, rc⟩⟩, Hr⟩ : ∃ r, Hid (L.getD k rowZ = r) := ⟨_, Lib.hid rfl⟩
      rw [Hr.out] at HRm HSt
      obtain ⟨y0, y1, y2, y3, y4⟩ := HRm.cells
      simp only at y0 y1 y2 y3 y4
      clear HRm
      have HKL : Hid (k < L.length) := Lib.hid (by rw [← HN.out]; exact hlt)
      have HIa := Lib.hid (HF.out.below _ _ _ _ HI.out (ba wr (.cells #[.int .i64 rt, .int .i64 rk, .int .i64 ra, .int .i64 rb, .int .i64 rc] 57)))
      go_wp2_with fail
      refine (HSt.out _ HKL.out HIa.out).mono ?_
      rintro e w2 ⟨v', rfl, hI2⟩
      have HI2 := Lib.hid hI2
      clear hI2
      go_wp2_with fail
      exact ⟨⟨k + 1, by omega, by go_num, HI2⟩, by simp [intOf]; omega⟩
    · obtain rfl : k = n := by omega
      have HIe : Hid (I L.length v wr) := Lib.hid (by rw [← HN.out]; exact HI.out)
      go_wp2_with fail
      go_ret
      exact ⟨v, rfl, HIe.out⟩

set_option maxRecDepth 100000 in
set_option maxHeartbeats 4000000 in
theorem fold105 {W : World} {va v0 : Value} {L : List MRow} {g : FuncId} {cb : Array Value} {I : Nat → Value → World → Prop} (eg : ∀ args w, (callFunc g args).run Tryz.prog w = .ok (.enter g args) w) (hF : FoldI va L g cb I) (h0 : I 0 v0 W) :
    Calls Tryz.prog 112 #[va, v0, .func (.func g) #[] cb] W fun e w' => ∃ v, e = .returned v ∧ I L.length v w' := by
  have HF := Lib.hid hF
  have H0 := Lib.hid h0
  obtain ⟨a, n, cap, rfl, hn, hc1, hc2, _⟩ := hF.rows _ _ _ h0
  have HN := Lib.hid hn
  have hn2 : n ≤ 9223372036854775807 := by omega
  clear hF h0 hn
  go_enter Tryz.func112, Tryz.ntmps112
  go_wp2_with fail
  go_loopw [1, 11] (fun v i wr => ∃ k : Nat, k ≤ n ∧ i = .int .i64 k ∧ Hid (I k v wr)) (fun v i _ => n - (intOf i).toNat)
  case atStart => exact ⟨0, by omega, rfl, H0⟩
  case round =>
    obtain ⟨k, hk, rfl, HI⟩ := hrel
    obtain ⟨v, hvv⟩ : ∃ v, v = u1 := ⟨_, rfl⟩
    subst hvv
    by_cases hlt : k < n
    · obtain ⟨_, n', _, e1, -, -, -, hcell⟩ := HF.out.rows _ _ _ HI.out
      simp at e1
      obtain ⟨rfl, hnn, rfl⟩ := e1
      obtain ⟨vb, vo, rfl, hvb, hcs⟩ := hcell (by omega)
      have HRm := hcs k (by omega)
      clear hcs hcell hnn
      have HSt := Lib.hid (HF.out.step k v)
      obtain ⟨⟨rt, rk, ⟨ra, rb, rc⟩⟩, Hr⟩ : ∃ r, Hid (L.getD k rowZ = r) := ⟨_, Lib.hid rfl⟩
      rw [Hr.out] at HRm HSt
      obtain ⟨y0, y1, y2, y3, y4⟩ := HRm.cells
      simp only at y0 y1 y2 y3 y4
      clear HRm
      have HKL : Hid (k < L.length) := Lib.hid (by rw [← HN.out]; exact hlt)
      have HIa := Lib.hid (HF.out.below _ _ _ _ HI.out (ba wr (.cells #[.int .i64 rt, .int .i64 rk, .int .i64 ra, .int .i64 rb, .int .i64 rc] 57)))
      go_wp2_with fail
      refine (HSt.out _ HKL.out HIa.out).mono ?_
      rintro e w2 ⟨v', rfl, hI2⟩
      have HI2 := Lib.hid hI2
      clear hI2
      go_wp2_with fail
      exact ⟨⟨k + 1, by omega, by go_num, HI2⟩, by simp [intOf]; omega⟩
    · obtain rfl : k = n := by omega
      have HIe : Hid (I L.length v wr) := Lib.hid (by rw [← HN.out]; exact HI.out)
      go_wp2_with fail
      go_ret
      exact ⟨v, rfl, HIe.out⟩
end Go.Proofs.YtgbnjjgnihjfgaaGreat
end

section
set_option linter.unusedVariables false
set_option linter.unusedSimpArgs false
namespace Go.Proofs.YtgbnjjgnihjfgaaGreat
open Go.RowKit Go.Sort Go.ChangeMaps Go.MapKept

def wadd (a b : Int) : Int := wrap64 (a + b)
abbrev resV (r : Value) (v : Int) (f : Bool) : Value := .agg #[r, .int .i64 v, .bool f]
abbrev resC (r : Value) (v : Int) (f : Bool) : Array Value := #[r, .int .i64 v, .bool f]
abbrev fnV (g : FuncId) (cb : Array Value) : Value := .func (.func g) #[] cb
abbrev ptr (b : Nat) : Value := .pointer (some ⟨b, 0, none⟩)
theorem setC_heap {w : World} {b : Nat} {cur : Array Value} {t : TypeId} {fr : Nat × Nat} (h : w.heap[b]? = some (.cells cur t fr)) (j : Nat) (u : Value) : (w.setCell ⟨b, j, none⟩ u).heap[b]? = some (.cells (cur.setIfInBounds j u) t fr) := by
  have hlt := lt_of_block h
  have h' : w.heap[b] = .cells cur t fr := by simpa [Array.getElem?_eq_getElem hlt] using h
  show (w.heap.modify b _)[b]? = _
  rw [Array.getElem?_eq_getElem (by simpa using hlt), Array.getElem_modify_self, h']
  rfl
theorem set3_heap {w : World} {b : Nat} {r x0 x1 x2 : Value} {v f : Value} {t : TypeId} (h : w.heap[b]? = some (.cells #[r, v, f] t (0, 0))) : (((w.setCell ⟨b, 0, none⟩ x0).setCell ⟨b, 1, none⟩ x1).setCell ⟨b, 2, none⟩ x2).heap[b]? = some (.cells #[x0, x1, x2] t (0, 0)) :=
  setC_heap (setC_heap (setC_heap h 0 x0) 1 x1) 2 x2
theorem below_setCell {B : Nat} {w0 w : World} (h : Below B w0 w) {a : Addr} (ha : B ≤ a.block) (v : Value) : Below B w0 (w.setCell a v) :=
  ⟨h.os, h.tape, h.output, by simpa [World.setCell] using h.size, fun k hk => (Below.heap_setCell w a v k (by omega)).trans (h.block k hk)⟩

set_option maxRecDepth 100000 in
theorem measure_any (r : MRow) (y : Int) (qb : Nat) (W : World) (hy : I64 y) (hq : W.cell? ⟨qb, 5, none⟩ = some (.int .i64 y)) :
    Calls Tryz.prog 69 #[rowV r, ptr qb] W fun e w' => e = .returned (.int .i64 (vget r y)) ∧ Below W.heap.size W w' := by
  have hl : qb < W.heap.size := World.block_lt_of_cell? W _ hq
  have hne : ¬ qb = W.heap.size := by omega
  obtain ⟨t, k, ⟨a, b, c⟩⟩ := r
  have HV := Lib.hid (fun w => value_any t k a b c y w hy.1 hy.2)
  obtain ⟨v, Hv⟩ : ∃ v, Hid (vget ⟨t, k, ⟨a, b, c⟩⟩ y = v) := ⟨_, Lib.hid rfl⟩
  rw [Hv.out] at HV ⊢
  unfold rowV at HV ⊢
  clear hy Hv
  go_enter Tryz.func69, Tryz.ntmps69
  go_wp2_with fail
  (with_reducible refine (HV.out _).mono ?_)
  rintro e w1 ⟨rfl, hb⟩
  have HB := Lib.hid (bt (ba W _) hb)
  clear hb
  go_wp2_with fail
  go_ret
  exact ⟨rfl, HB.out⟩

theorem eg58 : ∀ args w, (callFunc 69 args).run Tryz.prog w = .ok (.enter 69 args) w := enters_of Tryz.func69 (by kernel_rfl) rfl
set_option maxRecDepth 100000 in
theorem sumStep_any (s : Int) (r : MRow) (y : Int) (mb qb : Nat) (W : World) (hy : I64 y) (hm : W.cell? ⟨mb, 0, none⟩ = some (fnV 69 #[ptr qb])) (hq : W.cell? ⟨qb, 5, none⟩ = some (.int .i64 y)) :
    Calls Tryz.prog 72 #[.int .i64 s, rowV r, ptr mb] W fun e w' => e = .returned (.int .i64 (wadd s (vget r y))) ∧ Below W.heap.size W w' := by
  have hl : mb < W.heap.size := World.block_lt_of_cell? W _ hm
  have hne : ¬ mb = W.heap.size := by omega
  have hlq : qb < W.heap.size := World.block_lt_of_cell? W _ hq
  have HM := Lib.hid (measure_any r y qb (W.alloc (.cells #[.int .i64 r.t, .int .i64 r.k, .int .i64 r.v.a, .int .i64 r.v.b, .int .i64 r.v.c] 57)) hy (by rw [(ba W _).cell (p := ⟨qb, 5, none⟩) hlq]; exact hq))
  obtain ⟨t, k, ⟨a, b, c⟩⟩ := r
  obtain ⟨v, Hv⟩ : ∃ v, Hid (vget ⟨t, k, ⟨a, b, c⟩⟩ y = v) := ⟨_, Lib.hid rfl⟩
  rw [Hv.out] at HM ⊢
  unfold rowV at HM ⊢
  have eg := eg58
  clear hy Hv hq hlq
  unfold ptr fnV at *
  go_enter Tryz.func72, Tryz.ntmps72
  go_wp2_with fail
  (with_reducible refine HM.out.mono ?_)
  rintro e w1 ⟨rfl, hb⟩
  have HB := Lib.hid (bt (ba W _) hb)
  clear hb
  go_wp2_with fail
  go_ret
  exact ⟨rfl, HB.out⟩
theorem lt62 (a b : Int) (W : World) : Calls Tryz.prog 74 #[.int .i64 a, .int .i64 b] W fun e w' => e = .returned (.bool (decide (a < b))) ∧ W = w' := by
  go_enter Tryz.func74, Tryz.ntmps74
  go_wp2
  go_ret
  exact ⟨rfl, rfl⟩
theorem gt63 (a b : Int) (W : World) : Calls Tryz.prog 75 #[.int .i64 a, .int .i64 b] W fun e w' => e = .returned (.bool (decide (b < a))) ∧ W = w' := by
  go_enter Tryz.func75, Tryz.ntmps75
  go_wp2
  go_ret
  exact ⟨rfl, rfl⟩

/-- A row more, of a least (greatest) value. -/
def extS (lt : Int → Int → Bool) (y : Int) (s : Int × Bool) (r : MRow) : Int × Bool := if !s.2 || lt (vget r y) s.1 then (vget r y, true) else s
set_option maxRecDepth 100000 in
set_option maxHeartbeats 4000000 in
theorem exStep_any (lt : Int → Int → Bool) (g : FuncId) (eg : ∀ args w, (callFunc g args).run Tryz.prog w = .ok (.enter g args) w) (hg : ∀ a b w, Calls Tryz.prog g #[.int .i64 a, .int .i64 b] w fun e w' => e = .returned (.bool (lt a b)) ∧ w = w')
    (s : Int × Bool) (r : MRow) (y : Int) (mb pb qb : Nat) (W : World) (hy : I64 y) (hm : W.cell? ⟨mb, 0, none⟩ = some (fnV 69 #[ptr qb])) (hp : W.cell? ⟨pb, 0, none⟩ = some (fnV g #[])) (hq : W.cell? ⟨qb, 5, none⟩ = some (.int .i64 y)) :
    Calls Tryz.prog 109 #[resV (.slice none 0 0) s.1 s.2, rowV r, ptr mb, ptr pb] W fun e w' => e = .returned (resV (.slice none 0 0) (extS lt y s r).1 (extS lt y s r).2) ∧ Below W.heap.size W w' := by
  obtain ⟨v, f⟩ := s
  have hl : mb < W.heap.size := World.block_lt_of_cell? W _ hm
  have hne : ¬ mb = W.heap.size := by omega
  have hlp : pb < W.heap.size := World.block_lt_of_cell? W _ hp
  have hnp : ¬ pb = W.heap.size := by omega
  have hn1 : ¬ mb = W.heap.size + 1 := by omega
  have hn2 : ¬ mb = W.heap.size + 1 + 1 := by omega
  have hp1 : ¬ pb = W.heap.size + 1 := by omega
  have hp2 : ¬ pb = W.heap.size + 1 + 1 := by omega
  have hlq : qb < W.heap.size := World.block_lt_of_cell? W _ hq
  have HB3 : Hid (∀ o1 o2 o3, Below W.heap.size W (((W.alloc o1).alloc o2).alloc o3)) := Lib.hid (fun o1 o2 o3 => bt (bt (ba W o1) (ba _ o2)) (ba _ o3))
  have HM := Lib.hid (fun w (h : Below W.heap.size W w) => measure_any r y qb w hy (by rw [h.cell (p := ⟨qb, 5, none⟩) hlq]; exact hq))
  obtain ⟨t, k, ⟨a, b, c⟩⟩ := r
  obtain ⟨m, Hv⟩ : ∃ v, Hid (vget ⟨t, k, ⟨a, b, c⟩⟩ y = v) := ⟨_, Lib.hid rfl⟩
  obtain ⟨⟨rv, rf⟩, HX⟩ : ∃ x, Hid (extS lt y (v, f) ⟨t, k, ⟨a, b, c⟩⟩ = x) := ⟨_, Lib.hid rfl⟩
  have HE : Hid ((rv, rf) = if !f || lt m v then (m, true) else (v, f)) := Lib.hid (by rw [← HX.out]; unfold extS; simp only [Hv.out])
  rw [HX.out]
  clear HX
  rw [Hv.out] at HM
  have HG := Lib.hid (hg m v)
  unfold rowV at HM ⊢
  unfold resV
  have eg' := eg58
  clear hy Hv hq hlq
  unfold ptr fnV at *
  go_enter Tryz.func109, Tryz.ntmps109
  go_upto_region 1 with fail
  generalize hw3 : ((W.alloc (.cells #[.slice none 0 0, .int .i64 v, .bool f] 34)).alloc (.cells #[.int .i64 t, .int .i64 k, .int .i64 a, .int .i64 b, .int .i64 c] 57)).alloc (.cells #[.slice none 0 0, .int .i64 0, .bool false] 34) = w3
  have HB03 : Hid (Below W.heap.size W w3) := Lib.hid (by rw [← hw3]; exact HB3.out _ _ _)
  have HR3 : Hid (w3.heap[W.heap.size + 1 + 1]? = some (.cells (resC (.slice none 0 0) 0 false) 34 (0, 0))) := Lib.hid (by
    rw [← hw3]
    have h := heap_alloc_new ((W.alloc (.cells #[.slice none 0 0, .int .i64 v, .bool f] 34)).alloc (.cells #[.int .i64 t, .int .i64 k, .int .i64 a, .int .i64 b, .int .i64 c] 57)) (.cells #[.slice none 0 0, .int .i64 0, .bool false] 34)
    simpa using h)
  have HS3 : Hid (w3.heap[W.heap.size]? = some (.cells (resC (.slice none 0 0) v f) 34 (0, 0))) := Lib.hid (by
    rw [← hw3]
    have h := heap_alloc_new W (.cells #[.slice none 0 0, .int .i64 v, .bool f] 34)
    exact ((bt (ba (W.alloc _) _) (ba _ _)).block _ (by simp)).trans h)
  have y0 : w3.cell? ⟨W.heap.size + 1, 0, none⟩ = some (.int .i64 t) := by rw [← hw3]; simp [go_sem]
  have y1 : w3.cell? ⟨W.heap.size + 1, 1, none⟩ = some (.int .i64 k) := by rw [← hw3]; simp [go_sem]
  have y2 : w3.cell? ⟨W.heap.size + 1, 2, none⟩ = some (.int .i64 a) := by rw [← hw3]; simp [go_sem]
  have y3 : w3.cell? ⟨W.heap.size + 1, 3, none⟩ = some (.int .i64 b) := by rw [← hw3]; simp [go_sem]
  have y4 : w3.cell? ⟨W.heap.size + 1, 4, none⟩ = some (.int .i64 c) := by rw [← hw3]; simp [go_sem]
  have z0 := (HB03.out.cell (p := ⟨mb, 0, none⟩) hl).trans hm
  have HZp := Lib.hid ((HB03.out.cell (p := ⟨pb, 0, none⟩) hlp).trans hp)
  clear hw3 hm hp hne hnp hn1 hn2 hp1 hp2
  go_wp2_with fail
  refine (HM.out _ HB03.out).mono ?_
  rintro e w4 ⟨rfl, hb⟩
  have HB4 := Lib.hid (bt HB03.out hb)
  have HR4 := Lib.hid ((hb.block _ (lt_of_block HR3.out)).trans HR3.out)
  have HS4 := Lib.hid ((hb.block _ (lt_of_block HS3.out)).trans HS3.out)
  have z1 := (hb.cell (p := ⟨pb, 0, none⟩) (Nat.lt_of_lt_of_le hlp HB03.out.size)).trans HZp.out
  have r0 : w4.cell? ⟨W.heap.size, 0, none⟩ = some (.slice none 0 0) := by simp [World.cell?, HS4.out]
  have r1 : w4.cell? ⟨W.heap.size, 1, none⟩ = some (.int .i64 v) := by simp [World.cell?, HS4.out]
  have r2 : w4.cell? ⟨W.heap.size, 2, none⟩ = some (.bool f) := by simp [World.cell?, HS4.out]
  have f0 : ∀ j, w4.frozen? ⟨W.heap.size + 1 + 1, j, none⟩ = false := fun j => by simp [World.frozen?, HR4.out]
  have x0 : w4.cell? ⟨W.heap.size + 1 + 1, 0, none⟩ = some (.slice none 0 0) := by simp [World.cell?, HR4.out]
  have x1 : w4.cell? ⟨W.heap.size + 1 + 1, 1, none⟩ = some (.int .i64 0) := by simp [World.cell?, HR4.out]
  have x2 : w4.cell? ⟨W.heap.size + 1 + 1, 2, none⟩ = some (.bool false) := by simp [World.cell?, HR4.out]
  clear hb y0 y1 y2 y3 y4 z0
  have hfin : ∀ x0 x1 x2, Hid (Below W.heap.size W (((w4.setCell ⟨W.heap.size + 1 + 1, 0, none⟩ x0).setCell ⟨W.heap.size + 1 + 1, 1, none⟩ x1).setCell ⟨W.heap.size + 1 + 1, 2, none⟩ x2)) := fun x0 x1 x2 => Lib.hid (below_setCell (below_setCell (below_setCell HB4.out (by show W.heap.size ≤ W.heap.size + 1 + 1; omega) _) (by show W.heap.size ≤ W.heap.size + 1 + 1; omega) _) (by show W.heap.size ≤ W.heap.size + 1 + 1; omega) _)
  cases f
  · have He : Hid ((rv, rf) = (m, true)) := Lib.hid (HE.out.trans (by simp))
    clear HE
    go_wp2_with fail
    refine bodyPost_ret (v := resV (.slice none 0 0) m true) (results_cell_row rfl _ _ (W.heap.size + 1 + 1) 34 _ (0, 0) _ rfl (set3_heap HR4.out) Tryz.underlying34 rfl (by kernel_rfl)) rfl ⟨?_, (hfin _ _ _).out⟩
    have e := He.out
    simp only [Prod.mk.injEq] at e
    rw [e.1, e.2]
  · obtain ⟨bl, Hbl⟩ : ∃ x, Hid (lt m v = x) := ⟨_, Lib.hid rfl⟩
    rw [Hbl.out] at HG HE
    cases bl
    · have He : Hid ((rv, rf) = (v, true)) := Lib.hid (HE.out.trans (by simp))
      clear HE
      go_wp2_with fail
      (with_reducible refine (HG.out _).mono ?_)
      rintro e wx ⟨rfl, rfl⟩
      go_wp2_with fail
      refine bodyPost_ret (v := resV (.slice none 0 0) v true) (results_cell_row rfl _ _ (W.heap.size + 1 + 1) 34 _ (0, 0) _ rfl (set3_heap HR4.out) Tryz.underlying34 rfl (by kernel_rfl)) rfl ⟨?_, (hfin _ _ _).out⟩
      have e := He.out
      simp only [Prod.mk.injEq] at e
      rw [e.1, e.2]
    · have He : Hid ((rv, rf) = (m, true)) := Lib.hid (HE.out.trans (by simp))
      clear HE
      go_wp2_with fail
      (with_reducible refine (HG.out _).mono ?_)
      rintro e wx ⟨rfl, rfl⟩
      go_wp2_with fail
      refine bodyPost_ret (v := resV (.slice none 0 0) m true) (results_cell_row rfl _ _ (W.heap.size + 1 + 1) 34 _ (0, 0) _ rfl (set3_heap HR4.out) Tryz.underlying34 rfl (by kernel_rfl)) rfl ⟨?_, (hfin _ _ _).out⟩
      have e := He.out
      simp only [Prod.mk.injEq] at e
      rw [e.1, e.2]

def extF (lt : Int → Int → Bool) (y : Int) (M : List MRow) : Int × Bool := M.foldl (extS lt y) (0, false)
def sumM (y : Int) (M : List MRow) : Int := M.foldl (fun s r => wadd s (vget r y)) 0
theorem foldl_take {α : Type} (f : α → MRow → α) (x : α) (M : List MRow) {k : Nat} (hk : k < M.length) : (M.take (k + 1)).foldl f x = f ((M.take k).foldl f x) (M.getD k rowZ) := by
  rw [take_snoc' (d := rowZ) hk, List.foldl_append]
  rfl

set_option maxRecDepth 100000 in
set_option maxHeartbeats 4000000 in
/-- The fold over results. -/
theorem fold101 {W : World} {va : Value} {L : List MRow} {g : FuncId} {cb : Array Value} (f : Int × Bool → MRow → Int × Bool) (eg : ∀ args w, (callFunc g args).run Tryz.prog w = .ok (.enter g args) w) (hR : RowS W va L)
    (hS : ∀ s r w, Below W.heap.size W w → Calls Tryz.prog g (#[resV (.slice none 0 0) s.1 s.2, rowV r] ++ cb) w fun e w' => e = .returned (resV (.slice none 0 0) (f s r).1 (f s r).2) ∧ Below w.heap.size w w') :
    Calls Tryz.prog 108 #[va, resV (.slice none 0 0) 0 false, .func (.func g) #[] cb] W fun e w' => e = .returned (resV (.slice none 0 0) (L.foldl f (0, false)).1 (L.foldl f (0, false)).2) ∧ Below W.heap.size W w' := by
  have HR := Lib.hid hR
  have HS := Lib.hid hS
  obtain ⟨a, n, cap, rfl, hn, hc1, hc2, hcell⟩ := hR
  have HN := Lib.hid hn
  have HC := Lib.hid hcell
  have hn2 : n ≤ 9223372036854775807 := by omega
  have hWn : W.heap.size ≤ W.heap.size + 1 := by omega
  clear hn hcell hS
  go_enter Tryz.func108, Tryz.ntmps108
  go_upto_region 1 with fail
  generalize hw1 : (W.alloc (.cells #[.slice none 0 0, .int .i64 0, .bool false] 34)).alloc (.cells #[.slice none 0 0, .int .i64 0, .bool false] 34) = w1
  have HB1 : Hid (Below W.heap.size W w1) := Lib.hid (by rw [← hw1]; exact bt (ba W _) (ba _ _))
  have HX1 : Hid (w1.heap[W.heap.size]? = some (.cells (resC (.slice none 0 0) 0 false) 34 (0, 0))) := Lib.hid (by
    rw [← hw1]
    exact ((ba (W.alloc (.cells #[.slice none 0 0, .int .i64 0, .bool false] 34)) _).block _ (by simp)).trans (heap_alloc_new W _))
  have HY1 : Hid (w1.heap[W.heap.size + 1]? = some (.cells (resC (.slice none 0 0) 0 false) 34 (0, 0))) := Lib.hid (by
    rw [← hw1]
    have h := heap_alloc_new (W.alloc (.cells #[.slice none 0 0, .int .i64 0, .bool false] 34)) (.cells #[.slice none 0 0, .int .i64 0, .bool false] 34)
    simpa using h)
  clear hw1
  go_wp2_with fail
  go_loopw [11] (fun i wr => ∃ k : Nat, k ≤ n ∧ i = .int .i64 k ∧ Hid (Below W.heap.size W wr) ∧ Hid (wr.heap[W.heap.size]? = some (.cells (resC (.slice none 0 0) ((L.take k).foldl f (0, false)).1 ((L.take k).foldl f (0, false)).2) 34 (0, 0))) ∧ Hid (wr.heap[W.heap.size + 1]? = some (.cells (resC (.slice none 0 0) 0 false) 34 (0, 0)))) (fun i _ => n - (intOf i).toNat)
  case atStart => exact ⟨0, by omega, rfl, HB1, HX1, HY1⟩
  case round =>
    obtain ⟨k, hk, rfl, HB, HX, HY⟩ := hrel
    have hzx := lt_of_block HX.out
    have hzy := lt_of_block HY.out
    obtain ⟨⟨sv, sf⟩, Hs⟩ : ∃ s, Hid ((L.take k).foldl f (0, false) = s) := ⟨_, Lib.hid rfl⟩
    rw [Hs.out] at HX
    by_cases hlt : k < n
    · obtain ⟨vb, vo, rfl, hvb, hcs⟩ := HC.out (by omega)
      have HRm := (hcs k hlt).below hvb HB.out
      have HKL : Hid (k < L.length) := Lib.hid (by rw [← HN.out]; exact hlt)
      clear hcs
      obtain ⟨⟨rt, rk, ⟨ra, rb, rc⟩⟩, Hr⟩ : ∃ r, Hid (L.getD k rowZ = r) := ⟨_, Lib.hid rfl⟩
      rw [Hr.out] at HRm
      obtain ⟨⟨nv, nf⟩, Hn⟩ : ∃ s, Hid (f (sv, sf) ⟨rt, rk, ⟨ra, rb, rc⟩⟩ = s) := ⟨_, Lib.hid rfl⟩
      have HNx : Hid ((L.take (k + 1)).foldl f (0, false) = (nv, nf)) := Lib.hid (by rw [foldl_take f _ _ HKL.out, Hs.out, Hr.out, Hn.out])
      obtain ⟨y0, y1, y2, y3, y4⟩ := HRm.cells
      simp only at y0 y1 y2 y3 y4
      clear HRm
      have hvr : vb < wr.heap.size := Nat.lt_of_lt_of_le hvb HB.out.size
      go_upto_region 4 with fail
      generalize hw2 : wr.alloc (.cells #[.int .i64 rt, .int .i64 rk, .int .i64 ra, .int .i64 rb, .int .i64 rc] 57) = w2
      have HRow : Hid (RowAt w2 wr.heap.size ⟨rt, rk, ⟨ra, rb, rc⟩⟩) := Lib.hid (rowAt_of (t := 57) (by rw [← hw2]; exact (MapKept.heap_alloc wr _).1))
      have HB2 : Hid (Below wr.heap.size wr w2) := Lib.hid (by rw [← hw2]; exact ba wr _)
      have HX2 := Lib.hid ((HB2.out.block _ hzx).trans HX.out)
      have HY2 := Lib.hid ((HB2.out.block _ hzy).trans HY.out)
      have HSt := Lib.hid (HS.out (sv, sf) ⟨rt, rk, ⟨ra, rb, rc⟩⟩ w2 (bt HB.out HB2.out))
      rw [Hn.out] at HSt
      clear hw2 y0 y1 y2 y3 y4
      obtain ⟨y0, y1, y2, y3, y4⟩ := HRow.out
      simp only at y0 y1 y2 y3 y4
      have r0 : w2.cell? ⟨W.heap.size, 0, none⟩ = some (.slice none 0 0) := by simp [World.cell?, HX2.out]
      have r1 : w2.cell? ⟨W.heap.size, 1, none⟩ = some (.int .i64 sv) := by simp [World.cell?, HX2.out]
      have r2 : w2.cell? ⟨W.heap.size, 2, none⟩ = some (.bool sf) := by simp [World.cell?, HX2.out]
      go_wp2_with fail
      refine HSt.out.mono ?_
      rintro e w3 ⟨rfl, hb3⟩
      have HB3 := Lib.hid (bt HB.out (bt HB2.out hb3))
      have HX3 := Lib.hid ((hb3.block _ (lt_of_block HX2.out)).trans HX2.out)
      have HY3 := Lib.hid ((hb3.block _ (lt_of_block HY2.out)).trans HY2.out)
      have q0 : w3.cell? ⟨W.heap.size, 0, none⟩ = some (.slice none 0 0) := by simp [World.cell?, HX3.out]
      have q1 : w3.cell? ⟨W.heap.size, 1, none⟩ = some (.int .i64 sv) := by simp [World.cell?, HX3.out]
      have q2 : w3.cell? ⟨W.heap.size, 2, none⟩ = some (.bool sf) := by simp [World.cell?, HX3.out]
      have f0 : ∀ j, w3.frozen? ⟨W.heap.size, j, none⟩ = false := fun j => by simp [World.frozen?, HX3.out]
      have HBn : Hid (∀ x0 x1 x2, Below W.heap.size W (((w3.setCell ⟨W.heap.size, 0, none⟩ x0).setCell ⟨W.heap.size, 1, none⟩ x1).setCell ⟨W.heap.size, 2, none⟩ x2)) := Lib.hid (fun x0 x1 x2 => below_setCell (below_setCell (below_setCell HB3.out (Nat.le_refl _) _) (Nat.le_refl _) _) (Nat.le_refl _) _)
      have HYn : Hid (∀ x0 x1 x2, (((w3.setCell ⟨W.heap.size, 0, none⟩ x0).setCell ⟨W.heap.size, 1, none⟩ x1).setCell ⟨W.heap.size, 2, none⟩ x2).heap[W.heap.size + 1]? = some (.cells (resC (.slice none 0 0) 0 false) 34 (0, 0))) := Lib.hid (fun x0 x1 x2 => by
        rw [Below.heap_setCell _ _ _ _ (by simp), Below.heap_setCell _ _ _ _ (by simp), Below.heap_setCell _ _ _ _ (by simp)]
        exact HY3.out)
      clear hb3 y0 y1 y2 y3 y4 r0 r1 r2
      go_wp2_with fail
      exact ⟨⟨k + 1, by omega, by go_num, Lib.hid (HBn.out _ _ _), Lib.hid (by rw [HNx.out]; exact set3_heap HX3.out), Lib.hid (HYn.out _ _ _)⟩, by simp [intOf]; omega⟩
    · obtain rfl : k = n := by omega
      have HE : Hid (L.foldl f (0, false) = (sv, sf)) := Lib.hid (by
        have h := Hs.out
        rwa [HN.out, List.take_length] at h)
      have r0 : wr.cell? ⟨W.heap.size, 0, none⟩ = some (.slice none 0 0) := by simp [World.cell?, HX.out]
      have r1 : wr.cell? ⟨W.heap.size, 1, none⟩ = some (.int .i64 sv) := by simp [World.cell?, HX.out]
      have r2 : wr.cell? ⟨W.heap.size, 2, none⟩ = some (.bool sf) := by simp [World.cell?, HX.out]
      have x0 : wr.cell? ⟨W.heap.size + 1, 0, none⟩ = some (.slice none 0 0) := by simp [World.cell?, HY.out]
      have x1 : wr.cell? ⟨W.heap.size + 1, 1, none⟩ = some (.int .i64 0) := by simp [World.cell?, HY.out]
      have x2 : wr.cell? ⟨W.heap.size + 1, 2, none⟩ = some (.bool false) := by simp [World.cell?, HY.out]
      have f0 : ∀ j, wr.frozen? ⟨W.heap.size + 1, j, none⟩ = false := fun j => by simp [World.frozen?, HY.out]
      have HBn : Hid (∀ x0 x1 x2, Below W.heap.size W (((wr.setCell ⟨W.heap.size + 1, 0, none⟩ x0).setCell ⟨W.heap.size + 1, 1, none⟩ x1).setCell ⟨W.heap.size + 1, 2, none⟩ x2)) := Lib.hid (fun x0 x1 x2 => below_setCell (below_setCell (below_setCell HB.out hWn _) hWn _) hWn _)
      go_wp2_with fail
      refine bodyPost_ret (v := resV (.slice none 0 0) sv sf) (results_cell_row rfl _ _ (W.heap.size + 1) 34 _ (0, 0) _ rfl (set3_heap HY.out) Tryz.underlying34 rfl (by kernel_rfl)) rfl ⟨by rw [HE.out], HBn.out _ _ _⟩
end Go.Proofs.YtgbnjjgnihjfgaaGreat
end

section
set_option linter.unusedVariables false
set_option linter.unusedSimpArgs false
namespace Go.Proofs.YtgbnjjgnihjfgaaGreat
open Go.RowKit Go.Sort Go.ChangeMaps Go.MapKept

def lookK (F : List MRow) (k : Int) : Option MRow := F.find? fun r => decide (r.k = k)
/-- The rows of table t by their keys; of several with one key the first. -/
def keyS (t : Int) (F : List MRow) (r : MRow) : List MRow := if r.t = t ∧ (lookK F r.k).isNone = true then r :: F else F
def firstM (t k : Int) (M : List MRow) : Option MRow := M.find? fun r => decide (r.t = t ∧ r.k = k)
theorem lookK_keyS (t : Int) (F : List MRow) (r : MRow) (k : Int) : lookK (keyS t F r) k = (lookK F k).or (if r.t = t ∧ r.k = k then some r else none) := by
  unfold keyS
  by_cases h : r.t = t ∧ (lookK F r.k).isNone = true
  · rw [if_pos h]
    have hn : lookK F r.k = none := by simpa using h.2
    by_cases hk : r.k = k
    · subst hk
      rw [hn, if_pos ⟨h.1, rfl⟩]
      simp [lookK]
    · rw [if_neg (fun e => hk e.2)]
      simp [lookK, hk]
  · rw [if_neg h]
    by_cases hk : r.t = t ∧ r.k = k
    · rw [if_pos hk]
      have : ¬ (lookK F r.k).isNone = true := fun e => h ⟨hk.1, e⟩
      obtain ⟨t', k', v'⟩ := r
      simp only at hk this
      rw [hk.2] at this
      cases h0 : lookK F k with
      | none => rw [h0] at this; simp at this
      | some x => rfl
    · rw [if_neg hk]
      simp
theorem lookK_fold (t : Int) (k : Int) : ∀ (M F : List MRow), lookK (M.foldl (keyS t) F) k = (lookK F k).or (firstM t k M)
  | [], F => by simp [firstM]
  | r :: M, F => by
    rw [List.foldl_cons, lookK_fold t k M, lookK_keyS, Option.or_assoc]
    congr 1
    unfold firstM
    by_cases hk : r.t = t ∧ r.k = k
    · rw [if_pos hk, List.find?_cons_of_pos (by simpa using hk)]
      rfl
    · rw [if_neg hk, List.find?_cons_of_neg (by simpa using hk)]
      rfl
theorem lookK_none {F : List MRow} {k : Int} : lookK F k = none ↔ ∀ r ∈ F, ¬ r.k = k := by
  unfold lookK
  rw [List.find?_eq_none]
  simp

theorem lawK : Maps.Keyed Tryz.prog 3 := Maps.int_keyed Tryz.underlying3
theorem key_ofK {k : Int} (hk : I64 k) : keyOf Tryz.prog 3 (.int .i64 k) = some (.int .i64 k) := Maps.keyOf_int_mk Tryz.underlying3 (i64_wf hk)
def EntK (es : List MapEntry) (L : List MRow) : Prop := (es.map fun e => (e.key, e.val)).Perm (L.map fun r => (Value.int .i64 r.k, rowV r))
/-- Block b is a map whose entries are the rows of L by their keys. -/
def KMap (W : World) (b : Nat) (L : List MRow) : Prop := ∃ es clock, W.heap[b]? = some (.map es clock) ∧ Stamped es clock ∧ EntK es.toList L ∧ ∀ r ∈ L, I64 r.k
theorem KMap.lt {W : World} {b : Nat} {L : List MRow} (h : KMap W b L) : b < W.heap.size := by
  obtain ⟨es, clock, hb, _⟩ := h
  exact (Array.getElem?_eq_some_iff.1 hb).1
theorem KMap.of_block {W W' : World} {b : Nat} {L : List MRow} (h : KMap W b L) (e : W'.heap[b]? = W.heap[b]?) : KMap W' b L := by
  obtain ⟨es, clock, hb, r⟩ := h
  exact ⟨es, clock, e.trans hb, r⟩
theorem KMap.below {W W' : World} {b : Nat} {L : List MRow} (h : KMap W b L) (k : Below W.heap.size W W') : KMap W' b L := h.of_block (k.block b h.lt)
theorem entK_keys {es : List MapEntry} {L : List MRow} (h : EntK es L) (hw : ∀ r ∈ L, I64 r.k) : ∀ e ∈ es, ∃ l, keyOf Tryz.prog 3 e.key = some l := by
  intro e he
  have hm := h.mem_iff.1 (List.mem_map.2 ⟨e, he, rfl⟩)
  obtain ⟨r, hr, hre⟩ := List.mem_map.1 hm
  simp only [Prod.mk.injEq] at hre
  rw [← hre.1]
  exact ⟨_, key_ofK (hw r hr)⟩
theorem entK_nodup {es : List MapEntry} {L : List MRow} (h : EntK es L) (hp : es.Pairwise fun x y => x.key ≠ y.key) : L.Pairwise fun r s => ¬ r.k = s.k := by
  have h1 : (es.map fun e => (e.key, e.val)).Pairwise fun p q => p.1 ≠ q.1 := by rw [List.pairwise_map]; exact hp
  have h2 := (h.pairwise_iff (fun {a b} (hab : a.1 ≠ b.1) => hab.symm)).1 h1
  rw [List.pairwise_map] at h2
  exact h2.imp fun {a b} hab e => hab (by simp [e])
theorem lookK_mem {L : List MRow} (hp : L.Pairwise fun r s => ¬ r.k = s.k) {r : MRow} (hr : r ∈ L) : lookK L r.k = some r := by
  induction L with
  | nil => simp at hr
  | cons a L ih =>
    obtain ⟨h1, h2⟩ := List.pairwise_cons.1 hp
    unfold lookK
    rcases List.mem_cons.1 hr with e | hr
    · subst e
      rw [List.find?_cons_of_pos (by simp)]
    · rw [List.find?_cons_of_neg (by simp only [decide_eq_true_eq]; exact h1 r hr)]
      exact ih h2 hr
/-- 'v, ok := m[key]'. -/
theorem KMap.look {W : World} {b : Nat} {L : List MRow} (h : KMap W b L) {k : Int} (hk : I64 k) :
    (Instr.lookup 129 (.map (some b)) (.int .i64 k) true).run Tryz.prog W = .ok (.tuple #[rowV ((lookK L k).getD rowZ), .bool (lookK L k).isSome]) W := by
  obtain ⟨es, clock, hb, hs, he, hw⟩ := h
  have hl := key_ofK hk
  have hz : (zeroValue 57).run Tryz.prog W = .ok (rowV rowZ) W := by kernel_rfl
  rcases lawK.find W hl es.toList (entK_keys he hw) with ⟨h1, h2⟩ | ⟨j, e0, h1, h2, h3⟩
  · have hn : lookK L k = none := lookK_none.2 fun r hr e => by
      have hm := he.mem_iff.2 (List.mem_map.2 ⟨r, hr, rfl⟩)
      obtain ⟨x, hx, hxe⟩ := List.mem_map.1 hm
      simp only [Prod.mk.injEq] at hxe
      exact h2 x hx (by rw [hxe.1, e])
    rw [hn]
    simp [Instr.lookup, run_underlying Tryz.underlying129, MapKept.run_getObj_map hb, lawK.check W _ hl, h1, hz, Result.andThen]
  · have hm0 : e0 ∈ es.toList := List.mem_of_getElem? h2
    have hm := he.mem_iff.1 (List.mem_map.2 ⟨e0, hm0, rfl⟩)
    obtain ⟨r, hr, hre⟩ := List.mem_map.1 hm
    simp only [Prod.mk.injEq] at hre
    rw [h3] at hre
    have e1 : r.k = k := by simpa using hre.1
    have hlk := lookK_mem (entK_nodup he ((stamped_iff es clock).1 hs).2.2) hr
    rw [e1] at hlk
    rw [hlk]
    simp only [Option.getD_some, Option.isSome_some]
    rw [hre.2]
    simp [Instr.lookup, run_underlying Tryz.underlying129, MapKept.run_getObj_map hb, lawK.check W _ hl, h1, Result.andThen]
/-- 'm[key] = row', of a key that is not there. -/
theorem KMap.add {W : World} {b : Nat} {L : List MRow} (h : KMap W b L) (r : MRow) (hk : I64 r.k) (hn : ∀ s ∈ L, ¬ s.k = r.k) :
    ∃ W', (Instr.mapUpdate 129 (.map (some b)) (.int .i64 r.k) (rowV r)).run Tryz.prog W = .ok () W' ∧ KMap W' b (r :: L) ∧ Turned W W' b := by
  obtain ⟨es, clock, hb, hs, he, hw⟩ := h
  have hl := key_ofK hk
  rcases lawK.find W hl es.toList (entK_keys he hw) with ⟨h1, h2⟩ | ⟨j, e0, h1, h2, h3⟩
  · refine ⟨setBlock W b (.map (es.push ⟨.int .i64 r.k, rowV r, clock⟩) (clock + 1)), ?_, ⟨_, _, heap_setBlock_same hb _, stamped_push hs h2, ?_, ?_⟩, ⟨es, clock, _, _, hb, rfl⟩⟩
    · simp [Instr.mapUpdate, run_underlying Tryz.underlying129, MapKept.run_getObj_map hb, lawK.check W false hl, h1, MapKept.run_setObj_map _ hb, Result.andThen, setBlock]
    · unfold EntK
      rw [Array.toList_push, List.map_append, List.map_singleton, List.map_cons]
      exact (List.perm_append_singleton _ _).trans (List.Perm.cons _ he)
    · intro s hs
      rcases List.mem_cons.1 hs with e | hs
      · subst e; exact hk
      · exact hw s hs
  · exfalso
    have hm0 : e0 ∈ es.toList := List.mem_of_getElem? h2
    have hm := he.mem_iff.1 (List.mem_map.2 ⟨e0, hm0, rfl⟩)
    obtain ⟨s, hs, hse⟩ := List.mem_map.1 hm
    simp only [Prod.mk.injEq] at hse
    rw [h3] at hse
    have e1 : s.k = r.k := by simpa using hse.1
    exact hn s hs e1
theorem kMap_new (W : World) : KMap (W.alloc (.map #[] 0)) W.heap.size [] := ⟨#[], 0, (MapKept.heap_alloc W _).1, (stamped_iff _ _).2 ⟨by simp, by simp, by simp⟩, List.Perm.refl _, by simp⟩

section
variable {w : World} {ops : Array Oper} {rest : List Oper} {o : Oper} {a : Act} {Q : Exit → Act → World → Prop}
theorem wpList_addK (hg : o.guard = none) (m x v : Operand) (hop : o.op = Op.mapUpdate 129 m x v) (b : Nat) (L : List MRow) (r : MRow)
    (hm : a.eval m = .map (some b)) (hx : a.eval x = .int .i64 r.k) (hv : a.eval v = rowV r) (hs : KMap w b L) (hk : I64 r.k) (hn : ∀ s ∈ L, ¬ s.k = r.k)
    (hK : ∀ w', KMap w' b (r :: L) → Turned w w' b → wpList Tryz.prog ops Q rest (a.put o.dst undef) w') : wpList Tryz.prog ops Q (o :: rest) a w := by
  refine wpList_plain hg fun K' hK' => ?_
  obtain ⟨w', hrun, r1, r2⟩ := hs.add r hk hn
  unfold Oper.wp
  simp [execOp, hop, hm, hx, hv, hrun, Result.andThen]
  exact hK' _ _ (hK w' r1 r2)
end

set_option maxRecDepth 100000 in
set_option maxHeartbeats 4000000 in
/-- byKey's step. -/
theorem keyStep_any {W : World} {mb tb : Nat} {F : List MRow} {t : Int} (hM : KMap W mb F) (ht : W.cell? ⟨tb, 0, none⟩ = some (.int .i64 t)) (r : MRow) (hr : I64 r.k) :
    Calls Tryz.prog 113 #[.map (some mb), rowV r, ptr tb] W fun e w' => e = .returned (.map (some mb)) ∧ KMap w' mb (keyS t F r) ∧ Kept (fun k => k = mb) W w' := by
  have HM := Lib.hid hM
  have hlt : tb < W.heap.size := World.block_lt_of_cell? W _ ht
  have htn : ¬ tb = W.heap.size := by omega
  have htn1 : ¬ tb = W.heap.size + 1 := by omega
  have hml := hM.lt
  obtain ⟨ok, Hok⟩ : ∃ x, Hid ((lookK F r.k).isSome = x) := ⟨_, Lib.hid rfl⟩
  obtain ⟨⟨ft, fk, ⟨fa, fb, fc⟩⟩, Hf⟩ : ∃ x, Hid ((lookK F r.k).getD rowZ = x) := ⟨_, Lib.hid rfl⟩
  have hl : ∀ o, (Instr.lookup 129 (.map (some mb)) (.int .i64 r.k) true).run Tryz.prog (W.alloc o) = .ok (.tuple #[rowV ⟨ft, fk, ⟨fa, fb, fc⟩⟩, .bool ok]) (W.alloc o) := fun o => by
    rw [(HM.out.below (ba W o)).look hr, Hf.out, Hok.out]
  have Hk := Lib.hid hr
  obtain ⟨rt, rk, ⟨ra, rb, rc⟩⟩ := r
  have HKS : Hid (keyS t F ⟨rt, rk, ⟨ra, rb, rc⟩⟩ = if rt = t ∧ ok = false then ⟨rt, rk, ⟨ra, rb, rc⟩⟩ :: F else F) := Lib.hid (by
    unfold keyS
    have h := Hok.out
    cases h0 : lookK F rk with
    | none => rw [h0] at h; simp at h; simp [h0, ← h]
    | some x => rw [h0] at h; simp at h; simp [h0, ← h])
  rw [HKS.out]
  unfold rowV at hl ⊢
  simp only at hl
  clear hM hr
  have d3 : Below W.heap.size W (W.alloc (.cells #[.int .i64 rt, .int .i64 rk, .int .i64 ra, .int .i64 rb, .int .i64 rc] 57)) := ba W _
  have HBB : Hid (∀ o o', Below W.heap.size W ((W.alloc o).alloc o')) := Lib.hid (fun o o' => bt (ba W o) (ba _ o'))
  clear d3
  by_cases h1 : rt = t
  · have g1 : (rt == t) = true := by simp [h1]
    cases ok
    · have HE : Hid ((if rt = t ∧ false = false then ⟨rt, rk, ⟨ra, rb, rc⟩⟩ :: F else F) = (⟨rt, rk, ⟨ra, rb, rc⟩⟩ :: F : List MRow)) := Lib.hid (if_pos ⟨h1, rfl⟩)
      rw [HE.out]
      have HNo : Hid (∀ s ∈ F, ¬ s.k = rk) := Lib.hid (lookK_none.1 (by
        have h := Hok.out
        simp only at h
        simpa using h))
      clear h1 HE HKS
      go_enter Tryz.func113, Tryz.ntmps113
      go_wp2_with (refine wpList_addK rfl _ _ _ rfl mb F ⟨rt, rk, ⟨ra, rb, rc⟩⟩ rfl rfl rfl (HM.out.below (HBB.out _ _)) Hk.out HNo.out ?_; intro w3 hK3 hT3)
      go_wp2_with fail
      go_ret
      exact ⟨rfl, hK3, (Kept.of_below (F := fun k => k = mb) (HBB.out _ _)).trans hT3.kept (fun _ _ f => f)⟩
    · have HE : Hid ((if rt = t ∧ true = false then ⟨rt, rk, ⟨ra, rb, rc⟩⟩ :: F else F) = F) := Lib.hid (if_neg (fun e => by simp at e))
      rw [HE.out]
      clear h1 HE HKS
      go_enter Tryz.func113, Tryz.ntmps113
      go_wp2_with fail
      go_ret
      exact ⟨rfl, HM.out.below (HBB.out _ _), Kept.of_below (HBB.out _ _)⟩
  · have g1 : (rt == t) = false := by simp [h1]
    have HE : Hid ((if rt = t ∧ ok = false then ⟨rt, rk, ⟨ra, rb, rc⟩⟩ :: F else F) = F) := Lib.hid (if_neg (fun e => h1 e.1))
    rw [HE.out]
    clear h1 HE HKS
    go_enter Tryz.func113, Tryz.ntmps113
    go_wp2_with fail
    go_ret
    exact ⟨rfl, HM.out.below (HBB.out _ _), Kept.of_below (HBB.out _ _)⟩
end Go.Proofs.YtgbnjjgnihjfgaaGreat
end

section
set_option linter.unusedVariables false
set_option linter.unusedSimpArgs false
namespace Go.Proofs.YtgbnjjgnihjfgaaGreat
open Go.RowKit Go.Sort Go.ChangeMaps Go.MapKept

theorem eg60 : ∀ args w, (callFunc 72 args).run Tryz.prog w = .ok (.enter 72 args) w := enters_of Tryz.func72 (by kernel_rfl) rfl
theorem eg62 : ∀ args w, (callFunc 74 args).run Tryz.prog w = .ok (.enter 74 args) w := enters_of Tryz.func74 (by kernel_rfl) rfl
theorem eg63 : ∀ args w, (callFunc 75 args).run Tryz.prog w = .ok (.enter 75 args) w := enters_of Tryz.func75 (by kernel_rfl) rfl
theorem eg102 : ∀ args w, (callFunc 109 args).run Tryz.prog w = .ok (.enter 109 args) w := enters_of Tryz.func109 (by kernel_rfl) rfl
theorem eg104 : ∀ args w, (callFunc 111 args).run Tryz.prog w = .ok (.enter 111 args) w := enters_of Tryz.func111 (by kernel_rfl) rfl
theorem eg106 : ∀ args w, (callFunc 113 args).run Tryz.prog w = .ok (.enter 113 args) w := enters_of Tryz.func113 (by kernel_rfl) rfl

theorem sum_any {W : World} {va : Value} {L : List MRow} {y : Int} {mb qb : Nat} (hy : I64 y) (hm : W.cell? ⟨mb, 0, none⟩ = some (fnV 69 #[ptr qb])) (hq : W.cell? ⟨qb, 5, none⟩ = some (.int .i64 y)) (hR : RowS W va L) :
    Calls Tryz.prog 71 #[va, .int .i64 0, fnV 72 #[ptr mb]] W fun e w' => e = .returned (.int .i64 (sumM y L)) ∧ Below W.heap.size W w' := by
  have hlm : mb < W.heap.size := World.block_lt_of_cell? W _ hm
  have hlq : qb < W.heap.size := World.block_lt_of_cell? W _ hq
  refine (fold59 (va := va) (L := L) (I := fun k v w => v = .int .i64 (sumM y (L.take k)) ∧ Below W.heap.size W w) eg60 ⟨fun k v w w' h hb => ⟨h.1, bt h.2 hb⟩, fun k v w h => hR.below h.2, fun k v w hk h => ?_⟩ ⟨rfl, Below.refl _ _⟩).mono ?_
  · obtain ⟨rfl, hb⟩ := h
    refine (sumStep_any _ (L.getD k rowZ) y mb qb w hy ((hb.cell (p := ⟨mb, 0, none⟩) hlm).trans hm) ((hb.cell (p := ⟨qb, 5, none⟩) hlq).trans hq)).mono fun e w' hw => ?_
    refine ⟨_, hw.1, ?_, bt hb hw.2⟩
    unfold sumM
    rw [foldl_take _ _ _ hk]
  · rintro e w' ⟨v, rfl, h1, h2⟩
    exact ⟨by rw [h1, List.take_length], h2⟩

set_option maxRecDepth 100000 in
set_option maxHeartbeats 2000000 in
theorem extreme_any (lt : Int → Int → Bool) (g : FuncId) (eg : ∀ args w, (callFunc g args).run Tryz.prog w = .ok (.enter g args) w) (hg : ∀ a b w, Calls Tryz.prog g #[.int .i64 a, .int .i64 b] w fun e w' => e = .returned (.bool (lt a b)) ∧ w = w')
    {W : World} {va : Value} {L : List MRow} {y : Int} {qb : Nat} (hy : I64 y) (hq : W.cell? ⟨qb, 5, none⟩ = some (.int .i64 y)) (hR : RowS W va L) :
    Calls Tryz.prog 73 #[va, fnV 69 #[ptr qb], fnV g #[]] W fun e w' => e = .returned (resV (.slice none 0 0) (extF lt y L).1 (extF lt y L).2) ∧ Below W.heap.size W w' := by
  have hlq : qb < W.heap.size := World.block_lt_of_cell? W _ hq
  have HR := Lib.hid hR
  obtain ⟨a, n, cap, rfl, -, -, -, -⟩ := hR
  have hWn : W.heap.size ≤ W.heap.size + 1 + 1 := by omega
  have HC : Hid (∀ w1, Below W.heap.size W w1 → w1.cell? ⟨W.heap.size, 0, none⟩ = some (fnV 69 #[ptr qb]) → w1.cell? ⟨W.heap.size + 1, 0, none⟩ = some (fnV g #[]) → Calls Tryz.prog 108 #[.slice a n cap, resV (.slice none 0 0) 0 false, fnV 109 #[ptr W.heap.size, ptr (W.heap.size + 1)]] w1 fun e w' => e = .returned (resV (.slice none 0 0) (extF lt y L).1 (extF lt y L).2) ∧ Below w1.heap.size w1 w') := Lib.hid (fun w1 hb h1 h2 => by
    have l1 : W.heap.size < w1.heap.size := World.block_lt_of_cell? w1 _ h1
    have l2 : W.heap.size + 1 < w1.heap.size := World.block_lt_of_cell? w1 _ h2
    exact fold101 (extS lt y) eg102 (HR.out.below hb) (fun s r w hw => exStep_any lt g eg hg s r y W.heap.size (W.heap.size + 1) qb w hy ((hw.cell (p := ⟨W.heap.size, 0, none⟩) l1).trans h1) ((hw.cell (p := ⟨W.heap.size + 1, 0, none⟩) l2).trans h2) (((bt hb hw).cell (p := ⟨qb, 5, none⟩) hlq).trans hq)))
  obtain ⟨⟨rv, rf⟩, Hrv⟩ : ∃ x, Hid (extF lt y L = x) := ⟨_, Lib.hid rfl⟩
  rw [Hrv.out] at HC ⊢
  clear hq hy hg
  unfold ptr fnV at *
  go_enter Tryz.func73, Tryz.ntmps73
  go_upto_region 1 with fail
  generalize hw3 : ((W.alloc (.cells #[.func (.func 69) #[] #[.pointer (some ⟨qb, 0, none⟩)]] 123)).alloc (.cells #[.func (.func g) #[] #[]] 127)).alloc (.cells #[.slice none 0 0, .int .i64 0, .bool false] 34) = w3
  have HB3 : Hid (Below W.heap.size W w3) := Lib.hid (by rw [← hw3]; exact bt (bt (ba W _) (ba _ _)) (ba _ _))
  have HY3 : Hid (w3.heap[W.heap.size + 1 + 1]? = some (.cells (resC (.slice none 0 0) 0 false) 34 (0, 0))) := Lib.hid (by
    rw [← hw3]
    have h := heap_alloc_new ((W.alloc (.cells #[.func (.func 69) #[] #[.pointer (some ⟨qb, 0, none⟩)]] 123)).alloc (.cells #[.func (.func g) #[] #[]] 127)) (.cells #[.slice none 0 0, .int .i64 0, .bool false] 34)
    simpa using h)
  have z1 : w3.cell? ⟨W.heap.size, 0, none⟩ = some (.func (.func 69) #[] #[.pointer (some ⟨qb, 0, none⟩)]) := by rw [← hw3]; simp [go_sem]
  have z2 : w3.cell? ⟨W.heap.size + 1, 0, none⟩ = some (.func (.func g) #[] #[]) := by rw [← hw3]; simp [go_sem]
  have HC3 := Lib.hid (HC.out w3 HB3.out z1 z2)
  clear hw3 z1 z2
  go_wp2_with fail
  refine HC3.out.mono ?_
  rintro e w4 ⟨rfl, hb⟩
  have HB4 := Lib.hid (bt HB3.out hb)
  have HY4 := Lib.hid ((hb.block _ (lt_of_block HY3.out)).trans HY3.out)
  have f0 : ∀ j, w4.frozen? ⟨W.heap.size + 1 + 1, j, none⟩ = false := fun j => by simp [World.frozen?, HY4.out]
  have x0 : w4.cell? ⟨W.heap.size + 1 + 1, 0, none⟩ = some (.slice none 0 0) := by simp [World.cell?, HY4.out]
  have x1 : w4.cell? ⟨W.heap.size + 1 + 1, 1, none⟩ = some (.int .i64 0) := by simp [World.cell?, HY4.out]
  have x2 : w4.cell? ⟨W.heap.size + 1 + 1, 2, none⟩ = some (.bool false) := by simp [World.cell?, HY4.out]
  have HBn : Hid (∀ x0 x1 x2, Below W.heap.size W (((w4.setCell ⟨W.heap.size + 1 + 1, 0, none⟩ x0).setCell ⟨W.heap.size + 1 + 1, 1, none⟩ x1).setCell ⟨W.heap.size + 1 + 1, 2, none⟩ x2)) := Lib.hid (fun x0 x1 x2 => below_setCell (below_setCell (below_setCell HB4.out hWn _) hWn _) hWn _)
  clear hb
  go_wp2_with fail
  refine bodyPost_ret (v := resV (.slice none 0 0) rv rf) (results_cell_row rfl _ _ (W.heap.size + 1 + 1) 34 _ (0, 0) _ rfl (set3_heap HY4.out) Tryz.underlying34 rfl (by kernel_rfl)) rfl ⟨rfl, HBn.out _ _ _⟩

set_option maxRecDepth 100000 in
set_option maxHeartbeats 2000000 in
theorem byKey_any {W : World} {va : Value} {L : List MRow} {t : Int} (hR : RowS W va L) (hk : ∀ r ∈ L, I64 r.k) :
    Calls Tryz.prog 77 #[va, .int .i64 t] W fun e w' => ∃ mb, e = .returned (.map (some mb)) ∧ KMap w' mb (L.foldl (keyS t) []) ∧ Below W.heap.size W w' := by
  have HR := Lib.hid hR
  obtain ⟨a, n, cap, rfl, -, -, -, -⟩ := hR
  have hmk := fun w => run_makeMap (P := Tryz.prog) 129 w
  have HC : Hid (∀ w1, Below W.heap.size W w1 → w1.cell? ⟨W.heap.size, 0, none⟩ = some (.int .i64 t) → KMap w1 (W.heap.size + 1) [] → Calls Tryz.prog 112 #[.slice a n cap, .map (some (W.heap.size + 1)), .func (.func 113) #[] #[.pointer (some ⟨W.heap.size, 0, none⟩)]] w1 fun e w' => e = .returned (.map (some (W.heap.size + 1))) ∧ KMap w' (W.heap.size + 1) (L.foldl (keyS t) []) ∧ Below W.heap.size W w') := Lib.hid (fun w1 hb h1 h2 => by
    have hl1 : W.heap.size < w1.heap.size := World.block_lt_of_cell? w1 _ h1
    refine (fold105 (va := .slice a n cap) (L := L) (I := fun k v w => v = .map (some (W.heap.size + 1)) ∧ KMap w (W.heap.size + 1) ((L.take k).foldl (keyS t) []) ∧ Below W.heap.size W w ∧ w.cell? ⟨W.heap.size, 0, none⟩ = some (.int .i64 t)) eg106
      ⟨fun k v w w' h hb' => ⟨h.1, h.2.1.below hb', bt h.2.2.1 hb', (hb'.cell (p := ⟨W.heap.size, 0, none⟩) (World.block_lt_of_cell? w _ h.2.2.2)).trans h.2.2.2⟩, fun k v w h => HR.out.below h.2.2.1, fun k v w hkl h => ?_⟩ ⟨rfl, h2, hb, h1⟩).mono ?_
    · obtain ⟨rfl, hM, hB, hc⟩ := h
      have hlw := World.block_lt_of_cell? w _ hc
      simp only at hlw
      refine (keyStep_any hM hc (L.getD k rowZ) (hk _ (by rw [List.getD_eq_getElem?_getD, List.getElem?_eq_getElem hkl]; exact List.getElem_mem hkl))).mono fun e w' hw => ?_
      refine ⟨_, hw.1, rfl, ?_, hB.trans (hw.2.2.below hB.size (fun k e => by omega)), (hw.2.2.cell (p := ⟨W.heap.size, 0, none⟩) hlw (by simp)).trans hc⟩
      rw [foldl_take _ _ _ hkl]
      exact hw.2.1
    · rintro e w' ⟨v, rfl, h3, h4, h5, _⟩
      exact ⟨by rw [h3], by rw [List.take_length] at h4; exact h4, h5⟩)
  clear hk
  go_enter Tryz.func77, Tryz.ntmps77
  go_wp2_with fail
  refine (HC.out _ (bt (ba W _) (ba _ _)) (by simp [go_sem]) (by
    have h := kMap_new (W.alloc (.cells #[.int .i64 t] 3))
    simpa using h)).mono ?_
  rintro e w4 ⟨rfl, hK, hb⟩
  have HK := Lib.hid hK
  have HB := Lib.hid hb
  clear hK hb
  go_wp2_with fail
  go_ret
  exact ⟨_, rfl, HK.out, HB.out⟩
end Go.Proofs.YtgbnjjgnihjfgaaGreat
end

section
set_option linter.unusedVariables false
set_option linter.unusedSimpArgs false
namespace Go.Proofs.YtgbnjjgnihjfgaaGreat
open Go.RowKit Go.Sort Go.ChangeMaps Go.MapKept

/-- A row's pair, if its measure is the key of a partner. -/
def pairR (F : List MRow) (y : Int) (r : MRow) : List MRow := match lookK F (vget r y) with | some p => [r, p] | none => []
theorem rowX_two {w : World} {b : Nat} {r p : MRow} {t : TypeId} (h : w.heap[b]? = some (.cells #[.int .i64 r.t, .int .i64 r.k, .int .i64 r.v.a, .int .i64 r.v.b, .int .i64 r.v.c, .int .i64 p.t, .int .i64 p.k, .int .i64 p.v.a, .int .i64 p.v.b, .int .i64 p.v.c] t (0, 0))) :
    RowX w (.slice (some ⟨b, 0, none⟩) 2 2) [r, p] :=
  .inr ⟨b, 0, 2, 2, rfl, rfl, fun i hi j hj => by
    obtain rfl | rfl : i = 0 ∨ i = 1 := by omega
    · match j, hj with
      | 0, _ => simp [World.cell?, h, rcl]
      | 1, _ => simp [World.cell?, h, rcl]
      | 2, _ => simp [World.cell?, h, rcl]
      | 3, _ => simp [World.cell?, h, rcl]
      | 4, _ => simp [World.cell?, h, rcl]
    · match j, hj with
      | 0, _ => simp [World.cell?, h, rcl]
      | 1, _ => simp [World.cell?, h, rcl]
      | 2, _ => simp [World.cell?, h, rcl]
      | 3, _ => simp [World.cell?, h, rcl]
      | 4, _ => simp [World.cell?, h, rcl]⟩

theorem OwnR.own_lt {W : World} {base : Nat} {v : Value} {M : List MRow} (h : OwnR W base v M) {k : Nat} (e : v.ownBlock = some k) : k < W.heap.size := by
  obtain ⟨_, h⟩ := h
  rcases h with ⟨rfl, _⟩ | ⟨g, cap, cur, rfl, hg, hb, r⟩
  · simp [Value.ownBlock] at e
  · simp [Value.ownBlock] at e
    subst e
    exact lt_of_block hb
theorem OwnR.form {W : World} {base : Nat} {v : Value} {M : List MRow} (h : OwnR W base v M) : ∃ a n c, v = .slice a n c := by
  obtain ⟨_, h⟩ := h
  rcases h with ⟨rfl, _⟩ | ⟨g, cap, cur, rfl, _⟩
  · exact ⟨_, _, _, rfl⟩
  · exact ⟨_, _, _, rfl⟩

set_option maxRecDepth 100000 in
set_option maxHeartbeats 4000000 in
theorem pairStep_any {W : World} {base : Nat} {v : Value} {M F : List MRow} {y : Int} {pb cb qb mb : Nat} (hO : OwnR W base v M) (hM : KMap W mb F) (hp : W.cell? ⟨pb, 0, none⟩ = some (.map (some mb))) (hc : W.cell? ⟨cb, 0, none⟩ = some (fnV 69 #[ptr qb]))
    (hq : W.cell? ⟨qb, 5, none⟩ = some (.int .i64 y)) (hy : I64 y) (r : MRow) (hr : I64 (vget r y)) (hl : M.length + 2 ≤ 100000) (hbase : base ≤ W.heap.size) :
    Calls Tryz.prog 111 #[v, rowV r, ptr pb, ptr cb] W fun e w' => ∃ v', e = .returned v' ∧ OwnR w' base v' (M ++ pairR F y r) ∧ Kept (fun k => v.ownBlock = some k) W w' := by
  have HO := Lib.hid hO
  have HM := Lib.hid hM
  obtain ⟨va, vn, vc, rfl⟩ := hO.form
  have hlp : pb < W.heap.size := World.block_lt_of_cell? W _ hp
  have hlc : cb < W.heap.size := World.block_lt_of_cell? W _ hc
  have hlq : qb < W.heap.size := World.block_lt_of_cell? W _ hq
  have HMs := Lib.hid (fun w (h : Below W.heap.size W w) => measure_any r y qb w hy ((h.cell (p := ⟨qb, 5, none⟩) hlq).trans hq))
  obtain ⟨m, Hm⟩ : ∃ x, Hid (vget r y = x) := ⟨_, Lib.hid rfl⟩
  rw [Hm.out] at hr
  have Hr := Lib.hid hr
  obtain ⟨ok, Hok⟩ : ∃ x, Hid ((lookK F m).isSome = x) := ⟨_, Lib.hid rfl⟩
  obtain ⟨⟨ft, fk, ⟨fa, fb, fc⟩⟩, Hf⟩ : ∃ x, Hid ((lookK F m).getD rowZ = x) := ⟨_, Lib.hid rfl⟩
  obtain ⟨rt, rk, ⟨ra, rb, rc⟩⟩ := r
  have HP : Hid (pairR F y ⟨rt, rk, ⟨ra, rb, rc⟩⟩ = if ok then [⟨rt, rk, ⟨ra, rb, rc⟩⟩, ⟨ft, fk, ⟨fa, fb, fc⟩⟩] else []) := Lib.hid (by
    unfold pairR
    rw [Hm.out]
    have h := Hok.out
    have h2 := Hf.out
    cases h0 : lookK F m with
    | none => rw [h0] at h; simp at h; simp [← h]
    | some x => rw [h0] at h h2; simp at h h2; simp [← h, h2])
  rw [HP.out]
  simp only [Hm.out] at HMs
  unfold rowV at HMs ⊢
  unfold ptr fnV at *
  have eg := eg58
  have Hbase := Lib.hid hbase
  clear hO hM hq hy hr HP hbase
  go_enter Tryz.func111, Tryz.ntmps111
  go_upto_region 1 with fail
  obtain ⟨wb, Hwb⟩ : ∃ wb, Hid (W.alloc (.cells #[.int .i64 rt, .int .i64 rk, .int .i64 ra, .int .i64 rb, .int .i64 rc] 57) = wb) := ⟨_, Lib.hid rfl⟩
  rw [Hwb.out]
  have HBb : Hid (Below W.heap.size W wb) := Lib.hid (by rw [← Hwb.out]; exact ba _ _)
  have HXb : Hid (wb.heap[W.heap.size]? = some (.cells #[.int .i64 rt, .int .i64 rk, .int .i64 ra, .int .i64 rb, .int .i64 rc] 57 (0, 0))) := Lib.hid (by rw [← Hwb.out]; exact heap_alloc_new W _)
  have hzb : W.heap.size < wb.heap.size := lt_of_block HXb.out
  have HG : Hid (∀ w0, BW wb w0 → ∀ d os, Below W.heap.size W (grow (redrawn w0 d) os) ∧ (grow (redrawn w0 d) os).heap[W.heap.size]? = some (.cells #[.int .i64 rt, .int .i64 rk, .int .i64 ra, .int .i64 rb, .int .i64 rc] 57 (0, 0))) := Lib.hid (fun w0 h d os => by
    have h2 : Below wb.heap.size wb (grow (redrawn w0 d) os) := bt h (below_regrown w0 d os)
    exact ⟨bt HBb.out h2, (h2.block _ hzb).trans HXb.out⟩)
  have g0 : ∀ w0, BW wb w0 → ∀ d os, (grow (redrawn w0 d) os).cell? ⟨W.heap.size, 0, none⟩ = some (.int .i64 rt) := fun w0 h d os => by simp [World.cell?, (HG.out w0 h d os).2]
  have g1 : ∀ w0, BW wb w0 → ∀ d os, (grow (redrawn w0 d) os).cell? ⟨W.heap.size, 1, none⟩ = some (.int .i64 rk) := fun w0 h d os => by simp [World.cell?, (HG.out w0 h d os).2]
  have g2 : ∀ w0, BW wb w0 → ∀ d os, (grow (redrawn w0 d) os).cell? ⟨W.heap.size, 2, none⟩ = some (.int .i64 ra) := fun w0 h d os => by simp [World.cell?, (HG.out w0 h d os).2]
  have g3 : ∀ w0, BW wb w0 → ∀ d os, (grow (redrawn w0 d) os).cell? ⟨W.heap.size, 3, none⟩ = some (.int .i64 rb) := fun w0 h d os => by simp [World.cell?, (HG.out w0 h d os).2]
  have g4 : ∀ w0, BW wb w0 → ∀ d os, (grow (redrawn w0 d) os).cell? ⟨W.heap.size, 4, none⟩ = some (.int .i64 rc) := fun w0 h d os => by simp [World.cell?, (HG.out w0 h d os).2]
  have gp : ∀ w0, BW wb w0 → ∀ d os, (grow (redrawn w0 d) os).cell? ⟨pb, 0, none⟩ = some (.map (some mb)) := fun w0 h d os => ((HG.out w0 h d os).1.cell (p := ⟨pb, 0, none⟩) hlp).trans hp
  have gc : ∀ w0, BW wb w0 → ∀ d os, (grow (redrawn w0 d) os).cell? ⟨cb, 0, none⟩ = some (.func (.func 69) #[] #[.pointer (some ⟨qb, 0, none⟩)]) := fun w0 h d os => ((HG.out w0 h d os).1.cell (p := ⟨cb, 0, none⟩) hlc).trans hc
  have gl : ∀ w0, BW wb w0 → ∀ d os, (Instr.lookup 129 (.map (some mb)) (.int .i64 m) true).run Tryz.prog (grow (redrawn w0 d) os) = .ok (.tuple #[.agg #[.int .i64 ft, .int .i64 fk, .int .i64 fa, .int .i64 fb, .int .i64 fc], .bool ok]) (grow (redrawn w0 d) os) := fun w0 h d os => by
    have hl := (HM.out.below (HG.out w0 h d os).1).look Hr.out
    rw [Hf.out, Hok.out] at hl
    exact hl
  clear hp hc
  refine wp_region_calm1 9 7 8 [0, 1, 2, 3, 4, 5, 6, 7] (obj := .cells #[.int .i64 0, .int .i64 0, .int .i64 0, .int .i64 0, .int .i64 0] 57 (0, 0)) (by kernel_rfl) (by kernel_rfl) (by rintro _ ⟨rfl⟩; exact worldless_extract _ _ rfl) (by rintro _ ⟨rfl⟩ _ _ _ _ h; exact h) (by rfl) (by rfl) (fun a w => by kernel_rfl) ?_
  simp only [List.take_succ_cons, List.take_zero, List.eraseIdx_cons_succ, List.eraseIdx_cons_zero]
  iterate 3
    apply wpCalm_want
    · rfl
    · exact bc_refl
    · exact ⟨_, Below.refl _ _⟩
    · intro w0 hC0 K hK
      go_big_quiet_op
      exact hK
  apply wpCalm_want
  · rfl
  · exact bc_refl
  · exact ⟨_, Below.refl _ _⟩
  · intro w0 hC0 K hK
    go_big_quiet_op
    apply Exists.intro
    refine ⟨fun p => ?_, ?_⟩
    · exact Calls.regrown_of (HMs.out _ (HG.out w0 hC0 p.d p.os).1)
    · exact hK
  iterate 4
    apply wpCalm_want
    · rfl
    · exact bc_refl
    · exact ⟨_, Below.refl _ _⟩
    · intro w0 hC0 K hK
      go_big_quiet_op
      exact hK
  refine wpCalm_nil ?_
  intro yb wc hbc hyb hblk
  simp only [List.drop_succ_cons, List.drop_zero]
  go_frame
  refine wpList_store_row rfl 57 _ _ rfl yb #[.int .i64 ft, .int .i64 fk, .int .i64 fa, .int .i64 fb, .int .i64 fc] rfl rfl 57 _ hblk (by kernel_rfl) rfl (by simp [Value.oneCell']) ?_
  go_frame
  have Hyd : Hid ((wc.setRow yb #[.int .i64 ft, .int .i64 fk, .int .i64 fa, .int .i64 fb, .int .i64 fc]).heap[yb]? = some (.cells #[.int .i64 ft, .int .i64 fk, .int .i64 fa, .int .i64 fb, .int .i64 fc] 57 (0, 0))) := Lib.hid (setRow_heap _ _ _ _ _ _ hblk)
  have HBd : Hid (Below wb.heap.size wb (wc.setRow yb #[.int .i64 ft, .int .i64 fk, .int .i64 fa, .int .i64 fb, .int .i64 fc])) := Lib.hid (below_row hbc hyb _)
  obtain ⟨wd, Hwd⟩ : ∃ wd, Hid (wc.setRow yb #[.int .i64 ft, .int .i64 fk, .int .i64 fa, .int .i64 fb, .int .i64 fc] = wd) := ⟨_, Lib.hid rfl⟩
  rw [Hwd.out] at Hyd HBd ⊢
  have HXd : Hid (wd.heap[W.heap.size]? = some (.cells #[.int .i64 rt, .int .i64 rk, .int .i64 ra, .int .i64 rb, .int .i64 rc] 57 (0, 0))) := Lib.hid ((HBd.out.block _ hzb).trans HXb.out)
  have HBW : Hid (Below W.heap.size W wd) := Lib.hid (bt HBb.out HBd.out)
  clear g0 g1 g2 g3 g4 gp gc gl hblk hbc hyb Hwd HG HMs HM
  cases ok
  · have HOe : Hid (OwnR wd base (.slice va vn vc) (M ++ (if false = true then [⟨rt, rk, ⟨ra, rb, rc⟩⟩, ⟨ft, fk, ⟨fa, fb, fc⟩⟩] else []))) := Lib.hid (by simpa using HO.out.below HBW.out)
    go_wp2_with fail
    go_ret
    exact ⟨.slice va vn vc, rfl, by simpa using HOe.out, Kept.of_below HBW.out⟩
  · have y0 : wd.cell? ⟨W.heap.size, 0, none⟩ = some (.int .i64 rt) := by simp [World.cell?, HXd.out]
    have y1 : wd.cell? ⟨W.heap.size, 1, none⟩ = some (.int .i64 rk) := by simp [World.cell?, HXd.out]
    have y2 : wd.cell? ⟨W.heap.size, 2, none⟩ = some (.int .i64 ra) := by simp [World.cell?, HXd.out]
    have y3 : wd.cell? ⟨W.heap.size, 3, none⟩ = some (.int .i64 rb) := by simp [World.cell?, HXd.out]
    have y4 : wd.cell? ⟨W.heap.size, 4, none⟩ = some (.int .i64 rc) := by simp [World.cell?, HXd.out]
    have z0 : wd.cell? ⟨yb, 0, none⟩ = some (.int .i64 ft) := by simp [World.cell?, Hyd.out]
    have z1 : wd.cell? ⟨yb, 1, none⟩ = some (.int .i64 fk) := by simp [World.cell?, Hyd.out]
    have z2 : wd.cell? ⟨yb, 2, none⟩ = some (.int .i64 fa) := by simp [World.cell?, Hyd.out]
    have z3 : wd.cell? ⟨yb, 3, none⟩ = some (.int .i64 fb) := by simp [World.cell?, Hyd.out]
    have z4 : wd.cell? ⟨yb, 4, none⟩ = some (.int .i64 fc) := by simp [World.cell?, Hyd.out]
    have HOd := Lib.hid (HO.out.below HBW.out)
    have HTwo : Hid (∀ w, w = wd.alloc (.cells #[.int .i64 rt, .int .i64 rk, .int .i64 ra, .int .i64 rb, .int .i64 rc, .int .i64 ft, .int .i64 fk, .int .i64 fa, .int .i64 fb, .int .i64 fc] 57) → RowX w (.slice (some ⟨wd.heap.size, 0, none⟩) 2 2) [⟨rt, rk, ⟨ra, rb, rc⟩⟩, ⟨ft, fk, ⟨fa, fb, fc⟩⟩]) := Lib.hid (fun w e => by
      subst e
      exact rowX_two (r := ⟨rt, rk, ⟨ra, rb, rc⟩⟩) (p := ⟨ft, fk, ⟨fa, fb, fc⟩⟩) (heap_alloc_new wd _))
    go_wp2_with (at_builtin; refine wpList_append_rows rfl (.tmp 18) (.tmp 21) rfl base (.slice va vn vc) _ M [⟨rt, rk, ⟨ra, rb, rc⟩⟩, ⟨ft, fk, ⟨fa, fb, fc⟩⟩] rfl rfl (HOd.out.below (ba wd _)) (HTwo.out _ rfl) (by simpa using hl) (by have := Hbase.out; have := HBW.out.size; simp; omega) ?_; intro v2 w7 ho2 hg2; have HO2 := Lib.hid ho2; have HG2 := Lib.hid hg2; clear ho2 hg2)
    go_wp2_with fail
    go_ret
    exact ⟨_, rfl, HO2.out, ((Kept.of_below HBW.out).trans (Kept.of_below (ba wd _)) (fun _ _ f => f)).trans (kept_grown HG2.out) (fun _ _ f => f)⟩
end Go.Proofs.YtgbnjjgnihjfgaaGreat
end

section
set_option linter.unusedVariables false
set_option linter.unusedSimpArgs false
namespace Go.Proofs.YtgbnjjgnihjfgaaGreat
open Go.RowKit Go.Sort Go.ChangeMaps Go.MapKept

theorem pairR_len (F : List MRow) (y : Int) (L : List MRow) : (L.flatMap (pairR F y)).length ≤ 2 * L.length := by
  induction L with
  | nil => simp
  | cons r L ih =>
    rw [List.flatMap_cons, List.length_append, List.length_cons]
    have : (pairR F y r).length ≤ 2 := by unfold pairR; split <;> simp
    omega
theorem flatMap_take (f : MRow → List MRow) (M : List MRow) {k : Nat} (hk : k < M.length) : (M.take (k + 1)).flatMap f = (M.take k).flatMap f ++ f (M.getD k rowZ) := by
  rw [take_snoc' (d := rowZ) hk, List.flatMap_append]
  simp

set_option maxRecDepth 100000 in
set_option maxHeartbeats 2000000 in
theorem pairs_any {W : World} {va : Value} {L F : List MRow} {y : Int} {qb mb : Nat} (hR : RowS W va L) (hM : KMap W mb F) (hq : W.cell? ⟨qb, 5, none⟩ = some (.int .i64 y)) (hy : I64 y) (hv : ∀ r ∈ L, I64 (vget r y)) (hl : L.length ≤ 40000) :
    Calls Tryz.prog 76 #[va, fnV 69 #[ptr qb], .map (some mb)] W fun e w' => ∃ v, e = .returned v ∧ OwnR w' W.heap.size v (L.flatMap (pairR F y)) ∧ Below W.heap.size W w' := by
  have HR := Lib.hid hR
  have HM := Lib.hid hM
  have hlq : qb < W.heap.size := World.block_lt_of_cell? W _ hq
  obtain ⟨a, n, cap, rfl, -, -, -, -⟩ := hR
  have HC : Hid (∀ w1, Below W.heap.size W w1 → w1.cell? ⟨W.heap.size, 0, none⟩ = some (fnV 69 #[ptr qb]) → w1.cell? ⟨W.heap.size + 1, 0, none⟩ = some (.map (some mb)) → Calls Tryz.prog 110 #[.slice a n cap, .slice none 0 0, .func (.func 111) #[] #[.pointer (some ⟨W.heap.size + 1, 0, none⟩), .pointer (some ⟨W.heap.size, 0, none⟩)]] w1 fun e w' => ∃ v, e = .returned v ∧ OwnR w' W.heap.size v (L.flatMap (pairR F y)) ∧ Below W.heap.size W w') := Lib.hid (fun w1 hb h1 h2 => by
    have hl1 : W.heap.size < w1.heap.size := World.block_lt_of_cell? w1 _ h1
    have hl2 : W.heap.size + 1 < w1.heap.size := World.block_lt_of_cell? w1 _ h2
    refine (fold103 (va := .slice a n cap) (L := L) (I := fun k v w => OwnR w (W.heap.size + 2) v ((L.take k).flatMap (pairR F y)) ∧ Below W.heap.size W w ∧ w.cell? ⟨W.heap.size, 0, none⟩ = some (fnV 69 #[ptr qb]) ∧ w.cell? ⟨W.heap.size + 1, 0, none⟩ = some (.map (some mb)) ∧ W.heap.size + 2 ≤ w.heap.size) eg104
      ⟨fun k v w w' h hb' => ⟨h.1.below hb', bt h.2.1 hb', (hb'.cell (p := ⟨W.heap.size, 0, none⟩) (World.block_lt_of_cell? w _ h.2.2.1)).trans h.2.2.1, (hb'.cell (p := ⟨W.heap.size + 1, 0, none⟩) (World.block_lt_of_cell? w _ h.2.2.2.1)).trans h.2.2.2.1, Nat.le_trans h.2.2.2.2 hb'.size⟩, fun k v w h => HR.out.below h.2.1, fun k v w hkl h => ?_⟩ ⟨OwnR.nil _ _, hb, h1, h2, by omega⟩).mono ?_
    · obtain ⟨hO, hB, c1, c2, hz⟩ := h
      have hlen := pairR_len F y (L.take k)
      rw [List.length_take] at hlen
      have hmem : L.getD k rowZ ∈ L := by
        rw [List.getD_eq_getElem?_getD, List.getElem?_eq_getElem hkl]
        exact List.getElem_mem hkl
      refine (pairStep_any hO (HM.out.below hB) c2 c1 ((hB.cell (p := ⟨qb, 5, none⟩) hlq).trans hq) hy (L.getD k rowZ) (hv _ hmem) (by omega) hz).mono fun e w' hw => ?_
      obtain ⟨v', rfl, ho, hk⟩ := hw
      have hge : ∀ i, v.ownBlock = some i → W.heap.size + 2 ≤ i := fun i e => OwnR.own_ge hO e
      refine ⟨_, rfl, by rw [flatMap_take _ _ hkl]; exact ho, hB.trans (hk.below hB.size (fun i e => by have := hge i e; omega)), (hk.cell (p := ⟨W.heap.size, 0, none⟩) (World.block_lt_of_cell? w _ c1) (fun e => by have := hge _ e; simp only at this; omega)).trans c1, (hk.cell (p := ⟨W.heap.size + 1, 0, none⟩) (World.block_lt_of_cell? w _ c2) (fun e => by have := hge _ e; simp only at this; omega)).trans c2, Nat.le_trans hz hk.size⟩
    · rintro e w' ⟨v, rfl, h3, h4, _⟩
      rw [List.take_length] at h3
      exact ⟨v, rfl, h3.mono (by omega), h4⟩)
  clear hy hv hq hM
  unfold ptr fnV at *
  go_enter Tryz.func76, Tryz.ntmps76
  go_wp2_with fail
  refine (HC.out _ (bt (ba W _) (ba _ _)) (by simp [go_sem]) (by simp [go_sem])).mono ?_
  rintro e w4 ⟨v, rfl, hO, hb⟩
  have HO := Lib.hid hO
  have HB := Lib.hid hb
  clear hO hb
  go_wp2_with fail
  go_ret
  exact ⟨v, rfl, HO.out, HB.out⟩

theorem hold {p : Prop} (h : Hid p) : p := h.out
set_option maxRecDepth 100000 in
set_option maxHeartbeats 2000000 in
theorem clone_rows {W : World} {va : Value} {L : List MRow} (hR : RowS W va L) (hl : L.length ≤ 40000) :
    Calls Tryz.prog 46 #[va] W fun e w' => ∃ v, e = .returned v ∧ OwnR w' W.heap.size v L ∧ Below W.heap.size W w' := by
  have HR := Lib.hid hR
  obtain ⟨a, n, cap, rfl, hn, hc1, hc2, hcell⟩ := hR
  cases a with
  | none =>
    have hn0 : L = [] := by
      rcases Nat.eq_zero_or_pos n with h0 | h0
      · exact List.length_eq_zero_iff.1 (by omega)
      · obtain ⟨_, _, e, _⟩ := hcell h0
        simp at e
    subst hn0
    have hnil := fun w => Lib.run_eql_slice_nil (P := Tryz.prog) w 32 57 none n cap 0 0 Tryz.underlying32
    simp only [Option.isNone_none] at hnil
    clear hcell hn
    go_enter Tryz.func46, Tryz.ntmps46
    go_wp2_with fail
    go_ret
    exact ⟨_, rfl, OwnR.nil _ _, Below.refl _ _⟩
  | some ad =>
    have hnil := fun w => Lib.run_eql_slice_nil (P := Tryz.prog) w 32 57 (some ad) n cap 0 0 Tryz.underlying32
    simp only [Option.isNone_some] at hnil
    obtain ⟨i0, hI, hZ0, hZ1, hZ2⟩ := info_parts Tryz.info57
    have HOwn : Hid ((W.alloc (.cells #[] 57)).ownsRow W.heap.size 57 5 (.slice (some ⟨W.heap.size, 0, none⟩) 0 0) 0 []) := Lib.hid ⟨rfl, .inr ⟨W.heap.size, 0, #[], rfl, Nat.le_refl _, heap_alloc_new W _, Nat.le_refl _, by unfold maxLen; omega, rfl, rfl⟩⟩
    have HFl : Hid ((flat L).length = n * 5) := Lib.hid (by rw [flat_len, hn])
    have HNews : Hid (∀ j u, (flat L)[j]? = some u → (W.alloc (.cells #[] 57)).cell? (ad.add j) = some u) := Lib.hid (fun j u hj => by
      have hj5 := (List.getElem?_eq_some_iff.1 hj).1
      rw [flat_len] at hj5
      obtain ⟨b, o, e, hb, hc⟩ := hcell (by omega)
      simp at e
      subst e
      have h := rowX_news (w := W) (b := b) (o := o) (N := L) (fun i hi => hc i (by omega)) j u hj
      rw [(ba W _).cell (by rw [Addr.add_lit]; exact hb)]
      exact h)
    have hn4 : n ≤ 40000 := by omega
    have HNL := Lib.hid hn
    clear hcell hn
    go_enter Tryz.func46, Tryz.ntmps46
    go_wp2_with (at_builtin; refine wpList_append_own _ rfl (.tmp 5) (.tmp 6) 32 rfl W.heap.size 57 i0 (.agg #[.int .i64 0, .int .i64 0, .int .i64 0, .int .i64 0, .int .i64 0]) 5 40 Tryz.underlying32 hI hZ0 hZ1 hZ2 rfl (by decide) _ 0 [] rfl HOwn.out ad n cap (flat L) rfl HFl.out HNews.out (flat_one L) (by unfold maxLen; omega) (by omega) (by simp) ?_; intro v2 w7 hown hg _; have HO2 := Lib.hid hown; have HG2 : Hid ((W.alloc (.cells #[] 57)).grownBy w7 (some W.heap.size)) := Lib.hid hg; clear hown hg)
    have HOn : Hid (OwnR w7 W.heap.size v2 L) := Lib.hid (by
      have h := HO2.out
      unfold OwnR
      rw [← HNL.out]
      simpa using h)
    have HBn : Hid (Below W.heap.size W w7) := Lib.hid ((ba W _).grown HG2.out (by simp) (fun k hk => by simp at hk; omega))
    go_wp2_with fail
    go_ret
    exact ⟨v2, rfl, HOn.out, HBn.out⟩
end Go.Proofs.YtgbnjjgnihjfgaaGreat
end

section
set_option linter.unusedVariables false
set_option linter.unusedSimpArgs false
namespace Go.Proofs.YtgbnjjgnihjfgaaGreat
open Go.RowKit Go.Sort Go.ChangeMaps Go.MapKept

structure MRes where
  rows : List MRow
  val : Int
  fnd : Bool
deriving DecidableEq
def ltB (a b : Int) : Bool := decide (a < b)
def gtB (a b : Int) : Bool := decide (b < a)
/-- **The result of a query from rows and others.** -/
def resM (q : MQ) (L O : List MRow) : MRes :=
  if validB q = false then ⟨[], 0, false⟩
  else if q.kind = 3 then ⟨[], L.length, false⟩
  else if q.kind = 4 then ⟨[], sumM q.by_ L, false⟩
  else if q.kind = 5 then ⟨[], (extF ltB q.by_ L).1, (extF ltB q.by_ L).2⟩
  else if q.kind = 6 then ⟨[], (extF gtB q.by_ L).1, (extF gtB q.by_ L).2⟩
  else if q.kind = 7 then ⟨L.flatMap (pairR (O.foldl (keyS q.other) []) q.by_), 0, false⟩
  else ⟨L, 0, false⟩
/-- What a call returns that returns a result: in memory of its own. -/
def ResOut (W : World) (r : MRes) (e : Ending) (w' : World) : Prop := ∃ u, e = .returned (resV u r.val r.fnd) ∧ OwnR w' W.heap.size u r.rows ∧ Below W.heap.size W w'
theorem res_eq {W : World} {r : MRes} {e : Ending} {w' : World} {rows : List MRow} {v : Int} {f : Bool} (h : r = ⟨rows, v, f⟩) (k : ResOut W ⟨rows, v, f⟩ e w') : ResOut W r e w' := by rw [h]; exact k
theorem rowV_i64 (y : Int) {r : MRow} (h : I64 r.k ∧ I64 r.v.a ∧ I64 r.v.b ∧ I64 r.v.c) : I64 (vget r y) := by
  unfold vget
  repeat' split
  all_goals first | exact h.1 | exact h.2.1 | exact h.2.2.1 | exact h.2.2.2 | (unfold I64; omega)

theorem own_set3 {w : World} {base base' b : Nat} {v : Value} {M : List MRow} (h : OwnR w base v M) (hb : b < base) (hbb : base' ≤ base) (x0 x1 x2 : Value) : OwnR (((w.setCell ⟨b, 0, none⟩ x0).setCell ⟨b, 1, none⟩ x1).setCell ⟨b, 2, none⟩ x2) base' v M :=
  (h.kept (F := fun i => i = b) (Kept.setCell (F := fun i => i = b) (Kept.setCell (F := fun i => i = b) (Kept.setCell (F := fun i => i = b) (Kept.refl (fun i => i = b) w) (p := ⟨b, 0, none⟩) (.inl rfl) x0) (p := ⟨b, 1, none⟩) (.inl rfl) x1) (p := ⟨b, 2, none⟩) (.inl rfl) x2) (fun i e hi => by omega)).mono hbb
theorem cell_set3 {w : World} {b c o : Nat} {u x0 x1 x2 : Value} (h : w.cell? ⟨c, o, none⟩ = some u) (hne : b ≠ c) : (((w.setCell ⟨b, 0, none⟩ x0).setCell ⟨b, 1, none⟩ x1).setCell ⟨b, 2, none⟩ x2).cell? ⟨c, o, none⟩ = some u := by
  rw [World.cell?_setCell_far _ _ _ _ hne, World.cell?_setCell_far _ _ _ _ hne, World.cell?_setCell_far _ _ _ _ hne]
  exact h

set_option maxRecDepth 100000 in
set_option maxHeartbeats 8000000 in
theorem from_any {W : World} {q : MQ} {va vb : Value} {L O : List MRow} (hR : RowS W va L) (hO : RowS W vb O) (hk : ∀ r ∈ O, I64 r.k) (hv : ∀ r ∈ L, ∀ y, I64 (vget r y)) (hl : L.length ≤ 40000) :
    Calls Tryz.prog 36 #[qV q, va, vb] W (ResOut W (resM q L O)) := by
  have HR := Lib.hid hR
  have HO := Lib.hid hO
  have HK := Lib.hid hk
  have HVi := Lib.hid hv
  have HLl := Lib.hid hl
  obtain ⟨a, n, cap, rfl, hn, hc1, hc2, -⟩ := hR
  have HN := Lib.hid hn
  obtain ⟨oa, on, ocap, rfl, -, -, -, -⟩ := hO
  obtain ⟨k, t, c, l, h, y, o⟩ := q
  have HV := Lib.hid (fun w => qvalid_any ⟨k, t, c, l, h, y, o⟩ w)
  obtain ⟨vb, Hvb⟩ : ∃ x, Hid (validB ⟨k, t, c, l, h, y, o⟩ = x) := ⟨_, Lib.hid rfl⟩
  rw [Hvb.out] at HV
  have hWn : W.heap.size ≤ W.heap.size + 1 := by omega
  have hmk := fun w => run_makeMap (P := Tryz.prog) 129 w
  clear hk hv hl hn
  unfold qV at HV ⊢
  go_enter Tryz.func36, Tryz.ntmps36
  go_upto_region 1 with fail
  generalize hw0 : (W.alloc (.cells #[.int .i64 k, .int .i64 t, .int .i64 c, .int .i64 l, .int .i64 h, .int .i64 y, .int .i64 o] 28)).alloc (.cells #[.slice none 0 0, .int .i64 0, .bool false] 34) = w0
  have HB0 : Hid (Below W.heap.size W w0) := Lib.hid (by rw [← hw0]; exact bt (ba W _) (ba _ _))
  have HQ0 : Hid (QAt w0 W.heap.size ⟨k, t, c, l, h, y, o⟩) := Lib.hid (by rw [← hw0]; exact (QAt.new W ⟨k, t, c, l, h, y, o⟩).below (ba _ _))
  have HY0 : Hid (w0.heap[W.heap.size + 1]? = some (.cells (resC (.slice none 0 0) 0 false) 34 (0, 0))) := Lib.hid (by
    rw [← hw0]
    have h := heap_alloc_new (W.alloc (.cells #[.int .i64 k, .int .i64 t, .int .i64 c, .int .i64 l, .int .i64 h, .int .i64 y, .int .i64 o] 28)) (.cells #[.slice none 0 0, .int .i64 0, .bool false] 34)
    simpa using h)
  clear hw0
  obtain ⟨q0, q1, q2, q3, q4, q5, q6⟩ := HQ0.out
  simp only at q0 q1 q2 q3 q4 q5 q6
  go_wp2_with fail
  refine (HV.out _).mono ?_
  rintro e w1 ⟨rfl, hb1⟩
  have HB1 := Lib.hid (bt HB0.out hb1)
  have HQ1 := Lib.hid (HQ0.out.below hb1)
  have HY1 := Lib.hid ((hb1.block _ (lt_of_block HY0.out)).trans HY0.out)
  clear hb1 q0 q1 q2 q3 q4 q5 q6 HQ0 HY0 HB0
  have HFin : Hid (∀ w, Below W.heap.size W w → ∀ x0 x1 x2, Below W.heap.size W (((w.setCell ⟨W.heap.size + 1, 0, none⟩ x0).setCell ⟨W.heap.size + 1, 1, none⟩ x1).setCell ⟨W.heap.size + 1, 2, none⟩ x2)) := Lib.hid (fun w hb x0 x1 x2 => below_setCell (below_setCell (below_setCell hb hWn _) hWn _) hWn _)
  cases vb
  · have HRes : Hid (resM ⟨k, t, c, l, h, y, o⟩ L O = ⟨[], 0, false⟩) := Lib.hid (by unfold resM; rw [if_pos Hvb.out])
    have f0 : ∀ j, w1.frozen? ⟨W.heap.size + 1, j, none⟩ = false := fun j => by simp [World.frozen?, HY1.out]
    have x0 : w1.cell? ⟨W.heap.size + 1, 0, none⟩ = some (.slice none 0 0) := by simp [World.cell?, HY1.out]
    have x1 : w1.cell? ⟨W.heap.size + 1, 1, none⟩ = some (.int .i64 0) := by simp [World.cell?, HY1.out]
    have x2 : w1.cell? ⟨W.heap.size + 1, 2, none⟩ = some (.bool false) := by simp [World.cell?, HY1.out]
    go_wp2_with fail
    refine bodyPost_ret (v := resV (.slice none 0 0) 0 false) (results_cell_row rfl _ _ (W.heap.size + 1) 34 _ (0, 0) _ rfl (set3_heap HY1.out) Tryz.underlying34 rfl (by kernel_rfl)) rfl (res_eq HRes.out ⟨_, rfl, OwnR.nil _ _, HFin.out _ HB1.out _ _ _⟩)
  · have Hok := Lib.hid (valid_ok Hvb.out)
    have hkind := Hok.out.2
    simp only at hkind
    have Hy : Hid (I64 y) := Lib.hid Hok.out.1.2.2.2.2.2.1
    go_upto_region 4 with fail
    generalize hw2 : w1.alloc (.cells #[.func (.func 69) #[] #[.pointer (some ⟨W.heap.size, 0, none⟩)]] 123) = w2
    have HB12 : Hid (Below w1.heap.size w1 w2) := Lib.hid (by rw [← hw2]; exact ba w1 _)
    have HF2 : Hid (w2.cell? ⟨w1.heap.size, 0, none⟩ = some (fnV 69 #[ptr W.heap.size])) := Lib.hid (by rw [← hw2]; simp [go_sem])
    have hw12 : w1.heap.size < w2.heap.size := World.block_lt_of_cell? w2 _ HF2.out
    have HB2 := Lib.hid (bt HB1.out HB12.out)
    have HQ2 := Lib.hid (HQ1.out.below HB12.out)
    have HY2 := Lib.hid ((HB12.out.block _ (lt_of_block HY1.out)).trans HY1.out)
    have hW1 : W.heap.size + 1 < w1.heap.size := lt_of_block HY1.out
    have hW2 : W.heap.size + 1 < w2.heap.size := lt_of_block HY2.out
    have HR2 := Lib.hid (HR.out.below HB2.out)
    have HO2 := Lib.hid (HO.out.below HB2.out)
    clear hw2 HB1 HQ1 HY1 HB12
    obtain ⟨q0, q1, q2, q3, q4, q5, q6⟩ := HQ2.out
    simp only at q0 q1 q2 q3 q4 q5 q6
    have q5' := Lib.hid q5
    have q6' := Lib.hid q6
    have hkk : k = 1 ∨ k = 2 ∨ k = 3 ∨ k = 4 ∨ k = 5 ∨ k = 6 ∨ k = 7 := by omega
    clear q1 q2 q3 q4 hkind Hok
    rcases hkk with rfl | rfl | rfl | rfl | rfl | rfl | rfl
    · have HRes : Hid (resM ⟨1, t, c, l, h, y, o⟩ L O = ⟨L, 0, false⟩) := Lib.hid (by
        unfold resM
        rw [Hvb.out]
        simp)
      clear q5 q6
      go_wp2_with fail
      refine (clone_rows HR2.out HLl.out).mono ?_
      rintro e w3 ⟨u, rfl, ho, hb⟩
      obtain ⟨ua, un, uc, rfl⟩ := ho.form
      have HOw := Lib.hid ho
      have HB3 := Lib.hid (bt HB2.out hb)
      have HY3 := Lib.hid ((hb.block _ (lt_of_block HY2.out)).trans HY2.out)
      clear ho hb q0
      have f0 : ∀ j, w3.frozen? ⟨W.heap.size + 1, j, none⟩ = false := fun j => by simp [World.frozen?, HY3.out]
      have x0 : w3.cell? ⟨W.heap.size + 1, 0, none⟩ = some (.slice none 0 0) := by simp [World.cell?, HY3.out]
      have x1 : w3.cell? ⟨W.heap.size + 1, 1, none⟩ = some (.int .i64 0) := by simp [World.cell?, HY3.out]
      have x2 : w3.cell? ⟨W.heap.size + 1, 2, none⟩ = some (.bool false) := by simp [World.cell?, HY3.out]
      go_wp2_with fail
      refine bodyPost_ret (v := resV (.slice ua un uc) 0 false) (results_cell_row rfl _ _ (W.heap.size + 1) 34 _ (0, 0) _ rfl (set3_heap HY3.out) Tryz.underlying34 rfl (by kernel_rfl)) rfl (res_eq HRes.out ⟨_, rfl, own_set3 HOw.out hW2 (by omega) _ _ _, HFin.out _ HB3.out _ _ _⟩)
    · have HRes : Hid (resM ⟨2, t, c, l, h, y, o⟩ L O = ⟨L, 0, false⟩) := Lib.hid (by
        unfold resM
        rw [Hvb.out]
        simp)
      clear q5 q6
      go_wp2_with fail
      refine (clone_rows HR2.out HLl.out).mono ?_
      rintro e w3 ⟨u, rfl, ho, hb⟩
      obtain ⟨ua, un, uc, rfl⟩ := ho.form
      have HOw := Lib.hid ho
      have HB3 := Lib.hid (bt HB2.out hb)
      have HY3 := Lib.hid ((hb.block _ (lt_of_block HY2.out)).trans HY2.out)
      clear ho hb q0
      have f0 : ∀ j, w3.frozen? ⟨W.heap.size + 1, j, none⟩ = false := fun j => by simp [World.frozen?, HY3.out]
      have x0 : w3.cell? ⟨W.heap.size + 1, 0, none⟩ = some (.slice none 0 0) := by simp [World.cell?, HY3.out]
      have x1 : w3.cell? ⟨W.heap.size + 1, 1, none⟩ = some (.int .i64 0) := by simp [World.cell?, HY3.out]
      have x2 : w3.cell? ⟨W.heap.size + 1, 2, none⟩ = some (.bool false) := by simp [World.cell?, HY3.out]
      go_wp2_with fail
      refine bodyPost_ret (v := resV (.slice ua un uc) 0 false) (results_cell_row rfl _ _ (W.heap.size + 1) 34 _ (0, 0) _ rfl (set3_heap HY3.out) Tryz.underlying34 rfl (by kernel_rfl)) rfl (res_eq HRes.out ⟨_, rfl, own_set3 HOw.out hW2 (by omega) _ _ _, HFin.out _ HB3.out _ _ _⟩)
    · have HRes : Hid (resM ⟨3, t, c, l, h, y, o⟩ L O = ⟨[], n, false⟩) := Lib.hid (by
        unfold resM
        rw [Hvb.out]
        simp [HN.out])
      clear q5 q6
      have f0 : ∀ j, w2.frozen? ⟨W.heap.size + 1, j, none⟩ = false := fun j => by simp [World.frozen?, HY2.out]
      have x0 : w2.cell? ⟨W.heap.size + 1, 0, none⟩ = some (.slice none 0 0) := by simp [World.cell?, HY2.out]
      have x1 : w2.cell? ⟨W.heap.size + 1, 1, none⟩ = some (.int .i64 0) := by simp [World.cell?, HY2.out]
      have x2 : w2.cell? ⟨W.heap.size + 1, 2, none⟩ = some (.bool false) := by simp [World.cell?, HY2.out]
      go_wp2_with fail
      refine bodyPost_ret (v := resV (.slice none 0 0) n false) (results_cell_row rfl _ _ (W.heap.size + 1) 34 _ (0, 0) _ rfl (set3_heap HY2.out) Tryz.underlying34 rfl (by kernel_rfl)) rfl (res_eq HRes.out ⟨_, rfl, OwnR.nil _ _, HFin.out _ HB2.out _ _ _⟩)
    · have HRes : Hid (resM ⟨4, t, c, l, h, y, o⟩ L O = ⟨[], sumM y L, false⟩) := Lib.hid (by
        unfold resM
        rw [Hvb.out]
        simp)
      have HC := Lib.hid (sum_any Hy.out HF2.out q5'.out HR2.out)
      clear q5 q6
      unfold ptr fnV at *
      go_wp2_with fail
      refine HC.out.mono ?_
      rintro e w3 ⟨rfl, hb⟩
      have HB3 := Lib.hid (bt HB2.out hb)
      have HY3 := Lib.hid ((hb.block _ (lt_of_block HY2.out)).trans HY2.out)
      clear hb q0
      have f0 : ∀ j, w3.frozen? ⟨W.heap.size + 1, j, none⟩ = false := fun j => by simp [World.frozen?, HY3.out]
      have x0 : w3.cell? ⟨W.heap.size + 1, 0, none⟩ = some (.slice none 0 0) := by simp [World.cell?, HY3.out]
      have x1 : w3.cell? ⟨W.heap.size + 1, 1, none⟩ = some (.int .i64 0) := by simp [World.cell?, HY3.out]
      have x2 : w3.cell? ⟨W.heap.size + 1, 2, none⟩ = some (.bool false) := by simp [World.cell?, HY3.out]
      go_wp2_with fail
      refine bodyPost_ret (v := resV (.slice none 0 0) (sumM y L) false) (results_cell_row rfl _ _ (W.heap.size + 1) 34 _ (0, 0) _ rfl (set3_heap HY3.out) Tryz.underlying34 rfl (by kernel_rfl)) rfl (res_eq HRes.out ⟨_, rfl, OwnR.nil _ _, HFin.out _ HB3.out _ _ _⟩)
    · have HRes : Hid (resM ⟨5, t, c, l, h, y, o⟩ L O = ⟨[], (extF ltB y L).1, (extF ltB y L).2⟩) := Lib.hid (by
        unfold resM
        rw [Hvb.out]
        simp)
      have HC := Lib.hid (extreme_any ltB 74 eg62 lt62 Hy.out q5'.out HR2.out)
      obtain ⟨⟨rv, rf⟩, Hrv⟩ : ∃ x, Hid (extF ltB y L = x) := ⟨_, Lib.hid rfl⟩
      rw [Hrv.out] at HC HRes
      have z0 := HF2.out
      clear q5 q6
      unfold ptr fnV at *
      go_wp2_with fail
      refine HC.out.mono ?_
      rintro e w3 ⟨rfl, hb⟩
      have HB3 := Lib.hid (bt HB2.out hb)
      have HY3 := Lib.hid ((hb.block _ (lt_of_block HY2.out)).trans HY2.out)
      clear hb q0 z0
      have f0 : ∀ j, w3.frozen? ⟨W.heap.size + 1, j, none⟩ = false := fun j => by simp [World.frozen?, HY3.out]
      have x0 : w3.cell? ⟨W.heap.size + 1, 0, none⟩ = some (.slice none 0 0) := by simp [World.cell?, HY3.out]
      have x1 : w3.cell? ⟨W.heap.size + 1, 1, none⟩ = some (.int .i64 0) := by simp [World.cell?, HY3.out]
      have x2 : w3.cell? ⟨W.heap.size + 1, 2, none⟩ = some (.bool false) := by simp [World.cell?, HY3.out]
      go_wp2_with fail
      refine bodyPost_ret (v := resV (.slice none 0 0) rv rf) (results_cell_row rfl _ _ (W.heap.size + 1) 34 _ (0, 0) _ rfl (set3_heap HY3.out) Tryz.underlying34 rfl (by kernel_rfl)) rfl (res_eq HRes.out ⟨_, rfl, OwnR.nil _ _, HFin.out _ HB3.out _ _ _⟩)
    · have HRes : Hid (resM ⟨6, t, c, l, h, y, o⟩ L O = ⟨[], (extF gtB y L).1, (extF gtB y L).2⟩) := Lib.hid (by
        unfold resM
        rw [Hvb.out]
        simp)
      have HC := Lib.hid (extreme_any gtB 75 eg63 gt63 Hy.out q5'.out HR2.out)
      obtain ⟨⟨rv, rf⟩, Hrv⟩ : ∃ x, Hid (extF gtB y L = x) := ⟨_, Lib.hid rfl⟩
      rw [Hrv.out] at HC HRes
      have z0 := HF2.out
      clear q5 q6
      unfold ptr fnV at *
      go_wp2_with fail
      refine HC.out.mono ?_
      rintro e w3 ⟨rfl, hb⟩
      have HB3 := Lib.hid (bt HB2.out hb)
      have HY3 := Lib.hid ((hb.block _ (lt_of_block HY2.out)).trans HY2.out)
      clear hb q0 z0
      have f0 : ∀ j, w3.frozen? ⟨W.heap.size + 1, j, none⟩ = false := fun j => by simp [World.frozen?, HY3.out]
      have x0 : w3.cell? ⟨W.heap.size + 1, 0, none⟩ = some (.slice none 0 0) := by simp [World.cell?, HY3.out]
      have x1 : w3.cell? ⟨W.heap.size + 1, 1, none⟩ = some (.int .i64 0) := by simp [World.cell?, HY3.out]
      have x2 : w3.cell? ⟨W.heap.size + 1, 2, none⟩ = some (.bool false) := by simp [World.cell?, HY3.out]
      go_wp2_with fail
      refine bodyPost_ret (v := resV (.slice none 0 0) rv rf) (results_cell_row rfl _ _ (W.heap.size + 1) 34 _ (0, 0) _ rfl (set3_heap HY3.out) Tryz.underlying34 rfl (by kernel_rfl)) rfl (res_eq HRes.out ⟨_, rfl, OwnR.nil _ _, HFin.out _ HB3.out _ _ _⟩)
    · have HRes : Hid (resM ⟨7, t, c, l, h, y, o⟩ L O = ⟨L.flatMap (pairR (O.foldl (keyS o) []) y), 0, false⟩) := Lib.hid (by
        unfold resM
        rw [Hvb.out]
        simp)
      have HC1 := Lib.hid (fun w (hb : Below w2.heap.size w2 w) => byKey_any (t := o) (HO2.out.below hb) HK.out)
      have HC2 : Hid (∀ w mb, Below w2.heap.size w2 w → KMap w mb (O.foldl (keyS o) []) → Calls Tryz.prog 76 #[.slice a n cap, fnV 69 #[ptr W.heap.size], .map (some mb)] w fun e w' => ∃ v, e = .returned v ∧ OwnR w' w2.heap.size v (L.flatMap (pairR (O.foldl (keyS o) []) y)) ∧ Below w2.heap.size w2 w') := Lib.hid (fun w mb hb hm =>
        (pairs_any (HR2.out.below hb) hm (((hb.cell (p := ⟨W.heap.size, 5, none⟩) (by show W.heap.size < w2.heap.size; omega)).trans q5'.out)) Hy.out (fun r hr => HVi.out r hr y) HLl.out).mono fun e w' ⟨v, he, ho, hb'⟩ => ⟨v, he, ho.mono hb.size, bt hb hb'⟩)
      have HKc : Hid (∀ w, Below w2.heap.size w2 w → w.cell? ⟨w1.heap.size, 0, none⟩ = some (fnV 69 #[ptr W.heap.size]) ∧ w.cell? ⟨W.heap.size, 6, none⟩ = some (.int .i64 o)) := Lib.hid (fun w hb => ⟨(hb.cell (p := ⟨w1.heap.size, 0, none⟩) hw12).trans HF2.out, (hb.cell (p := ⟨W.heap.size, 6, none⟩) (by show W.heap.size < w2.heap.size; omega)).trans q6'.out⟩)
      have HKs : Hid (∀ w, Below w2.heap.size w2 w → ∀ x0 x1 x2, (((w.setCell ⟨W.heap.size + 1, 0, none⟩ x0).setCell ⟨W.heap.size + 1, 1, none⟩ x1).setCell ⟨W.heap.size + 1, 2, none⟩ x2).cell? ⟨w1.heap.size, 0, none⟩ = some (fnV 69 #[ptr W.heap.size]) ∧ (((w.setCell ⟨W.heap.size + 1, 0, none⟩ x0).setCell ⟨W.heap.size + 1, 1, none⟩ x1).setCell ⟨W.heap.size + 1, 2, none⟩ x2).cell? ⟨W.heap.size, 6, none⟩ = some (.int .i64 o)) := Lib.hid (fun w hb x0 x1 x2 => ⟨cell_set3 (HKc.out w hb).1 (by omega), cell_set3 (HKc.out w hb).2 (by omega)⟩)
      have HYc : Hid (∀ w, Below w2.heap.size w2 w → w.heap[W.heap.size + 1]? = some (.cells (resC (.slice none 0 0) 0 false) 34 (0, 0))) := Lib.hid (fun w hb => (hb.block _ (lt_of_block HY2.out)).trans HY2.out)
      have HBd : Hid (Below w2.heap.size w2 w2.drew) := Lib.hid ⟨rfl, rfl, rfl, Nat.le_refl _, fun _ _ => rfl⟩
      clear q5 q6
      unfold ptr fnV at *
      go_upto_region 14 with fail
      clear q0
      go_region_held3 (fun w' => w'.cell? ⟨w1.heap.size, 0, none⟩ = some (.func (.func 69) #[] #[.pointer (some ⟨W.heap.size, 0, none⟩)]) ∧ w'.cell? ⟨W.heap.size, 6, none⟩ = some (.int .i64 o))
        (first | exact HKc.out _ HBd.out | exact HKc.out _ HB3.out | exact HKc.out _ HB4.out | exact HKs.out _ HB4.out _ _ _)
        (first | (go_at_call 77; (with_reducible refine (HC1.out _ HBd.out).mono ?_); rintro e w3 ⟨mb, rfl, hK, hb⟩; have HK3 := Lib.hid hK; have HB3 := Lib.hid (bt HBd.out hb); clear hK hb) | (go_at_call 76; (with_reducible refine (HC2.out _ _ HB3.out HK3.out).mono ?_); rintro e w4 ⟨u, rfl, ho, hb⟩; obtain ⟨ua, un, uc, rfl⟩ := ho.form; have HOw := Lib.hid ho; have HB4 := Lib.hid hb; clear ho hb; have f0 : ∀ j, w4.frozen? ⟨W.heap.size + 1, j, none⟩ = false := (fun j => by simp [World.frozen?, HYc.out _ HB4.out]); have x0 : w4.cell? ⟨W.heap.size + 1, 0, none⟩ = some (.slice none 0 0) := (by simp [World.cell?, HYc.out _ HB4.out]); have x1 : w4.cell? ⟨W.heap.size + 1, 1, none⟩ = some (.int .i64 0) := (by simp [World.cell?, HYc.out _ HB4.out]); have x2 : w4.cell? ⟨W.heap.size + 1, 2, none⟩ = some (.bool false) := (by simp [World.cell?, HYc.out _ HB4.out])))
      have HY4 := Lib.hid (HYc.out _ HB4.out)
      have HB5 := Lib.hid (bt HB2.out HB4.out)
      clear f0 x0 x1 x2
      go_wp2_with fail
      refine bodyPost_ret (v := resV (.slice ua un uc) 0 false) (results_cell_row rfl _ _ (W.heap.size + 1) 34 _ (0, 0) _ rfl (set3_heap HY4.out) Tryz.underlying34 rfl (by kernel_rfl)) rfl (res_eq HRes.out ⟨_, rfl, own_set3 HOw.out hW2 (by omega) _ _ _, HFin.out _ HB5.out _ _ _⟩)
end Go.Proofs.YtgbnjjgnihjfgaaGreat
end

section
set_option linter.unusedVariables false
set_option linter.unusedSimpArgs false
namespace Go.Proofs.YtgbnjjgnihjfgaaGreat
open Go.RowKit Go.Sort Go.ChangeMaps Go.MapKept

theorem results_cell_row_tmp {P : Program} {fn : Func} {p u : Tmp} {ty : TypeId} (h : fn.results = #[.cell p ty, .tmp u]) (tmps : Array Value) (w : World) (g : Nat) (t : TypeId) (cs : Array Value) (fr : Nat × Nat) (d : TypeDesc)
    (hp : tmps.getD p undef = .pointer (some ⟨g, 0, none⟩)) (hg : w.heap[g]? = some (.cells cs t fr))
    (hu : P.underlying ty = some d) (hd : (match d with | .struct _ | .array _ _ => true | _ => false) = true) (hi : (P.info? ty).map (·.size) = some cs.size) {x : Value} (hx : tmps.getD u undef = x) :
    (results fn tmps).run P w = .ok (.tuple #[.agg cs, x]) w := by
  rw [results_cell_tmp h, hp, hx]
  simp [asAddr, run_loadVar_row w g t ty cs fr d hg hu hd hi, Result.andThen]
theorem sort_mem {L M : List MRow} {sel : MRow → Bool} {col : Int} (h : SortOf L sel col M) {r : MRow} (hr : r ∈ M) : r ∈ L := (List.mem_filter.1 (h.1.mem_iff.1 hr)).1
theorem sort_len {L M : List MRow} {sel : MRow → Bool} {col : Int} (h : SortOf L sel col M) : M.length ≤ L.length := by
  rw [h.1.length_eq]
  exact List.length_filter_le _ _
theorem vrow_i64 {r : MRow} (h : VRow r) (y : Int) : I64 (vget r y) := rowV_i64 y (by
  obtain ⟨h1, h2, h3, h4, h5⟩ := h
  unfold I64
  omega)
theorem resM_o {q : MQ} (hk : ¬ q.kind = 7) (L O O' : List MRow) : resM q L O = resM q L O' := by
  unfold resM
  simp [hk]

/-- What Of returns of a state and a valid query. -/
def OfOut (W : World) (L : List MRow) (q : MQ) (e : Ending) (w' : World) : Prop :=
  ∃ u M, e = .returned (.tuple #[resV u (resM q M (L.filter (selT q.other))).val (resM q M (L.filter (selT q.other))).fnd, .int .i64 0]) ∧ OwnR w' W.heap.size u (resM q M (L.filter (selT q.other))).rows ∧ SortOf L (selR q.table q.column q.low q.high) q.column M ∧ Below W.heap.size W w'

set_option maxRecDepth 100000 in
set_option maxHeartbeats 8000000 in
theorem of_any {W : World} {b : Nat} {m : Option Nat} {L : List MRow} {p : Int} (hS : StAt W b m L p) {q : MQ} (hv : validB q = true) : Calls Tryz.prog 14 #[ptr b, qV q] W (OfOut W L q) := by
  have HS := Lib.hid hS
  have hgood := hS.good
  have hok := (valid_ok hv).1
  have hcol : 0 ≤ q.column ∧ q.column ≤ 3 := by
    unfold validB scanB at hv
    simp only [Bool.and_eq_true, decide_eq_true_eq] at hv
    omega
  obtain ⟨k, t, c, l, h, y, o⟩ := q
  simp only at hcol
  have hW : b < W.heap.size := hS.lt
  clear hS hok
  have HV := Lib.hid (fun w => qvalid_any ⟨k, t, c, l, h, y, o⟩ w)
  rw [hv] at HV
  have hWn : W.heap.size ≤ W.heap.size + 1 := by omega
  unfold qV at HV ⊢
  go_enter Tryz.func14, Tryz.ntmps14
  go_upto_region 1 with fail
  generalize hw0 : (W.alloc (.cells #[.int .i64 k, .int .i64 t, .int .i64 c, .int .i64 l, .int .i64 h, .int .i64 y, .int .i64 o] 28)).alloc (.cells #[.slice none 0 0, .int .i64 0, .bool false] 34) = w0
  have HB0 : Hid (Below W.heap.size W w0) := Lib.hid (by rw [← hw0]; exact bt (ba W _) (ba _ _))
  have HQ0 : Hid (QAt w0 W.heap.size ⟨k, t, c, l, h, y, o⟩) := Lib.hid (by rw [← hw0]; exact (QAt.new W ⟨k, t, c, l, h, y, o⟩).below (ba _ _))
  have HY0 : Hid (w0.heap[W.heap.size + 1]? = some (.cells (resC (.slice none 0 0) 0 false) 34 (0, 0))) := Lib.hid (by
    rw [← hw0]
    have h := heap_alloc_new (W.alloc (.cells #[.int .i64 k, .int .i64 t, .int .i64 c, .int .i64 l, .int .i64 h, .int .i64 y, .int .i64 o] 28)) (.cells #[.slice none 0 0, .int .i64 0, .bool false] 34)
    simpa using h)
  clear hw0
  obtain ⟨q0, q1, q2, q3, q4, q5, q6⟩ := HQ0.out
  simp only at q0 q1 q2 q3 q4 q5 q6
  go_wp2_with fail
  refine (HV.out _).mono ?_
  rintro e w1 ⟨rfl, hb1⟩
  have HB1 := Lib.hid (bt HB0.out hb1)
  have HQ1 := Lib.hid (HQ0.out.below hb1)
  have HY1 := Lib.hid ((hb1.block _ (lt_of_block HY0.out)).trans HY0.out)
  clear hb1 q0 q1 q2 q3 q4 q5 q6 HQ0 HY0 HB0
  obtain ⟨q0, q1, q2, q3, q4, q5, q6⟩ := HQ1.out
  simp only at q0 q1 q2 q3 q4 q5 q6
  have HS1 := Lib.hid (HS.out.below HB1.out)
  unfold ptr
  by_cases h7 : k = 7
  · subst h7
    go_wp2_with fail
    refine (rows_any HS1.out o).mono ?_
    rintro e w2 ⟨vo, MO, rfl, ho, hs, hb⟩
    have hMO : MO = L.filter (selT o) := sortOf_unique (t := o) hgood.1 (fun r hr => by simpa [selT] using hr) hs (sortOf_filter hgood.1 o)
    subst hMO
    have HRo := Lib.hid ho.rowS
    have HB2 := Lib.hid (bt HB1.out hb)
    have HQ2 := Lib.hid (HQ1.out.below hb)
    have HY2 := Lib.hid ((hb.block _ (lt_of_block HY1.out)).trans HY1.out)
    have HS2 := Lib.hid (HS1.out.below hb)
    obtain ⟨oa, on, oc, rfl⟩ := ho.form
    clear ho hs hb q0 q1 q2 q3 q4 q5 q6 HQ1 HY1
    have hW2 : W.heap.size + 1 < w2.heap.size := lt_of_block HY2.out
    have HC73 : Hid (∀ w, Hid (Below w2.heap.size w2 w) → Calls Tryz.prog 38 #[.agg #[.int .i64 7, .int .i64 t, .int .i64 c, .int .i64 l, .int .i64 h, .int .i64 y, .int .i64 o]] w fun e w' => e = .returned (.tuple #[.int .i64 t, .int .i64 c, .int .i64 l, .int .i64 h]) ∧ Hid (Below w2.heap.size w2 w')) := Lib.hid (fun w hb =>
      (scan_any ⟨7, t, c, l, h, y, o⟩ w).mono fun e w' hw => ⟨by rw [hw.1, scanV, if_pos hv], Lib.hid (bt hb.out hw.2)⟩)
    have HC35 : Hid (∀ w, Hid (Below w2.heap.size w2 w) → Calls Tryz.prog 37 #[.pointer (some ⟨b, 0, none⟩), .int .i64 t, .int .i64 c, .int .i64 l, .int .i64 h] w fun e w' => ∃ va M, e = .returned va ∧ Hid (RowS w' va M) ∧ Hid (SortOf L (selR t c l h) c M) ∧ Hid (Below w2.heap.size w2 w')) := Lib.hid (fun w hb => by
      refine (range_any (HS2.out.below hb.out) t c l h hcol.1 hcol.2).mono fun e w' hw => ?_
      obtain ⟨v, M, rfl, ho, hs, hb'⟩ := hw
      exact ⟨v, M, rfl, Lib.hid ho.rowS, Lib.hid hs, Lib.hid (bt hb.out hb')⟩)
    have HC17 : Hid (∀ w va M, Hid (Below w2.heap.size w2 w) → Hid (RowS w va M) → Hid (SortOf L (selR t c l h) c M) → Calls Tryz.prog 36 #[.agg #[.int .i64 7, .int .i64 t, .int .i64 c, .int .i64 l, .int .i64 h, .int .i64 y, .int .i64 o], va, .slice oa on oc] w fun e w' => ∃ ua un uc rv rf, e = .returned (.agg #[.slice ua un uc, .int .i64 rv, .bool rf]) ∧ Hid (OwnR w' w2.heap.size (.slice ua un uc) (resM ⟨7, t, c, l, h, y, o⟩ M (L.filter (selT o))).rows) ∧ Hid (rv = (resM ⟨7, t, c, l, h, y, o⟩ M (L.filter (selT o))).val ∧ rf = (resM ⟨7, t, c, l, h, y, o⟩ M (L.filter (selT o))).fnd ∧ SortOf L (selR t c l h) c M) ∧ Hid (Below w2.heap.size w2 w')) := Lib.hid (fun w va M hb hr hs => by
      refine (from_any (q := ⟨7, t, c, l, h, y, o⟩) hr.out (HRo.out.below hb.out) (fun r hr' => (hgood.2.1 r (List.mem_filter.1 hr').1).i64.2) (fun r hr' y => vrow_i64 (hgood.2.1 r (sort_mem hs.out hr')) y) (by have := sort_len hs.out; have := hgood.2.2; omega)).mono fun e w' hw => ?_
      obtain ⟨u, rfl, ho, hb'⟩ := hw
      obtain ⟨ua, un, uc, rfl⟩ := ho.form
      have e1 : resM ⟨7, t, c, l, h, y, o⟩ M (L.filter (selT o)) = resM ⟨7, t, c, l, h, y, o⟩ M (L.filter (selT o)) := rfl
      rw [e1] at ho ⊢
      exact ⟨ua, un, uc, _, _, rfl, Lib.hid (ho.mono hb.out.size), Lib.hid ⟨rfl, rfl, hs.out⟩, Lib.hid (bt hb.out hb')⟩)
    have HKc : Hid (∀ w, Below w2.heap.size w2 w → w.cell? ⟨W.heap.size, 0, none⟩ = some (.int .i64 7) ∧ w.cell? ⟨W.heap.size, 1, none⟩ = some (.int .i64 t) ∧ w.cell? ⟨W.heap.size, 2, none⟩ = some (.int .i64 c) ∧ w.cell? ⟨W.heap.size, 3, none⟩ = some (.int .i64 l) ∧ w.cell? ⟨W.heap.size, 4, none⟩ = some (.int .i64 h) ∧ w.cell? ⟨W.heap.size, 5, none⟩ = some (.int .i64 y) ∧ w.cell? ⟨W.heap.size, 6, none⟩ = some (.int .i64 o)) := Lib.hid (fun w hb => by
      have h := HQ2.out.below hb
      exact ⟨h.c0, h.c1, h.c2, h.c3, h.c4, h.c5, h.c6⟩)
    have HKs : Hid (∀ w, Below w2.heap.size w2 w → ∀ x0 x1 x2 : Value, ∀ ww, ww = (((w.setCell ⟨W.heap.size + 1, 0, none⟩ x0).setCell ⟨W.heap.size + 1, 1, none⟩ x1).setCell ⟨W.heap.size + 1, 2, none⟩ x2) → ww.cell? ⟨W.heap.size, 0, none⟩ = some (.int .i64 7) ∧ ww.cell? ⟨W.heap.size, 1, none⟩ = some (.int .i64 t) ∧ ww.cell? ⟨W.heap.size, 2, none⟩ = some (.int .i64 c) ∧ ww.cell? ⟨W.heap.size, 3, none⟩ = some (.int .i64 l) ∧ ww.cell? ⟨W.heap.size, 4, none⟩ = some (.int .i64 h) ∧ ww.cell? ⟨W.heap.size, 5, none⟩ = some (.int .i64 y) ∧ ww.cell? ⟨W.heap.size, 6, none⟩ = some (.int .i64 o)) := Lib.hid (fun w hb x0 x1 x2 ww e => by
      subst e
      obtain ⟨h0, h1, h2, h3, h4, h5, h6⟩ := HKc.out w hb
      have hne : W.heap.size + 1 ≠ W.heap.size := by omega
      exact ⟨cell_set3 h0 hne, cell_set3 h1 hne, cell_set3 h2 hne, cell_set3 h3 hne, cell_set3 h4 hne, cell_set3 h5 hne, cell_set3 h6 hne⟩)
    have HYc : Hid (∀ w, Below w2.heap.size w2 w → w.heap[W.heap.size + 1]? = some (.cells (resC (.slice none 0 0) 0 false) 34 (0, 0))) := Lib.hid (fun w hb => (hb.block _ (lt_of_block HY2.out)).trans HY2.out)
    have HBd : Hid (Below w2.heap.size w2 w2.drew) := Lib.hid ⟨rfl, rfl, rfl, Nat.le_refl _, fun _ _ => rfl⟩
    go_upto_region 8 with fail
    go_region_held3 (fun w' => w'.cell? ⟨W.heap.size, 0, none⟩ = some (.int .i64 7) ∧ w'.cell? ⟨W.heap.size, 1, none⟩ = some (.int .i64 t) ∧ w'.cell? ⟨W.heap.size, 2, none⟩ = some (.int .i64 c) ∧ w'.cell? ⟨W.heap.size, 3, none⟩ = some (.int .i64 l) ∧ w'.cell? ⟨W.heap.size, 4, none⟩ = some (.int .i64 h) ∧ w'.cell? ⟨W.heap.size, 5, none⟩ = some (.int .i64 y) ∧ w'.cell? ⟨W.heap.size, 6, none⟩ = some (.int .i64 o))
      (first | exact HKc.out _ HBd.out | exact HKc.out _ HB3.out | exact HKc.out _ HB4.out | exact HKc.out _ HB5.out | exact HKs.out _ HB5.out _ _ _ _ rfl)
      (first | (go_at_call 38; (with_reducible refine (HC73.out _ HBd).mono ?_); rintro e w3 ⟨rfl, HB3⟩) | (go_at_call 37; (with_reducible refine (HC35.out _ HB3).mono ?_); rintro e w4 ⟨va, M, rfl, HRw, HSo, HB4⟩) | (go_at_call 36; (with_reducible refine (HC17.out _ _ _ HB4 HRw HSo).mono ?_); rintro e w5 ⟨ua, un, uc, rv, rf, rfl, HOw, HEq, HB5⟩; have f0 : ∀ j, w5.frozen? ⟨W.heap.size + 1, j, none⟩ = false := (fun j => by simp [World.frozen?, HYc.out _ HB5.out]); have x0 : w5.cell? ⟨W.heap.size + 1, 0, none⟩ = some (.slice none 0 0) := (by simp [World.cell?, HYc.out _ HB5.out]); have x1 : w5.cell? ⟨W.heap.size + 1, 1, none⟩ = some (.int .i64 0) := (by simp [World.cell?, HYc.out _ HB5.out]); have x2 : w5.cell? ⟨W.heap.size + 1, 2, none⟩ = some (.bool false) := (by simp [World.cell?, HYc.out _ HB5.out])))
    have HY5 := Lib.hid (HYc.out _ HB5.out)
    have HB6 := Lib.hid (bt HB2.out HB5.out)
    have HBn : Hid (∀ x0 x1 x2, Below W.heap.size W (((w5.setCell ⟨W.heap.size + 1, 0, none⟩ x0).setCell ⟨W.heap.size + 1, 1, none⟩ x1).setCell ⟨W.heap.size + 1, 2, none⟩ x2)) := Lib.hid (fun x0 x1 x2 => below_setCell (below_setCell (below_setCell HB6.out hWn _) hWn _) hWn _)
    clear f0 x0 x1 x2
    go_wp2_with fail
    refine bodyPost_ret (v := .tuple #[resV (.slice ua un uc) rv rf, .int .i64 0]) (results_cell_row_tmp rfl _ _ (W.heap.size + 1) 34 _ (0, 0) _ rfl (set3_heap HY5.out) Tryz.underlying34 rfl (by kernel_rfl) rfl) rfl ⟨_, M, ?_, own_set3 HOw.out hW2 (by omega) _ _ _, HEq.out.2.2, HBn.out _ _ _⟩
    rw [HEq.out.1, HEq.out.2.1]
  · have hk7 : (k == 7) = false := by simp [h7]
    have HB2 := HB1
    have HQ2 := HQ1
    have HY2 := HY1
    have HS2 := HS1
    have Hk7 := Lib.hid h7
    clear h7
    have hW2 : W.heap.size + 1 < w1.heap.size := lt_of_block HY2.out
    have HC73 : Hid (∀ w, Hid (Below w1.heap.size w1 w) → Calls Tryz.prog 38 #[.agg #[.int .i64 k, .int .i64 t, .int .i64 c, .int .i64 l, .int .i64 h, .int .i64 y, .int .i64 o]] w fun e w' => e = .returned (.tuple #[.int .i64 t, .int .i64 c, .int .i64 l, .int .i64 h]) ∧ Hid (Below w1.heap.size w1 w')) := Lib.hid (fun w hb =>
      (scan_any ⟨k, t, c, l, h, y, o⟩ w).mono fun e w' hw => ⟨by rw [hw.1, scanV, if_pos hv], Lib.hid (bt hb.out hw.2)⟩)
    have HC35 : Hid (∀ w, Hid (Below w1.heap.size w1 w) → Calls Tryz.prog 37 #[.pointer (some ⟨b, 0, none⟩), .int .i64 t, .int .i64 c, .int .i64 l, .int .i64 h] w fun e w' => ∃ va M, e = .returned va ∧ Hid (RowS w' va M) ∧ Hid (SortOf L (selR t c l h) c M) ∧ Hid (Below w1.heap.size w1 w')) := Lib.hid (fun w hb => by
      refine (range_any (HS2.out.below hb.out) t c l h hcol.1 hcol.2).mono fun e w' hw => ?_
      obtain ⟨v, M, rfl, ho, hs, hb'⟩ := hw
      exact ⟨v, M, rfl, Lib.hid ho.rowS, Lib.hid hs, Lib.hid (bt hb.out hb')⟩)
    have HC17 : Hid (∀ w va M, Hid (Below w1.heap.size w1 w) → Hid (RowS w va M) → Hid (SortOf L (selR t c l h) c M) → Calls Tryz.prog 36 #[.agg #[.int .i64 k, .int .i64 t, .int .i64 c, .int .i64 l, .int .i64 h, .int .i64 y, .int .i64 o], va, .slice none 0 0] w fun e w' => ∃ ua un uc rv rf, e = .returned (.agg #[.slice ua un uc, .int .i64 rv, .bool rf]) ∧ Hid (OwnR w' w1.heap.size (.slice ua un uc) (resM ⟨k, t, c, l, h, y, o⟩ M (L.filter (selT o))).rows) ∧ Hid (rv = (resM ⟨k, t, c, l, h, y, o⟩ M (L.filter (selT o))).val ∧ rf = (resM ⟨k, t, c, l, h, y, o⟩ M (L.filter (selT o))).fnd ∧ SortOf L (selR t c l h) c M) ∧ Hid (Below w1.heap.size w1 w')) := Lib.hid (fun w va M hb hr hs => by
      refine (from_any (q := ⟨k, t, c, l, h, y, o⟩) hr.out (rowS_nil _) (fun r hr' => by simp at hr') (fun r hr' y => vrow_i64 (hgood.2.1 r (sort_mem hs.out hr')) y) (by have := sort_len hs.out; have := hgood.2.2; omega)).mono fun e w' hw => ?_
      obtain ⟨u, rfl, ho, hb'⟩ := hw
      obtain ⟨ua, un, uc, rfl⟩ := ho.form
      have e1 : resM ⟨k, t, c, l, h, y, o⟩ M [] = resM ⟨k, t, c, l, h, y, o⟩ M (L.filter (selT o)) := resM_o Hk7.out _ _ _
      rw [e1] at ho ⊢
      exact ⟨ua, un, uc, _, _, rfl, Lib.hid (ho.mono hb.out.size), Lib.hid ⟨rfl, rfl, hs.out⟩, Lib.hid (bt hb.out hb')⟩)
    have HKc : Hid (∀ w, Below w1.heap.size w1 w → w.cell? ⟨W.heap.size, 0, none⟩ = some (.int .i64 k) ∧ w.cell? ⟨W.heap.size, 1, none⟩ = some (.int .i64 t) ∧ w.cell? ⟨W.heap.size, 2, none⟩ = some (.int .i64 c) ∧ w.cell? ⟨W.heap.size, 3, none⟩ = some (.int .i64 l) ∧ w.cell? ⟨W.heap.size, 4, none⟩ = some (.int .i64 h) ∧ w.cell? ⟨W.heap.size, 5, none⟩ = some (.int .i64 y) ∧ w.cell? ⟨W.heap.size, 6, none⟩ = some (.int .i64 o)) := Lib.hid (fun w hb => by
      have h := HQ2.out.below hb
      exact ⟨h.c0, h.c1, h.c2, h.c3, h.c4, h.c5, h.c6⟩)
    have HKs : Hid (∀ w, Below w1.heap.size w1 w → ∀ x0 x1 x2 : Value, ∀ ww, ww = (((w.setCell ⟨W.heap.size + 1, 0, none⟩ x0).setCell ⟨W.heap.size + 1, 1, none⟩ x1).setCell ⟨W.heap.size + 1, 2, none⟩ x2) → ww.cell? ⟨W.heap.size, 0, none⟩ = some (.int .i64 k) ∧ ww.cell? ⟨W.heap.size, 1, none⟩ = some (.int .i64 t) ∧ ww.cell? ⟨W.heap.size, 2, none⟩ = some (.int .i64 c) ∧ ww.cell? ⟨W.heap.size, 3, none⟩ = some (.int .i64 l) ∧ ww.cell? ⟨W.heap.size, 4, none⟩ = some (.int .i64 h) ∧ ww.cell? ⟨W.heap.size, 5, none⟩ = some (.int .i64 y) ∧ ww.cell? ⟨W.heap.size, 6, none⟩ = some (.int .i64 o)) := Lib.hid (fun w hb x0 x1 x2 ww e => by
      subst e
      obtain ⟨h0, h1, h2, h3, h4, h5, h6⟩ := HKc.out w hb
      have hne : W.heap.size + 1 ≠ W.heap.size := by omega
      exact ⟨cell_set3 h0 hne, cell_set3 h1 hne, cell_set3 h2 hne, cell_set3 h3 hne, cell_set3 h4 hne, cell_set3 h5 hne, cell_set3 h6 hne⟩)
    have HYc : Hid (∀ w, Below w1.heap.size w1 w → w.heap[W.heap.size + 1]? = some (.cells (resC (.slice none 0 0) 0 false) 34 (0, 0))) := Lib.hid (fun w hb => (hb.block _ (lt_of_block HY2.out)).trans HY2.out)
    have HBd : Hid (Below w1.heap.size w1 w1.drew) := Lib.hid ⟨rfl, rfl, rfl, Nat.le_refl _, fun _ _ => rfl⟩
    go_upto_region 8 with fail
    clear q0 q1 q2 q3 q4 q5 q6
    go_region_held3 (fun w' => w'.cell? ⟨W.heap.size, 0, none⟩ = some (.int .i64 k) ∧ w'.cell? ⟨W.heap.size, 1, none⟩ = some (.int .i64 t) ∧ w'.cell? ⟨W.heap.size, 2, none⟩ = some (.int .i64 c) ∧ w'.cell? ⟨W.heap.size, 3, none⟩ = some (.int .i64 l) ∧ w'.cell? ⟨W.heap.size, 4, none⟩ = some (.int .i64 h) ∧ w'.cell? ⟨W.heap.size, 5, none⟩ = some (.int .i64 y) ∧ w'.cell? ⟨W.heap.size, 6, none⟩ = some (.int .i64 o))
      (first | exact HKc.out _ HBd.out | exact HKc.out _ HB3.out | exact HKc.out _ HB4.out | exact HKc.out _ HB5.out | exact HKs.out _ HB5.out _ _ _ _ rfl)
      (first | (go_at_call 38; (with_reducible refine (HC73.out _ HBd).mono ?_); rintro e w3 ⟨rfl, HB3⟩) | (go_at_call 37; (with_reducible refine (HC35.out _ HB3).mono ?_); rintro e w4 ⟨va, M, rfl, HRw, HSo, HB4⟩) | (go_at_call 36; (with_reducible refine (HC17.out _ _ _ HB4 HRw HSo).mono ?_); rintro e w5 ⟨ua, un, uc, rv, rf, rfl, HOw, HEq, HB5⟩; have f0 : ∀ j, w5.frozen? ⟨W.heap.size + 1, j, none⟩ = false := (fun j => by simp [World.frozen?, HYc.out _ HB5.out]); have x0 : w5.cell? ⟨W.heap.size + 1, 0, none⟩ = some (.slice none 0 0) := (by simp [World.cell?, HYc.out _ HB5.out]); have x1 : w5.cell? ⟨W.heap.size + 1, 1, none⟩ = some (.int .i64 0) := (by simp [World.cell?, HYc.out _ HB5.out]); have x2 : w5.cell? ⟨W.heap.size + 1, 2, none⟩ = some (.bool false) := (by simp [World.cell?, HYc.out _ HB5.out])))
    have HY5 := Lib.hid (HYc.out _ HB5.out)
    have HB6 := Lib.hid (bt HB2.out HB5.out)
    have HBn : Hid (∀ x0 x1 x2, Below W.heap.size W (((w5.setCell ⟨W.heap.size + 1, 0, none⟩ x0).setCell ⟨W.heap.size + 1, 1, none⟩ x1).setCell ⟨W.heap.size + 1, 2, none⟩ x2)) := Lib.hid (fun x0 x1 x2 => below_setCell (below_setCell (below_setCell HB6.out hWn _) hWn _) hWn _)
    clear f0 x0 x1 x2
    go_wp2_with fail
    refine bodyPost_ret (v := .tuple #[resV (.slice ua un uc) rv rf, .int .i64 0]) (results_cell_row_tmp rfl _ _ (W.heap.size + 1) 34 _ (0, 0) _ rfl (set3_heap HY5.out) Tryz.underlying34 rfl (by kernel_rfl) rfl) rfl ⟨_, M, ?_, own_set3 HOw.out hW2 (by omega) _ _ _, HEq.out.2.2, HBn.out _ _ _⟩
    rw [HEq.out.1, HEq.out.2.1]
end Go.Proofs.YtgbnjjgnihjfgaaGreat
end

