/- WALKS: between, validBy, validTable, validScan, Valid. -/
import Derived.Test.YtmjcjgmmolmibaaDoorE1
set_option linter.unusedVariables false
set_option linter.unusedSimpArgs false
namespace Go.Proofs.YtmjcjgmmolmibaaDoor
open Go.RowKit

def btw (n lo hi : Int) : Bool := decide (lo ≤ n ∧ n ≤ hi)
theorem btw_t {n lo hi : Int} (h : lo ≤ n ∧ n ≤ hi) : btw n lo hi = true := decide_eq_true h
theorem btw_f {n lo hi : Int} (h : ¬ (lo ≤ n ∧ n ≤ hi)) : btw n lo hi = false := decide_eq_false h
theorem ret_bool {a b : Bool} (h : a = b) : Ending.returned (.bool a) = .returned (.bool b) := by rw [h]

theorem between_any (n lo hi : Int) (w : World) : Calls Tryd.prog 24 #[.int .i64 n, .int .i64 lo, .int .i64 hi] w fun e w' => e = .returned (.bool (btw n lo hi)) ∧ w = w' := by
  go_enter Tryd.func24, Tryd.ntmps24
  go_wp2
  all_goals
    go_ret
    exact ⟨ret_bool (by first | (symm; exact btw_f (by omega)) | (unfold btw; simp [*]; done)), rfl⟩
theorem validBy_any (n : Int) (w : World) : Calls Tryd.prog 26 #[.int .i64 n] w fun e w' => e = .returned (.bool (btw n 1 3)) ∧ w = w' := by
  go_enter Tryd.func26, Tryd.ntmps26
  go_wp2_with fail
  (with_reducible refine (between_any _ _ _ _).mono ?_)
  rintro e w' ⟨rfl, rfl⟩
  go_wp2_with fail
  go_ret
  exact ⟨rfl, rfl⟩
theorem validTable_any (n : Int) (w : World) : Calls Tryd.prog 27 #[.int .i64 n] w fun e w' => e = .returned (.bool (btw n 0 3)) ∧ w = w' := by
  go_enter Tryd.func27, Tryd.ntmps27
  go_wp2_with fail
  (with_reducible refine (between_any _ _ _ _).mono ?_)
  rintro e w' ⟨rfl, rfl⟩
  go_wp2_with fail
  go_ret
  exact ⟨rfl, rfl⟩

theorem scanB_f {q : MQ} (h : ¬ ((0 ≤ q.table ∧ q.table ≤ 3) ∧ (0 ≤ q.column ∧ q.column ≤ 3) ∧ -1000000000 ≤ q.low ∧ q.low ≤ q.high ∧ q.high ≤ 1000000000)) : scanB q = false := by
  cases e : scanB q with
  | false => rfl
  | true =>
    refine absurd ?_ h
    unfold scanB at e
    simp only [Bool.and_eq_true, decide_eq_true_eq] at e
    omega
theorem scanB_t {q : MQ} (h1 : (0 ≤ q.table ∧ q.table ≤ 3) ∧ (0 ≤ q.column ∧ q.column ≤ 3) ∧ -1000000000 ≤ q.low ∧ q.low ≤ q.high) : scanB q = decide (q.high ≤ 1000000000) := by
  unfold scanB
  simp [h1]

set_option maxRecDepth 100000 in
set_option maxHeartbeats 1000000 in
theorem validScan_any (k t c l h b o : Int) (w : World) : Calls Tryd.prog 25 #[qV ⟨k, t, c, l, h, b, o⟩] w fun e w' => e = .returned (.bool (scanB ⟨k, t, c, l, h, b, o⟩)) ∧ Below w.heap.size w w' := by
  unfold qV
  by_cases h1 : 0 ≤ t ∧ t ≤ 3
  · have T := Lib.hid (btw_t h1)
    by_cases h2 : 0 ≤ c ∧ c ≤ 3
    · have C := Lib.hid (btw_t h2)
      go_enter Tryd.func25, Tryd.ntmps25
      go_wp2_with fail
      (with_reducible refine (validTable_any _ _).mono ?_)
      rintro e w' ⟨rfl, rfl⟩
      rw [T.out]
      go_wp2_with fail
      (with_reducible refine (between_any _ _ _ _).mono ?_)
      rintro e w' ⟨rfl, rfl⟩
      rw [C.out]
      go_wp2_with fail
      all_goals
        go_ret
        refine ⟨ret_bool ?_, ba _ _⟩
        first
          | (symm; exact scanB_f (by simp only; omega))
          | (symm; exact scanB_t ⟨h1, h2, by assumption, by assumption⟩)
    · have C := Lib.hid (btw_f h2)
      have S := Lib.hid (scanB_f (q := ⟨k, t, c, l, h, b, o⟩) (fun e => h2 e.2.1))
      clear h1 h2
      go_enter Tryd.func25, Tryd.ntmps25
      go_wp2_with fail
      (with_reducible refine (validTable_any _ _).mono ?_)
      rintro e w' ⟨rfl, rfl⟩
      rw [T.out]
      go_wp2_with fail
      (with_reducible refine (between_any _ _ _ _).mono ?_)
      rintro e w' ⟨rfl, rfl⟩
      rw [C.out]
      go_wp2_with fail
      go_ret
      exact ⟨ret_bool S.out.symm, ba _ _⟩
  · have T := Lib.hid (btw_f h1)
    have S := Lib.hid (scanB_f (q := ⟨k, t, c, l, h, b, o⟩) (fun e => h1 e.1))
    clear h1
    go_enter Tryd.func25, Tryd.ntmps25
    go_wp2_with fail
    (with_reducible refine (validTable_any _ _).mono ?_)
    rintro e w' ⟨rfl, rfl⟩
    rw [T.out]
    go_wp2_with fail
    go_ret
    exact ⟨ret_bool S.out.symm, ba _ _⟩
end Go.Proofs.YtmjcjgmmolmibaaDoor
