/- WALKS: expect, numberOf. -/
import Derived.Test.YtmjcjgmmolmibaaDoorM1
import Derived.WalkLawsBesides
set_option linter.unusedVariables false
set_option linter.unusedSimpArgs false
namespace Go.Proofs.YtmjcjgmmolmibaaDoor
open Go.RowKit

theorem ext_list {a b : ByteArray} (h : a.data.toList = b.data.toList) : a = b := by
  cases a; cases b; simp at h; rw [h]
theorem str_eq {a b : ByteArray} (h : a = b) : (a.toList == b.toList) = true := beq_iff_eq.2 (by rw [h])
theorem str_ne {a b : ByteArray} (h : a ≠ b) : (a.toList == b.toList) = false := beq_eq_false_iff_ne.2 (fun e => h (ext_list (by rw [← ByteArray.toList_eq, ← ByteArray.toList_eq, e])))

theorem expect_t (w : World) : Calls Tryd.prog 44 #[.bool true] w fun e w' => e = .returned (.tuple #[]) ∧ w = w' := by
  go_enter Tryd.func44, Tryd.ntmps44
  go_wp2
  go_end0
  exact ⟨rfl, rfl⟩
theorem expect_f (a : Addr) (w : World) (hg : w.cell? ⟨1, 0, none⟩ = some (errV a)) : Calls Tryd.prog 44 #[.bool false] w fun e w' => e = pan a ∧ w = w' := by
  unfold errV at hg
  go_enter Tryd.func44, Tryd.ntmps44
  go_wp2
  exact ⟨rfl, rfl, rfl⟩

/-- A number, or the panic. -/
def NumOut (a : Addr) (W : World) (r : Option Int) (e : Ending) (w' : World) : Prop :=
  match r with
  | some n => e = .returned (.int .i64 n) ∧ Below W.heap.size W w'
  | none => e = pan a ∧ Below W.heap.size W w'
theorem NumOut.ok {a : Addr} {W : World} {r : Option Int} {n : Int} {e : Ending} {w' : World} (hr : r = some n) (h1 : e = .returned (.int .i64 n)) (h2 : Below W.heap.size W w') : NumOut a W r e w' := by
  subst hr; exact ⟨h1, h2⟩
theorem NumOut.no {a : Addr} {W : World} {r : Option Int} {e : Ending} {w' : World} (hr : r = none) (h1 : e = pan a) (h2 : Below W.heap.size W w') : NumOut a W r e w' := by
  subst hr; exact ⟨h1, h2⟩

set_option maxRecDepth 100000 in
set_option maxHeartbeats 1000000 in
theorem numberOf_any (a : Addr) (l : List UInt8) (w : World) (hL : Lw a w) (hl : l.length ≤ 1000) : Calls Tryd.prog 46 #[.string (bstr l)] w (NumOut a w (num l)) := by
  have HL := Lib.hid hL
  clear hL
  cases hr : Lib.atoiAll l with
  | ok n =>
    have HI := Lib.hid (Lib.atoiAll_bounds hr)
    have HA := Lib.hid (atoi_ok (bstr l) n w (by rw [bstr_size]; exact hl) (by rw [bstr_list]; exact hr))
    by_cases he : Lib.itoa n = l
    · have HN : Hid (num l = some n) := Lib.hid (by rw [← he]; exact num_itoa HI.out)
      have HS : Hid (((bstr (Lib.itoa n)).toList == (bstr l).toList) = true) := Lib.hid (str_eq (by rw [he]))
      clear he hr
      go_enter Tryd.func46, Tryd.ntmps46
      go_wp2_with fail
      (with_reducible refine HA.out.mono ?_)
      rintro e w1 ⟨rfl, hb1⟩
      have HB1 := Lib.hid hb1
      have HC := Lib.hid (itoa_any a n w1 (HL.out.below hb1) HI.out)
      clear hb1
      go_wp2_with fail
      (with_reducible refine HC.out.mono ?_)
      rintro e w2 ⟨rfl, hb2⟩
      have HB2 := Lib.hid (bt HB1.out hb2)
      clear hb2
      have hs := HS.out
      go_wp2_with fail
      (with_reducible refine (expect_t _).mono ?_)
      rintro e w3 ⟨rfl, rfl⟩
      go_wp2_with fail
      go_ret
      exact NumOut.ok HN.out rfl HB2.out
    · have HN : Hid (num l = none) := Lib.hid (by unfold num; rw [hr]; simp [he])
      have HS : Hid (((bstr (Lib.itoa n)).toList == (bstr l).toList) = false) := Lib.hid (str_ne (fun e => he (bstr_inj e)))
      clear he hr
      go_enter Tryd.func46, Tryd.ntmps46
      go_wp2_with fail
      (with_reducible refine HA.out.mono ?_)
      rintro e w1 ⟨rfl, hb1⟩
      have HB1 := Lib.hid hb1
      have HC := Lib.hid (itoa_any a n w1 (HL.out.below hb1) HI.out)
      clear hb1
      go_wp2_with fail
      (with_reducible refine HC.out.mono ?_)
      rintro e w2 ⟨rfl, hb2⟩
      have HB2 := Lib.hid (bt HB1.out hb2)
      clear hb2
      have hs := HS.out
      go_wp2_with fail
      (with_reducible refine (expect_f a _ (HL.out.below HB2.out).er).mono ?_)
      rintro e w3 ⟨rfl, rfl⟩
      go_wp2_with fail
      exact ⟨rfl, NumOut.no HN.out rfl HB2.out⟩
  | «syntax» =>
    have HN : Hid (num l = none) := Lib.hid (by unfold num; rw [hr])
    have HA := Lib.hid (atoi_no a (bstr l) w HL.out (by rw [bstr_size]; exact hl) (by rw [bstr_list, hr]; intro n h; cases h))
    clear hr
    go_enter Tryd.func46, Tryd.ntmps46
    go_wp2_with fail
    (with_reducible refine HA.out.mono ?_)
    rintro e w1 ⟨z, M, rfl, hb1⟩
    have HB1 := Lib.hid hb1
    clear hb1
    go_wp2_with fail
    (with_reducible refine (expect_f a _ (HL.out.below HB1.out).er).mono ?_)
    rintro e w3 ⟨rfl, rfl⟩
    go_wp2_with fail
    exact ⟨rfl, NumOut.no HN.out rfl HB1.out⟩
  | range =>
    have HN : Hid (num l = none) := Lib.hid (by unfold num; rw [hr])
    have HA := Lib.hid (atoi_no a (bstr l) w HL.out (by rw [bstr_size]; exact hl) (by rw [bstr_list, hr]; intro n h; cases h))
    clear hr
    go_enter Tryd.func46, Tryd.ntmps46
    go_wp2_with fail
    (with_reducible refine HA.out.mono ?_)
    rintro e w1 ⟨z, M, rfl, hb1⟩
    have HB1 := Lib.hid hb1
    clear hb1
    go_wp2_with fail
    (with_reducible refine (expect_f a _ (HL.out.below HB1.out).er).mono ?_)
    rintro e w3 ⟨rfl, rfl⟩
    go_wp2_with fail
    exact ⟨rfl, NumOut.no HN.out rfl HB1.out⟩
end Go.Proofs.YtmjcjgmmolmibaaDoor
