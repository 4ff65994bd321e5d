/- WALKS: the reference's Number. -/
import Derived.Test.YtmjcjgmmolmibaaDoorW1
set_option linter.unusedVariables false
set_option linter.unusedSimpArgs false
namespace Go.Proofs.YtmjcjgmmolmibaaDoor
open Go.RowKit

/-- The digits that are still to be written. -/
def digD (m : Nat) : List UInt8 := if m = 0 then [] else Lib.decDigits m
theorem digD_step (m : Nat) (out : List UInt8) : digD (m / 10) ++ (UInt8.ofNat (48 + m % 10) :: out) = Lib.decDigits m ++ out := by
  rw [Lib.decDigits]
  unfold digD
  by_cases h : m < 10
  · rw [dif_pos h, if_pos (by omega)]
    have : m % 10 = m := by omega
    rw [this]; rfl
  · rw [dif_neg h, if_neg (by omega)]
    simp
def emp (v : Value) : Nat := match v with | .string b => if b.size = 0 then 1 else 0 | _ => 0
def NumSt (n m : Nat) (out : List UInt8) : Prop := (out = [] ∧ m = n) ∨ (out ≠ [] ∧ digD m ++ out = Lib.decDigits n)
theorem NumSt.step {n m : Nat} {out : List UInt8} (h : NumSt n m out) (hc : out = [] ∨ 0 < m) : NumSt n (m / 10) (UInt8.ofNat (48 + m % 10) :: out) := by
  refine .inr ⟨by simp, ?_⟩
  rw [digD_step]
  rcases h with ⟨rfl, rfl⟩ | ⟨h1, h2⟩
  · simp
  · rcases hc with hc | hc
    · exact absurd hc h1
    · rw [← h2]; unfold digD; rw [if_neg (by omega)]
theorem NumSt.last {n m : Nat} {out : List UInt8} (h : NumSt n m out) (h1 : out ≠ []) (h2 : m = 0) : out = Lib.decDigits n := by
  rcases h with ⟨h, _⟩ | ⟨_, h⟩
  · exact absurd h h1
  · subst h2; simpa [digD] using h
theorem NumSt.le {n m : Nat} {out : List UInt8} (h : NumSt n m out) (hn : n ≤ 1000000000) : out.length ≤ 10 := by
  rcases h with ⟨rfl, _⟩ | ⟨_, h⟩
  · simp
  · have := congrArg List.length h
    rw [List.length_append, Lib.decDigits_length] at this
    have h2 := nDigits_le (k := 9) (u := n) (by omega)
    omega

theorem conv1 (w : World) (m : Nat) : (convert 55 9 (.slice (some ⟨w.heap.size, 0, none⟩) 1 1)).run Tryd.prog (w.alloc (.cells #[.int .u8 (48 + (m : Int) % 10)] 5)) = .ok (.string (bstr [UInt8.ofNat (48 + m % 10)])) (w.alloc (.cells #[.int .u8 (48 + (m : Int) % 10)] 5)) := by
  have := run_convert_bytes_arg (P := Tryd.prog) (w.alloc (.cells #[.int .u8 (48 + (m : Int) % 10)] 5)) 55 5 Tryd.underlying55 Tryd.underlying5 w.heap.size 0 1 1 [48 + (m : Int) % 10] rfl
    (fun i hi => by
      have : i = 0 := by omega
      subst this
      simp [go_sem]) 9 Tryd.underlying9
  rw [this]
  congr 2
theorem bstr_cons (x : UInt8) (l : List UInt8) : bstr [x] ++ bstr l = bstr (x :: l) := by
  apply ByteArray.ext
  simp [bstr]
theorem bstr_emp (x : UInt8) (l : List UInt8) : (bstr (x :: l)).toList.isEmpty = false := by rw [ByteArray.toList_eq, bstr_list]; rfl

theorem emp_cons (x : UInt8) (l : List UInt8) : emp (.string (bstr (x :: l))) = 0 := by simp [emp, bstr_size]
theorem emp_nil : emp (.string (bstr [])) = 1 := by simp [emp, bstr_size]
theorem num_less0 {m : Nat} (x : UInt8) (l : List UInt8) : (intOf (.int .i64 ((m : Int) / 10))).toNat + emp (.string (bstr (x :: l))) < (intOf (.int .i64 (m : Int))).toNat + emp (.string (bstr [])) := by
  rw [emp_cons, emp_nil]; simp only [intOf]; omega
theorem num_less1 {m : Nat} (hm : 0 < m) (x : UInt8) (l : List UInt8) (y : UInt8) (k : List UInt8) : (intOf (.int .i64 ((m : Int) / 10))).toNat + emp (.string (bstr (x :: l))) < (intOf (.int .i64 (m : Int))).toNat + emp (.string (bstr (y :: k))) := by
  rw [emp_cons, emp_cons]; simp only [intOf]; omega
set_option maxRecDepth 100000 in
set_option maxHeartbeats 2000000 in
theorem rnumber_pos (n : Nat) (hn : n ≤ 1000000000) (w : World) : Calls Tryd.prog 38 #[.int .i64 n] w fun e w' => e = .returned (.string (bstr (Lib.decDigits n))) ∧ Below w.heap.size w w' := by
  have hneg : decide ((n : Int) < 0) = false := decide_eq_false (by omega)
  go_enter Tryd.func38, Tryd.ntmps38
  go_wp2_with fail
  clear hneg
  go_loopw [0, 3] (fun i s wr => ∃ m out, i = .int .i64 (m : Nat) ∧ s = .string (bstr out) ∧ NumSt n m out ∧ m ≤ n ∧ Below w.heap.size w wr) (fun i s _ => (intOf i).toNat + emp s)
  case atStart => exact ⟨n, [], rfl, rfl, .inl ⟨rfl, rfl⟩, Nat.le_refl _, Below.refl _ _⟩
  case round =>
    obtain ⟨m, out, rfl, rfl, hst, hm, hb⟩ := hrel
    have HSt := Lib.hid hst
    have HB := Lib.hid hb
    have HM := Lib.hid hm
    have hz := hst.le hn
    have hcv := conv1 wr m
    obtain ⟨T, HT⟩ : ∃ T, Hid (bstr [UInt8.ofNat (48 + m % 10)] = T) := ⟨_, Lib.hid rfl⟩
    rw [HT.out] at hcv
    have hT1 : T.size = 1 := by rw [← HT.out, bstr_size]; rfl
    have hz3 : ¬ 9223372036854775807 < T.size + (bstr out).size := by rw [bstr_size]; omega
    have HNx : Hid (T ++ bstr out = bstr (UInt8.ofNat (48 + m % 10) :: out)) := Lib.hid (by rw [← HT.out]; exact bstr_cons _ _)
    clear hb hst hT1 hz
    cases out with
    | nil =>
      have he : (bstr []).toList.isEmpty = true := by rw [ByteArray.toList_eq]; rfl
      go_wp2_with fail
      rw [HNx.out]
      exact ⟨⟨m / 10, _, rfl, rfl, HSt.out.step (.inl rfl), by have := HM.out; omega, bt HB.out (ba _ _)⟩, num_less0 _ _⟩
    | cons x xs =>
      have he := bstr_emp x xs
      by_cases hm0 : 0 < m
      · have d := decide_eq_true hm0
        go_wp2_with fail
        rw [HNx.out]
        exact ⟨⟨m / 10, _, rfl, rfl, HSt.out.step (.inr hm0), by have := HM.out; omega, bt HB.out (ba _ _)⟩, num_less1 hm0 _ _ _ _⟩
      · have d := decide_eq_false hm0
        go_wp2_with fail
        go_ret
        exact ⟨by rw [← HSt.out.last (by simp) (by omega)]; rfl, HB.out⟩

set_option maxRecDepth 100000 in
set_option maxHeartbeats 2000000 in
/-- **Number.** -/
theorem rnumber_any (n : Int) (hn : -1000000000 ≤ n ∧ n ≤ 1000000000) (w : World) : Calls Tryd.prog 38 #[.int .i64 n] w fun e w' => e = .returned (.string (bstr (Lib.itoa n))) ∧ Below w.heap.size w w' := by
  by_cases h : n < 0
  · obtain ⟨m, rfl⟩ : ∃ m : Nat, n = -(m : Int) := ⟨n.natAbs, by omega⟩
    have hm0 : 0 < m := by omega
    have hm : m ≤ 1000000000 := by omega
    have hz : (Lib.decDigits m).length ≤ 10 := by
      rw [Lib.decDigits_length]
      exact nDigits_le (k := 9) (u := m) (by omega)
    obtain ⟨T, HT⟩ : ∃ T, Hid (bstr (Lib.decDigits m) = T) := ⟨_, Lib.hid rfl⟩
    have HC := Lib.hid (rnumber_pos m hm w)
    rw [HT.out] at HC
    have hT : T.size ≤ 10 := by rw [← HT.out, bstr_size]; exact hz
    have HR : Hid (bstr [45] ++ T = bstr (Lib.itoa (-(m : Int)))) := Lib.hid (by
      rw [← HT.out, bstr_cons]
      unfold Lib.itoa
      rw [if_pos h, show (-(m : Int)).natAbs = m from by omega])
    have hz2 : ¬ 9223372036854775807 < 1 + T.size := by omega
    have hi1 : (m : Int) ≤ 9223372036854775807 := by omega
    clear h hn hz hm hT
    go_enter Tryd.func38, Tryd.ntmps38
    go_wp2_with fail
    (with_reducible refine HC.out.mono ?_)
    rintro e w1 ⟨rfl, hb1⟩
    have HB := Lib.hid hb1
    clear hb1
    go_wp2_with fail
    go_ret
    exact ⟨by rw [← HR.out]; rfl, HB.out⟩
  · obtain ⟨m, rfl⟩ : ∃ m : Nat, n = m := ⟨n.toNat, by omega⟩
    have := rnumber_pos m (by omega) w
    unfold Lib.itoa
    rw [if_neg h]
    exact this
theorem rword_any (k : Nat) (hk : k < 8) (w : World) : Calls Tryd.prog 32 #[.int .i64 k] w fun e w' => e = .returned (.string (bstr (wordOf k))) ∧ Below w.heap.size w w' := by
  rcases (by omega : k = 0 ∨ k = 1 ∨ k = 2 ∨ k = 3 ∨ k = 4 ∨ k = 5 ∨ k = 6 ∨ k = 7) with rfl | rfl | rfl | rfl | rfl | rfl | rfl | rfl
  all_goals
    go_enter Tryd.func32, Tryd.ntmps32
    go_wp2_with fail
    go_ret
    exact ⟨rfl, ba _ _⟩
end Go.Proofs.YtmjcjgmmolmibaaDoor
