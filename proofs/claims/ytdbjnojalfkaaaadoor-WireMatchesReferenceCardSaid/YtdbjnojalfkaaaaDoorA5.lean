/- WALKS: wire.PutString, strings.Clone, wire.String. -/
import Derived.Test.YtdbjnojalfkaaaaDoorA4
set_option linter.unusedVariables false
namespace Go.Proofs.YtdbjnojalfkaaaaDoor
open Go.RowKit

set_option maxRecDepth 100000 in
set_option maxHeartbeats 400000 in
theorem putString_ok (s : ByteArray) (w : World) (hs : s.size ≤ 65536) :
    Calls Tryd.prog 19 #[.string s] w fun e W' => e = .returned (.tuple #[.string (⟨(encInt s.size).toArray⟩ ++ s), .int .i64 0]) ∧ Below w.heap.size w W' := by
  have hel := encInt_len s.size
  go_enter Tryd.func19, Tryd.ntmps19
  go_wp2_with (go_at_call 12; refine (putInt_ok _ _ (by omega) (by omega)).mono ?_; rintro e w' ⟨rfl, hb⟩)
  go_ret2
  exact ⟨rfl, hb⟩

set_option maxHeartbeats 400000 in
theorem putString_bad (s : ByteArray) (w : World) (hs : 65536 < s.size) :
    Calls Tryd.prog 19 #[.string s] w fun e W' => e = .returned (.tuple #[.string ⟨#[]⟩, .int .i64 10]) ∧ W' = w := by
  go_enter Tryd.func19, Tryd.ntmps19
  go_wp2
  go_ret2
  exact ⟨rfl, rfl⟩

set_option maxHeartbeats 400000 in
theorem clone_any (s : ByteArray) (w : World) (hs : s.size ≤ 281474976710656) :
    Calls Tryd.prog 27 #[.string s] w fun e w' => e = .returned (.string s) ∧ Below w.heap.size w w' := by
  go_enter Tryd.func27, Tryd.ntmps27
  go_wp2_with (go_at_call 29; refine (Tryd.stringslite_Clone _ _ hs).mono ?_; rintro e w' ⟨rfl, hb⟩)
  go_ret
  exact ⟨rfl, hb⟩

/-- What String hands back, by what the decoder gives at its offset. -/
def strRes (s : ByteArray) (k : Nat) : Option (ByteArray × Nat) :=
  match decInt (s.data.toList.drop k) with
  | none => none
  | some (n, m) => if n < 0 ∨ 65536 < n ∨ (s.size : Int) - (k + m) < n then none else some (s.extract (k + m) (k + m + n.toNat), k + m + n.toNat)
def strOut (o : Option (ByteArray × Nat)) : Value :=
  match o with
  | none => .tuple #[.string ⟨#[]⟩, .int .i64 0, .int .i64 10]
  | some (t, m) => .tuple #[.string t, .int .i64 (m : Int), .int .i64 0]

theorem intOut_none {L : List UInt8} {k : Nat} (h : decInt L = none) : intOut (dec 9 L 0 0) k = .tuple #[.int .i64 0, .int .i64 0, .int .i64 10] := by
  unfold decInt at h
  cases hd : dec 9 L 0 0 with
  | none => rfl
  | some p => rw [hd] at h; simp at h
theorem intOut_some {L : List UInt8} {k m : Nat} {n : Int} (h : decInt L = some (n, m)) : intOut (dec 9 L 0 0) k = .tuple #[.int .i64 n, .int .i64 ((k + m : Nat) : Int), .int .i64 0] := by
  unfold decInt at h
  cases hd : dec 9 L 0 0 with
  | none => rw [hd] at h; simp at h
  | some p => rw [hd] at h; simp at h; unfold intOut; rw [← h.1, ← h.2]

theorem int_none (s : ByteArray) (k : Nat) (w : World) (hs : s.size ≤ maxLen) (hk : k ≤ s.size) (h : decInt (s.data.toList.drop k) = none) :
    Calls Tryd.prog 15 #[.string s, .int .i64 k] w fun e w' => e = .returned (.tuple #[.int .i64 0, .int .i64 0, .int .i64 10]) ∧ w' = w :=
  (int_any s k w hs hk).mono fun e w' hw => by rw [intOut_none h] at hw; exact hw
theorem int_some (s : ByteArray) (k : Nat) (w : World) (hs : s.size ≤ maxLen) (hk : k ≤ s.size) {n : Int} {m : Nat} (h : decInt (s.data.toList.drop k) = some (n, m)) :
    Calls Tryd.prog 15 #[.string s, .int .i64 k] w fun e w' => e = .returned (.tuple #[.int .i64 n, .int .i64 ((k + m : Nat) : Int), .int .i64 0]) ∧ w' = w :=
  (int_any s k w hs hk).mono fun e w' hw => by rw [intOut_some h] at hw; exact hw

set_option maxRecDepth 100000 in
set_option maxHeartbeats 400000 in
theorem string_lo (s : ByteArray) (k : Int) (w : World) (hs : s.size ≤ maxLen) (hk : k < 0) (hk2 : -9223372036854775808 ≤ k) :
    Calls Tryd.prog 17 #[.string s, .int .i64 k] w fun e w' => e = .returned (.tuple #[.string ⟨#[]⟩, .int .i64 0, .int .i64 2]) ∧ w' = w := by
  go_enter Tryd.func17, Tryd.ntmps17
  go_wp2_with (go_at_call 15; refine (int_lo _ _ _ hs hk hk2).mono ?_; rintro e w' ⟨rfl, rfl⟩)
  go_ret3
  exact ⟨rfl, rfl⟩
set_option maxRecDepth 100000 in
set_option maxHeartbeats 400000 in
theorem string_hi (s : ByteArray) (k : Int) (w : World) (hs : s.size ≤ maxLen) (hk : s.size < k) (hk2 : k ≤ 9223372036854775807) :
    Calls Tryd.prog 17 #[.string s, .int .i64 k] w fun e w' => e = .returned (.tuple #[.string ⟨#[]⟩, .int .i64 0, .int .i64 2]) ∧ w' = w := by
  go_enter Tryd.func17, Tryd.ntmps17
  go_wp2_with (go_at_call 15; refine (int_hi _ _ _ hs hk hk2).mono ?_; rintro e w' ⟨rfl, rfl⟩)
  go_ret3
  exact ⟨rfl, rfl⟩

set_option maxRecDepth 100000 in
set_option maxHeartbeats 400000 in
theorem string_any (s : ByteArray) (k : Nat) (w : World) (hs : s.size ≤ maxLen) (hk : k ≤ s.size) :
    Calls Tryd.prog 17 #[.string s, .int .i64 k] w fun e w' => e = .returned (strOut (strRes s k)) ∧ Below w.heap.size w w' := by
  cases hd : decInt (s.data.toList.drop k) with
  | none =>
    have hfin : Hid (strOut (strRes s k) = .tuple #[.string ⟨#[]⟩, .int .i64 0, .int .i64 10]) := Lib.hid (by unfold strRes; rw [hd]; rfl)
    have HD := Lib.hid hd
    clear hd
    go_enter Tryd.func17, Tryd.ntmps17
    go_wp2_with (go_at_call 15; refine (int_none _ _ _ hs hk HD.out).mono ?_; rintro e w' ⟨rfl, rfl⟩)
    go_ret3
    exact ⟨by rw [hfin.out]; rfl, Below.refl _ _⟩
  | some p =>
    obtain ⟨n, m⟩ := p
    obtain ⟨hm, he, hml, hm1, hn1, hn2⟩ := decInt_sound hd
    have hml' : k + m ≤ s.size := by
      rw [List.length_drop] at hml
      have : s.data.toList.length = s.size := rfl
      omega
    clear hm he hml
    have HD := Lib.hid hd
    unfold maxLen at hs
    by_cases hbad : n < 0 ∨ 65536 < n ∨ (s.size : Int) - (k + m) < n
    · have hfin : Hid (strOut (strRes s k) = .tuple #[.string ⟨#[]⟩, .int .i64 0, .int .i64 10]) := Lib.hid (by unfold strRes; rw [hd]; simp only []; rw [if_pos hbad]; rfl)
      clear hd
      go_enter Tryd.func17, Tryd.ntmps17
      go_wp2_with (go_at_call 15; refine (int_some _ _ _ hs hk HD.out).mono ?_; rintro e w' ⟨rfl, rfl⟩)
      all_goals
        go_ret3
        exact ⟨by rw [hfin.out]; rfl, Below.refl _ _⟩
    · have hfin : Hid (strOut (strRes s k) = .tuple #[.string (s.extract (k + m) (k + m + n.toNat)), .int .i64 ((k + m + n.toNat : Nat) : Int), .int .i64 0]) := Lib.hid (by unfold strRes; rw [hd]; simp only []; rw [if_neg hbad]; rfl)
      clear hd
      obtain ⟨q, rfl⟩ : ∃ q : Nat, n = (q : Int) := ⟨n.toNat, by omega⟩
      have h1 : (q : Int) ≤ 65536 := by omega
      have h2 : (k : Int) + m + q ≤ s.size := by omega
      clear hbad
      go_enter Tryd.func17, Tryd.ntmps17
      go_wp2_with (first | (go_at_call 15; refine (int_some _ _ _ hs hk HD.out).mono ?_; rintro e w' ⟨rfl, rfl⟩) | (go_at_call 27; refine (clone_any _ _ (by simp; omega)).mono ?_; rintro e w' ⟨rfl, hb⟩))
      go_ret3
      exact ⟨by rw [hfin.out]; rfl, hb⟩
end Go.Proofs.YtdbjnojalfkaaaaDoor
