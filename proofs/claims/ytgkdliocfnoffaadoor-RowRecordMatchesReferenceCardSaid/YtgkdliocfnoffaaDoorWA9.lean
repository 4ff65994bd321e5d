/- WHAT CALLERS NEED OF wire.Int AND wire.PutInt, in plain words. -/
import Derived.Test.YtgkdliocfnoffaaDoorWA4
set_option linter.unusedVariables false
namespace Go.Proofs.YtgkdliocfnoffaaDoor
open Go.RowKit

theorem intOut_none {L : List UInt8} {k : Nat} (h : decInt L = none) : intOut (dec 9 L 0 0) k = .tuple #[.int .i64 0, .int .i64 0, .int .i64 10] := by
  unfold decInt at h
  cases hd : dec 9 L 0 0 with
  | none => rfl
  | some p => rw [hd] at h; simp at h
theorem intOut_some {L : List UInt8} {k m : Nat} {n : Int} (h : decInt L = some (n, m)) : intOut (dec 9 L 0 0) k = .tuple #[.int .i64 n, .int .i64 ((k + m : Nat) : Int), .int .i64 0] := by
  unfold decInt at h
  cases hd : dec 9 L 0 0 with
  | none => rw [hd] at h; simp at h
  | some p => rw [hd] at h; simp at h; unfold intOut; rw [← h.1, ← h.2]

theorem int_none (s : ByteArray) (k : Nat) (w : World) (hs : s.size ≤ maxLen) (hk : k ≤ s.size) (h : decInt (s.data.toList.drop k) = none) :
    Calls Tryd.prog 60 #[.string s, .int .i64 k] w fun e w' => e = .returned (.tuple #[.int .i64 0, .int .i64 0, .int .i64 10]) ∧ w' = w :=
  (int_any s k w hs hk).mono fun e w' hw => by rw [intOut_none h] at hw; exact hw
theorem int_some (s : ByteArray) (k : Nat) (w : World) (hs : s.size ≤ maxLen) (hk : k ≤ s.size) {n : Int} {m : Nat} (h : decInt (s.data.toList.drop k) = some (n, m)) :
    Calls Tryd.prog 60 #[.string s, .int .i64 k] w fun e w' => e = .returned (.tuple #[.int .i64 n, .int .i64 ((k + m : Nat) : Int), .int .i64 0]) ∧ w' = w :=
  (int_any s k w hs hk).mono fun e w' hw => by rw [intOut_some h] at hw; exact hw

/-- The encoding of an integer, of a string, as strings. -/
def encI (n : Int) : ByteArray := ⟨(encInt n).toArray⟩
def encS (t : ByteArray) : ByteArray := encI t.size ++ t
theorem encI_size (n : Int) : (encI n).size = (encInt n).length := by simp [encI, ByteArray.size]
theorem encI_size_le (n : Int) : (encI n).size ≤ 9 := by rw [encI_size]; exact encInt_len n
theorem encI_size_pos (n : Int) : 1 ≤ (encI n).size := by rw [encI_size]; exact encInt_pos n
theorem encI_list (n : Int) : (encI n).data.toList = encInt n := rfl
theorem encS_list (t : ByteArray) : (encS t).data.toList = encInt t.size ++ t.data.toList := by simp [encS, encI, ByteArray.data_append]
theorem encS_size (t : ByteArray) : (encS t).size = (encI t.size).size + t.size := by simp [encS]
theorem list_size (t : ByteArray) : t.data.toList.length = t.size := rfl
theorem app_list (a b : ByteArray) : (a ++ b).data.toList = a.data.toList ++ b.data.toList := by simp [ByteArray.data_append]
theorem ext_list {a b : ByteArray} (h : a.data.toList = b.data.toList) : a = b := by
  apply ByteArray.ext
  exact Array.ext' h

theorem decInt_at (p q : ByteArray) (n : Int) (h1 : -4611686018427387903 ≤ n) (h2 : n ≤ 4611686018427387903) :
    decInt ((p ++ encI n ++ q).data.toList.drop p.size) = some (n, (encI n).size) := by
  rw [app_list, app_list, encI_list, List.append_assoc, ← list_size p, List.drop_left, decInt_enc _ _ h1 h2, encI_size]

theorem extract_list (s : ByteArray) (a b : Nat) : (s.extract a b).data.toList = (s.data.toList.drop a).take (b - a) := Lib.extract_data s a b

/-- The contracts again, in these words. -/
theorem putInt_enc (v : Int) (w : World) (h1 : -4611686018427387903 ≤ v) (h2 : v ≤ 4611686018427387903) :
    Calls Tryd.prog 56 #[.int .i64 v] w fun e W' => e = .returned (.tuple #[.string (encI v), .int .i64 0]) ∧ Below w.heap.size w W' := putInt_ok v w h1 h2
theorem take0_list (s : ByteArray) (k : Nat) : (s.extract 0 k).data.toList = s.data.toList.take k := by rw [extract_list, List.drop_zero, Nat.sub_zero]
theorem int_cut (n : Int) (k : Nat) (h1 : -4611686018427387903 ≤ n) (h2 : n ≤ 4611686018427387903) (hk : k < (encI n).size) : decInt (((encI n).extract 0 k).data.toList.drop 0) = none := by
  rw [take0_list, List.drop_zero, encI_list, decInt_prefix h1 h2 k (by rw [encI_size] at hk; exact hk)]
theorem encI_inj_prefix {a b : Int} (ha1 : -4611686018427387903 ≤ a) (ha2 : a ≤ 4611686018427387903) (hb1 : -4611686018427387903 ≤ b) (hb2 : b ≤ 4611686018427387903)
    (h : (encI b).extract 0 (encI a).size = encI a) : a = b := by
  apply encInt_prefix ha1 ha2 hb1 hb2
  have := congrArg (fun s => s.data.toList) h
  simp only [take0_list, encI_list, encI_size] at this
  exact this
theorem ext_all (s : ByteArray) : s.extract 0 s.size = s := by
  apply ext_list
  rw [take0_list, ← list_size, List.take_length]

/-- Go's == on strings, as the walk spells it. -/
theorem str_eq {a b : ByteArray} (h : a = b) : (a.toList == b.toList) = true := beq_iff_eq.2 (by rw [h])
theorem str_ne {a b : ByteArray} (h : a ≠ b) : (a.toList == b.toList) = false := beq_eq_false_iff_ne.2 (fun e => h (ext_list (by rw [← ByteArray.toList_eq, ← ByteArray.toList_eq, e])))
theorem str_ne' {a b : ByteArray} (h : a ≠ b) : (a.toList != b.toList) = true := bne_iff_ne.2 (fun e => h (ext_list (by rw [← ByteArray.toList_eq, ← ByteArray.toList_eq, e])))
theorem str_eq' {a b : ByteArray} (h : a = b) : (a.toList != b.toList) = false := by rw [h]; simp

theorem bt {A B C : World} (h : Below A.heap.size A B) (k : Below B.heap.size B C) : Below A.heap.size A C := h.trans (k.mono h.size)
theorem ba (w : World) (o : Obj) : Below w.heap.size w (w.alloc o) := (Below.refl _ _).alloc (Nat.le_refl _) _
/-- A string cut to at most k bytes. -/
theorem cut_size (s : ByteArray) (k : Nat) : (s.extract 0 (min (s.size : Int) (k : Int)).toNat).size ≤ k := by
  rw [ByteArray.size_extract]; omega
end Go.Proofs.YtgkdliocfnoffaaDoor
