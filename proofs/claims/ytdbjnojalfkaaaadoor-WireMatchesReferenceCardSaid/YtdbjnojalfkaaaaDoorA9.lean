/- WHAT THE LAWS NEED OF Int AND String: round trips, in plain words. -/
import Derived.Test.YtdbjnojalfkaaaaDoorA8
set_option linter.unusedVariables false
namespace Go.Proofs.YtdbjnojalfkaaaaDoor
open Go.RowKit

/-- The encoding of an integer, of a string, as strings. -/
def encI (n : Int) : ByteArray := ⟨(encInt n).toArray⟩
def encS (t : ByteArray) : ByteArray := encI t.size ++ t
theorem encI_size (n : Int) : (encI n).size = (encInt n).length := by simp [encI, ByteArray.size]
theorem encI_size_le (n : Int) : (encI n).size ≤ 9 := by rw [encI_size]; exact encInt_len n
theorem encI_size_pos (n : Int) : 1 ≤ (encI n).size := by rw [encI_size]; exact encInt_pos n
theorem encI_list (n : Int) : (encI n).data.toList = encInt n := rfl
theorem encS_list (t : ByteArray) : (encS t).data.toList = encInt t.size ++ t.data.toList := by simp [encS, encI, ByteArray.data_append]
theorem encS_size (t : ByteArray) : (encS t).size = (encI t.size).size + t.size := by simp [encS]
theorem list_size (t : ByteArray) : t.data.toList.length = t.size := rfl
theorem app_list (a b : ByteArray) : (a ++ b).data.toList = a.data.toList ++ b.data.toList := by simp [ByteArray.data_append]
theorem ext_list {a b : ByteArray} (h : a.data.toList = b.data.toList) : a = b := by
  apply ByteArray.ext
  exact Array.ext' h

theorem decInt_at (p q : ByteArray) (n : Int) (h1 : -4611686018427387903 ≤ n) (h2 : n ≤ 4611686018427387903) :
    decInt ((p ++ encI n ++ q).data.toList.drop p.size) = some (n, (encI n).size) := by
  rw [app_list, app_list, encI_list, List.append_assoc, ← list_size p, List.drop_left, decInt_enc _ _ h1 h2, encI_size]

theorem extract_list (s : ByteArray) (a b : Nat) : (s.extract a b).data.toList = (s.data.toList.drop a).take (b - a) := Lib.extract_data s a b

theorem strRes_at (p q t : ByteArray) (ht : t.size ≤ 65536) : strRes (p ++ encS t ++ q) p.size = some (t, p.size + (encS t).size) := by
  have hd : decInt ((p ++ encS t ++ q).data.toList.drop p.size) = some ((t.size : Int), (encI t.size).size) := by
    rw [app_list, app_list, encS_list, List.append_assoc, ← list_size p, List.drop_left, List.append_assoc, decInt_enc _ _ (by omega) (by omega), encI_size]
  have hs : (p ++ encS t ++ q).size = p.size + ((encI t.size).size + t.size) + q.size := by simp [ByteArray.size_append, encS]
  unfold strRes
  rw [hd]
  simp only []
  rw [if_neg (by rw [hs]; omega), Int.toNat_natCast]
  congr 1
  refine Prod.ext ?_ ?_
  · apply ext_list
    rw [extract_list, app_list, app_list, encS_list]
    have e : p.data.toList ++ (encInt t.size ++ t.data.toList) ++ q.data.toList = (p.data.toList ++ encInt t.size) ++ (t.data.toList ++ q.data.toList) := by simp
    have e2 : p.size + (encI t.size).size = (p.data.toList ++ encInt t.size).length := by rw [List.length_append, list_size, encI_size]
    rw [e, e2, List.drop_left, Nat.add_sub_cancel_left, ← list_size t, List.take_left]
  · show p.size + (encI t.size).size + t.size = p.size + (encS t).size
    rw [encS_size]; omega

/-- The contracts again, in these words. -/
theorem putInt_enc (v : Int) (w : World) (h1 : -4611686018427387903 ≤ v) (h2 : v ≤ 4611686018427387903) :
    Calls Tryd.prog 12 #[.int .i64 v] w fun e W' => e = .returned (.tuple #[.string (encI v), .int .i64 0]) ∧ Below w.heap.size w W' := putInt_ok v w h1 h2
theorem putString_enc (s : ByteArray) (w : World) (hs : s.size ≤ 65536) :
    Calls Tryd.prog 19 #[.string s] w fun e W' => e = .returned (.tuple #[.string (encS s), .int .i64 0]) ∧ Below w.heap.size w W' := putString_ok s w hs

theorem take0_list (s : ByteArray) (k : Nat) : (s.extract 0 k).data.toList = s.data.toList.take k := by rw [extract_list, List.drop_zero, Nat.sub_zero]
theorem int_cut (n : Int) (k : Nat) (h1 : -4611686018427387903 ≤ n) (h2 : n ≤ 4611686018427387903) (hk : k < (encI n).size) : decInt (((encI n).extract 0 k).data.toList.drop 0) = none := by
  rw [take0_list, List.drop_zero, encI_list, decInt_prefix h1 h2 k (by rw [encI_size] at hk; exact hk)]
theorem str_cut (t : ByteArray) (k : Nat) (ht : t.size ≤ 65536) (hk : k < (encS t).size) : strRes ((encS t).extract 0 k) 0 = none := by
  unfold strRes
  rw [take0_list, List.drop_zero, encS_list]
  by_cases hs : k < (encInt t.size).length
  · rw [List.take_append_of_le_length (by omega), decInt_prefix (by omega) (by omega) k hs]
  · rw [List.take_append, List.take_of_length_le (by omega), decInt_enc _ _ (by omega) (by omega)]
    simp only []
    rw [if_pos]
    refine .inr (.inr ?_)
    rw [encS_size, encI_size] at hk
    rw [ByteArray.size_extract]
    omega
theorem encI_inj_prefix {a b : Int} (ha1 : -4611686018427387903 ≤ a) (ha2 : a ≤ 4611686018427387903) (hb1 : -4611686018427387903 ≤ b) (hb2 : b ≤ 4611686018427387903)
    (h : (encI b).extract 0 (encI a).size = encI a) : a = b := by
  apply encInt_prefix ha1 ha2 hb1 hb2
  have := congrArg (fun s => s.data.toList) h
  simp only [take0_list, encI_list, encI_size] at this
  exact this
theorem ext_all (s : ByteArray) : s.extract 0 s.size = s := by
  apply ext_list
  rw [take0_list, ← list_size, List.take_length]

/-- Go's == on strings, as the walk spells it. -/
theorem str_eq {a b : ByteArray} (h : a = b) : (a.toList == b.toList) = true := beq_iff_eq.2 (by rw [h])
theorem str_ne {a b : ByteArray} (h : a ≠ b) : (a.toList == b.toList) = false := beq_eq_false_iff_ne.2 (fun e => h (ext_list (by rw [← ByteArray.toList_eq, ← ByteArray.toList_eq, e])))
theorem str_ne' {a b : ByteArray} (h : a ≠ b) : (a.toList != b.toList) = true := bne_iff_ne.2 (fun e => h (ext_list (by rw [← ByteArray.toList_eq, ← ByteArray.toList_eq, e])))
theorem str_eq' {a b : ByteArray} (h : a = b) : (a.toList != b.toList) = false := by rw [h]; simp

theorem bt {A B C : World} (h : Below A.heap.size A B) (k : Below B.heap.size B C) : Below A.heap.size A C := h.trans (k.mono h.size)
theorem ba (w : World) (o : Obj) : Below w.heap.size w (w.alloc o) := (Below.refl _ _).alloc (Nat.le_refl _) _
/-- A string cut to at most k bytes. -/
theorem cut_size (s : ByteArray) (k : Nat) : (s.extract 0 (min (s.size : Int) (k : Int)).toNat).size ≤ k := by
  rw [ByteArray.size_extract]; omega
end Go.Proofs.YtdbjnojalfkaaaaDoor
