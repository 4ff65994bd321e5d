/- WALKS: split, cutLast, areDigests. -/
import Derived.Test.YtkmiodlehmocnaaDoorT8
import Derived.Test.YtkmiodlehmocnaaDoorShelf
import Derived.Deep.RegionWith
import Derived.WalkSpells
set_option linter.unusedVariables false
namespace Go.Proofs.YtkmiodlehmocnaaDoor
open Go.RowKit

theorem bitLenAux_log2 : ∀ (f x : Nat), 1 ≤ x → x < 2 ^ f → Lib.bitLenAux f x = x.log2 + 1
  | 0, x, h1, h2 => by simp at h2; omega
  | f + 1, x, h1, h2 => by
    rw [Lib.bitLenAux, if_neg (by omega), Nat.log2_def]
    by_cases h : 2 ≤ x
    · rw [if_pos h, bitLenAux_log2 f (x / 2) (by omega) (by rw [Nat.pow_succ] at h2; omega)]; omega
    · have : x / 2 = 0 := by omega
      rw [if_neg h, this]
      cases f <;> simp [Lib.bitLenAux]
theorem bitLen_log2 (n : Nat) (h : 1 ≤ n) (h2 : n < 18446744073709551616) : Lib.bitLen n = n.log2 + 1 := bitLenAux_log2 64 n h h2

set_option maxRecDepth 100000 in
set_option maxHeartbeats 400000 in
theorem split_c (n : Nat) (w : World) (h2 : 2 ≤ n) (hn : n ≤ 9223372036854775807) :
    Calls Tryd.prog 43 #[.int .i64 n] w fun e w' => e = .returned (.int .i64 (spl n)) ∧ w' = w := by
  obtain ⟨q, HQ⟩ : ∃ q, Hid ((n - 1).log2 = q) := ⟨_, Lib.hid rfl⟩
  have HB := Lib.hid (bitLen_log2 (n - 1) (by omega) (by omega))
  have hq62 : q ≤ 62 := by
    have h3 := Nat.log2_self_le (n := n - 1) (by omega)
    rw [HQ.out] at h3
    by_cases h : q ≤ 62
    · exact h
    · have : 2 ^ 63 ≤ 2 ^ q := Nat.pow_le_pow_right (by decide) (by omega)
      omega
  have hpow : 2 ^ q < 9223372036854775808 := Nat.lt_of_le_of_lt (Nat.pow_le_pow_right (by decide) hq62) (by decide)
  have HP : Hid (((2 ^ q : Nat) : Int) = (spl n : Int)) := Lib.hid (by unfold spl; rw [HQ.out])
  obtain ⟨y, HY⟩ : ∃ y : Nat, Hid (2 ^ q = y) := ⟨_, Lib.hid rfl⟩
  have hwy : IntKind.i64.wrap (2 ^ q : Int) = (y : Int) := by
    have h1 : (2 ^ q : Int) = (y : Int) := by rw [← HY.out, Int.natCast_pow]; rfl
    have h2 : y < 9223372036854775808 := by rw [← HY.out]; exact hpow
    rw [IntKind.wrap_i64, h1]; omega
  go_enter Tryd.func43, Tryd.ntmps43
  go_wp2_with fail
  refine (Tryd.bits_Len ((n : Int) - 1) _ (by omega) (by omega)).mono ?_
  rintro e w' ⟨rfl, rfl⟩
  rw [show ((n : Int) - 1).toNat = n - 1 from by omega, HB.out, HQ.out]
  go_wp2_with fail
  go_ret
  exact ⟨ret_int (by rw [← HP.out, HY.out]), rfl⟩

/-- A slice of texts. -/
def Strs (w : World) (v : Value) (L : List ByteArray) : Prop := ∃ a n cap, v = .slice a n cap ∧ n = L.length ∧ n ≤ cap ∧ cap ≤ maxLen ∧ (1 ≤ n → ∃ b o, a = some ⟨b, o, none⟩ ∧ b < w.heap.size ∧ ∀ j, j < n → w.cell? ⟨b, o + j, none⟩ = some (.string (L.getD j ⟨#[]⟩)))
theorem Strs.below {w w' : World} {v : Value} {L : List ByteArray} (h : Strs w v L) (hb : Below w.heap.size w w') : Strs w' v L := by
  obtain ⟨a, n, cap, rfl, hn, hc, hm, h⟩ := h
  refine ⟨a, n, cap, rfl, hn, hc, hm, fun h1 => ?_⟩
  obtain ⟨b, o, rfl, hbl, hcell⟩ := h h1
  exact ⟨b, o, rfl, Nat.lt_of_lt_of_le hbl hb.size, fun j hj => (hb.cell (p := ⟨b, o + j, none⟩) hbl).trans (hcell j hj)⟩
theorem Strs.nil (w : World) : Strs w (.slice none 0 0) [] := ⟨none, 0, 0, rfl, rfl, Nat.le_refl _, by unfold maxLen; omega, fun h => by omega⟩
theorem Strs.own {w : World} {B : Nat} {v : Value} {L : List ByteArray} (h : w.ownsRow B 9 1 v L.length (L.map Value.string)) : Strs w v L := by
  rcases h.2 with ⟨rfl, h0⟩ | ⟨g, cap, cur, rfl, hB, hg, hc, hm, hs, ht⟩
  · obtain rfl : L = [] := List.length_eq_zero_iff.1 h0
    exact Strs.nil w
  · refine ⟨_, _, cap, rfl, rfl, hc, hm, fun h1 => ⟨g, 0, rfl, (Array.getElem?_eq_some_iff.1 hg).1, fun j hj => ?_⟩⟩
    have := h.cells (g := g) rfl j (.string (L.getD j ⟨#[]⟩)) (by simp [List.getD, hj])
    rw [show (⟨g, 0, none⟩ : Addr).add j = ⟨g, 0 + j, none⟩ from by unfold Addr.add; split <;> simp_all] at this
    exact this

/-- What the walk has of a slice that is not empty. -/
theorem Strs.open1 {w : World} {v : Value} {L : List ByteArray} (h : Strs w v L) (h1 : 1 ≤ L.length) : ∃ b o cap, v = .slice (some ⟨b, o, none⟩) L.length cap ∧ L.length ≤ cap ∧ cap ≤ maxLen ∧ b < w.heap.size ∧ ∀ j, j < L.length → w.cell? ⟨b, o + j, none⟩ = some (.string (L.getD j ⟨#[]⟩)) := by
  obtain ⟨a, n, cap, rfl, rfl, hc, hm, h⟩ := h
  obtain ⟨b, o, rfl, hbl, hcell⟩ := h h1
  exact ⟨b, o, cap, rfl, hc, hm, hbl, hcell⟩
theorem Strs.open0 {w : World} {v : Value} {L : List ByteArray} (h : Strs w v L) : ∃ a cap, v = .slice a L.length cap ∧ L.length ≤ cap ∧ cap ≤ maxLen := by
  obtain ⟨a, n, cap, rfl, rfl, hc, hm, h⟩ := h
  exact ⟨a, cap, rfl, hc, hm⟩
theorem Strs.take {w : World} {b o cap : Nat} {L : List ByteArray} (hc : L.length ≤ cap) (hm : cap ≤ maxLen) (hb : b < w.heap.size) (h : ∀ j, j < L.length → w.cell? ⟨b, o + j, none⟩ = some (.string (L.getD j ⟨#[]⟩))) {k : Nat} (hk : k ≤ L.length) :
    Strs w (.slice (some ⟨b, o, none⟩) k cap) (L.take k) :=
  ⟨_, k, cap, rfl, by simp; omega, by omega, hm, fun _ => ⟨b, o, rfl, hb, fun j hj => by rw [h j (by omega)]; simp [List.getD, List.getElem?_take, hj]⟩⟩
theorem Strs.drop {w : World} {b o cap : Nat} {L : List ByteArray} (hc : L.length ≤ cap) (hm : cap ≤ maxLen) (hb : b < w.heap.size) (h : ∀ j, j < L.length → w.cell? ⟨b, o + j, none⟩ = some (.string (L.getD j ⟨#[]⟩))) {k : Nat} (hk : k ≤ L.length) :
    Strs w (.slice (some ⟨b, o + k, none⟩) (L.length - k) (cap - k)) (L.drop k) :=
  ⟨_, _, _, rfl, by simp, by omega, by omega, fun _ => ⟨b, o + k, rfl, hb, fun j hj => by rw [Nat.add_assoc, h (k + j) (by omega)]; simp [List.getD, List.getElem?_drop]⟩⟩
theorem Strs.dropLast {w : World} {b o cap : Nat} {L : List ByteArray} (hc : L.length ≤ cap) (hm : cap ≤ maxLen) (hb : b < w.heap.size) (h : ∀ j, j < L.length → w.cell? ⟨b, o + j, none⟩ = some (.string (L.getD j ⟨#[]⟩))) :
    Strs w (.slice (some ⟨b, o, none⟩) (L.length - 1) cap) L.dropLast := by
  rw [List.dropLast_eq_take]; exact Strs.take hc hm hb h (by omega)

set_option maxRecDepth 100000 in
set_option maxHeartbeats 400000 in
theorem cutLast_nil (v : Value) (w : World) (h : Strs w v []) :
    Calls Tryd.prog 52 #[v] w fun e w' => e = .returned (.tuple #[.slice none 0 0, .string ⟨#[]⟩, .bool false]) ∧ w' = w := by
  obtain ⟨a, cap, rfl, _, _⟩ := h.open0
  rw [show ([] : List ByteArray).length = 0 from rfl]
  go_enter Tryd.func52, Tryd.ntmps52
  go_wp2_with fail
  go_ret3
  exact ⟨rfl, rfl⟩

set_option maxRecDepth 100000 in
set_option maxHeartbeats 400000 in
theorem cutLast_c (v : Value) (L : List ByteArray) (x : ByteArray) (w : World) (h : Strs w v (L ++ [x])) :
    Calls Tryd.prog 52 #[v] w fun e w' => ∃ v', e = .returned (.tuple #[v', .string x, .bool true]) ∧ Strs w v' L ∧ ∃ m, w' = w.drewN m := by
  obtain ⟨b, o, cap, rfl, hc, hm, hb, hcell⟩ := h.open1 (by simp)
  have HS := Lib.hid (Strs.dropLast hc hm hb hcell)
  have cl : w.cell? ⟨b, o + L.length, none⟩ = some (.string x) := by have := hcell L.length (by simp); simpa [List.getD] using this
  rw [List.length_append, List.length_cons, List.length_nil, Nat.zero_add] at hc ⊢
  rw [List.dropLast_concat, List.length_append, List.length_cons, List.length_nil, Nat.zero_add, Nat.add_sub_cancel] at HS
  clear hcell h
  unfold maxLen at hm
  go_enter Tryd.func52, Tryd.ntmps52
  go_wp2_with fail
  go_quiet (fail)
  go_wp2_with fail
  go_ret3
  exact ⟨_, rfl, HS.out, nq, rfl⟩

/-- Whether the texts from 0 to k are digests. -/
theorem areD_take (L : List ByteArray) (k : Nat) (hk : k < L.length) : areD (L.take (k + 1)) = (areD (L.take k) && decide ((L.getD k ⟨#[]⟩).size = 32)) := by
  rw [List.take_add_one, areD_append, List.getElem?_eq_getElem hk, List.getD_eq_getElem?_getD, List.getElem?_eq_getElem hk]
  simp [areD]
theorem areD_bad (L : List ByteArray) (k : Nat) (hk : k < L.length) (h : (L.getD k ⟨#[]⟩).size ≠ 32) : areD L = false := by
  have h1 : L.getD k ⟨#[]⟩ ∈ L := by rw [List.getD_eq_getElem?_getD, List.getElem?_eq_getElem hk]; exact List.getElem_mem hk
  unfold areD
  rw [List.all_eq_false]
  exact ⟨_, h1, by simpa using h⟩

set_option maxRecDepth 100000 in
set_option maxHeartbeats 400000 in
theorem areDigests_c (v : Value) (L : List ByteArray) (w : World) (h : Strs w v L) (hz : ∀ x ∈ L, x.size ≤ maxLen) :
    Calls Tryd.prog 44 #[v] w fun e w' => e = .returned (.bool (areD L)) ∧ w' = w := by
  obtain ⟨a, n, cap, rfl, hn, hc, hm, h⟩ := h
  have H := Lib.hid h
  have HN := Lib.hid hn
  have HZ := Lib.hid hz
  clear h hn hz
  unfold maxLen at hm
  obtain ⟨R, HR⟩ : ∃ R, Hid (areD L = R) := ⟨_, Lib.hid rfl⟩
  rw [HR.out]
  go_enter Tryd.func44, Tryd.ntmps44
  go_wp2_with fail
  go_loop [4, 7] (fun _ i => ∃ k : Nat, k ≤ n ∧ i = .int .i64 k ∧ Hid (areD (L.take k) = true)) (fun _ i => n - (intOf i).toNat)
  case atStart => exact ⟨0, by omega, rfl, Lib.hid rfl⟩
  case round =>
    obtain ⟨k, hk, rfl, HA⟩ := hrel
    by_cases hlt : k < n
    · obtain ⟨b, o, rfl, hb, hcell⟩ := H.out (by omega)
      obtain ⟨x, HX⟩ : ∃ x, Hid (L.getD k ⟨#[]⟩ = x) := ⟨_, Lib.hid rfl⟩
      have ck := hcell k hlt
      rw [HX.out] at ck
      have hmem : x ∈ L := by rw [← HX.out, List.getD_eq_getElem?_getD, List.getElem?_eq_getElem (by rw [← HN.out]; exact hlt)]; exact List.getElem_mem _
      have hxz : x.size ≤ 9223372036854775807 := by have := HZ.out x hmem; unfold maxLen at this; omega
      clear hcell hmem
      by_cases h32 : x.size = 32
      · have hb1 : ((x.size : Int) != 32) = false := by simp; omega
        have H32 := Lib.hid h32
        clear h32
        go_wp2_with fail
        exact ⟨⟨k + 1, by omega, by go_num, Lib.hid (by rw [areD_take L k (by rw [← HN.out]; exact hlt), HA.out, HX.out, H32.out]; rfl)⟩, by simp [intOf]; omega⟩
      · have hb1 : ((x.size : Int) != 32) = true := by simp; omega
        have HRf : Hid (R = false) := Lib.hid (by rw [← HR.out]; exact areD_bad L k (by rw [← HN.out]; exact hlt) (by rw [HX.out]; exact h32))
        clear h32
        go_wp2_with fail
        go_ret
        exact ⟨by rw [HRf.out]; rfl, rfl⟩
    · obtain rfl : k = n := by omega
      have HRt : Hid (R = true) := Lib.hid (by rw [← HR.out, ← HA.out, List.take_of_length_le (by rw [HN.out]; exact Nat.le_refl _)])
      go_wp2_with fail
      go_ret
      exact ⟨by rw [HRt.out]; rfl, rfl⟩
end Go.Proofs.YtkmiodlehmocnaaDoor
