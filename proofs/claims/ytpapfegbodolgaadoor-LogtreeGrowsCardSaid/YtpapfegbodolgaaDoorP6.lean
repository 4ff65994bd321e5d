/- MERGED: DT9, DT10, DT11, DT12. -/
import Derived.Test.YtpapfegbodolgaaDoorDT8
import Derived.Test.YtpapfegbodolgaaDoorShelf
import Derived.Deep.RegionWith
import Derived.WalkSpells
import Derived.Deep.RegionHeld3
import Derived.Deep.AppendLies
section
set_option linter.unusedSimpArgs false
set_option linter.unusedVariables false
namespace Go.Proofs.YtpapfegbodolgaaDoor
open Go.RowKit

theorem bitLenAux_log2 : ∀ (f x : Nat), 1 ≤ x → x < 2 ^ f → Lib.bitLenAux f x = x.log2 + 1
  | 0, x, h1, h2 => by simp at h2; omega
  | f + 1, x, h1, h2 => by
    rw [Lib.bitLenAux, if_neg (by omega), Nat.log2_def]
    by_cases h : 2 ≤ x
    · rw [if_pos h, bitLenAux_log2 f (x / 2) (by omega) (by rw [Nat.pow_succ] at h2; omega)]; omega
    · have : x / 2 = 0 := by omega
      rw [if_neg h, this]
      cases f <;> simp [Lib.bitLenAux]
theorem bitLen_log2 (n : Nat) (h : 1 ≤ n) (h2 : n < 18446744073709551616) : Lib.bitLen n = n.log2 + 1 := bitLenAux_log2 64 n h h2

set_option maxRecDepth 100000 in
set_option maxHeartbeats 400000 in
theorem split_c (n : Nat) (w : World) (h2 : 2 ≤ n) (hn : n ≤ 9223372036854775807) :
    Calls Tryd.prog 53 #[.int .i64 n] w fun e w' => e = .returned (.int .i64 (spl n)) ∧ w' = w := by
  obtain ⟨q, HQ⟩ : ∃ q, Hid ((n - 1).log2 = q) := ⟨_, Lib.hid rfl⟩
  have HB := Lib.hid (bitLen_log2 (n - 1) (by omega) (by omega))
  have hq62 : q ≤ 62 := by
    have h3 := Nat.log2_self_le (n := n - 1) (by omega)
    rw [HQ.out] at h3
    by_cases h : q ≤ 62
    · exact h
    · have : 2 ^ 63 ≤ 2 ^ q := Nat.pow_le_pow_right (by decide) (by omega)
      omega
  have hpow : 2 ^ q < 9223372036854775808 := Nat.lt_of_le_of_lt (Nat.pow_le_pow_right (by decide) hq62) (by decide)
  have HP : Hid (((2 ^ q : Nat) : Int) = (spl n : Int)) := Lib.hid (by unfold spl; rw [HQ.out])
  obtain ⟨y, HY⟩ : ∃ y : Nat, Hid (2 ^ q = y) := ⟨_, Lib.hid rfl⟩
  have hwy : IntKind.i64.wrap (2 ^ q : Int) = (y : Int) := by
    have h1 : (2 ^ q : Int) = (y : Int) := by rw [← HY.out, Int.natCast_pow]; rfl
    have h2 : y < 9223372036854775808 := by rw [← HY.out]; exact hpow
    rw [IntKind.wrap_i64, h1]; omega
  go_enter Tryd.func53, Tryd.ntmps53
  go_wp2_with fail
  refine (Tryd.bits_Len ((n : Int) - 1) _ (by omega) (by omega)).mono ?_
  rintro e w' ⟨rfl, rfl⟩
  rw [show ((n : Int) - 1).toNat = n - 1 from by omega, HB.out, HQ.out]
  go_wp2_with fail
  go_ret
  exact ⟨ret_intD (by rw [← HP.out, HY.out]), rfl⟩

/-- A slice of texts. -/
def Strs (w : World) (v : Value) (L : List ByteArray) : Prop := ∃ a n cap, v = .slice a n cap ∧ n = L.length ∧ n ≤ cap ∧ cap ≤ maxLen ∧ (1 ≤ n → ∃ b o, a = some ⟨b, o, none⟩ ∧ b < w.heap.size ∧ ∀ j, j < n → w.cell? ⟨b, o + j, none⟩ = some (.string (L.getD j ⟨#[]⟩)))
theorem Strs.below {w w' : World} {v : Value} {L : List ByteArray} (h : Strs w v L) (hb : Below w.heap.size w w') : Strs w' v L := by
  obtain ⟨a, n, cap, rfl, hn, hc, hm, h⟩ := h
  refine ⟨a, n, cap, rfl, hn, hc, hm, fun h1 => ?_⟩
  obtain ⟨b, o, rfl, hbl, hcell⟩ := h h1
  exact ⟨b, o, rfl, Nat.lt_of_lt_of_le hbl hb.size, fun j hj => (hb.cell (p := ⟨b, o + j, none⟩) hbl).trans (hcell j hj)⟩
theorem Strs.nil (w : World) : Strs w (.slice none 0 0) [] := ⟨none, 0, 0, rfl, rfl, Nat.le_refl _, by unfold maxLen; omega, fun h => by omega⟩
theorem Strs.own {w : World} {B : Nat} {v : Value} {L : List ByteArray} (h : w.ownsRow B 9 1 v L.length (L.map Value.string)) : Strs w v L := by
  rcases h.2 with ⟨rfl, h0⟩ | ⟨g, cap, cur, rfl, hB, hg, hc, hm, hs, ht⟩
  · obtain rfl : L = [] := List.length_eq_zero_iff.1 h0
    exact Strs.nil w
  · refine ⟨_, _, cap, rfl, rfl, hc, hm, fun h1 => ⟨g, 0, rfl, (Array.getElem?_eq_some_iff.1 hg).1, fun j hj => ?_⟩⟩
    have := h.cells (g := g) rfl j (.string (L.getD j ⟨#[]⟩)) (by simp [List.getD, hj])
    rw [show (⟨g, 0, none⟩ : Addr).add j = ⟨g, 0 + j, none⟩ from by unfold Addr.add; split <;> simp_all] at this
    exact this

/-- What the walk has of a slice that is not empty. -/
theorem Strs.open1 {w : World} {v : Value} {L : List ByteArray} (h : Strs w v L) (h1 : 1 ≤ L.length) : ∃ b o cap, v = .slice (some ⟨b, o, none⟩) L.length cap ∧ L.length ≤ cap ∧ cap ≤ maxLen ∧ b < w.heap.size ∧ ∀ j, j < L.length → w.cell? ⟨b, o + j, none⟩ = some (.string (L.getD j ⟨#[]⟩)) := by
  obtain ⟨a, n, cap, rfl, rfl, hc, hm, h⟩ := h
  obtain ⟨b, o, rfl, hbl, hcell⟩ := h h1
  exact ⟨b, o, cap, rfl, hc, hm, hbl, hcell⟩
theorem Strs.open0 {w : World} {v : Value} {L : List ByteArray} (h : Strs w v L) : ∃ a cap, v = .slice a L.length cap ∧ L.length ≤ cap ∧ cap ≤ maxLen := by
  obtain ⟨a, n, cap, rfl, rfl, hc, hm, h⟩ := h
  exact ⟨a, cap, rfl, hc, hm⟩
theorem Strs.take {w : World} {b o cap : Nat} {L : List ByteArray} (hc : L.length ≤ cap) (hm : cap ≤ maxLen) (hb : b < w.heap.size) (h : ∀ j, j < L.length → w.cell? ⟨b, o + j, none⟩ = some (.string (L.getD j ⟨#[]⟩))) {k : Nat} (hk : k ≤ L.length) :
    Strs w (.slice (some ⟨b, o, none⟩) k cap) (L.take k) :=
  ⟨_, k, cap, rfl, by simp; omega, by omega, hm, fun _ => ⟨b, o, rfl, hb, fun j hj => by rw [h j (by omega)]; simp [List.getD, List.getElem?_take, hj]⟩⟩
theorem Strs.drop {w : World} {b o cap : Nat} {L : List ByteArray} (hc : L.length ≤ cap) (hm : cap ≤ maxLen) (hb : b < w.heap.size) (h : ∀ j, j < L.length → w.cell? ⟨b, o + j, none⟩ = some (.string (L.getD j ⟨#[]⟩))) {k : Nat} (hk : k ≤ L.length) :
    Strs w (.slice (some ⟨b, o + k, none⟩) (L.length - k) (cap - k)) (L.drop k) :=
  ⟨_, _, _, rfl, by simp, by omega, by omega, fun _ => ⟨b, o + k, rfl, hb, fun j hj => by rw [Nat.add_assoc, h (k + j) (by omega)]; simp [List.getD, List.getElem?_drop]⟩⟩
theorem Strs.dropLast {w : World} {b o cap : Nat} {L : List ByteArray} (hc : L.length ≤ cap) (hm : cap ≤ maxLen) (hb : b < w.heap.size) (h : ∀ j, j < L.length → w.cell? ⟨b, o + j, none⟩ = some (.string (L.getD j ⟨#[]⟩))) :
    Strs w (.slice (some ⟨b, o, none⟩) (L.length - 1) cap) L.dropLast := by
  rw [List.dropLast_eq_take]; exact Strs.take hc hm hb h (by omega)

set_option maxRecDepth 100000 in
set_option maxHeartbeats 400000 in
theorem cutLast_nil (v : Value) (w : World) (h : Strs w v []) :
    Calls Tryd.prog 64 #[v] w fun e w' => e = .returned (.tuple #[.slice none 0 0, .string ⟨#[]⟩, .bool false]) ∧ w' = w := by
  obtain ⟨a, cap, rfl, _, _⟩ := h.open0
  rw [show ([] : List ByteArray).length = 0 from rfl]
  go_enter Tryd.func64, Tryd.ntmps64
  go_wp2_with fail
  go_ret3
  exact ⟨rfl, rfl⟩

set_option maxRecDepth 100000 in
set_option maxHeartbeats 400000 in
theorem cutLast_c (v : Value) (L : List ByteArray) (x : ByteArray) (w : World) (h : Strs w v (L ++ [x])) :
    Calls Tryd.prog 64 #[v] w fun e w' => ∃ v', e = .returned (.tuple #[v', .string x, .bool true]) ∧ Strs w v' L ∧ ∃ m, w' = w.drewN m := by
  obtain ⟨b, o, cap, rfl, hc, hm, hb, hcell⟩ := h.open1 (by simp)
  have HS := Lib.hid (Strs.dropLast hc hm hb hcell)
  have cl : w.cell? ⟨b, o + L.length, none⟩ = some (.string x) := by have := hcell L.length (by simp); simpa [List.getD] using this
  rw [List.length_append, List.length_cons, List.length_nil, Nat.zero_add] at hc ⊢
  rw [List.dropLast_concat, List.length_append, List.length_cons, List.length_nil, Nat.zero_add, Nat.add_sub_cancel] at HS
  clear hcell h
  unfold maxLen at hm
  go_enter Tryd.func64, Tryd.ntmps64
  go_wp2_with fail
  go_quiet (fail)
  go_wp2_with fail
  go_ret3
  exact ⟨_, rfl, HS.out, nq, rfl⟩

/-- Whether the texts from 0 to k are digests. -/
theorem areD_take (L : List ByteArray) (k : Nat) (hk : k < L.length) : areD (L.take (k + 1)) = (areD (L.take k) && decide ((L.getD k ⟨#[]⟩).size = 32)) := by
  rw [List.take_add_one, areD_append, List.getElem?_eq_getElem hk, List.getD_eq_getElem?_getD, List.getElem?_eq_getElem hk]
  simp [areD]
theorem areD_bad (L : List ByteArray) (k : Nat) (hk : k < L.length) (h : (L.getD k ⟨#[]⟩).size ≠ 32) : areD L = false := by
  have h1 : L.getD k ⟨#[]⟩ ∈ L := by rw [List.getD_eq_getElem?_getD, List.getElem?_eq_getElem hk]; exact List.getElem_mem hk
  unfold areD
  rw [List.all_eq_false]
  exact ⟨_, h1, by simpa using h⟩

set_option maxRecDepth 100000 in
set_option maxHeartbeats 400000 in
theorem areDigests_c (v : Value) (L : List ByteArray) (w : World) (h : Strs w v L) (hz : ∀ x ∈ L, x.size ≤ maxLen) :
    Calls Tryd.prog 43 #[v] w fun e w' => e = .returned (.bool (areD L)) ∧ w' = w := by
  obtain ⟨a, n, cap, rfl, hn, hc, hm, h⟩ := h
  have H := Lib.hid h
  have HN := Lib.hid hn
  have HZ := Lib.hid hz
  clear h hn hz
  unfold maxLen at hm
  obtain ⟨R, HR⟩ : ∃ R, Hid (areD L = R) := ⟨_, Lib.hid rfl⟩
  rw [HR.out]
  go_enter Tryd.func43, Tryd.ntmps43
  go_wp2_with fail
  go_loop [4, 7] (fun _ i => ∃ k : Nat, k ≤ n ∧ i = .int .i64 k ∧ Hid (areD (L.take k) = true)) (fun _ i => n - (intOf i).toNat)
  case atStart => exact ⟨0, by omega, rfl, Lib.hid rfl⟩
  case round =>
    obtain ⟨k, hk, rfl, HA⟩ := hrel
    by_cases hlt : k < n
    · obtain ⟨b, o, rfl, hb, hcell⟩ := H.out (by omega)
      obtain ⟨x, HX⟩ : ∃ x, Hid (L.getD k ⟨#[]⟩ = x) := ⟨_, Lib.hid rfl⟩
      have ck := hcell k hlt
      rw [HX.out] at ck
      have hmem : x ∈ L := by rw [← HX.out, List.getD_eq_getElem?_getD, List.getElem?_eq_getElem (by rw [← HN.out]; exact hlt)]; exact List.getElem_mem _
      have hxz : x.size ≤ 9223372036854775807 := by have := HZ.out x hmem; unfold maxLen at this; omega
      clear hcell hmem
      by_cases h32 : x.size = 32
      · have hb1 : ((x.size : Int) != 32) = false := by simp; omega
        have H32 := Lib.hid h32
        clear h32
        go_wp2_with fail
        exact ⟨⟨k + 1, by omega, by go_num, Lib.hid (by rw [areD_take L k (by rw [← HN.out]; exact hlt), HA.out, HX.out, H32.out]; rfl)⟩, by simp [intOf]; omega⟩
      · have hb1 : ((x.size : Int) != 32) = true := by simp; omega
        have HRf : Hid (R = false) := Lib.hid (by rw [← HR.out]; exact areD_bad L k (by rw [← HN.out]; exact hlt) (by rw [HX.out]; exact h32))
        clear h32
        go_wp2_with fail
        go_ret
        exact ⟨by rw [HRf.out]; rfl, rfl⟩
    · obtain rfl : k = n := by omega
      have HRt : Hid (R = true) := Lib.hid (by rw [← HR.out, ← HA.out, List.take_of_length_le (by rw [HN.out]; exact Nat.le_refl _)])
      go_wp2_with fail
      go_ret
      exact ⟨by rw [HRt.out]; rfl, rfl⟩
end Go.Proofs.YtpapfegbodolgaaDoor
end

section
set_option linter.unusedSimpArgs false
set_option linter.unusedVariables false
namespace Go.Proofs.YtpapfegbodolgaaDoor
open Go.RowKit

/-- Every text is short. -/
def Short (L : List ByteArray) : Prop := ∀ x ∈ L, x.size ≤ 100000000
theorem Short.take {L : List ByteArray} (h : Short L) (k : Nat) : Short (L.take k) := fun x hx => h x (List.mem_of_mem_take hx)
theorem Short.drop {L : List ByteArray} (h : Short L) (k : Nat) : Short (L.drop k) := fun x hx => h x (List.mem_of_mem_drop hx)
theorem Short.getD {L : List ByteArray} (h : Short L) (k : Nat) (hk : k < L.length) : (L.getD k ⟨#[]⟩).size ≤ 100000000 := by
  rw [List.getD_eq_getElem?_getD, List.getElem?_eq_getElem hk]; exact h _ (List.getElem_mem hk)
theorem btD {A B C : World} (h : Below A.heap.size A B) (k : Below B.heap.size B C) : Below A.heap.size A C := h.trans (k.mono h.size)

set_option maxRecDepth 100000 in
set_option maxHeartbeats 1000000 in
theorem root_c (N : Nat) : ∀ (L : List ByteArray) (v : Value) (w : World), L.length ≤ N → Strs w v L → Short L → Tab w →
    Calls Tryd.prog 30 #[v] w fun e w' => e = .returned (.string (dg.root L)) ∧ Below w.heap.size w w' := by
  induction N with
  | zero =>
    intro L v w hN hS hsh hT
    obtain rfl : L = [] := List.length_eq_zero_iff.1 (by omega)
    obtain ⟨a, cap, rfl, _, _⟩ := hS.open0
    rw [show ([] : List ByteArray).length = 0 from rfl]
    have HT := Lib.hid hT
    clear hT hsh hS
    have HE := Lib.hid (dg.root_nil)
    rw [HE.out]
    go_enter Tryd.func30, Tryd.ntmps30
    go_wp2_with fail
    refine (sum_c ⟨#[]⟩ _ (show 0 ≤ 1000000000 by omega) HT.out).mono ?_
    rintro e w1 ⟨rfl, hb1⟩
    go_wp2_with fail
    go_ret
    exact ⟨rfl, hb1⟩
  | succ N ih =>
    intro L v w hN hS hsh hT
    by_cases h0 : L.length = 0
    · exact ih L v w (by omega) hS hsh hT
    have HT := Lib.hid hT
    have HSh := Lib.hid hsh
    clear hT hsh
    by_cases h1 : L.length = 1
    · obtain ⟨x, rfl⟩ : ∃ x, L = [x] := match L, h1 with | [x], _ => ⟨x, rfl⟩
      obtain ⟨b, o, cap, rfl, hc, hm, hb, hcell⟩ := hS.open1 (by simp)
      have c0 : w.cell? ⟨b, o, none⟩ = some (.string x) := by simpa using hcell 0 (by simp)
      have hx := HSh.out x (by simp)
      rw [show [x].length = 1 from rfl]
      clear hcell h1 h0 hS
      unfold maxLen at hm
      have HE := Lib.hid (dg.root_one x)
      rw [HE.out]
      go_enter Tryd.func30, Tryd.ntmps30
      go_wp2_with fail
      refine (leaf_c x _ (by omega) HT.out).mono ?_
      rintro e w1 ⟨rfl, hb1⟩
      go_wp2_with fail
      go_ret
      exact ⟨rfl, hb1⟩
    · have HE := Lib.hid (dg.root_two (l := L) (by omega))
      obtain ⟨k, HK⟩ : ∃ k, Hid (spl L.length = k) := ⟨_, Lib.hid rfl⟩
      rw [HK.out] at HE
      have hk1 : 1 ≤ k := by rw [← HK.out]; exact spl_pos _
      have hk2 : k < L.length := by rw [← HK.out]; exact spl_lt (by omega)
      obtain ⟨b, o, cap, rfl, hc, hm, hb, hcell⟩ := hS.open1 (by omega)
      have HC1 := Lib.hid (fun (w' : World) (hw : Below w.heap.size w w') => ih (L.take k) _ w' (by simp; omega) ((Strs.take hc hm hb hcell (by omega)).below hw) (HSh.out.take k) (HT.out.below hw))
      have HC2 := Lib.hid (fun (w' : World) (hw : Below w.heap.size w w') => ih (L.drop k) _ w' (by simp; omega) ((Strs.drop hc hm hb hcell (k := k) (by omega)).below hw) (HSh.out.drop k) (HT.out.below hw))
      have HSp := Lib.hid (fun w' => split_c L.length w' (by omega) (by unfold maxLen at hm; omega))
      rw [HK.out] at HSp
      obtain ⟨n, HN⟩ : ∃ n, Hid (L.length = n) := ⟨_, Lib.hid rfl⟩
      obtain ⟨r1, R1⟩ : ∃ r, Hid (dg.root (L.take k) = r) := ⟨_, Lib.hid rfl⟩
      obtain ⟨r2, R2⟩ : ∃ r, Hid (dg.root (L.drop k) = r) := ⟨_, Lib.hid rfl⟩
      have hr1 : r1.size ≤ 32 := by rw [← R1.out, dg.root_size]; exact Nat.le_refl _
      have hr2 : r2.size ≤ 32 := by rw [← R2.out, dg.root_size]; exact Nat.le_refl _
      rw [HE.out, R1.out, R2.out]
      rw [R1.out] at HC1
      rw [R2.out] at HC2
      rw [HN.out] at hc hk2 HC2 HSp h0 h1 hN ⊢
      have HT' := Lib.hid (fun (w' : World) (hw : Below w.heap.size w w') => node_c r1 r2 w' (by omega) (by omega) (HT.out.below hw))
      clear hcell hS ih HE R1 R2
      unfold maxLen at hm
      have hk0 : 0 ≤ (k : Int) := by omega
      have hkn : (k : Int) ≤ (n : Int) := by omega
      have hkc : (k : Int) ≤ (cap : Int) := by omega
      have hnc : (n : Int) ≤ (cap : Int) := by omega
      go_enter Tryd.func30, Tryd.ntmps30
      go_wp2_with fail
      refine (HSp.out _).mono ?_
      rintro e w1 ⟨rfl, rfl⟩
      go_wp2_with fail
      go_region_held3 (fun w' => Below w1.heap.size w1 w')
        (first | assumption | exact (Below.refl _ _).drew | exact btD (by assumption) (by assumption))
        (first | (go_at_call_of 30 (Value.slice (some ⟨b, o, none⟩) k cap); refine (HC1.out _ (by first | assumption | exact (Below.refl _ _).drew)).mono ?_; rintro e1 w2 ⟨rfl, hb2⟩) | (go_at_call_of 30 (n - k); refine (HC2.out _ (by first | assumption | exact (Below.refl _ _).drew | exact btD (by assumption) (by assumption))).mono ?_; rintro e1 w2 ⟨rfl, hb2⟩) | (go_at_call 54; refine (HT'.out _ (by first | assumption | exact btD (by assumption) (by assumption))).mono ?_; rintro e1 w2 ⟨rfl, hb2⟩))
      go_wp2_with fail
      go_ret
      exact ⟨rfl, by first | assumption | exact btD (by assumption) (by assumption)⟩
end Go.Proofs.YtpapfegbodolgaaDoor
end

section
set_option linter.unusedSimpArgs false
set_option linter.unusedVariables false
namespace Go.Proofs.YtpapfegbodolgaaDoor
open Go.RowKit

theorem Tryd.info9 : (Tryd.prog.info? 9).map (fun i => (i.zero, i.size, i.bytes)) = some (some (.string ⟨#[]⟩), 1, 16) := by kernel_rfl
theorem own_monoD {w : World} {B B' : Nat} {e : TypeId} {v : Value} {n : Nat} {xs : List Value} (h : w.ownsRow B e 1 v n xs) (hB : B' ≤ B) : w.ownsRow B' e 1 v n xs := by
  obtain ⟨hl, h⟩ := h
  refine ⟨hl, ?_⟩
  rcases h with h | ⟨g, cap, cur, hv, hg, r⟩
  · exact .inl h
  · exact .inr ⟨g, cap, cur, hv, Nat.le_trans hB hg, r⟩
theorem own_below {w w' : World} {B : Nat} {e : TypeId} {v : Value} {n : Nat} {xs : List Value} (h : w.ownsRow B e 1 v n xs) (hb : Below w.heap.size w w') : w'.ownsRow B e 1 v n xs := by
  obtain ⟨hl, h⟩ := h
  refine ⟨hl, ?_⟩
  rcases h with h | ⟨g, cap, cur, hv, hg, hc, r⟩
  · exact .inl h
  · exact .inr ⟨g, cap, cur, hv, hg, (hb.block g (Array.getElem?_eq_some_iff.1 hc).1).trans hc, r⟩
theorem below_app {B : Nat} {a w w1 : World} {l : List Value} {n : Nat} {v : Value} {e : TypeId} {o : Obj} (hB : Below B a w) (hown : w.ownsRow B e 1 v n l) (hs : B ≤ w.heap.size)
    (hg : (w.alloc o).grownBy w1 v.ownBlock) : Below B a w1 := by
  refine (hB.alloc hs o).grown hg (by simp; omega) ?_
  intro k hk
  rcases hown.2 with ⟨rfl, _⟩ | ⟨g, cap, cur, rfl, _, hgb, _⟩
  · simp [Value.ownBlock] at hk
  · simp [Value.ownBlock] at hk
    omega
theorem Dig.path_len (D : Dig) (l : List BA) (i : Nat) : (D.path l i).length ≤ l.length := by
  induction h : l.length using Nat.strongRecOn generalizing l i with
  | ind n ih =>
    subst h
    by_cases h1 : l.length ≤ 1
    · rw [D.path_one h1]; simp
    · have hlt := spl_lt (n := l.length) (by omega)
      have hp := spl_pos l.length
      by_cases hi : i < spl l.length
      · rw [D.path_lt (by omega) hi]
        have := ih (l.take (spl l.length)).length (by simp; omega) (l.take (spl l.length)) i rfl
        simp at this ⊢; omega
      · rw [D.path_ge (by omega) (by omega)]
        have := ih (l.drop (spl l.length)).length (by simp; omega) (l.drop (spl l.length)) (i - spl l.length) rfl
        simp at this ⊢; omega

theorem strOne (r : ByteArray) : ∀ u ∈ [Value.string r], u.oneCell' = true := by simp [Value.oneCell']
/-- The texts as cells. -/
def strV (L : List ByteArray) : List Value := L.map Value.string
theorem strV_snoc (L : List ByteArray) (x : ByteArray) : strV (L ++ [x]) = strV L ++ [.string x] := by simp [strV]
/-- A slice of one's ownDg that holds the texts. -/
def OwnS (w : World) (B : Nat) (v : Value) (L : List ByteArray) : Prop := w.ownsRow B 9 1 v L.length (strV L)
theorem OwnS.nil (w : World) (B : Nat) : OwnS w B (.slice none 0 0) [] := World.ownsRow_nil _ _ _ _
theorem OwnS.strs {w : World} {B : Nat} {v : Value} {L : List ByteArray} (h : OwnS w B v L) : Strs w v L := Strs.own h

set_option maxRecDepth 100000 in
set_option maxHeartbeats 2000000 in
theorem path_c (N : Nat) : ∀ (L : List ByteArray) (v : Value) (i : Nat) (w : World), L.length ≤ N → L.length ≤ 1000000 → i < L.length → Strs w v L → Short L → Tab w →
    Calls Tryd.prog 58 #[v, .int .i64 i] w fun e w' => ∃ v', e = .returned v' ∧ OwnS w' w.heap.size v' (dg.path L i) ∧ Below w.heap.size w w' := by
  induction N with
  | zero => intro L v i w hN hL hi; omega
  | succ N ih =>
    intro L v i w hN hL hi hS hsh hT
    have HT := Lib.hid hT
    have HSh := Lib.hid hsh
    clear hT hsh
    by_cases h1 : L.length = 1
    · have HE := Lib.hid (dg.path_one (l := L) (i := i) (by omega))
      obtain ⟨a, cap, rfl, hc, hm⟩ := hS.open0
      rw [HE.out, h1]
      clear hS hi h1 hc
      go_enter Tryd.func58, Tryd.ntmps58
      go_wp2_with fail
      go_ret
      exact ⟨_, rfl, OwnS.nil _ _, Below.refl _ _⟩
    · obtain ⟨i0, hi0, hz0, hz1, hz2⟩ := info_parts Tryd.info9
      obtain ⟨k, HK⟩ : ∃ k, Hid (spl L.length = k) := ⟨_, Lib.hid rfl⟩
      have hk1 : 1 ≤ k := by rw [← HK.out]; exact spl_pos _
      have hk2 : k < L.length := by rw [← HK.out]; exact spl_lt (by omega)
      have HSp := Lib.hid (fun w' => split_c L.length w' (by omega) (by omega))
      rw [HK.out] at HSp
      obtain ⟨b, o, cap, rfl, hc, hm, hb, hcell⟩ := hS.open1 (by omega)
      have HA := Lib.hid (fun (w' : World) (hw : Below w.heap.size w w') => (Strs.take hc hm hb hcell (k := k) (by omega)).below hw)
      have HB := Lib.hid (fun (w' : World) (hw : Below w.heap.size w w') => (Strs.drop hc hm hb hcell (k := k) (by omega)).below hw)
      have hk0 : 0 ≤ (k : Int) := by omega
      unfold maxLen at hm
      by_cases hik : i < k
      · have HE := Lib.hid (dg.path_lt (l := L) (i := i) (by omega) (by rw [HK.out]; exact hik))
        rw [HK.out] at HE
        have HC1 := Lib.hid (fun (w' : World) (hw : Below w.heap.size w w') => ih (L.take k) _ i w' (by simp; omega) (by simp; omega) (by simp; omega) (HA.out w' hw) (HSh.out.take k) (HT.out.below hw))
        have HC2 := Lib.hid (fun (w' : World) (hw : Below w.heap.size w w') => root_c N (L.drop k) _ w' (by simp; omega) (HB.out w' hw) (HSh.out.drop k) (HT.out.below hw))
        obtain ⟨n, HN⟩ : ∃ n, Hid (L.length = n) := ⟨_, Lib.hid rfl⟩
        obtain ⟨r, R1⟩ : ∃ r, Hid (dg.root (L.drop k) = r) := ⟨_, Lib.hid rfl⟩
        obtain ⟨P, HP⟩ : ∃ P, Hid (dg.path (L.take k) i = P) := ⟨_, Lib.hid rfl⟩
        have hPl : P.length ≤ 1000000 := by rw [← HP.out]; exact Nat.le_trans (dg.path_len _ _) (by simp; omega)
        rw [HE.out, R1.out, HP.out]
        rw [R1.out] at HC2
        rw [HP.out] at HC1
        rw [HN.out] at hc hk2 HC2 HSp hN h1 hL hi ⊢
        clear hcell hS ih HE R1 HP HA HB
        have hck : ¬ cap = k := by omega
        have hb63 : P.length + 1 ≤ maxLen := by unfold maxLen; omega
        have hb16 : (P.length + 1) * 16 ≤ 140737488355328 := by omega
        have hkn : (k : Int) ≤ (n : Int) := by omega
        have hkc : (k : Int) ≤ (cap : Int) := by omega
        have hnc : (n : Int) ≤ (cap : Int) := by omega
        have hikI : (i : Int) < (k : Int) := by omega
        go_enter Tryd.func58, Tryd.ntmps58
        go_wp2_with fail
        refine (HSp.out _).mono ?_
        rintro e w1 ⟨rfl, rfl⟩
        go_wp2_with fail
        go_region_held3 (fun w' => Below w1.heap.size w1 w')
          (first | assumption | exact (Below.refl _ _).drew | exact btD (by assumption) (by assumption) | exact Below.alloc (by assumption) (Below.size (by assumption)) _ | exact below_app hb13 hown hb13.size hgrow)
          (first | (refine step_append_lies _ (by rfl) _ _ _ (by rfl) w1.heap.size 9 i0 (.string ⟨#[]⟩) 1 16 Tryd.underlying39 hi0 hz0 hz1 hz2 (by rfl) (by decide) v1 P.length (strV P) (by rfl) (World.ownsRow.alloc (show w3.ownsRow w1.heap.size 9 1 v1 P.length (strV P) from hown) _) ⟨w3.heap.size, 0, none⟩ 1 1 [.string r] (by rfl) (by rfl) (World.news_of_block (heap_alloc_new w3 _)) (strOne r) (by decide) hb63 hb16 (Nat.le_trans hz3 (by rw [World.size_alloc]; exact Nat.le_succ _)) (w3.heap.size + 1) (by rw [World.size_alloc]) ?_; intro g cp w4 hown4 hgrow hat hgl) | (go_at_call 58; refine (HC1.out _ (by first | assumption | exact (Below.refl _ _).drew)).mono ?_; rintro e1 w2 ⟨v1, rfl, hown, hb2⟩) | (go_at_call 30; refine (HC2.out _ (by first | assumption | exact (Below.refl _ _).drew | exact btD (by assumption) (by assumption))).mono ?_; rintro e1 w3 ⟨rfl, hb3⟩; replace hown := own_below hown hb3; have hb13 : Below w1.heap.size w1 w3 := btD (btD (Below.refl _ w1).drew hb2) hb3; have hz3 := hb13.size))
        have hb14 : Below w1.heap.size w1 w4 := below_app hb13 hown hb13.size hgrow
        go_wp2_with fail
        go_ret
        exact ⟨_, rfl, by unfold OwnS; rw [strV_snoc, List.length_append]; exact hown4, hb14⟩
      · have HE := Lib.hid (dg.path_ge (l := L) (i := i) (by omega) (by rw [HK.out]; omega))
        rw [HK.out] at HE
        have HC1 := Lib.hid (fun (w' : World) (hw : Below w.heap.size w w') => ih (L.drop k) _ (i - k) w' (by simp; omega) (by simp; omega) (by simp; omega) (HB.out w' hw) (HSh.out.drop k) (HT.out.below hw))
        have HC2 := Lib.hid (fun (w' : World) (hw : Below w.heap.size w w') => root_c N (L.take k) _ w' (by simp; omega) (HA.out w' hw) (HSh.out.take k) (HT.out.below hw))
        obtain ⟨n, HN⟩ : ∃ n, Hid (L.length = n) := ⟨_, Lib.hid rfl⟩
        obtain ⟨r, R1⟩ : ∃ r, Hid (dg.root (L.take k) = r) := ⟨_, Lib.hid rfl⟩
        obtain ⟨P, HP⟩ : ∃ P, Hid (dg.path (L.drop k) (i - k) = P) := ⟨_, Lib.hid rfl⟩
        have hPl : P.length ≤ 1000000 := by rw [← HP.out]; exact Nat.le_trans (dg.path_len _ _) (by simp; omega)
        rw [HE.out, R1.out, HP.out]
        rw [R1.out] at HC2
        rw [HP.out] at HC1
        have e1 : ((i - k : Nat) : Int) = (i : Int) - (k : Int) := by omega
        rw [e1] at HC1
        clear e1
        rw [HN.out] at hc hk2 HC1 HSp hN h1 hL hi ⊢
        clear hcell hS ih HE R1 HP HA HB
        have hck : ¬ cap = k := by omega
        have hb63 : P.length + 1 ≤ maxLen := by unfold maxLen; omega
        have hb16 : (P.length + 1) * 16 ≤ 140737488355328 := by omega
        have hkn : (k : Int) ≤ (n : Int) := by omega
        have hkc : (k : Int) ≤ (cap : Int) := by omega
        have hnc : (n : Int) ≤ (cap : Int) := by omega
        have hikI : ¬ (i : Int) < (k : Int) := by omega
        have hd : decide ((i : Int) < (k : Int)) = false := by simp; omega
        have hwr : IntKind.i64.wrap ((i : Int) - (k : Int)) = (i : Int) - (k : Int) := by rw [IntKind.wrap_i64]; omega
        go_enter Tryd.func58, Tryd.ntmps58
        go_wp2_with fail
        refine (HSp.out _).mono ?_
        rintro e w1 ⟨rfl, rfl⟩
        go_wp2_with fail
        go_region_held3 (fun w' => Below w1.heap.size w1 w')
          (first | assumption | exact (Below.refl _ _).drew | exact btD (by assumption) (by assumption) | exact Below.alloc (by assumption) (Below.size (by assumption)) _ | exact below_app hb13 hown hb13.size hgrow)
          (first | (refine step_append_lies _ (by rfl) _ _ _ (by rfl) w1.heap.size 9 i0 (.string ⟨#[]⟩) 1 16 Tryd.underlying39 hi0 hz0 hz1 hz2 (by rfl) (by decide) v1 P.length (strV P) (by rfl) (World.ownsRow.alloc (show w3.ownsRow w1.heap.size 9 1 v1 P.length (strV P) from hown) _) ⟨w3.heap.size, 0, none⟩ 1 1 [.string r] (by rfl) (by rfl) (World.news_of_block (heap_alloc_new w3 _)) (strOne r) (by decide) hb63 hb16 (Nat.le_trans hz3 (by rw [World.size_alloc]; exact Nat.le_succ _)) (w3.heap.size + 1) (by rw [World.size_alloc]) ?_; intro g cp w4 hown4 hgrow hat hgl) | (go_at_call 58; refine (HC1.out _ (by first | assumption | exact (Below.refl _ _).drew)).mono ?_; rintro e1 w2 ⟨v1, rfl, hown, hb2⟩) | (go_at_call 30; refine (HC2.out _ (by first | assumption | exact (Below.refl _ _).drew | exact btD (by assumption) (by assumption))).mono ?_; rintro e1 w3 ⟨rfl, hb3⟩; replace hown := own_below hown hb3; have hb13 : Below w1.heap.size w1 w3 := btD (btD (Below.refl _ w1).drew hb2) hb3; have hz3 := hb13.size))
        have hb14 : Below w1.heap.size w1 w4 := below_app hb13 hown hb13.size hgrow
        go_wp2_with fail
        go_ret
        exact ⟨_, rfl, by unfold OwnS; rw [strV_snoc, List.length_append]; exact hown4, hb14⟩

set_option maxRecDepth 100000 in
set_option maxHeartbeats 400000 in
theorem proof_c (L : List ByteArray) (v : Value) (i : Nat) (w : World) (hL : L.length ≤ 1000000) (hi : i < L.length) (hS : Strs w v L) (hsh : Short L) (hT : Tab w) :
    Calls Tryd.prog 37 #[v, .int .i64 i] w fun e w' => ∃ v', e = .returned (.tuple #[v', .int .i64 0]) ∧ OwnS w' w.heap.size v' (dg.path L i) ∧ Below w.heap.size w w' := by
  have HC := Lib.hid (path_c L.length L v i w (Nat.le_refl _) hL hi hS hsh hT)
  obtain ⟨a, cap, rfl, hc, hm⟩ := hS.open0
  obtain ⟨n, HN⟩ : ∃ n, Hid (L.length = n) := ⟨_, Lib.hid rfl⟩
  rw [HN.out] at HC hi hL hc ⊢
  clear hT hsh hS
  have h0 : ¬ (i : Int) < 0 := by omega
  have h0' : decide ((i : Int) < 0) = false := by simp
  have h1' : decide ((n : Int) ≤ (i : Int)) = false := by simp; omega
  go_enter Tryd.func37, Tryd.ntmps37
  go_wp2_with fail
  refine HC.out.mono ?_
  rintro e w1 ⟨v', rfl, hown, hb⟩
  go_wp2_with fail
  go_ret2
  exact ⟨_, rfl, hown, hb⟩

set_option maxRecDepth 100000 in
set_option maxHeartbeats 400000 in
theorem proof_bad (L : List ByteArray) (v : Value) (i : Int) (w : World) (hL : L.length ≤ 1000000) (hi : i < 0 ∨ (L.length : Int) ≤ i) (hS : Strs w v L) :
    Calls Tryd.prog 37 #[v, .int .i64 i] w fun e w' => e = .returned (.tuple #[.slice none 0 0, .int .i64 2]) ∧ w' = w := by
  obtain ⟨a, cap, rfl, hc, hm⟩ := hS.open0
  obtain ⟨n, HN⟩ : ∃ n, Hid (L.length = n) := ⟨_, Lib.hid rfl⟩
  rw [HN.out] at hi ⊢
  clear hS hc
  by_cases h0 : i < 0
  · have h0' : decide (i < 0) = true := by simp; omega
    go_enter Tryd.func37, Tryd.ntmps37
    go_wp2_with fail
    go_ret2
    exact ⟨rfl, rfl⟩
  · have h0' : decide (i < 0) = false := by simp; omega
    have h1' : decide ((n : Int) ≤ i) = true := by simp; omega
    have h1 : (n : Int) ≤ i := by omega
    go_enter Tryd.func37, Tryd.ntmps37
    go_wp2_with fail
    go_ret2
    exact ⟨rfl, rfl⟩
end Go.Proofs.YtpapfegbodolgaaDoor
end

section
set_option linter.unusedSimpArgs false
set_option linter.unusedVariables false
namespace Go.Proofs.YtpapfegbodolgaaDoor
open Go.RowKit

theorem Dig.beg_len (D : Dig) (l : List BA) (m : Nat) (b : Bool) (h1 : 1 ≤ m) (hm : m ≤ l.length) : (D.beg l m b).length ≤ l.length := by
  induction h : l.length using Nat.strongRecOn generalizing l m b with
  | ind n ih =>
    subst h
    by_cases he : m = l.length
    · rw [D.beg_all he]; cases b <;> simp; omega
    · have hlt := spl_lt (n := l.length) (by omega)
      have hp := spl_pos l.length
      by_cases hk : m ≤ spl l.length
      · rw [D.beg_le b (by omega) (by omega) hk]
        have := ih (l.take (spl l.length)).length (by simp; omega) (l.take (spl l.length)) m b h1 (by simp; omega) rfl
        simp at this ⊢; omega
      · rw [D.beg_gt b (by omega) (by omega) (by omega)]
        have := ih (l.drop (spl l.length)).length (by simp; omega) (l.drop (spl l.length)) (m - spl l.length) false (by omega) (by simp; omega) rfl
        simp at this ⊢; omega
theorem own_one (w : World) (B : Nat) (r : ByteArray) (hB : B ≤ w.heap.size) : OwnS (w.alloc (.cells #[.string r] 9)) B (.slice (some ⟨w.heap.size, 0, none⟩) 1 1) [r] :=
  ⟨rfl, .inr ⟨w.heap.size, 1, #[.string r], rfl, hB, heap_alloc_new w _, Nat.le_refl _, by unfold maxLen; omega, rfl, rfl⟩⟩

set_option maxRecDepth 100000 in
set_option maxHeartbeats 2000000 in
theorem beg_c (N : Nat) : ∀ (L : List ByteArray) (v : Value) (i : Nat) (whole : Bool) (w : World), L.length ≤ N → L.length ≤ 1000000 → 1 ≤ i → i ≤ L.length → Strs w v L → Short L → Tab w →
    Calls Tryd.prog 63 #[v, .int .i64 i, .bool whole] w fun e w' => ∃ v', e = .returned v' ∧ OwnS w' w.heap.size v' (dg.beg L i whole) ∧ Below w.heap.size w w' := by
  induction N with
  | zero => intro L v i whole w hN hL hi1 hi; omega
  | succ N ih =>
    intro L v i whole w hN hL hi1 hi hS hsh hT
    have HT := Lib.hid hT
    have HSh := Lib.hid hsh
    by_cases h1 : i = L.length
    · have HE := Lib.hid (dg.beg_all (l := L) h1 whole)
      have HC2 := Lib.hid (root_c (N + 1) L v w hN hS hsh hT)
      obtain ⟨a, cap, rfl, hc, hm⟩ := hS.open0
      obtain ⟨n, HN⟩ : ∃ n, Hid (L.length = n) := ⟨_, Lib.hid rfl⟩
      obtain ⟨r, R1⟩ : ∃ r, Hid (dg.root L = r) := ⟨_, Lib.hid rfl⟩
      rw [HE.out, R1.out]
      rw [R1.out] at HC2
      rw [HN.out] at HC2 hc h1 hL hi ⊢
      subst h1
      clear hS hi hc hsh hT
      have hq : ((i : Int) == (i : Int)) = true := by simp
      cases whole with
      | true =>
        go_enter Tryd.func63, Tryd.ntmps63
        go_wp2_with fail
        go_ret
        exact ⟨_, rfl, OwnS.nil _ _, Below.refl _ _⟩
      | false =>
        go_enter Tryd.func63, Tryd.ntmps63
        go_wp2_with fail
        refine HC2.out.mono ?_
        rintro e w1 ⟨rfl, hb1⟩
        go_wp2_with fail
        go_ret
        exact ⟨_, rfl, own_one w1 _ r hb1.size, hb1.alloc hb1.size _⟩
    · clear hsh hT
      obtain ⟨i0, hi0, hz0, hz1, hz2⟩ := info_parts Tryd.info9
      obtain ⟨k, HK⟩ : ∃ k, Hid (spl L.length = k) := ⟨_, Lib.hid rfl⟩
      have hk1 : 1 ≤ k := by rw [← HK.out]; exact spl_pos _
      have hk2 : k < L.length := by rw [← HK.out]; exact spl_lt (by omega)
      have HSp := Lib.hid (fun w' => split_c L.length w' (by omega) (by omega))
      rw [HK.out] at HSp
      obtain ⟨b, o, cap, rfl, hc, hm, hb, hcell⟩ := hS.open1 (by omega)
      have HA := Lib.hid (fun (w' : World) (hw : Below w.heap.size w w') => (Strs.take hc hm hb hcell (k := k) (by omega)).below hw)
      have HB := Lib.hid (fun (w' : World) (hw : Below w.heap.size w w') => (Strs.drop hc hm hb hcell (k := k) (by omega)).below hw)
      have hk0 : 0 ≤ (k : Int) := by omega
      unfold maxLen at hm
      have hne : ((i : Int) == (L.length : Int)) = false := by simp; omega
      by_cases hik : i ≤ k
      · have HE := Lib.hid (dg.beg_le (l := L) (m := i) whole (by omega) (by omega) (by rw [HK.out]; exact hik))
        rw [HK.out] at HE
        have HC1 := Lib.hid (fun (w' : World) (hw : Below w.heap.size w w') => ih (L.take k) _ i whole w' (by simp; omega) (by simp; omega) hi1 (by simp; omega) (HA.out w' hw) (HSh.out.take k) (HT.out.below hw))
        have HC2 := Lib.hid (fun (w' : World) (hw : Below w.heap.size w w') => root_c N (L.drop k) _ w' (by simp; omega) (HB.out w' hw) (HSh.out.drop k) (HT.out.below hw))
        obtain ⟨n, HN⟩ : ∃ n, Hid (L.length = n) := ⟨_, Lib.hid rfl⟩
        obtain ⟨r, R1⟩ : ∃ r, Hid (dg.root (L.drop k) = r) := ⟨_, Lib.hid rfl⟩
        obtain ⟨P, HP⟩ : ∃ P, Hid (dg.beg (L.take k) i whole = P) := ⟨_, Lib.hid rfl⟩
        have hPl : P.length ≤ 1000000 := by rw [← HP.out]; exact Nat.le_trans (dg.beg_len _ _ _ (by omega) (by simp; omega)) (by simp; omega)
        rw [HE.out, R1.out, HP.out]
        rw [R1.out] at HC2
        rw [HP.out] at HC1
        rw [HN.out] at hc hk2 HC2 HSp hN h1 hL hi hne ⊢
        clear hcell hS ih HE R1 HP HA HB
        have hck : ¬ cap = k := by omega
        have hb63 : P.length + 1 ≤ maxLen := by unfold maxLen; omega
        have hb16 : (P.length + 1) * 16 ≤ 140737488355328 := by omega
        have hkn : (k : Int) ≤ (n : Int) := by omega
        have hkc : (k : Int) ≤ (cap : Int) := by omega
        have hnc : (n : Int) ≤ (cap : Int) := by omega
        have hikI : (i : Int) ≤ (k : Int) := by omega
        have hd : decide ((i : Int) ≤ (k : Int)) = true := by simp; omega
        go_enter Tryd.func63, Tryd.ntmps63
        go_wp2_with fail
        refine (HSp.out _).mono ?_
        rintro e w1 ⟨rfl, rfl⟩
        go_wp2_with fail
        go_region_held3 (fun w' => Below w1.heap.size w1 w')
          (first | assumption | exact (Below.refl _ _).drew | exact btD (by assumption) (by assumption) | exact Below.alloc (by assumption) (Below.size (by assumption)) _ | exact below_app hb13 hown hb13.size hgrow)
          (first | (refine step_append_lies _ (by rfl) _ _ _ (by rfl) w1.heap.size 9 i0 (.string ⟨#[]⟩) 1 16 Tryd.underlying39 hi0 hz0 hz1 hz2 (by rfl) (by decide) v1 P.length (strV P) (by rfl) (World.ownsRow.alloc (show w3.ownsRow w1.heap.size 9 1 v1 P.length (strV P) from hown) _) ⟨w3.heap.size, 0, none⟩ 1 1 [.string r] (by rfl) (by rfl) (World.news_of_block (heap_alloc_new w3 _)) (strOne r) (by decide) hb63 hb16 (Nat.le_trans hz3 (by rw [World.size_alloc]; exact Nat.le_succ _)) (w3.heap.size + 1) (by rw [World.size_alloc]) ?_; intro g cp w4 hown4 hgrow hat hgl) | (go_at_call 63; refine (HC1.out _ (by first | assumption | exact (Below.refl _ _).drew)).mono ?_; rintro e1 w2 ⟨v1, rfl, hown, hb2⟩) | (go_at_call 30; refine (HC2.out _ (by first | assumption | exact (Below.refl _ _).drew | exact btD (by assumption) (by assumption))).mono ?_; rintro e1 w3 ⟨rfl, hb3⟩; replace hown := own_below hown hb3; have hb13 : Below w1.heap.size w1 w3 := btD (btD (Below.refl _ w1).drew hb2) hb3; have hz3 := hb13.size))
        have hb14 : Below w1.heap.size w1 w4 := below_app hb13 hown hb13.size hgrow
        go_wp2_with fail
        go_ret
        exact ⟨_, rfl, by unfold OwnS; rw [strV_snoc, List.length_append]; exact hown4, hb14⟩
      · have HE := Lib.hid (dg.beg_gt (l := L) (m := i) whole (by omega) (by omega) (by rw [HK.out]; omega))
        rw [HK.out] at HE
        have HC1 := Lib.hid (fun (w' : World) (hw : Below w.heap.size w w') => ih (L.drop k) _ (i - k) false w' (by simp; omega) (by simp; omega) (by omega) (by simp; omega) (HB.out w' hw) (HSh.out.drop k) (HT.out.below hw))
        have HC2 := Lib.hid (fun (w' : World) (hw : Below w.heap.size w w') => root_c N (L.take k) _ w' (by simp; omega) (HA.out w' hw) (HSh.out.take k) (HT.out.below hw))
        obtain ⟨n, HN⟩ : ∃ n, Hid (L.length = n) := ⟨_, Lib.hid rfl⟩
        obtain ⟨r, R1⟩ : ∃ r, Hid (dg.root (L.take k) = r) := ⟨_, Lib.hid rfl⟩
        obtain ⟨P, HP⟩ : ∃ P, Hid (dg.beg (L.drop k) (i - k) false = P) := ⟨_, Lib.hid rfl⟩
        have hPl : P.length ≤ 1000000 := by rw [← HP.out]; exact Nat.le_trans (dg.beg_len _ _ _ (by omega) (by simp; omega)) (by simp; omega)
        rw [HE.out, R1.out, HP.out]
        rw [R1.out] at HC2
        rw [HP.out] at HC1
        have e1 : ((i - k : Nat) : Int) = (i : Int) - (k : Int) := by omega
        rw [e1] at HC1
        clear e1
        rw [HN.out] at hc hk2 HC1 HSp hN h1 hL hi hne ⊢
        clear hcell hS ih HE R1 HP HA HB
        have hck : ¬ cap = k := by omega
        have hb63 : P.length + 1 ≤ maxLen := by unfold maxLen; omega
        have hb16 : (P.length + 1) * 16 ≤ 140737488355328 := by omega
        have hkn : (k : Int) ≤ (n : Int) := by omega
        have hkc : (k : Int) ≤ (cap : Int) := by omega
        have hnc : (n : Int) ≤ (cap : Int) := by omega
        have hikI : ¬ (i : Int) ≤ (k : Int) := by omega
        have hd : decide ((i : Int) ≤ (k : Int)) = false := by simp; omega
        have hwr : IntKind.i64.wrap ((i : Int) - (k : Int)) = (i : Int) - (k : Int) := by rw [IntKind.wrap_i64]; omega
        go_enter Tryd.func63, Tryd.ntmps63
        go_wp2_with fail
        refine (HSp.out _).mono ?_
        rintro e w1 ⟨rfl, rfl⟩
        go_wp2_with fail
        go_region_held3 (fun w' => Below w1.heap.size w1 w')
          (first | assumption | exact (Below.refl _ _).drew | exact btD (by assumption) (by assumption) | exact Below.alloc (by assumption) (Below.size (by assumption)) _ | exact below_app hb13 hown hb13.size hgrow)
          (first | (refine step_append_lies _ (by rfl) _ _ _ (by rfl) w1.heap.size 9 i0 (.string ⟨#[]⟩) 1 16 Tryd.underlying39 hi0 hz0 hz1 hz2 (by rfl) (by decide) v1 P.length (strV P) (by rfl) (World.ownsRow.alloc (show w3.ownsRow w1.heap.size 9 1 v1 P.length (strV P) from hown) _) ⟨w3.heap.size, 0, none⟩ 1 1 [.string r] (by rfl) (by rfl) (World.news_of_block (heap_alloc_new w3 _)) (strOne r) (by decide) hb63 hb16 (Nat.le_trans hz3 (by rw [World.size_alloc]; exact Nat.le_succ _)) (w3.heap.size + 1) (by rw [World.size_alloc]) ?_; intro g cp w4 hown4 hgrow hat hgl) | (go_at_call 63; refine (HC1.out _ (by first | assumption | exact (Below.refl _ _).drew)).mono ?_; rintro e1 w2 ⟨v1, rfl, hown, hb2⟩) | (go_at_call 30; refine (HC2.out _ (by first | assumption | exact (Below.refl _ _).drew | exact btD (by assumption) (by assumption))).mono ?_; rintro e1 w3 ⟨rfl, hb3⟩; replace hown := own_below hown hb3; have hb13 : Below w1.heap.size w1 w3 := btD (btD (Below.refl _ w1).drew hb2) hb3; have hz3 := hb13.size))
        have hb14 : Below w1.heap.size w1 w4 := below_app hb13 hown hb13.size hgrow
        go_wp2_with fail
        go_ret
        exact ⟨_, rfl, by unfold OwnS; rw [strV_snoc, List.length_append]; exact hown4, hb14⟩

set_option maxRecDepth 100000 in
set_option maxHeartbeats 400000 in
theorem ext_c (L : List ByteArray) (v : Value) (m : Nat) (w : World) (hL : L.length ≤ 1000000) (h1 : 1 ≤ m) (hm : m ≤ L.length) (hS : Strs w v L) (hsh : Short L) (hT : Tab w) :
    Calls Tryd.prog 42 #[v, .int .i64 m] w fun e w' => ∃ v', e = .returned (.tuple #[v', .int .i64 0]) ∧ OwnS w' w.heap.size v' (dg.beg L m true) ∧ Below w.heap.size w w' := by
  have HC := Lib.hid (beg_c L.length L v m true w (Nat.le_refl _) hL h1 hm hS hsh hT)
  obtain ⟨a, cap, rfl, hc, hm'⟩ := hS.open0
  obtain ⟨n, HN⟩ : ∃ n, Hid (L.length = n) := ⟨_, Lib.hid rfl⟩
  rw [HN.out] at HC hm hL hc ⊢
  clear hT hsh hS
  have h0' : decide ((m : Int) < 0) = false := by simp
  have h1' : decide ((n : Int) < (m : Int)) = false := by simp; omega
  have h2' : ((m : Int) == 0) = false := by simp; omega
  go_enter Tryd.func42, Tryd.ntmps42
  go_wp2_with fail
  refine HC.out.mono ?_
  rintro e w1 ⟨v', rfl, hown, hb⟩
  go_wp2_with fail
  go_ret2
  exact ⟨_, rfl, hown, hb⟩

set_option maxRecDepth 100000 in
set_option maxHeartbeats 400000 in
theorem ext_zero (L : List ByteArray) (v : Value) (w : World) (hS : Strs w v L) :
    Calls Tryd.prog 42 #[v, .int .i64 0] w fun e w' => e = .returned (.tuple #[.slice none 0 0, .int .i64 0]) ∧ w' = w := by
  obtain ⟨a, cap, rfl, hc, hm'⟩ := hS.open0
  obtain ⟨n, HN⟩ : ∃ n, Hid (L.length = n) := ⟨_, Lib.hid rfl⟩
  rw [HN.out] at hc ⊢
  clear hS
  have h1' : decide ((n : Int) < 0) = false := by simp
  go_enter Tryd.func42, Tryd.ntmps42
  go_wp2_with fail
  go_ret2
  exact ⟨rfl, rfl⟩

set_option maxRecDepth 100000 in
set_option maxHeartbeats 400000 in
theorem ext_bad (L : List ByteArray) (v : Value) (m : Int) (w : World) (hi : m < 0 ∨ (L.length : Int) < m) (hS : Strs w v L) :
    Calls Tryd.prog 42 #[v, .int .i64 m] w fun e w' => e = .returned (.tuple #[.slice none 0 0, .int .i64 2]) ∧ w' = w := by
  obtain ⟨a, cap, rfl, hc, hm⟩ := hS.open0
  obtain ⟨n, HN⟩ : ∃ n, Hid (L.length = n) := ⟨_, Lib.hid rfl⟩
  rw [HN.out] at hi ⊢
  clear hS hc
  by_cases h0 : m < 0
  · have h0' : decide (m < 0) = true := by simp; omega
    go_enter Tryd.func42, Tryd.ntmps42
    go_wp2_with fail
    go_ret2
    exact ⟨rfl, rfl⟩
  · have h0' : decide (m < 0) = false := by simp; omega
    have h1' : decide ((n : Int) < m) = true := by simp; omega
    have h1 : (n : Int) < m := by omega
    go_enter Tryd.func42, Tryd.ntmps42
    go_wp2_with fail
    go_ret2
    exact ⟨rfl, rfl⟩
end Go.Proofs.YtpapfegbodolgaaDoor
end
