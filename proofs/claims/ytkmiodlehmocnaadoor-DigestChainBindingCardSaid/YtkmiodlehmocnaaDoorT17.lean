/- WALKS: few, binary, left of the laws. -/
import Derived.Test.YtkmiodlehmocnaaDoorT11
set_option linter.unusedVariables false
namespace Go.Proofs.YtkmiodlehmocnaaDoor
open Go.RowKit

/-- A slice of texts as it came in. -/
def InS (w : World) (v : Value) (L : List ByteArray) : Prop := ∃ a n cap, v = .slice a n cap ∧ n = L.length ∧ n ≤ maxLen ∧ (1 ≤ n → ∃ b o, a = some ⟨b, o, none⟩ ∧ b < w.heap.size ∧ ∀ j, j < n → w.cell? ⟨b, o + j, none⟩ = some (.string (L.getD j ⟨#[]⟩)))
theorem InS.below {w w' : World} {v : Value} {L : List ByteArray} (h : InS w v L) (hb : Below w.heap.size w w') : InS w' v L := by
  obtain ⟨a, n, cap, rfl, hn, hm, h⟩ := h
  refine ⟨a, n, cap, rfl, hn, hm, fun h1 => ?_⟩
  obtain ⟨b, o, rfl, hbl, hcell⟩ := h h1
  exact ⟨b, o, rfl, Nat.lt_of_lt_of_le hbl hb.size, fun j hj => (hb.cell (p := ⟨b, o + j, none⟩) hbl).trans (hcell j hj)⟩

/-- A text cut to 60 bytes; the first n texts of a list, each cut. -/
def cut60 (s : ByteArray) : ByteArray := s.extract 0 (min (s.size : Int) 60).toNat
theorem cut60_size (s : ByteArray) : (cut60 s).size ≤ 60 := by unfold cut60; rw [ByteArray.size_extract]; omega
def fewL (L : List ByteArray) (n : Nat) : List ByteArray := (L.take n).map cut60
theorem fewL_length (L : List ByteArray) (n : Nat) : (fewL L n).length = min n L.length := by simp [fewL]
theorem fewL_short (L : List ByteArray) (n : Nat) : Short (fewL L n) := fun x hx => by
  simp only [fewL, List.mem_map] at hx
  obtain ⟨y, _, rfl⟩ := hx
  exact Nat.le_trans (cut60_size y) (by decide)
theorem fewL_size {L : List ByteArray} {n : Nat} {x : ByteArray} (hx : x ∈ fewL L n) : x.size ≤ 60 := by
  simp only [fewL, List.mem_map] at hx
  obtain ⟨y, _, rfl⟩ := hx
  exact cut60_size y
theorem fewL_succ (L : List ByteArray) {k : Nat} (hk : k < L.length) : fewL L (k + 1) = fewL L k ++ [cut60 (L.getD k ⟨#[]⟩)] := by
  unfold fewL
  rw [List.take_add_one, List.map_append, List.getElem?_eq_getElem hk, List.getD_eq_getElem?_getD, List.getElem?_eq_getElem hk]; rfl

set_option maxRecDepth 100000 in
set_option maxHeartbeats 2000000 in
theorem few_c (L : List ByteArray) (v : Value) (N : Nat) (w : World) (hN : N ≤ 1000) (hS : InS w v L) (hz : ∀ x ∈ L, x.size ≤ maxLen) :
    Calls Tryd.prog 19 #[v, .int .i64 N] w fun e w' => ∃ v', e = .returned v' ∧ OwnS w' w.heap.size v' (fewL L N) ∧ (fewL L N = [] → v' = .slice none 0 0) ∧ Below w.heap.size w w' := by
  obtain ⟨a, n, cap, rfl, hn, hm, h⟩ := hS
  have H := Lib.hid h
  have HN := Lib.hid hn
  have HZ := Lib.hid hz
  clear h hn hz
  unfold maxLen at hm
  obtain ⟨i0, hi0, hz0, hz1, hz2⟩ := info_parts Tryd.info9
  go_enter Tryd.func19, Tryd.ntmps19
  go_wp2_with fail
  go_loopw [5, 6] (fun x i wr => ∃ k : Nat, k ≤ n ∧ k ≤ N ∧ i = .int .i64 k ∧ OwnS wr w.heap.size x (fewL L k) ∧ Hid (k = 0 → x = .slice none 0 0) ∧ Below w.heap.size w wr) (fun _ i _ => n - (intOf i).toNat)
  case atStart => exact ⟨0, by omega, by omega, rfl, OwnS.nil _ _, Lib.hid (fun _ => rfl), Below.refl _ _⟩
  case round =>
    obtain ⟨k, hk, hkN, rfl, hown, HNil, hB⟩ := hrel
    by_cases hlt : k < n ∧ k < N
    · obtain ⟨hlt, hltN⟩ := hlt
      obtain ⟨b, o, rfl, hbl, hcell⟩ := H.out (by omega)
      obtain ⟨x, HX⟩ : ∃ x, Hid (L.getD k ⟨#[]⟩ = x) := ⟨_, Lib.hid rfl⟩
      have hxz : x.size ≤ 9223372036854775807 := by
        have := HZ.out x (by rw [← HX.out, List.getD_eq_getElem?_getD, List.getElem?_eq_getElem (by rw [← HN.out]; exact hlt)]; exact List.getElem_mem _)
        unfold maxLen at this; omega
      have hck := hcell k hlt
      rw [HX.out] at hck
      have HK : Hid (∀ w', Below w.heap.size w w' → w'.cell? ⟨b, o + k, none⟩ = some (.string x) ∧ Below w.heap.size w w') := Lib.hid fun w' hw => ⟨(hw.cell (p := ⟨b, o + k, none⟩) hbl).trans hck, hw⟩
      have HF := Lib.hid (fewL_succ L (k := k) (by rw [← HN.out]; exact hlt))
      rw [HX.out] at HF
      obtain ⟨y, HY⟩ : ∃ y, Hid (x.extract 0 (min (x.size : Int) 60).toNat = y) := ⟨_, Lib.hid rfl⟩
      have hy := HY.out
      have HFy : Hid (fewL L (k + 1) = fewL L k ++ [y]) := Lib.hid (by rw [HF.out, ← HY.out]; rfl)
      have hkl : (fewL L k).length = k := by rw [fewL_length, ← HN.out]; omega
      have HKL := Lib.hid hkl
      have hown' : wr.ownsRow w.heap.size 9 1 u5 k (strV (fewL L k)) := by have h := hown; unfold OwnS at h; rw [hkl] at h; exact h
      have hb63 : k + 1 ≤ maxLen := by unfold maxLen; omega
      have hb16 : (k + 1) * 16 ≤ 140737488355328 := by omega
      have m1 : 0 ≤ min (x.size : Int) 60 := by omega
      have m2 : min (x.size : Int) 60 ≤ (x.size : Int) := by omega
      have d1 : decide ((k : Int) < (n : Int)) = true := by simp; omega
      have d2 : decide ((k : Int) < (N : Int)) = true := by simp; omega
      clear hcell hck hkl HX hown
      go_wp2_with fail
      go_region_held3 (fun w' => w'.cell? ⟨b, o + k, none⟩ = some (.string x) ∧ Below w.heap.size w w')
        (first | assumption | exact HK.out _ hB.drew | (refine HK.out _ ((hB.alloc hB.size _).drew)) | (refine HK.out _ (hB.drew.alloc (by have := hB.size; simpa using this) _)) | (refine HK.out _ (below_of_append' hB hown' hB.size hgrow)))
        ((refine step_append_lies _ (by rfl) _ _ _ (by rfl) w.heap.size 9 i0 (.string ⟨#[]⟩) 1 16 Tryd.underlying26 hi0 hz0 hz1 hz2 (by rfl) (by decide) u5 k _ (by rfl) ((hown'.alloc _).drew) ⟨wr.heap.size, 0, none⟩ 1 1 [.string y] (by rfl) (by rfl) (World.news_of_block (heap_alloc_new wr _)) (strOne y) (by decide) hb63 hb16 (by have := hB.size; simp; omega) (wr.heap.size + 1) (by simp) ?_; intro g cp w1 hown1 hgrow hat hgl))
      have hBn : Below w.heap.size w w1 := below_of_append' hB hown' hB.size hgrow
      go_wp2_with fail
      refine ⟨⟨k + 1, by omega, by omega, by go_num, ?_, Lib.hid (fun h => by omega), hBn⟩, by simp [intOf]; omega⟩
      unfold OwnS
      rw [HFy.out, strV_snoc, List.length_append, HKL.out]
      exact hown1
    · have HE : Hid (fewL L k = fewL L N) := Lib.hid (by
        by_cases hkn : k = N
        · rw [hkn]
        · have : k = n := by omega
          unfold fewL
          rw [List.take_of_length_le (by rw [← HN.out]; omega), List.take_of_length_le (by rw [← HN.out]; omega)])
      have HO : Hid (OwnS wr w.heap.size u5 (fewL L N)) := Lib.hid (by rw [← HE.out]; exact hown)
      have HNN : Hid (fewL L N = [] → u5 = .slice none 0 0) := Lib.hid (fun h => HNil.out (by
        rw [← HE.out] at h
        have := congrArg List.length h
        rw [fewL_length, ← HN.out] at this
        simp at this; omega))
      clear hown HE
      by_cases hkn : k < n
      · have d1 : decide ((k : Int) < (n : Int)) = true := by simp; omega
        have d2 : decide (k < N) = false := by simp; omega
        clear hlt
        go_wp2_with fail
        go_ret
        exact ⟨_, rfl, HO.out, HNN.out, hB⟩
      · have d1 : decide ((k : Int) < (n : Int)) = false := by simp; omega
        clear hlt
        go_wp2_with fail
        go_ret
        exact ⟨_, rfl, HO.out, HNN.out, hB⟩

def binN (n : Nat) : Nat := if n = 0 then 0 else n.log2 + 1
theorem binN_half (n : Nat) (h : 1 ≤ n) : binN n = binN (n / 2) + 1 := by
  unfold binN
  rw [if_neg (by omega)]
  conv => lhs; rw [Nat.log2_def]
  by_cases h2 : 2 ≤ n
  · rw [if_pos h2, if_neg (by omega)]
  · rw [if_neg h2, if_pos (by omega)]

set_option maxRecDepth 100000 in
set_option maxHeartbeats 400000 in
theorem binary_c (n : Nat) (w : World) (hn : n ≤ 1000000) :
    Calls Tryd.prog 27 #[.int .i64 n] w fun e w' => e = .returned (.int .i64 (binN n)) ∧ w' = w := by
  go_enter Tryd.func27, Tryd.ntmps27
  go_wp2_with fail
  go_loop [0, 3] (fun i c => ∃ k q : Nat, k ≤ n ∧ i = .int .i64 k ∧ c = .int .i64 q ∧ q ≤ n - k ∧ Hid (q + binN k = binN n)) (fun i _ => (intOf i).toNat)
  case atStart => exact ⟨n, 0, Nat.le_refl _, rfl, rfl, by omega, Lib.hid (by omega)⟩
  case round =>
    obtain ⟨k, q, hk, rfl, rfl, hq, HQ⟩ := hrel
    by_cases h0 : 1 ≤ k
    · have HH := Lib.hid (binN_half k h0)
      have hd : decide (0 < (k : Int)) = true := by simp; omega
      go_wp2_with fail
      exact ⟨⟨k / 2, q + 1, by omega, by go_num, by go_num, by omega, Lib.hid (by rw [← HQ.out, HH.out]; omega)⟩, by simp [intOf]; omega⟩
    · obtain rfl : k = 0 := by omega
      have HF : Hid ((q : Int) = (binN n : Int)) := Lib.hid (by rw [← HQ.out]; simp [binN])
      rw [show ((0 : Nat) : Int) = 0 from rfl]
      go_wp2_with fail
      go_ret
      exact ⟨ret_int HF.out, rfl⟩

theorem spl_top {n k j : Nat} (h2 : 2 ≤ n) (hk : k = 2 ^ j) (h1 : k < n) (h3 : n ≤ 2 * k) : k = spl n := by
  unfold spl
  rw [hk]
  congr 1
  have : (n - 1).log2 = j := by
    rw [Nat.log2_eq_iff (by omega)]
    rw [Nat.pow_succ]
    omega
  exact this.symm

set_option maxRecDepth 100000 in
set_option maxHeartbeats 400000 in
theorem left_c (n : Nat) (w : World) (h2 : 2 ≤ n) (hn : n ≤ 9223372036854775807) :
    Calls Tryd.prog 34 #[.int .i64 n] w fun e w' => e = .returned (.int .i64 (spl n)) ∧ w' = w := by
  go_enter Tryd.func34, Tryd.ntmps34
  go_wp2_with fail
  go_loop [3] (fun c => ∃ k : Nat, 1 ≤ k ∧ k < n ∧ c = .int .i64 k ∧ Hid (∃ j, k = 2 ^ j)) (fun c => n - (intOf c).toNat)
  case atStart => exact ⟨1, by omega, by omega, rfl, Lib.hid ⟨0, rfl⟩⟩
  case round =>
    obtain ⟨k, hk1, hkn, rfl, HJ⟩ := hrel
    by_cases h : k < n - k
    · have hd : decide ((k : Int) < (n : Int) - (k : Int)) = true := by simp; omega
      go_wp2_with fail
      refine ⟨⟨2 * k, by omega, by omega, by go_num, Lib.hid ?_⟩, by simp [intOf]; omega⟩
      obtain ⟨j, hj⟩ := HJ.out
      exact ⟨j + 1, by rw [hj, Nat.pow_succ]; omega⟩
    · have hd : decide ((k : Int) < (n : Int) - (k : Int)) = false := by simp; omega
      have HF : Hid ((k : Int) = (spl n : Int)) := Lib.hid (by obtain ⟨j, hj⟩ := HJ.out; rw [spl_top h2 hj hkn (by omega)])
      go_wp2_with fail
      go_ret
      exact ⟨ret_int HF.out, rfl⟩
end Go.Proofs.YtkmiodlehmocnaaDoor
