/- WALKS: pick, state, change. -/
import Derived.Test.YtpapfegbodolgaaDoorLR
set_option linter.unusedVariables false
set_option linter.unnecessarySimpa false
set_option linter.unusedSimpArgs false
namespace Go.Proofs.YtpapfegbodolgaaDoor
open Go.RowKit

/-- The bytes of a state that an integer determines. -/
def stN (n : Int) : List Nat := [(n / 2 ^ 0 % 256).toNat, (n / 2 ^ 8 % 256).toNat, (n / 2 ^ 16 % 256).toNat, (n / 2 ^ 24 % 256).toNat, (n / 2 ^ 32 % 256).toNat, (n / 2 ^ 40 % 256).toNat, (n / 2 ^ 48 % 256).toNat, (n / 2 ^ 56 % 256).toNat] ++ List.replicate 24 0
def stS (n : Int) : ByteArray := strOf' (stN n)
theorem stN_len (n : Int) : (stN n).length = 32 := rfl
theorem stS_size (n : Int) : (stS n).size = 32 := by rw [stS, strOf'_size, stN_len]
theorem stN_get (n : Int) (k : Nat) (hk : k < 8) : (((stN n).getD k 0 : Nat) : Int) = n / 2 ^ (8 * k) % 256 := by
  match k, hk with
  | 0, _ => simp [stN]; omega
  | 1, _ => simp [stN]; omega
  | 2, _ => simp [stN]; omega
  | 3, _ => simp [stN]; omega
  | 4, _ => simp [stN]; omega
  | 5, _ => simp [stN]; omega
  | 6, _ => simp [stN]; omega
  | 7, _ => simp [stN]; omega
theorem sumL_8 (n : Int) : sumL (stN n) 8 = stN n := rfl

set_option maxRecDepth 100000 in
set_option maxHeartbeats 1000000 in
theorem state_any (n : Int) (w : World) (h0 : -9223372036854775808 ≤ n) (h1 : n ≤ 9223372036854775807) :
    Calls Tryd.prog 27 #[.int .i64 n] w fun e w' => e = .returned (.string (stS n)) ∧ Below w.heap.size w w' := by
  have hmk : ∀ w : World, (Instr.makeSlice 67 (.int .i64 32) (.int .i64 32)).run Tryd.prog w = .ok (.slice (some ⟨w.heap.size, 0, none⟩) 32 32) (w.alloc (.cells (bytesV (List.replicate 32 0)).toArray 5)) := fun _ => by kernel_rfl
  have HS := Lib.hid (stN_get n)
  obtain ⟨l, HL⟩ : ∃ l, Hid (stN n = l) := ⟨_, Lib.hid rfl⟩
  have HLn : Hid (l.length = 32) := Lib.hid (by rw [← HL.out]; rfl)
  have H8 : Hid (sumL l 8 = l) := Lib.hid (by rw [← HL.out]; rfl)
  have HR : Hid (stS n = strOf' l) := Lib.hid (by rw [← HL.out]; rfl)
  rw [HR.out]
  obtain ⟨RES, HRES⟩ : ∃ RES, Hid (strOf' l = RES) := ⟨_, Lib.hid rfl⟩
  rw [HRES.out]
  go_enter Tryd.func27, Tryd.ntmps27
  go_wp2
  go_loopw [4] (fun i wr => ∃ k : Nat, k ≤ 8 ∧ i = .int .i64 k ∧ Below w.heap.size w wr ∧ Blk wr w.heap.size (bytesV (sumL l k)) 5) (fun i _ => 8 - (intOf i).toNat)
  case atStart =>
    refine ⟨0, by omega, rfl, ba w _, ?_⟩
    rw [sumL_zero]
    exact Blk.new w _ 5
  case round =>
    obtain ⟨k, hk, rfl, hB, hS⟩ := hrel
    by_cases hlt : k < 8
    · have ck : wr.cell? ⟨w.heap.size, k, none⟩ = some (.int .u8 (((sumL l k).getD k 0 : Nat) : Int)) := bytesV_cell hS (by rw [sumL_length _ HLn.out (by omega)]; omega)
      have fk : wr.frozen? ⟨w.heap.size, k, none⟩ = false := hS.frozen
      have k1 : (k : Int) < 8 := by omega
      go_wp2
      have hset := hS.set k (.int .u8 (((l.getD k 0 : Nat)) : Int))
      rw [bytesV_set, sumL_set _ HLn.out (by omega)] at hset
      have hv : ((l.getD k 0 : Nat) : Int) = n / 2 ^ (8 * k) % 256 := by rw [← HL.out]; exact HS.out k hlt
      rw [hv] at hset
      exact ⟨⟨k + 1, by omega, by go_num, hB.setCell (Nat.le_refl _) _, hset⟩, by simp [intOf]; omega⟩
    · obtain rfl : k = 8 := by omega
      rw [H8.out] at hS
      have hcv := bytes_text hS HLn.out 32
      rw [HRES.out] at hcv
      rw [show ((8 : Nat) : Int) = 8 from rfl]
      go_wp2
      go_ret
      exact ⟨rfl, hB⟩

/-- What pick gives: something of 0 .. n - 1. -/
def pk (c n : Int) : Int := (if c < 0 then -(c + 1) else c) % n
theorem pk_range (c : Int) {n : Int} (hn : 1 ≤ n) : 0 ≤ pk c n ∧ pk c n < n := by
  unfold pk
  exact ⟨Int.emod_nonneg _ (by omega), Int.emod_lt_of_pos _ (by omega)⟩
theorem pick_any (c n : Int) (W : World) (hc : I64 c) (hn : 1 ≤ n) (hn2 : n ≤ 1000000) : Calls Tryd.prog 12 #[.int .i64 c, .int .i64 n] W fun e w' => e = .returned (.int .i64 (pk c n)) ∧ W = w' := by
  unfold I64 at hc
  have hn0 : (n == 0) = false := by simp; omega
  by_cases h : c < 0
  · have d1 : decide (c < 0) = true := decide_eq_true h
    have hp : pk c n = (-(c + 1)) % n := by unfold pk; rw [if_pos h]
    rw [hp]
    have ht : Int.tmod (-(c + 1)) n = (-(c + 1)) % n := Int.tmod_eq_emod_of_nonneg (by omega)
    have h3 := Int.emod_nonneg (-(c + 1)) (show n ≠ 0 by omega)
    have h4 := Int.emod_lt_of_pos (-(c + 1)) (show 0 < n by omega)
    go_enter Tryd.func12, Tryd.ntmps12
    go_wp2_with fail
    go_ret
    exact ⟨rfl, rfl⟩
  · have d1 : decide (c < 0) = false := decide_eq_false h
    have hp : pk c n = c % n := by unfold pk; rw [if_neg h]
    rw [hp]
    have ht : Int.tmod c n = c % n := Int.tmod_eq_emod_of_nonneg (by omega)
    have h3 := Int.emod_nonneg c (show n ≠ 0 by omega)
    have h4 := Int.emod_lt_of_pos c (show 0 < n by omega)
    go_enter Tryd.func12, Tryd.ntmps12
    go_wp2_with fail
    go_ret
    exact ⟨rfl, rfl⟩

theorem tdiv4 {n : Int} (h : I64 n) : I64 (Int.tdiv n 4) := by
  unfold I64 at h ⊢
  by_cases k : 0 ≤ n
  · rw [Int.tdiv_eq_ediv_of_nonneg k]; omega
  · obtain ⟨m, rfl⟩ : ∃ m, n = -m := ⟨-n, by omega⟩
    rw [Int.neg_tdiv, Int.tdiv_eq_ediv_of_nonneg (by omega)]; omega
/-- The change that an integer determines. -/
def chg (n : Int) : MCh := ⟨pk n 4, 1 + pk (Int.tdiv n 4) 1000000, false, ⟨0, 0, 0⟩, true, ⟨pk n 1000, 0, 0⟩⟩
set_option maxRecDepth 100000 in
set_option maxHeartbeats 1000000 in
theorem change_any (n : Int) (W : World) (hn : I64 n) : Calls Tryd.prog 31 #[.int .i64 n] W fun e w' => e = .returned (chV (chg n)) ∧ Below W.heap.size W w' := by
  have hq : I64 (Int.tdiv n 4) := tdiv4 hn
  obtain ⟨q, HQ⟩ : ∃ q, Hid (Int.tdiv n 4 = q) := ⟨_, Lib.hid rfl⟩
  have h1 := pk_range n (n := 4) (by omega)
  have h2 := pk_range q (n := 1000000) (by omega)
  have h3 := pk_range n (n := 1000) (by omega)
  have HN := Lib.hid hn
  have HQ1 := Lib.hid (HQ.out ▸ hq)
  have HR : Hid (chg n = ⟨pk n 4, 1 + pk q 1000000, false, ⟨0, 0, 0⟩, true, ⟨pk n 1000, 0, 0⟩⟩) := Lib.hid (by unfold chg; rw [HQ.out])
  rw [HR.out]
  unfold chV
  unfold I64 at hn
  clear hq HR
  go_enter Tryd.func31, Tryd.ntmps31
  go_wp2_with fail
  (with_reducible refine (pick_any n 4 _ HN.out (by omega) (by omega)).mono ?_)
  rintro e wx ⟨rfl, rfl⟩
  have hq4 := HQ.out
  have hw4 : wrap64 q = q := by have := HQ1.out; unfold I64 at this; unfold wrap64; omega
  go_wp2_with fail
  (with_reducible refine (pick_any q 1000000 _ HQ1.out (by omega) (by omega)).mono ?_)
  rintro e wx ⟨rfl, rfl⟩
  go_wp2_with fail
  (with_reducible refine (pick_any n 1000 _ HN.out (by omega) (by omega)).mono ?_)
  rintro e wx ⟨rfl, rfl⟩
  go_wp2_with fail
  refine bodyPost_ret (v := .agg #[.int .i64 (pk n 4), .int .i64 (1 + pk q 1000000), .bool false, .int .i64 0, .int .i64 0, .int .i64 0, .bool true, .int .i64 (pk n 1000), .int .i64 0, .int .i64 0]) (results_cell_row rfl _ _ W.heap.size 57 _ (0, 0) _ rfl (heap_alloc_new W _) Tryd.underlying57 rfl (by kernel_rfl)) rfl ⟨rfl, ba W _⟩
theorem chg_t {n : Int} : 0 ≤ (chg n).t ∧ (chg n).t ≤ 3 := by have := pk_range n (n := 4) (by omega); unfold chg; simp only; omega
theorem chg_k {n : Int} : 1 ≤ (chg n).k ∧ (chg n).k ≤ 1000000 := by have := pk_range (Int.tdiv n 4) (n := 1000000) (by omega); unfold chg; simp only; omega
theorem chg_n {n : Int} : 0 ≤ (chg n).n.a ∧ (chg n).n.a < 1000 := pk_range n (n := 1000) (by omega)
end Go.Proofs.YtpapfegbodolgaaDoor
