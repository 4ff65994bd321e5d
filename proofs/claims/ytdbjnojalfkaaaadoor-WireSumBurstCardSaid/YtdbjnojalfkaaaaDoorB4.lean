/- THE WALK OF WireSumBurst. -/
import Derived.Test.YtdbjnojalfkaaaaDoorA10
import Derived.RegionTactic
import Derived.ChangeAlike
import Derived.BigRegion
import Derived.Deep.QuietTactic
import Derived.BigQuiet
import Derived.WalkSmall
import Derived.Lib.ConvBytes
set_option linter.unusedVariables false
namespace Go.Proofs.YtdbjnojalfkaaaaDoor
open Go.RowKit

theorem shr_cast (b j : Nat) : ((b : Int) / 2 ^ j) = ((b / 2 ^ j : Nat) : Int) := by push_cast; rfl
theorem bit_true {b j : Nat} (h : b / 2 ^ j % 2 = 1) : (((b : Int) / 2 ^ j).tmod 2 == 1) = true := by
  rw [shr_cast]
  generalize b / 2 ^ j = x at h ⊢
  rw [beq_iff_eq, Int.tmod_eq_emod_of_nonneg (by omega)]
  omega
theorem bit_false {b j : Nat} (h : ¬ b / 2 ^ j % 2 = 1) : (((b : Int) / 2 ^ j).tmod 2 == 1) = false := by
  rw [shr_cast]
  generalize b / 2 ^ j = x at h ⊢
  rw [beq_eq_false_iff_ne, Int.tmod_eq_emod_of_nonneg (by omega)]
  omega
theorem xor_bit {x e : Nat} (hx : x < 256) (he : e < 8) : bits .xor .u8 (x : Int) ((2 : Int) ^ e % 256) = ((x ^^^ 2 ^ e : Nat) : Int) := by
  have hp : 2 ^ e < 256 := Nat.lt_of_lt_of_le (Nat.pow_lt_pow_right (by omega) he) (by decide)
  have e1 : (2 : Int) ^ e % 256 = ((2 ^ e : Nat) : Int) := by
    have : (2 : Int) ^ e = ((2 ^ e : Nat) : Int) := by push_cast; rfl
    rw [this]
    generalize 2 ^ e = y at hp
    omega
  rw [e1, u8_xor_nat _ _ hx hp]
theorem mod_step (b i : Nat) : b % 2 ^ (i + 1) = b % 2 ^ i + 2 ^ i * (b / 2 ^ i % 2) := by
  rw [Nat.pow_succ, Nat.mod_mul]
theorem pow_split (f : Nat) : 2 ^ (f % 8) * 256 ^ (f / 8) = 2 ^ f := by
  rw [show (256 : Nat) = 2 ^ 8 from rfl, ← Nat.pow_mul, ← Nat.pow_add]
  congr 1; omega
/-- One bit of the pattern more. -/
theorem burst_bit {l : List Nat} {N b f i : Nat} (hl : ∀ x ∈ l, x < 256) (hk : (f + i) / 8 < l.length) (hn : num l = N ^^^ (b % 2 ^ i * 2 ^ f)) (hb : b / 2 ^ i % 2 = 1) :
    num (l.set ((f + i) / 8) (l.getD ((f + i) / 8) 0 ^^^ 2 ^ ((f + i) % 8))) = N ^^^ (b % 2 ^ (i + 1) * 2 ^ f) := by
  have hp : 2 ^ ((f + i) % 8) < 256 := Nat.lt_of_lt_of_le (Nat.pow_lt_pow_right (by omega) (show (f + i) % 8 < 8 by omega)) (by decide)
  rw [num_set l _ _ hk hp hl, hn, pow_split, Nat.xor_assoc]
  congr 1
  have e : b % 2 ^ (i + 1) = (b % 2 ^ i) ^^^ (1 * 2 ^ i) := by
    rw [add_eq_xor (Nat.mod_lt _ (Nat.two_pow_pos i)), mod_step, hb]; omega
  rw [e, xor_mul, Nat.one_mul, ← Nat.pow_add, Nat.add_comm i f]
theorem burst_none {N b f i x : Nat} (hn : x = N ^^^ (b % 2 ^ i * 2 ^ f)) (hb : b / 2 ^ i % 2 = 0) : x = N ^^^ (b % 2 ^ (i + 1) * 2 ^ f) := by
  rw [mod_step, hb, Nat.mul_zero, Nat.add_zero]; exact hn
theorem set_lt {l : List Nat} (hl : ∀ x ∈ l, x < 256) (k v : Nat) (hv : v < 256) : ∀ x ∈ l.set k v, x < 256 := fun x hx => by
  rcases List.mem_or_eq_of_mem_set hx with h | rfl
  · exact hl x h
  · exact hv
theorem getD_lt {l : List Nat} (hl : ∀ x ∈ l, x < 256) (j : Nat) : l.getD j 0 < 256 := by
  rw [List.getD_eq_getElem?_getD]
  by_cases h : j < l.length
  · rw [List.getElem?_eq_getElem h]; exact hl _ (List.getElem_mem h)
  · rw [List.getElem?_eq_none (by omega)]; decide

theorem burst_bool {X Y m : Nat} (h : X = Y ↔ m = 0) : (((X ^^^ 4294967295 : Nat) : Int) != ((Y ^^^ 4294967295 : Nat) : Int)) = decide (m ≠ 0) := by
  by_cases hm : m = 0
  · rw [h.2 hm]; simp [hm]
  · have hne : X ≠ Y := fun e => hm (h.1 e)
    have h2 : (X ^^^ 4294967295) ≠ (Y ^^^ 4294967295) := fun e => hne (by
      have := congrArg (· ^^^ 4294967295) e
      simpa [Nat.xor_assoc] using this)
    rw [decide_eq_true hm, bne_iff_ne]
    omega

set_option maxRecDepth 100000 in
set_option maxHeartbeats 1000000 in
theorem sumBurst_walk (s : ByteArray) (at' bits' : Int) (w : World) (hs : s.size ≤ maxLen) (h1 : -9223372036854775808 ≤ at') (h2 : at' ≤ 9223372036854775807) (h3 : 0 ≤ bits') (h4 : bits' ≤ 4294967295) (hN : Nib w) :
    Calls Tryd.prog 8 #[.string s, .int .i64 at', .int .u32 bits'] w fun e W' => e = .returned (.bool true) ∧ Below w.heap.size w W' := by
  unfold maxLen at hs
  have HN := Lib.hid hN
  clear hN
  go_enter Tryd.func8, Tryd.ntmps8
  go_wp2_with fail
  refine (sane_any _ HN.out).mono ?_
  rintro e w1 ⟨rfl, hb1⟩
  obtain ⟨bn, rfl⟩ := Int.eq_ofNat_of_zero_le h3
  have hts := cut_size s 300
  rw [show ((300 : Nat) : Int) = 300 from rfl] at hts
  obtain ⟨cap, w2, hrun, hBuf, hb2⟩ := run_str_bytes (s.extract 0 (min (s.size : Int) 300).toNat) w1
  obtain ⟨t, Ht⟩ : ∃ t, Hid (s.extract 0 (min (s.size : Int) 300).toNat = t) := ⟨_, Lib.hid rfl⟩
  obtain ⟨n, Hn⟩ : ∃ n, Hid (t.size = n) := ⟨_, Lib.hid rfl⟩
  rw [show (s.extract 0 (min (s.size : Int) 300).toNat).size = n from by rw [Ht.out, Hn.out]] at hrun hts
  rw [Ht.out] at hBuf
  obtain ⟨B, HBe⟩ : ∃ B, Hid (w1.heap.size = B) := ⟨_, Lib.hid rfl⟩
  have hwB : w.heap.size ≤ B := by rw [← HBe.out]; exact hb1.size
  rw [HBe.out] at hBuf hrun
  have hB0 := bt hb1 hb2
  by_cases hz : n = 0 ∨ bn = 0
  · by_cases hn0 : n = 0
    · have z1 : ((n : Int) == 0) = true := beq_iff_eq.2 (by omega)
      clear hz hn0
      go_wp2_with fail
      go_ret
      exact ⟨rfl, hB0⟩
    · have z1 : ((n : Int) == 0) = false := beq_eq_false_iff_ne.2 (by omega)
      have z2 : ((bn : Int) == 0) = true := beq_iff_eq.2 (by omega)
      clear hz hn0
      go_wp2_with fail
      go_ret
      exact ⟨rfl, hB0⟩
  · have hn0 : 1 ≤ n := by omega
    have hb0 : 1 ≤ bn := by omega
    have z1 : ((n : Int) == 0) = false := beq_eq_false_iff_ne.2 (by omega)
    have z2 : ((bn : Int) == 0) = false := beq_eq_false_iff_ne.2 (by omega)
    clear hz
    go_wp2_with fail
    clear hrun
    have hf := pk_range (c := at') (n := 8 * (n : Int)) (by omega)
    refine (pick_any at' (8 * (n : Int)) _ h1 h2 (by omega) (by omega)).mono ?_
    rintro e w3 ⟨rfl, rfl⟩
    obtain ⟨f, HF⟩ : ∃ f : Nat, Hid (pk at' (8 * (n : Int)) = (f : Int)) := ⟨(pk at' (8 * (n : Int))).toNat, Lib.hid (by omega)⟩
    rw [HF.out] at hf ⊢
    go_wp2_with fail
    have hf8 : f < 8 * n := by omega
    clear hf
    have HT : Hid (num (nums t) = num (nums t) ^^^ (bn % 2 ^ 0 * 2 ^ f)) := Lib.hid (by rw [Nat.pow_zero, Nat.mod_one]; simp)
    go_loopw [11, 10, 12] (fun i ch _ wr => ∃ (j : Nat) (c : Bool) (l : List Nat), j ≤ 32 ∧ f + j ≤ 8 * n ∧ i = .int .i64 j ∧ ch = .bool c ∧ Hid (c = decide (bn % 2 ^ j ≠ 0)) ∧ Buf wr B l ∧ Hid (l.length = n) ∧ Hid (∀ x ∈ l, x < 256) ∧ Hid (num l = num (nums t) ^^^ (bn % 2 ^ j * 2 ^ f)) ∧ Below w.heap.size w wr) (fun i _ _ _ => 32 - (intOf i).toNat)
    case atStart => exact ⟨0, false, nums t, by omega, by omega, rfl, rfl, Lib.hid (by simp [Nat.mod_one]), hBuf, Lib.hid (by rw [nums_len, Hn.out]), Lib.hid (nums_lt t), HT, hB0⟩
    case round =>
      obtain ⟨j, c, l, hj, hfj, rfl, rfl, HC, hBuf, HL, HLt, HN2, hB⟩ := hrel
      by_cases hlt : j < 32 ∧ f + j < 8 * n
      · obtain ⟨hj32, hfj2⟩ := hlt
        by_cases hbit : bn / 2 ^ j % 2 = 1
        · have hbt : (((bn : Int) / 2 ^ j).tmod 2 == 1) = true := bit_true hbit
          have HBit := Lib.hid hbit
          clear hbit
          have hk8 : (f + j) / 8 < n := by omega
          have hc1 := hBuf.cell (j := (f + j) / 8) (by rw [HL.out]; exact hk8)
          have hf1 := hBuf.frozen (j := (f + j) / 8) (by rw [HL.out]; exact hk8)
          go_wp2
          go_region
          go_wp2
          have hlt2 := getD_lt HLt.out ((f + j) / 8)
          have hx := xor_bit (x := l.getD ((f + j) / 8) 0) (e := (f + j) % 8) hlt2 (by omega)
          have hv : l.getD ((f + j) / 8) 0 ^^^ 2 ^ ((f + j) % 8) < 256 := Nat.xor_lt_two_pow (n := 8) hlt2 (Nat.pow_lt_pow_right (by omega) (by omega))
          rw [List.getD_eq_getElem?_getD] at hx
          rw [hx, ← List.getD_eq_getElem?_getD]
          refine ⟨⟨j + 1, true, l.set ((f + j) / 8) (l.getD ((f + j) / 8) 0 ^^^ 2 ^ ((f + j) % 8)), by omega, by omega, by go_num, rfl, Lib.hid ?_, (hBuf.set (by rw [HL.out]; exact hk8) _).drew, Lib.hid (by rw [List.length_set, HL.out]),
            Lib.hid (set_lt HLt.out _ _ hv), Lib.hid (burst_bit HLt.out (by rw [HL.out]; exact hk8) HN2.out HBit.out), (hB.setCell (p := ⟨B, (f + j) / 8, none⟩) hwB _).drew⟩, by simp [intOf]; omega⟩
          rw [mod_step, HBit.out]
          have := Nat.two_pow_pos j
          simp
        · have hbt : (((bn : Int) / 2 ^ j).tmod 2 == 1) = false := bit_false hbit
          have hb0 : bn / 2 ^ j % 2 = 0 := by omega
          have HB0 := Lib.hid hb0
          clear hbit hb0
          go_wp2
          refine ⟨⟨j + 1, c, l, by omega, by omega, by go_num, rfl, Lib.hid ?_, hBuf, HL, HLt, Lib.hid (burst_none HN2.out HB0.out), hB⟩, by simp [intOf]; omega⟩
          rw [HC.out, mod_step, HB0.out, Nat.mul_zero, Nat.add_zero]
      · have hM : bn % 2 ^ j < 4294967296 := Nat.lt_of_le_of_lt (Nat.mod_le _ _) (by omega)
        have hbr := cCrc_burst (l := nums t) (l' := l) (r := 4294967295) (f := f) (nums_lt t) HLt.out (by rw [HL.out, nums_len, Hn.out]) hM (by rw [nums_len, Hn.out]; omega) HN2.out
        have z0 : (strOf' l).size ≤ maxLen := by rw [strOf'_size, HL.out]; unfold maxLen; omega
        have hcv : ∀ m, (convert 38 9 (.slice (some ⟨B, 0, none⟩) n cap)).run Tryd.prog (wr.drewN m) = .ok (.string (strOf' l)) (wr.drewN m) := fun m => by
          have := run_bytes_str (hBuf.drewN m) cap
          rw [HL.out] at this
          exact this
        have HNr := Lib.hid (fun m => (HN.out.below hB).drewN m)
        have hsn : s.extract 0 n = t := by
          rw [← Ht.out]
          congr 1
          have := Hn.out
          rw [← Ht.out, ByteArray.size_extract] at this
          omega
        have z1 : t.size ≤ maxLen := by rw [Hn.out]; unfold maxLen; omega
        have hE : ((sumOf (strOf' l) : Int) != (sumOf t : Int)) = c := by
          rw [HC.out]
          unfold sumOf
          rw [strOf'_nums HLt.out]
          exact burst_bool hbr
        have hns : n ≤ s.size := by
          have := Hn.out
          rw [← Ht.out, ByteArray.size_extract] at this
          omega
        clear hbr
        by_cases h32 : j < 32
        · have hfe : ¬ (f + j < 8 * n) := by omega
          go_wp2
          go_quiet ((go_at_call 21; exact Calls.quiet_of_same (sum_any _ _ (by assumption) (HNr.out _))))
          go_wp2
          go_ret
          exact ⟨rfl, below_drewN hB _⟩
        · go_wp2
          go_quiet ((go_at_call 21; exact Calls.quiet_of_same (sum_any _ _ (by assumption) (HNr.out _))))
          go_wp2
          go_ret
          exact ⟨rfl, below_drewN hB _⟩
end Go.Proofs.YtdbjnojalfkaaaaDoor
