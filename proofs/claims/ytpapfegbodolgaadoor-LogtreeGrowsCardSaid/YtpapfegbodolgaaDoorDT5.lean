/- WALKS: the code's schedule. -/
import Derived.Test.YtpapfegbodolgaaDoorP4
import Derived.Deep.QuietTactic
import Derived.BigQuiet
import Derived.Outline
set_option linter.unusedSimpArgs false
set_option linter.unusedVariables false
namespace Go.Proofs.YtpapfegbodolgaaDoor
open Go.RowKit

set_option maxRecDepth 100000 in
set_option maxHeartbeats 1000000 in
theorem schedule_any (b : List Nat) (hb : b.length = 64) (hb8 : ∀ x ∈ b, x < 256) (w : World) :
    Calls Tryd.prog 102 #[.agg (bytesV b).toArray] w fun e w' => e = .returned (.agg (wordsV (sched b 64)).toArray) ∧ Below w.heap.size w w' := by
  obtain ⟨cb, HCB⟩ : ∃ cb, Hid ((bytesV b).toArray = cb) := ⟨_, Lib.hid rfl⟩
  have H8 := Lib.hid hb8
  have HB := Lib.hid hb
  clear hb hb8
  obtain ⟨R, HR⟩ : ∃ R, Hid ((wordsV (sched b 64)).toArray = R) := ⟨_, Lib.hid rfl⟩
  rw [HCB.out, HR.out]
  go_enter Tryd.func102, Tryd.ntmps102
  go_wp2_with fail
  go_loopw [8] (fun i wr => ∃ k : Nat, k ≤ 16 ∧ i = .int .i64 k ∧ Below w.heap.size w wr ∧ Blk wr w.heap.size (bytesV b) 146 ∧ Blk wr (w.heap.size + 1) (wordsV (schW b 0)) 156 ∧ Blk wr (w.heap.size + 1 + 1) (wordsV (schW b k)) 156) (fun i _ => 16 - (intOf i).toNat)
  case atStart =>
    refine ⟨0, by omega, rfl, (((Below.refl _ w).alloc (Nat.le_refl _) _).alloc (by simp) _).alloc (by simp; omega) _, ?_, ?_, ?_⟩
    · rw [← HCB.out]; exact ((Blk.new w (bytesV b) 146).alloc _).alloc _
    · have := (Blk.new (w.alloc (.cells cb 146)) (wordsV (schW b 0)) 156).alloc (.cells (wordsV (schW b 0)).toArray 156)
      rw [World.size_alloc] at this
      exact this
    · have := (Blk.new ((w.alloc (.cells cb 146)).alloc (.cells (wordsV (schW b 0)).toArray 156)) (wordsV (schW b 0)) 156)
      rw [World.size_alloc, World.size_alloc] at this
      exact this
  case round =>
    obtain ⟨k, hk, rfl, hB, hb1, hb2, hb3⟩ := hrel
    by_cases hlt : k < 16
    · obtain ⟨x0, X0⟩ : ∃ x, Hid (b.getD (4 * k) 0 = x) := ⟨_, Lib.hid rfl⟩
      obtain ⟨x1, X1⟩ : ∃ x, Hid (b.getD (4 * k + 1) 0 = x) := ⟨_, Lib.hid rfl⟩
      obtain ⟨x2, X2⟩ : ∃ x, Hid (b.getD (4 * k + 2) 0 = x) := ⟨_, Lib.hid rfl⟩
      obtain ⟨x3, X3⟩ : ∃ x, Hid (b.getD (4 * k + 3) 0 = x) := ⟨_, Lib.hid rfl⟩
      have c0 : wr.cell? ⟨w.heap.size, (4 * (k : Int)).toNat, none⟩ = some (.int .u8 (x0 : Int)) := by rw [← X0.out, show (4 * (k : Int)).toNat = 4 * k by omega]; exact bytesV_cell hb1 (by rw [HB.out]; omega)
      have c1 : wr.cell? ⟨w.heap.size, (4 * (k : Int) + 1).toNat, none⟩ = some (.int .u8 (x1 : Int)) := by rw [← X1.out, show (4 * (k : Int) + 1).toNat = 4 * k + 1 by omega]; exact bytesV_cell hb1 (by rw [HB.out]; omega)
      have c2 : wr.cell? ⟨w.heap.size, (4 * (k : Int) + 2).toNat, none⟩ = some (.int .u8 (x2 : Int)) := by rw [← X2.out, show (4 * (k : Int) + 2).toNat = 4 * k + 2 by omega]; exact bytesV_cell hb1 (by rw [HB.out]; omega)
      have c3 : wr.cell? ⟨w.heap.size, (4 * (k : Int) + 3).toNat, none⟩ = some (.int .u8 (x3 : Int)) := by rw [← X3.out, show (4 * (k : Int) + 3).toNat = 4 * k + 3 by omega]; exact bytesV_cell hb1 (by rw [HB.out]; omega)
      have hx0 : x0 < 256 := by rw [← X0.out]; exact getD_lt H8.out (by rw [HB.out]; omega)
      have hx1 : x1 < 256 := by rw [← X1.out]; exact getD_lt H8.out (by rw [HB.out]; omega)
      have hx2 : x2 < 256 := by rw [← X2.out]; exact getD_lt H8.out (by rw [HB.out]; omega)
      have hx3 : x3 < 256 := by rw [← X3.out]; exact getD_lt H8.out (by rw [HB.out]; omega)
      obtain ⟨W, HW⟩ : ∃ W, Hid (word b k = W) := ⟨_, Lib.hid rfl⟩
      have w0 : IntKind.u32.wrap (x0 : Int) = (x0 : Int) := by rw [IntKind.wrap_u32]; omega
      have w1 : IntKind.u32.wrap (x1 : Int) = (x1 : Int) := by rw [IntKind.wrap_u32]; omega
      have w2 : IntKind.u32.wrap (x2 : Int) = (x2 : Int) := by rw [IntKind.wrap_u32]; omega
      have w3 : IntKind.u32.wrap (x3 : Int) = (x3 : Int) := by rw [IntKind.wrap_u32]; omega
      have v0 : IntKind.u32.wrap ((x0 : Int) * 16777216) = (x0 : Int) * 16777216 := by rw [IntKind.wrap_u32]; omega
      have v1 : IntKind.u32.wrap ((x1 : Int) * 65536) = (x1 : Int) * 65536 := by rw [IntKind.wrap_u32]; omega
      have v2 : IntKind.u32.wrap ((x2 : Int) * 256) = (x2 : Int) * 256 := by rw [IntKind.wrap_u32]; omega
      have hWb : x0 * 16777216 + x1 * 65536 + x2 * 256 + x3 = W := by rw [← HW.out, ← X0.out, ← X1.out, ← X2.out, ← X3.out]; rfl
      have e1 : bits .or .u32 ((x0 : Int) * 16777216) ((x1 : Int) * 65536) = (x0 : Int) * 16777216 + (x1 : Int) * 65536 := or_add24 hx0 hx1
      have e2 : bits .or .u32 ((x0 : Int) * 16777216 + (x1 : Int) * 65536) ((x2 : Int) * 256) = (x0 : Int) * 16777216 + (x1 : Int) * 65536 + (x2 : Int) * 256 := or_add16 hx0 hx1 hx2
      have e3 : bits .or .u32 ((x0 : Int) * 16777216 + (x1 : Int) * 65536 + (x2 : Int) * 256) (x3 : Int) = (W : Int) := by rw [or_add8 hx0 hx1 hx2 hx3]; omega
      clear hWb
      have f0 : (0 : Int) ≤ 4 * (k : Int) := by omega
      have f1 : (0 : Int) ≤ 4 * (k : Int) + 1 := by omega
      have f2 : (0 : Int) ≤ 4 * (k : Int) + 2 := by omega
      have f3 : (0 : Int) ≤ 4 * (k : Int) + 3 := by omega
      have g0 : 4 * (k : Int) < 64 := by omega
      have g1 : 4 * (k : Int) + 1 < 64 := by omega
      have g2 : 4 * (k : Int) + 2 < 64 := by omega
      have g3 : 4 * (k : Int) + 3 < 64 := by omega
      have g4 : (k : Int) < 64 := by omega
      have i1 : IntKind.i64.wrap (4 * (k : Int)) = 4 * (k : Int) := by rw [IntKind.wrap_i64]; omega
      have i2 : IntKind.i64.wrap (4 * (k : Int) + 1) = 4 * (k : Int) + 1 := by rw [IntKind.wrap_i64]; omega
      have i3 : IntKind.i64.wrap (4 * (k : Int) + 2) = 4 * (k : Int) + 2 := by rw [IntKind.wrap_i64]; omega
      have i4 : IntKind.i64.wrap (4 * (k : Int) + 3) = 4 * (k : Int) + 3 := by rw [IntKind.wrap_i64]; omega
      have q1 : wr.cell? ⟨w.heap.size + 1 + 1, k, none⟩ = some (.int .u32 ((schW b k).getD k 0 : Nat)) := wordsV_cell hb3 (by rw [schW_length b (by omega)]; omega)
      have q2 : wr.frozen? ⟨w.heap.size + 1 + 1, k, none⟩ = false := hb3.frozen
      go_wp2_with fail
      go_still_tail 31, (by kernel_rfl)
      change wpList _ _ _ _ _ wr.drew
      have hB2 := hB.drew
      have hb12 := hb1.drew
      have hb22 := hb2.drew
      have hb32 := hb3.drew
      have q3 : wr.drew.cell? ⟨w.heap.size + 1 + 1, k, none⟩ = some (.int .u32 ((schW b k).getD k 0 : Nat)) := wordsV_cell hb32 (by rw [schW_length b (by omega)]; omega)
      have q4 : wr.drew.frozen? ⟨w.heap.size + 1 + 1, k, none⟩ = false := hb32.frozen
      clear c0 c1 c2 c3 q1 q2 hB hb1 hb2 hb3 e1 e2 e3 w0 w1 w2 w3 v0 v1 v2 i1 i2 i3 i4 f0 f1 f2 f3 g0 g1 g2 g3
      generalize wr.drew = wd at hB2 hb12 hb22 hb32 q3 q4 ⊢
      have HS : Hid (sched b (k + 1) = sched b k ++ [W]) := Lib.hid (by rw [← HW.out]; simp only [sched]; rw [if_pos hlt])
      go_wp2_with fail
      refine ⟨⟨k + 1, by omega, by go_num, hB2.setCell (by simp; omega) _, ?_, ?_, ?_⟩, by simp [intOf]; omega⟩
      · exact Blk.setOther hb12 (by simp; omega) _
      · exact Blk.setOther hb22 (by simp) _
      · have := hb32.set k (.int .u32 (W : Int))
        rw [wordsV_set, schW_set b (by omega) HS.out] at this
        exact this
    · obtain rfl : k = 16 := by omega
      clear hlt hk
      rw [show ((16 : Nat) : Int) = 16 from rfl]
      go_wp2_with fail
      go_loopw [5, 6, 7] (fun i _ _ wr => ∃ k : Nat, 16 ≤ k ∧ k ≤ 64 ∧ i = .int .i64 k ∧ Below w.heap.size w wr ∧ Blk wr (w.heap.size + 1) (wordsV (schW b 0)) 156 ∧ Blk wr (w.heap.size + 1 + 1) (wordsV (schW b k)) 156) (fun i _ _ _ => 64 - (intOf i).toNat)
      case atStart => exact ⟨16, by omega, by omega, rfl, hB, hb2, hb3⟩
      case round =>
        clear hB hb1 hb2 hb3
        obtain ⟨k, hk, hk2, rfl, hB, hb2, hb3⟩ := hrel
        by_cases hlt : k < 64
        · have HL := Lib.hid (sched_length b k)
          have HLt := Lib.hid (sched_lt (b := b) HB.out H8.out k)
          obtain ⟨L, HL0⟩ : ∃ L, Hid (sched b k = L) := ⟨_, Lib.hid rfl⟩
          rw [HL0.out] at HL HLt
          obtain ⟨y, Y⟩ : ∃ y, Hid (L.getD (k - 15) 0 = y) := ⟨_, Lib.hid rfl⟩
          have hy : y < 4294967296 := by rw [← Y.out]; exact getD_lt HLt.out (by rw [HL.out]; omega)
          have j1 : (0 : Int) ≤ (k : Int) - 15 := by omega
          have j2 : (k : Int) - 15 < 64 := by omega
          have j4 : (15 : Int) ≤ (k : Int) := by omega
          have j3 : IntKind.i64.wrap ((k : Int) - 15) = (k : Int) - 15 := by rw [IntKind.wrap_i64]; omega
          have hr1 := rotr_lt (n := 7) hy
          have hr2 := rotr_lt (n := 18) hy
          obtain ⟨xa, XA⟩ : ∃ x, Hid (rotr y 7 ^^^ rotr y 18 = x) := ⟨_, Lib.hid rfl⟩
          obtain ⟨xb, XB⟩ : ∃ x, Hid (xa ^^^ y / 8 = x) := ⟨_, Lib.hid rfl⟩
          have hxa : xa < 4294967296 := by rw [← XA.out]; exact Nat.xor_lt_two_pow (n := 32) hr1 hr2
          have hxb : xb < 4294967296 := by rw [← XB.out]; exact Nat.xor_lt_two_pow (n := 32) hxa (by omega)
          have HXB : Hid (xb = sg0 y) := Lib.hid (by rw [← XB.out, ← XA.out]; rfl)
          have q1 : bits .xor .u32 (rotr y 7 : Int) (rotr y 18 : Int) = (xa : Int) := by rw [u32_xor_nat _ _ hr1 hr2, XA.out]
          have q2 : bits .xor .u32 (xa : Int) ((y : Int) / 8) = (xb : Int) := by rw [show ((y : Int) / 8) = ((y / 8 : Nat) : Int) by omega, u32_xor_nat _ _ hxa (by omega), XB.out]
          have ca : wr.cell? ⟨w.heap.size + 1 + 1, ((k : Int) - 15).toNat, none⟩ = some (.int .u32 (y : Int)) := by
            rw [show ((k : Int) - 15).toNat = k - 15 by omega, wordsV_cell hb3 (by rw [schW_length b (by omega)]; omega), schW_getD b (by omega), HL0.out, Y.out]
          have cb' : wr.cell? ⟨w.heap.size + 1 + 1, k - 15, none⟩ = some (.int .u32 (y : Int)) := by
            rw [wordsV_cell hb3 (by rw [schW_length b (by omega)]; omega), schW_getD b (by omega), HL0.out, Y.out]
          go_wp2_with fail
          go_quiet (first | (go_at_call_of 103 (Value.int .i64 7); exact Calls.quiet_of_same (right_at y 7 _ _ hy rfl (by decide) (by decide))) | (go_at_call_of 103 (Value.int .i64 18); exact Calls.quiet_of_same (right_at y 18 _ _ hy rfl (by decide) (by decide))))
          have hBa := below_drewN hB nq
          have hb2a := hb2.drewN nq
          have hb3a := hb3.drewN nq
          clear q1 q2 ca cb' hB hb2 hb3 j1 j2 j3 j4 hr1 hr2 hxa
          generalize wr.drewN nq = w2 at hBa hb2a hb3a ⊢
          obtain ⟨z, Z⟩ : ∃ z, Hid (L.getD (k - 2) 0 = z) := ⟨_, Lib.hid rfl⟩
          have hz : z < 4294967296 := by rw [← Z.out]; exact getD_lt HLt.out (by rw [HL.out]; omega)
          have j1 : (0 : Int) ≤ (k : Int) - 2 := by omega
          have j2 : (k : Int) - 2 < 64 := by omega
          have j4 : (2 : Int) ≤ (k : Int) := by omega
          have j3 : IntKind.i64.wrap ((k : Int) - 2) = (k : Int) - 2 := by rw [IntKind.wrap_i64]; omega
          have hr1 := rotr_lt (n := 17) hz
          have hr2 := rotr_lt (n := 19) hz
          obtain ⟨ya, YA⟩ : ∃ x, Hid (rotr z 17 ^^^ rotr z 19 = x) := ⟨_, Lib.hid rfl⟩
          obtain ⟨yb, YB⟩ : ∃ x, Hid (ya ^^^ z / 1024 = x) := ⟨_, Lib.hid rfl⟩
          have hya : ya < 4294967296 := by rw [← YA.out]; exact Nat.xor_lt_two_pow (n := 32) hr1 hr2
          have hyb : yb < 4294967296 := by rw [← YB.out]; exact Nat.xor_lt_two_pow (n := 32) hya (by omega)
          have HYB : Hid (yb = sg1 z) := Lib.hid (by rw [← YB.out, ← YA.out]; rfl)
          have q1 : bits .xor .u32 (rotr z 17 : Int) (rotr z 19 : Int) = (ya : Int) := by rw [u32_xor_nat _ _ hr1 hr2, YA.out]
          have q2 : bits .xor .u32 (ya : Int) ((z : Int) / 1024) = (yb : Int) := by rw [show ((z : Int) / 1024) = ((z / 1024 : Nat) : Int) by omega, u32_xor_nat _ _ hya (by omega), YB.out]
          have ca : w2.cell? ⟨w.heap.size + 1 + 1, ((k : Int) - 2).toNat, none⟩ = some (.int .u32 (z : Int)) := by
            rw [show ((k : Int) - 2).toNat = k - 2 by omega, wordsV_cell hb3a (by rw [schW_length b (by omega)]; omega), schW_getD b (by omega), HL0.out, Z.out]
          have cb' : w2.cell? ⟨w.heap.size + 1 + 1, k - 2, none⟩ = some (.int .u32 (z : Int)) := by
            rw [wordsV_cell hb3a (by rw [schW_length b (by omega)]; omega), schW_getD b (by omega), HL0.out, Z.out]
          go_wp2_with fail
          go_quiet (first | (go_at_call_of 103 (Value.int .i64 17); exact Calls.quiet_of_same (right_at z 17 _ _ hz rfl (by decide) (by decide))) | (go_at_call_of 103 (Value.int .i64 19); exact Calls.quiet_of_same (right_at z 19 _ _ hz rfl (by decide) (by decide))))
          have hBb := below_drewN hBa nq
          have hb2b := hb2a.drewN nq
          have hb3b := hb3a.drewN nq
          clear q1 q2 ca cb' hBa hb2a hb3a j1 j2 j3 j4 hr1 hr2 hya
          generalize w2.drewN nq = w3 at hBb hb2b hb3b ⊢
          obtain ⟨p1, P1⟩ : ∃ z, Hid (L.getD (k - 16) 0 = z) := ⟨_, Lib.hid rfl⟩
          obtain ⟨p2, P2⟩ : ∃ z, Hid (L.getD (k - 7) 0 = z) := ⟨_, Lib.hid rfl⟩
          have hp1 : p1 < 4294967296 := by rw [← P1.out]; exact getD_lt HLt.out (by rw [HL.out]; omega)
          have hp2 : p2 < 4294967296 := by rw [← P2.out]; exact getD_lt HLt.out (by rw [HL.out]; omega)
          obtain ⟨n1, N1⟩ : ∃ x, Hid ((p1 + xb) % 4294967296 = x) := ⟨_, Lib.hid rfl⟩
          have hn1 : n1 < 4294967296 := by rw [← N1.out]; exact Nat.mod_lt _ (by decide)
          obtain ⟨n2, N2⟩ : ∃ x, Hid ((n1 + p2) % 4294967296 = x) := ⟨_, Lib.hid rfl⟩
          have hn2 : n2 < 4294967296 := by rw [← N2.out]; exact Nat.mod_lt _ (by decide)
          obtain ⟨n3, N3⟩ : ∃ x, Hid ((n2 + yb) % 4294967296 = x) := ⟨_, Lib.hid rfl⟩
          have e1 : IntKind.u32.wrap ((p1 : Int) + (xb : Int)) = (n1 : Int) := by rw [IntKind.wrap_u32, ← N1.out]; omega
          have e2 : IntKind.u32.wrap ((n1 : Int) + (p2 : Int)) = (n2 : Int) := by rw [IntKind.wrap_u32, ← N2.out]; omega
          have e3 : IntKind.u32.wrap ((n2 : Int) + (yb : Int)) = (n3 : Int) := by rw [IntKind.wrap_u32, ← N3.out]; omega
          have HS : Hid (sched b (k + 1) = sched b k ++ [n3]) := Lib.hid (by
            simp only [sched]
            rw [if_neg (by omega), HL0.out, P1.out, P2.out, Y.out, Z.out, ← HXB.out, ← HYB.out, ← N3.out, ← N2.out, ← N1.out]
            simp only [Nat.mod_add_mod])
          have j1 : (0 : Int) ≤ (k : Int) - 16 := by omega
          have j2 : (k : Int) - 16 < 64 := by omega
          have j4 : (16 : Int) ≤ (k : Int) := by omega
          have j3 : IntKind.i64.wrap ((k : Int) - 16) = (k : Int) - 16 := by rw [IntKind.wrap_i64]; omega
          have k1 : (0 : Int) ≤ (k : Int) - 7 := by omega
          have k2 : (k : Int) - 7 < 64 := by omega
          have k4 : (7 : Int) ≤ (k : Int) := by omega
          have k3 : IntKind.i64.wrap ((k : Int) - 7) = (k : Int) - 7 := by rw [IntKind.wrap_i64]; omega
          have ca : w3.cell? ⟨w.heap.size + 1 + 1, ((k : Int) - 16).toNat, none⟩ = some (.int .u32 (p1 : Int)) := by
            rw [show ((k : Int) - 16).toNat = k - 16 by omega, wordsV_cell hb3b (by rw [schW_length b (by omega)]; omega), schW_getD b (by omega), HL0.out, P1.out]
          have cb' : w3.cell? ⟨w.heap.size + 1 + 1, k - 16, none⟩ = some (.int .u32 (p1 : Int)) := by
            rw [wordsV_cell hb3b (by rw [schW_length b (by omega)]; omega), schW_getD b (by omega), HL0.out, P1.out]
          have da : w3.cell? ⟨w.heap.size + 1 + 1, ((k : Int) - 7).toNat, none⟩ = some (.int .u32 (p2 : Int)) := by
            rw [show ((k : Int) - 7).toNat = k - 7 by omega, wordsV_cell hb3b (by rw [schW_length b (by omega)]; omega), schW_getD b (by omega), HL0.out, P2.out]
          have db' : w3.cell? ⟨w.heap.size + 1 + 1, k - 7, none⟩ = some (.int .u32 (p2 : Int)) := by
            rw [wordsV_cell hb3b (by rw [schW_length b (by omega)]; omega), schW_getD b (by omega), HL0.out, P2.out]
          go_wp2_with fail
          go_still_tail 15, (by kernel_rfl)
          change wpList _ _ _ _ _ w3.drew
          have hB2 := hBb.drew
          have hb22 := hb2b.drew
          have hb32 := hb3b.drew
          have q3 : w3.drew.cell? ⟨w.heap.size + 1 + 1, k, none⟩ = some (.int .u32 ((schW b k).getD k 0 : Nat)) := wordsV_cell hb32 (by rw [schW_length b (by omega)]; omega)
          have q4 : w3.drew.frozen? ⟨w.heap.size + 1 + 1, k, none⟩ = false := hb32.frozen
          clear ca cb' da db' hBb hb2b hb3b j1 j2 j3 j4 k1 k2 k3 k4 e1 e2 e3
          generalize w3.drew = wd at hB2 hb22 hb32 q3 q4 ⊢
          go_wp2_with fail
          refine ⟨⟨k + 1, by omega, by omega, by go_num, hB2.setCell (by simp; omega) _, Blk.setOther hb22 (by simp) _, ?_⟩, by simp [intOf]; omega⟩
          have := hb32.set k (.int .u32 (n3 : Int))
          rw [wordsV_set, schW_set b (by omega) HS.out] at this
          exact this
        · obtain rfl : k = 64 := by omega
          clear hlt hk hk2
          have HSz := Lib.hid (show (wordsV (schW b 0)).toArray.size = (wordsV (schW b 64)).toArray.size from by simp [wordsV, schW_length])
          have HSi := Lib.hid (show (Tryd.prog.info? 156).map (·.size) = some (wordsV (schW b 64)).toArray.size from by rw [show (wordsV (schW b 64)).toArray.size = 64 by simp [wordsV, schW_length]]; kernel_rfl)
          have HE := Lib.hid (show wordsV (schW b 64) = wordsV (sched b 64) from by simp [schW])
          go_wp2_with (first | (refine wpList_load_row rfl 156 _ rfl _ rfl 156 _ (0, 0) _ hb3 Tryd.underlying156 rfl HSi.out ?_) | (refine wpList_store_row rfl 156 _ _ rfl _ rfl 156 _ _ rfl hb2 HSi.out HSz.out (wordsV_one _) ?_))
          have hr := hb2.setRow (wordsV (schW b 64))
          refine bodyPost_ret (v := .agg (wordsV (schW b 64)).toArray) (results_cell_row rfl _ _ (w.heap.size + 1) 156 _ (0, 0) _ rfl hr Tryd.underlying156 rfl HSi.out) rfl ⟨?_, below_setRow hB (by omega) _⟩
          rw [HE.out, HR.out]
end Go.Proofs.YtpapfegbodolgaaDoor
