/- WALKS: the reference's block. -/
import Derived.Test.YtkmiodlehmocnaaDoorT2
import Derived.Test.YtkmiodlehmocnaaDoorT6
import Derived.Deep.AppendLies
import Derived.Deep.RegionLaw
set_option linter.unusedVariables false
set_option linter.unusedSimpArgs false
namespace Go.Proofs.YtkmiodlehmocnaaDoor
open Go.RowKit

theorem Tryd.info47 : (Tryd.prog.info? 47).map (fun i => (i.zero, i.size, i.bytes)) = some (some (.int .u32 0), 1, 4) := by kernel_rfl
theorem ba {w w' : World} {B : Nat} (h : Below B w w') : Below B w w'.drew := h.drew

theorem eight (w : World) (x1 a b1 c x2 e f g : Nat) : ∀ j, j < 8 → ((w.alloc (.cells #[.int .u32 (x1 : Nat), .int .u32 (a : Nat), .int .u32 (b1 : Nat), .int .u32 (c : Nat), .int .u32 (x2 : Nat), .int .u32 (e : Nat), .int .u32 (f : Nat), .int .u32 (g : Nat)] 47)).drew).cell? ⟨w.heap.size, j, none⟩ = some (.int .u32 ([x1, a, b1, c, x2, e, f, g].getD j 0 : Nat)) := fun j hj =>
  wordsV_cell (l := [x1, a, b1, c, x2, e, f, g]) (Blk.new w (wordsV [x1, a, b1, c, x2, e, f, g]) 47) hj
set_option maxRecDepth 100000 in
set_option maxHeartbeats 8000000 in
theorem ref_block (s : St) (hs : s.ok) (b : List Nat) (hb : b.length = 64) (hb8 : ∀ x ∈ b, x < 256) (ha ho hcap bb bo bcap : Nat) (w : World) (hA : ha < w.heap.size) (hBb : bb < w.heap.size)
    (hS : ∀ j, j < 8 → w.cell? ⟨ha, ho + j, none⟩ = some (.int .u32 (s.list.getD j 0 : Nat))) (hC : ∀ j, j < 64 → w.cell? ⟨bb, bo + j, none⟩ = some (.int .u8 (b.getD j 0 : Nat))) :
    Calls Tryd.prog 38 #[.slice (some ⟨ha, ho, none⟩) 8 hcap, .slice (some ⟨bb, bo, none⟩) 64 bcap] w fun e w' => ∃ g cap, e = .returned (.slice (some ⟨g, 0, none⟩) 8 cap) ∧ w.heap.size ≤ g ∧ g < w'.heap.size ∧
      (∀ j, j < 8 → w'.cell? ⟨g, j, none⟩ = some (.int .u32 ((compress s b).list.getD j 0 : Nat))) ∧ Below w.heap.size w w' := by
  obtain ⟨i0, hi, hz0, hz1, hz2⟩ := info_parts Tryd.info47
  obtain ⟨Z, HZ⟩ : ∃ Z, Hid (compress s b = Z) := ⟨_, Lib.hid rfl⟩
  rw [HZ.out]
  have HOK := Lib.hid hs
  clear hs
  have HS := Lib.hid hS
  have HC := Lib.hid hC
  have H8 := Lib.hid hb8
  have HB := Lib.hid hb
  clear hS hC hb8 hb
  go_enter Tryd.func38, Tryd.ntmps38
  go_wp2_with fail
  go_loopw [5, 6] (fun x i wr => ∃ k : Nat, k ≤ 16 ∧ i = .int .i64 k ∧ wr.ownsRow w.heap.size 47 1 x k ((sched b k).map wordV) ∧ Below w.heap.size w wr) (fun _ i _ => 16 - (intOf i).toNat)
  case atStart => exact ⟨0, by omega, rfl, World.ownsRow_nil _ _ _ _, Below.refl _ _⟩
  case round =>
    obtain ⟨k, hk, rfl, hown, hB⟩ := hrel
    by_cases hlt : k < 16
    · obtain ⟨x0, X0⟩ : ∃ x, Hid (b.getD (4 * k) 0 = x) := ⟨_, Lib.hid rfl⟩
      obtain ⟨x1, X1⟩ : ∃ x, Hid (b.getD (4 * k + 1) 0 = x) := ⟨_, Lib.hid rfl⟩
      obtain ⟨x2, X2⟩ : ∃ x, Hid (b.getD (4 * k + 2) 0 = x) := ⟨_, Lib.hid rfl⟩
      obtain ⟨x3, X3⟩ : ∃ x, Hid (b.getD (4 * k + 3) 0 = x) := ⟨_, Lib.hid rfl⟩
      have HK : Hid (∀ w', Below w.heap.size w w' → (w'.cell? ⟨bb, bo + (4 * (k : Int)).toNat, none⟩ = some (.int .u8 (x0 : Nat)) ∧ w'.cell? ⟨bb, bo + (4 * (k : Int) + 1).toNat, none⟩ = some (.int .u8 (x1 : Nat)) ∧ w'.cell? ⟨bb, bo + (4 * (k : Int) + 2).toNat, none⟩ = some (.int .u8 (x2 : Nat)) ∧ w'.cell? ⟨bb, bo + (4 * (k : Int) + 3).toNat, none⟩ = some (.int .u8 (x3 : Nat))) ∧ Below w.heap.size w w') := Lib.hid fun w' h =>
        ⟨⟨by rw [← X0.out, show (4 * (k : Int)).toNat = 4 * k by omega]; exact (h.cell (p := ⟨bb, bo + 4 * k, none⟩) hBb).trans (HC.out _ (by omega)), by rw [← X1.out, show (4 * (k : Int) + 1).toNat = 4 * k + 1 by omega]; exact (h.cell (p := ⟨bb, bo + (4 * k + 1), none⟩) hBb).trans (HC.out _ (by omega)), by rw [← X2.out, show (4 * (k : Int) + 2).toNat = 4 * k + 2 by omega]; exact (h.cell (p := ⟨bb, bo + (4 * k + 2), none⟩) hBb).trans (HC.out _ (by omega)), by rw [← X3.out, show (4 * (k : Int) + 3).toNat = 4 * k + 3 by omega]; exact (h.cell (p := ⟨bb, bo + (4 * k + 3), none⟩) hBb).trans (HC.out _ (by omega))⟩, h⟩
      have hx0 : x0 < 256 := by rw [← X0.out]; exact getD_lt H8.out (by rw [HB.out]; omega)
      have hx1 : x1 < 256 := by rw [← X1.out]; exact getD_lt H8.out (by rw [HB.out]; omega)
      have hx2 : x2 < 256 := by rw [← X2.out]; exact getD_lt H8.out (by rw [HB.out]; omega)
      have hx3 : x3 < 256 := by rw [← X3.out]; exact getD_lt H8.out (by rw [HB.out]; omega)
      obtain ⟨W, HW⟩ : ∃ W, Hid (word b k = W) := ⟨_, Lib.hid rfl⟩
      have w0 : IntKind.u32.wrap (x0 : Int) = (x0 : Int) := by rw [IntKind.wrap_u32]; omega
      have w1 : IntKind.u32.wrap (x1 : Int) = (x1 : Int) := by rw [IntKind.wrap_u32]; omega
      have w2 : IntKind.u32.wrap (x2 : Int) = (x2 : Int) := by rw [IntKind.wrap_u32]; omega
      have w3 : IntKind.u32.wrap (x3 : Int) = (x3 : Int) := by rw [IntKind.wrap_u32]; omega
      have v0 : IntKind.u32.wrap ((x0 : Int) * 16777216) = (x0 : Int) * 16777216 := by rw [IntKind.wrap_u32]; omega
      have v1 : IntKind.u32.wrap ((x1 : Int) * 65536) = (x1 : Int) * 65536 := by rw [IntKind.wrap_u32]; omega
      have v2 : IntKind.u32.wrap ((x2 : Int) * 256) = (x2 : Int) * 256 := by rw [IntKind.wrap_u32]; omega
      have hWb : x0 * 16777216 + x1 * 65536 + x2 * 256 + x3 = W := by rw [← HW.out, ← X0.out, ← X1.out, ← X2.out, ← X3.out]; rfl
      have e1 : bits .or .u32 ((x0 : Int) * 16777216) ((x1 : Int) * 65536) = (x0 : Int) * 16777216 + (x1 : Int) * 65536 := or_add24 hx0 hx1
      have e2 : bits .or .u32 ((x0 : Int) * 16777216 + (x1 : Int) * 65536) ((x2 : Int) * 256) = (x0 : Int) * 16777216 + (x1 : Int) * 65536 + (x2 : Int) * 256 := or_add16 hx0 hx1 hx2
      have e3 : bits .or .u32 ((x0 : Int) * 16777216 + (x1 : Int) * 65536 + (x2 : Int) * 256) (x3 : Int) = (W : Int) := by rw [or_add8 hx0 hx1 hx2 hx3]; omega
      clear hWb
      have f0 : (0 : Int) ≤ 4 * (k : Int) := by omega
      have f1 : (0 : Int) ≤ 4 * (k : Int) + 1 := by omega
      have f2 : (0 : Int) ≤ 4 * (k : Int) + 2 := by omega
      have f3 : (0 : Int) ≤ 4 * (k : Int) + 3 := by omega
      have g0 : 4 * (k : Int) < 64 := by omega
      have g1 : 4 * (k : Int) + 1 < 64 := by omega
      have g2 : 4 * (k : Int) + 2 < 64 := by omega
      have g3 : 4 * (k : Int) + 3 < 64 := by omega
      have i1 : IntKind.i64.wrap (4 * (k : Int)) = 4 * (k : Int) := by rw [IntKind.wrap_i64]; omega
      have i2 : IntKind.i64.wrap (4 * (k : Int) + 1) = 4 * (k : Int) + 1 := by rw [IntKind.wrap_i64]; omega
      have i3 : IntKind.i64.wrap (4 * (k : Int) + 2) = 4 * (k : Int) + 2 := by rw [IntKind.wrap_i64]; omega
      have i4 : IntKind.i64.wrap (4 * (k : Int) + 3) = 4 * (k : Int) + 3 := by rw [IntKind.wrap_i64]; omega
      go_wp2_with fail
      go_region_held3 (fun w' => (w'.cell? ⟨bb, bo + (4 * (k : Int)).toNat, none⟩ = some (.int .u8 (x0 : Nat)) ∧ w'.cell? ⟨bb, bo + (4 * (k : Int) + 1).toNat, none⟩ = some (.int .u8 (x1 : Nat)) ∧ w'.cell? ⟨bb, bo + (4 * (k : Int) + 2).toNat, none⟩ = some (.int .u8 (x2 : Nat)) ∧ w'.cell? ⟨bb, bo + (4 * (k : Int) + 3).toNat, none⟩ = some (.int .u8 (x3 : Nat))) ∧ Below w.heap.size w w')
        (first | assumption | exact HK.out _ hB.drew | (refine HK.out _ ((hB.alloc hB.size _).drew)) | (refine HK.out _ (hB.drew.alloc (by have := hB.size; simpa using this) _)) | (refine HK.out _ (below_of_append' hB hown hB.size hgrow)))
        ((refine step_append_lies _ (by rfl) _ _ _ (by rfl) w.heap.size 47 i0 (.int .u32 0) 1 4 Tryd.underlying48 hi hz0 hz1 hz2 (by rfl) (by decide) _ k _ (by rfl) ((hown.alloc _).drew) ⟨wr.heap.size, 0, none⟩ 1 1 [.int .u32 (W : Int)] (by rfl) (by rfl) (World.news_of_block (heap_alloc_new wr _)) (by simp [Value.oneCell']) (by omega) (by unfold maxLen; omega) (by omega) (by have := hB.size; simp; omega) (wr.heap.size + 1) (by simp) ?_; intro g cap w1 hown1 hgrow hat hgl))
      have HSc : Hid (sched b (k + 1) = sched b k ++ [W]) := Lib.hid (by rw [← HW.out]; simp only [sched]; rw [if_pos hlt])
      have hBn := (‹_ ∧ Below w.heap.size w w1›).2
      go_wp2_with fail
      exact ⟨⟨k + 1, by omega, by go_num, by rw [HSc.out, List.map_append]; exact hown1, hBn⟩, by simp [intOf]; omega⟩
    · obtain rfl : k = 16 := by omega
      clear hlt hk
      go_wp2_with fail
      go_loopw [5, 7, 8, 9] (fun x i _ _ wr => ∃ k : Nat, 16 ≤ k ∧ k ≤ 64 ∧ i = .int .i64 k ∧ wr.ownsRow w.heap.size 47 1 x k ((sched b k).map wordV) ∧ Below w.heap.size w wr) (fun _ i _ _ _ => 64 - (intOf i).toNat)
      case atStart => exact ⟨16, by omega, by omega, rfl, hown, hB⟩
      case round =>
        clear hown hB
        obtain ⟨k, hk, hk2, rfl, hown, hB⟩ := hrel
        by_cases hlt : k < 64
        · have HL := Lib.hid (sched_length b k)
          have HLt := Lib.hid (sched_lt (b := b) HB.out H8.out k)
          obtain ⟨L, HL0⟩ : ∃ L, Hid (sched b k = L) := ⟨_, Lib.hid rfl⟩
          rw [HL0.out] at hown HL HLt
          obtain ⟨y, Y⟩ : ∃ y, Hid (L.getD (k - 15) 0 = y) := ⟨_, Lib.hid rfl⟩
          have hy : y < 4294967296 := by rw [← Y.out]; exact getD_lt HLt.out (by rw [HL.out]; omega)
          obtain ⟨g0, c0, rfl⟩ := own_form (by omega) hown
          have j1 : (0 : Int) ≤ (k : Int) - 15 := by omega
          have j2 : (k : Int) - 15 < (k : Int) := by omega
          have j4 : (15 : Int) ≤ (k : Int) := by omega
          have j3 : IntKind.i64.wrap ((k : Int) - 15) = (k : Int) - 15 := by rw [IntKind.wrap_i64]; omega
          have hr1 := rotr_lt (n := 7) hy
          have hr2 := rotr_lt (n := 18) hy
          obtain ⟨xa, XA⟩ : ∃ x, Hid (rotr y 7 ^^^ rotr y 18 = x) := ⟨_, Lib.hid rfl⟩
          obtain ⟨xb, XB⟩ : ∃ x, Hid (xa ^^^ y / 8 = x) := ⟨_, Lib.hid rfl⟩
          have hxa : xa < 4294967296 := by rw [← XA.out]; exact Nat.xor_lt_two_pow (n := 32) hr1 hr2
          have hxb : xb < 4294967296 := by rw [← XB.out]; exact Nat.xor_lt_two_pow (n := 32) hxa (by omega)
          have HXB : Hid (xb = sg0 y) := Lib.hid (by rw [← XB.out, ← XA.out]; rfl)
          have q1 : bits .xor .u32 (rotr y 7 : Int) (rotr y 18 : Int) = (xa : Int) := by rw [u32_xor_nat _ _ hr1 hr2, XA.out]
          have q2 : bits .xor .u32 (xa : Int) ((y : Int) / 8) = (xb : Int) := by rw [show ((y : Int) / 8) = ((y / 8 : Nat) : Int) by omega, u32_xor_nat _ _ hxa (by omega), XB.out]
          have HK : Hid (∀ w', w'.ownsRow w.heap.size 47 1 (.slice (some ⟨g0, 0, none⟩) k c0) k (L.map wordV) → Below w.heap.size w w' → (w'.cell? ⟨g0, k - 15, none⟩ = some (.int .u32 (y : Int)) ∧ w'.cell? ⟨g0, ((k : Int) - 15).toNat, none⟩ = some (.int .u32 (y : Int))) ∧ w'.ownsRow w.heap.size 47 1 (.slice (some ⟨g0, 0, none⟩) k c0) k (L.map wordV) ∧ Below w.heap.size w w') := Lib.hid fun w' ho hb =>
            ⟨⟨by rw [← Y.out]; exact own_cell ho (by rw [HL.out]; omega), by rw [← Y.out, show ((k : Int) - 15).toNat = k - 15 by omega]; exact own_cell ho (by rw [HL.out]; omega)⟩, ho, hb⟩
          go_wp2_with fail
          go_region_held3 (fun w' => (w'.cell? ⟨g0, k - 15, none⟩ = some (.int .u32 (y : Int)) ∧ w'.cell? ⟨g0, ((k : Int) - 15).toNat, none⟩ = some (.int .u32 (y : Int))) ∧ w'.ownsRow w.heap.size 47 1 (.slice (some ⟨g0, 0, none⟩) k c0) k (L.map wordV) ∧ Below w.heap.size w w')
            (first | assumption | exact HK.out _ hown.drew hB.drew | (have h := ‹_ ∧ World.ownsRow _ _ _ _ _ _ _ ∧ Below _ _ _›; exact HK.out _ h.2.1.drew h.2.2.drew))
            (first | (go_at_call_of 49 (Value.int .i64 7); refine (ref_rotated y 7 _ hy (by decide)).mono ?_; rintro e w4 ⟨rfl, rfl⟩) | (go_at_call_of 49 (Value.int .i64 18); refine (ref_rotated y 18 _ hy (by decide)).mono ?_; rintro e w4 ⟨rfl, rfl⟩))
          have hown9 := hown.drew.drew.drew
          have hB9 := hB.drew.drew.drew
          clear q1 q2 hr1 hr2 hxa HK j1 j2 j3 j4 hown hB
          generalize wr.drew.drew.drew = w9 at hown9 hB9 ⊢
          obtain ⟨z, Z⟩ : ∃ y, Hid (L.getD (k - 2) 0 = y) := ⟨_, Lib.hid rfl⟩
          have hz : z < 4294967296 := by rw [← Z.out]; exact getD_lt HLt.out (by rw [HL.out]; omega)
          have j1 : (0 : Int) ≤ (k : Int) - 2 := by omega
          have j2 : (k : Int) - 2 < (k : Int) := by omega
          have j4 : (2 : Int) ≤ (k : Int) := by omega
          have j3 : IntKind.i64.wrap ((k : Int) - 2) = (k : Int) - 2 := by rw [IntKind.wrap_i64]; omega
          have hr1 := rotr_lt (n := 17) hz
          have hr2 := rotr_lt (n := 19) hz
          obtain ⟨ya, YA⟩ : ∃ x, Hid (rotr z 17 ^^^ rotr z 19 = x) := ⟨_, Lib.hid rfl⟩
          obtain ⟨yb, YB⟩ : ∃ x, Hid (ya ^^^ z / 1024 = x) := ⟨_, Lib.hid rfl⟩
          have hya : ya < 4294967296 := by rw [← YA.out]; exact Nat.xor_lt_two_pow (n := 32) hr1 hr2
          have hyb : yb < 4294967296 := by rw [← YB.out]; exact Nat.xor_lt_two_pow (n := 32) hya (by omega)
          have HYB : Hid (yb = sg1 z) := Lib.hid (by rw [← YB.out, ← YA.out]; rfl)
          have q1 : bits .xor .u32 (rotr z 17 : Int) (rotr z 19 : Int) = (ya : Int) := by rw [u32_xor_nat _ _ hr1 hr2, YA.out]
          have q2 : bits .xor .u32 (ya : Int) ((z : Int) / 1024) = (yb : Int) := by rw [show ((z : Int) / 1024) = ((z / 1024 : Nat) : Int) by omega, u32_xor_nat _ _ hya (by omega), YB.out]
          have HK : Hid (∀ w', w'.ownsRow w.heap.size 47 1 (.slice (some ⟨g0, 0, none⟩) k c0) k (L.map wordV) → Below w.heap.size w w' → (w'.cell? ⟨g0, k - 2, none⟩ = some (.int .u32 (z : Int)) ∧ w'.cell? ⟨g0, ((k : Int) - 2).toNat, none⟩ = some (.int .u32 (z : Int))) ∧ w'.ownsRow w.heap.size 47 1 (.slice (some ⟨g0, 0, none⟩) k c0) k (L.map wordV) ∧ Below w.heap.size w w') := Lib.hid fun w' ho hb =>
            ⟨⟨by rw [← Z.out]; exact own_cell ho (by rw [HL.out]; omega), by rw [← Z.out, show ((k : Int) - 2).toNat = k - 2 by omega]; exact own_cell ho (by rw [HL.out]; omega)⟩, ho, hb⟩
          go_wp2_with fail
          go_region_held3 (fun w' => (w'.cell? ⟨g0, k - 2, none⟩ = some (.int .u32 (z : Int)) ∧ w'.cell? ⟨g0, ((k : Int) - 2).toNat, none⟩ = some (.int .u32 (z : Int))) ∧ w'.ownsRow w.heap.size 47 1 (.slice (some ⟨g0, 0, none⟩) k c0) k (L.map wordV) ∧ Below w.heap.size w w')
            (first | assumption | exact HK.out _ hown9.drew hB9.drew | (have h := ‹_ ∧ World.ownsRow _ _ _ _ _ _ _ ∧ Below _ _ _›; exact HK.out _ h.2.1.drew h.2.2.drew))
            (first | (go_at_call_of 49 (Value.int .i64 17); refine (ref_rotated z 17 _ hz (by decide)).mono ?_; rintro e w4 ⟨rfl, rfl⟩) | (go_at_call_of 49 (Value.int .i64 19); refine (ref_rotated z 19 _ hz (by decide)).mono ?_; rintro e w4 ⟨rfl, rfl⟩))
          have hown := hown9.drew.drew.drew
          have hB := hB9.drew.drew.drew
          clear q1 q2 hr1 hr2 hya HK j1 j2 j3 j4 hown9 hB9
          generalize w9.drew.drew.drew = w10 at hown hB ⊢
          go_wp2_with fail
          obtain ⟨u, U⟩ : ∃ y, Hid (L.getD (k - 16) 0 = y) := ⟨_, Lib.hid rfl⟩
          obtain ⟨v, V⟩ : ∃ y, Hid (L.getD (k - 7) 0 = y) := ⟨_, Lib.hid rfl⟩
          have hu : u < 4294967296 := by rw [← U.out]; exact getD_lt HLt.out (by rw [HL.out]; omega)
          have hv : v < 4294967296 := by rw [← V.out]; exact getD_lt HLt.out (by rw [HL.out]; omega)
          have j1 : (0 : Int) ≤ (k : Int) - 16 := by omega
          have j2 : (k : Int) - 16 < (k : Int) := by omega
          have j4 : (16 : Int) ≤ (k : Int) := by omega
          have j3 : IntKind.i64.wrap ((k : Int) - 16) = (k : Int) - 16 := by rw [IntKind.wrap_i64]; omega
          have l1 : (0 : Int) ≤ (k : Int) - 7 := by omega
          have l2 : (k : Int) - 7 < (k : Int) := by omega
          have l4 : (7 : Int) ≤ (k : Int) := by omega
          have l3 : IntKind.i64.wrap ((k : Int) - 7) = (k : Int) - 7 := by rw [IntKind.wrap_i64]; omega
          have cu : w10.cell? ⟨g0, k - 16, none⟩ = some (.int .u32 (u : Int)) := by rw [← U.out]; exact own_cell hown (by rw [HL.out]; omega)
          have cu' : w10.cell? ⟨g0, ((k : Int) - 16).toNat, none⟩ = some (.int .u32 (u : Int)) := by rw [show ((k : Int) - 16).toNat = k - 16 by omega]; exact cu
          have cv : w10.cell? ⟨g0, k - 7, none⟩ = some (.int .u32 (v : Int)) := by rw [← V.out]; exact own_cell hown (by rw [HL.out]; omega)
          have cv' : w10.cell? ⟨g0, ((k : Int) - 7).toNat, none⟩ = some (.int .u32 (v : Int)) := by rw [show ((k : Int) - 7).toNat = k - 7 by omega]; exact cv
          obtain ⟨a1, A1⟩ : ∃ x, Hid ((u + xb) % 4294967296 = x) := ⟨_, Lib.hid rfl⟩
          obtain ⟨a2, A2⟩ : ∃ x, Hid ((a1 + v) % 4294967296 = x) := ⟨_, Lib.hid rfl⟩
          obtain ⟨a3, A3⟩ : ∃ x, Hid ((a2 + yb) % 4294967296 = x) := ⟨_, Lib.hid rfl⟩
          have s1 : IntKind.u32.wrap ((u : Int) + (xb : Int)) = (a1 : Int) := by rw [IntKind.wrap_u32, ← A1.out]; omega
          have s2 : IntKind.u32.wrap ((a1 : Int) + (v : Int)) = (a2 : Int) := by rw [IntKind.wrap_u32, ← A2.out]; omega
          have s3 : IntKind.u32.wrap ((a2 : Int) + (yb : Int)) = (a3 : Int) := by rw [IntKind.wrap_u32, ← A3.out]; omega
          go_region_law ((refine step_append_lies _ (by rfl) _ _ _ (by rfl) w.heap.size 47 i0 (.int .u32 0) 1 4 Tryd.underlying48 hi hz0 hz1 hz2 (by rfl) (by decide) _ k _ (by rfl) ((hown.alloc _).drew) ⟨w10.heap.size, 0, none⟩ 1 1 [.int .u32 (a3 : Int)] (by rfl) (by rfl) (World.news_of_block (heap_alloc_new w10 _)) (by simp [Value.oneCell']) (by omega) (by unfold maxLen; omega) (by omega) (by have := hB.size; simp; omega) (w10.heap.size + 1) (by simp) ?_; intro g cap w1 hown1 hgrow hat hgl))
          all_goals
            go_wp2_with fail
            have HSc : Hid (sched b (k + 1) = L ++ [a3]) := Lib.hid (by
              rw [← A3.out, ← A2.out, ← A1.out, HXB.out, HYB.out, ← U.out, ← V.out, ← Y.out, ← Z.out]
              simp only [sched]
              rw [HL0.out, if_neg (by omega)]
              simp only [Nat.mod_add_mod])
            refine ⟨?_, by simp [intOf]; omega⟩
            (repeat apply Exists.intro)
            refine And.intro ?_ ?_
            rotate_left
            · rfl
            refine ⟨k + 1, by omega, by omega, by go_num, ?_, below_of_append' hB hown hB.size hgrow⟩
            rw [HSc.out, List.map_append]
            exact hown1
        · obtain ⟨N, HN⟩ : ∃ N, Hid (N = k) := ⟨k, Lib.hid rfl⟩
          obtain ⟨L, HL0⟩ : ∃ L, Hid (sched b N = L) := ⟨_, Lib.hid rfl⟩
          have HL := Lib.hid (sched_length b k)
          have HLt := Lib.hid (sched_lt (b := b) HB.out H8.out k)
          rw [show sched b k = L from by rw [← HL0.out, HN.out]] at hown HL HLt
          obtain rfl : k = 64 := by omega
          clear hlt hk hk2
          obtain ⟨g0, c0, rfl⟩ := own_form (by omega) hown
          go_wp2_with fail
          refine (ref_constants _).mono ?_
          rintro e w5 ⟨rfl, rfl⟩
          have hB5 : Below w.heap.size w (wr.alloc (.cells ((kTab.map fun (k : Nat) => Value.int .u32 (k : Int)).toArray) 47)) := hB.alloc hB.size _
          have hown5 := hown.alloc (.cells ((kTab.map fun (k : Nat) => Value.int .u32 (k : Int)).toArray) 47)
          have hk5 : ∀ j, j < 64 → (wr.alloc (.cells ((kTab.map fun (k : Nat) => Value.int .u32 (k : Int)).toArray) 47)).cell? ⟨wr.heap.size, j, none⟩ = some (.int .u32 (kTab.getD j 0 : Nat)) := fun j hj => by
            have := World.news_of_block (heap_alloc_new wr (.cells ((kTab.map fun (k : Nat) => Value.int .u32 (k : Int)).toArray) 47)) j (.int .u32 (kTab.getD j 0 : Nat)) (by simp [show j < kTab.length from hj])
            rw [show (⟨wr.heap.size, 0, none⟩ : Addr).add j = ⟨wr.heap.size, j, none⟩ from by unfold Addr.add; split <;> simp_all] at this
            exact this
          have hC5 : wr.heap.size < (wr.alloc (.cells ((kTab.map fun (k : Nat) => Value.int .u32 (k : Int)).toArray) 47)).heap.size := by simp
          obtain ⟨C, HCe⟩ : ∃ C, Hid (wr.heap.size = C) := ⟨_, Lib.hid rfl⟩
          generalize wr.alloc (.cells ((kTab.map fun (k : Nat) => Value.int .u32 (k : Int)).toArray) 47) = w5 at hB5 hown5 hk5 hC5 ⊢
          rw [HCe.out] at hk5 hC5 ⊢
          have HK5 := Lib.hid hk5
          clear hk5
          go_wp2_with (at_builtin; refine wpList_append_own _ rfl _ _ 48 rfl w5.heap.size 47 i0 (.int .u32 0) 1 4 Tryd.underlying48 hi hz0 hz1 hz2 rfl (by decide) _ _ _ rfl (World.ownsRow_nil _ _ _ _) ⟨ha, ho, none⟩ 8 hcap (s.list.map wordV) rfl rfl (fun j u hj => by
            have hj8 : j < 8 := by have := (List.getElem?_eq_some_iff.1 hj).1; simpa [St.list] using this
            have hu : u = wordV (s.list.getD j 0) := by
              rw [List.getElem?_map] at hj
              simp only [List.getD_eq_getElem?_getD]
              rw [List.getElem?_eq_getElem (show j < s.list.length from hj8)] at hj ⊢
              simpa using hj.symm
            rw [show (⟨ha, ho, none⟩ : Addr).add j = ⟨ha, ho + j, none⟩ from by unfold Addr.add; split <;> simp_all, hu]
            exact (hB5.cell (p := ⟨ha, ho + j, none⟩) hA).trans (HS.out j hj8)) (by simp [St.list, wordV, Value.oneCell']) (by unfold maxLen; omega) (by omega) (by omega) ?_; intro v' w1 hown' hgrow _)
          have hv1 : 8 = 8 := rfl
          obtain ⟨gv, cv, rfl⟩ := own_form (by simp) hown'
          have hcv : ∀ j, j < 8 → w1.cell? ⟨gv, j, none⟩ = some (.int .u32 (s.list.getD j 0 : Nat)) := fun j hj => own_cell (l := s.list) (by simpa using hown') hj
          have hB6 : Below w5.heap.size w5 w1 := by
            refine (Below.refl w5.heap.size w5).grown hgrow (Nat.le_refl _) ?_
            intro k hk
            exact absurd hk (by simp [Value.ownBlock, Act.eval])
          have hgv : gv < w1.heap.size := own_lt hown'
          clear hown' hgrow
          have hC6 : C < w1.heap.size := Nat.lt_of_lt_of_le hC5 hB6.size
          have HK6 : Hid (∀ j, j < 64 → w1.cell? ⟨C, j, none⟩ = some (.int .u32 (kTab.getD j 0 : Nat))) := Lib.hid fun j hj => (hB6.cell (p := ⟨C, j, none⟩) hC5).trans (HK5.out j hj)
          have hg5 := own_lt hown5
          have HW6 : Hid (∀ j, j < 64 → w1.cell? ⟨g0, j, none⟩ = some (.int .u32 (L.getD j 0 : Nat))) := Lib.hid fun j hj => (hB6.cell (p := ⟨g0, j, none⟩) hg5).trans (own_cell hown5 (by rw [HL.out]; exact hj))
          have hg6 : g0 < w1.heap.size := Nat.lt_of_lt_of_le hg5 hB6.size
          have HCV := Lib.hid hcv
          clear hcv hown5 hown
          go_loopw [11, 12, 13, 14, 15, 16] (fun x i _ _ _ _ wr => ∃ k : Nat, k ≤ 64 ∧ i = .int .i64 k ∧ ∃ g c, x = .slice (some ⟨g, 0, none⟩) 8 c ∧ g < wr.heap.size ∧ Hid (∀ j, j < 8 → wr.cell? ⟨g, j, none⟩ = some (.int .u32 ((rounds L s k).list.getD j 0 : Nat))) ∧ Below w1.heap.size w1 wr) (fun _ i _ _ _ _ _ => 64 - (intOf i).toNat)
          case atStart => exact ⟨0, by omega, rfl, gv, cv, rfl, hgv, HCV, Below.refl _ _⟩
          case round =>
            obtain ⟨k, hk, rfl, gg, cc, rfl, hgg, HR, hBr⟩ := hrel
            by_cases hlt : k < 64
            · have hok := rounds_ok (L := L) HOK.out k
              obtain ⟨R, HRe⟩ : ∃ R, Hid (rounds L s k = R) := ⟨_, Lib.hid rfl⟩
              rw [HRe.out] at HR hok
              obtain ⟨a, b1, c, d, e, f, g, h8⟩ := R
              obtain ⟨ha0, hb0, hc0, hd0, he0, hf0, hg0, hh0⟩ := hok
              have cell0 : wr.cell? ⟨gg, 0, none⟩ = some (.int .u32 (a : Nat)) := HR.out 0 (by omega)
              have cell4 : wr.cell? ⟨gg, 4, none⟩ = some (.int .u32 (e : Nat)) := HR.out 4 (by omega)
              replace ha0 : a < 4294967296 := ha0
              replace hb0 : b1 < 4294967296 := hb0
              replace hc0 : c < 4294967296 := hc0
              replace hd0 : d < 4294967296 := hd0
              replace he0 : e < 4294967296 := he0
              replace hf0 : f < 4294967296 := hf0
              replace hg0 : g < 4294967296 := hg0
              replace hh0 : h8 < 4294967296 := hh0
              obtain ⟨kt, KT⟩ : ∃ x, Hid (kTab.getD k 0 = x) := ⟨_, Lib.hid rfl⟩
              obtain ⟨wk, WK⟩ : ∃ x, Hid (L.getD k 0 = x) := ⟨_, Lib.hid rfl⟩
              have hkt : kt < 4294967296 := by rw [← KT.out]; exact getD_lt kTab_lt (show k < kTab.length from hlt)
              have hwk : wk < 4294967296 := by rw [← WK.out]; exact getD_lt HLt.out (by rw [HL.out]; exact hlt)
              have HK : Hid (∀ w', Below wr.heap.size wr w' → (w'.cell? ⟨gg, 1, none⟩ = some (.int .u32 (b1 : Nat)) ∧ w'.cell? ⟨gg, 2, none⟩ = some (.int .u32 (c : Nat)) ∧ w'.cell? ⟨gg, 3, none⟩ = some (.int .u32 (d : Nat)) ∧ w'.cell? ⟨gg, 5, none⟩ = some (.int .u32 (f : Nat)) ∧ w'.cell? ⟨gg, 6, none⟩ = some (.int .u32 (g : Nat)) ∧ w'.cell? ⟨gg, 7, none⟩ = some (.int .u32 (h8 : Nat)) ∧ w'.cell? ⟨C, k, none⟩ = some (.int .u32 (kt : Nat)) ∧ w'.cell? ⟨g0, k, none⟩ = some (.int .u32 (wk : Nat))) ∧ Below wr.heap.size wr w') := Lib.hid fun w' hb =>
                ⟨⟨(hb.cell (p := ⟨gg, 1, none⟩) hgg).trans (HR.out 1 (by omega)), (hb.cell (p := ⟨gg, 2, none⟩) hgg).trans (HR.out 2 (by omega)), (hb.cell (p := ⟨gg, 3, none⟩) hgg).trans (HR.out 3 (by omega)), (hb.cell (p := ⟨gg, 5, none⟩) hgg).trans (HR.out 5 (by omega)), (hb.cell (p := ⟨gg, 6, none⟩) hgg).trans (HR.out 6 (by omega)), (hb.cell (p := ⟨gg, 7, none⟩) hgg).trans (HR.out 7 (by omega)),
                  by rw [← KT.out]; exact (hb.cell (p := ⟨C, k, none⟩) (Nat.lt_of_lt_of_le hC6 hBr.size)).trans ((hBr.cell (p := ⟨C, k, none⟩) hC6).trans (HK6.out k hlt)), by rw [← WK.out]; exact (hb.cell (p := ⟨g0, k, none⟩) (Nat.lt_of_lt_of_le hg6 hBr.size)).trans ((hBr.cell (p := ⟨g0, k, none⟩) hg6).trans (HW6.out k hlt))⟩, hb⟩
              go_wp2_with fail
              clear cell0 cell4
              have hr6 := rotr_lt (n := 6) he0
              have hr11 := rotr_lt (n := 11) he0
              have hr25 := rotr_lt (n := 25) he0
              obtain ⟨m1, M1⟩ : ∃ x, Hid (rotr e 6 ^^^ rotr e 11 = x) := ⟨_, Lib.hid rfl⟩
              have hm1 : m1 < 4294967296 := by rw [← M1.out]; exact Nat.xor_lt_two_pow (n := 32) hr6 hr11
              obtain ⟨m2, M2⟩ : ∃ x, Hid (m1 ^^^ rotr e 25 = x) := ⟨_, Lib.hid rfl⟩
              have hm2 : m2 < 4294967296 := by rw [← M2.out]; exact Nat.xor_lt_two_pow (n := 32) hm1 hr25
              obtain ⟨n1, N1⟩ : ∃ x, Hid ((h8 + m2) % 4294967296 = x) := ⟨_, Lib.hid rfl⟩
              have hn1 : n1 < 4294967296 := by rw [← N1.out]; exact Nat.mod_lt _ (by decide)
              obtain ⟨p1, P1⟩ : ∃ x, Hid (e &&& f = x) := ⟨_, Lib.hid rfl⟩
              have hp1 : p1 < 4294967296 := by rw [← P1.out]; exact Nat.lt_of_le_of_lt Nat.and_le_left he0
              obtain ⟨p2, P2⟩ : ∃ x, Hid (4294967295 ^^^ e = x) := ⟨_, Lib.hid rfl⟩
              have hp2 : p2 < 4294967296 := by rw [← P2.out]; exact Nat.xor_lt_two_pow (n := 32) (by decide) he0
              obtain ⟨p3, P3⟩ : ∃ x, Hid (p2 &&& g = x) := ⟨_, Lib.hid rfl⟩
              have hp3 : p3 < 4294967296 := by rw [← P3.out]; exact Nat.lt_of_le_of_lt Nat.and_le_left hp2
              obtain ⟨p4, P4⟩ : ∃ x, Hid (p1 ^^^ p3 = x) := ⟨_, Lib.hid rfl⟩
              have hp4 : p4 < 4294967296 := by rw [← P4.out]; exact Nat.xor_lt_two_pow (n := 32) hp1 hp3
              obtain ⟨n2, N2⟩ : ∃ x, Hid ((n1 + p4) % 4294967296 = x) := ⟨_, Lib.hid rfl⟩
              have hn2 : n2 < 4294967296 := by rw [← N2.out]; exact Nat.mod_lt _ (by decide)
              obtain ⟨n3, N3⟩ : ∃ x, Hid ((n2 + kt) % 4294967296 = x) := ⟨_, Lib.hid rfl⟩
              have hn3 : n3 < 4294967296 := by rw [← N3.out]; exact Nat.mod_lt _ (by decide)
              obtain ⟨n4, N4⟩ : ∃ x, Hid ((n3 + wk) % 4294967296 = x) := ⟨_, Lib.hid rfl⟩
              have hn4 : n4 < 4294967296 := by rw [← N4.out]; exact Nat.mod_lt _ (by decide)
              have e1 : bits .xor .u32 (rotr e 6 : Int) (rotr e 11 : Int) = (m1 : Int) := by rw [u32_xor_nat _ _ hr6 hr11, M1.out]
              have e2 : bits .xor .u32 (m1 : Int) (rotr e 25 : Int) = (m2 : Int) := by rw [u32_xor_nat _ _ hm1 hr25, M2.out]
              have e3 : IntKind.u32.wrap ((h8 : Int) + (m2 : Int)) = (n1 : Int) := by rw [IntKind.wrap_u32, ← N1.out]; omega
              have e4 : bits .and .u32 (e : Int) (f : Int) = (p1 : Int) := by rw [u32_and_nat _ _ he0 hf0, P1.out]
              have e5 : bits .xor .u32 IntKind.u32.max (e : Int) = (p2 : Int) := by rw [← P2.out]; exact u32_xor_nat 4294967295 e (by decide) he0
              have e6 : bits .and .u32 (p2 : Int) (g : Int) = (p3 : Int) := by rw [u32_and_nat _ _ hp2 hg0, P3.out]
              have e7 : bits .xor .u32 (p1 : Int) (p3 : Int) = (p4 : Int) := by rw [u32_xor_nat _ _ hp1 hp3, P4.out]
              have e8 : IntKind.u32.wrap ((n1 : Int) + (p4 : Int)) = (n2 : Int) := by rw [IntKind.wrap_u32, ← N2.out]; omega
              have e9 : IntKind.u32.wrap ((n2 : Int) + (kt : Int)) = (n3 : Int) := by rw [IntKind.wrap_u32, ← N3.out]; omega
              have e10 : IntKind.u32.wrap ((n3 : Int) + (wk : Int)) = (n4 : Int) := by rw [IntKind.wrap_u32, ← N4.out]; omega
              have k1 : (0 : Int) ≤ (k : Int) := by omega
              have k2 : (k : Int) < 64 := by omega
              go_region_held3 (fun w' => (w'.cell? ⟨gg, 1, none⟩ = some (.int .u32 (b1 : Nat)) ∧ w'.cell? ⟨gg, 2, none⟩ = some (.int .u32 (c : Nat)) ∧ w'.cell? ⟨gg, 3, none⟩ = some (.int .u32 (d : Nat)) ∧ w'.cell? ⟨gg, 5, none⟩ = some (.int .u32 (f : Nat)) ∧ w'.cell? ⟨gg, 6, none⟩ = some (.int .u32 (g : Nat)) ∧ w'.cell? ⟨gg, 7, none⟩ = some (.int .u32 (h8 : Nat)) ∧ w'.cell? ⟨C, k, none⟩ = some (.int .u32 (kt : Nat)) ∧ w'.cell? ⟨g0, k, none⟩ = some (.int .u32 (wk : Nat))) ∧ Below wr.heap.size wr w')
                (first | assumption | exact HK.out _ (Below.refl _ _).drew | (have hh := ‹_ ∧ Below wr.heap.size wr _›; exact HK.out _ hh.2.drew))
                (first | (go_at_call_of 49 (Value.int .i64 6); refine (ref_rotated e 6 _ he0 (by decide)).mono ?_; rintro e' w4 ⟨rfl, rfl⟩) | (go_at_call_of 49 (Value.int .i64 11); refine (ref_rotated e 11 _ he0 (by decide)).mono ?_; rintro e' w4 ⟨rfl, rfl⟩) | (go_at_call_of 49 (Value.int .i64 25); refine (ref_rotated e 25 _ he0 (by decide)).mono ?_; rintro e' w4 ⟨rfl, rfl⟩))
              have HT : Hid (n4 = St.t ⟨a, b1, c, d, e, f, g, h8⟩ kt wk) := Lib.hid (by
                rw [← N4.out, ← N3.out, ← N2.out, ← N1.out, ← P4.out, ← P3.out, ← P2.out, ← P1.out, ← M2.out, ← M1.out]
                simp only [St.t, bs1, chs, Nat.mod_add_mod])
              clear e1 e2 e3 e4 e5 e6 e7 e8 e9 e10 hr6 hr11 hr25 hm1 hm2 hn1 hp1 hp2 hp3 hp4 hn2 hn3
              have hB7 : Below wr.heap.size wr wr.drew.drew.drew.drew := (Below.refl _ _).drew.drew.drew.drew
              generalize wr.drew.drew.drew.drew = w7 at hB7 ⊢
              have hr2 := rotr_lt (n := 2) ha0
              have hr13 := rotr_lt (n := 13) ha0
              have hr22 := rotr_lt (n := 22) ha0
              obtain ⟨m3, M3⟩ : ∃ x, Hid (rotr a 2 ^^^ rotr a 13 = x) := ⟨_, Lib.hid rfl⟩
              have hm3 : m3 < 4294967296 := by rw [← M3.out]; exact Nat.xor_lt_two_pow (n := 32) hr2 hr13
              obtain ⟨m4, M4⟩ : ∃ x, Hid (m3 ^^^ rotr a 22 = x) := ⟨_, Lib.hid rfl⟩
              have hm4 : m4 < 4294967296 := by rw [← M4.out]; exact Nat.xor_lt_two_pow (n := 32) hm3 hr22
              obtain ⟨o1, O1⟩ : ∃ x, Hid (a &&& b1 = x) := ⟨_, Lib.hid rfl⟩
              have ho1 : o1 < 4294967296 := by rw [← O1.out]; exact Nat.lt_of_le_of_lt Nat.and_le_left ha0
              obtain ⟨o2, O2⟩ : ∃ x, Hid (a &&& c = x) := ⟨_, Lib.hid rfl⟩
              have ho2 : o2 < 4294967296 := by rw [← O2.out]; exact Nat.lt_of_le_of_lt Nat.and_le_left ha0
              obtain ⟨o3, O3⟩ : ∃ x, Hid (o1 ^^^ o2 = x) := ⟨_, Lib.hid rfl⟩
              have ho3 : o3 < 4294967296 := by rw [← O3.out]; exact Nat.xor_lt_two_pow (n := 32) ho1 ho2
              obtain ⟨o4, O4⟩ : ∃ x, Hid (b1 &&& c = x) := ⟨_, Lib.hid rfl⟩
              have ho4 : o4 < 4294967296 := by rw [← O4.out]; exact Nat.lt_of_le_of_lt Nat.and_le_left hb0
              obtain ⟨o5, O5⟩ : ∃ x, Hid (o3 ^^^ o4 = x) := ⟨_, Lib.hid rfl⟩
              have ho5 : o5 < 4294967296 := by rw [← O5.out]; exact Nat.xor_lt_two_pow (n := 32) ho3 ho4
              obtain ⟨u1, U1⟩ : ∃ x, Hid ((m4 + o5) % 4294967296 = x) := ⟨_, Lib.hid rfl⟩
              have hu1 : u1 < 4294967296 := by rw [← U1.out]; exact Nat.mod_lt _ (by decide)
              have e1 : bits .xor .u32 (rotr a 2 : Int) (rotr a 13 : Int) = (m3 : Int) := by rw [u32_xor_nat _ _ hr2 hr13, M3.out]
              have e2 : bits .xor .u32 (m3 : Int) (rotr a 22 : Int) = (m4 : Int) := by rw [u32_xor_nat _ _ hm3 hr22, M4.out]
              have e3 : bits .and .u32 (a : Int) (b1 : Int) = (o1 : Int) := by rw [u32_and_nat _ _ ha0 hb0, O1.out]
              have e4 : bits .and .u32 (a : Int) (c : Int) = (o2 : Int) := by rw [u32_and_nat _ _ ha0 hc0, O2.out]
              have e5 : bits .xor .u32 (o1 : Int) (o2 : Int) = (o3 : Int) := by rw [u32_xor_nat _ _ ho1 ho2, O3.out]
              have e6 : bits .and .u32 (b1 : Int) (c : Int) = (o4 : Int) := by rw [u32_and_nat _ _ hb0 hc0, O4.out]
              have e7 : bits .xor .u32 (o3 : Int) (o4 : Int) = (o5 : Int) := by rw [u32_xor_nat _ _ ho3 ho4, O5.out]
              have e8 : IntKind.u32.wrap ((m4 : Int) + (o5 : Int)) = (u1 : Int) := by rw [IntKind.wrap_u32, ← U1.out]; omega
              go_wp2_with fail
              go_region_held3 (fun w' => (w'.cell? ⟨gg, 1, none⟩ = some (.int .u32 (b1 : Nat)) ∧ w'.cell? ⟨gg, 2, none⟩ = some (.int .u32 (c : Nat)) ∧ w'.cell? ⟨gg, 3, none⟩ = some (.int .u32 (d : Nat)) ∧ w'.cell? ⟨gg, 5, none⟩ = some (.int .u32 (f : Nat)) ∧ w'.cell? ⟨gg, 6, none⟩ = some (.int .u32 (g : Nat)) ∧ w'.cell? ⟨gg, 7, none⟩ = some (.int .u32 (h8 : Nat)) ∧ w'.cell? ⟨C, k, none⟩ = some (.int .u32 (kt : Nat)) ∧ w'.cell? ⟨g0, k, none⟩ = some (.int .u32 (wk : Nat))) ∧ Below wr.heap.size wr w')
                (first | assumption | exact HK.out _ hB7.drew | (have hh := ‹_ ∧ Below wr.heap.size wr _›; exact HK.out _ hh.2.drew))
                (first | (go_at_call_of 49 (Value.int .i64 2); refine (ref_rotated a 2 _ ha0 (by decide)).mono ?_; rintro e' w4 ⟨rfl, rfl⟩) | (go_at_call_of 49 (Value.int .i64 13); refine (ref_rotated a 13 _ ha0 (by decide)).mono ?_; rintro e' w4 ⟨rfl, rfl⟩) | (go_at_call_of 49 (Value.int .i64 22); refine (ref_rotated a 22 _ ha0 (by decide)).mono ?_; rintro e' w4 ⟨rfl, rfl⟩))
              have HU : Hid (u1 = St.u ⟨a, b1, c, d, e, f, g, h8⟩) := Lib.hid (by
                rw [← U1.out, ← O5.out, ← O4.out, ← O3.out, ← O2.out, ← O1.out, ← M4.out, ← M3.out]
                rfl)
              clear e1 e2 e3 e4 e5 e6 e7 e8 hr2 hr13 hr22 hm3 hm4 ho1 ho2 ho3 ho4 ho5
              have hB8 : Below wr.heap.size wr w7.drew.drew.drew.drew := hB7.drew.drew.drew.drew
              generalize w7.drew.drew.drew.drew = w8 at hB8 ⊢
              obtain ⟨x1, X1⟩ : ∃ x, Hid ((n4 + u1) % 4294967296 = x) := ⟨_, Lib.hid rfl⟩
              obtain ⟨x2, X2⟩ : ∃ x, Hid ((d + n4) % 4294967296 = x) := ⟨_, Lib.hid rfl⟩
              have e1 : IntKind.u32.wrap ((n4 : Int) + (u1 : Int)) = (x1 : Int) := by rw [IntKind.wrap_u32, ← X1.out]; omega
              have e2 : IntKind.u32.wrap ((d : Int) + (n4 : Int)) = (x2 : Int) := by rw [IntKind.wrap_u32, ← X2.out]; omega
              go_wp2_with fail
              go_region_held3 (fun w' => (w'.cell? ⟨gg, 1, none⟩ = some (.int .u32 (b1 : Nat)) ∧ w'.cell? ⟨gg, 2, none⟩ = some (.int .u32 (c : Nat)) ∧ w'.cell? ⟨gg, 3, none⟩ = some (.int .u32 (d : Nat)) ∧ w'.cell? ⟨gg, 5, none⟩ = some (.int .u32 (f : Nat)) ∧ w'.cell? ⟨gg, 6, none⟩ = some (.int .u32 (g : Nat)) ∧ w'.cell? ⟨gg, 7, none⟩ = some (.int .u32 (h8 : Nat)) ∧ w'.cell? ⟨C, k, none⟩ = some (.int .u32 (kt : Nat)) ∧ w'.cell? ⟨g0, k, none⟩ = some (.int .u32 (wk : Nat))) ∧ Below wr.heap.size wr w')
                (first | assumption | exact HK.out _ hB8.drew | (exact HK.out _ (hB8.drew.alloc (by have := hB8.size; simpa using this) _)) | (have hh := ‹_ ∧ Below wr.heap.size wr _›; exact HK.out _ (hh.2.alloc hh.2.size _)))
                (fail)
              have HQ : Hid (rounds L s (k + 1) = St.step ⟨a, b1, c, d, e, f, g, h8⟩ kt wk) := Lib.hid (by
                rw [← HRe.out, ← KT.out, ← WK.out]; rfl)
              have HQ2 : Hid ((St.step ⟨a, b1, c, d, e, f, g, h8⟩ kt wk).list = [x1, a, b1, c, x2, e, f, g]) := Lib.hid (by
                rw [← X1.out, ← X2.out, HT.out, HU.out]; rfl)
              all_goals
                go_wp2_with fail
                refine ⟨?_, by simp [intOf]; omega⟩
                (repeat apply Exists.intro)
                refine And.intro ?_ ?_
                rotate_left
                · rfl
                refine ⟨k + 1, by omega, by go_num, _, _, rfl, ?_, Lib.hid ?_, ?_⟩
                · simp
                · rw [HQ.out, HQ2.out]; exact eight w8 x1 a b1 c x2 e f g
                · exact hBr.trans (((hB8.alloc hB8.size _).drew).mono hBr.size)
            · have hN : k = 64 := by omega
              obtain ⟨N2, HN2⟩ : ∃ N2, Hid (N2 = k) := ⟨k, Lib.hid rfl⟩
              have hRok := rounds_ok (L := L) HOK.out k
              obtain ⟨R, HRe⟩ : ∃ R, Hid (rounds L s N2 = R) := ⟨_, Lib.hid rfl⟩
              rw [show rounds L s k = R from by rw [← HRe.out, HN2.out]] at HR hRok
              have HZR : Hid (Z = s.add R) := Lib.hid (by rw [← HZ.out, ← HRe.out, ← HL0.out, HN2.out, hN, HN.out]; rfl)
              have HROK := Lib.hid hRok
              clear hRok
              obtain rfl : k = 64 := hN
              clear hlt hk
              have HBw : Hid (Below w.heap.size w wr) := Lib.hid ((hB5.trans (hB6.mono hB5.size)).trans (hBr.mono (Nat.le_trans hB5.size hB6.size)))
              obtain ⟨wb, rfl⟩ : ∃ wb, wb = wr := ⟨wr, rfl⟩
              go_wp2_with fail
              go_loopw [17, 18] (fun x i wq => ∃ q : Nat, q ≤ 8 ∧ i = .int .i64 q ∧ wq.ownsRow wb.heap.size 47 1 x q ((Z.list.take q).map wordV) ∧ Hid (Below wb.heap.size wb wq)) (fun _ i _ => 8 - (intOf i).toNat)
              case atStart => exact ⟨0, by omega, rfl, World.ownsRow_nil _ _ _ _, Lib.hid (Below.refl _ _)⟩
              case round =>
                obtain ⟨q, hq, rfl, hown, HBq⟩ := hrel
                by_cases hlt : q < 8
                · obtain ⟨x, HX8⟩ : ∃ x, Hid (s.list.getD q 0 = x) := ⟨_, Lib.hid rfl⟩
                  obtain ⟨y, HY8⟩ : ∃ y, Hid (R.list.getD q 0 = y) := ⟨_, Lib.hid rfl⟩
                  obtain ⟨z, HZ8⟩ : ∃ z, Hid ((x + y) % 4294967296 = z) := ⟨_, Lib.hid rfl⟩
                  have hx : x < 4294967296 := by rw [← HX8.out]; exact getD_lt (list_lt HOK.out) (by rw [list_len]; exact hlt)
                  have hy : y < 4294967296 := by rw [← HY8.out]; exact getD_lt (list_lt HROK.out) (by rw [list_len]; exact hlt)
                  have HK : Hid (∀ w', Below wb.heap.size wb w' → (w'.cell? ⟨ha, ho + q, none⟩ = some (.int .u32 (x : Nat)) ∧ w'.cell? ⟨gg, q, none⟩ = some (.int .u32 (y : Nat))) ∧ Below wb.heap.size wb w') := Lib.hid fun w' h =>
                    ⟨⟨by rw [← HX8.out]; exact (h.cell (p := ⟨ha, ho + q, none⟩) (Nat.lt_of_lt_of_le hA HBw.out.size)).trans ((HBw.out.cell (p := ⟨ha, ho + q, none⟩) hA).trans (HS.out q hlt)), by rw [← HY8.out]; exact (h.cell (p := ⟨gg, q, none⟩) hgg).trans (HR.out q hlt)⟩, h⟩
                  have d2 : decide ((q : Int) < 8) = true := by simp; omega
                  have q0 : 0 ≤ (q : Int) := by omega
                  have q8 : (q : Int) < 8 := by omega
                  have e0 : IntKind.u32.wrap ((x : Int) + (y : Int)) = (z : Int) := by rw [IntKind.wrap_u32, ← HZ8.out]; omega
                  have HSc : Hid (Z.list.take (q + 1) = Z.list.take q ++ [z]) := Lib.hid (by
                    have hl : q < Z.list.length := by rw [list_len]; exact hlt
                    rw [List.take_add_one, List.getElem?_eq_getElem hl]
                    have : Z.list[q] = z := by
                      have h1 : Z.list[q] = Z.list.getD q 0 := by rw [List.getD_eq_getElem?_getD, List.getElem?_eq_getElem hl]; rfl
                      rw [h1, HZR.out, ← addL_all, addL_get _ _ _ hlt, if_pos hlt, HX8.out, HY8.out, HZ8.out]
                    rw [this]; rfl)
                  have hB := HBq.out
                  have hzb := hB.size
                  go_wp2_with fail
                  go_region_held3 (fun w' => (w'.cell? ⟨ha, ho + q, none⟩ = some (.int .u32 (x : Nat)) ∧ w'.cell? ⟨gg, q, none⟩ = some (.int .u32 (y : Nat))) ∧ Below wb.heap.size wb w')
                    (first | assumption | exact HK.out _ hB.drew | (refine HK.out _ ((hB.alloc hB.size _).drew)) | (refine HK.out _ (hB.drew.alloc (by simpa using hzb) _)) | (refine HK.out _ (below_of_append' hB hown hB.size hgrow)))
                    ((refine step_append_lies _ (by rfl) _ _ _ (by rfl) wb.heap.size 47 i0 (.int .u32 0) 1 4 Tryd.underlying48 hi hz0 hz1 hz2 (by rfl) (by decide) _ q _ (by rfl) ((hown.alloc _).drew) ⟨wr.heap.size, 0, none⟩ 1 1 [.int .u32 (z : Int)] (by rfl) (by rfl) (World.news_of_block (heap_alloc_new wr _)) (by simp [Value.oneCell']) (by omega) (by unfold maxLen; omega) (by omega) (Nat.le_trans hzb (by simp)) (wr.heap.size + 1) (by simp) ?_; intro g9 cap w9 hown9 hgrow hat hgl))
                  have hBn : Below wb.heap.size wb w9 := below_of_append' hB hown hB.size hgrow
                  go_wp2_with fail
                  refine ⟨⟨q + 1, by omega, by go_num, ?_, Lib.hid hBn⟩, by simp [intOf]; omega⟩
                  rw [HSc.out, List.map_append]
                  exact hown9
                · obtain rfl : q = 8 := by omega
                  rw [List.take_of_length_le (show Z.list.length ≤ 8 from by rw [list_len]; decide)] at hown
                  obtain ⟨go, co, rfl⟩ := own_form (by decide) hown
                  have hc : ∀ j, j < 8 → wr.cell? ⟨go, j, none⟩ = some (.int .u32 (Z.list.getD j 0 : Nat)) := fun j hj => own_cell (l := Z.list) hown hj
                  have hgo := own_lt hown
                  have hgb : wb.heap.size ≤ go := by
                    rcases hown.2 with ⟨h0, _⟩ | ⟨g', cap, cur, h0, hgb, _⟩
                    · simp at h0
                    · simp at h0
                      obtain ⟨rfl, rfl⟩ := h0
                      exact hgb
                  have hfin : Below w.heap.size w wr := HBw.out.trans (HBq.out.mono HBw.out.size)
                  have hgw := Nat.le_trans HBw.out.size hgb
                  have HC2 := Lib.hid hc
                  clear hc hown
                  go_wp2_with fail
                  go_ret
                  exact ⟨go, co, rfl, hgw, hgo, HC2.out, hfin⟩
end Go.Proofs.YtkmiodlehmocnaaDoor
