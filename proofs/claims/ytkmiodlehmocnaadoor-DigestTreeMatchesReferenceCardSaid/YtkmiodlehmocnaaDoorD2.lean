/- WALKS: the reference's Sum, over what its block answers. -/
import Derived.Test.YtkmiodlehmocnaaDoorT10
import Derived.Deep.AppendLies
set_option linter.unusedVariables false
set_option linter.unusedSimpArgs false
namespace Go.Proofs.YtkmiodlehmocnaaDoor
open Go.RowKit

/-- What the reference's block answers. -/
def RefBlock : Prop := ∀ (s : St) (hs : s.ok) (b : List Nat) (hb : b.length = 64) (hb8 : ∀ x ∈ b, x < 256) (ha ho hcap bb bo bcap : Nat) (w : World) (hA : ha < w.heap.size) (hBb : bb < w.heap.size)
    (hS : ∀ j, j < 8 → w.cell? ⟨ha, ho + j, none⟩ = some (.int .u32 (s.list.getD j 0 : Nat))) (hC : ∀ j, j < 64 → w.cell? ⟨bb, bo + j, none⟩ = some (.int .u8 (b.getD j 0 : Nat))),
    Calls Tryd.prog 38 #[.slice (some ⟨ha, ho, none⟩) 8 hcap, .slice (some ⟨bb, bo, none⟩) 64 bcap] w fun e w' => ∃ g cap, e = .returned (.slice (some ⟨g, 0, none⟩) 8 cap) ∧ w.heap.size ≤ g ∧ g < w'.heap.size ∧
      (∀ j, j < 8 → w'.cell? ⟨g, j, none⟩ = some (.int .u32 ((compress s b).list.getD j 0 : Nat))) ∧ Below w.heap.size w w'

theorem pad_div (l : List Nat) : (pad l).length = 64 * ((pad l).length / 64) := by
  rw [pad_length]
  unfold zeros
  omega
theorem take_four (l : List Nat) (n : Nat) (h : n + 4 ≤ l.length) : l.take (n + 4) = l.take n ++ [l.getD n 0, l.getD (n + 1) 0, l.getD (n + 2) 0, l.getD (n + 3) 0] := by
  have e : ∀ i, i < l.length → l.take (i + 1) = l.take i ++ [l.getD i 0] := fun i hi => by
    rw [List.take_add_one, List.getElem?_eq_getElem hi, List.getD_eq_getElem?_getD, List.getElem?_eq_getElem hi]; rfl
  rw [show n + 4 = n + 3 + 1 from rfl, e (n + 3) (by omega), show n + 3 = n + 2 + 1 from rfl, e (n + 2) (by omega), show n + 2 = n + 1 + 1 from rfl, e (n + 1) (by omega), e n (by omega)]
  simp

set_option maxRecDepth 100000 in
set_option maxHeartbeats 2000000 in
theorem ref_sum (RB : RefBlock) (s : ByteArray) (w : World) (hs : s.size ≤ 5000) :
    Calls Tryd.prog 12 #[.string s] w fun e w' => e = .returned (.string (dg.f s)) ∧ Below w.heap.size w w' := by
  have HRB := Lib.hid RB
  clear RB
  obtain ⟨X, HX⟩ : ∃ X, Hid (pad (nums s) = X) := ⟨_, Lib.hid rfl⟩
  obtain ⟨nb, HNB⟩ : ∃ nb, Hid (X.length / 64 = nb) := ⟨_, Lib.hid rfl⟩
  have HXl := Lib.hid (show X.length = 64 * nb from by rw [← HNB.out, ← HX.out]; exact pad_div _)
  have HXb := Lib.hid (show ∀ b ∈ X, b < 256 from by rw [← HX.out]; exact pad_lt (nums_lt s))
  have hnb : nb ≤ 100 := by
    rw [← HNB.out, ← HX.out, pad_length, nums_len]
    unfold zeros
    omega
  have hnb1 : 1 ≤ nb := by
    rw [← HNB.out, ← HX.out, pad_length, nums_len]
    unfold zeros
    omega
  obtain ⟨R, HR⟩ : ∃ R, Hid (dg.f s = R) := ⟨_, Lib.hid rfl⟩
  have HRes : Hid (strOf' (blocks X nb).bytes = R) := Lib.hid (by rw [← HR.out, ← HNB.out, ← HX.out]; rfl)
  rw [HR.out]
  go_enter Tryd.func12, Tryd.ntmps12
  go_wp2_with fail
  have HW0 := Lib.hid (Blk.new w (wordsV start.list) 47)
  have hcell0 : ∀ j, j < 8 → (w.alloc (.cells (wordsV start.list).toArray 47)).cell? ⟨w.heap.size, j, none⟩ = some (.int .u32 (start.list.getD j 0 : Nat)) := fun j hj => by
    rw [wordsV_cell HW0.out (show j < start.list.length from hj)]
  have hB0 : Below w.heap.size w (w.alloc (.cells (wordsV start.list).toArray 47)) := (Below.refl _ w).alloc (Nat.le_refl _) _
  have hg0 : w.heap.size < (w.alloc (.cells (wordsV start.list).toArray 47)).heap.size := by simp
  change Calls Tryd.prog 37 #[Value.string s] (w.alloc (.cells (wordsV start.list).toArray 47)) _
  obtain ⟨G, HG⟩ : ∃ G, Hid (w.heap.size = G) := ⟨_, Lib.hid rfl⟩
  generalize w.alloc (.cells (wordsV start.list).toArray 47) = w1 at hcell0 hB0 hg0 ⊢
  refine (ref_extended s w1 (by omega)).mono ?_
  rintro e w2 ⟨v2, rfl, ho2, hb2⟩
  rw [HX.out, HXl.out] at ho2
  obtain ⟨gv, cv, rfl⟩ := own_form (by omega) ho2
  have hcellX : ∀ j, j < 64 * nb → w2.cell? ⟨gv, j, none⟩ = some (.int .u8 (X.getD j 0 : Nat)) := fun j hj => by
    have hl : j < X.length := by rw [HXl.out]; exact hj
    have := ho2.cells (g := gv) rfl j (byteV (X.getD j 0)) (by simp [hl])
    rw [show (⟨gv, 0, none⟩ : Addr).add j = ⟨gv, j, none⟩ from by unfold Addr.add; split <;> simp_all] at this
    exact this
  have HCX := Lib.hid hcellX
  have hgv := own_lt ho2
  have hcv : 64 * nb ≤ cv ∧ cv ≤ 9223372036854775807 := by
    rcases ho2.2 with ⟨h0, _⟩ | ⟨g', cap, cur, h0, _, _, h1, h2, _⟩
    · simp at h0
    · simp at h0
      obtain ⟨rfl, rfl⟩ := h0
      exact ⟨h1, h2⟩
  have HB2 := Lib.hid (bt hB0 hb2)
  have hS2 : ∀ j, j < 8 → w2.cell? ⟨w.heap.size, j, none⟩ = some (.int .u32 (start.list.getD j 0 : Nat)) := fun j hj => (hb2.cell (p := ⟨w.heap.size, j, none⟩) hg0).trans (hcell0 j hj)
  have HS2 := Lib.hid hS2
  have hg2 : w.heap.size < w2.heap.size := Nat.lt_of_lt_of_le hg0 hb2.size
  clear ho2 hb2 hcell0 hcellX hB0 hS2 HW0
  go_wp2_with fail
  go_loopw [3, 5] (fun x i wr => ∃ (k g c : Nat), k ≤ nb ∧ i = .int .i64 (64 * (k : Int)) ∧ x = .slice (some ⟨g, 0, none⟩) 8 c ∧ g < wr.heap.size ∧ Hid (∀ j, j < 8 → wr.cell? ⟨g, j, none⟩ = some (.int .u32 ((blocks X k).list.getD j 0 : Nat))) ∧ Hid (Below w2.heap.size w2 wr)) (fun _ i _ => 64 * nb - (intOf i).toNat)
  case atStart => exact ⟨0, w.heap.size, 8, by omega, rfl, rfl, hg2, HS2, Lib.hid (Below.refl _ _)⟩
  case round =>
    obtain ⟨k, g, c, hk, rfl, rfl, hg, HS, HB⟩ := hrel
    by_cases hlt : k < nb
    · have d1 : decide (64 * (k : Int) < ((64 * nb : Nat) : Int)) = true := by simp; omega
      have i1 : IntKind.i64.wrap (64 * (k : Int) + 64) = 64 * (k : Int) + 64 := by rw [IntKind.wrap_i64]; omega
      have j0 : 0 ≤ 64 * (k : Int) := by omega
      have j1 : 64 * (k : Int) ≤ 64 * (k : Int) + 64 := by omega
      have j2 : 64 * (k : Int) + 64 ≤ (cv : Int) := by omega
      go_wp2_with fail
      have hbl : ((X.drop (64 * k)).take 64).length = 64 := by rw [List.length_take, List.length_drop, HXl.out]; omega
      have HN : Hid (blocks X (k + 1) = compress (blocks X k) ((X.drop (64 * k)).take 64)) := Lib.hid rfl
      refine (HRB.out (blocks X k) (blocks_ok X k) ((X.drop (64 * k)).take 64) hbl (fun x hx => HXb.out x (List.mem_of_mem_drop (List.mem_of_mem_take hx))) g 0 c gv (64 * k) (cv - 64 * k) wr hg (Nat.lt_of_lt_of_le hgv HB.out.size)
        (fun j hj => by rw [Nat.zero_add]; exact HS.out j hj)
        (fun j hj => by
          have h1 := (HB.out.cell (p := ⟨gv, 64 * k + j, none⟩) hgv).trans (HCX.out (64 * k + j) (by omega))
          rw [h1]
          congr 3
          rw [List.getD_eq_getElem?_getD, List.getD_eq_getElem?_getD, List.getElem?_take, if_pos hj, List.getElem?_drop])).mono ?_
      rintro e w3 ⟨g3, c3, rfl, hg3, hg3', hcell3, hb3⟩
      rw [← HN.out] at hcell3
      have HS3 := Lib.hid hcell3
      have HB3 := Lib.hid (bt HB.out hb3)
      clear hcell3 hb3
      go_wp2_with fail
      exact ⟨⟨k + 1, g3, c3, by omega, by go_num, rfl, hg3', HS3, HB3⟩, by simp [intOf]; omega⟩
    · obtain rfl : k = nb := by omega
      have d1 : decide (64 * (k : Int) < ((64 * k : Nat) : Int)) = false := by simp
      have HOK := Lib.hid (blocks_ok X k)
      obtain ⟨F, HF⟩ : ∃ F, Hid (blocks X k = F) := ⟨_, Lib.hid rfl⟩
      rw [HF.out] at HS HOK
      rw [HF.out] at HRes
      obtain ⟨i0, hi, hz0, hz1, hz2⟩ := info_parts Tryd.info5
      obtain ⟨wb, rfl⟩ : ∃ wb, wb = wr := ⟨wr, rfl⟩
      go_wp2_with fail
      go_loopw [6, 7] (fun x i wq => ∃ q : Nat, q ≤ 8 ∧ i = .int .i64 q ∧ wq.ownsRow wb.heap.size 5 1 x (4 * q) ((F.bytes.take (4 * q)).map byteV) ∧ Hid (Below wb.heap.size wb wq)) (fun _ i _ => 8 - (intOf i).toNat)
      case atStart => exact ⟨0, by omega, rfl, World.ownsRow_nil _ _ _ _, Lib.hid (Below.refl _ _)⟩
      case round =>
        obtain ⟨q, hq, rfl, hown, HBq⟩ := hrel
        by_cases hlt : q < 8
        · obtain ⟨x, HX8⟩ : ∃ x, Hid (F.list.getD q 0 = x) := ⟨_, Lib.hid rfl⟩
          have hx : x < 4294967296 := by rw [← HX8.out]; exact getD_lt (list_lt HOK.out) (by rw [list_len]; exact hlt)
          have hcr := HS.out q hlt
          rw [HX8.out] at hcr
          have hcq : ∀ w', Below wb.heap.size wb w' → w'.cell? ⟨g, q, none⟩ = some (.int .u32 (x : Nat)) ∧ Below wb.heap.size wb w' := fun w' h => ⟨(h.cell (p := ⟨g, q, none⟩) hg).trans hcr, h⟩
          have HK := Lib.hid hcq
          have hcc := (hcq _ HBq.out).1
          have d2 : decide ((q : Int) < 8) = true := by simp; omega
          have q0 : 0 ≤ (q : Int) := by omega
          have q8 : (q : Int) < 8 := by omega
          clear hcr hcq
          obtain ⟨y0, Y0⟩ : ∃ y, Hid (x / 16777216 % 256 = y) := ⟨_, Lib.hid rfl⟩
          obtain ⟨y1, Y1⟩ : ∃ y, Hid (x / 65536 % 256 = y) := ⟨_, Lib.hid rfl⟩
          obtain ⟨y2, Y2⟩ : ∃ y, Hid (x / 256 % 256 = y) := ⟨_, Lib.hid rfl⟩
          obtain ⟨y3, Y3⟩ : ∃ y, Hid (x % 256 = y) := ⟨_, Lib.hid rfl⟩
          have hone : ∀ u ∈ [Value.int .u8 (y0 : Int), Value.int .u8 (y1 : Int), Value.int .u8 (y2 : Int), Value.int .u8 (y3 : Int)], u.oneCell' = true := by simp [Value.oneCell']
          have hb63 : 4 * q + 4 ≤ maxLen := by unfold maxLen; omega
          have hb16 : (4 * q + 4) * 1 ≤ 140737488355328 := by omega
          have e0 : IntKind.u8.wrap ((x : Int) / 16777216) = (y0 : Int) := by rw [IntKind.wrap_u8, ← Y0.out]; omega
          have e1 : IntKind.u8.wrap ((x : Int) / 65536) = (y1 : Int) := by rw [IntKind.wrap_u8, ← Y1.out]; omega
          have e2 : IntKind.u8.wrap ((x : Int) / 256) = (y2 : Int) := by rw [IntKind.wrap_u8, ← Y2.out]; omega
          have e3 : IntKind.u8.wrap (x : Int) = (y3 : Int) := by rw [IntKind.wrap_u8, ← Y3.out]; omega
          have HSc : Hid (F.bytes.take (4 * (q + 1)) = F.bytes.take (4 * q) ++ [y0, y1, y2, y3]) := Lib.hid (by
            rw [show 4 * (q + 1) = 4 * q + 4 by omega, take_four _ _ (by rw [bytes_len]; omega)]
            have b0 := bytes_get F q 0 hlt (by decide)
            have b1 := bytes_get F q 1 hlt (by decide)
            have b2 := bytes_get F q 2 hlt (by decide)
            have b3 := bytes_get F q 3 hlt (by decide)
            rw [Nat.add_zero] at b0
            rw [b0, b1, b2, b3, HX8.out, ← Y0.out, ← Y1.out, ← Y2.out, ← Y3.out]
            simp)
          have hB := HBq.out
          have hzb := hB.size
          go_wp2_with fail
          go_region_held3 (fun w' => w'.cell? ⟨g, q, none⟩ = some (.int .u32 (x : Nat)) ∧ Below wb.heap.size wb w')
            (first | assumption | exact HK.out _ hB.drew | (refine HK.out _ ((hB.alloc hB.size _).drew)) | (refine HK.out _ (hB.drew.alloc (by simpa using hzb) _)) | (refine HK.out _ (below_of_append' hB hown hB.size hgrow)))
            ((refine step_append_lies _ (by rfl) _ _ _ (by rfl) wb.heap.size 5 i0 (.int .u8 0) 1 1 Tryd.underlying42 hi hz0 hz1 hz2 (by rfl) (by decide) _ (4 * q) _ (by rfl) ((hown.alloc _).drew) ⟨wr.heap.size, 0, none⟩ 4 4 [.int .u8 (y0 : Int), .int .u8 (y1 : Int), .int .u8 (y2 : Int), .int .u8 (y3 : Int)] (by rfl) (by rfl) (World.news_of_block (heap_alloc_new wr _)) hone (by decide) hb63 hb16 (Nat.le_trans hzb (by simp)) (wr.heap.size + 1) (by simp) ?_; intro gg cap w9 hown9 hgrow hat hgl))
          have hBn : Below wb.heap.size wb w9 := below_of_append' hB hown hB.size hgrow
          go_wp2_with fail
          refine ⟨⟨q + 1, by omega, by go_num, ?_, Lib.hid hBn⟩, by simp [intOf]; omega⟩
          rw [HSc.out, List.map_append, show 4 * (q + 1) = 4 * q + 4 by omega]
          exact hown9
        · obtain rfl : q = 8 := by omega
          rw [List.take_of_length_le (show F.bytes.length ≤ 4 * 8 from by rw [bytes_len]; decide)] at hown
          obtain ⟨go, co, rfl⟩ := own_form (by decide) hown
          have hconv : Sem.run Tryd.prog (convert 42 9 (.slice (some ⟨go, 0, none⟩) (4 * 8) co)) wr = .ok (.string (strOf' F.bytes)) wr := by
            have := run_convert_bytes_arg (P := Tryd.prog) wr 42 5 Tryd.underlying42 Tryd.underlying5 go 0 (4 * 8) co (F.bytes.map fun (b : Nat) => (b : Int)) (by simp [bytes_len])
              (fun i hi => by
                have hl : i < F.bytes.length := by rw [bytes_len]; exact hi
                have := hown.cells (g := go) rfl i (byteV (F.bytes.getD i 0)) (by simp [hl])
                rw [show (⟨go, 0, none⟩ : Addr).add i = ⟨go, i, none⟩ from by unfold Addr.add; split <;> simp_all] at this
                rw [Nat.zero_add, this]
                simp [byteV, List.getD, hl]) 9 Tryd.underlying9
            rw [show (convert 42 9 (.slice (some ⟨go, 0, none⟩) (4 * 8) co)).run Tryd.prog wr = _ from this]
            congr 2
          rw [HRes.out, show 4 * 8 = 32 from rfl] at hconv
          have hBw : Below w.heap.size w wr := bt HB2.out (bt HB.out HBq.out)
          have HCv := Lib.hid hconv
          clear hown hconv
          go_wp2_with fail
          rw [HCv.out]
          go_wp2_with fail
          go_ret
          exact ⟨rfl, hBw⟩
end Go.Proofs.YtkmiodlehmocnaaDoor
