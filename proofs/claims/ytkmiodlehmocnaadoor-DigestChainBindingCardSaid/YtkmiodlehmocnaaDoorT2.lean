/- WALKS: the reference's extended. -/
import Derived.Test.YtkmiodlehmocnaaDoorT1
import Derived.OwnWalk
import Derived.Maps.AppendAt
import Derived.RangeFuncBox
import Derived.Laws.BytesArg
set_option linter.unusedVariables false
namespace Go.Proofs.YtkmiodlehmocnaaDoor
open Go.RowKit

theorem Tryd.info5 : (Tryd.prog.info? 5).map (fun i => (i.zero, i.size, i.bytes)) = some (some (.int .u8 0), 1, 1) := by kernel_rfl
def byteV (b : Nat) : Value := .int .u8 (b : Int)
def nums (s : ByteArray) : List Nat := s.data.toList.map (·.toNat)
theorem nums_len (s : ByteArray) : (nums s).length = s.size := by simp [nums]
theorem nums_take_succ (s : ByteArray) (k : Nat) (hk : k < s.size) : (nums s).take (k + 1) = (nums s).take k ++ [s[k].toNat] := by
  have hk' : k < (nums s).length := by rw [nums_len]; exact hk
  rw [List.take_add_one, List.getElem?_eq_getElem hk']
  congr 1
  simp [nums]
  rfl
theorem below_of_append {B : Nat} {a w w1 : World} {l : List Value} {n : Nat} {v : Value} {e : TypeId} {o : Obj} (hB : Below B a w) (hown : w.ownsRow B e 1 v n l) (hs : B ≤ w.heap.size)
    (hg : (w.alloc o).grownBy w1 v.ownBlock) : Below B a w1 := by
  refine (hB.alloc hs o).grown hg (by simp; omega) ?_
  intro k hk
  rcases hown.2 with ⟨rfl, _⟩ | ⟨g, cap, cur, rfl, _, hgb, _⟩
  · simp [Value.ownBlock] at hk
  · simp [Value.ownBlock] at hk
    omega

def lenOf : Value → Nat
  | .slice _ n _ => n
  | _ => 0
theorem len8_take (n p : Nat) (h : p < 8) : (len8 n).take (8 - (p + 1)) ++ [8 * n / 2 ^ (8 * p) % 256] = (len8 n).take (8 - p) := by
  match p, h with
  | 0, _ => simp [len8]
  | 1, _ => simp [len8]
  | 2, _ => simp [len8]
  | 3, _ => simp [len8]
  | 4, _ => simp [len8]
  | 5, _ => simp [len8]
  | 6, _ => simp [len8]
  | 7, _ => simp [len8]
  | p + 8, h => omega
theorem pad_length (l : List Nat) : (pad l).length = l.length + 9 + zeros l.length := by simp [pad, len8]; omega

set_option maxRecDepth 100000 in
set_option maxHeartbeats 1000000 in
theorem ref_extended (s : ByteArray) (w : World) (hs : s.size ≤ 100000) :
    Calls Tryd.prog 37 #[.string s] w fun e w' => ∃ v, e = .returned v ∧ w'.ownsRow w.heap.size 5 1 v (pad (nums s)).length ((pad (nums s)).map byteV) ∧ Below w.heap.size w w' := by
  obtain ⟨i0, hi, hz0, hz1, hz2⟩ := info_parts Tryd.info5
  go_enter Tryd.func37, Tryd.ntmps37
  go_wp2_with fail
  go_loopw [3, 4] (fun x i wr => ∃ k : Nat, k ≤ s.size ∧ i = .int .i64 k ∧ wr.ownsRow w.heap.size 5 1 x k (((nums s).take k).map byteV) ∧ Below w.heap.size w wr) (fun _ i _ => s.size - (intOf i).toNat)
  case atStart => exact ⟨0, by omega, rfl, World.ownsRow_nil _ _ _ _, Below.refl _ _⟩
  case round =>
    obtain ⟨k, hk, rfl, hown, hB⟩ := hrel
    by_cases hlt : k < s.size
    · have HT := Lib.hid (nums_take_succ s k hlt)
      go_wp2_with (at_builtin; refine wpList_append_own _ rfl _ _ 42 rfl w.heap.size 5 i0 (.int .u8 0) 1 1 Tryd.underlying42 hi hz0 hz1 hz2 rfl (by decide) _ _ _ rfl (hown.alloc _) ⟨wr.heap.size, 0, none⟩ 1 1 [.int .u8 (s[k].toNat : Int)] rfl rfl (cell_one_new _ _ _) (by simp [Value.oneCell']) (by unfold maxLen; omega) (by omega) (by have := hB.size; simp; omega) ?_; intro v' w1 hown' hgrow _)
      refine ⟨⟨k + 1, by omega, by go_num, ?_, below_of_append hB hown hB.size hgrow⟩, by simp [intOf]; omega⟩
      rw [HT.out, List.map_append]
      exact hown'
    · obtain rfl : k = s.size := by omega
      have HN := Lib.hid (show (nums s).take s.size = nums s from List.take_of_length_le (by rw [nums_len]; omega))
      rw [HN.out] at hown
      go_wp2_with (at_builtin; refine wpList_append_own _ rfl _ _ 42 rfl w.heap.size 5 i0 (.int .u8 0) 1 1 Tryd.underlying42 hi hz0 hz1 hz2 rfl (by decide) _ _ _ rfl (hown.alloc _) ⟨wr.heap.size, 0, none⟩ 1 1 [.int .u8 128] rfl rfl (cell_one_new _ _ _) (by simp [Value.oneCell']) (by unfold maxLen; omega) (by omega) (by have := hB.size; simp; omega) ?_; intro v' w1 hown' hgrow _)
      have hB1 := below_of_append hB hown hB.size hgrow
      have hown1 : w1.ownsRow w.heap.size 5 1 v' (s.size + 1) ((nums s ++ [128]).map byteV) := by rw [List.map_append]; exact hown'
      clear hown' hgrow hown hB HN
      obtain ⟨g1, c1, rfl⟩ := ownsRow_succ hown1
      go_loopw [3] (fun x wr => ∃ z : Nat, z ≤ zeros s.size ∧ wr.ownsRow w.heap.size 5 1 x (s.size + 1 + z) ((nums s ++ [128] ++ List.replicate z 0).map byteV) ∧ Below w.heap.size w wr) (fun x _ => s.size + 1 + zeros s.size - lenOf x)
      case atStart => exact ⟨0, by omega, by simpa using hown1, hB1⟩
      case round =>
        obtain ⟨z, hz, hown, hB⟩ := hrel
        rw [show s.size + 1 + z = s.size + z + 1 by omega] at hown
        obtain ⟨g2, c2, rfl⟩ := ownsRow_succ hown
        have hzd : zeros s.size < 64 := by unfold zeros; omega
        by_cases hlt : z < zeros s.size
        · have hne : (s.size + z + 1) % 64 ≠ 56 := by unfold zeros at hlt; omega
          go_wp2_with (at_builtin; refine wpList_append_own _ rfl _ _ 42 rfl w.heap.size 5 i0 (.int .u8 0) 1 1 Tryd.underlying42 hi hz0 hz1 hz2 rfl (by decide) _ _ _ rfl (hown.alloc _) ⟨wr.heap.size, 0, none⟩ 1 1 [.int .u8 0] rfl rfl (cell_one_new _ _ _) (by simp [Value.oneCell']) (by unfold maxLen; omega) (by omega) (by have := hB.size; simp; omega) ?_; intro v' w1 hown' hgrow _)
          refine ⟨⟨z + 1, by omega, ?_, below_of_append hB hown hB.size hgrow⟩, ?_⟩
          · rw [List.replicate_succ', ← List.append_assoc, List.map_append, show s.size + 1 + (z + 1) = s.size + z + 1 + 1 by omega]
            exact hown'
          · obtain ⟨g3, c3, rfl⟩ := ownsRow_succ hown'
            simp [lenOf]; omega
        · obtain rfl : z = zeros s.size := by omega
          have heq0 : (s.size + zeros s.size + 1) % 64 = 56 := by unfold zeros; omega
          have heq : (((s.size : Int) + (zeros s.size : Int) + 1) % 64 != 56) = false := by simp; omega
          clear heq0
          go_wp2_with fail
          go_loopw [3, 5] (fun x i wr => ∃ m : Nat, m ≤ 8 ∧ i = .int .i64 ((m : Int) - 1) ∧ wr.ownsRow w.heap.size 5 1 x (s.size + zeros s.size + 1 + (8 - m)) ((nums s ++ [128] ++ List.replicate (zeros s.size) 0 ++ (len8 s.size).take (8 - m)).map byteV) ∧ Below w.heap.size w wr) (fun _ i _ => (intOf i + 1).toNat)
          case atStart => exact ⟨8, by omega, rfl, by simpa using hown, hB⟩
          case round =>
            clear hown hB heq
            obtain ⟨m, hm, rfl, hown, hB⟩ := hrel
            cases m with
            | zero =>
              rw [show ((0 : Nat) : Int) - 1 = -1 from rfl]
              have HP := Lib.hid (show wr.ownsRow w.heap.size 5 1 u3 (pad (nums s)).length ((pad (nums s)).map byteV) from by
                have h8 : (len8 s.size).take 8 = len8 s.size := by simp [len8]
                rw [h8] at hown
                rw [pad_length, nums_len, show s.size + 9 + zeros s.size = s.size + zeros s.size + 1 + (8 - 0) by omega]
                unfold pad
                rw [nums_len]
                exact hown)
              go_wp2_with fail
              go_ret
              exact ⟨_, rfl, HP.out, hB⟩
            | succ p =>
              rw [show ((p + 1 : Nat) : Int) - 1 = (p : Int) from by omega]
              have HT := Lib.hid (len8_take s.size p (by omega))
              go_wp2_with (at_builtin; refine wpList_append_own _ rfl _ _ 42 rfl w.heap.size 5 i0 (.int .u8 0) 1 1 Tryd.underlying42 hi hz0 hz1 hz2 rfl (by decide) _ _ _ rfl (hown.alloc _) ⟨wr.heap.size, 0, none⟩ 1 1 [.int .u8 ((8 * s.size / 2 ^ (8 * p) % 256 : Nat) : Int)] rfl rfl (cell_one_new _ _ _) (by simp [Value.oneCell']) (by unfold maxLen; omega) (by omega) (by have := hB.size; simp; omega) ?_; intro v' w1 hown' hgrow _)
              refine ⟨⟨p, by omega, rfl, ?_, below_of_append hB hown hB.size hgrow⟩, by simp [intOf]⟩
              rw [← HT.out, ← List.append_assoc, List.map_append, show s.size + zeros s.size + 1 + (8 - p) = s.size + zeros s.size + 1 + (8 - (p + 1)) + 1 by omega]
              exact hown'
end Go.Proofs.YtkmiodlehmocnaaDoor
