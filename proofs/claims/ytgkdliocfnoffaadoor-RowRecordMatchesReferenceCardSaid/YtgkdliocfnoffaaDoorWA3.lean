/- WALKS: the iterator over the groups of a number; wire.PutInt. -/
import Derived.RangeFuncNested
import Derived.RangeFuncBound
import Derived.RangeFuncCalls
import Derived.RangeFuncLeaves
import Derived.Shelf.Abstract
import Derived.Shelf.RegionOpen
import Derived.RangeFuncBox
import Derived.OwnWalkIn
import Derived.TacticsInMore
import Derived.LoopNIn
import Derived.LoopIn
import Derived.Maps.AppendAt
import Derived.Laws.BytesArg
import Derived.Test.YtgkdliocfnoffaaDoorWA2
set_option linter.unusedVariables false
namespace Go.Proofs.YtgkdliocfnoffaaDoor
open Go.RowKit Go.Shelf
attribute [local go_sem] Oper.semAt_some

/-- A group of 7 bits, and whether it is the last. -/
abbrev Grp := Fin 128 × Bool
abbrev encG (p : Grp) : Array Value := #[.int .u8 (p.1.val : Int), .bool p.2]
def gl : Nat → Nat → List Grp
  | 0, _ => []
  | f + 1, z => if h : z < 128 then [(⟨z, h⟩, true)] else (⟨z % 128, Nat.mod_lt _ (by decide)⟩, false) :: gl f (z / 128)
def grpByte (p : Grp) : UInt8 := UInt8.ofNat (if p.2 then p.1.val else p.1.val + 128)
theorem gl_leb (f : Nat) : ∀ z, (gl f z).map grpByte = leb f z := by
  induction f with
  | zero => intro z; rfl
  | succ f ih =>
    intro z
    by_cases h : z < 128
    · rw [leb_short h]; simp [gl, h, grpByte]
    · rw [leb_long (by omega)]; simp [gl, h, grpByte, ih]
theorem gl_short {f x : Nat} (h : x < 128) : gl (f + 1) x = [(⟨x, h⟩, true)] := by simp [gl, h]
theorem gl_long {f x : Nat} (h : 128 ≤ x) : gl (f + 1) x = (⟨x % 128, Nat.mod_lt _ (by decide)⟩, false) :: gl f (x / 128) := by simp [gl, show ¬ x < 128 by omega]
theorem gl_len (f : Nat) : ∀ x, (gl f x).length ≤ f := by
  induction f with
  | zero => intro x; simp [gl]
  | succ f ih =>
    intro x
    by_cases h : x < 128
    · rw [gl_short h]; simp
    · rw [gl_long (by omega)]; simp; exact ih _

theorem u64_and127 {x : Nat} (hx : x < 18446744073709551616) : bits .and .u64 (x : Int) 127 = ((x % 128 : Nat) : Int) := by
  have := bits_and_u64_nat x 127 hx (by decide)
  rw [show ((127 : Nat) : Int) = 127 from rfl] at this
  rw [this, show (127 : Nat) = 2 ^ 7 - 1 from rfl, Nat.and_two_pow_sub_one_eq_mod]

set_option maxRecDepth 100000 in
set_option maxHeartbeats 1000000 in
theorem groups1_in (F : Fence) (n : Nat) (h28 : F.fn 72) (hro : F.round = none) (hn : 1 ≤ n) (l Bz n₀ z : Nat) (hz : z < 128 ^ 9) (J Jx : List Grp → World → Prop)
    (hY : ∀ pre x W, J pre W → pre.length < 9 → YieldAt F (n - 1) Tryd.prog l (encG x) W fun e W' =>
      (e = .returned (.bool true) ∧ J (pre ++ [x]) W' ∧ Below n₀ W W') ∨ (e = .returned (.bool false) ∧ Jx (pre ++ [x]) W'))
    (W : World) (hBz : W.cell? ⟨Bz, 0, none⟩ = some (.int .u64 (z : Int))) (h0 : J [] W) :
    CallsIn F n Tryd.prog 72 #[.func (.yield l) #[] #[], .pointer (some ⟨Bz, 0, none⟩)] W fun e W' => (∃ v, e = .returned v) ∧
      ((∃ ys, ys = gl 9 z ∧ J ys W') ∨ (∃ pre, pre <+: gl 9 z ∧ Jx pre W')) := by
  refine callsIn_of_wp Tryd.func72 rfl h28 ?_ hro
  simp only [Tryd.ntmps72, List.size_toArray, List.length_cons, List.length_nil, Nat.reduceAdd, Nat.reduceSub, Array.replicate_succ, Array.replicate_zero, List.push_toArray, List.append_toArray, List.nil_append, List.cons_append]
  gi_wp2
  gi_loopw [3, 4] (fun r _ wr => ∃ (pre : List Grp) (f x : Nat), r = .int .u64 x ∧ x ≤ z ∧ Hid (gl 9 z = pre ++ gl f x) ∧ 1 ≤ f ∧ Hid (x < 128 ^ f) ∧ J pre wr)
    (fun r _ _ => (intOf r).toNat)
  case atStart =>
    exact ⟨[], 9, z, rfl, Nat.le_refl _, Lib.hid rfl, by omega, Lib.hid hz, h0⟩
  case round =>
    obtain ⟨pre, f, x, rfl, hxz, hx, hf, hxf, hJs⟩ := hrel
    have hx63 : x < 9223372036854775808 := Nat.lt_of_le_of_lt hxz (by have : (128 : Nat) ^ 9 = 9223372036854775808 := by decide
                                                                      omega)
    obtain ⟨f, rfl⟩ : ∃ g, f = g + 1 := ⟨f - 1, by omega⟩
    clear hz
    by_cases hs : x < 128
    · have hpl : pre.length < 9 := by
        have := gl_len 9 z
        rw [hx.out, gl_short hs] at this
        simp at this; omega
      obtain ⟨fn, tmps, assign, body, hy, hR⟩ := hY pre (⟨x, hs⟩, true) wr hJs hpl
      dsimp only [encG] at hy
      have h127 : bits .and .u64 (x : Int) 127 % 256 = (x : Int) := by rw [u64_and127 (by omega)]; omega
      have hdx : decide ((x : Int) < 128) = true := by simp; omega
      gi_wp2
      refine hR.mono ?_
      rintro e W3 (⟨rfl, hJ3, hk3⟩ | ⟨rfl, hJx3⟩)
      · gi_wp2
        refine bodyPost_ret (results_none rfl _ _ _) rfl ?_
        exact ⟨⟨_, rfl⟩, .inl ⟨_, rfl, by rw [hx.out, gl_short hs]; exact hJ3⟩⟩
      · gi_wp2
        refine bodyPost_ret (results_none rfl _ _ _) rfl ?_
        exact ⟨⟨_, rfl⟩, .inr ⟨_, by rw [hx.out, gl_short hs]; exact List.prefix_refl _, hJx3⟩⟩
    · have hpl : pre.length < 9 := by
        have := gl_len 9 z
        rw [hx.out, gl_long (by omega)] at this
        simp at this; omega
      obtain ⟨fn, tmps, assign, body, hy, hR⟩ := hY pre (⟨x % 128, Nat.mod_lt _ (by decide)⟩, false) wr hJs hpl
      dsimp only [encG] at hy
      rw [show ((x % 128 : Nat) : Int) = (x : Int) % 128 from by omega] at hy
      have h127 : bits .and .u64 (x : Int) 127 % 256 = (x : Int) % 128 := by rw [u64_and127 (by omega)]; omega
      have hdx : decide ((x : Int) < 128) = false := by simp; omega
      gi_wp2
      refine hR.mono ?_
      rintro e W3 (⟨rfl, hJ3, hk3⟩ | ⟨rfl, hJx3⟩)
      · gi_wp2
        go_roundw
        case rel =>
          have hf0 : f ≠ 0 := by
            intro e; subst e
            have := hxf.out; simp at this; omega
          exact ⟨pre ++ [(⟨x % 128, Nat.mod_lt _ (by decide)⟩, false)], f, x / 128, by go_num, by omega, Lib.hid (by rw [hx.out, gl_long (by omega)]; simp), by omega, Lib.hid (by have := hxf.out; rw [Nat.pow_succ] at this; omega), hJ3⟩
        case measure => simp [intOf]; omega
      · gi_wp2
        refine bodyPost_ret (results_none rfl _ _ _) rfl ?_
        exact ⟨⟨_, rfl⟩, .inr ⟨_, by rw [hx.out, gl_long (by omega)]; simp, hJx3⟩⟩

set_option maxHeartbeats 1000000 in
theorem groups_in (F : Fence) (n : Nat) (h23 : F.fn 65) (hro : F.round = none) (z : Int) (w : World) :
    CallsIn F n Tryd.prog 65 #[.int .u64 z] w fun e w' => e = .returned (.func (.func 72) #[] #[.pointer (some ⟨w.heap.size, 0, none⟩)]) ∧ w' = w.alloc (.cells #[.int .u64 z] 94) := by
  refine callsIn_of_wp Tryd.func65 rfl h23 ?_ hro
  simp only [Tryd.ntmps65, List.size_toArray, List.length_cons, List.length_nil, Nat.reduceAdd, Nat.reduceSub, Array.replicate_succ, Array.replicate_zero, List.push_toArray, List.append_toArray, List.nil_append, List.cons_append]
  gi_wp2
  go_ret
  exact ⟨rfl, rfl⟩

theorem groups_stops (F : Fence) (n : Nat) (h28 : F.fn 72) (hro : F.round = none) (hn : 1 ≤ n) (Bz n₀ z : Nat) (hz : z < 128 ^ 9) (w : World) (hBz : Bz < w.heap.size)
    (hc : w.cell? ⟨Bz, 0, none⟩ = some (.int .u64 (z : Int))) :
    SeqStopsK F n Tryd.prog 72 #[.pointer (some ⟨Bz, 0, none⟩)] encG (Below n₀) (fun ys => ys = gl 9 z) (fun pre => pre <+: gl 9 z) 9 w := fun l J Jx W hW _ _ hY h0 =>
  groups1_in F n h28 hro hn l Bz n₀ z hz J Jx hY W ((hW.cell (p := ⟨Bz, 0, none⟩) hBz).trans hc) h0
end Go.Proofs.YtgkdliocfnoffaaDoor
