/- WALKS: the reference's PutInt. -/
import Derived.Test.YtgkdliocfnoffaaDoorWA9
import Derived.Laws.BytesArg
import Derived.Laws.BytesString
import Derived.Lib.ConvBytes
set_option linter.unusedVariables false
namespace Go.Proofs.YtgkdliocfnoffaaDoor
open Go.RowKit

def u8V (b : UInt8) : Value := .int .u8 (b.toNat : Int)

theorem u8V_ofNat (y : Nat) (h : y < 256) : u8V (UInt8.ofNat y) = .int .u8 (y : Int) := by
  simp [u8V]; omega
theorem below_of_append {B : Nat} {a w w1 : World} {l : List Value} {n : Nat} {v : Value} {e : TypeId} {o : Obj} (hB : Below B a w) (hown : w.ownsRow B e 1 v n l) (hs : B ≤ w.heap.size)
    (hg : (w.alloc o).grownBy w1 v.ownBlock) : Below B a w1 := by
  refine (hB.alloc hs o).grown hg (by simp; omega) ?_
  intro k hk
  rcases hown.2 with ⟨rfl, _⟩ | ⟨g, cap, cur, rfl, _, hgb, _⟩
  · simp [Value.ownBlock] at hk
  · simp [Value.ownBlock] at hk
    omega
set_option maxRecDepth 100000 in
/-- What an own row of bytes is as a text. -/
theorem ownsRow_str {W : World} {base g cap n : Nat} {l : List UInt8} (h : W.ownsRow base 5 1 (.slice (some ⟨g, 0, none⟩) n cap) n (l.map u8V)) (hn : l.length = n) :
    (convert 72 9 (.slice (some ⟨g, 0, none⟩) n cap)).run Tryd.prog W = .ok (.string ⟨l.toArray⟩) W := by
  have hcells := h.cells (g := g) rfl
  have hconv := run_convert_bytes_arg (P := Tryd.prog) W 72 5 Tryd.underlying72 Tryd.underlying5 g 0 n cap (l.map fun p => (p.toNat : Int)) (by simp [hn])
    (fun i hi => by
      have := hcells i (u8V (l[i]'(by omega))) (by simp [show i < l.length by omega])
      rw [show (⟨g, 0, none⟩ : Addr).add i = ⟨g, 0 + i, none⟩ from by unfold Addr.add; split <;> simp_all] at this
      simpa [u8V, List.getD, show i < l.length by omega] using this) 9 Tryd.underlying9
  rw [hconv]
  congr 3
  unfold strOfNums
  congr 2
  simp [List.map_map, Function.comp_def]

set_option maxRecDepth 100000 in
set_option maxHeartbeats 1000000 in
theorem refPutInt_ok (v : Int) (w : World) (h1 : -4611686018427387903 ≤ v) (h2 : v ≤ 4611686018427387903) :
    Calls Tryd.prog 57 #[.int .i64 v] w fun e W' => e = .returned (.tuple #[.string (encI v), .int .i64 0]) ∧ Below w.heap.size w W' := by
  obtain ⟨i0, hi, hz0, hz1, hz2⟩ := info_parts Tryd.info5
  have hz63 := zig_le v h1 h2
  have hz00 := zig_nonneg v
  have hdA : decide (v < -4611686018427387903) = false := by simp; omega
  have hdB : decide (4611686018427387903 < v) = false := by simp; omega
  obtain ⟨z, Hz⟩ : ∃ z : Nat, Hid (zig v = (z : Int)) := ⟨(zig v).toNat, Lib.hid (by omega)⟩
  have hz9 : z < 128 ^ 9 := by have := Hz.out; have : (128 : Nat) ^ 9 = 9223372036854775808 := by decide
                               omega
  have Henc : Hid (encInt v = leb 9 z) := Lib.hid (by unfold encInt; rw [Hz.out]; rfl)
  have hzl : z ≤ 9223372036854775806 := by have := Hz.out; omega
  go_enter Tryd.func57, Tryd.ntmps57
  go_wp2_with fail
  refine (zigzag_any v _ h1 h2).mono ?_
  rintro e w' ⟨rfl, rfl⟩
  rw [Hz.out]
  clear hz63 hz00
  go_wp2_with fail
  clear hdA hdB
  have HZ9 := Lib.hid hz9
  clear hz9
  go_loopw [4, 5] (fun x s wr => ∃ (pre : List UInt8) (f y : Nat), x = .int .u64 y ∧ y ≤ z ∧ Hid (leb 9 z = pre ++ leb f y) ∧ 1 ≤ f ∧ f ≤ 9 ∧ pre.length ≤ 9 ∧ Hid (pre.length + f = 9) ∧ Hid (y < 128 ^ f) ∧ wr.ownsRow w'.heap.size 5 1 s pre.length (pre.map u8V) ∧ Below w'.heap.size w' wr) (fun x _ _ => (intOf x).toNat)
  case atStart => exact ⟨[], 9, z, rfl, Nat.le_refl _, Lib.hid rfl, by omega, by omega, by simp, Lib.hid rfl, HZ9, World.ownsRow_nil _ _ _ _, Below.refl _ _⟩
  case round =>
    obtain ⟨pre, f, y, rfl, hyz, HL, hf, hf9, hpl, HPF, HY, hown, hB⟩ := hrel
    by_cases hge : 128 ≤ y
    · go_wp2_with (at_builtin; refine wpList_append_own _ rfl _ _ 72 rfl w'.heap.size 5 i0 (.int .u8 0) 1 1 Tryd.underlying72 hi hz0 hz1 hz2 rfl (by decide) _ _ _ rfl (hown.alloc _) ⟨wr.heap.size, 0, none⟩ 1 1 [.int .u8 ((y : Int) % 128 + 128)] rfl rfl (cell_one_new _ _ _) (by simp [Value.oneCell']) (by unfold maxLen; omega) (by omega) (by have := hB.size; simp; omega) ?_; intro v' w1 hown' hgrow _)
      have hy := HY.out
      have hpf := HPF.out
      have hL := HL.out
      have hf2 : 2 ≤ f := by
        rcases Nat.lt_or_ge f 2 with h | h
        · obtain rfl : f = 1 := by omega
          simp at hy; omega
        · exact h
      obtain ⟨f, rfl⟩ : ∃ f', f = f' + 1 := ⟨f - 1, by omega⟩
      rw [leb_long hge] at hL
      have hy' : y / 128 < 128 ^ f := by
        rw [Nat.pow_succ] at hy
        exact Nat.div_lt_of_lt_mul (by rw [Nat.mul_comm]; exact hy)
      refine ⟨⟨pre ++ [UInt8.ofNat (y % 128 + 128)], f, y / 128, by simp, by omega, Lib.hid (by rw [hL]; simp), by omega, by omega, by simp; omega, Lib.hid (by simp; omega), Lib.hid hy', ?_, below_of_append hB hown hB.size hgrow⟩, by simp [intOf]; omega⟩
      have : List.map u8V (pre ++ [UInt8.ofNat (y % 128 + 128)]) = List.map u8V pre ++ [Value.int .u8 ((y : Int) % 128 + 128)] := by
        rw [List.map_append, List.map_singleton, u8V_ofNat _ (by omega)]
        simp
      rw [this]
      simpa using hown'
    · have hL0 := HL.out
      have hS : Hid (encInt v = pre ++ [UInt8.ofNat y]) := Lib.hid (by
        obtain ⟨f, rfl⟩ : ∃ f', f = f' + 1 := ⟨f - 1, by omega⟩
        rw [Henc.out, hL0, leb_short (by omega)])
      clear hL0
      go_wp2_with (at_builtin; refine wpList_append_own _ rfl _ _ 72 rfl w'.heap.size 5 i0 (.int .u8 0) 1 1 Tryd.underlying72 hi hz0 hz1 hz2 rfl (by decide) _ _ _ rfl (hown.alloc _) ⟨wr.heap.size, 0, none⟩ 1 1 [.int .u8 (y : Int)] rfl rfl (cell_one_new _ _ _) (by simp [Value.oneCell']) (by unfold maxLen; omega) (by omega) (by have := hB.size; simp; omega) ?_; intro v' w1 hown' hgrow _; obtain ⟨g', cap', rfl⟩ := ownsRow_succ hown'; have hconv := ownsRow_str (l := pre ++ [UInt8.ofNat y]) (by rw [List.map_append, List.map_singleton, u8V_ofNat _ (by omega)]; exact hown') (by simp); rw [← hS.out] at hconv)
      go_ret2
      exact ⟨rfl, below_of_append hB hown hB.size hgrow⟩

set_option maxRecDepth 100000 in
set_option maxHeartbeats 400000 in
theorem refPutInt_bad (v : Int) (w : World) (h : v < -4611686018427387903 ∨ 4611686018427387903 < v) (h1 : -9223372036854775808 ≤ v) (h2 : v ≤ 9223372036854775807) :
    Calls Tryd.prog 57 #[.int .i64 v] w fun e W' => e = .returned (.tuple #[.string ⟨#[]⟩, .int .i64 10]) ∧ W' = w := by
  rcases h with h | h
  · go_enter Tryd.func57, Tryd.ntmps57
    go_wp2
    go_ret2
    exact ⟨rfl, rfl⟩
  · go_enter Tryd.func57, Tryd.ntmps57
    go_wp2
    go_ret2
    exact ⟨rfl, rfl⟩

end Go.Proofs.YtgkdliocfnoffaaDoor
