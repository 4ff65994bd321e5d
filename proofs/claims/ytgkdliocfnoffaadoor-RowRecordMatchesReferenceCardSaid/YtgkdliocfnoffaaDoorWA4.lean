/- WALKS: wire.PutInt. -/
import Derived.Test.YtgkdliocfnoffaaDoorWA3
set_option linter.unusedVariables false
namespace Go.Proofs.YtgkdliocfnoffaaDoor
open Go.RowKit Go.Shelf
attribute [local go_sem] Oper.semAt_some

theorem Tryd.info5 : (Tryd.prog.info? 5).map (fun i => (i.zero, i.size, i.bytes)) = some (some (.int .u8 0), 1, 1) := by kernel_rfl

def nine : Array Value := Array.replicate 9 (.int .u8 0)
theorem nine_size : nine.size = 9 := rfl
theorem make9 (w : World) : (Instr.makeSlice 72 (.int .i64 0) (.int .i64 9)).run Tryd.prog w = .ok (.slice (some ⟨w.heap.size, 0, none⟩) 0 9) (w.alloc (.cells nine 5)) := by kernel_rfl
def grpVal (p : Grp) : Value := .int .u8 ((grpByte p).toNat : Int)
theorem grpVal_more (g : Fin 128) : grpVal (g, false) = .int .u8 ((g.val : Int) + 128) := by
  have := g.isLt
  simp [grpVal, grpByte]; omega
theorem grpVal_last (g : Fin 128) : grpVal (g, true) = .int .u8 (g.val : Int) := by
  have := g.isLt
  simp [grpVal, grpByte]; omega

set_option maxRecDepth 100000 in
set_option maxHeartbeats 2000000 in
theorem putInt_ok (v : Int) (w : World) (h1 : -4611686018427387903 ≤ v) (h2 : v ≤ 4611686018427387903) :
    Calls Tryd.prog 56 #[.int .i64 v] w fun e W' => e = .returned (.tuple #[.string ⟨(encInt v).toArray⟩, .int .i64 0]) ∧ Below w.heap.size w W' := by
  refine (callsIn_wide (n := 6)).1 ?_
  obtain ⟨i0, hi, hz0, hz1, hz2⟩ := info_parts Tryd.info5
  have hz63 := zig_le v h1 h2
  have hz00 := zig_nonneg v
  have hmk := make9
  have hdA : decide (v < -4611686018427387903) = false := by simp; omega
  have hdB : decide (4611686018427387903 < v) = false := by simp; omega
  refine callsIn_of_wp_marks Tryd.func56 rfl trivial ?_ rfl
  simp only [Tryd.ntmps56, List.size_toArray, List.length_cons, List.length_nil, Nat.reduceAdd, Nat.reduceSub, Array.replicate_succ, Array.replicate_zero, List.push_toArray, List.append_toArray, List.nil_append, List.cons_append]
  gi_wp2_with (first | (refine ⟨trivial, ?_⟩; gi_at_call 66; refine (callsIn_wide.2 (unsigned_any v _ h1 h2)).mono ?_; rintro e w' ⟨rfl, rfl⟩) | (refine ⟨trivial, ?_⟩; gi_at_call 65; refine (groups_in Fence.wide _ trivial rfl _ _).mono ?_; rintro e w' ⟨rfl, rfl⟩))
  obtain ⟨z, Hz⟩ : ∃ z : Nat, Hid (zig v = (z : Int)) := ⟨(zig v).toNat, Lib.hid (by omega)⟩
  have hz9 : z < 128 ^ 9 := by have := Hz.out; have : (128 : Nat) ^ 9 = 9223372036854775808 := by decide
                               omega
  have Henc : Hid (encInt v = leb 9 z) := Lib.hid (by unfold encInt; rw [Hz.out]; rfl)
  rw [Hz.out]
  clear hmk hdA hdB hz63 hz00
  have bC := (Boxed.new (w.alloc (.cells nine 5)) 72 (.slice (some ⟨w.heap.size, 0, none⟩) 0 9)).alloc (.cells #[.int .u64 (z : Int)] 94)
  have bZ := Boxed.new ((w.alloc (.cells nine 5)).alloc (.cells #[.slice (some ⟨w.heap.size, 0, none⟩) 0 9] 72)) 94 (.int .u64 (z : Int))
  rw [World.size_alloc] at bC bZ
  rw [World.size_alloc] at bZ
  have hR0 := ((World.ownsRow_made (e := 5) (size := 1) w nine 9 (Nat.le_refl w.heap.size) (by decide) (by rfl)).alloc (.cells #[.slice (some ⟨w.heap.size, 0, none⟩) 0 9] 72)).alloc (.cells #[.int .u64 (z : Int)] 94)
  have hB0 : Below w.heap.size w (((w.alloc (.cells nine 5)).alloc (.cells #[.slice (some ⟨w.heap.size, 0, none⟩) 0 9] 72)).alloc (.cells #[.int .u64 (z : Int)] 94)) := (((Below.refl _ w).alloc (Nat.le_refl _) _).alloc (by simp) _).alloc (by simp; omega) _
  refine wpIn_rangeFunc_ownG rfl (by omega) (gf := 72) (lb := #[.pointer (some ⟨w.heap.size + 1 + 1, 0, none⟩)]) rfl trivial (enters_of Tryd.func72 (by kernel_rfl) rfl)
    (groups_stops Fence.wide _ trivial rfl (by omega) (w.heap.size + 1 + 1) w.heap.size z hz9 _ (by simp) bZ.cell) belowK_t (belowK_b (by simp; omega)) (Below.refl _ _) (fun _ => rfl)
    (fun (pre : List Grp) W => (∃ u, Boxed W (w.heap.size + 1) 72 u ∧ W.ownsRow w.heap.size 5 1 u pre.length (pre.map grpVal) ∧ True) ∧ Below w.heap.size w W)
    (fun _ _ _ => False)
    (OwnFrom.and (Own.from (holdsRow_own w.heap.size (w.heap.size + 1) 72 5 1 (fun pre : List Grp => pre.length) (fun pre : List Grp => pre.map grpVal) (fun _ _ => True)) _) (ownFrom_below (Nat.le_refl _) (by simp; omega)))
    (fun _ _ _ _ _ hs _ _ => hs)
    ⟨⟨_, bC, hR0, trivial⟩, hB0⟩
    (fun (x : Grp) => { tmps := #[.int .i64 v, undef, .string ⟨#[]⟩, .int .i64 0, .pointer (some ⟨w.heap.size + 1, 0, none⟩), .int .u8 (x.1.val : Int), .bool x.2, .int .i64 v, .bool false, .bool false, .int .i64 v, .bool false, .bool false, .slice (some ⟨w.heap.size, 0, none⟩) 0 9, .int .i64 v, .int .u64 (z : Int), .func (.func 72) #[] #[.pointer (some ⟨w.heap.size + 1 + 1, 0, none⟩)], .int .u8 (x.1.val : Int), .bool x.2, undef, undef, undef, undef, undef, undef, undef, undef, undef, undef], defers := [] }) ?assign ?body ?done ?stop
  case assign =>
    intro l x W K hK
    gi_wp2
    exact hK
  case body =>
    rintro l pre ⟨g, last⟩ W ⟨⟨u, hv, hrow, _⟩, hB⟩ hlt
    have hc := hv.cell
    have hg := g.isLt
    cases last
    · have hor : bits .or .u8 (g.val : Int) 128 = (g.val : Int) + 128 := u8_or128_right _ (by omega) (by omega)
      gi_wp2_with (gi_at_builtin; refine wpListIn_append_own _ rfl _ _ 72 rfl w.heap.size 5 i0 (.int .u8 0) 1 1 Tryd.underlying72 hi hz0 hz1 hz2 rfl (by decide) _ _ _ rfl (hrow.alloc _) ⟨W.heap.size, 0, none⟩ 1 1 [.int .u8 ((g.val : Int) + 128)] rfl rfl (cell_one_new _ _ _) (by simp [Value.oneCell']) (by unfold maxLen; omega) (by omega) (by have := hB.size; simp; omega) ?_; intro v' w1 hown' hgrow _; obtain ⟨g', cap', rfl⟩ := ownsRow_succ hown'; obtain ⟨hv1, hv2, hr2, hk2, hb2⟩ := hv.appended (by decide) hrow hB.size (by omega) hown' hgrow; have hc1 := hv1.cell; have hf1 := hv1.frozen)
      exact ⟨hk2.from _, hb2, ⟨_, hv2, by simpa [grpVal_more] using hr2, trivial⟩, hB.trans hb2⟩
    · gi_wp2_with (gi_at_builtin; refine wpListIn_append_own _ rfl _ _ 72 rfl w.heap.size 5 i0 (.int .u8 0) 1 1 Tryd.underlying72 hi hz0 hz1 hz2 rfl (by decide) _ _ _ rfl (hrow.alloc _) ⟨W.heap.size, 0, none⟩ 1 1 [.int .u8 (g.val : Int)] rfl rfl (cell_one_new _ _ _) (by simp [Value.oneCell']) (by unfold maxLen; omega) (by omega) (by have := hB.size; simp; omega) ?_; intro v' w1 hown' hgrow _; obtain ⟨g', cap', rfl⟩ := ownsRow_succ hown'; obtain ⟨hv1, hv2, hr2, hk2, hb2⟩ := hv.appended (by decide) hrow hB.size (by omega) hown' hgrow; have hc1 := hv1.cell; have hf1 := hv1.frozen)
      exact ⟨hk2.from _, hb2, ⟨_, hv2, by simpa [grpVal_last] using hr2, trivial⟩, hB.trans hb2⟩
  case done =>
    rintro D ys W hD rfl ⟨⟨u, hv, hrow, _⟩, hB⟩ hK
    have hc := hv.cell
    obtain ⟨m, hm⟩ : ∃ m, (gl 9 z).length = m + 1 := by
      have := congrArg List.length (gl_leb 9 z)
      rw [List.length_map] at this
      have : 1 ≤ (leb 9 z).length := leb_pos 8 z
      exact ⟨(gl 9 z).length - 1, by omega⟩
    rw [hm] at hrow
    obtain ⟨g, cap, rfl⟩ := ownsRow_succ hrow
    have hcells := hrow.cells (g := g) rfl
    have hconv := run_convert_bytes_arg (P := Tryd.prog) W 72 5 Tryd.underlying72 Tryd.underlying5 g 0 (m + 1) cap ((gl 9 z).map fun p => ((grpByte p).toNat : Int)) (by simp [hm])
      (fun i hi => by
        have := hcells i (grpVal ((gl 9 z)[i]'(by omega))) (by simp [show i < (gl 9 z).length by omega])
        rw [show (⟨g, 0, none⟩ : Addr).add i = ⟨g, 0 + i, none⟩ from by unfold Addr.add; split <;> simp_all] at this
        simpa [grpVal, List.getD, show i < (gl 9 z).length by omega] using this) 9 Tryd.underlying9
    have hstr : strOfNums ((gl 9 z).map fun p => ((grpByte p).toNat : Int)) = ⟨(encInt v).toArray⟩ := by
      unfold strOfNums
      rw [Henc.out, ← gl_leb]
      congr 2
      simp [List.map_map, Function.comp_def]
    rw [hstr] at hconv
    clear hm hcells hstr
    gi_wp2
    refine ⟨by simp, .inl ⟨_, _, rfl, run_takeDeferred hK, ?_⟩⟩
    exact ⟨.tuple #[.string ⟨(encInt v).toArray⟩, .int .i64 0], by simp [results, Tryd.f56, go_sem], rfl, hB.trans (belowK_b (w := w) (Nat.le_refl _) W D _ _ (by simp at hD; omega) hK rfl rfl)⟩
  case stop =>
    rintro D c pre W _ _ h _
    exact h.elim

set_option maxRecDepth 100000 in
set_option maxHeartbeats 400000 in
theorem putInt_bad (v : Int) (w : World) (h : v < -4611686018427387903 ∨ 4611686018427387903 < v) (h1 : -9223372036854775808 ≤ v) (h2 : v ≤ 9223372036854775807) :
    Calls Tryd.prog 56 #[.int .i64 v] w fun e W' => e = .returned (.tuple #[.string ⟨#[]⟩, .int .i64 10]) ∧ W' = w := by
  rcases h with h | h
  · go_enter Tryd.func56, Tryd.ntmps56
    go_wp2
    go_ret2
    exact ⟨rfl, rfl⟩
  · go_enter Tryd.func56, Tryd.ntmps56
    go_wp2
    go_ret2
    exact ⟨rfl, rfl⟩
end Go.Proofs.YtgkdliocfnoffaaDoor
