/- LAWS: copy from a text into a block, clear on a block. -/
import Derived.Test.YtkmiodlehmocnaaDoorT6
import Derived.Test.YtkmiodlehmocnaaDoorS3
import Derived.Test.YtkmiodlehmocnaaDoorR1
import Derived.Lib.LazyBuf
import Derived.Lib.BufferWrite
set_option linter.unusedVariables false
namespace Go.Proofs.YtkmiodlehmocnaaDoor
open Go.RowKit

theorem byteV_one : ∀ l : List Nat, ∀ v ∈ bytesV l, v.oneCell' = true := by
  intro l v hv
  simp only [bytesV, List.mem_map] at hv
  obtain ⟨b, _, rfl⟩ := hv
  rfl
theorem setRow_grown (w : World) (g : Nat) (cs : Array Value) : w.grownBy (w.setRow g cs) (some g) :=
  ⟨rfl, rfl, rfl, by simp, fun k _ hk => setRow_other w g k cs (fun e => hk (by rw [e]))⟩

/-- copy(block[u:], s): as many bytes as fit. -/
theorem copy_text {P : Program} (w : World) (dT sT ty elem T : TypeId) (g u : Nat) (s : ByteArray) (bl : List Nat)
    (hu : P.underlying dT = some (.slice elem)) (hs : (P.info? elem).map (·.size) = some 1) (hg : Blk w g (bytesV bl) T) (h64 : bl.length = 64) (hu64 : u ≤ 64) :
    ∃ w2, (Builtin.copy_ #[dT, sT] ty #[.slice (some ⟨g, u, none⟩) (64 - u) (64 - u), .string s]).run P w = .ok (.int .i64 (min s.size (64 - u) : Nat)) w2 ∧
      Blk w2 g (bytesV (copied bl u (nums s) (min s.size (64 - u)))) T ∧ w.grownBy w2 (some g) := by
  obtain ⟨m, hm⟩ : ∃ m, min s.size (64 - u) = m := ⟨_, rfl⟩
  have hm1 : m ≤ s.size := by omega
  have hm2 : u + m ≤ 64 := by omega
  have hl : (bytesV ((nums s).take m)).length = m := by simp [bytesV, nums_len]; omega
  have hst := run_storeCells_at (P := P) g u T (bytesV ((nums s).take m)) 0 _ w hg (by rw [hl]; simp [bytesV, h64]; omega) (byteV_one _)
  rw [hl, Nat.add_zero] at hst
  have hcells : (List.take m (List.map (fun b : UInt8 => Value.int IntKind.u8 (b.toNat : Int)) s.data.toList)) = bytesV ((nums s).take m) := by
    simp [bytesV, nums, byteV, List.map_take, List.map_map, Function.comp_def]
  obtain ⟨cs, hcs⟩ : ∃ cs, ((bytesV bl).toArray.toList.take u ++ bytesV ((nums s).take m) ++ (bytesV bl).toArray.toList.drop (u + m)).toArray = cs := ⟨_, rfl⟩
  rw [hcs] at hst
  refine ⟨w.setRow g cs, ?_, ?_, setRow_grown w g cs⟩
  · cases hq : P.info? elem with
    | none => simp [hq] at hs
    | some i =>
      have hmin : Nat.min s.size (64 - u) = m := hm
      simp [Builtin.copy_, run_underlying hu, Builtin.lenOf, Builtin.firstCells, sizeOf, typeInfo, hq, hmin, hm]
      rw [hcells, hst]
      simp [Result.andThen, goInt]
  · rw [hm]
    have := setRow_heap w g _ cs T _ hg
    unfold Blk
    rw [this, ← hcs]
    simp [copied, bytesV, List.map_take, List.map_drop]

/-- clear(block[u:]). -/
theorem clear_block {P : Program} (w : World) (t e ty T : TypeId) (g u : Nat) (bl : List Nat) (a : Addr) (ht : P.underlying t = some (.slice e)) (hv : ∀ w, (zeroValue e).run P w = .ok (.int .u8 0) w)
    (hg : Blk w g (bytesV bl) T) (h64 : bl.length = 64) (hu : u ≤ 64) (ha : u < 64 → a = ⟨g, u, none⟩) :
    ∃ w2, (Builtin.clear_ #[t] ty #[.slice (some a) (64 - u) (64 - u)]).run P w = .ok (.tuple #[]) w2 ∧ Blk w2 g (bytesV (bl.take u ++ List.replicate (64 - u) 0)) T ∧ w.grownBy w2 (some g) := by
  by_cases h : u < 64
  · rw [ha h]
    obtain ⟨n, hn⟩ : ∃ n, 64 - u = n + 1 := ⟨63 - u, by omega⟩
    have hl : (bytesV (List.replicate (64 - u) 0)).length = 64 - u := by simp [bytesV]
    have hst := run_storeCells_at (P := P) g u T (bytesV (List.replicate (64 - u) 0)) 0 _ w hg (by rw [hl]; simp [bytesV, h64]; omega) (byteV_one _)
    rw [hl, Nat.add_zero] at hst
    have hz : (Builtin.zeroCells (Value.int .u8 0).cells (64 - u)).toList = bytesV (List.replicate (64 - u) 0) := by
      simp [Builtin.zeroCells, Value.cells, bytesV, byteV]
      apply List.ext_getElem
      · simp
      · intro i h1 h2
        simp [Nat.mod_one]
    obtain ⟨cs, hcs⟩ : ∃ cs, ((bytesV bl).toArray.toList.take u ++ bytesV (List.replicate (64 - u) 0) ++ (bytesV bl).toArray.toList.drop (u + (64 - u))).toArray = cs := ⟨_, rfl⟩
    rw [hcs] at hst
    refine ⟨w.setRow g cs, ?_, ?_, setRow_grown w g cs⟩
    · rw [hn] at hst hz ⊢
      simp [Builtin.clear_, run_underlying ht, hv, hz, hst]
    · have := setRow_heap w g _ cs T _ hg
      unfold Blk
      rw [this, ← hcs]
      simp [bytesV, List.map_take, List.map_drop, show u + (64 - u) = 64 by omega, List.drop_of_length_le, h64]
  · obtain rfl : u = 64 := by omega
    refine ⟨w, ?_, ?_, ⟨rfl, rfl, rfl, Nat.le_refl _, fun _ _ _ => rfl⟩⟩
    · simp [Builtin.clear_, run_underlying ht]
    · rw [List.take_of_length_le (by omega)]; simpa using hg
theorem size5 (w : World) : (sizeOf 5).run Tryd.prog w = .ok 1 w := by kernel_rfl
theorem slice62 (w : World) (B u : Nat) (hu : u ≤ 64) : (Instr.sliceAt 62 (.pointer (some ⟨B, 0, none⟩)) (some (.int .i64 (u : Int))) none none).run Tryd.prog w = .ok (.slice (some (if 64 = u then ⟨B, 0, none⟩ else ⟨B, u, none⟩)) (64 - u) (64 - u)) w := by
  have h : (⟨B, 0, none⟩ : Addr).add u = ⟨B, u, none⟩ := by unfold Addr.add; split <;> simp_all
  have h1 : (0 : Int) ≤ (u : Int) := by omega
  have h2 := run_sliceBound (P := Tryd.prog) w .i64 (u : Int) 64 .sliceB h1 (by omega)
  simp [Instr.sliceAt, Instr.sureAddr, run_underlying Tryd.underlying62, Instr.sliceBounds, size5, h, h2]
theorem slice62_lt (w : World) (B u : Nat) (hu : u < 64) : (Instr.sliceAt 62 (.pointer (some ⟨B, 0, none⟩)) (some (.int .i64 (u : Int))) none none).run Tryd.prog w = .ok (.slice (some ⟨B, u, none⟩) (64 - u) (64 - u)) w := by
  rw [slice62 w B u (by omega), if_neg (by omega)]
theorem slice62_all (w : World) (B : Nat) : (Instr.sliceAt 62 (.pointer (some ⟨B, 0, none⟩)) none none none).run Tryd.prog w = .ok (.slice (some ⟨B, 0, none⟩) 64 64) w := by
  have h : (⟨B, 0, none⟩ : Addr).add 0 = ⟨B, 0, none⟩ := by unfold Addr.add; split <;> simp_all
  simp [Instr.sliceAt, Instr.sureAddr, run_underlying Tryd.underlying62, Instr.sliceBounds, size5, h]
end Go.Proofs.YtkmiodlehmocnaaDoor
