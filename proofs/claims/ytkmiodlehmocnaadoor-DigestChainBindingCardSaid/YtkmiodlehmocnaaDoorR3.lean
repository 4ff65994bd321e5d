/- WALKS: the iterator over the blocks of the parts. -/
import Derived.Test.YtkmiodlehmocnaaDoorR2
import Derived.RangeFuncLeaves
import Derived.Shelf.Abstract
import Derived.Shelf.RegionOpen
import Derived.OwnWalkIn
import Derived.TacticsInMore
import Derived.LoopNIn
import Derived.LoopIn
import Derived.Sort.LoopGhostIn
import Derived.WalkMore
import Derived.BigFrameIn
set_option linter.unusedVariables false
namespace Go.Proofs.YtkmiodlehmocnaaDoor
open Go.RowKit Go.Shelf
attribute [local go_sem] Oper.semAt_some

theorem wide_scope {P : Program} {c : Code} {Q : Exit → Act → World → Prop} {a : Act} {w : World} {n : Nat} (h : c.wpIn Fence.wide n P (Exit.noGoto Q) a w) : (Code.scope c).wpIn Fence.wide n P Q a w :=
  wpIn_wide.2 (wp_scope_straight (wpIn_wide.1 h))

/-- A WHOLE ARRAY OUT OF A BLOCK, INTO A BLOCK, within a fence. -/
theorem wpListIn_load_row {F : Fence} {n : Nat} {P : Program} {ops : Array Oper} {rest : List Oper} {o : Oper} {a : Act} {w : World} {Q : Exit → Act → World → Prop} (hgd : o.guard = none) (ty : TypeId) (x : Operand) (ho : o.op = .load ty x)
    (g : Nat) (hx : a.eval x = .pointer (some ⟨g, 0, none⟩)) (t : TypeId) (cs : Array Value) (fr : Nat × Nat) (d : TypeDesc) (hg : w.heap[g]? = some (.cells cs t fr))
    (hu : P.underlying ty = some d) (hd : (match d with | .struct _ | .array _ _ => true | _ => false) = true) (hi : (P.info? ty).map (·.size) = some cs.size)
    (h : wpListIn F n P ops Q rest (a.put o.dst (.agg cs)) w) : wpListIn F n P ops Q (o :: rest) a w := by
  refine wpListIn_plain hgd fun K hK' => ?_
  unfold Oper.wpIn
  refine ⟨?_, ?_⟩
  · simp [Oper.about, ho]
  · rw [Oper.semAt_plain F _ _ (by rw [ho]; intro c hc'; cases hc')]
    simp only [execOp, ho, hx, Instr.loadAt, Instr.sureAddr, Sem.run_bind, Sem.run_pure, Result.andThen_ok, run_loadVar_row w g t ty cs fr d hg hu hd hi]
    exact hK' _ _ h
theorem wpListIn_store_row {F : Fence} {n : Nat} {P : Program} {ops : Array Oper} {rest : List Oper} {o : Oper} {a : Act} {w : World} {Q : Exit → Act → World → Prop} (hgd : o.guard = none) (ty : TypeId) (x y : Operand) (ho : o.op = .store ty x y)
    (g : Nat) (hx : a.eval x = .pointer (some ⟨g, 0, none⟩)) (t : TypeId) (old cs : Array Value) (hy : a.eval y = .agg cs) (hg : w.heap[g]? = some (.cells old t (0, 0)))
    (hi : (P.info? ty).map (·.size) = some cs.size) (hs : old.size = cs.size) (h1 : cs.all (·.oneCell') = true)
    (h : wpListIn F n P ops Q rest (a.put o.dst undef) (w.setRow g cs)) : wpListIn F n P ops Q (o :: rest) a w := by
  refine wpListIn_plain hgd fun K hK' => ?_
  unfold Oper.wpIn
  refine ⟨?_, ?_⟩
  · simp [Oper.about, ho]
  · rw [Oper.semAt_plain F _ _ (by rw [ho]; intro c hc'; cases hc')]
    simp only [execOp, ho, hx, hy, Instr.storeAt, Instr.sureAddr, Sem.run_bind, Sem.run_pure, Result.andThen_ok, run_storeVar_row w g t ty old cs hg hi hs h1]
    exact hK' _ _ h

/-- A row of texts in memory. -/
def Texts (w : World) (g o : Nat) (l : List ByteArray) : Prop := ∃ cs t f, w.heap[g]? = some (.cells cs t f) ∧ ∀ j, j < l.length → cs[o + j]? = some (.string (l.getD j ⟨#[]⟩))
theorem Texts.cell {w : World} {g o : Nat} {l : List ByteArray} (h : Texts w g o l) {j : Nat} (hj : j < l.length) : w.cell? ⟨g, o + j, none⟩ = some (.string (l.getD j ⟨#[]⟩)) := by
  obtain ⟨cs, t, f, hc, h⟩ := h
  simp only [World.cell?, hc]
  exact h j hj
theorem Texts.kp {Bw : Nat} {w w' : World} {g o : Nat} {l : List ByteArray} (h : Texts w g o l) (hg : g ≠ Bw) (hk : KpB Bw w w') : Texts w' g o l := by
  obtain ⟨cs, t, f, hc, h⟩ := h
  exact ⟨cs, t, f, hk.cells g cs t f hg hc, h⟩

theorem size5' : (Tryd.prog.info? 5).map (·.size) = some 1 := by kernel_rfl
theorem nums_drop (r : ByteArray) (m : Nat) (h : m ≤ r.size) : nums (r.extract m r.size) = (nums r).drop m := by
  unfold nums
  rw [Lib.extract_data, List.take_of_length_le (by simp), List.map_drop]
theorem grownBy_setCell'' (W : World) (b o : Nat) (v : Value) : W.grownBy (W.setCell ⟨b, o, none⟩ v) (some b) :=
  ⟨rfl, rfl, rfl, by simp [World.setCell], fun k _ hk => Below.heap_setCell _ _ _ k (fun e => hk (by rw [e]))⟩
def encB (b : List Nat) : Array Value := #[.agg (bytesV b).toArray]

set_option maxRecDepth 100000 in
set_option maxHeartbeats 1000000 in
theorem blocks1_in (n : Nat) (hn : 1 ≤ n) (l Bp Bw ps pc : Nat) (parts : List ByteArray) (hX : (parts.map nums).flatten.length ≤ 1000000000000) (hpl : parts.length ≤ 1000000)
    (J : Nat → World → Prop) (W : World) (hJ : Bears W.heap.size J)
    (hY : ∀ c W1, J c W1 → c < (pad (parts.map nums).flatten).length / 64 → YieldAt Fence.wide (n - 1) Tryd.prog l (encB (chunk (pad (parts.map nums).flatten) c)) W1 fun e W' =>
      e = .returned (.bool true) ∧ J (c + 1) W' ∧ KpB Bw W1 W')
    (hBp : W.heap[Bp]? = some (.cells #[.slice (some ⟨ps, 0, none⟩) parts.length pc] 26 (0, 0))) (hBpw : Bp ≠ Bw) (hps : Texts W ps 0 parts) (hpw : ps ≠ Bw) (hBw : Bw < W.heap.size) (h0 : J 0 W) :
    CallsIn Fence.wide n Tryd.prog 53 #[.func (.yield l) #[] #[], .pointer (some ⟨Bp, 0, none⟩)] W fun e W' => (∃ v, e = .returned v) ∧
      J ((pad (parts.map nums).flatten).length / 64) W' := by
  obtain ⟨P, HP⟩ : ∃ P, Hid (parts.map nums = P) := ⟨_, Lib.hid rfl⟩
  rw [HP.out] at hX hY ⊢
  obtain ⟨X, HX⟩ : ∃ X, Hid (P.flatten = X) := ⟨_, Lib.hid rfl⟩
  rw [HX.out] at hX hY ⊢
  obtain ⟨Z, HZ⟩ : ∃ Z, Hid (pad X = Z) := ⟨_, Lib.hid rfl⟩
  rw [HZ.out] at hY ⊢
  obtain ⟨NB, HNB⟩ : ∃ NB, Hid (Z.length / 64 = NB) := ⟨_, Lib.hid rfl⟩
  rw [HNB.out] at hY ⊢
  have HPl := Lib.hid (show P.length = parts.length from by rw [← HP.out]; simp)
  have HY := Lib.hid hY
  have HJ := Lib.hid hJ
  clear hY hJ
  have hBpz : Bp < W.heap.size := (Array.getElem?_eq_some_iff.1 hBp).1
  have hpsz : ps < W.heap.size := by obtain ⟨cs, t, f, hc, _⟩ := hps; exact (Array.getElem?_eq_some_iff.1 hc).1
  refine callsIn_of_wp Tryd.func53 rfl trivial ?_ rfl
  simp only [Tryd.ntmps53, List.size_toArray, List.length_cons, List.length_nil, Nat.reduceAdd, Nat.reduceSub, Array.replicate_succ, Array.replicate_zero, List.push_toArray, List.append_toArray, List.nil_append, List.cons_append]
  gi_wp2
  refine wide_scope ?_
  gi_wp2
  refine wpIn_label ?_
  have cBp : W.cell? ⟨Bp, 0, none⟩ = some (.slice (some ⟨ps, 0, none⟩) parts.length pc) := by simp [World.cell?, hBp]
  gi_wp2
  gi_loopg [4, 5, 7, 8, 12] parts.length (fun g a b _ _ i wr => ∃ (k c u : Nat) (bl : List Nat), g + k = parts.length ∧ a = .int .i64 u ∧ b = .int .i64 (64 * (c : Int) + (u : Int)) ∧ i = .int .i64 k ∧ u < 64 ∧ Hid (64 * c + u = (joinN P k).length) ∧
    J c wr ∧ Blk wr W.heap.size (bytesV bl) 62 ∧ Hid (bl.length = 64) ∧ Hid (bl.take u = (X.drop (64 * c)).take u) ∧ Texts wr ps 0 parts)
  case atStart =>
    refine ⟨0, 0, 0, List.replicate 64 0, by omega, rfl, rfl, rfl, by omega, Lib.hid rfl, HJ.out.alloc _ h0, Blk.new W (bytesV (List.replicate 64 0)) 62, Lib.hid (by simp), Lib.hid (by simp), ?_⟩
    exact Texts.kp hps hpw (KpB.of_below (Below.alloc (Below.refl _ _) (Nat.le_refl _) _))
  case round =>
    obtain ⟨k, c, u, bl, hgk, rfl, rfl, rfl, hu, HL, hJw, hB, HBl, HBt, hT⟩ := hrel
    clear cBp
    by_cases hlt : k < parts.length
    · obtain ⟨r, HR⟩ : ∃ r, Hid (parts.getD k ⟨#[]⟩ = r) := ⟨_, Lib.hid rfl⟩
      have cT : wr.cell? ⟨ps, k, none⟩ = some (.string r) := by rw [← HR.out]; simpa using hT.cell hlt
      have HPk := Lib.hid (show P.getD k [] = nums r from by rw [← HP.out, ← HR.out]; simp [List.getD, hlt])
      have HLs := Lib.hid (show (joinN P (k + 1)).length = 64 * c + u + r.size from by rw [joinN_succ P (by rw [HPl.out]; exact hlt), List.length_append, ← HL.out, HPk.out, nums_len])
      have HRn := Lib.hid (show (X.drop (64 * c + u)).take r.size = nums r from by rw [← HX.out, HL.out, ← nums_len, ← HPk.out]; exact joinN_next P (by rw [HPl.out]; exact hlt))
      have hle : 64 * c + u + r.size ≤ 1000000000000 := by
        have := joinN_le P (k + 1)
        rw [HLs.out, HX.out] at this; omega
      gi_wp2
      obtain ⟨E, HE⟩ : ∃ E : Nat, Hid (64 * c + u + r.size = E) := ⟨_, Lib.hid rfl⟩
      rw [show (64 * (c : Int) + (u : Int) + (r.size : Int)) = (E : Int) from by have := HE.out; omega]
      have HLs' : Hid ((joinN P (k + 1)).length = E) := Lib.hid (by rw [HLs.out, HE.out])
      obtain ⟨wo, rfl⟩ : ∃ wo : World, wo = wr := ⟨_, rfl⟩
      obtain ⟨go, rfl⟩ : ∃ go : Nat, go = gk := ⟨_, rfl⟩
      have hEX : E ≤ X.length := by rw [← HLs'.out, ← HX.out]; exact joinN_le P (k + 1)
      gi_loopg [4, 7, 8] (r.size) (fun g a s _ wr => ∃ (c u : Nat) (bl : List Nat) (r : ByteArray), g = r.size ∧ a = .int .i64 u ∧ s = .string r ∧ u < 64 ∧ Hid (64 * c + u + r.size = E) ∧ Hid ((X.drop (64 * c + u)).take r.size = nums r) ∧
        J c wr ∧ Blk wr W.heap.size (bytesV bl) 62 ∧ Hid (bl.length = 64) ∧ Hid (bl.take u = (X.drop (64 * c)).take u) ∧ Texts wr ps 0 parts)
      case atStart => exact ⟨c, u, bl, r, rfl, rfl, rfl, hu, HE, HRn, hJw, hB, HBl, HBt, hT⟩
      case round =>
        clear hJw hB HBl HBt hT HRn HE HL HLs cT HR HPk hu hle
        obtain ⟨c, u, bl, r, hgr, rfl, rfl, hu, HE, HRn, hJw, hB, HBl, HBt, hT⟩ := hrel
        have hsl := slice62_lt wr W.heap.size u hu
        obtain ⟨w2, hcopy, hB2, hg2⟩ := copy_text (P := Tryd.prog) wr 42 9 3 5 62 W.heap.size u r bl Tryd.underlying42 size5' hB HBl.out (by omega)
        obtain ⟨m, HM⟩ : ∃ m, Hid (min r.size (64 - u) = m) := ⟨_, Lib.hid rfl⟩
        rw [HM.out] at hcopy hB2
        have hm1 : m ≤ r.size := by have := HM.out; omega
        have hm2 : u + m ≤ 64 := by have := HM.out; omega
        have hEz : r.size ≤ 1000000000000 := by have := HE.out; have := HLs'.out; have := joinN_le P (k + 1); rw [HX.out] at this; omega
        have hJ2 := HJ.out _ _ _ _ hJw hg2 (fun r e => by cases e; exact Nat.le_refl _)
        have hT2 : Texts w2 ps 0 parts := by
          obtain ⟨cs, t, f, hc, h⟩ := hT
          exact ⟨cs, t, f, (hg2.block ps (Array.getElem?_eq_some_iff.1 hc).1 (by intro e; cases e; omega)).trans hc, h⟩
        by_cases hfull : u + m < 64
        · have hmr : m = r.size := by have := HM.out; omega
          have HMr := Lib.hid hmr
          clear hmr
          gi_wp2
          gi_roundg (go - 1)
          case measure => omega
          case rel =>
            refine ⟨k + 1, c, u + m, _, by omega, rfl, ?_, by go_num, hfull, Lib.hid ?_, hJ2, hB2, Lib.hid (copied_length HBl.out (by rw [nums_len]; exact hm1) hm2), Lib.hid ?_, hT2⟩
            · have := HE.out; have := HMr.out
              rw [show (E : Int) = 64 * (c : Int) + ((u + m : Nat) : Int) by omega]
            · have := HE.out; have := HMr.out; rw [HLs'.out]; omega
            · exact copied_next HBl.out (by rw [nums_len]; exact hm1) hm2 (by rw [nums_len, HE.out]; exact hEX) HBt.out (by rw [nums_len]; exact HRn.out)
        · have hum : u + m = 64 := by omega
          have HF := Lib.hid (block_full (x := X) (c := c) (copied_length HBl.out (by rw [nums_len]; exact hm1) hm2) (by
            have := copied_next (x := X) (bl := bl) (r := nums r) (c := c) (u := u) (m := m) HBl.out (by rw [nums_len]; exact hm1) hm2 (by rw [nums_len, HE.out]; exact hEX) HBt.out (by rw [nums_len]; exact HRn.out)
            rw [hum] at this; exact this) (by have := HE.out; omega))
          rw [HF.out, HZ.out] at hB2
          have hcN : c < NB := by
            rw [← HNB.out, ← HZ.out, pad_len]
            have := HE.out; omega
          have HC64 := Lib.hid (chunk_len Z c (by rw [← HZ.out, pad_len]; have := HE.out; omega))
          obtain ⟨fn, tmps, assign, body, hy, hR⟩ := HY.out c w2 hJ2 hcN
          unfold encB at hy
          have HS62 := Lib.hid (show (Tryd.prog.info? 62).map (·.size) = some (bytesV (chunk Z c)).toArray.size from by rw [show (bytesV (chunk Z c)).toArray.size = 64 by simp [bytesV, HC64.out]]; kernel_rfl)
          have HRi := Lib.hid hR
          have humI : (u : Int) + (m : Int) = 64 := by omega
          clear hR
          gi_wp2_with (refine wpListIn_load_row rfl 62 _ rfl W.heap.size rfl 62 _ (0, 0) _ hB2 Tryd.underlying62 rfl HS62.out ?_)
          refine HRi.out.mono ?_
          clear hy
          rintro e W3 ⟨rfl, hJ3, hk3⟩
          have hB3 : Blk W3 W.heap.size (bytesV (chunk Z c)) 62 := hk3.cells _ _ _ _ (by omega) hB2
          have hT3 := hT2.kp hpw hk3
          clear hcopy hsl hB2 hT2 hJ2
          gi_wp2
          have HZr := Lib.hid (show (r.extract m r.size).size = r.size - m from by simp)
          gi_roundg (r.extract m r.size).size
          case measure => rw [HZr.out, hgr]; omega
          case rel =>
            refine ⟨c + 1, 0, _, _, rfl, rfl, rfl, by omega, Lib.hid (by rw [HZr.out]; have := HE.out; omega), Lib.hid ?_, hJ3, hB3, HC64, Lib.hid (by simp), hT3⟩
            have := rest_next (x := X) (r := nums r) (p := 64 * c + u) (m := m) (by rw [nums_len]; exact hm1) (by rw [nums_len]; exact HRn.out)
            rw [HZr.out, show 64 * (c + 1) + 0 = 64 * c + u + m by omega, nums_drop r m hm1, ← this]
            rw [List.length_drop, nums_len]
    · obtain rfl : k = parts.length := by omega
      have HXl := Lib.hid (show X.length = 64 * c + u from by rw [HL.out, ← HPl.out, joinN_all, HX.out])
      clear hlt hgk HL
      have hux : 64 * c + u ≤ 1000000000000 := by have := HXl.out; omega
      have cu : wr.cell? ⟨W.heap.size, u, none⟩ = some (.int .u8 ((bl.getD u 0 : Nat) : Int)) := bytesV_cell hB (by rw [HBl.out]; exact hu)
      have fu : wr.frozen? ⟨W.heap.size, u, none⟩ = false := hB.frozen
      have hB1 : Blk (wr.setCell ⟨W.heap.size, u, none⟩ (.int .u8 128)) W.heap.size (bytesV (bl.set u 128)) 62 := by
        have := hB.set u (.int .u8 ((128 : Nat) : Int))
        rw [bytesV_set] at this; exact this
      obtain ⟨a1, hsl, ha1⟩ : ∃ a1, (Instr.sliceAt 62 (.pointer (some ⟨W.heap.size, 0, none⟩)) (some (.int .i64 ((u : Int) + 1))) none none).run Tryd.prog (wr.setCell ⟨W.heap.size, u, none⟩ (.int .u8 128)) = .ok (.slice (some a1) (64 - (u + 1)) (64 - (u + 1))) (wr.setCell ⟨W.heap.size, u, none⟩ (.int .u8 128)) ∧ (u + 1 < 64 → a1 = ⟨W.heap.size, u + 1, none⟩) :=
        ⟨_, slice62 _ W.heap.size (u + 1) (by omega), fun h => if_neg (by omega)⟩
      obtain ⟨w3, hclear, hB3, hg3⟩ := clear_block (P := Tryd.prog) (wr.setCell ⟨W.heap.size, u, none⟩ (.int .u8 128)) 42 5 0 62 W.heap.size (u + 1) (bl.set u 128) a1 Tryd.underlying42 (fun w => by kernel_rfl) hB1 (by rw [List.length_set]; exact HBl.out) (by omega) ha1
      rw [marked_of HBl.out hu] at hB3
      rw [show 64 - (u + 1) = 63 - u from by omega] at hclear hsl
      have HM64 := Lib.hid (marked_length HBl.out hu)
      have hJ1 := HJ.out _ _ _ _ hJw (grownBy_setCell'' wr W.heap.size u (.int .u8 128)) (fun r e => by cases e; exact Nat.le_refl _)
      have hJ3 := HJ.out _ _ _ _ hJ1 hg3 (fun r e => by cases e; exact Nat.le_refl _)
      clear hJ1 hJw hT hg3 ha1 hB1
      have hul : 0 ≤ (u : Int) + 1 := by omega
      by_cases h55 : u ≤ 55
      · have h56 : (56 < (u : Int) + 1) = False := by simp; omega
        gi_wp2
        have HEn := Lib.hid (marked_one (x := X) HBl.out HXl.out h55 HBt.out)
        have HNc : Hid (NB = c + 1) := Lib.hid (by rw [← HNB.out, ← HZ.out]; exact (pad_one X c u HXl.out h55).2)
        rw [HZ.out] at HEn
        obtain ⟨base, Hbase⟩ : ∃ base, Hid (marked bl u = base) := ⟨_, Lib.hid rfl⟩
        rw [Hbase.out] at hB3 HM64 HEn
        clear hclear hsl cu fu hB
        gi_loopw [9, 50] (fun _ i wr => ∃ k : Nat, k ≤ 8 ∧ i = .int .i64 k ∧ Blk wr W.heap.size (bytesV (lenB base X.length k)) 62 ∧ J c wr) (fun _ i _ => 8 - (intOf i).toNat)
        case atStart => exact ⟨0, by omega, rfl, by rw [lenB_zero _ _ HM64.out]; exact hB3, hJ3⟩
        case round =>
          clear hB3 hJ3
          obtain ⟨k, hk, rfl, hB3, hJ3⟩ := hrel
          by_cases hlt : k < 8
          · have hk1 : (0 : Int) ≤ 63 - (k : Int) := by omega
            have hk2 : 63 - (k : Int) < 64 := by omega
            have ck : wr.cell? ⟨W.heap.size, 63 - k, none⟩ = some (.int .u8 (((lenB base X.length k).getD (63 - k) 0 : Nat) : Int)) := bytesV_cell hB3 (by rw [lenB_length _ _ _ HM64.out hk]; omega)
            have fk : wr.frozen? ⟨W.heap.size, 63 - k, none⟩ = false := hB3.frozen
            gi_wp2
            have hset := hB3.set (63 - k) (.int .u8 ((8 * X.length / 2 ^ (8 * k) % 256 : Nat) : Int))
            rw [bytesV_set, lenB_set _ _ _ HM64.out hlt] at hset
            have hval : ((8 * X.length / 2 ^ (8 * k) % 256 : Nat) : Int) = (64 * (c : Int) + (u : Int)) * 8 / 2 ^ (8 * k) % 256 := by
              rw [HXl.out, Int.natCast_emod, Int.natCast_ediv, Int.natCast_pow]
              congr 2
              rw [Int.natCast_mul, Int.natCast_add, Int.natCast_mul, Int.mul_comm]
              rfl
            rw [hval] at hset
            exact ⟨⟨k + 1, by omega, by go_num, hset, HJ.out _ _ _ _ hJ3 (grownBy_setCell'' wr W.heap.size (63 - k) _) (fun r e => by cases e; exact Nat.le_refl _)⟩, by simp [intOf]; omega⟩
          · obtain rfl : k = 8 := by omega
            rw [show ((8 : Nat) : Int) = 8 from rfl]
            rw [HEn.out] at hB3
            have HC64 := Lib.hid (chunk_len Z c (by have := HNc.out; have := pad_blocks X; rw [HZ.out, HNB.out] at this; omega))
            obtain ⟨fn, tmps, assign, body, hy, hR⟩ := HY.out c wr hJ3 (by rw [HNc.out]; omega)
            unfold encB at hy
            have HS62 := Lib.hid (show (Tryd.prog.info? 62).map (·.size) = some (bytesV (chunk Z c)).toArray.size from by rw [show (bytesV (chunk Z c)).toArray.size = 64 by simp [bytesV, HC64.out]]; kernel_rfl)
            have HRi := Lib.hid hR
            clear hR hlt hk
            gi_wp2_with (refine wpListIn_load_row rfl 62 _ rfl W.heap.size rfl 62 _ (0, 0) _ hB3 Tryd.underlying62 rfl HS62.out ?_)
            refine HRi.out.mono ?_
            clear hy
            rintro e W3 ⟨rfl, hJ3, hk3⟩
            gi_wp2
            rw [Exit.noGoto_normal]
            refine bodyPost_end (results_none rfl _ _ _) rfl ?_
            exact ⟨⟨_, rfl⟩, by rw [HNc.out]; exact hJ3⟩
      · have h56 : (56 < (u : Int) + 1) = True := by simp; omega
        have HF := Lib.hid (marked_two (x := X) HBl.out HXl.out (by omega) hu HBt.out)
        rw [HF.out, HZ.out] at hB3
        have HNc : Hid (NB = c + 1 + 1) := Lib.hid (by rw [← HNB.out, ← HZ.out]; exact (pad_two X c u HXl.out (by omega) hu).2.2)
        have HC0 := Lib.hid (chunk_len Z c (by have := HNc.out; have := pad_blocks X; rw [HZ.out, HNB.out] at this; omega))
        have HEn := Lib.hid (zero_two (x := X) (c := c) HXl.out (by omega) hu)
        rw [HZ.out] at HEn
        obtain ⟨fn, tmps, assign, body, hy, hR⟩ := HY.out c w3 hJ3 (by rw [HNc.out]; omega)
        unfold encB at hy
        have HS62 := Lib.hid (show (Tryd.prog.info? 62).map (·.size) = some (bytesV (chunk Z c)).toArray.size from by rw [show (bytesV (chunk Z c)).toArray.size = 64 by simp [bytesV, HC0.out]]; kernel_rfl)
        have HRi := Lib.hid hR
        clear hR
        gi_wp2_with (refine wpListIn_load_row rfl 62 _ rfl W.heap.size rfl 62 _ (0, 0) _ hB3 Tryd.underlying62 rfl HS62.out ?_)
        refine HRi.out.mono ?_
        clear hy
        rintro e W3 ⟨rfl, hJ4, hk4⟩
        have hB4 : Blk W3 W.heap.size (bytesV (chunk Z c)) 62 := hk4.cells _ _ _ _ (by omega) hB3
        clear hB3 hJ3 hclear hsl cu fu hB hk4
        have hsl := slice62_all W3 W.heap.size
        obtain ⟨w5, hclear, hB5, hg5⟩ := clear_block (P := Tryd.prog) W3 42 5 0 62 W.heap.size 0 (chunk Z c) ⟨W.heap.size, 0, none⟩ Tryd.underlying42 (fun w => by kernel_rfl) hB4 HC0.out (by omega) (fun _ => rfl)
        rw [show 64 - 0 = 64 from rfl] at hclear hB5
        have hJ3 := HJ.out _ _ _ _ hJ4 hg5 (fun r e => by cases e; exact Nat.le_refl _)
        have HM64 : Hid ((List.replicate 64 0).length = 64) := Lib.hid (by simp)
        obtain ⟨base, Hbase⟩ : ∃ base : List Nat, Hid (List.replicate 64 0 = base) := ⟨_, Lib.hid rfl⟩
        have hB3 : Blk w5 W.heap.size (bytesV base) 62 := by rw [← Hbase.out]; exact hB5
        rw [Hbase.out] at HM64 HEn
        clear hB5 hB4 hJ4 hg5
        gi_wp2
        gi_loopw [9, 50] (fun _ i wr => ∃ k : Nat, k ≤ 8 ∧ i = .int .i64 k ∧ Blk wr W.heap.size (bytesV (lenB base X.length k)) 62 ∧ J (c + 1) wr) (fun _ i _ => 8 - (intOf i).toNat)
        case atStart => exact ⟨0, by omega, rfl, by rw [lenB_zero _ _ HM64.out]; exact hB3, hJ3⟩
        case round =>
          clear hB3 hJ3
          obtain ⟨k, hk, rfl, hB3, hJ3⟩ := hrel
          by_cases hlt : k < 8
          · have hk1 : (0 : Int) ≤ 63 - (k : Int) := by omega
            have hk2 : 63 - (k : Int) < 64 := by omega
            have ck : wr.cell? ⟨W.heap.size, 63 - k, none⟩ = some (.int .u8 (((lenB base X.length k).getD (63 - k) 0 : Nat) : Int)) := bytesV_cell hB3 (by rw [lenB_length _ _ _ HM64.out hk]; omega)
            have fk : wr.frozen? ⟨W.heap.size, 63 - k, none⟩ = false := hB3.frozen
            gi_wp2
            have hset := hB3.set (63 - k) (.int .u8 ((8 * X.length / 2 ^ (8 * k) % 256 : Nat) : Int))
            rw [bytesV_set, lenB_set _ _ _ HM64.out hlt] at hset
            have hval : ((8 * X.length / 2 ^ (8 * k) % 256 : Nat) : Int) = (64 * (c : Int) + (u : Int)) * 8 / 2 ^ (8 * k) % 256 := by
              rw [HXl.out, Int.natCast_emod, Int.natCast_ediv, Int.natCast_pow]
              congr 2
              rw [Int.natCast_mul, Int.natCast_add, Int.natCast_mul, Int.mul_comm]
              rfl
            rw [hval] at hset
            exact ⟨⟨k + 1, by omega, by go_num, hset, HJ.out _ _ _ _ hJ3 (grownBy_setCell'' wr W.heap.size (63 - k) _) (fun r e => by cases e; exact Nat.le_refl _)⟩, by simp [intOf]; omega⟩
          · obtain rfl : k = 8 := by omega
            rw [show ((8 : Nat) : Int) = 8 from rfl]
            rw [HEn.out] at hB3
            have HC64 := Lib.hid (chunk_len Z (c + 1) (by have := HNc.out; have := pad_blocks X; rw [HZ.out, HNB.out] at this; omega))
            obtain ⟨fn, tmps, assign, body, hy, hR⟩ := HY.out (c + 1) wr hJ3 (by rw [HNc.out]; omega)
            unfold encB at hy
            have HS62 := Lib.hid (show (Tryd.prog.info? 62).map (·.size) = some (bytesV (chunk Z (c + 1))).toArray.size from by rw [show (bytesV (chunk Z (c + 1))).toArray.size = 64 by simp [bytesV, HC64.out]]; kernel_rfl)
            have HRi := Lib.hid hR
            clear hR hlt hk
            gi_wp2_with (refine wpListIn_load_row rfl 62 _ rfl W.heap.size rfl 62 _ (0, 0) _ hB3 Tryd.underlying62 rfl HS62.out ?_)
            refine HRi.out.mono ?_
            clear hy
            rintro e W3 ⟨rfl, hJ3, hk3⟩
            gi_wp2
            rw [Exit.noGoto_normal]
            refine bodyPost_end (results_none rfl _ _ _) rfl ?_
            exact ⟨⟨_, rfl⟩, by rw [HNc.out]; exact hJ3⟩
end Go.Proofs.YtkmiodlehmocnaaDoor
