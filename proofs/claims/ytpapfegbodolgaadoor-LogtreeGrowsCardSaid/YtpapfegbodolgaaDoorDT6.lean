/- WALKS: the code's mix. -/
import Derived.Test.YtpapfegbodolgaaDoorDT5
set_option linter.unusedSimpArgs false
set_option linter.unusedVariables false
namespace Go.Proofs.YtpapfegbodolgaaDoor
open Go.RowKit

/-- The two tables lie in memory. -/
def Tab (w : World) : Prop := ∃ t0 f0 t1 f1, w.heap[0]? = some (.cells (wordsV start.list).toArray t0 f0) ∧ w.heap[1]? = some (.cells (wordsV kTab).toArray t1 f1)
theorem Tab.lt {w : World} (h : Tab w) : 1 < w.heap.size := by
  obtain ⟨_, _, _, _, _, h⟩ := h
  exact (Array.getElem?_eq_some_iff.1 h).1
theorem Tab.below {w w' : World} (h : Tab w) (hb : Below w.heap.size w w') : Tab w' := by
  have hl := h.lt
  obtain ⟨t0, f0, t1, f1, h0, h1⟩ := h
  exact ⟨t0, f0, t1, f1, (hb.block 0 (by omega)).trans h0, (hb.block 1 (by omega)).trans h1⟩
theorem Tab.cell {w : World} (h : Tab w) {j : Nat} (hj : j < 64) : w.cell? ⟨1, j, none⟩ = some (.int .u32 ((kTab.getD j 0 : Nat) : Int)) := by
  obtain ⟨_, _, _, _, _, h⟩ := h
  have hl : j < kTab.length := hj
  simp [World.cell?, h, wordsV, wordV, hl, List.getD]

def addL (S T : List Nat) (k : Nat) : List Nat := (List.range 8).map fun j => if j < k then (S.getD j 0 + T.getD j 0) % 4294967296 else S.getD j 0
theorem addL_length (S T : List Nat) (k : Nat) : (addL S T k).length = 8 := by simp [addL]
theorem addL_get (S T : List Nat) (k : Nat) {j : Nat} (hj : j < 8) : (addL S T k).getD j 0 = if j < k then (S.getD j 0 + T.getD j 0) % 4294967296 else S.getD j 0 := by
  simp [addL, List.getD, hj]
theorem addL_set (S T : List Nat) {k : Nat} (hk : k < 8) : (addL S T k).set k ((S.getD k 0 + T.getD k 0) % 4294967296) = addL S T (k + 1) := by
  apply List.ext_getElem
  · simp [addL]
  · intro i h1 h2
    simp [addL, List.getElem_set] at *
    by_cases h : k = i
    · subst h; simp
    · rw [if_neg h]
      by_cases h3 : i < k
      · simp [h3, show i < k + 1 by omega]
      · simp [h3, show ¬ i < k + 1 by omega]
theorem addL_zero (s : St) (T : List Nat) : addL s.list T 0 = s.list := rfl
theorem addL_all (s r : St) : addL s.list r.list 8 = (s.add r).list := rfl
theorem list_len (s : St) : s.list.length = 8 := rfl
theorem list_lt {s : St} (h : s.ok) : ∀ x ∈ s.list, x < 4294967296 := by
  obtain ⟨h1, h2, h3, h4, h5, h6, h7, h8⟩ := h
  intro x hx
  simp only [St.list, List.mem_cons, List.not_mem_nil, or_false] at hx
  rcases hx with rfl | rfl | rfl | rfl | rfl | rfl | rfl | rfl <;> assumption

set_option maxRecDepth 100000 in
theorem index8 (a b c d e f g h : Nat) (k : Nat) (hk : k < 8) (w : World) : (Instr.index 142 (.agg #[.int .u32 a, .int .u32 b, .int .u32 c, .int .u32 d, .int .u32 e, .int .u32 f, .int .u32 g, .int .u32 h]) (.int .i64 k)).run Tryd.prog w = .ok (.int .u32 (((St.mk a b c d e f g h).list.getD k 0 : Nat) : Int)) w := by
  match k, hk with
  | 0, _ => rfl
  | 1, _ => rfl
  | 2, _ => rfl
  | 3, _ => rfl
  | 4, _ => rfl
  | 5, _ => rfl
  | 6, _ => rfl
  | 7, _ => rfl
  | k + 8, hk => omega

theorem alloc3_mid (w : World) (a b c : Obj) : (((w.alloc a).alloc b).alloc c).heap[w.heap.size + 1]? = some b := by
  have h1 := heap_alloc_new (w.alloc a) b
  rw [World.size_alloc] at h1
  have h2 := Below.heap_alloc ((w.alloc a).alloc b) c (w.heap.size + 1) (by simp)
  exact h2.trans h1
theorem schedule_at (b : List Nat) (cb : Array Value) (h : (bytesV b).toArray = cb) (hb : b.length = 64) (hb8 : ∀ x ∈ b, x < 256) (w : World) :
    Calls Tryd.prog 102 #[.agg cb] w fun e w' => e = .returned (.agg (wordsV (sched b 64)).toArray) ∧ Below w.heap.size w w' := by
  subst h; exact schedule_any b hb hb8 w

set_option maxRecDepth 100000 in
set_option maxHeartbeats 1000000 in
theorem mix_any (s : St) (hs : s.ok) (b : List Nat) (hb : b.length = 64) (hb8 : ∀ x ∈ b, x < 256) (w : World) (hT : Tab w) :
    Calls Tryd.prog 93 #[.agg (wordsV s.list).toArray, .agg (bytesV b).toArray] w fun e w' => e = .returned (.agg (wordsV (compress s b).list).toArray) ∧ Below w.heap.size w w' := by
  obtain ⟨cb, HCB⟩ : ∃ cb, Hid ((bytesV b).toArray = cb) := ⟨_, Lib.hid rfl⟩
  obtain ⟨cs, HCS⟩ : ∃ cs, Hid ((wordsV s.list).toArray = cs) := ⟨_, Lib.hid rfl⟩
  have H8 := Lib.hid hb8
  have HB := Lib.hid hb
  have HT := Lib.hid hT
  have HOK := Lib.hid hs
  clear hb hb8 hT hs
  obtain ⟨R, HR⟩ : ∃ R, Hid ((wordsV (compress s b).list).toArray = R) := ⟨_, Lib.hid rfl⟩
  rw [HCB.out, HCS.out, HR.out]
  have HS62 := Lib.hid (show (Tryd.prog.info? 146).map (·.size) = some cb.size from by rw [← HCB.out, show (bytesV b).toArray.size = 64 by simp [bytesV, HB.out]]; kernel_rfl)
  go_enter Tryd.func93, Tryd.ntmps93
  obtain ⟨cw, HCW⟩ : ∃ cw, Hid ((wordsV (sched b 64)).toArray = cw) := ⟨_, Lib.hid rfl⟩
  have HCall := Lib.hid (fun (w : World) => schedule_at b cb HCB.out HB.out H8.out w)
  rw [HCW.out] at HCall
  have HS72 := Lib.hid (show (Tryd.prog.info? 156).map (·.size) = some cw.size from by rw [← HCW.out, show (wordsV (sched b 64)).toArray.size = 64 by simp [wordsV, sched_length]]; kernel_rfl)
  have HO72 := Lib.hid (show cw.all (·.oneCell') = true from by rw [← HCW.out]; exact wordsV_one _)
  go_wp2_with (refine wpList_load_row rfl 146 _ rfl (w.heap.size + 1) rfl 146 cb (0, 0) _ (alloc3_mid w _ _ _) Tryd.underlying146 rfl HS62.out ?_)
  refine (HCall.out _).mono ?_
  rintro e w1 ⟨rfl, hb1⟩
  have HC64 := Lib.hid (show cw.size = 64 from by rw [← HCW.out]; simp [wordsV, sched_length])
  go_wp2_with (refine wpList_store_row rfl 156 _ _ rfl w1.heap.size rfl 156 _ cw rfl (heap_alloc_new _ _) HS72.out (by rw [HC64.out]; rfl) HO72.out ?_)
  rw [World.setRow_alloc_new]
  obtain ⟨a, b1, c, d, e, f, g, h8⟩ := s
  obtain ⟨ha0, hb0, hc0, hd0, he0, hf0, hg0, hh0⟩ := HOK.out
  have hB0 : Below w.heap.size w (((w.alloc (.cells cs 142)).alloc (.cells cb 146)).alloc (.cells (wordsV (List.replicate 8 0)).toArray 142)) := (((Below.refl _ w).alloc (Nat.le_refl _) _).alloc (by simp) _).alloc (by simp; omega) _
  have hW0 : Blk (((w.alloc (.cells cs 142)).alloc (.cells cb 146)).alloc (.cells (wordsV (List.replicate 8 0)).toArray 142)) w.heap.size (wordsV (St.mk a b1 c d e f g h8).list) 142 := by
    rw [← HCS.out]; exact ((Blk.new w (wordsV (St.mk a b1 c d e f g h8).list) 142).alloc _).alloc _
  have hR0 : Blk (((w.alloc (.cells cs 142)).alloc (.cells cb 146)).alloc (.cells (wordsV (List.replicate 8 0)).toArray 142)) (w.heap.size + 1 + 1) (wordsV (List.replicate 8 0)) 142 := by
    have := Blk.new ((w.alloc (.cells cs 142)).alloc (.cells cb 146)) (wordsV (List.replicate 8 0)) 142
    rw [World.size_alloc, World.size_alloc] at this
    exact this
  have hz1 : w.heap.size + 1 + 1 < w1.heap.size := by have := hb1.size; simp at this; omega
  have hB1 : Below w.heap.size w (w1.alloc (.cells cw 156)) := (hB0.trans (hb1.mono (by simp; omega))).alloc (by omega) _
  have hW1 := ((hW0.below hb1).alloc (.cells cw 156))
  have hR1 := ((hR0.below hb1).alloc (.cells cw 156))
  have hX1 : Blk (w1.alloc (.cells cw 156)) w1.heap.size (wordsV (sched b 64)) 156 := by rw [← HCW.out]; exact Blk.new _ _ _
  have HT1 := Lib.hid (HT.out.below (w' := w1.alloc (.cells cw 156)) hB1)
  have hz2 : w1.heap.size < (w1.alloc (.cells cw 156)).heap.size := by simp
  clear hB0 hW0 hR0 hb1
  generalize w1.alloc (.cells cw 156) = w2 at hB1 hW1 hR1 hX1 HT1 hz2 ⊢
  generalize w1.heap.size = X at hX1 hz1 hz2 ⊢
  have c0 : w2.cell? ⟨w.heap.size, 0, none⟩ = some (.int .u32 (a : Int)) := wordsV_cell hW1 (j := 0) (show 0 < 8 from by decide)
  have c1 : w2.cell? ⟨w.heap.size, 1, none⟩ = some (.int .u32 (b1 : Int)) := wordsV_cell hW1 (j := 1) (show 1 < 8 from by decide)
  have c2 : w2.cell? ⟨w.heap.size, 2, none⟩ = some (.int .u32 (c : Int)) := wordsV_cell hW1 (j := 2) (show 2 < 8 from by decide)
  have c3 : w2.cell? ⟨w.heap.size, 3, none⟩ = some (.int .u32 (d : Int)) := wordsV_cell hW1 (j := 3) (show 3 < 8 from by decide)
  have c4 : w2.cell? ⟨w.heap.size, 4, none⟩ = some (.int .u32 (e : Int)) := wordsV_cell hW1 (j := 4) (show 4 < 8 from by decide)
  have c5 : w2.cell? ⟨w.heap.size, 5, none⟩ = some (.int .u32 (f : Int)) := wordsV_cell hW1 (j := 5) (show 5 < 8 from by decide)
  have c6 : w2.cell? ⟨w.heap.size, 6, none⟩ = some (.int .u32 (g : Int)) := wordsV_cell hW1 (j := 6) (show 6 < 8 from by decide)
  have c7 : w2.cell? ⟨w.heap.size, 7, none⟩ = some (.int .u32 (h8 : Int)) := wordsV_cell hW1 (j := 7) (show 7 < 8 from by decide)
  go_quiet (fail)
  have hB2 := below_drewN hB1 nq
  have hW2 := hW1.drewN nq
  have hR2 := hR1.drewN nq
  have hX2 := hX1.drewN nq
  have HT2 : Hid (Tab (w2.drewN nq)) := HT1
  have hz3 : X < (w2.drewN nq).heap.size := hz2
  clear c0 c1 c2 c3 c4 c5 c6 c7 hB1 hW1 hR1 hX1 HT1 hz2
  generalize w2.drewN nq = w3 at hB2 hW2 hR2 hX2 HT2 hz3 ⊢
  clear ha0 hb0 hc0 hd0 he0 hf0 hg0 hh0
  have HLl := Lib.hid (sched_length b 64)
  have HLt := Lib.hid (sched_lt (b := b) HB.out H8.out 64)
  obtain ⟨L, HL0⟩ : ∃ L, Hid (sched b 64 = L) := ⟨_, Lib.hid rfl⟩
  rw [HL0.out] at HLl HLt hX2
  obtain ⟨S0, HS0⟩ : ∃ S0, Hid (St.mk a b1 c d e f g h8 = S0) := ⟨_, Lib.hid rfl⟩
  rw [HS0.out] at hW2 HOK
  have HR' : Hid ((wordsV (S0.add (rounds L S0 64)).list).toArray = R) := Lib.hid (by rw [← HR.out, HS0.out, ← HL0.out]; rfl)
  clear HR
  go_wp2_with fail
  go_loopw [6, 7, 8, 9, 10, 11, 12, 13, 14, 15, 16, 37] (fun xa xb xc xd xe xf xg xh _ _ _ i wr => ∃ (k : Nat) (r : St), k ≤ 64 ∧ i = .int .i64 k ∧ xa = .int .u32 r.a ∧ xb = .int .u32 r.b ∧ xc = .int .u32 r.c ∧ xd = .int .u32 r.d ∧ xe = .int .u32 r.e ∧ xf = .int .u32 r.f ∧ xg = .int .u32 r.g ∧ xh = .int .u32 r.h ∧ Hid (rounds L S0 k = r) ∧
    Below w.heap.size w wr ∧ Blk wr w.heap.size (wordsV S0.list) 142 ∧ Blk wr (w.heap.size + 1 + 1) (wordsV (List.replicate 8 0)) 142 ∧ Blk wr X (wordsV L) 156 ∧ Hid (Tab wr)) (fun _ _ _ _ _ _ _ _ _ _ _ i _ => 64 - (intOf i).toNat)
  case atStart =>
    have := HS0.out
    subst this
    exact ⟨0, _, by omega, rfl, rfl, rfl, rfl, rfl, rfl, rfl, rfl, rfl, Lib.hid rfl, hB2, hW2, hR2, hX2, HT2⟩
  case round =>
    clear hB2 hW2 hR2 hX2 HT2 hz3
    obtain ⟨k, r, hk, rfl, rfl, rfl, rfl, rfl, rfl, rfl, rfl, rfl, HRe, hB2, hW2, hR2, hX2, HT2⟩ := hrel
    have hok := rounds_ok (L := L) HOK.out k
    rw [HRe.out] at hok
    obtain ⟨ra, rb, rc, rd, re, rf, rg, rh⟩ := r
    obtain ⟨ha0, hb0, hc0, hd0, he0, hf0, hg0, hh0⟩ := hok
    replace ha0 : ra < 4294967296 := ha0
    replace hb0 : rb < 4294967296 := hb0
    replace hc0 : rc < 4294967296 := hc0
    replace hd0 : rd < 4294967296 := hd0
    replace he0 : re < 4294967296 := he0
    replace hf0 : rf < 4294967296 := hf0
    replace hg0 : rg < 4294967296 := hg0
    replace hh0 : rh < 4294967296 := hh0
    by_cases hlt : k < 64
    · obtain ⟨kt, KT⟩ : ∃ x, Hid (kTab.getD k 0 = x) := ⟨_, Lib.hid rfl⟩
      obtain ⟨wk, WK⟩ : ∃ x, Hid (L.getD k 0 = x) := ⟨_, Lib.hid rfl⟩
      have hkt : kt < 4294967296 := by rw [← KT.out]; exact getD_lt kTab_lt (show k < kTab.length from hlt)
      have hwk : wk < 4294967296 := by rw [← WK.out]; exact getD_lt HLt.out (by rw [HLl.out]; exact hlt)
      have ck : wr.cell? ⟨1, k, none⟩ = some (.int .u32 (kt : Int)) := by rw [HT2.out.cell hlt, KT.out]
      have cw' : wr.cell? ⟨X, k, none⟩ = some (.int .u32 (wk : Int)) := by rw [wordsV_cell hX2 (by rw [HLl.out]; exact hlt), WK.out]
      have hr6 := rotr_lt (n := 6) he0
      have hr11 := rotr_lt (n := 11) he0
      have hr25 := rotr_lt (n := 25) he0
      obtain ⟨m1, M1⟩ : ∃ x, Hid (rotr re 6 ^^^ rotr re 11 = x) := ⟨_, Lib.hid rfl⟩
      have hm1 : m1 < 4294967296 := by rw [← M1.out]; exact Nat.xor_lt_two_pow (n := 32) hr6 hr11
      obtain ⟨m2, M2⟩ : ∃ x, Hid (m1 ^^^ rotr re 25 = x) := ⟨_, Lib.hid rfl⟩
      have hm2 : m2 < 4294967296 := by rw [← M2.out]; exact Nat.xor_lt_two_pow (n := 32) hm1 hr25
      obtain ⟨n1, N1⟩ : ∃ x, Hid ((rh + m2) % 4294967296 = x) := ⟨_, Lib.hid rfl⟩
      have hn1 : n1 < 4294967296 := by rw [← N1.out]; exact Nat.mod_lt _ (by decide)
      obtain ⟨p1, P1⟩ : ∃ x, Hid (re &&& rf = x) := ⟨_, Lib.hid rfl⟩
      have hp1 : p1 < 4294967296 := by rw [← P1.out]; exact Nat.lt_of_le_of_lt Nat.and_le_left he0
      obtain ⟨p2, P2⟩ : ∃ x, Hid (4294967295 ^^^ re = x) := ⟨_, Lib.hid rfl⟩
      have hp2 : p2 < 4294967296 := by rw [← P2.out]; exact Nat.xor_lt_two_pow (n := 32) (by decide) he0
      obtain ⟨p3, P3⟩ : ∃ x, Hid (p2 &&& rg = x) := ⟨_, Lib.hid rfl⟩
      have hp3 : p3 < 4294967296 := by rw [← P3.out]; exact Nat.lt_of_le_of_lt Nat.and_le_left hp2
      obtain ⟨p4, P4⟩ : ∃ x, Hid (p1 ^^^ p3 = x) := ⟨_, Lib.hid rfl⟩
      have hp4 : p4 < 4294967296 := by rw [← P4.out]; exact Nat.xor_lt_two_pow (n := 32) hp1 hp3
      obtain ⟨n2, N2⟩ : ∃ x, Hid ((n1 + p4) % 4294967296 = x) := ⟨_, Lib.hid rfl⟩
      have hn2 : n2 < 4294967296 := by rw [← N2.out]; exact Nat.mod_lt _ (by decide)
      obtain ⟨n3, N3⟩ : ∃ x, Hid ((n2 + kt) % 4294967296 = x) := ⟨_, Lib.hid rfl⟩
      have hn3 : n3 < 4294967296 := by rw [← N3.out]; exact Nat.mod_lt _ (by decide)
      obtain ⟨n4, N4⟩ : ∃ x, Hid ((n3 + wk) % 4294967296 = x) := ⟨_, Lib.hid rfl⟩
      have hn4 : n4 < 4294967296 := by rw [← N4.out]; exact Nat.mod_lt _ (by decide)
      have e1 : bits .xor .u32 (rotr re 6 : Int) (rotr re 11 : Int) = (m1 : Int) := by rw [u32_xor_nat _ _ hr6 hr11, M1.out]
      have e2 : bits .xor .u32 (m1 : Int) (rotr re 25 : Int) = (m2 : Int) := by rw [u32_xor_nat _ _ hm1 hr25, M2.out]
      have e3 : IntKind.u32.wrap ((rh : Int) + (m2 : Int)) = (n1 : Int) := by rw [IntKind.wrap_u32, ← N1.out]; omega
      have e4 : bits .and .u32 (re : Int) (rf : Int) = (p1 : Int) := by rw [u32_and_nat _ _ he0 hf0, P1.out]
      have e5 : bits .xor .u32 IntKind.u32.max (re : Int) = (p2 : Int) := by rw [← P2.out]; exact u32_xor_nat 4294967295 re (by decide) he0
      have e5' : bits .xor .u32 (if IntKind.u32.signed = true then -1 else IntKind.u32.max) (re : Int) = (p2 : Int) := e5
      have e6 : bits .and .u32 (p2 : Int) (rg : Int) = (p3 : Int) := by rw [u32_and_nat _ _ hp2 hg0, P3.out]
      have e7 : bits .xor .u32 (p1 : Int) (p3 : Int) = (p4 : Int) := by rw [u32_xor_nat _ _ hp1 hp3, P4.out]
      have e8 : IntKind.u32.wrap ((n1 : Int) + (p4 : Int)) = (n2 : Int) := by rw [IntKind.wrap_u32, ← N2.out]; omega
      have e9 : IntKind.u32.wrap ((n2 : Int) + (kt : Int)) = (n3 : Int) := by rw [IntKind.wrap_u32, ← N3.out]; omega
      have e10 : IntKind.u32.wrap ((n3 : Int) + (wk : Int)) = (n4 : Int) := by rw [IntKind.wrap_u32, ← N4.out]; omega
      have k1 : (0 : Int) ≤ (k : Int) := by omega
      have k2 : (k : Int) < 64 := by omega
      go_wp2_with fail
      go_quiet (first | (go_at_call_of 103 (Value.int .i64 6); exact Calls.quiet_of_same (right_at re 6 _ _ he0 rfl (by decide) (by decide))) | (go_at_call_of 103 (Value.int .i64 11); exact Calls.quiet_of_same (right_at re 11 _ _ he0 rfl (by decide) (by decide))) | (go_at_call_of 103 (Value.int .i64 25); exact Calls.quiet_of_same (right_at re 25 _ _ he0 rfl (by decide) (by decide))))
      have HTt : Hid (n4 = St.t ⟨ra, rb, rc, rd, re, rf, rg, rh⟩ kt wk) := Lib.hid (by
        rw [← N4.out, ← N3.out, ← N2.out, ← N1.out, ← P4.out, ← P3.out, ← P2.out, ← P1.out, ← M2.out, ← M1.out]
        simp only [St.t, bs1, chs, Nat.mod_add_mod])
      have hB3 := below_drewN hB2 nq
      have hW3 := hW2.drewN nq
      have hR3 := hR2.drewN nq
      have hX3 := hX2.drewN nq
      have HT3 : Hid (Tab (wr.drewN nq)) := HT2
      clear e1 e2 e3 e4 e5 e5' e6 e7 e8 e9 e10 hr6 hr11 hr25 hm1 hm2 hn1 hp1 hp2 hp3 hp4 hn2 hn3 ck cw' hB2 hW2 hR2 hX2 HT2
      generalize wr.drewN nq = w4 at hB3 hW3 hR3 hX3 HT3 ⊢
      have hr2 := rotr_lt (n := 2) ha0
      have hr13 := rotr_lt (n := 13) ha0
      have hr22 := rotr_lt (n := 22) ha0
      obtain ⟨m3, M3⟩ : ∃ x, Hid (rotr ra 2 ^^^ rotr ra 13 = x) := ⟨_, Lib.hid rfl⟩
      have hm3 : m3 < 4294967296 := by rw [← M3.out]; exact Nat.xor_lt_two_pow (n := 32) hr2 hr13
      obtain ⟨m4, M4⟩ : ∃ x, Hid (m3 ^^^ rotr ra 22 = x) := ⟨_, Lib.hid rfl⟩
      have hm4 : m4 < 4294967296 := by rw [← M4.out]; exact Nat.xor_lt_two_pow (n := 32) hm3 hr22
      obtain ⟨o1, O1⟩ : ∃ x, Hid (ra &&& rb = x) := ⟨_, Lib.hid rfl⟩
      have ho1 : o1 < 4294967296 := by rw [← O1.out]; exact Nat.lt_of_le_of_lt Nat.and_le_left ha0
      obtain ⟨o2, O2⟩ : ∃ x, Hid (ra &&& rc = x) := ⟨_, Lib.hid rfl⟩
      have ho2 : o2 < 4294967296 := by rw [← O2.out]; exact Nat.lt_of_le_of_lt Nat.and_le_left ha0
      obtain ⟨o3, O3⟩ : ∃ x, Hid (o1 ^^^ o2 = x) := ⟨_, Lib.hid rfl⟩
      have ho3 : o3 < 4294967296 := by rw [← O3.out]; exact Nat.xor_lt_two_pow (n := 32) ho1 ho2
      obtain ⟨o4, O4⟩ : ∃ x, Hid (rb &&& rc = x) := ⟨_, Lib.hid rfl⟩
      have ho4 : o4 < 4294967296 := by rw [← O4.out]; exact Nat.lt_of_le_of_lt Nat.and_le_left hb0
      obtain ⟨o5, O5⟩ : ∃ x, Hid (o3 ^^^ o4 = x) := ⟨_, Lib.hid rfl⟩
      have ho5 : o5 < 4294967296 := by rw [← O5.out]; exact Nat.xor_lt_two_pow (n := 32) ho3 ho4
      obtain ⟨u1, U1⟩ : ∃ x, Hid ((m4 + o5) % 4294967296 = x) := ⟨_, Lib.hid rfl⟩
      have hu1 : u1 < 4294967296 := by rw [← U1.out]; exact Nat.mod_lt _ (by decide)
      have e1 : bits .xor .u32 (rotr ra 2 : Int) (rotr ra 13 : Int) = (m3 : Int) := by rw [u32_xor_nat _ _ hr2 hr13, M3.out]
      have e2 : bits .xor .u32 (m3 : Int) (rotr ra 22 : Int) = (m4 : Int) := by rw [u32_xor_nat _ _ hm3 hr22, M4.out]
      have e3 : bits .and .u32 (ra : Int) (rb : Int) = (o1 : Int) := by rw [u32_and_nat _ _ ha0 hb0, O1.out]
      have e4 : bits .and .u32 (ra : Int) (rc : Int) = (o2 : Int) := by rw [u32_and_nat _ _ ha0 hc0, O2.out]
      have e5 : bits .xor .u32 (o1 : Int) (o2 : Int) = (o3 : Int) := by rw [u32_xor_nat _ _ ho1 ho2, O3.out]
      have e6 : bits .and .u32 (rb : Int) (rc : Int) = (o4 : Int) := by rw [u32_and_nat _ _ hb0 hc0, O4.out]
      have e7 : bits .xor .u32 (o3 : Int) (o4 : Int) = (o5 : Int) := by rw [u32_xor_nat _ _ ho3 ho4, O5.out]
      have e8 : IntKind.u32.wrap ((m4 : Int) + (o5 : Int)) = (u1 : Int) := by rw [IntKind.wrap_u32, ← U1.out]; omega
      have HU : Hid (u1 = St.u ⟨ra, rb, rc, rd, re, rf, rg, rh⟩) := Lib.hid (by
        rw [← U1.out, ← O5.out, ← O4.out, ← O3.out, ← O2.out, ← O1.out, ← M4.out, ← M3.out]
        rfl)
      obtain ⟨x1, X1⟩ : ∃ x, Hid ((n4 + u1) % 4294967296 = x) := ⟨_, Lib.hid rfl⟩
      obtain ⟨x2, X2⟩ : ∃ x, Hid ((rd + n4) % 4294967296 = x) := ⟨_, Lib.hid rfl⟩
      have e9 : IntKind.u32.wrap ((n4 : Int) + (u1 : Int)) = (x1 : Int) := by rw [IntKind.wrap_u32, ← X1.out]; omega
      have e10 : IntKind.u32.wrap ((rd : Int) + (n4 : Int)) = (x2 : Int) := by rw [IntKind.wrap_u32, ← X2.out]; omega
      go_wp2_with (first | (go_at_call_of 103 (Value.int .i64 2); refine (right_at ra 2 _ _ ha0 rfl (by decide) (by decide)).mono ?_; rintro e' w5 ⟨rfl, rfl⟩) | (go_at_call_of 103 (Value.int .i64 13); refine (right_at ra 13 _ _ ha0 rfl (by decide) (by decide)).mono ?_; rintro e' w5 ⟨rfl, rfl⟩) | (go_at_call_of 103 (Value.int .i64 22); refine (right_at ra 22 _ _ ha0 rfl (by decide) (by decide)).mono ?_; rintro e' w5 ⟨rfl, rfl⟩))
      refine ⟨⟨k + 1, St.step ⟨ra, rb, rc, rd, re, rf, rg, rh⟩ kt wk, by omega, by go_num, ?_, rfl, rfl, rfl, ?_, rfl, rfl, rfl, ?_, hB3, hW3, hR3, hX3, HT3⟩, by simp [intOf]; omega⟩
      · simp only [St.step]; rw [← HTt.out, ← HU.out, X1.out]
      · simp only [St.step]; rw [← HTt.out, X2.out]
      · exact Lib.hid (by rw [← KT.out, ← WK.out, ← HRe.out]; rfl)
    · obtain rfl : k = 64 := by omega
      clear hlt hk
      rw [show ((64 : Nat) : Int) = 64 from rfl]
      go_wp2_with fail
      obtain ⟨T, HTL⟩ : ∃ T, Hid ((St.mk ra rb rc rd re rf rg rh).list = T) := ⟨_, Lib.hid rfl⟩
      have HTl := Lib.hid (show ∀ x ∈ T, x < 4294967296 from by rw [← HTL.out]; exact list_lt ⟨ha0, hb0, hc0, hd0, he0, hf0, hg0, hh0⟩)
      have HTn := Lib.hid (show T.length = 8 from by rw [← HTL.out]; rfl)
      have HSl := Lib.hid (show ∀ x ∈ S0.list, x < 4294967296 from list_lt HOK.out)
      have HIX := Lib.hid (show ∀ k : Nat, k < 8 → ∀ w, (Instr.index 142 (.agg #[.int .u32 ra, .int .u32 rb, .int .u32 rc, .int .u32 rd, .int .u32 re, .int .u32 rf, .int .u32 rg, .int .u32 rh]) (.int .i64 k)).run Tryd.prog w = .ok (.int .u32 ((T.getD k 0 : Nat) : Int)) w from by rw [← HTL.out]; exact fun k hk w => index8 ra rb rc rd re rf rg rh k hk w)
      have HFin : Hid ((wordsV (addL S0.list T 8)).toArray = R) := Lib.hid (by rw [← HR'.out, HRe.out, ← HTL.out, addL_all])
      clear ha0 hb0 hc0 hd0 he0 hf0 hg0 hh0 HRe HTL HT2 hX2
      go_loopw [17, 18, 109] (fun _ _ i wr => ∃ k : Nat, k ≤ 8 ∧ i = .int .i64 k ∧ Below w.heap.size w wr ∧ Blk wr w.heap.size (wordsV (addL S0.list T k)) 142 ∧ Blk wr (w.heap.size + 1 + 1) (wordsV (List.replicate 8 0)) 142) (fun _ _ i _ => 8 - (intOf i).toNat)
      case atStart => exact ⟨0, by omega, rfl, hB2, hW2, hR2⟩
      case round =>
        clear hB2 hW2 hR2
        obtain ⟨k, hk, rfl, hB2, hW2, hR2⟩ := hrel
        by_cases hlt : k < 8
        · obtain ⟨x, X1⟩ : ∃ x, Hid (T.getD k 0 = x) := ⟨_, Lib.hid rfl⟩
          obtain ⟨o, O1⟩ : ∃ x, Hid (S0.list.getD k 0 = x) := ⟨_, Lib.hid rfl⟩
          have hx : x < 4294967296 := by rw [← X1.out]; exact getD_lt HTl.out (by rw [HTn.out]; exact hlt)
          have ho : o < 4294967296 := by rw [← O1.out]; exact getD_lt HSl.out (by rw [list_len]; exact hlt)
          have hix := HIX.out k hlt
          rw [X1.out] at hix
          obtain ⟨y, Y1⟩ : ∃ y, Hid ((o + x) % 4294967296 = y) := ⟨_, Lib.hid rfl⟩
          have e1 : IntKind.u32.wrap ((o : Int) + (x : Int)) = (y : Int) := by rw [IntKind.wrap_u32, ← Y1.out]; omega
          have c1 : wr.cell? ⟨w.heap.size, k, none⟩ = some (.int .u32 (o : Int)) := by rw [wordsV_cell hW2 (by rw [addL_length]; exact hlt), addL_get _ _ _ hlt, if_neg (by omega), O1.out]
          have c2 : wr.frozen? ⟨w.heap.size, k, none⟩ = false := hW2.frozen
          have k1 : (0 : Int) ≤ (k : Int) := by omega
          have k2 : (k : Int) < 8 := by omega
          go_wp2_with fail
          refine ⟨⟨k + 1, by omega, by go_num, hB2.setCell (by simp) _, ?_, Blk.setOther hR2 (by simp; omega) _⟩, by simp [intOf]; omega⟩
          have := hW2.set k (.int .u32 (y : Int))
          rw [wordsV_set, ← Y1.out, ← O1.out, ← X1.out, addL_set _ _ hlt, O1.out, X1.out, Y1.out] at this
          exact this
        · obtain rfl : k = 8 := by omega
          clear hlt hk
          rw [show ((8 : Nat) : Int) = 8 from rfl]
          have HSi := Lib.hid (show (Tryd.prog.info? 142).map (·.size) = some (wordsV (addL S0.list T 8)).toArray.size from by rw [show (wordsV (addL S0.list T 8)).toArray.size = 8 by simp [wordsV, addL_length]]; kernel_rfl)
          have HSz := Lib.hid (show (wordsV (List.replicate 8 0)).toArray.size = (wordsV (addL S0.list T 8)).toArray.size from by simp [wordsV, addL_length])
          go_wp2_with (first | (refine wpList_load_row rfl 142 _ rfl _ rfl 142 _ (0, 0) _ hW2 Tryd.underlying142 rfl HSi.out ?_) | (refine wpList_store_row rfl 142 _ _ rfl _ rfl 142 _ _ rfl hR2 HSi.out HSz.out (wordsV_one _) ?_))
          have hr := hR2.setRow (wordsV (addL S0.list T 8))
          refine bodyPost_ret (v := .agg (wordsV (addL S0.list T 8)).toArray) (results_cell_row rfl _ _ (w.heap.size + 1 + 1) 142 _ (0, 0) _ rfl hr Tryd.underlying142 rfl HSi.out) rfl ⟨?_, below_setRow hB2 (by omega) _⟩
          rw [HFin.out]
end Go.Proofs.YtpapfegbodolgaaDoor
