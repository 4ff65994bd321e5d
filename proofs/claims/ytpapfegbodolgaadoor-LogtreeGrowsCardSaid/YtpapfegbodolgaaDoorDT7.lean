/- WALKS: the code's sumOf. -/
import Derived.Test.YtpapfegbodolgaaDoorP5
set_option linter.unusedSimpArgs false
set_option linter.unusedVariables false
namespace Go.Proofs.YtpapfegbodolgaaDoor
open Go.RowKit Go.Shelf
attribute [local go_sem] Oper.semAt_some

set_option maxHeartbeats 400000 in
theorem blocks_in (n : Nat) (ad : Option Addr) (ln cp : Nat) (w : World) :
    CallsIn Fence.wide n Tryd.prog 92 #[.slice ad ln cp] w fun e w' => e = .returned (.func (.func 101) #[] #[.pointer (some ⟨w.heap.size, 0, none⟩)]) ∧ w' = w.alloc (.cells #[.slice ad ln cp] 39) := by
  refine callsIn_of_wp Tryd.func92 rfl trivial ?_ rfl
  simp only [Tryd.ntmps92, List.size_toArray, List.length_cons, List.length_nil, Nat.reduceAdd, Nat.reduceSub, Array.replicate_succ, Array.replicate_zero, List.push_toArray, List.append_toArray, List.nil_append, List.cons_append]
  gi_wp2
  go_ret
  exact ⟨rfl, rfl⟩

/-- The string of a list of numbers. -/
def strOf' (l : List Nat) : ByteArray := ⟨(l.map UInt8.ofNat).toArray⟩
theorem strOf'_nums {l : List Nat} (h : ∀ b ∈ l, b < 256) : nums (strOf' l) = l := by
  unfold nums strOf'
  simp only [List.map_map]
  conv => rhs; rw [← List.map_id l]
  apply List.map_congr_left
  intro a ha
  have := h a ha
  simp; omega
theorem strOf'_size (l : List Nat) : (strOf' l).size = l.length := by simp [strOf', ByteArray.size]
theorem bytes_len (s : St) : s.bytes.length = 32 := rfl
theorem bytes_get (s : St) : ∀ (i b : Nat), i < 8 → b < 4 → s.bytes.getD (4 * i + b) 0 = s.list.getD i 0 / 2 ^ (24 - 8 * b) % 256
  | 0, 0, _, _ => by simp [St.bytes, be4, St.list]
  | 0, 1, _, _ => by simp [St.bytes, be4, St.list]
  | 0, 2, _, _ => by simp [St.bytes, be4, St.list]
  | 0, 3, _, _ => by simp [St.bytes, be4, St.list]
  | 1, 0, _, _ => by simp [St.bytes, be4, St.list]
  | 1, 1, _, _ => by simp [St.bytes, be4, St.list]
  | 1, 2, _, _ => by simp [St.bytes, be4, St.list]
  | 1, 3, _, _ => by simp [St.bytes, be4, St.list]
  | 2, 0, _, _ => by simp [St.bytes, be4, St.list]
  | 2, 1, _, _ => by simp [St.bytes, be4, St.list]
  | 2, 2, _, _ => by simp [St.bytes, be4, St.list]
  | 2, 3, _, _ => by simp [St.bytes, be4, St.list]
  | 3, 0, _, _ => by simp [St.bytes, be4, St.list]
  | 3, 1, _, _ => by simp [St.bytes, be4, St.list]
  | 3, 2, _, _ => by simp [St.bytes, be4, St.list]
  | 3, 3, _, _ => by simp [St.bytes, be4, St.list]
  | 4, 0, _, _ => by simp [St.bytes, be4, St.list]
  | 4, 1, _, _ => by simp [St.bytes, be4, St.list]
  | 4, 2, _, _ => by simp [St.bytes, be4, St.list]
  | 4, 3, _, _ => by simp [St.bytes, be4, St.list]
  | 5, 0, _, _ => by simp [St.bytes, be4, St.list]
  | 5, 1, _, _ => by simp [St.bytes, be4, St.list]
  | 5, 2, _, _ => by simp [St.bytes, be4, St.list]
  | 5, 3, _, _ => by simp [St.bytes, be4, St.list]
  | 6, 0, _, _ => by simp [St.bytes, be4, St.list]
  | 6, 1, _, _ => by simp [St.bytes, be4, St.list]
  | 6, 2, _, _ => by simp [St.bytes, be4, St.list]
  | 6, 3, _, _ => by simp [St.bytes, be4, St.list]
  | 7, 0, _, _ => by simp [St.bytes, be4, St.list]
  | 7, 1, _, _ => by simp [St.bytes, be4, St.list]
  | 7, 2, _, _ => by simp [St.bytes, be4, St.list]
  | 7, 3, _, _ => by simp [St.bytes, be4, St.list]
  | i + 8, _, h, _ => by omega
  | _, b + 4, _, h => by omega
def sumL (l : List Nat) (q : Nat) : List Nat := l.take q ++ List.replicate (32 - q) 0
theorem sumL_zero (l : List Nat) : sumL l 0 = List.replicate 32 0 := by simp [sumL]
theorem sumL_all (l : List Nat) (h : l.length = 32) : sumL l 32 = l := by simp [sumL, List.take_of_length_le, h]
theorem sumL_length (l : List Nat) {q : Nat} (h : l.length = 32) (hq : q ≤ 32) : (sumL l q).length = 32 := by simp [sumL]; omega
theorem sumL_set (l : List Nat) {q : Nat} (h : l.length = 32) (hq : q < 32) : (sumL l q).set q (l.getD q 0) = sumL l (q + 1) := by
  have h1 : l.take (q + 1) = l.take q ++ [l.getD q 0] := by
    rw [List.take_add_one, List.getElem?_eq_getElem (by omega), List.getD_eq_getElem?_getD, List.getElem?_eq_getElem (by omega)]
    rfl
  unfold sumL
  rw [List.set_append_right _ _ (by simp; omega), show q - (l.take q).length = 0 by simp; omega, show 32 - q = (32 - (q + 1)) + 1 by omega, List.replicate_succ, List.set_cons_zero, h1]
  simp
theorem slice64_all (w : World) (B : Nat) : (Instr.sliceAt 148 (.pointer (some ⟨B, 0, none⟩)) none none none).run Tryd.prog w = .ok (.slice (some ⟨B, 0, none⟩) 32 32) w := by
  have h : (⟨B, 0, none⟩ : Addr).add 0 = ⟨B, 0, none⟩ := by unfold Addr.add; split <;> simp_all
  simp [Instr.sliceAt, Instr.sureAddr, run_underlying Tryd.underlying148, Instr.sliceBounds, size5, h]
set_option maxRecDepth 100000 in
theorem bytes_text {w : World} {B n : Nat} {l : List Nat} {T : TypeId} (h : Blk w B (bytesV l) T) (hn : l.length = n) (cap : Nat) :
    (convert 67 9 (.slice (some ⟨B, 0, none⟩) n cap)).run Tryd.prog w = .ok (.string (strOf' l)) w := by
  subst hn
  have := run_convert_bytes_arg (P := Tryd.prog) w 67 5 Tryd.underlying67 Tryd.underlying5 B 0 l.length cap (l.map fun (b : Nat) => (b : Int)) (by simp)
    (fun i hi => by rw [Nat.zero_add, bytesV_cell h hi]; simp [List.getD, hi]) 9 Tryd.underlying9
  rw [this]
  congr 2
  simp [strOfNums, strOf', List.map_map, Function.comp_def]
theorem bytes_lt (s : St) : ∀ x ∈ s.bytes, x < 256 := by
  intro x hx
  simp only [St.bytes, be4, List.mem_append, List.mem_cons, List.not_mem_nil, or_false] at hx
  rcases hx with ((((((hx | hx) | hx) | hx) | hx) | hx) | hx) | hx <;> rcases hx with rfl | rfl | rfl | rfl <;> exact Nat.mod_lt _ (by decide)
theorem nums_lt (s : ByteArray) : ∀ b ∈ nums s, b < 256 := by
  intro b hb
  obtain ⟨c, _, rfl⟩ := List.mem_map.1 hb
  exact c.toNat_lt
theorem flat_lt (l : List ByteArray) : ∀ b ∈ (l.map nums).flatten, b < 256 := by
  intro b hb
  simp only [List.mem_flatten, List.mem_map] at hb
  obtain ⟨_, ⟨s, _, rfl⟩, hb⟩ := hb
  exact nums_lt s b hb
theorem start_ok : start.ok := by unfold St.ok start; decide
theorem blocks_ok (x : List Nat) (c : Nat) : (blocks x c).ok := by
  cases c with
  | zero => exact start_ok
  | succ c => exact add_ok _ _
set_option maxRecDepth 100000 in
set_option maxHeartbeats 1000000 in
theorem sumOf_any (parts : List ByteArray) (ps pc : Nat) (w : World) (hX : (parts.map nums).flatten.length ≤ 1000000000000) (hpl : parts.length ≤ 1000000) (hT : Tab w) (hps : Texts w ps 0 parts) :
    Calls Tryd.prog 77 #[.slice (some ⟨ps, 0, none⟩) parts.length pc] w fun e W' => e = .returned (.string (strOf' (sha (parts.map nums).flatten))) ∧ Below w.heap.size w W' := by
  obtain ⟨X, HX⟩ : ∃ X, Hid ((parts.map nums).flatten = X) := ⟨_, Lib.hid rfl⟩
  have HX8 := Lib.hid (flat_lt parts)
  obtain ⟨Z, HZ⟩ : ∃ Z, Hid (pad X = Z) := ⟨_, Lib.hid rfl⟩
  obtain ⟨NB, HNB⟩ : ∃ NB, Hid (Z.length / 64 = NB) := ⟨_, Lib.hid rfl⟩
  have HZ8 := Lib.hid (show ∀ x ∈ Z, x < 256 from by rw [← HZ.out, ← HX.out]; exact pad_lt HX8.out)
  have HZ64 := Lib.hid (show ∀ c, c < NB → (chunk Z c).length = 64 from fun c hc => chunk_len Z c (by have := pad_blocks X; rw [HZ.out, HNB.out] at this; omega))
  have HR : Hid (strOf' (sha (parts.map nums).flatten) = strOf' (blocks Z NB).bytes) := Lib.hid (by rw [HX.out, ← HNB.out, ← HZ.out]; rfl)
  obtain ⟨RES, HRES⟩ : ∃ RES, Hid (strOf' (blocks Z NB).bytes = RES) := ⟨_, Lib.hid rfl⟩
  rw [HR.out, HRES.out]
  refine (callsIn_wide (n := 6)).1 ?_
  refine callsIn_of_wp_marks Tryd.func77 rfl trivial ?_ rfl
  simp only [Tryd.ntmps77, List.size_toArray, List.length_cons, List.length_nil, Nat.reduceAdd, Nat.reduceSub, Array.replicate_succ, Array.replicate_zero, List.push_toArray, List.append_toArray, List.nil_append, List.cons_append]
  obtain ⟨t0, f0, t1, f1, hg0, hg1⟩ := id hT
  obtain ⟨ci, HCI⟩ : ∃ ci, Hid ((wordsV start.list).toArray = ci) := ⟨_, Lib.hid rfl⟩
  rw [HCI.out] at hg0
  have HS58 := Lib.hid (show (Tryd.prog.info? 142).map (·.size) = some ci.size from by rw [← HCI.out]; kernel_rfl)
  have HO58 := Lib.hid (show ci.all (·.oneCell') = true from by rw [← HCI.out]; exact wordsV_one _)
  have HZ58 := Lib.hid (show ci.size = 8 from by rw [← HCI.out]; rfl)
  have HG0 := Lib.hid hg0
  have HT := Lib.hid hT
  have hpsz : ps < w.heap.size := by obtain ⟨cs, t, f, hc, _⟩ := hps; exact (Array.getElem?_eq_some_iff.1 hc).1
  have hsz2 := hT.lt
  clear hg0 hg1 hT
  gi_wp2_with (first | (refine wpListIn_load_row rfl 142 _ rfl 0 rfl t0 ci f0 _ HG0.out Tryd.underlying142 rfl HS58.out ?_) | (refine wpListIn_store_row rfl 142 _ _ rfl w.heap.size rfl 142 _ ci rfl (heap_alloc_new _ _) HS58.out (by rw [HZ58.out]; rfl) HO58.out ?_) | (refine ⟨trivial, ?_⟩; gi_at_call 92; refine (blocks_in _ _ _ _ _).mono ?_; rintro e w' ⟨rfl, rfl⟩))
  rw [World.setRow_alloc_new]
  have hBc : Below w.heap.size w ((w.alloc (.cells ci 142)).alloc (.cells #[.slice (some ⟨ps, 0, none⟩) parts.length pc] 39)) := ((Below.refl _ w).alloc (Nat.le_refl _) _).alloc (by simp) _
  have hWc : Blk ((w.alloc (.cells ci 142)).alloc (.cells #[.slice (some ⟨ps, 0, none⟩) parts.length pc] 39)) w.heap.size (wordsV start.list) 142 := by rw [← HCI.out]; exact (Blk.new w (wordsV start.list) 142).alloc _
  have hPc : ((w.alloc (.cells ci 142)).alloc (.cells #[.slice (some ⟨ps, 0, none⟩) parts.length pc] 39)).heap[w.heap.size + 1]? = some (.cells #[.slice (some ⟨ps, 0, none⟩) parts.length pc] 39 (0, 0)) := by
    have := heap_alloc_new (w.alloc (.cells ci 142)) (.cells #[.slice (some ⟨ps, 0, none⟩) parts.length pc] 39)
    rwa [World.size_alloc] at this
  have hTc : Texts ((w.alloc (.cells ci 142)).alloc (.cells #[.slice (some ⟨ps, 0, none⟩) parts.length pc] 39)) ps 0 parts := hps.kp (Bw := w.heap.size) (by omega) (KpB.of_below hBc)
  have hzc : ((w.alloc (.cells ci 142)).alloc (.cells #[.slice (some ⟨ps, 0, none⟩) parts.length pc] 39)).heap.size = w.heap.size + 1 + 1 := by simp
  generalize (w.alloc (.cells ci 142)).alloc (.cells #[.slice (some ⟨ps, 0, none⟩) parts.length pc] 39) = wc at hBc hWc hPc hTc hzc ⊢
  have hseq : SeqN Fence.wide 5 Tryd.prog 101 #[.pointer (some ⟨w.heap.size + 1, 0, none⟩)] (fun c => encB (chunk Z c)) (KpB w.heap.size) NB wc := fun l J W hW hJ hY h0 => by
    have hNB : (pad (parts.map nums).flatten).length / 64 = NB := by rw [HX.out, HZ.out, HNB.out]
    have := blocks1_in 5 (by omega) l (w.heap.size + 1) w.heap.size ps pc parts hX hpl J W hJ (by rw [hNB, HX.out, HZ.out]; exact hY) ((hW.block _ (by omega)).trans hPc) (by omega) (hTc.kp (Bw := w.heap.size) (by omega) (KpB.of_below hW)) (by omega) (by have := hW.size; omega) h0
    rw [hNB] at this
    exact this
  have HSQ := Lib.hid hseq
  clear hseq hPc hTc hX hpl
  refine rangeFunc_any rfl (by omega) (gf := 101) (lb := #[.pointer (some ⟨w.heap.size + 1, 0, none⟩)]) rfl trivial (enters_of Tryd.func101 (by kernel_rfl) rfl)
    HSQ.out (Below.refl _ _) (fun _ => rfl)
    (fun c W => Blk W w.heap.size (wordsV (blocks Z c).list) 142 ∧ Below w.heap.size w W)
    ((bears_block (by omega) _).and (bears_below (by omega) (Nat.le_refl _)))
    ⟨hWc, hBc⟩
    (fun c a' W => ∃ g, a' = { tmps := #[.slice (some ⟨ps, 0, none⟩) parts.length pc, undef, .string ⟨#[]⟩, .pointer (some ⟨w.heap.size, 0, none⟩), .pointer (some ⟨g, 0, none⟩), undef, undef, undef, undef, .agg ci, .slice (some ⟨ps, 0, none⟩) parts.length pc, .func (.func 101) #[] #[.pointer (some ⟨w.heap.size + 1, 0, none⟩)], .agg (bytesV (chunk Z c)).toArray, undef, undef, undef, undef, undef, undef, undef, undef, undef, undef, undef, undef, undef, undef, undef, undef, undef, undef, undef, undef, undef, undef, undef, undef, undef, undef], defers := [] } ∧ Blk W g (bytesV (chunk Z c)) 146 ∧ w.heap.size < g)
    ?hAx ?hassign ?hbody ?hdone
  case hAx =>
    rintro c a' W l o o' hl ho ⟨g, rfl, hg, hlt⟩
    exact ⟨g, rfl, (KpB.putObj (Bw := g + 1) W l o o' hl ho).cells _ _ _ _ (by omega) hg, hlt⟩
  case hassign =>
    intro l c W K hI hN hz hK
    have HC := HZ64.out c hN
    have HS62 := Lib.hid (show (Tryd.prog.info? 146).map (·.size) = some (bytesV (chunk Z c)).toArray.size from by rw [show (bytesV (chunk Z c)).toArray.size = 64 by simp [bytesV, HC]]; kernel_rfl)
    have HSz := Lib.hid (show (bytesV (chunk Z c)).toArray.size = 64 from by simp [bytesV, HC])
    have HK := Lib.hid hK
    clear hK HC
    unfold encB
    gi_wp2_with (refine wpListIn_store_row rfl 146 _ _ rfl W.heap.size rfl 146 _ _ rfl (heap_alloc_new _ _) HS62.out (by rw [HSz.out]; rfl) (bytesV_one _) ?_)
    rw [World.setRow_alloc_new]
    exact HK.out _ _ ((KeepsOthers.alloc _ _).from _) (KpB.of_below (Below.alloc (Below.refl _ _) (Nat.le_refl _) _)) ⟨hI.1.alloc _, hI.2.alloc hI.2.size _⟩ ⟨W.heap.size, rfl, Blk.new _ _ _, by omega⟩
  case hbody =>
    rintro l c a' W ⟨hw, hB⟩ ⟨g, rfl, hg, hlt⟩ hN hz
    have HC := Lib.hid (HZ64.out c hN)
    have HS62 := Lib.hid (show (Tryd.prog.info? 146).map (·.size) = some (bytesV (chunk Z c)).toArray.size from by rw [show (bytesV (chunk Z c)).toArray.size = 64 by simp [bytesV, HC.out]]; kernel_rfl)
    have HS8 := Lib.hid (show ∀ s : St, (Tryd.prog.info? 142).map (·.size) = some (wordsV s.list).toArray.size from fun s => by rw [show (wordsV s.list).toArray.size = 8 by simp [wordsV, list_len]]; kernel_rfl)
    have HTW := Lib.hid (HT.out.below hB)
    have HSz := Lib.hid (show (wordsV (blocks Z c).list).toArray.size = (wordsV (compress (blocks Z c) (chunk Z c)).list).toArray.size from by simp [wordsV, list_len])
    have HM := Lib.hid (mix_any (blocks Z c) (blocks_ok Z c) (chunk Z c) HC.out (chunk_lt HZ8.out c) W HTW.out)
    gi_wp2_with (first | (refine wpListIn_load_row rfl 142 _ rfl w.heap.size rfl 142 _ (0, 0) _ hw Tryd.underlying142 rfl (HS8.out _) ?_) | (refine wpListIn_load_row rfl 146 _ rfl g rfl 146 _ (0, 0) _ hg Tryd.underlying146 rfl HS62.out ?_) | (refine ⟨trivial, ?_⟩; gi_at_call 93; refine (callsIn_wide.2 HM.out).mono ?_; rintro e w5 ⟨rfl, hb5⟩) | (refine wpListIn_store_row rfl 142 _ _ rfl w.heap.size rfl 142 _ _ rfl (hw.below hb5) (HS8.out _) HSz.out (wordsV_one _) ?_))
    have hw5 := hw.below hb5
    refine ⟨⟨Nat.le_trans hb5.size (by simp), fun k o hk hko ho => ?_⟩, (KpB.of_below hb5).trans (KpB.setRow _ _), hw5.setRow _, below_setRow (hB.trans (hb5.mono hB.size)) (Nat.le_refl _) _⟩
    exact (setRow_other _ _ _ _ (by omega)).trans ((hb5.block k (Array.getElem?_eq_some_iff.1 hko).1).trans hko)
  case hdone =>
    rintro D W hD ⟨hw, hB⟩ hK
    have HS8 := Lib.hid (show ∀ s : St, (Tryd.prog.info? 142).map (·.size) = some (wordsV s.list).toArray.size from fun s => by rw [show (wordsV s.list).toArray.size = 8 by simp [wordsV, list_len]]; kernel_rfl)
    obtain ⟨F, HF⟩ : ∃ F, Hid (blocks Z NB = F) := ⟨_, Lib.hid rfl⟩
    rw [HF.out] at hw
    have HK := Lib.hid hK
    have HDD := Lib.hid hD
    clear hK hD
    gi_wp2_with (refine wpListIn_load_row rfl 142 _ rfl w.heap.size rfl 142 _ (0, 0) _ (hw.alloc _) Tryd.underlying142 rfl (HS8.out _) ?_)
    have hWz := hB.size
    have hDz : D < W.heap.size := (Array.getElem?_eq_some_iff.1 HK.out).1
    have HIX := Lib.hid (show ∀ k : Nat, k < 8 → ∀ w, (Instr.index 142 (.agg (wordsV F.list).toArray) (.int .i64 k)).run Tryd.prog w = .ok (.int .u32 ((F.list.getD k 0 : Nat) : Int)) w from by
      obtain ⟨fa, fb, fc, fd, fe, ff, fg, fh⟩ := F
      exact fun k hk w => index8 fa fb fc fd fe ff fg fh k hk w)
    have HFl := Lib.hid (show ∀ x ∈ F.list, x < 4294967296 from list_lt (by rw [← HF.out]; exact blocks_ok Z NB))
    obtain ⟨cf, HCF⟩ : ∃ cf, Hid ((wordsV F.list).toArray = cf) := ⟨_, Lib.hid rfl⟩
    rw [HCF.out] at HIX ⊢
    gi_loopw [6, 7, 8, 17] (fun _ _ _ i wr => ∃ k : Nat, k ≤ 8 ∧ i = .int .i64 k ∧ Below w.heap.size w wr ∧ Blk wr W.heap.size (bytesV (sumL F.bytes (4 * k))) 148 ∧ Hid (wr.heap[D]? = some (.deferred (some [])))) (fun _ _ _ i _ => 8 - (intOf i).toNat)
    case atStart =>
      refine ⟨0, by omega, rfl, hB.alloc hB.size _, ?_, Lib.hid ((Below.heap_alloc _ _ _ hDz).trans HK.out)⟩
      have := Blk.new W (bytesV (List.replicate 32 0)) 148
      rw [← sumL_zero F.bytes] at this
      exact this
    case round =>
      clear hB hw
      obtain ⟨k, hk, rfl, hB, hS, HDw⟩ := hrel
      by_cases hlt : k < 8
      · have hix := HIX.out k hlt
        obtain ⟨x, HXk⟩ : ∃ x, Hid (F.list.getD k 0 = x) := ⟨_, Lib.hid rfl⟩
        rw [HXk.out] at hix
        have hx : x < 4294967296 := by rw [← HXk.out]; exact getD_lt HFl.out (by rw [list_len]; exact hlt)
        gi_wp2
        obtain ⟨wo, rfl⟩ : ∃ wo : World, wo = wr := ⟨_, rfl⟩
        gi_loopw [8, 21] (fun _ b wr => ∃ j : Nat, j ≤ 4 ∧ b = .int .i64 j ∧ Below w.heap.size w wr ∧ Blk wr W.heap.size (bytesV (sumL F.bytes (4 * k + j))) 148 ∧ Hid (wr.heap[D]? = some (.deferred (some [])))) (fun _ b _ => 4 - (intOf b).toNat)
        case atStart => exact ⟨0, by omega, rfl, hB, hS, HDw⟩
        case round =>
          clear hB hS HDw
          obtain ⟨j, hj, rfl, hB, hS, HDw⟩ := hrel
          by_cases hjlt : j < 4
          · have ck : wr.cell? ⟨W.heap.size, 4 * k + j, none⟩ = some (.int .u8 (((sumL F.bytes (4 * k + j)).getD (4 * k + j) 0 : Nat) : Int)) := bytesV_cell hS (by rw [sumL_length _ (bytes_len F) (by omega)]; omega)
            have fk : wr.frozen? ⟨W.heap.size, 4 * k + j, none⟩ = false := hS.frozen
            have k1 : (0 : Int) ≤ 4 * (k : Int) + (j : Int) := by omega
            have k2 : 4 * (k : Int) + (j : Int) < 32 := by omega
            have k3 : (0 : Int) ≤ 24 - 8 * (j : Int) := by omega
            gi_wp2
            have hset := hS.set (4 * k + j) (.int .u8 ((x / 2 ^ (24 - 8 * j) % 256 : Nat) : Int))
            rw [bytesV_set, ← HXk.out, ← bytes_get F k j hlt hjlt, sumL_set _ (bytes_len F) (by omega), bytes_get F k j hlt hjlt, HXk.out] at hset
            rw [show ((x / 2 ^ (24 - 8 * j) % 256 : Nat) : Int) = (x : Int) / 2 ^ (24 - 8 * j) % 256 from by rw [Int.natCast_emod, Int.natCast_ediv, Int.natCast_pow]; rfl] at hset
            exact ⟨⟨j + 1, by omega, by go_num, hB.setCell (by simp; omega) _, hset, Lib.hid ((Below.heap_setCell _ _ _ _ (by simp; omega)).trans HDw.out)⟩, by simp [intOf]; omega⟩
          · obtain rfl : j = 4 := by omega
            gi_wp2
            exact ⟨⟨k + 1, by omega, by go_num, hB, hS, HDw⟩, by simp [intOf]; omega⟩
      · obtain rfl : k = 8 := by omega
        rw [show 4 * 8 = 32 from rfl, sumL_all _ (bytes_len F)] at hS
        have hsl := slice64_all wr W.heap.size
        have hcv := bytes_text hS (bytes_len F) 32
        rw [HF.out] at HRES
        rw [show ((8 : Nat) : Int) = 8 from rfl]
        gi_wp2
        refine ⟨by simp, .inl ⟨_, _, rfl, run_takeDeferred HDw.out, ?_⟩⟩
        exact ⟨.string (strOf' F.bytes), by simp [results, Tryd.f77, go_sem], by rw [HRES.out], hB.trans (belowK_b (w := w) (Nat.le_refl _) wr D _ _ (by have := HDD.out; omega) HDw.out rfl rfl)⟩
end Go.Proofs.YtpapfegbodolgaaDoor
