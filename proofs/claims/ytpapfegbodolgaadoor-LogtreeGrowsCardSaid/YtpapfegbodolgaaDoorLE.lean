/- WALKS: the iterator over the encodings of heads; leaves. -/
import Derived.Test.YtpapfegbodolgaaDoorLA
import Derived.Test.YtpapfegbodolgaaDoorP1
import Derived.Lib.BufferOwn
import Derived.Laws.MakeOwn
set_option linter.unusedVariables false
set_option linter.unnecessarySimpa false
set_option linter.unusedSimpArgs false
namespace Go.Proofs.YtpapfegbodolgaaDoor
open Go.RowKit Go.Sort
attribute [local go_sem] Oper.semAt_some

def encHs (H : List MHead) : List ByteArray := H.map encH
theorem encHs_len (H : List MHead) : (encHs H).length = H.length := by simp [encHs]
theorem encHs_get (H : List MHead) (k : Nat) (hk : k < H.length) : (encHs H).take (k + 1) = (encHs H).take k ++ [encH (H.getD k hdZ)] := by
  rw [List.take_succ_eq_append_getElem (by rw [encHs_len]; exact hk)]
  simp [encHs, List.getD_eq_getElem?_getD, hk]
theorem grown_below {w w' : World} (h : Below w.heap.size w w') : w.grownBy w' none := Lib.grownBy_below (row := none) ⟨rfl, rfl, rfl, Nat.le_refl _, fun _ _ _ => rfl⟩ h

def encB9 (x : ByteArray) : Array Value := #[.string x]
set_option maxRecDepth 100000 in
set_option maxHeartbeats 4000000 in
theorem enc1_in (n : Nat) (hn : 1 ≤ n) (l Bp : Nat) (v : Value) (H : List MHead) (w0 : World) (hS : HdS w0 v H) (hok : ∀ i, i < H.length → Hok (H.getD i hdZ)) (hl : H.length ≤ 20000) (J Jx : List ByteArray → World → Prop) (W : World) (hb0 : Below w0.heap.size w0 W) (hJ : AbidesFrom W.heap.size J)
    (hY : ∀ pre x W1, J pre W1 → pre.length < H.length → YieldAt Fence.wide (n - 1) Tryd.prog l (encB9 x) W1 fun e W' => (e = .returned (.bool true) ∧ J (pre ++ [x]) W' ∧ Below w0.heap.size W1 W') ∨ (e = .returned (.bool false) ∧ Jx (pre ++ [x]) W'))
    (hBp : W.cell? ⟨Bp, 0, none⟩ = some v) (h0 : J [] W) :
    CallsIn Fence.wide n Tryd.prog 81 #[.func (.yield l) #[] #[], .pointer (some ⟨Bp, 0, none⟩)] W fun e W' => (∃ v, e = .returned v) ∧ ((∃ ys, ys = encHs H ∧ J ys W') ∨ (∃ pre, pre <+: encHs H ∧ Jx pre W')) := by
  have HS := Lib.hid hS
  have HOK := Lib.hid hok
  have HY := Lib.hid hY
  have HJ := Lib.hid hJ
  obtain ⟨ha, hn1, hcap, rfl, hnl, hc1, hc2, -⟩ := hS
  have HN := Lib.hid hnl
  have hn4 : hn1 ≤ 20000 := by omega
  have hz0 : w0.heap.size ≤ W.heap.size := hb0.size
  have HB0 := Lib.hid hb0
  have HJx : Hid (∀ pre W1 W2, J pre W1 → W.heap.size ≤ W1.heap.size → Below W1.heap.size W1 W2 → J pre W2) := Lib.hid (fun pre W1 W2 h _ hb => HJ.out _ _ _ none h (grown_below hb) (fun r e => by cases e))
  clear hY hJ hok hnl hl hb0
  refine callsIn_of_wp Tryd.func81 rfl trivial ?_ rfl
  simp only [Tryd.ntmps81, List.size_toArray, List.length_cons, List.length_nil, Nat.reduceAdd, Nat.reduceSub, Array.replicate_succ, Array.replicate_zero, List.push_toArray, List.append_toArray, List.nil_append, List.cons_append]
  gi_wp2
  gi_loopw [7] (fun i wr => ∃ k : Nat, k ≤ hn1 ∧ i = .int .i64 k ∧ J ((encHs H).take k) wr ∧ Hid (Below w0.heap.size w0 wr) ∧ Hid (W.heap.size ≤ wr.heap.size)) (fun i _ => hn1 - (intOf i).toNat)
  case atStart => exact ⟨0, Nat.zero_le _, rfl, by simpa using h0, HB0, Lib.hid (Nat.le_refl _)⟩
  case round =>
    obtain ⟨k, hk, rfl, hJk, HB, HZ⟩ := hrel
    by_cases hlt : k < hn1
    · obtain ⟨_, _, _, e1, -, -, -, hcell⟩ := HS.out.below HB.out
      simp at e1
      obtain ⟨rfl, rfl, rfl⟩ := e1
      obtain ⟨vb, vo, rfl, hvb, hcs⟩ := hcell (by omega)
      obtain ⟨y0, y1, y2⟩ := hcs k hlt
      have hkH : k < H.length := by have := HN.out; omega
      have HK := Lib.hid (HOK.out k hkH)
      have HT := Lib.hid (encHs_get H k hkH)
      have HPl : Hid (((encHs H).take k).length < H.length) := Lib.hid (by rw [List.length_take, encHs_len]; omega)
      obtain ⟨x, Hx⟩ : ∃ x, Hid (H.getD k hdZ = x) := ⟨_, Lib.hid rfl⟩
      rw [Hx.out] at y0 y1 y2 HK HT
      obtain ⟨xp, xc, xs⟩ := x
      simp only at y0 y1 y2
      obtain ⟨eh, Heh⟩ : ∃ eh, Hid (encH ⟨xp, xc, xs⟩ = eh) := ⟨_, Lib.hid rfl⟩
      have HE : Hid (∀ W', Calls Tryd.prog 34 #[.agg #[.int .i64 xp, .string xc, .string xs]] W' fun e w' => e = .returned (.string eh) ∧ Below W'.heap.size W' w') := Lib.hid (fun W' => by rw [← Heh.out]; exact encode_c ⟨xp, xc, xs⟩ W' HK.out)
      rw [Heh.out] at HT
      have HJk := Lib.hid hJk
      clear hcell hcs Hx HK hkH hJk Heh
      have HF : Hid ((wr.alloc (.cells #[.int .i64 xp, .string xc, .string xs] 23)).heap[wr.heap.size]? = some (.cells #[.int .i64 xp, .string xc, .string xs] 23 (0, 0))) := Lib.hid (heap_alloc_new wr _)
      gi_wp2_with (first
        | (refine wpListIn_load_row rfl 23 _ rfl wr.heap.size rfl 23 _ _ _ HF.out Tryd.underlying23 rfl (by kernel_rfl) ?_)
        | (refine ⟨trivial, ?_⟩; gi_at_call 34; refine (callsIn_wide.2 (HE.out _)).mono ?_; rintro e w5 ⟨rfl, hb5⟩; have HB5 := Lib.hid (bt (ba wr (.cells #[.int .i64 xp, .string xc, .string xs] 23)) hb5); have HJ5 := Lib.hid (HJx.out _ _ _ HJk.out HZ.out HB5.out); obtain ⟨fn, tmps, assign, body, hy, hR⟩ := HY.out _ eh w5 HJ5.out HPl.out; have HRi := Lib.hid hR; clear hR hb5; dsimp only [encB9] at hy))
      refine HRi.out.mono ?_
      clear hy
      rintro e W3 (⟨rfl, hJ3, hk3⟩ | ⟨rfl, hJx3⟩)
      · have hz5 := HB5.out.size
        have hz3 := hk3.size
        have hzz := HZ.out
        gi_wp2
        go_roundw
        case rel => exact ⟨k + 1, by omega, by go_num, by rw [HT.out]; exact hJ3, Lib.hid ((bt HB.out HB5.out).trans hk3), Lib.hid (by omega)⟩
        case measure => simp [intOf]; omega
      · gi_wp2
        refine bodyPost_ret (results_none rfl _ _ _) rfl ?_
        exact ⟨⟨_, rfl⟩, .inr ⟨_, by rw [← HT.out]; exact List.take_prefix _ _, hJx3⟩⟩
    · obtain rfl : k = hn1 := by omega
      gi_wp2
      refine bodyPost_end (results_none rfl _ _ _) rfl ?_
      exact ⟨⟨_, rfl⟩, .inl ⟨_, rfl, by rwa [List.take_of_length_le (by rw [encHs_len, ← HN.out]; exact Nat.le_refl _)] at hJk⟩⟩

set_option maxHeartbeats 1000000 in
theorem encodings_in (F : Fence) (n : Nat) (h23 : F.fn 59) (hro : F.round = none) (a : Option Addr) (k c : Nat) (w : World) :
    CallsIn F n Tryd.prog 59 #[.slice a k c] w fun e w' => e = .returned (.func (.func 81) #[] #[.pointer (some ⟨w.heap.size, 0, none⟩)]) ∧ w' = w.alloc (.cells #[.slice a k c] 76) := by
  refine callsIn_of_wp Tryd.func59 rfl h23 ?_ hro
  simp only [Tryd.ntmps59, List.size_toArray, List.length_cons, List.length_nil, Nat.reduceAdd, Nat.reduceSub, Array.replicate_succ, Array.replicate_zero, List.push_toArray, List.append_toArray, List.nil_append, List.cons_append]
  gi_wp2
  go_ret
  exact ⟨rfl, rfl⟩
theorem enc_stops (n : Nat) (hn : 1 ≤ n) (Bp : Nat) (v : Value) (H : List MHead) (w0 w : World) (hS : HdS w0 v H) (hok : ∀ i, i < H.length → Hok (H.getD i hdZ)) (hl : H.length ≤ 20000) (hb : Below w0.heap.size w0 w) (hBp : Bp < w.heap.size) (hc : w.cell? ⟨Bp, 0, none⟩ = some v) :
    SeqStopsK Fence.wide n Tryd.prog 81 #[.pointer (some ⟨Bp, 0, none⟩)] encB9 (Below w0.heap.size) (fun ys => ys = encHs H) (fun pre => pre <+: encHs H) H.length w := fun l J Jx W hW hJ _ hY h0 =>
  enc1_in n hn l Bp v H w0 hS hok hl J Jx W (hb.trans (hW.mono hb.size)) hJ hY ((hW.cell (p := ⟨Bp, 0, none⟩) hBp).trans hc) h0

def mkS (n : Nat) : Array Value := madeCells (Value.string ⟨#[]⟩).cells n
theorem mkS_size (n : Nat) : (mkS n).size = n := size_madeCells _ _
theorem make_strs (n : Nat) (hn : n ≤ 20000) : ∀ W : World, (Instr.makeSlice 39 (.int .i64 0) (.int .i64 (n : Int))).run Tryd.prog W = .ok (.slice (some ⟨W.heap.size, 0, none⟩) 0 n) (W.alloc (.cells (mkS n) 9)) := fun W => by
  obtain ⟨i0, hi0, hz0, hz1, hz2⟩ := info_parts Tryd.info9
  have h := run_make (P := Tryd.prog) W 39 9 i0 (.string ⟨#[]⟩) Tryd.underlying39 hi0 hz0 .i64 .i64 0 n (by omega) (by omega) (by rw [hz2]; omega) (by omega)
  rw [hz1] at h
  simp only [Int.toNat_zero, Int.toNat_natCast, Nat.mul_one] at h
  exact h
theorem ownsS_succ {w : World} {B : Nat} {v : Value} {n : Nat} {xs : List Value} (h : w.ownsRow B 9 1 v (n + 1) xs) : ∃ g cap, v = .slice (some ⟨g, 0, none⟩) (n + 1) cap := by
  rcases h.2 with ⟨_, h0⟩ | ⟨g, cap, cur, hv, _⟩
  · omega
  · exact ⟨g, cap, hv⟩

set_option maxRecDepth 100000 in
set_option maxHeartbeats 4000000 in
theorem leaves_c {w : World} {b : Nat} {vr vh : Value} {H : List MHead} (hb : w.heap[b]? = some (.cells #[vr, vh] 78 (0, 0))) (hh : HdS w vh H) (hok : ∀ i, i < H.length → Hok (H.getD i hdZ)) (hl : H.length ≤ 20000) :
    Calls Tryd.prog 38 #[.pointer (some ⟨b, 0, none⟩)] w fun e w' => ∃ v, e = .returned v ∧ OwnS w' w.heap.size v (encHs H) ∧ Below w.heap.size w w' := by
  have HH := Lib.hid hh
  have HOK := Lib.hid hok
  obtain ⟨ha, hn1, hcap, rfl, hnl, hc1, hc2, -⟩ := hh
  have HN := Lib.hid hnl
  have HL := Lib.hid hl
  have hn4 : hn1 ≤ 20000 := by omega
  have hmk := make_strs hn1 hn4
  have hbl : b < w.heap.size := lt_of_block hb
  have hbn : ¬ b = w.heap.size := by omega
  have hbn2 : ¬ b = w.heap.size + 1 := by omega
  have c1 : w.cell? ⟨b, 1, none⟩ = some (.slice ha hn1 hcap) := cellOf (j := 1) hb rfl
  clear hb hok hnl hl
  refine (callsIn_wide (n := 6)).1 ?_
  refine callsIn_of_wp_marks Tryd.func38 rfl trivial ?_ rfl
  simp only [Tryd.ntmps38, List.size_toArray, List.length_cons, List.length_nil, Nat.reduceAdd, Nat.reduceSub, Array.replicate_succ, Array.replicate_zero, List.push_toArray, List.append_toArray, List.nil_append, List.cons_append]
  gi_wp2_with (refine ⟨trivial, ?_⟩; gi_at_call 59; refine (encodings_in Fence.wide _ trivial rfl _ _ _ _).mono ?_; rintro e w' ⟨rfl, rfl⟩)
  obtain ⟨i0, hi, hz0, hz1, hz2⟩ := info_parts Tryd.info9
  have bC := (Boxed.new (w.alloc (.cells (mkS hn1) 9)) 39 (.slice (some ⟨w.heap.size, 0, none⟩) 0 hn1)).alloc (.cells #[.slice ha hn1 hcap] 76)
  have bZ := Boxed.new ((w.alloc (.cells (mkS hn1) 9)).alloc (.cells #[.slice (some ⟨w.heap.size, 0, none⟩) 0 hn1] 39)) 76 (.slice ha hn1 hcap)
  rw [World.size_alloc] at bC bZ
  rw [World.size_alloc] at bZ
  have hR0 := ((World.ownsRow_made (e := 9) (size := 1) w (mkS hn1) hn1 (Nat.le_refl w.heap.size) (by unfold maxLen; omega) (by rw [mkS_size, Nat.mul_one])).alloc (.cells #[.slice (some ⟨w.heap.size, 0, none⟩) 0 hn1] 39)).alloc (.cells #[.slice ha hn1 hcap] 76)
  have hB0 : Below w.heap.size w (((w.alloc (.cells (mkS hn1) 9)).alloc (.cells #[.slice (some ⟨w.heap.size, 0, none⟩) 0 hn1] 39)).alloc (.cells #[.slice ha hn1 hcap] 76)) := (((Below.refl _ w).alloc (Nat.le_refl _) _).alloc (by simp) _).alloc (by simp; omega) _
  clear hmk
  refine wpIn_rangeFunc_ownG rfl (by omega) (gf := 81) (lb := #[.pointer (some ⟨w.heap.size + 1 + 1, 0, none⟩)]) rfl trivial (enters_of Tryd.func81 (by kernel_rfl) rfl)
    (enc_stops _ (by omega) (w.heap.size + 1 + 1) (.slice ha hn1 hcap) H w _ HH.out HOK.out HL.out hB0 (by simp) bZ.cell) belowK_t (belowK_b (by simp; omega)) (Below.refl _ _) (fun _ => rfl)
    (fun (pre : List ByteArray) W => (∃ u, Boxed W (w.heap.size + 1) 39 u ∧ W.ownsRow w.heap.size 9 1 u pre.length (pre.map Value.string) ∧ True) ∧ Below w.heap.size w W)
    (fun _ _ _ => False)
    (OwnFrom.and (Own.from (holdsRow_own w.heap.size (w.heap.size + 1) 39 9 1 (fun pre : List ByteArray => pre.length) (fun pre : List ByteArray => pre.map Value.string) (fun _ _ => True)) _) (ownFrom_below (Nat.le_refl _) (by simp; omega)))
    (fun _ _ _ _ _ hs _ _ => hs)
    ⟨⟨_, bC, hR0, trivial⟩, hB0⟩
    (fun (x : ByteArray) => { tmps := #[.pointer (some ⟨b, 0, none⟩), undef, .slice none 0 0, .pointer (some ⟨w.heap.size + 1, 0, none⟩), .string x, .pointer (some ⟨b, 0, none⟩), .pointer (some ⟨b, 0, none⟩), .pointer (some ⟨b, 1, none⟩), .slice ha hn1 hcap, .int .i64 (hn1 : Int), .slice (some ⟨w.heap.size, 0, none⟩) 0 hn1, .pointer (some ⟨b, 0, none⟩), .pointer (some ⟨b, 0, none⟩), .pointer (some ⟨b, 1, none⟩), .slice ha hn1 hcap, .func (.func 81) #[] #[.pointer (some ⟨w.heap.size + 1 + 1, 0, none⟩)], .string x, undef, undef, undef, undef, undef], defers := [] }) ?assign ?body ?done ?stop
  case assign =>
    intro l x W K hK
    unfold encB9
    gi_wp2
    exact hK
  case body =>
    rintro l pre x W ⟨⟨u, hv, hrow, _⟩, hB⟩ hlt
    have hc := hv.cell
    have hl2 := HL.out
    gi_wp2_with (gi_at_builtin; refine wpListIn_append_own _ rfl _ _ 39 rfl w.heap.size 9 i0 (.string ⟨#[]⟩) 1 16 Tryd.underlying39 hi hz0 hz1 hz2 rfl (by decide) _ _ _ rfl (hrow.alloc _) ⟨W.heap.size, 0, none⟩ 1 1 [.string x] rfl rfl (cell_one_new _ _ _) (by simp [Value.oneCell']) (by unfold maxLen; omega) (by omega) (by have := hB.size; simp; omega) ?_; intro v' w1 hown' hgrow _; obtain ⟨g', cap', rfl⟩ := ownsS_succ hown'; obtain ⟨hv1, hv2, hr2, hk2, hb2⟩ := hv.appended (by decide) hrow hB.size (by omega) hown' hgrow; have hc1 := hv1.cell; have hf1 := hv1.frozen)
    exact ⟨hk2.from _, hb2, ⟨_, hv2, by simpa using hr2, trivial⟩, hB.trans hb2⟩
  case done =>
    rintro D ys W hD rfl ⟨⟨u, hv, hrow, _⟩, hB⟩ hK
    have hc := hv.cell
    have HK := Lib.hid hK
    have HRow := Lib.hid hrow
    have HB := Lib.hid hB
    have HDD := Lib.hid hD
    clear hK hrow hB hD
    obtain ⟨uu, Hu⟩ : ∃ uu, Hid (u = uu) := ⟨_, Lib.hid rfl⟩
    rw [Hu.out] at hc HRow
    gi_wp2
    refine ⟨by simp, .inl ⟨_, _, rfl, run_takeDeferred HK.out, ?_⟩⟩
    have hbel : ∀ o', Below w.heap.size w (W.putObj D o') := fun o' => HB.out.trans (belowK_b (w := w) (Nat.le_refl _) W D _ o' (by have := HDD.out; simp at this; omega) HK.out rfl rfl)
    refine ⟨uu, by simp [results, Tryd.f38, go_sem], _, rfl, ?_, hbel _⟩
    obtain ⟨h1, h2⟩ := HRow.out
    refine ⟨by simpa [strV, encHs] using h1, h2.imp id fun ⟨g, cap, cur, e, hg, hbk, r⟩ => ⟨g, cap, cur, e, hg, ?_, r⟩⟩
    refine (World.putObj_heap_other (fun e2 => ?_)).trans hbk
    subst e2
    rw [HK.out] at hbk
    cases hbk
  case stop =>
    rintro D c pre W _ _ h _
    exact h.elim
end Go.Proofs.YtpapfegbodolgaaDoor
