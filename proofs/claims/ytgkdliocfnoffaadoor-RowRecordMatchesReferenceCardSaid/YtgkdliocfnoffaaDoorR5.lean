/- WALKS: readRecord. -/
import Derived.Test.YtgkdliocfnoffaaDoorR4
import Derived.Test.YtgkdliocfnoffaaDoorR3e
import Derived.Deep.RegionWith
set_option linter.unusedVariables false set_option linter.unusedSimpArgs false
namespace Go.Proofs.YtgkdliocfnoffaaDoor
open Go.RowKit Go.Sort

theorem info42 : (Tryd.prog.info? 42).map (fun i => (i.zero, i.size, i.bytes)) = some (some (.agg #[.int .i64 0, .int .i64 0, .bool false, .int .i64 0, .int .i64 0, .int .i64 0, .bool false, .int .i64 0, .int .i64 0, .int .i64 0]), 10, 80) := by kernel_rfl
def zrow (n : Nat) : Array Value := madeCells #[.int .i64 0, .int .i64 0, .bool false, .int .i64 0, .int .i64 0, .int .i64 0, .bool false, .int .i64 0, .int .i64 0, .int .i64 0] (n * 10)
theorem zrow_size (n : Nat) : (zrow n).size = 10 * n := by rw [zrow, size_madeCells]; omega
theorem make_chs (n : Nat) (hn : n ≤ 8) (W : World) : (Instr.makeSlice 35 (.int .i64 (n : Int)) (.int .i64 (n : Int))).run Tryd.prog W = .ok (.slice (some ⟨W.heap.size, 0, none⟩) n n) (W.alloc (.cells (zrow n) 42)) := by
  obtain ⟨i0, hi, hz0, hz1, hz2⟩ := info_parts info42
  have h := run_make (P := Tryd.prog) W 35 42 i0 _ Tryd.underlying35 hi hz0 .i64 .i64 (n : Int) (n : Int) (by omega) (by omega) (by rw [hz2]; omega) (by omega)
  rw [hz1] at h
  simpa [zrow, Value.cells] using h

def RecOut (s : ByteArray) (rb : Nat) (a0 a1 : Addr) (w : World) (r : Except Bool (MRec × Nat)) (e : Ending) (w' : World) : Prop :=
  match r with
  | .ok (x, k) => ∃ v, e = .returned (.agg #[.int .i64 x.pos, v]) ∧ ChF w w' v x.chs ∧ RdAt w' rb s k ∧ Kx rb w w'
  | .error b => e = pan (if b then a1 else a0) ∧ Kx rb w w'
theorem RecOut.no {s : ByteArray} {rb : Nat} {a0 a1 : Addr} {w : World} {r : Except Bool (MRec × Nat)} {e : Ending} {w' : World} (hr : Hid (r = .error false)) (h1 : e = pan a0) (h3 : Kx rb w w') : RecOut s rb a0 a1 w r e w' := by rw [hr.out]; exact ⟨h1, h3⟩
theorem RecOut.bad {s : ByteArray} {rb : Nat} {a0 a1 : Addr} {w : World} {r : Except Bool (MRec × Nat)} {e : Ending} {w' : World} (hr : Hid (r = .error true)) (h1 : e = pan a1) (h3 : Kx rb w w') : RecOut s rb a0 a1 w r e w' := by rw [hr.out]; exact ⟨h1, h3⟩
theorem RecOut.ok {s : ByteArray} {rb : Nat} {a0 a1 : Addr} {w : World} {r : Except Bool (MRec × Nat)} {e : Ending} {w' : World} {x : MRec} {k : Nat} (hr : Hid (r = .ok (x, k))) {v : Value} (h1 : e = .returned (.agg #[.int .i64 x.pos, v])) (h2 : ChF w w' v x.chs) (h3 : RdAt w' rb s k) (h4 : Kx rb w w') : RecOut s rb a0 a1 w r e w' := by rw [hr.out]; exact ⟨v, h1, h2, h3, h4⟩
theorem Kx.drew {rb : Nat} (w : World) : Kx rb w w.drew := .of_below (Below.refl _ _).drew
theorem Kx.setRow {rb : Nat} {w w' : World} (h : Kx rb w w') {g : Nat} (hb : w.heap.size ≤ g) (cs : Array Value) : Kx rb w (w'.setRow g cs) :=
  ⟨h.os, h.tape, h.output, by simpa using h.size, fun j hj hj2 => (setRow_other w' g j cs (by omega)).trans (h.block j hj hj2)⟩
theorem RdAt.drew {w : World} {rb : Nat} {s : ByteArray} {k : Nat} (h : RdAt w rb s k) : RdAt w.drew rb s k := h

def rdRecT (p n : Int) : Rd MRec := if n < 1 ∨ 8 < n then Rd.bad else (rdGo n.toNat []).bind fun cs => Rd.ret ⟨p, cs⟩
theorem rdRecT_bad (L : List UInt8) (p n : Int) (j : Nat) (h : n < 1 ∨ 8 < n) : (rdRecT p n).run L j = .error true := by unfold rdRecT; rw [if_pos h]; rfl
theorem rdRecT_go (p : Int) (n : Nat) (h1 : 1 ≤ n) (h8 : n ≤ 8) : rdRecT p n = (rdGo n []).bind fun cs => Rd.ret ⟨p, cs⟩ := by unfold rdRecT; rw [if_neg (by omega), Int.toNat_natCast]
theorem cell_room {w : World} {S n : Nat} {cs : Array Value} (h : w.heap[S]? = some (.cells cs 42 (0, 0))) (o : Nat) (ho : o < cs.size) : ∃ u, w.cell? ⟨S, o, none⟩ = some u :=
  ⟨cs[o], by rw [cell_of_row w S o cs 42 (0, 0) h, Array.getElem?_eq_getElem ho]⟩
theorem frozen_room {w : World} {S : Nat} {cs : Array Value} (h : w.heap[S]? = some (.cells cs 42 (0, 0))) (o : Nat) : w.frozen? ⟨S, o, none⟩ = false := by simp [World.frozen?, h]

set_option maxRecDepth 100000 in
set_option maxHeartbeats 16000000 in
theorem readRecord_any (s : ByteArray) (rb k : Nat) (a0 a1 : Addr) (w : World) (hs : s.size ≤ maxLen) (hk : k ≤ s.size) (hr : RdAt w rb s k) (hg : w.cell? ⟨0, 0, none⟩ = some (errV a0)) (hg1 : w.cell? ⟨1, 0, none⟩ = some (errV a1)) (h0 : 1 < rb) :
    Calls Tryd.prog 52 #[nextV rb] w (RecOut s rb a0 a1 w (rdRec.run s.data.toList k)) := by
  have hrl := hr.lt
  have hne : ¬ w.heap.size = rb := by omega
  have hne0 : ¬ 0 = rb := by omega
  have hne1 : ¬ 1 = rb := by omega
  have hz0 : 0 < w.heap.size := by omega
  have hz1 : 1 < w.heap.size := by omega
  have HR := Lib.hid hr
  have HG : Hid (∀ w', Kx rb w w' → w'.cell? ⟨0, 0, none⟩ = some (errV a0)) := Lib.hid (fun w' h => by rw [h.cell.1 _ _ hz0 hne0]; exact hg)
  have HG1 : Hid (∀ w', Kx rb w w' → w'.cell? ⟨1, 0, none⟩ = some (errV a1)) := Lib.hid (fun w' h => by rw [h.cell.1 _ _ hz1 hne1]; exact hg1)
  have HA0 := Lib.hid (Kx.alloc rb w (.cells #[.int .i64 0, .slice none 0 0] 37))
  clear hr hg hg1
  cases h1 : decInt (s.data.toList.drop k) with
  | none =>
    have HX : Hid (rdRec.run s.data.toList k = .error false) := Lib.hid (run_get_none h1)
    have H1 := Lib.hid h1
    clear h1
    go_enter Tryd.func52, Tryd.ntmps52
    go_wp2_with fail
    (with_reducible refine (number_no s rb k a0 _ hs hk (HR.out.below (ba _ _)) (HG.out _ HA0.out) H1.out).mono ?_)
    rintro e w1 ⟨rfl, hx1⟩
    go_wp2_with fail
    exact ⟨rfl, RecOut.no HX rfl (HA0.out.trans hx1)⟩
  | some q =>
    obtain ⟨p, m1⟩ := q
    have hk1 := dec_le hk h1
    have hE1 := run_get_some (f := fun p => Rd.get fun n => rdRecT p n) h1
    have H1 := Lib.hid h1
    clear h1
    cases h2 : decInt (s.data.toList.drop (k + m1)) with
    | none =>
      have HX : Hid (rdRec.run s.data.toList k = .error false) := Lib.hid (hE1.trans (run_get_none h2))
      have H2 := Lib.hid h2
      clear h2 hE1
      go_enter Tryd.func52, Tryd.ntmps52
      go_wp2_with fail
      (with_reducible refine (number_ok s rb k _ hs hk (HR.out.below (ba _ _)) H1.out).mono ?_)
      rintro e w1 ⟨rfl, hr1, hx1⟩
      have HR1 := Lib.hid hr1
      have HX1 := Lib.hid hx1
      have HK1 := Lib.hid ((HA0.out.trans hx1).trans (Kx.alloc rb w1 (.cells #[.int .i64 p, .slice none 0 0] 37)))
      have hsz1 : w.heap.size < w1.heap.size := by have := hx1.size; simp only [World.size_alloc] at this; omega
      clear hr1 hx1
      go_wp2_with fail
      (with_reducible refine (number_no s rb (k + m1) a0 _ hs hk1 (HR1.out.below (ba _ _)) (HG.out _ HK1.out) H2.out).mono ?_)
      rintro e w2 ⟨rfl, hx2⟩
      go_wp2_with fail
      exact ⟨rfl, RecOut.no HX rfl (HK1.out.trans hx2)⟩
    | some q =>
      obtain ⟨n, m2⟩ := q
      have hk2 := dec_le hk1 h2
      have hE2 := hE1.trans (run_get_some (f := fun n => rdRecT p n) h2)
      have H2 := Lib.hid h2
      clear h2 hE1
      by_cases hn : n < 1 ∨ 8 < n
      · have HX : Hid (rdRec.run s.data.toList k = .error true) := Lib.hid (hE2.trans (rdRecT_bad _ _ _ _ hn))
        have HM := Lib.hid hn
        clear hE2 hn
        go_enter Tryd.func52, Tryd.ntmps52
        go_wp2_with fail
        (with_reducible refine (number_ok s rb k _ hs hk (HR.out.below (ba _ _)) H1.out).mono ?_)
        rintro e w1 ⟨rfl, hr1, hx1⟩
        have HR1 := Lib.hid hr1
        have HX1 := Lib.hid hx1
        have HK1 := Lib.hid ((HA0.out.trans hx1).trans (Kx.alloc rb w1 (.cells #[.int .i64 p, .slice none 0 0] 37)))
        have hsz1 : w.heap.size < w1.heap.size := by have := hx1.size; simp only [World.size_alloc] at this; omega
        clear hr1 hx1
        go_wp2_with fail
        (with_reducible refine (number_ok s rb (k + m1) _ hs hk1 (HR1.out.below (ba _ _)) H2.out).mono ?_)
        rintro e w2 ⟨rfl, hr2, hx2⟩
        have HR2 := Lib.hid hr2
        have HK2 := Lib.hid (HK1.out.trans hx2)
        have HX2 := Lib.hid hx2
        have hsz2 : w1.heap.size < w2.heap.size := by have := hx2.size; simp only [World.size_alloc] at this; omega
        clear hr2 hx2
        go_wp2_with fail
        (with_reducible refine (upTo_bad 8 n a1 _ HM.out (HG1.out _ HK2.out)).mono ?_)
        rintro e w3 ⟨rfl, rfl⟩
        go_wp2_with fail
        exact ⟨rfl, RecOut.bad HX rfl HK2.out⟩
      · obtain ⟨n, rfl⟩ : ∃ m : Nat, n = (m : Int) := ⟨n.toNat, by omega⟩
        have hn1 : 1 ≤ n := by omega
        have hn8 : n ≤ 8 := by omega
        have HE : Hid (rdRec.run s.data.toList k = ((rdGo n []).bind fun cs => Rd.ret ⟨p, cs⟩).run s.data.toList (k + m1 + m2)) := Lib.hid (hE2.trans (by rw [rdRecT_go p n hn1 hn8]))
        have hmk := make_chs n hn8
        clear hE2 hn
        go_enter Tryd.func52, Tryd.ntmps52
        go_wp2_with fail
        (with_reducible refine (number_ok s rb k _ hs hk (HR.out.below (ba _ _)) H1.out).mono ?_)
        rintro e w1 ⟨rfl, hr1, hx1⟩
        have HR1 := Lib.hid hr1
        have HX1 := Lib.hid hx1
        have HK1 := Lib.hid ((HA0.out.trans hx1).trans (Kx.alloc rb w1 (.cells #[.int .i64 p, .slice none 0 0] 37)))
        have hsz1 : w.heap.size < w1.heap.size := by have := hx1.size; simp only [World.size_alloc] at this; omega
        clear hr1 hx1
        go_wp2_with fail
        (with_reducible refine (number_ok s rb (k + m1) _ hs hk1 (HR1.out.below (ba _ _)) H2.out).mono ?_)
        rintro e w2 ⟨rfl, hr2, hx2⟩
        have HR2 := Lib.hid hr2
        have HK2 := Lib.hid (HK1.out.trans hx2)
        have HX2 := Lib.hid hx2
        have hsz2 : w1.heap.size < w2.heap.size := by have := hx2.size; simp only [World.size_alloc] at this; omega
        clear hr2 hx2
        go_wp2_with fail
        (with_reducible refine (upTo_ok 8 (n : Int) _ (by omega) (by omega)).mono ?_)
        rintro e w3 ⟨rfl, rfl⟩
        have HV2 : Hid (w3.heap[w1.heap.size]? = some (.cells #[.int .i64 p, .slice none 0 0] 37 (0, 0))) := Lib.hid ((HX2.out.block _ (by simp) (by omega)).trans (heap_alloc_new w1 _))
        have HW2 : Hid (w3.heap[w.heap.size]? = some (.cells #[.int .i64 0, .slice none 0 0] 37 (0, 0))) := Lib.hid ((HX2.out.block _ (by simp; omega) hne).trans ((heap_alloc_old _ _ _ hsz1).trans ((HX1.out.block _ (by simp) hne).trans (heap_alloc_new w _))))
        have hszc : (w3.setCell ⟨w1.heap.size, 1, none⟩ (.slice (some ⟨w3.heap.size, 0, none⟩) n n)).heap.size = w3.heap.size := by simp [World.setCell]
        have HR3 : Hid (RdAt ((w3.setCell ⟨w1.heap.size, 1, none⟩ (.slice (some ⟨w3.heap.size, 0, none⟩) n n)).alloc (.cells (zrow n) 42)) rb s (k + m1 + m2)) := Lib.hid ((HR2.out.setOther (by omega) _ _).below (ba _ _))
        have HK3 : Hid (Kx rb w ((w3.setCell ⟨w1.heap.size, 1, none⟩ (.slice (some ⟨w3.heap.size, 0, none⟩) n n)).alloc (.cells (zrow n) 42))) := Lib.hid ((HK2.out.setNew (by omega) _ _).trans (Kx.alloc rb _ _))
        have HV3 : Hid (((w3.setCell ⟨w1.heap.size, 1, none⟩ (.slice (some ⟨w3.heap.size, 0, none⟩) n n)).alloc (.cells (zrow n) 42)).heap[w1.heap.size]? = some (.cells #[.int .i64 p, .slice (some ⟨w3.heap.size, 0, none⟩) n n] 37 (0, 0))) := Lib.hid ((heap_alloc_old _ _ _ (by rw [hszc]; omega)).trans (heap_setCell_row HV2.out _ _))
        have HW3 : Hid (((w3.setCell ⟨w1.heap.size, 1, none⟩ (.slice (some ⟨w3.heap.size, 0, none⟩) n n)).alloc (.cells (zrow n) 42)).heap[w.heap.size]? = some (.cells #[.int .i64 0, .slice none 0 0] 37 (0, 0))) := Lib.hid ((heap_alloc_old _ _ _ (by rw [hszc]; omega)).trans ((heap_setCell_far (by omega) _ _).trans HW2.out))
        have HS3 : Hid (Fill ((w3.setCell ⟨w1.heap.size, 1, none⟩ (.slice (some ⟨w3.heap.size, 0, none⟩) n n)).alloc (.cells (zrow n) 42)) w3.heap.size n []) := Lib.hid ⟨_, by have := heap_alloc_new (w3.setCell ⟨w1.heap.size, 1, none⟩ (.slice (some ⟨w3.heap.size, 0, none⟩) n n)) (.cells (zrow n) 42); rwa [hszc] at this, zrow_size n, fun i hi => by simp at hi⟩
        clear hszc
        have hcv : w3.cell? ⟨w1.heap.size, 1, none⟩ = some (.slice none 0 0) := by simp [World.cell?, HV2.out]
        have hfv : w3.frozen? ⟨w1.heap.size, 1, none⟩ = false := by simp [World.frozen?, HV2.out]
        have hszS : w3.heap.size ≥ w.heap.size := by omega
        go_wp2_with fail
        have hVS : ¬ w1.heap.size = w3.heap.size := by omega
        have hWS : ¬ w.heap.size = w3.heap.size := by omega
        have hSr : ¬ w3.heap.size = rb := by omega
        have hVr : ¬ w1.heap.size = rb := by omega
        clear hcv hfv hmk
        go_loopw [16, 4] (fun i _ wr => ∃ (j k' : Nat) (acc : List MCh), j ≤ n ∧ i = .int .i64 j ∧ Hid (acc.length = j) ∧ Hid ((rdGo n []).run s.data.toList (k + m1 + m2) = (rdGo (n - j) acc).run s.data.toList k') ∧ k' ≤ s.size ∧ Hid (RdAt wr rb s k') ∧ Hid (Kx rb w wr) ∧ Hid (wr.heap[w1.heap.size]? = some (.cells #[.int .i64 p, .slice (some ⟨w3.heap.size, 0, none⟩) n n] 37 (0, 0))) ∧ Hid (wr.heap[w.heap.size]? = some (.cells #[.int .i64 0, .slice none 0 0] 37 (0, 0))) ∧ Hid (Fill wr w3.heap.size n acc)) (fun i _ _ => n - (intOf i).toNat)
        case atStart => exact ⟨0, _, [], by omega, rfl, Lib.hid rfl, Lib.hid rfl, hk2, HR3, HK3, HV3, HW3, HS3⟩
        case round =>
          obtain ⟨j, k', acc, hj, rfl, HL, HRun, hk', HRr, HKr, HVr, HWr, HSr⟩ := hrel
          have hcv : wr.cell? ⟨w1.heap.size, 1, none⟩ = some (.slice (some ⟨w3.heap.size, 0, none⟩) n n) := by simp [World.cell?, HVr.out]
          by_cases hlt : j < n
          · have HStep : Hid ((rdGo (n - j) acc).run s.data.toList k' = (rdCh.bind fun c => rdGo (n - (j + 1)) (acc ++ [c])).run s.data.toList k') := Lib.hid (by rw [show n - j = (n - (j + 1)) + 1 from by omega]; rfl)
            cases hc : rdCh.run s.data.toList k' with
            | error b =>
              have HC := Lib.hid hc
              cases b with
              | false =>
                have HX : Hid (rdRec.run s.data.toList k = .error false) := Lib.hid (HE.out.trans (run_bind_err (HRun.out.trans (HStep.out.trans (run_bind_err hc)))))
                clear hc
                go_wp2_with fail
                refine wp_region_held_drew (S := fun w' => w'.cell? ⟨w1.heap.size, 1, none⟩ = some (.slice (some ⟨w3.heap.size, 0, none⟩) n n)) (by kernel_rfl) hcv (fun hHeld => ?_)
                refine wpAnyH_take (i := 0) (oi := _) (v := .pointer (some ⟨w1.heap.size, 1, none⟩)) rfl (by kernel_rfl) (by kernel_rfl) (by kernel_rfl) (fun _ _ _ h => h) (Or.inl ⟨by rfl, ?_⟩) hHeld ?_
                · intro w' hSw
                  go_simp
                simp only [Act.put, List.setIfInBounds_toArray, List.set_cons_zero, List.set_cons_succ]
                refine wpAnyH_take (i := 1) (oi := _) (v := (.slice (some ⟨w3.heap.size, 0, none⟩) n n)) rfl (by kernel_rfl) (by kernel_rfl) (by kernel_rfl) (fun _ _ _ h => h) (Or.inl ⟨by rfl, ?_⟩) hHeld ?_
                · intro w' hSw
                  go_simp
                simp only [Act.put, List.setIfInBounds_toArray, List.set_cons_zero, List.set_cons_succ]
                refine wpAnyH_take (i := 2) (oi := _) (v := .int .i64 (j : Int)) rfl (by kernel_rfl) (by kernel_rfl) (by kernel_rfl) (fun _ _ _ h => h) (Or.inl ⟨by rfl, ?_⟩) hHeld ?_
                · intro w' hSw
                  go_simp
                simp only [Act.put, List.setIfInBounds_toArray, List.set_cons_zero, List.set_cons_succ]
                refine wpAnyH_take (i := 3) (oi := _) (v := nextV rb) rfl (by kernel_rfl) (by kernel_rfl) (by kernel_rfl) (fun _ _ _ h => h) (Or.inl ⟨by rfl, ?_⟩) hHeld ?_
                · intro w' hSw
                  go_simp
                simp only [Act.put, List.setIfInBounds_toArray, List.set_cons_zero, List.set_cons_succ]
                refine wpAnyH_ready (rs := [4]) (by kernel_rfl) (by simp) ?_
                refine AllReadyH.cons (o := _) rfl (fun K hK => ?_) AllReadyH.nil
                rw [if_pos (by rfl)]
                go_wp2_with fail
                refine (Calls.rno (readChange_any s rb k' a0 a1 _ hs hk' HRr.out.drew (HG.out _ (HKr.out.trans (Kx.drew _))) (HG1.out _ (HKr.out.trans (Kx.drew _))) h0) HC.out).mono ?_
                rintro e w5 ⟨rfl, hx5⟩
                exact ⟨rfl, RecOut.no HX rfl (HKr.out.trans ((Kx.drew _).trans hx5))⟩
              | true =>
                have HX : Hid (rdRec.run s.data.toList k = .error true) := Lib.hid (HE.out.trans (run_bind_err (HRun.out.trans (HStep.out.trans (run_bind_err hc)))))
                clear hc
                go_wp2_with fail
                refine wp_region_held_drew (S := fun w' => w'.cell? ⟨w1.heap.size, 1, none⟩ = some (.slice (some ⟨w3.heap.size, 0, none⟩) n n)) (by kernel_rfl) hcv (fun hHeld => ?_)
                refine wpAnyH_take (i := 0) (oi := _) (v := .pointer (some ⟨w1.heap.size, 1, none⟩)) rfl (by kernel_rfl) (by kernel_rfl) (by kernel_rfl) (fun _ _ _ h => h) (Or.inl ⟨by rfl, ?_⟩) hHeld ?_
                · intro w' hSw
                  go_simp
                simp only [Act.put, List.setIfInBounds_toArray, List.set_cons_zero, List.set_cons_succ]
                refine wpAnyH_take (i := 1) (oi := _) (v := (.slice (some ⟨w3.heap.size, 0, none⟩) n n)) rfl (by kernel_rfl) (by kernel_rfl) (by kernel_rfl) (fun _ _ _ h => h) (Or.inl ⟨by rfl, ?_⟩) hHeld ?_
                · intro w' hSw
                  go_simp
                simp only [Act.put, List.setIfInBounds_toArray, List.set_cons_zero, List.set_cons_succ]
                refine wpAnyH_take (i := 2) (oi := _) (v := .int .i64 (j : Int)) rfl (by kernel_rfl) (by kernel_rfl) (by kernel_rfl) (fun _ _ _ h => h) (Or.inl ⟨by rfl, ?_⟩) hHeld ?_
                · intro w' hSw
                  go_simp
                simp only [Act.put, List.setIfInBounds_toArray, List.set_cons_zero, List.set_cons_succ]
                refine wpAnyH_take (i := 3) (oi := _) (v := nextV rb) rfl (by kernel_rfl) (by kernel_rfl) (by kernel_rfl) (fun _ _ _ h => h) (Or.inl ⟨by rfl, ?_⟩) hHeld ?_
                · intro w' hSw
                  go_simp
                simp only [Act.put, List.setIfInBounds_toArray, List.set_cons_zero, List.set_cons_succ]
                refine wpAnyH_ready (rs := [4]) (by kernel_rfl) (by simp) ?_
                refine AllReadyH.cons (o := _) rfl (fun K hK => ?_) AllReadyH.nil
                rw [if_pos (by rfl)]
                go_wp2_with fail
                refine (Calls.rbad (readChange_any s rb k' a0 a1 _ hs hk' HRr.out.drew (HG.out _ (HKr.out.trans (Kx.drew _))) (HG1.out _ (HKr.out.trans (Kx.drew _))) h0) HC.out).mono ?_
                rintro e w5 ⟨rfl, hx5⟩
                exact ⟨rfl, RecOut.bad HX rfl (HKr.out.trans ((Kx.drew _).trans hx5))⟩
            | ok q =>
              obtain ⟨⟨t, kk, had, ⟨oa, ob, oc⟩, has, ⟨na, nb, nc⟩⟩, k2'⟩ := q
              have hk2' := run_le hk' hc
              have HC := Lib.hid hc
              have HRun2 : Hid ((rdGo n []).run s.data.toList (k + m1 + m2) = (rdGo (n - (j + 1)) (acc ++ [(⟨t, kk, had, ⟨oa, ob, oc⟩, has, ⟨na, nb, nc⟩⟩ : MCh)])).run s.data.toList k2') := Lib.hid (HRun.out.trans (HStep.out.trans (run_bind_ok hc)))
              clear hc
              go_wp2_with fail
              refine wp_region_held_drew (S := fun w' => w'.cell? ⟨w1.heap.size, 1, none⟩ = some (.slice (some ⟨w3.heap.size, 0, none⟩) n n)) (by kernel_rfl) hcv (fun hHeld => ?_)
              refine wpAnyH_take (i := 0) (oi := _) (v := .pointer (some ⟨w1.heap.size, 1, none⟩)) rfl (by kernel_rfl) (by kernel_rfl) (by kernel_rfl) (fun _ _ _ h => h) (Or.inl ⟨by rfl, ?_⟩) hHeld ?_
              · intro w' hSw
                go_simp
              simp only [Act.put, List.setIfInBounds_toArray, List.set_cons_zero, List.set_cons_succ]
              refine wpAnyH_take (i := 1) (oi := _) (v := (.slice (some ⟨w3.heap.size, 0, none⟩) n n)) rfl (by kernel_rfl) (by kernel_rfl) (by kernel_rfl) (fun _ _ _ h => h) (Or.inl ⟨by rfl, ?_⟩) hHeld ?_
              · intro w' hSw
                go_simp
              simp only [Act.put, List.setIfInBounds_toArray, List.set_cons_zero, List.set_cons_succ]
              refine wpAnyH_take (i := 2) (oi := _) (v := .int .i64 (j : Int)) rfl (by kernel_rfl) (by kernel_rfl) (by kernel_rfl) (fun _ _ _ h => h) (Or.inl ⟨by rfl, ?_⟩) hHeld ?_
              · intro w' hSw
                go_simp
              simp only [Act.put, List.setIfInBounds_toArray, List.set_cons_zero, List.set_cons_succ]
              refine wpAnyH_take (i := 3) (oi := _) (v := nextV rb) rfl (by kernel_rfl) (by kernel_rfl) (by kernel_rfl) (fun _ _ _ h => h) (Or.inl ⟨by rfl, ?_⟩) hHeld ?_
              · intro w' hSw
                go_simp
              simp only [Act.put, List.setIfInBounds_toArray, List.set_cons_zero, List.set_cons_succ]
              refine wpAnyH_ready (rs := [4]) (by kernel_rfl) (by simp) ?_
              refine AllReadyH.cons (o := _) rfl (fun K hK => ?_) AllReadyH.nil
              rw [if_pos (by rfl)]
              go_wp2_with fail
              refine (Calls.rok (readChange_any s rb k' a0 a1 _ hs hk' HRr.out.drew (HG.out _ (HKr.out.trans (Kx.drew _))) (HG1.out _ (HKr.out.trans (Kx.drew _))) h0) HC.out).mono ?_
              rintro e w5 ⟨rfl, hr5, hx5⟩
              have H5 := Lib.hid hr5
              have K5 := Lib.hid ((Kx.drew wr).trans hx5)
              have hq := room_set10 HSr.out K5.out hSr hlt
              obtain ⟨u0', hq0⟩ := Option.isSome_iff_exists.1 (hq.1 0 (by omega))
              obtain ⟨u1', hq1⟩ := Option.isSome_iff_exists.1 (hq.1 1 (by omega))
              obtain ⟨u2', hq2⟩ := Option.isSome_iff_exists.1 (hq.1 2 (by omega))
              obtain ⟨u3', hq3⟩ := Option.isSome_iff_exists.1 (hq.1 3 (by omega))
              obtain ⟨u4', hq4⟩ := Option.isSome_iff_exists.1 (hq.1 4 (by omega))
              obtain ⟨u5', hq5⟩ := Option.isSome_iff_exists.1 (hq.1 5 (by omega))
              obtain ⟨u6', hq6⟩ := Option.isSome_iff_exists.1 (hq.1 6 (by omega))
              obtain ⟨u7', hq7⟩ := Option.isSome_iff_exists.1 (hq.1 7 (by omega))
              obtain ⟨u8', hq8⟩ := Option.isSome_iff_exists.1 (hq.1 8 (by omega))
              obtain ⟨u9', hq9⟩ := Option.isSome_iff_exists.1 (hq.1 9 (by omega))
              have hqf := hq.2
              simp only [Nat.add_zero] at hq0
              have hcv5 : w5.cell? ⟨w1.heap.size, 1, none⟩ = some (.slice (some ⟨w3.heap.size, 0, none⟩) n n) := by
                rw [K5.out.cell.1 _ _ (Array.getElem?_eq_some_iff.1 HVr.out).1 hVr]; exact hcv
              have HVs : Hid ((set10 w5 w3.heap.size (j * 10) ⟨t, kk, had, ⟨oa, ob, oc⟩, has, ⟨na, nb, nc⟩⟩).heap[w1.heap.size]? = some (.cells #[.int .i64 p, .slice (some ⟨w3.heap.size, 0, none⟩) n n] 37 (0, 0))) := Lib.hid ((far_set10 hVS _ _).trans ((K5.out.block _ (Array.getElem?_eq_some_iff.1 HVr.out).1 hVr).trans HVr.out))
              have HWs : Hid ((set10 w5 w3.heap.size (j * 10) ⟨t, kk, had, ⟨oa, ob, oc⟩, has, ⟨na, nb, nc⟩⟩).heap[w.heap.size]? = some (.cells #[.int .i64 0, .slice none 0 0] 37 (0, 0))) := Lib.hid ((far_set10 hWS _ _).trans ((K5.out.block _ (Array.getElem?_eq_some_iff.1 HWr.out).1 hne).trans HWr.out))
              have HSs : Hid (Fill (set10 w5 w3.heap.size (j * 10) ⟨t, kk, had, ⟨oa, ob, oc⟩, has, ⟨na, nb, nc⟩⟩) w3.heap.size n (acc ++ [(⟨t, kk, had, ⟨oa, ob, oc⟩, has, ⟨na, nb, nc⟩⟩ : MCh)])) := Lib.hid (fill_set10 HSr.out K5.out hSr HL.out hlt ⟨t, kk, had, ⟨oa, ob, oc⟩, has, ⟨na, nb, nc⟩⟩)
              have HRs : Hid (RdAt (set10 w5 w3.heap.size (j * 10) ⟨t, kk, had, ⟨oa, ob, oc⟩, has, ⟨na, nb, nc⟩⟩) rb s k2') := Lib.hid (rd_set10 H5.out hSr _ _)
              have HKs : Hid (Kx rb w (set10 w5 w3.heap.size (j * 10) ⟨t, kk, had, ⟨oa, ob, oc⟩, has, ⟨na, nb, nc⟩⟩)) := Lib.hid (kx_set10 (HKr.out.trans K5.out) hszS _ _)
              have HLs : Hid ((acc ++ [(⟨t, kk, had, ⟨oa, ob, oc⟩, has, ⟨na, nb, nc⟩⟩ : MCh)]).length = j + 1) := Lib.hid (by rw [List.length_append, HL.out]; rfl)
              have hcvs : (set10 w5 w3.heap.size (j * 10) ⟨t, kk, had, ⟨oa, ob, oc⟩, has, ⟨na, nb, nc⟩⟩).cell? ⟨w1.heap.size, 1, none⟩ = some (.slice (some ⟨w3.heap.size, 0, none⟩) n n) := by simp [World.cell?, HVs.out]
              have HCV := Lib.hid hcvs
              clear hr5 hx5 hq hcvs
              refine hK.out _ _ hcv5 (fun hHeld => ?_)
              clear hK K
              refine wpAnyH_take (i := 5) (oi := _) (v := .pointer (some ⟨w3.heap.size, j * 10, none⟩)) rfl (by kernel_rfl) (by kernel_rfl) (by kernel_rfl) (fun _ _ _ h => h) (Or.inl ⟨by rfl, ?_⟩) hHeld ?_
              · intro w' hSw
                go_simp
              simp only [Act.put, List.setIfInBounds_toArray, List.set_cons_zero, List.set_cons_succ]
              refine wpAnyH_ready (rs := [6]) (by kernel_rfl) (by simp) ?_
              refine AllReadyH.cons (o := _) rfl (fun K hK => ?_) AllReadyH.nil
              rw [if_pos (by rfl)]
              go_simp
              refine hK.out _ _ HCV.out (fun hHeld => ?_)
              refine wpAnyH_done (by kernel_rfl) ?_ _
              go_wp2_with fail
              exact ⟨⟨j + 1, k2', _, by omega, by go_num, HLs, HRun2, hk2', HRs, HKs, HVs, HWs, HSs⟩, by simp [intOf]; omega⟩
          · have HE2 : Hid (rdRec.run s.data.toList k = .ok (⟨p, acc⟩, k')) := Lib.hid (HE.out.trans (run_bind_ok (HRun.out.trans (by rw [show n - j = 0 from by omega]; rfl))))
            have HCh : Hid (ChF w (wr.setRow w.heap.size #[.int .i64 p, .slice (some ⟨w3.heap.size, 0, none⟩) n n]) (.slice (some ⟨w3.heap.size, 0, none⟩) n n) acc) := Lib.hid (by
              obtain ⟨cs, e1, e2, e3⟩ := HSr.out
              exact Fill.chf ⟨cs, (setRow_other _ _ _ _ (fun e => hWS e.symm)).trans e1, e2, e3⟩ (by rw [HL.out]; omega) hn8 hszS)
            have HRd : Hid (RdAt (wr.setRow w.heap.size #[.int .i64 p, .slice (some ⟨w3.heap.size, 0, none⟩) n n]) rb s k') := Lib.hid (HRr.out.setRow hne _)
            have HKd : Hid (Kx rb w (wr.setRow w.heap.size #[.int .i64 p, .slice (some ⟨w3.heap.size, 0, none⟩) n n])) := Lib.hid (HKr.out.setRow (Nat.le_refl _) _)
            go_wp2_with (first | (refine wpList_load_row rfl 37 _ rfl w1.heap.size rfl 37 _ _ _ HVr.out Tryd.underlying37 rfl (by kernel_rfl) ?_) | (refine wpList_store_row rfl 37 _ _ rfl w.heap.size _ rfl rfl 37 _ HWr.out (by kernel_rfl) rfl (by simp [Value.oneCell']) ?_))
            refine bodyPost_ret (v := .agg #[.int .i64 p, .slice (some ⟨w3.heap.size, 0, none⟩) n n]) (results_cell_row rfl _ _ w.heap.size 37 _ (0, 0) _ rfl (setRow_heap _ _ _ _ _ _ HWr.out) Tryd.underlying37 rfl (by kernel_rfl)) rfl ?_
            exact RecOut.ok HE2 rfl HCh.out HRd.out HKd.out
end Go.Proofs.YtgkdliocfnoffaaDoor
