/- WALKS: DecodeRecord. -/
import Derived.Test.YtgkdliocfnoffaaDoorQ3
import Derived.Test.YtgkdliocfnoffaaDoorR5
set_option linter.unusedVariables false
namespace Go.Proofs.YtgkdliocfnoffaaDoor
open Go.RowKit Go.Sort

def recZ : MRec := ⟨0, []⟩
def decRec (s : ByteArray) : MRec × Int :=
  match rdRec.run s.data.toList 0 with
  | .error b => (recZ, if b then 30 else 10)
  | .ok (x, k) => if k = s.size then (if VRec x.pos x.chs then (x, 0) else (recZ, 30)) else (recZ, 10)
def DecROut (s : ByteArray) (w : World) (e : Ending) (w' : World) : Prop :=
  ∃ v, e = .returned (.tuple #[.agg #[.int .i64 (decRec s).1.pos, v], .int .i64 (decRec s).2]) ∧ ChS w' v (decRec s).1.chs ∧ Below w.heap.size w w'
theorem ChS.nil (w : World) : ChS w (.slice none 0 0) [] := ⟨none, 0, 0, rfl, rfl, Nat.le_refl _, by omega, fun h => by omega⟩
theorem DecROut.zero {s : ByteArray} {w w' : World} {e : Ending} {c : Int} (h : Hid (decRec s = (recZ, c))) (he : e = .returned (.tuple #[.agg #[.int .i64 0, .slice none 0 0], .int .i64 c])) (hb : Below w.heap.size w w') : DecROut s w e w' := by
  refine ⟨.slice none 0 0, ?_, ?_, hb⟩
  · rw [h.out]; exact he
  · rw [h.out]; exact ChS.nil w'
theorem DecROut.ok {s : ByteArray} {w w' : World} {e : Ending} {x : MRec} {v : Value} (h : Hid (decRec s = (x, 0))) (he : e = .returned (.tuple #[.agg #[.int .i64 x.pos, v], .int .i64 0])) (hc : ChS w' v x.chs) (hb : Below w.heap.size w w') : DecROut s w e w' := by
  refine ⟨v, ?_, ?_, hb⟩
  · rw [h.out]; exact he
  · rw [h.out]; exact hc
theorem Calls.recok {P : Program} {f : FuncId} {args : Array Value} {s : ByteArray} {rb : Nat} {a0 a1 : Addr} {w : World} {r : Except Bool (MRec × Nat)} {x : MRec} {k : Nat} (h : Calls P f args w (RecOut s rb a0 a1 w r)) (hr : r = .ok (x, k)) : Calls P f args w fun e w' => ∃ v, e = .returned (.agg #[.int .i64 x.pos, v]) ∧ ChF w w' v x.chs ∧ RdAt w' rb s k ∧ Kx rb w w' :=
  h.mono fun e w' hw => by rw [hr] at hw; exact hw
theorem Calls.recno {P : Program} {f : FuncId} {args : Array Value} {s : ByteArray} {rb : Nat} {a0 a1 : Addr} {w : World} {r : Except Bool (MRec × Nat)} (h : Calls P f args w (RecOut s rb a0 a1 w r)) (hr : r = .error false) : Calls P f args w fun e w' => e = pan a0 ∧ Kx rb w w' :=
  h.mono fun e w' hw => by rw [hr] at hw; exact hw
theorem Calls.recbad {P : Program} {f : FuncId} {args : Array Value} {s : ByteArray} {rb : Nat} {a0 a1 : Addr} {w : World} {r : Except Bool (MRec × Nat)} (h : Calls P f args w (RecOut s rb a0 a1 w r)) (hr : r = .error true) : Calls P f args w fun e w' => e = pan a1 ∧ Kx rb w w' :=
  h.mono fun e w' hw => by rw [hr] at hw; exact hw

theorem results_rec (w : World) (R E : Nat) (cells : Array Value) (t : TypeId) (x : Int) (tmps : Array Value) (hR : w.heap[R]? = some (.cells cells t (0, 0))) (hs : cells.size = 2) (hE : w.cell? ⟨E, 0, none⟩ = some (.int .i64 x))
    (h2 : tmps.getD 2 undef = .pointer (some ⟨R, 0, none⟩)) (h3 : tmps.getD 3 undef = .pointer (some ⟨E, 0, none⟩)) : (results Tryd.f31 tmps).run Tryd.prog w = .ok (.tuple #[.agg cells, .int .i64 x]) w := by
  have h2' : tmps[2]?.getD undef = .pointer (some ⟨R, 0, none⟩) := by simpa using h2
  have h3' : tmps[3]?.getD undef = .pointer (some ⟨E, 0, none⟩) := by simpa using h3
  have hl := run_loadVar_row (P := Tryd.prog) w R t 37 cells (0, 0) _ hR Tryd.underlying37 rfl (by rw [hs]; kernel_rfl)
  have hl2 : (loadVar 26 ⟨E, 0, none⟩).run Tryd.prog w = .ok (.int .i64 x) w := by simp [go_sem, Tryd.isAgg26, hE]
  simp [results, Tryd.results31, h2', h3', asAddr, hl, hl2]

set_option maxRecDepth 100000 in
set_option maxHeartbeats 8000000 in
theorem decodeRecord_any (s : ByteArray) (a0 a1 : Addr) (w : World) (hs : s.size ≤ maxLen) (hg : ErrW w a0 a1) (hb : 1 < w.heap.size ∧ a0.block < w.heap.size ∧ a1.block < w.heap.size) :
    Calls Tryd.prog 31 #[.string s] w (DecROut s w) := by
  have hmf : ∀ (fn : Fn) (first cap : Array Value) (w : World), (Instr.makeFunc fn first cap).run Tryd.prog w = .ok (.func fn first cap) w := fun _ _ _ _ => rfl
  have HG : Hid (∀ w', Below w.heap.size w w' → ErrW w' a0 a1) := Lib.hid (fun w' h => hg.below (by omega) hb.1 hb.2.1 hb.2.2 h)
  clear hg hb
  cases h : rdRec.run s.data.toList 0 with
  | error b =>
    have H := Lib.hid h
    cases b with
    | false =>
      have HD : Hid (decRec s = (recZ, 10)) := Lib.hid (by simp [decRec, h])
      clear h
      have HW3 : Hid (Below w.heap.size w (((w.alloc (.cells #[.int .i64 0, .slice none 0 0] 37)).alloc (.cells #[.int .i64 0] 26)).alloc (.cells #[.string s, .int .i64 0] 63))) := Lib.hid (bt (bt (ba _ _) (ba _ _)) (ba _ _))
      have HRd : Hid (RdAt (((w.alloc (.cells #[.int .i64 0, .slice none 0 0] 37)).alloc (.cells #[.int .i64 0] 26)).alloc (.cells #[.string s, .int .i64 0] 63)) (w.heap.size + 1 + 1) s 0) := Lib.hid ⟨by simp [go_sem], by simp [go_sem], by simp [go_sem]⟩
      have HR3 : Hid ((((w.alloc (.cells #[.int .i64 0, .slice none 0 0] 37)).alloc (.cells #[.int .i64 0] 26)).alloc (.cells #[.string s, .int .i64 0] 63)).heap[w.heap.size]? = some (.cells #[.int .i64 0, .slice none 0 0] 37 (0, 0))) := Lib.hid ((heap_alloc_old _ _ _ (by simp; omega)).trans ((heap_alloc_old _ _ _ (by simp)).trans (heap_alloc_new w _)))
      have HE3 : Hid ((((w.alloc (.cells #[.int .i64 0, .slice none 0 0] 37)).alloc (.cells #[.int .i64 0] 26)).alloc (.cells #[.string s, .int .i64 0] 63)).heap[w.heap.size + 1]? = some (.cells #[.int .i64 0] 26 (0, 0))) := Lib.hid ((heap_alloc_old _ _ _ (by simp)).trans (by have := heap_alloc_new (w.alloc (.cells #[.int .i64 0, .slice none 0 0] 37)) (.cells #[.int .i64 0] 26); rwa [World.size_alloc] at this))
      have HZ3 : Hid ((((w.alloc (.cells #[.int .i64 0, .slice none 0 0] 37)).alloc (.cells #[.int .i64 0] 26)).alloc (.cells #[.string s, .int .i64 0] 63)).heap.size = w.heap.size + 3) := Lib.hid (by simp)
      have hrb : 1 < w.heap.size + 1 + 1 := by omega
      go_enter_defers Tryd.func31, Tryd.ntmps31
      go_wp2_with fail
      (with_reducible refine (Calls.recno (readRecord_any s (w.heap.size + 1 + 1) 0 a0 a1 _ hs (Nat.zero_le _) HRd.out (HG.out _ HW3.out).g0 (HG.out _ HW3.out).g1 hrb) H.out).mono ?_)
      rintro e w4 ⟨rfl, hx4⟩
      have hr4 := (hx4.block w.heap.size (by rw [HZ3.out]; omega) (by omega)).trans HR3.out
      have he4 := (hx4.block (w.heap.size + 1) (by rw [HZ3.out]; omega) (by omega)).trans HE3.out
      have HB4 := Lib.hid (HW3.out.trans (hx4.below (n := w.heap.size) (by omega) (by rw [HZ3.out]; omega)))
      have HHr := Lib.hid hr4
      have HHe := Lib.hid he4
      clear hx4 hr4 he4
      go_wp2_with fail
      refine leaves_cons (f := 51) (args := #[.pointer (some ⟨w.heap.size, 0, none⟩), .pointer (some ⟨w.heap.size + 1, 0, none⟩)]) (by simp) (by simp [go_sem]) ?_
      refine (rescueR_wire w.heap.size (w.heap.size + 1) a0 _ (.int .i64 0) [] _ HHr.out rfl (by simp [World.cell?, HHe.out]) (by simp [World.frozen?, HHe.out]) (by omega) ((HG.out _ HB4.out).g0)).mono ?_
      rintro e u' w'' ⟨rfl, rfl, rfl⟩
      refine ⟨_, results_rec _ w.heap.size (w.heap.size + 1) #[.int .i64 0, .slice none 0 0] 37 10 _ ((heap_setCell_far (by omega) _ _).trans (setRow_heap _ _ _ _ _ _ HHr.out)) rfl (World.cell?_setCell_same _ _ _ (u := .int .i64 0) ((cell_setRow_other _ _ _ _ (by simp)).trans (by simp [World.cell?, HHe.out]))) rfl rfl, ?_⟩
      exact DecROut.zero HD rfl (below_setCell (below_row (HB4.out) (Nat.le_refl _) _) (by simp) _)
    | true =>
      have HD : Hid (decRec s = (recZ, 30)) := Lib.hid (by simp [decRec, h])
      clear h
      have HW3 : Hid (Below w.heap.size w (((w.alloc (.cells #[.int .i64 0, .slice none 0 0] 37)).alloc (.cells #[.int .i64 0] 26)).alloc (.cells #[.string s, .int .i64 0] 63))) := Lib.hid (bt (bt (ba _ _) (ba _ _)) (ba _ _))
      have HRd : Hid (RdAt (((w.alloc (.cells #[.int .i64 0, .slice none 0 0] 37)).alloc (.cells #[.int .i64 0] 26)).alloc (.cells #[.string s, .int .i64 0] 63)) (w.heap.size + 1 + 1) s 0) := Lib.hid ⟨by simp [go_sem], by simp [go_sem], by simp [go_sem]⟩
      have HR3 : Hid ((((w.alloc (.cells #[.int .i64 0, .slice none 0 0] 37)).alloc (.cells #[.int .i64 0] 26)).alloc (.cells #[.string s, .int .i64 0] 63)).heap[w.heap.size]? = some (.cells #[.int .i64 0, .slice none 0 0] 37 (0, 0))) := Lib.hid ((heap_alloc_old _ _ _ (by simp; omega)).trans ((heap_alloc_old _ _ _ (by simp)).trans (heap_alloc_new w _)))
      have HE3 : Hid ((((w.alloc (.cells #[.int .i64 0, .slice none 0 0] 37)).alloc (.cells #[.int .i64 0] 26)).alloc (.cells #[.string s, .int .i64 0] 63)).heap[w.heap.size + 1]? = some (.cells #[.int .i64 0] 26 (0, 0))) := Lib.hid ((heap_alloc_old _ _ _ (by simp)).trans (by have := heap_alloc_new (w.alloc (.cells #[.int .i64 0, .slice none 0 0] 37)) (.cells #[.int .i64 0] 26); rwa [World.size_alloc] at this))
      have HZ3 : Hid ((((w.alloc (.cells #[.int .i64 0, .slice none 0 0] 37)).alloc (.cells #[.int .i64 0] 26)).alloc (.cells #[.string s, .int .i64 0] 63)).heap.size = w.heap.size + 3) := Lib.hid (by simp)
      have hrb : 1 < w.heap.size + 1 + 1 := by omega
      go_enter_defers Tryd.func31, Tryd.ntmps31
      go_wp2_with fail
      (with_reducible refine (Calls.recbad (readRecord_any s (w.heap.size + 1 + 1) 0 a0 a1 _ hs (Nat.zero_le _) HRd.out (HG.out _ HW3.out).g0 (HG.out _ HW3.out).g1 hrb) H.out).mono ?_)
      rintro e w4 ⟨rfl, hx4⟩
      have hr4 := (hx4.block w.heap.size (by rw [HZ3.out]; omega) (by omega)).trans HR3.out
      have he4 := (hx4.block (w.heap.size + 1) (by rw [HZ3.out]; omega) (by omega)).trans HE3.out
      have HB4 := Lib.hid (HW3.out.trans (hx4.below (n := w.heap.size) (by omega) (by rw [HZ3.out]; omega)))
      have HHr := Lib.hid hr4
      have HHe := Lib.hid he4
      clear hx4 hr4 he4
      go_wp2_with fail
      refine leaves_cons (f := 51) (args := #[.pointer (some ⟨w.heap.size, 0, none⟩), .pointer (some ⟨w.heap.size + 1, 0, none⟩)]) (by simp) (by simp [go_sem]) ?_
      refine (rescueR_range w.heap.size (w.heap.size + 1) a0 a1 _ (.int .i64 0) [] _ HHr.out rfl (by simp [World.cell?, HHe.out]) (by simp [World.frozen?, HHe.out]) (by omega) ((HG.out _ HB4.out))).mono ?_
      rintro e u' w'' ⟨rfl, rfl, rfl⟩
      refine ⟨_, results_rec _ w.heap.size (w.heap.size + 1) #[.int .i64 0, .slice none 0 0] 37 30 _ ((heap_setCell_far (by omega) _ _).trans (setRow_heap _ _ _ _ _ _ HHr.out)) rfl (World.cell?_setCell_same _ _ _ (u := .int .i64 0) ((cell_setRow_other _ _ _ _ (by simp)).trans (by simp [World.cell?, HHe.out]))) rfl rfl, ?_⟩
      exact DecROut.zero HD rfl (below_setCell (below_row (HB4.out) (Nat.le_refl _) _) (by simp) _)
  | ok q0 =>
    obtain ⟨x, k⟩ := q0
    have H := Lib.hid h
    by_cases hk : k = s.size
    · subst hk
      by_cases hv : VRec x.pos x.chs
      · have HD : Hid (decRec s = (x, 0)) := Lib.hid (by simp [decRec, h, hv])
        have HV := Lib.hid hv
        clear h hv
        have HW3 : Hid (Below w.heap.size w (((w.alloc (.cells #[.int .i64 0, .slice none 0 0] 37)).alloc (.cells #[.int .i64 0] 26)).alloc (.cells #[.string s, .int .i64 0] 63))) := Lib.hid (bt (bt (ba _ _) (ba _ _)) (ba _ _))
        have HRd : Hid (RdAt (((w.alloc (.cells #[.int .i64 0, .slice none 0 0] 37)).alloc (.cells #[.int .i64 0] 26)).alloc (.cells #[.string s, .int .i64 0] 63)) (w.heap.size + 1 + 1) s 0) := Lib.hid ⟨by simp [go_sem], by simp [go_sem], by simp [go_sem]⟩
        have HR3 : Hid ((((w.alloc (.cells #[.int .i64 0, .slice none 0 0] 37)).alloc (.cells #[.int .i64 0] 26)).alloc (.cells #[.string s, .int .i64 0] 63)).heap[w.heap.size]? = some (.cells #[.int .i64 0, .slice none 0 0] 37 (0, 0))) := Lib.hid ((heap_alloc_old _ _ _ (by simp; omega)).trans ((heap_alloc_old _ _ _ (by simp)).trans (heap_alloc_new w _)))
        have HE3 : Hid ((((w.alloc (.cells #[.int .i64 0, .slice none 0 0] 37)).alloc (.cells #[.int .i64 0] 26)).alloc (.cells #[.string s, .int .i64 0] 63)).heap[w.heap.size + 1]? = some (.cells #[.int .i64 0] 26 (0, 0))) := Lib.hid ((heap_alloc_old _ _ _ (by simp)).trans (by have := heap_alloc_new (w.alloc (.cells #[.int .i64 0, .slice none 0 0] 37)) (.cells #[.int .i64 0] 26); rwa [World.size_alloc] at this))
        have HZ3 : Hid ((((w.alloc (.cells #[.int .i64 0, .slice none 0 0] 37)).alloc (.cells #[.int .i64 0] 26)).alloc (.cells #[.string s, .int .i64 0] 63)).heap.size = w.heap.size + 3) := Lib.hid (by simp)
        have hrb : 1 < w.heap.size + 1 + 1 := by omega
        go_enter_defers Tryd.func31, Tryd.ntmps31
        go_wp2_with fail
        (with_reducible refine (Calls.recok (readRecord_any s (w.heap.size + 1 + 1) 0 a0 a1 _ hs (Nat.zero_le _) HRd.out (HG.out _ HW3.out).g0 (HG.out _ HW3.out).g1 hrb) H.out).mono ?_)
        rintro e w4 ⟨v, rfl, hch, hrd, hx4⟩
        have hr4 := (hx4.block w.heap.size (by rw [HZ3.out]; omega) (by omega)).trans HR3.out
        have he4 := (hx4.block (w.heap.size + 1) (by rw [HZ3.out]; omega) (by omega)).trans HE3.out
        have hz4 : w.heap.size + 3 ≤ w4.heap.size := by have := hx4.size; rw [HZ3.out] at this; exact this
        have HB4 := Lib.hid (below_row (HW3.out.trans (hx4.below (n := w.heap.size) (by omega) (by rw [HZ3.out]; omega))) (Nat.le_refl _) #[.int .i64 x.pos, v])
        have HHr := Lib.hid hr4
        have HRk : Hid (RdAt (w4.setRow w.heap.size #[.int .i64 x.pos, v]) (w.heap.size + 1 + 1) s s.size) := Lib.hid (hrd.setRow (by omega) _)
        have HHr5 : Hid ((w4.setRow w.heap.size #[.int .i64 x.pos, v]).heap[w.heap.size]? = some (.cells #[.int .i64 x.pos, v] 37 (0, 0))) := Lib.hid (setRow_heap _ _ _ _ _ _ hr4)
        have HHe5 : Hid ((w4.setRow w.heap.size #[.int .i64 x.pos, v]).heap[w.heap.size + 1]? = some (.cells #[.int .i64 0] 26 (0, 0))) := Lib.hid ((setRow_other _ _ _ _ (by omega)).trans he4)
        have hone : (v.oneCell') = true := by obtain ⟨b, n, e, _⟩ := hch; rw [e]; rfl
        have HCh5 := Lib.hid (hch.setRow (g := w.heap.size) (by rw [HZ3.out]; omega) #[.int .i64 x.pos, v])
        clear hx4 hr4 he4 hrd hch
        go_wp2_with (first | (refine wpList_store_row rfl 37 _ _ rfl w.heap.size _ rfl rfl 37 _ HHr.out (by kernel_rfl) rfl (by first | (simp [hone, show ∀ n, (Value.int IntKind.i64 n).oneCell' = true from fun _ => rfl]; done) | (simp [Value.oneCell']; done)) ?_))
        (with_reducible refine (end_ok s _ _ HRk.out).mono ?_)
        rintro e w5 ⟨rfl, hb5⟩
        have HB5 := Lib.hid (bt HB4.out hb5)
        have HHr6 := Lib.hid ((hb5.block w.heap.size (by simp; omega)).trans HHr5.out)
        have HHe6 := Lib.hid ((hb5.block (w.heap.size + 1) (by simp; omega)).trans HHe5.out)
        have HCh6 := Lib.hid (HCh5.out.below hb5)
        have hz5 : w.heap.size + 3 ≤ w5.heap.size := by have := hb5.size; simp at this; omega
        clear hb5
        go_wp2_with (first | (refine wpList_load_row rfl 37 _ rfl w.heap.size rfl 37 _ _ _ HHr6.out Tryd.underlying37 rfl (by kernel_rfl) ?_))
        (with_reducible refine (vrecC_t x.pos _ x.chs _ HCh6.out.chs HV.out).mono ?_)
        rintro e w6 ⟨rfl, hb6⟩
        have HB6 := Lib.hid (bt HB5.out hb6)
        have HHr7 := Lib.hid ((hb6.block w.heap.size (by omega)).trans HHr6.out)
        have HHe7 := Lib.hid ((hb6.block (w.heap.size + 1) (by omega)).trans HHe6.out)
        have HCh7 := Lib.hid (HCh6.out.below hb6)
        have he0 : (w6.setRow w.heap.size #[.int .i64 x.pos, v]).cell? ⟨w.heap.size + 1, 0, none⟩ = some (.int .i64 0) := (cell_setRow_other _ _ _ _ (by simp)).trans (by simp [World.cell?, HHe7.out])
        have hf0 : (w6.setRow w.heap.size #[.int .i64 x.pos, v]).frozen? ⟨w.heap.size + 1, 0, none⟩ = false := by simp [World.frozen?, setRow_other w6 w.heap.size (w.heap.size + 1) #[.int .i64 x.pos, v] (by omega), HHe7.out]
        clear hb6
        go_wp2_with (first | (refine wpList_load_row rfl 37 _ rfl w.heap.size rfl 37 _ _ _ HHr7.out Tryd.underlying37 rfl (by kernel_rfl) ?_) | (refine wpList_store_row rfl 37 _ _ rfl w.heap.size _ rfl rfl 37 _ HHr7.out (by kernel_rfl) rfl (by first | (simp [hone, show ∀ n, (Value.int IntKind.i64 n).oneCell' = true from fun _ => rfl]; done) | (simp [Value.oneCell']; done)) ?_))
        refine leaves_cons (f := 51) (args := #[.pointer (some ⟨w.heap.size, 0, none⟩), .pointer (some ⟨w.heap.size + 1, 0, none⟩)]) (by simp) (by simp [go_sem]) ?_
        refine (rescueR_idle w.heap.size (w.heap.size + 1) _).mono ?_
        rintro e u' w'' ⟨rfl, rfl, rfl⟩
        refine ⟨_, results_rec _ w.heap.size (w.heap.size + 1) #[.int .i64 x.pos, v] 37 0 _ ((heap_setCell_far (by omega) _ _).trans (setRow_heap _ _ _ _ _ _ HHr7.out)) rfl (World.cell?_setCell_same _ _ _ (u := .int .i64 0) he0) rfl rfl, ?_⟩
        exact DecROut.ok HD rfl ((HCh7.out.setRow (by rw [HZ3.out]; omega) _).setCell (by rw [HZ3.out]; omega) _ _).chs (below_setCell (below_row HB6.out (Nat.le_refl _) _) (by simp) _)
      · have HD : Hid (decRec s = (recZ, 30)) := Lib.hid (by simp [decRec, h, hv])
        have HV := Lib.hid hv
        clear h hv
        have HW3 : Hid (Below w.heap.size w (((w.alloc (.cells #[.int .i64 0, .slice none 0 0] 37)).alloc (.cells #[.int .i64 0] 26)).alloc (.cells #[.string s, .int .i64 0] 63))) := Lib.hid (bt (bt (ba _ _) (ba _ _)) (ba _ _))
        have HRd : Hid (RdAt (((w.alloc (.cells #[.int .i64 0, .slice none 0 0] 37)).alloc (.cells #[.int .i64 0] 26)).alloc (.cells #[.string s, .int .i64 0] 63)) (w.heap.size + 1 + 1) s 0) := Lib.hid ⟨by simp [go_sem], by simp [go_sem], by simp [go_sem]⟩
        have HR3 : Hid ((((w.alloc (.cells #[.int .i64 0, .slice none 0 0] 37)).alloc (.cells #[.int .i64 0] 26)).alloc (.cells #[.string s, .int .i64 0] 63)).heap[w.heap.size]? = some (.cells #[.int .i64 0, .slice none 0 0] 37 (0, 0))) := Lib.hid ((heap_alloc_old _ _ _ (by simp; omega)).trans ((heap_alloc_old _ _ _ (by simp)).trans (heap_alloc_new w _)))
        have HE3 : Hid ((((w.alloc (.cells #[.int .i64 0, .slice none 0 0] 37)).alloc (.cells #[.int .i64 0] 26)).alloc (.cells #[.string s, .int .i64 0] 63)).heap[w.heap.size + 1]? = some (.cells #[.int .i64 0] 26 (0, 0))) := Lib.hid ((heap_alloc_old _ _ _ (by simp)).trans (by have := heap_alloc_new (w.alloc (.cells #[.int .i64 0, .slice none 0 0] 37)) (.cells #[.int .i64 0] 26); rwa [World.size_alloc] at this))
        have HZ3 : Hid ((((w.alloc (.cells #[.int .i64 0, .slice none 0 0] 37)).alloc (.cells #[.int .i64 0] 26)).alloc (.cells #[.string s, .int .i64 0] 63)).heap.size = w.heap.size + 3) := Lib.hid (by simp)
        have hrb : 1 < w.heap.size + 1 + 1 := by omega
        go_enter_defers Tryd.func31, Tryd.ntmps31
        go_wp2_with fail
        (with_reducible refine (Calls.recok (readRecord_any s (w.heap.size + 1 + 1) 0 a0 a1 _ hs (Nat.zero_le _) HRd.out (HG.out _ HW3.out).g0 (HG.out _ HW3.out).g1 hrb) H.out).mono ?_)
        rintro e w4 ⟨v, rfl, hch, hrd, hx4⟩
        have hr4 := (hx4.block w.heap.size (by rw [HZ3.out]; omega) (by omega)).trans HR3.out
        have he4 := (hx4.block (w.heap.size + 1) (by rw [HZ3.out]; omega) (by omega)).trans HE3.out
        have hz4 : w.heap.size + 3 ≤ w4.heap.size := by have := hx4.size; rw [HZ3.out] at this; exact this
        have HB4 := Lib.hid (below_row (HW3.out.trans (hx4.below (n := w.heap.size) (by omega) (by rw [HZ3.out]; omega))) (Nat.le_refl _) #[.int .i64 x.pos, v])
        have HHr := Lib.hid hr4
        have HRk : Hid (RdAt (w4.setRow w.heap.size #[.int .i64 x.pos, v]) (w.heap.size + 1 + 1) s s.size) := Lib.hid (hrd.setRow (by omega) _)
        have HHr5 : Hid ((w4.setRow w.heap.size #[.int .i64 x.pos, v]).heap[w.heap.size]? = some (.cells #[.int .i64 x.pos, v] 37 (0, 0))) := Lib.hid (setRow_heap _ _ _ _ _ _ hr4)
        have HHe5 : Hid ((w4.setRow w.heap.size #[.int .i64 x.pos, v]).heap[w.heap.size + 1]? = some (.cells #[.int .i64 0] 26 (0, 0))) := Lib.hid ((setRow_other _ _ _ _ (by omega)).trans he4)
        have hone : (v.oneCell') = true := by obtain ⟨b, n, e, _⟩ := hch; rw [e]; rfl
        have HCh5 := Lib.hid (hch.setRow (g := w.heap.size) (by rw [HZ3.out]; omega) #[.int .i64 x.pos, v])
        clear hx4 hr4 he4 hrd hch
        go_wp2_with (first | (refine wpList_store_row rfl 37 _ _ rfl w.heap.size _ rfl rfl 37 _ HHr.out (by kernel_rfl) rfl (by first | (simp [hone, show ∀ n, (Value.int IntKind.i64 n).oneCell' = true from fun _ => rfl]; done) | (simp [Value.oneCell']; done)) ?_))
        (with_reducible refine (end_ok s _ _ HRk.out).mono ?_)
        rintro e w5 ⟨rfl, hb5⟩
        have HB5 := Lib.hid (bt HB4.out hb5)
        have HHr6 := Lib.hid ((hb5.block w.heap.size (by simp; omega)).trans HHr5.out)
        have HHe6 := Lib.hid ((hb5.block (w.heap.size + 1) (by simp; omega)).trans HHe5.out)
        have HCh6 := Lib.hid (HCh5.out.below hb5)
        have hz5 : w.heap.size + 3 ≤ w5.heap.size := by have := hb5.size; simp at this; omega
        clear hb5
        go_wp2_with (first | (refine wpList_load_row rfl 37 _ rfl w.heap.size rfl 37 _ _ _ HHr6.out Tryd.underlying37 rfl (by kernel_rfl) ?_))
        (with_reducible refine (vrecC_f x.pos _ x.chs _ HCh6.out.chs HV.out).mono ?_)
        rintro e w6 ⟨rfl, hb6⟩
        have HB6 := Lib.hid (bt HB5.out hb6)
        have HHr7 := Lib.hid ((hb6.block w.heap.size (by omega)).trans HHr6.out)
        have HHe7 := Lib.hid ((hb6.block (w.heap.size + 1) (by omega)).trans HHe6.out)
        have HCh7 := Lib.hid (HCh6.out.below hb6)
        have he0 : (w6.setRow w.heap.size #[.int .i64 0, .slice none 0 0]).cell? ⟨w.heap.size + 1, 0, none⟩ = some (.int .i64 0) := (cell_setRow_other _ _ _ _ (by simp)).trans (by simp [World.cell?, HHe7.out])
        have hf0 : (w6.setRow w.heap.size #[.int .i64 0, .slice none 0 0]).frozen? ⟨w.heap.size + 1, 0, none⟩ = false := by simp [World.frozen?, setRow_other w6 w.heap.size (w.heap.size + 1) #[.int .i64 0, .slice none 0 0] (by omega), HHe7.out]
        clear hb6
        go_wp2_with (first | (refine wpList_load_row rfl 37 _ rfl w.heap.size rfl 37 _ _ _ HHr7.out Tryd.underlying37 rfl (by kernel_rfl) ?_) | (refine wpList_store_row rfl 37 _ _ rfl w.heap.size _ rfl rfl 37 _ HHr7.out (by kernel_rfl) rfl (by first | (simp [hone, show ∀ n, (Value.int IntKind.i64 n).oneCell' = true from fun _ => rfl]; done) | (simp [Value.oneCell']; done)) ?_))
        refine leaves_cons (f := 51) (args := #[.pointer (some ⟨w.heap.size, 0, none⟩), .pointer (some ⟨w.heap.size + 1, 0, none⟩)]) (by simp) (by simp [go_sem]) ?_
        refine (rescueR_idle w.heap.size (w.heap.size + 1) _).mono ?_
        rintro e u' w'' ⟨rfl, rfl, rfl⟩
        refine ⟨_, results_rec _ w.heap.size (w.heap.size + 1) #[.int .i64 0, .slice none 0 0] 37 30 _ ((heap_setCell_far (by omega) _ _).trans (setRow_heap _ _ _ _ _ _ HHr7.out)) rfl (World.cell?_setCell_same _ _ _ (u := .int .i64 0) he0) rfl rfl, ?_⟩
        exact DecROut.zero HD rfl (below_setCell (below_row HB6.out (Nat.le_refl _) _) (by simp) _)
    · have HD : Hid (decRec s = (recZ, 10)) := Lib.hid (by simp [decRec, h, hk])
      have HK := Lib.hid hk
      clear h hk
      have HW3 : Hid (Below w.heap.size w (((w.alloc (.cells #[.int .i64 0, .slice none 0 0] 37)).alloc (.cells #[.int .i64 0] 26)).alloc (.cells #[.string s, .int .i64 0] 63))) := Lib.hid (bt (bt (ba _ _) (ba _ _)) (ba _ _))
      have HRd : Hid (RdAt (((w.alloc (.cells #[.int .i64 0, .slice none 0 0] 37)).alloc (.cells #[.int .i64 0] 26)).alloc (.cells #[.string s, .int .i64 0] 63)) (w.heap.size + 1 + 1) s 0) := Lib.hid ⟨by simp [go_sem], by simp [go_sem], by simp [go_sem]⟩
      have HR3 : Hid ((((w.alloc (.cells #[.int .i64 0, .slice none 0 0] 37)).alloc (.cells #[.int .i64 0] 26)).alloc (.cells #[.string s, .int .i64 0] 63)).heap[w.heap.size]? = some (.cells #[.int .i64 0, .slice none 0 0] 37 (0, 0))) := Lib.hid ((heap_alloc_old _ _ _ (by simp; omega)).trans ((heap_alloc_old _ _ _ (by simp)).trans (heap_alloc_new w _)))
      have HE3 : Hid ((((w.alloc (.cells #[.int .i64 0, .slice none 0 0] 37)).alloc (.cells #[.int .i64 0] 26)).alloc (.cells #[.string s, .int .i64 0] 63)).heap[w.heap.size + 1]? = some (.cells #[.int .i64 0] 26 (0, 0))) := Lib.hid ((heap_alloc_old _ _ _ (by simp)).trans (by have := heap_alloc_new (w.alloc (.cells #[.int .i64 0, .slice none 0 0] 37)) (.cells #[.int .i64 0] 26); rwa [World.size_alloc] at this))
      have HZ3 : Hid ((((w.alloc (.cells #[.int .i64 0, .slice none 0 0] 37)).alloc (.cells #[.int .i64 0] 26)).alloc (.cells #[.string s, .int .i64 0] 63)).heap.size = w.heap.size + 3) := Lib.hid (by simp)
      have hrb : 1 < w.heap.size + 1 + 1 := by omega
      go_enter_defers Tryd.func31, Tryd.ntmps31
      go_wp2_with fail
      (with_reducible refine (Calls.recok (readRecord_any s (w.heap.size + 1 + 1) 0 a0 a1 _ hs (Nat.zero_le _) HRd.out (HG.out _ HW3.out).g0 (HG.out _ HW3.out).g1 hrb) H.out).mono ?_)
      rintro e w4 ⟨v, rfl, hch, hrd, hx4⟩
      have hr4 := (hx4.block w.heap.size (by rw [HZ3.out]; omega) (by omega)).trans HR3.out
      have he4 := (hx4.block (w.heap.size + 1) (by rw [HZ3.out]; omega) (by omega)).trans HE3.out
      have hz4 : w.heap.size + 3 ≤ w4.heap.size := by have := hx4.size; rw [HZ3.out] at this; exact this
      have HB4 := Lib.hid (below_row (HW3.out.trans (hx4.below (n := w.heap.size) (by omega) (by rw [HZ3.out]; omega))) (Nat.le_refl _) #[.int .i64 x.pos, v])
      have HHr := Lib.hid hr4
      have HRk : Hid (RdAt (w4.setRow w.heap.size #[.int .i64 x.pos, v]) (w.heap.size + 1 + 1) s k) := Lib.hid (hrd.setRow (by omega) _)
      have HHr5 : Hid ((w4.setRow w.heap.size #[.int .i64 x.pos, v]).heap[w.heap.size]? = some (.cells #[.int .i64 x.pos, v] 37 (0, 0))) := Lib.hid (setRow_heap _ _ _ _ _ _ hr4)
      have HHe5 : Hid ((w4.setRow w.heap.size #[.int .i64 x.pos, v]).heap[w.heap.size + 1]? = some (.cells #[.int .i64 0] 26 (0, 0))) := Lib.hid ((setRow_other _ _ _ _ (by omega)).trans he4)
      have hone : (v.oneCell') = true := by obtain ⟨b, n, e, _⟩ := hch; rw [e]; rfl
      have HCh5 := Lib.hid (hch.setRow (g := w.heap.size) (by rw [HZ3.out]; omega) #[.int .i64 x.pos, v])
      clear hx4 hr4 he4 hrd hch
      go_wp2_with (first | (refine wpList_store_row rfl 37 _ _ rfl w.heap.size _ rfl rfl 37 _ HHr.out (by kernel_rfl) rfl (by first | (simp [hone, show ∀ n, (Value.int IntKind.i64 n).oneCell' = true from fun _ => rfl]; done) | (simp [Value.oneCell']; done)) ?_))
      (with_reducible refine (end_no s _ k a0 _ HRk.out HK.out (HG.out _ HB4.out).g0).mono ?_)
      rintro e w5 ⟨rfl, hb5⟩
      have HB5 := Lib.hid (bt HB4.out hb5)
      have HHr6 := Lib.hid ((hb5.block w.heap.size (by simp; omega)).trans HHr5.out)
      have HHe6 := Lib.hid ((hb5.block (w.heap.size + 1) (by simp; omega)).trans HHe5.out)
      clear hb5
      go_wp2_with fail
      refine leaves_cons (f := 51) (args := #[.pointer (some ⟨w.heap.size, 0, none⟩), .pointer (some ⟨w.heap.size + 1, 0, none⟩)]) (by simp) (by simp [go_sem]) ?_
      refine (rescueR_wire w.heap.size (w.heap.size + 1) a0 _ (.int .i64 0) [] _ HHr6.out rfl (by simp [World.cell?, HHe6.out]) (by simp [World.frozen?, HHe6.out]) (by omega) ((HG.out _ HB5.out).g0)).mono ?_
      rintro e u' w'' ⟨rfl, rfl, rfl⟩
      refine ⟨_, results_rec _ w.heap.size (w.heap.size + 1) #[.int .i64 0, .slice none 0 0] 37 10 _ ((heap_setCell_far (by omega) _ _).trans (setRow_heap _ _ _ _ _ _ HHr6.out)) rfl (World.cell?_setCell_same _ _ _ (u := .int .i64 0) ((cell_setRow_other _ _ _ _ (by simp)).trans (by simp [World.cell?, HHe6.out]))) rfl rfl, ?_⟩
      exact DecROut.zero HD rfl (below_setCell (below_row (HB5.out) (Nat.le_refl _) _) (by simp) _)
end Go.Proofs.YtgkdliocfnoffaaDoor
