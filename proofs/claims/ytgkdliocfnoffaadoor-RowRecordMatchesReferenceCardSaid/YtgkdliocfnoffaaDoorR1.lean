/- WALKS: the reader's number and end. -/
import Derived.Test.YtgkdliocfnoffaaDoorN6
set_option linter.unusedVariables false set_option linter.unusedSimpArgs false
namespace Go.Proofs.YtgkdliocfnoffaaDoor
open Go.RowKit Go.Sort

/-- The reader in block rb: its text, its offset. -/
def RdAt (w : World) (rb : Nat) (s : ByteArray) (k : Nat) : Prop :=
  w.cell? ⟨rb, 0, none⟩ = some (.string s) ∧ w.cell? ⟨rb, 1, none⟩ = some (.int .i64 (k : Int)) ∧ w.frozen? ⟨rb, 1, none⟩ = false
/-- The two errors that reading panics with. -/
abbrev errV (a : Addr) : Value := .iface 116 (.pointer (some a))
abbrev pan (a : Addr) : Ending := .panicked [{ v := errV a, recovered := false }]

theorem int_n (s : ByteArray) (k : Nat) (w : World) (hs : s.size ≤ maxLen) (hk : k ≤ s.size) (h : decInt (s.data.toList.drop k) = none) :
    Calls Tryd.prog 60 #[.string s, .int .i64 k] w fun e w' => e = .returned (.tuple #[.int .i64 0, .int .i64 0, .int .i64 10]) ∧ w' = w := int_none s k w hs hk h

set_option maxRecDepth 100000 in
set_option maxHeartbeats 1000000 in
theorem number_some (s : ByteArray) (rb k : Nat) (w : World) (hs : s.size ≤ maxLen) (hk : k ≤ s.size) (hr : RdAt w rb s k) {n : Int} {m : Nat} (h : decInt (s.data.toList.drop k) = some (n, m)) :
    Calls Tryd.prog 42 #[.pointer (some ⟨rb, 0, none⟩)] w fun e w' => ∃ q, e = .returned (.int .i64 n) ∧ w' = (w.setCell ⟨rb, 1, none⟩ (.int .i64 ((k + m : Nat) : Int))).drewN q := by
  obtain ⟨c0, c1, f1⟩ := hr
  have H := Lib.hid h
  clear h
  have hp : ∀ q, Calls Tryd.prog 60 #[.string s, .int .i64 k] (w.drewN q) fun e w' => e = .returned (.tuple #[.int .i64 n, .int .i64 ((k + m : Nat) : Int), .int .i64 0]) ∧ w' = w.drewN q := fun q => int_some s k _ hs hk H.out
  go_enter Tryd.func42, Tryd.ntmps42
  go_wp2_with fail
  go_quiet ((exact Calls.quiet_of_same (hp _)))
  go_wp2_with fail
  go_ret
  exact ⟨nq, rfl, rfl⟩

set_option maxRecDepth 100000 in
set_option maxHeartbeats 1000000 in
theorem number_none (s : ByteArray) (rb k : Nat) (a0 : Addr) (w : World) (hs : s.size ≤ maxLen) (hk : k ≤ s.size) (hr : RdAt w rb s k) (hg : w.cell? ⟨0, 0, none⟩ = some (errV a0)) (h : decInt (s.data.toList.drop k) = none) :
    Calls Tryd.prog 42 #[.pointer (some ⟨rb, 0, none⟩)] w fun e w' => ∃ q, e = pan a0 ∧ w' = w.drewN q := by
  obtain ⟨c0, c1, f1⟩ := hr
  have H := Lib.hid h
  clear h
  have hp : ∀ q, Calls Tryd.prog 60 #[.string s, .int .i64 k] (w.drewN q) fun e w' => e = .returned (.tuple #[.int .i64 0, .int .i64 0, .int .i64 10]) ∧ w' = w.drewN q := fun q => int_none s k _ hs hk H.out
  unfold errV at hg
  go_enter Tryd.func42, Tryd.ntmps42
  go_wp2_with fail
  go_quiet ((exact Calls.quiet_of_same (hp _)))
  go_wp2
  exact ⟨rfl, nq, rfl, rfl⟩

/-- All blocks but the reader's stand as they stood. -/
structure Kx (rb : Nat) (w w' : World) : Prop where
  os : w'.os = w.os
  tape : w'.tape = w.tape
  output : w'.output = w.output
  size : w.heap.size ≤ w'.heap.size
  block : ∀ k, k < w.heap.size → k ≠ rb → w'.heap[k]? = w.heap[k]?
theorem Kx.refl (rb : Nat) (w : World) : Kx rb w w := ⟨rfl, rfl, rfl, Nat.le_refl _, fun _ _ _ => rfl⟩
theorem Kx.trans {rb : Nat} {a b c : World} (h : Kx rb a b) (k : Kx rb b c) : Kx rb a c :=
  ⟨k.os.trans h.os, k.tape.trans h.tape, k.output.trans h.output, Nat.le_trans h.size k.size, fun j hj hne => (k.block j (Nat.lt_of_lt_of_le hj h.size) hne).trans (h.block j hj hne)⟩
theorem Kx.of_below {rb : Nat} {w w' : World} (h : Below w.heap.size w w') : Kx rb w w' := ⟨h.os, h.tape, h.output, h.size, fun k hk _ => h.block k hk⟩
theorem Kx.setCell (rb : Nat) (w : World) (o : Nat) (v : Value) : Kx rb w (w.setCell ⟨rb, o, none⟩ v) := ⟨rfl, rfl, rfl, by simp [World.setCell], fun k _ hne => Below.heap_setCell w ⟨rb, o, none⟩ v k hne⟩
theorem Kx.drewN (rb : Nat) (w : World) (q : Nat) : Kx rb w (w.drewN q) := .of_below (below_drewN (Below.refl _ _) q)
theorem Kx.alloc (rb : Nat) (w : World) (o : Obj) : Kx rb w (w.alloc o) := .of_below (ba w o)
theorem Kx.below {rb : Nat} {w w' : World} (h : Kx rb w w') {n : Nat} (hn : n ≤ rb) (hs : n ≤ w.heap.size) : Below n w w' := ⟨h.os, h.tape, h.output, h.size, fun k hk => h.block k (by omega) (by omega)⟩
theorem Kx.cell {rb : Nat} {w w' : World} (h : Kx rb w w') : (∀ b o, b < w.heap.size → b ≠ rb → w'.cell? ⟨b, o, none⟩ = w.cell? ⟨b, o, none⟩) ∧ (∀ b o, b < w.heap.size → b ≠ rb → w'.frozen? ⟨b, o, none⟩ = w.frozen? ⟨b, o, none⟩) :=
  ⟨fun b o hb hne => by simp only [World.cell?, h.block b hb hne], fun b o hb hne => by simp only [World.frozen?, h.block b hb hne]⟩

theorem RdAt.drewN {w : World} {rb : Nat} {s : ByteArray} {k : Nat} (h : RdAt w rb s k) (q : Nat) : RdAt (w.drewN q) rb s k := h
theorem RdAt.setCell {w : World} {rb : Nat} {s : ByteArray} {k : Nat} (h : RdAt w rb s k) (k' : Nat) : RdAt (w.setCell ⟨rb, 1, none⟩ (.int .i64 (k' : Int))) rb s k' := by
  obtain ⟨h0, h1, h2⟩ := h
  refine ⟨?_, ?_, ?_⟩
  · rw [World.cell?_setCell_other _ _ _ _ (by simp)]; exact h0
  · exact World.cell?_setCell_same _ _ _ h1
  · rw [World.frozen?_setCell]; exact h2
theorem RdAt.below {w w' : World} {rb : Nat} {s : ByteArray} {k : Nat} (h : RdAt w rb s k) (hb : Below w.heap.size w w') : RdAt w' rb s k := by
  obtain ⟨h0, h1, h2⟩ := h
  have hl : rb < w.heap.size := World.block_lt_of_cell? w _ h0
  exact ⟨by rw [(bcell hb).1 _ _ hl]; exact h0, by rw [(bcell hb).1 _ _ hl]; exact h1, by rw [(bcell hb).2 _ _ hl]; exact h2⟩
theorem RdAt.lt {w : World} {rb : Nat} {s : ByteArray} {k : Nat} (h : RdAt w rb s k) : rb < w.heap.size := World.block_lt_of_cell? w _ h.1

/-- The two errors as the package's variables hold them. -/
structure ErrW (w : World) (a0 a1 : Addr) : Prop where
  g0 : w.cell? ⟨0, 0, none⟩ = some (errV a0)
  g1 : w.cell? ⟨1, 0, none⟩ = some (errV a1)
  ne : a0 ≠ a1
  h0 : ∃ cs t, w.heap[a0.block]? = some (.cells cs t (0, 0))
  h1 : ∃ cs t, w.heap[a1.block]? = some (.cells cs t (0, 0))
theorem ErrW.below {w w' : World} {a0 a1 : Addr} (h : ErrW w a0 a1) {n : Nat} (h0 : 0 < n) (h1 : 1 < n) (hn0 : a0.block < n) (hn1 : a1.block < n) (hb : Below n w w') : ErrW w' a0 a1 := by
  obtain ⟨e0, e1, e2, ⟨c0, t0, e3⟩, ⟨c1, t1, e4⟩⟩ := h
  refine ⟨?_, ?_, e2, ⟨c0, t0, ?_⟩, ⟨c1, t1, ?_⟩⟩
  · rw [hb.cell (p := ⟨0, 0, none⟩) h0]; exact e0
  · rw [hb.cell (p := ⟨1, 0, none⟩) h1]; exact e1
  · rw [hb.block _ hn0]; exact e3
  · rw [hb.block _ hn1]; exact e4

/-- Reading one number, in these words. -/
def numOk (s : ByteArray) (rb : Nat) (w : World) (n : Int) (k' : Nat) (e : Ending) (w' : World) : Prop := e = .returned (.int .i64 n) ∧ RdAt w' rb s k' ∧ Kx rb w w'
theorem number_ok (s : ByteArray) (rb k : Nat) (w : World) (hs : s.size ≤ maxLen) (hk : k ≤ s.size) (hr : RdAt w rb s k) {n : Int} {m : Nat} (h : decInt (s.data.toList.drop k) = some (n, m)) :
    Calls Tryd.prog 42 #[.pointer (some ⟨rb, 0, none⟩)] w fun e w' => e = .returned (.int .i64 n) ∧ RdAt w' rb s (k + m) ∧ Kx rb w w' :=
  (number_some s rb k w hs hk hr h).mono fun e w' ⟨q, he, hw⟩ => ⟨he, by rw [hw]; exact (hr.setCell (k + m)).drewN q, by rw [hw]; exact (Kx.setCell rb w 1 _).trans (Kx.drewN rb _ q)⟩
theorem number_no (s : ByteArray) (rb k : Nat) (a0 : Addr) (w : World) (hs : s.size ≤ maxLen) (hk : k ≤ s.size) (hr : RdAt w rb s k) (hg : w.cell? ⟨0, 0, none⟩ = some (errV a0)) (h : decInt (s.data.toList.drop k) = none) :
    Calls Tryd.prog 42 #[.pointer (some ⟨rb, 0, none⟩)] w fun e w' => e = pan a0 ∧ Kx rb w w' :=
  (number_none s rb k a0 w hs hk hr hg h).mono fun e w' ⟨q, he, hw⟩ => ⟨he, by rw [hw]; exact Kx.drewN rb w q⟩

theorem Kx.setNew {rb : Nat} {w w' : World} (h : Kx rb w w') {b : Nat} (hb : w.heap.size ≤ b) (o : Nat) (v : Value) : Kx rb w (w'.setCell ⟨b, o, none⟩ v) :=
  ⟨h.os, h.tape, h.output, by simpa [World.setCell] using h.size, fun k hk hne => (Below.heap_setCell w' ⟨b, o, none⟩ v k (by simp only; omega)).trans (h.block k hk hne)⟩
theorem RdAt.setOther {w : World} {rb : Nat} {s : ByteArray} {k : Nat} (h : RdAt w rb s k) {b : Nat} (hb : ¬ b = rb) (o : Nat) (v : Value) : RdAt (w.setCell ⟨b, o, none⟩ v) rb s k := by
  obtain ⟨h0, h1, h2⟩ := h
  refine ⟨?_, ?_, ?_⟩
  · exact (World.cell?_setCell_other w ⟨b, o, none⟩ ⟨rb, 0, none⟩ v (fun e => hb (congrArg Addr.block e))).trans h0
  · exact (World.cell?_setCell_other w ⟨b, o, none⟩ ⟨rb, 1, none⟩ v (fun e => hb (congrArg Addr.block e))).trans h1
  · rw [World.frozen?_setCell]; exact h2

/-- What reading comes to: a value, or one of the two panics. -/
def ROut {α : Type} (s : ByteArray) (rb : Nat) (a0 a1 : Addr) (w : World) (enc : α → Value) (r : Except Bool (α × Nat)) (e : Ending) (w' : World) : Prop :=
  match r with
  | .ok (a, k) => e = .returned (enc a) ∧ RdAt w' rb s k ∧ Kx rb w w'
  | .error b => e = pan (if b then a1 else a0) ∧ Kx rb w w'
theorem ROut.ok {α : Type} {s : ByteArray} {rb : Nat} {a0 a1 : Addr} {w : World} {enc : α → Value} {r : Except Bool (α × Nat)} {e : Ending} {w' : World} {a : α} {k : Nat} (hr : Hid (r = .ok (a, k))) (h1 : e = .returned (enc a)) (h2 : RdAt w' rb s k) (h3 : Kx rb w w') : ROut s rb a0 a1 w enc r e w' := by
  rw [hr.out]; exact ⟨h1, h2, h3⟩
theorem ROut.no {α : Type} {s : ByteArray} {rb : Nat} {a0 a1 : Addr} {w : World} {enc : α → Value} {r : Except Bool (α × Nat)} {e : Ending} {w' : World} (hr : Hid (r = .error false)) (h1 : e = pan a0) (h3 : Kx rb w w') : ROut s rb a0 a1 w enc r e w' := by
  rw [hr.out]; exact ⟨h1, h3⟩
theorem ROut.bad {α : Type} {s : ByteArray} {rb : Nat} {a0 a1 : Addr} {w : World} {enc : α → Value} {r : Except Bool (α × Nat)} {e : Ending} {w' : World} (hr : Hid (r = .error true)) (h1 : e = pan a1) (h3 : Kx rb w w') : ROut s rb a0 a1 w enc r e w' := by
  rw [hr.out]; exact ⟨h1, h3⟩
theorem Calls.rok {α : Type} {P : Program} {f : FuncId} {args : Array Value} {s : ByteArray} {rb : Nat} {a0 a1 : Addr} {w : World} {enc : α → Value} {r : Except Bool (α × Nat)} {a : α} {k : Nat} (h : Calls P f args w (ROut s rb a0 a1 w enc r)) (hr : r = .ok (a, k)) : Calls P f args w fun e w' => e = .returned (enc a) ∧ RdAt w' rb s k ∧ Kx rb w w' :=
  h.mono fun e w' hw => by rw [hr] at hw; exact hw
theorem Calls.rerr {α : Type} {P : Program} {f : FuncId} {args : Array Value} {s : ByteArray} {rb : Nat} {a0 a1 : Addr} {w : World} {enc : α → Value} {r : Except Bool (α × Nat)} {b : Bool} (h : Calls P f args w (ROut s rb a0 a1 w enc r)) (hr : r = .error b) : Calls P f args w fun e w' => e = pan (if b then a1 else a0) ∧ Kx rb w w' :=
  h.mono fun e w' hw => by rw [hr] at hw; exact hw

abbrev nextV (rb : Nat) : Value := .func (.func 42) #[.pointer (some ⟨rb, 0, none⟩)] #[]
theorem run_get_some {α : Type} {L : List UInt8} {f : Int → Rd α} {k m : Nat} {n : Int} (h : decInt (L.drop k) = some (n, m)) : (Rd.get f).run L k = (f n).run L (k + m) := by simp only [Rd.run, h]
theorem run_get_none {α : Type} {L : List UInt8} {f : Int → Rd α} {k : Nat} (h : decInt (L.drop k) = none) : (Rd.get f).run L k = .error false := by simp only [Rd.run, h]
theorem dec_le {s : ByteArray} {k m : Nat} {n : Int} (hk : k ≤ s.size) (h : decInt (s.data.toList.drop k) = some (n, m)) : k + m ≤ s.size := by
  obtain ⟨_, _, h3, _⟩ := decInt_sound h
  rw [List.length_drop] at h3
  have : s.data.toList.length = s.size := rfl
  omega

set_option maxRecDepth 100000 in
set_option maxHeartbeats 4000000 in
theorem readValues_any (s : ByteArray) (rb k : Nat) (a0 a1 : Addr) (w : World) (hs : s.size ≤ maxLen) (hk : k ≤ s.size) (hr : RdAt w rb s k) (hg : w.cell? ⟨0, 0, none⟩ = some (errV a0)) (h0 : 0 < rb) :
    Calls Tryd.prog 59 #[nextV rb] w (ROut s rb a0 a1 w v3V (rd3.run s.data.toList k)) := by
  have hrl := hr.lt
  have hne : ¬ w.heap.size = rb := by omega
  have hne0 : ¬ 0 = rb := by omega
  have hz0 : 0 < w.heap.size := by omega
  have HR := Lib.hid hr
  have HG := Lib.hid hg
  clear hr hg
  cases h1 : decInt (s.data.toList.drop k) with
  | none =>
    have HX : Hid (rd3.run s.data.toList k = .error false) := Lib.hid (run_get_none h1)
    have H1 := Lib.hid h1
    clear h1
    go_enter Tryd.func59, Tryd.ntmps59
    go_wp2_with fail
    (with_reducible refine (number_no s rb k a0 _ hs hk (HR.out.below (ba _ _)) (by rw [(bcell (ba w _)).1 _ _ hz0]; exact HG.out) H1.out).mono ?_)
    rintro e w1 ⟨rfl, hx1⟩
    go_wp2_with fail
    exact ⟨rfl, ROut.no HX rfl ((Kx.alloc rb w _).trans hx1)⟩
  | some q =>
    obtain ⟨a, m1⟩ := q
    have hk1 := dec_le hk h1
    have hE1 := run_get_some (f := fun a => Rd.get fun b => Rd.get fun c => Rd.ret (⟨a, b, c⟩ : V3)) h1
    have H1 := Lib.hid h1
    clear h1
    cases h2 : decInt (s.data.toList.drop (k + m1)) with
    | none =>
      have HX : Hid (rd3.run s.data.toList k = .error false) := Lib.hid (hE1.trans (run_get_none h2))
      have H2 := Lib.hid h2
      clear h2 hE1
      go_enter Tryd.func59, Tryd.ntmps59
      go_wp2_with fail
      (with_reducible refine (number_ok s rb k _ hs hk (HR.out.below (ba _ _)) H1.out).mono ?_)
      rintro e w1 ⟨rfl, hr1, hx1⟩
      have HR1 := Lib.hid hr1
      clear hr1
      go_wp2_with fail
      (with_reducible refine (number_no s rb (k + m1) a0 _ hs hk1 HR1.out (by rw [((Kx.alloc rb w _).trans hx1).cell.1 _ _ hz0 hne0]; exact HG.out) H2.out).mono ?_)
      rintro e w2 ⟨rfl, hx2⟩
      go_wp2_with fail
      exact ⟨rfl, ROut.no HX rfl ((Kx.alloc rb w _).trans (hx1.trans hx2))⟩
    | some q =>
      obtain ⟨b, m2⟩ := q
      have hk2 := dec_le hk1 h2
      have hE2 := hE1.trans (run_get_some (f := fun b => Rd.get fun c => Rd.ret (⟨a, b, c⟩ : V3)) h2)
      have H2 := Lib.hid h2
      clear h2 hE1
      cases h3 : decInt (s.data.toList.drop (k + m1 + m2)) with
      | none =>
        have HX : Hid (rd3.run s.data.toList k = .error false) := Lib.hid (hE2.trans (run_get_none h3))
        have H3 := Lib.hid h3
        clear h3 hE2
        go_enter Tryd.func59, Tryd.ntmps59
        go_wp2_with fail
        (with_reducible refine (number_ok s rb k _ hs hk (HR.out.below (ba _ _)) H1.out).mono ?_)
        rintro e w1 ⟨rfl, hr1, hx1⟩
        have HR1 := Lib.hid hr1
        clear hr1
        go_wp2_with fail
        (with_reducible refine (number_ok s rb (k + m1) _ hs hk1 HR1.out H2.out).mono ?_)
        rintro e w2 ⟨rfl, hr2, hx2⟩
        have HR2 := Lib.hid hr2
        clear hr2
        go_wp2_with fail
        (with_reducible refine (number_no s rb (k + m1 + m2) a0 _ hs hk2 HR2.out (by rw [((Kx.alloc rb w _).trans (hx1.trans hx2)).cell.1 _ _ hz0 hne0]; exact HG.out) H3.out).mono ?_)
        rintro e w3 ⟨rfl, hx3⟩
        go_wp2_with fail
        exact ⟨rfl, ROut.no HX rfl ((Kx.alloc rb w _).trans (hx1.trans (hx2.trans hx3)))⟩
      | some q =>
        obtain ⟨c, m3⟩ := q
        have HX : Hid (rd3.run s.data.toList k = .ok (⟨a, b, c⟩, k + m1 + m2 + m3)) := Lib.hid (hE2.trans ((run_get_some h3).trans rfl))
        have H3 := Lib.hid h3
        clear h3 hE2
        go_enter Tryd.func59, Tryd.ntmps59
        go_wp2_with fail
        (with_reducible refine (number_ok s rb k _ hs hk (HR.out.below (ba _ _)) H1.out).mono ?_)
        rintro e w1 ⟨rfl, hr1, hx1⟩
        have HR1 := Lib.hid hr1
        clear hr1
        go_wp2_with fail
        (with_reducible refine (number_ok s rb (k + m1) _ hs hk1 HR1.out H2.out).mono ?_)
        rintro e w2 ⟨rfl, hr2, hx2⟩
        have HR2 := Lib.hid hr2
        clear hr2
        go_wp2_with fail
        (with_reducible refine (number_ok s rb (k + m1 + m2) _ hs hk2 HR2.out H3.out).mono ?_)
        rintro e w3 ⟨rfl, hr3, hx3⟩
        have HR3 := Lib.hid hr3
        clear hr3
        have hX := hx1.trans (hx2.trans hx3)
        obtain ⟨hc, hf⟩ := hX.cell
        have HK := Lib.hid ((Kx.alloc rb w _).trans hX)
        clear hx1 hx2 hx3 hX
        go_wp2_with fail
        refine bodyPost_ret (v := .agg #[.int .i64 a, .int .i64 b, .int .i64 c]) (by simp [results, Tryd.results59, go_sem, hc, hf, hne]) rfl ?_
        exact ROut.ok HX rfl (((HR3.out.setOther hne _ _).setOther hne _ _).setOther hne _ _) (((HK.out.setNew (Nat.le_refl _) _ _).setNew (Nat.le_refl _) _ _).setNew (Nat.le_refl _) _ _)
end Go.Proofs.YtgkdliocfnoffaaDoor
