/- WALKS: readRow, upTo. -/
import Derived.Test.YtgkdliocfnoffaaDoorR1
set_option linter.unusedVariables false set_option linter.unusedSimpArgs false
namespace Go.Proofs.YtgkdliocfnoffaaDoor
open Go.RowKit Go.Sort

theorem ROut.err {α : Type} {s : ByteArray} {rb : Nat} {a0 a1 : Addr} {w : World} {enc : α → Value} {r : Except Bool (α × Nat)} {e : Ending} {w' : World} {b : Bool} (hr : Hid (r = .error b)) (h1 : e = pan (if b then a1 else a0)) (h3 : Kx rb w w') : ROut s rb a0 a1 w enc r e w' := by
  rw [hr.out]; exact ⟨h1, h3⟩
theorem run_bind_err {α β : Type} {L : List UInt8} {p : Rd α} {f : α → Rd β} {k : Nat} {b : Bool} (h : p.run L k = .error b) : (p.bind f).run L k = .error b := by rw [Rd.run_bind, h]
theorem run_bind_ok {α β : Type} {L : List UInt8} {p : Rd α} {f : α → Rd β} {k k' : Nat} {a : α} (h : p.run L k = .ok (a, k')) : (p.bind f).run L k = (f a).run L k' := by rw [Rd.run_bind, h]
theorem run_le {α : Type} {s : ByteArray} {p : Rd α} {k k' : Nat} {a : α} (hk : k ≤ s.size) (h : p.run s.data.toList k = .ok (a, k')) : k' ≤ s.size := by
  obtain ⟨_, _, _, _, _, h5⟩ := run_sound s.data.toList p k k' a hk h
  exact h5

theorem Calls.rno {α : Type} {P : Program} {f : FuncId} {args : Array Value} {s : ByteArray} {rb : Nat} {a0 a1 : Addr} {w : World} {enc : α → Value} {r : Except Bool (α × Nat)} (h : Calls P f args w (ROut s rb a0 a1 w enc r)) (hr : r = .error false) : Calls P f args w fun e w' => e = pan a0 ∧ Kx rb w w' :=
  h.mono fun e w' hw => by rw [hr] at hw; exact hw
theorem Calls.rbad {α : Type} {P : Program} {f : FuncId} {args : Array Value} {s : ByteArray} {rb : Nat} {a0 a1 : Addr} {w : World} {enc : α → Value} {r : Except Bool (α × Nat)} (h : Calls P f args w (ROut s rb a0 a1 w enc r)) (hr : r = .error true) : Calls P f args w fun e w' => e = pan a1 ∧ Kx rb w w' :=
  h.mono fun e w' hw => by rw [hr] at hw; exact hw
/-- Reading three numbers refuses nothing. -/
theorem rd3_no {L : List UInt8} {k : Nat} {b : Bool} (h : rd3.run L k = .error b) : b = false := by
  unfold rd3 at h
  simp only [Rd.run] at h
  split at h
  · injection h with h; exact h.symm
  · split at h
    · injection h with h; exact h.symm
    · split at h
      · injection h with h; exact h.symm
      · cases h

set_option maxRecDepth 100000 in
set_option maxHeartbeats 4000000 in
theorem readRow_any (s : ByteArray) (rb k : Nat) (a0 a1 : Addr) (w : World) (hs : s.size ≤ maxLen) (hk : k ≤ s.size) (hr : RdAt w rb s k) (hg : w.cell? ⟨0, 0, none⟩ = some (errV a0)) (h0 : 0 < rb) :
    Calls Tryd.prog 41 #[nextV rb] w (ROut s rb a0 a1 w rowV (rdRow.run s.data.toList k)) := by
  have hrl := hr.lt
  have hne : ¬ w.heap.size = rb := by omega
  have hne0 : ¬ 0 = rb := by omega
  have hz0 : 0 < w.heap.size := by omega
  have HR := Lib.hid hr
  have HG := Lib.hid hg
  clear hr hg
  cases h1 : decInt (s.data.toList.drop k) with
  | none =>
    have HX : Hid (rdRow.run s.data.toList k = .error false) := Lib.hid (run_get_none h1)
    have H1 := Lib.hid h1
    clear h1
    go_enter Tryd.func41, Tryd.ntmps41
    go_wp2_with fail
    (with_reducible refine (number_no s rb k a0 _ hs hk (HR.out.below (ba _ _)) (by rw [(bcell (ba w _)).1 _ _ hz0]; exact HG.out) H1.out).mono ?_)
    rintro e w1 ⟨rfl, hx1⟩
    go_wp2_with fail
    exact ⟨rfl, ROut.no HX rfl ((Kx.alloc rb w _).trans hx1)⟩
  | some q =>
    obtain ⟨a, m1⟩ := q
    have hk1 := dec_le hk h1
    have hE1 := run_get_some (f := fun t => Rd.get fun k => rd3.bind fun v => Rd.ret (⟨t, k, v⟩ : MRow)) h1
    have H1 := Lib.hid h1
    clear h1
    cases h2 : decInt (s.data.toList.drop (k + m1)) with
    | none =>
      have HX : Hid (rdRow.run s.data.toList k = .error false) := Lib.hid (hE1.trans (run_get_none h2))
      have H2 := Lib.hid h2
      clear h2 hE1
      go_enter Tryd.func41, Tryd.ntmps41
      go_wp2_with fail
      (with_reducible refine (number_ok s rb k _ hs hk (HR.out.below (ba _ _)) H1.out).mono ?_)
      rintro e w1 ⟨rfl, hr1, hx1⟩
      have HR1 := Lib.hid hr1
      clear hr1
      go_wp2_with fail
      (with_reducible refine (number_no s rb (k + m1) a0 _ hs hk1 HR1.out (by rw [((Kx.alloc rb w _).trans hx1).cell.1 _ _ hz0 hne0]; exact HG.out) H2.out).mono ?_)
      rintro e w2 ⟨rfl, hx2⟩
      go_wp2_with fail
      exact ⟨rfl, ROut.no HX rfl ((Kx.alloc rb w _).trans (hx1.trans hx2))⟩
    | some q =>
      obtain ⟨b, m2⟩ := q
      have hk2 := dec_le hk1 h2
      have hE2 := hE1.trans (run_get_some (f := fun k => rd3.bind fun v => Rd.ret (⟨a, k, v⟩ : MRow)) h2)
      have H2 := Lib.hid h2
      clear h2 hE1
      cases h3 : rd3.run s.data.toList (k + m1 + m2) with
      | error eb =>
        obtain rfl := rd3_no h3
        have HX : Hid (rdRow.run s.data.toList k = .error false) := Lib.hid (hE2.trans (run_bind_err h3))
        have H3 := Lib.hid h3
        clear h3 hE2
        go_enter Tryd.func41, Tryd.ntmps41
        go_wp2_with fail
        (with_reducible refine (number_ok s rb k _ hs hk (HR.out.below (ba _ _)) H1.out).mono ?_)
        rintro e w1 ⟨rfl, hr1, hx1⟩
        have HR1 := Lib.hid hr1
        clear hr1
        go_wp2_with fail
        (with_reducible refine (number_ok s rb (k + m1) _ hs hk1 HR1.out H2.out).mono ?_)
        rintro e w2 ⟨rfl, hr2, hx2⟩
        have HR2 := Lib.hid hr2
        clear hr2
        go_wp2_with fail
        (with_reducible refine (Calls.rno (readValues_any s rb (k + m1 + m2) a0 a1 _ hs hk2 HR2.out (by rw [((Kx.alloc rb w _).trans (hx1.trans hx2)).cell.1 _ _ hz0 hne0]; exact HG.out) h0) H3.out).mono ?_)
        rintro e w3 ⟨rfl, hx3⟩
        go_wp2_with fail
        exact ⟨rfl, ROut.no HX rfl ((Kx.alloc rb w _).trans (hx1.trans (hx2.trans hx3)))⟩
      | ok q =>
        obtain ⟨⟨x, y, z⟩, k3⟩ := q
        have HX : Hid (rdRow.run s.data.toList k = .ok (⟨a, b, ⟨x, y, z⟩⟩, k3)) := Lib.hid (hE2.trans ((run_bind_ok h3).trans rfl))
        have H3 := Lib.hid h3
        clear h3 hE2
        go_enter Tryd.func41, Tryd.ntmps41
        go_wp2_with fail
        (with_reducible refine (number_ok s rb k _ hs hk (HR.out.below (ba _ _)) H1.out).mono ?_)
        rintro e w1 ⟨rfl, hr1, hx1⟩
        have HR1 := Lib.hid hr1
        clear hr1
        go_wp2_with fail
        (with_reducible refine (number_ok s rb (k + m1) _ hs hk1 HR1.out H2.out).mono ?_)
        rintro e w2 ⟨rfl, hr2, hx2⟩
        have HR2 := Lib.hid hr2
        clear hr2
        go_wp2_with fail
        (with_reducible refine (Calls.rok (readValues_any s rb (k + m1 + m2) a0 a1 _ hs hk2 HR2.out (by rw [((Kx.alloc rb w _).trans (hx1.trans hx2)).cell.1 _ _ hz0 hne0]; exact HG.out) h0) H3.out).mono ?_)
        rintro e w3 ⟨rfl, hr3, hx3⟩
        have HR3 := Lib.hid hr3
        clear hr3
        have hX := hx1.trans (hx2.trans hx3)
        obtain ⟨hc, hf⟩ := hX.cell
        have HK := Lib.hid ((Kx.alloc rb w _).trans hX)
        clear hx1 hx2 hx3 hX
        go_wp2_with fail
        refine bodyPost_ret (v := .agg #[.int .i64 a, .int .i64 b, .int .i64 x, .int .i64 y, .int .i64 z]) (by simp [results, Tryd.results41, go_sem, hc, hf, hne]) rfl ?_
        exact ROut.ok HX rfl (((((HR3.out.setOther hne _ _).setOther hne _ _).setOther hne _ _).setOther hne _ _).setOther hne _ _) (((((HK.out.setNew (Nat.le_refl _) _ _).setNew (Nat.le_refl _) _ _).setNew (Nat.le_refl _) _ _).setNew (Nat.le_refl _) _ _).setNew (Nat.le_refl _) _ _)

set_option maxRecDepth 100000 in
set_option maxHeartbeats 1000000 in
theorem upTo_ok (most n : Int) (w : World) (h1 : 1 ≤ n) (h2 : n ≤ most) :
    Calls Tryd.prog 63 #[.int .i64 most, .int .i64 n] w fun e w' => e = .returned (.int .i64 n) ∧ w' = w := by
  go_enter Tryd.func63, Tryd.ntmps63
  go_wp2
  go_ret
  exact ⟨rfl, rfl⟩
set_option maxRecDepth 100000 in
set_option maxHeartbeats 1000000 in
theorem upTo_bad (most n : Int) (a1 : Addr) (w : World) (h : n < 1 ∨ most < n) (hg : w.cell? ⟨1, 0, none⟩ = some (errV a1)) :
    Calls Tryd.prog 63 #[.int .i64 most, .int .i64 n] w fun e w' => e = pan a1 ∧ w' = w := by
  unfold errV at hg
  rcases h with h | h
  all_goals
    go_enter Tryd.func63, Tryd.ntmps63
    go_wp2
    all_goals exact ⟨rfl, rfl, rfl⟩
end Go.Proofs.YtgkdliocfnoffaaDoor
