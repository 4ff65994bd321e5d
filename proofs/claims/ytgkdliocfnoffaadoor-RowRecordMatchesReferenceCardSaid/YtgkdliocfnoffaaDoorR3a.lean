/- WALKS: readChange, where no values are read. -/
import Derived.Test.YtgkdliocfnoffaaDoorR3
set_option linter.unusedVariables false
namespace Go.Proofs.YtgkdliocfnoffaaDoor
open Go.RowKit Go.Sort

set_option maxRecDepth 100000 in
set_option maxHeartbeats 16000000 in
theorem readChange_early (s : ByteArray) (rb k : Nat) (a0 a1 : Addr) (w : World) (hs : s.size ≤ maxLen) (hk : k ≤ s.size) (hr : RdAt w rb s k) (hg : w.cell? ⟨0, 0, none⟩ = some (errV a0)) (hg1 : w.cell? ⟨1, 0, none⟩ = some (errV a1)) (h0 : 1 < rb) (hno : ∀ t m1 q m2 m m3, decInt (s.data.toList.drop k) = some (t, m1) → decInt (s.data.toList.drop (k + m1)) = some (q, m2) → decInt (s.data.toList.drop (k + m1 + m2)) = some (m, m3) → m < 1 ∨ 3 < m) :
    Calls Tryd.prog 64 #[nextV rb] w (ROut s rb a0 a1 w chV (rdCh.run s.data.toList k)) := by
  have HNo := Lib.hid hno
  clear hno
  have hrl := hr.lt
  have hne : ¬ w.heap.size = rb := by omega
  have hne0 : ¬ 0 = rb := by omega
  have hne1 : ¬ 1 = rb := by omega
  have h00 : 0 < rb := by omega
  have hz0 : 0 < w.heap.size := by omega
  have hz1 : 1 < w.heap.size := by omega
  have hb11 : bits .and .i64 1 1 = 1 := by decide
  have hb12 : bits .and .i64 1 2 = 0 := by decide
  have hb21 : bits .and .i64 2 1 = 0 := by decide
  have hb22 : bits .and .i64 2 2 = 2 := by decide
  have hb31 : bits .and .i64 3 1 = 1 := by decide
  have hb32 : bits .and .i64 3 2 = 2 := by decide
  have HR := Lib.hid hr
  have HG : Hid (∀ w', Kx rb w w' → w'.cell? ⟨0, 0, none⟩ = some (errV a0)) := Lib.hid (fun w' h => by rw [h.cell.1 _ _ hz0 hne0]; exact hg)
  have HG1 : Hid (∀ w', Kx rb w w' → w'.cell? ⟨1, 0, none⟩ = some (errV a1)) := Lib.hid (fun w' h => by rw [h.cell.1 _ _ hz1 hne1]; exact hg1)
  have HA0 := Lib.hid (Kx.alloc rb w (.cells #[.int .i64 0, .int .i64 0, .bool false, .int .i64 0, .int .i64 0, .int .i64 0, .bool false, .int .i64 0, .int .i64 0, .int .i64 0] 42))
  clear hr hg hg1
  cases h1 : decInt (s.data.toList.drop k) with
  | none =>
    have HX : Hid (rdCh.run s.data.toList k = .error false) := Lib.hid (run_get_none h1)
    have H1 := Lib.hid h1
    clear h1
    go_enter Tryd.func64, Tryd.ntmps64
    go_wp2_with fail
    (with_reducible refine (number_no s rb k a0 _ hs hk (HR.out.below (ba _ _)) (HG.out _ HA0.out) H1.out).mono ?_)
    rintro e w1 ⟨rfl, hx1⟩
    go_wp2_with fail
    exact ⟨rfl, ROut.no HX rfl (HA0.out.trans hx1)⟩
  | some q =>
    obtain ⟨t, m1⟩ := q
    have hk1 := dec_le hk h1
    have hE1 := run_get_some (f := fun t => Rd.get fun k => Rd.get fun m => rdChT t k m) h1
    have H1 := Lib.hid h1
    clear h1
    cases h2 : decInt (s.data.toList.drop (k + m1)) with
    | none =>
      have HX : Hid (rdCh.run s.data.toList k = .error false) := Lib.hid (hE1.trans (run_get_none h2))
      have H2 := Lib.hid h2
      clear h2 hE1
      go_enter Tryd.func64, Tryd.ntmps64
      go_wp2_with fail
      (with_reducible refine (number_ok s rb k _ hs hk (HR.out.below (ba _ _)) H1.out).mono ?_)
      rintro e w1 ⟨rfl, hr1, hx1⟩
      have HR1 := Lib.hid hr1
      have HK1 := Lib.hid (HA0.out.trans hx1)
      have HX1 := Lib.hid hx1
      clear hr1 hx1
      go_wp2_with fail
      (with_reducible refine (number_no s rb (k + m1) a0 _ hs hk1 HR1.out (HG.out _ HK1.out) H2.out).mono ?_)
      rintro e w2 ⟨rfl, hx2⟩
      go_wp2_with fail
      exact ⟨rfl, ROut.no HX rfl (HK1.out.trans hx2)⟩
    | some q =>
      obtain ⟨q, m2⟩ := q
      have hk2 := dec_le hk1 h2
      have hE2 := hE1.trans (run_get_some (f := fun k => Rd.get fun m => rdChT t k m) h2)
      have H2 := Lib.hid h2
      clear h2 hE1
      cases h3 : decInt (s.data.toList.drop (k + m1 + m2)) with
      | none =>
        have HX : Hid (rdCh.run s.data.toList k = .error false) := Lib.hid (hE2.trans (run_get_none h3))
        have H3 := Lib.hid h3
        clear h3 hE2
        go_enter Tryd.func64, Tryd.ntmps64
        go_wp2_with fail
        (with_reducible refine (number_ok s rb k _ hs hk (HR.out.below (ba _ _)) H1.out).mono ?_)
        rintro e w1 ⟨rfl, hr1, hx1⟩
        have HR1 := Lib.hid hr1
        have HK1 := Lib.hid (HA0.out.trans hx1)
        have HX1 := Lib.hid hx1
        clear hr1 hx1
        go_wp2_with fail
        (with_reducible refine (number_ok s rb (k + m1) _ hs hk1 HR1.out H2.out).mono ?_)
        rintro e w2 ⟨rfl, hr2, hx2⟩
        have HR2 := Lib.hid hr2
        have HK2 := Lib.hid (HK1.out.trans hx2)
        have HX2 := Lib.hid (HX1.out.trans hx2)
        have hsz2 : w.heap.size < w2.heap.size := by have := HX2.out.size; simp only [World.size_alloc] at this; omega
        clear hr2 hx2
        go_wp2_with fail
        have HKa := Lib.hid (HK2.out.trans (Kx.alloc rb w2 (.cells #[.int .i64 t, .int .i64 q, .bool false, .int .i64 0, .int .i64 0, .int .i64 0, .bool false, .int .i64 0, .int .i64 0, .int .i64 0] 42)))
        (with_reducible refine (number_no s rb (k + m1 + m2) a0 _ hs hk2 (HR2.out.below (ba _ _)) (HG.out _ HKa.out) H3.out).mono ?_)
        rintro e w3 ⟨rfl, hx3⟩
        go_wp2_with fail
        exact ⟨rfl, ROut.no HX rfl (HKa.out.trans hx3)⟩
      | some q3 =>
        obtain ⟨m, m3⟩ := q3
        have hk3 := dec_le hk2 h3
        have hE3 := hE2.trans (run_get_some (f := fun m => rdChT t q m) h3)
        have H3 := Lib.hid h3
        clear h3 hE2
        by_cases hm : m < 1 ∨ 3 < m
        · have HX : Hid (rdCh.run s.data.toList k = .error true) := Lib.hid (hE3.trans (rdChT_bad _ _ _ _ _ hm))
          have HM := Lib.hid hm
          clear hE3 hm
          go_enter Tryd.func64, Tryd.ntmps64
          go_wp2_with fail
          (with_reducible refine (number_ok s rb k _ hs hk (HR.out.below (ba _ _)) H1.out).mono ?_)
          rintro e w1 ⟨rfl, hr1, hx1⟩
          have HR1 := Lib.hid hr1
          have HK1 := Lib.hid (HA0.out.trans hx1)
          have HX1 := Lib.hid hx1
          clear hr1 hx1
          go_wp2_with fail
          (with_reducible refine (number_ok s rb (k + m1) _ hs hk1 HR1.out H2.out).mono ?_)
          rintro e w2 ⟨rfl, hr2, hx2⟩
          have HR2 := Lib.hid hr2
          have HK2 := Lib.hid (HK1.out.trans hx2)
          have HX2 := Lib.hid (HX1.out.trans hx2)
          have hsz2 : w.heap.size < w2.heap.size := by have := HX2.out.size; simp only [World.size_alloc] at this; omega
          clear hr2 hx2
          go_wp2_with fail
          have HKa := Lib.hid (HK2.out.trans (Kx.alloc rb w2 (.cells #[.int .i64 t, .int .i64 q, .bool false, .int .i64 0, .int .i64 0, .int .i64 0, .bool false, .int .i64 0, .int .i64 0, .int .i64 0] 42)))
          (with_reducible refine (number_ok s rb (k + m1 + m2) _ hs hk2 (HR2.out.below (ba _ _)) H3.out).mono ?_)
          rintro e w3 ⟨rfl, hr3, hx3⟩
          have HR3 := Lib.hid hr3
          have HK3 := Lib.hid (HKa.out.trans hx3)
          have HX3 := Lib.hid hx3
          have hsz3 : w2.heap.size < w3.heap.size := by have := hx3.size; simp only [World.size_alloc] at this; omega
          have hneC : ¬ w2.heap.size = rb := by omega
          clear hr3 hx3
          go_wp2_with fail
          (with_reducible refine (upTo_bad 3 m a1 _ HM.out (HG1.out _ HK3.out)).mono ?_)
          rintro e w3' ⟨rfl, rfl⟩
          go_wp2_with fail
          exact ⟨rfl, ROut.bad HX rfl HK3.out⟩
        · exact absurd (HNo.out _ _ _ _ _ _ H1.out H2.out H3.out) hm
end Go.Proofs.YtgkdliocfnoffaaDoor
