/- WALKS: Parse, Scan. -/
import Derived.Test.YtmjcjgmmolmibaaDoorWB
import Derived.Test.YtmjcjgmmolmibaaDoorWE
import Derived.Deep.QuietTactic
import Derived.BigQuiet
set_option linter.unusedVariables false
set_option linter.unusedSimpArgs false
namespace Go.Proofs.YtmjcjgmmolmibaaDoor
open Go.RowKit

/-- What Parse returns. -/
def parseV (l : List UInt8) : Value := match parse l with
  | some q => .tuple #[qV q, .int .i64 0]
  | none => .tuple #[qV MQ.zero, .int .i64 50]
theorem results_p (w : World) (R : Nat) (cells : Array Value) (n : Int) (tmps : Array Value) (hR : w.heap[R]? = some (.cells cells 23 (0, 0))) (hs : cells.size = 7)
    (h2 : tmps.getD 2 undef = .pointer (some ⟨R, 0, none⟩)) (h3 : tmps.getD 3 undef = .int .i64 n) : (results Tryd.f16 tmps).run Tryd.prog w = .ok (.tuple #[.agg cells, .int .i64 n]) w := by
  have h2' : tmps[2]?.getD undef = .pointer (some ⟨R, 0, none⟩) := by simpa using h2
  have h3' : tmps[3]?.getD undef = .int .i64 n := by simpa using h3
  have hl := run_loadVar_row (P := Tryd.prog) w R 23 23 cells (0, 0) _ hR Tryd.underlying23 rfl (by rw [hs]; kernel_rfl)
  simp [results, Tryd.results16, h2', h3', asAddr, hl]

theorem set7_alloc_heap {w : World} {b : Nat} (h : w.heap[b]? = some (.cells qz 23 (0, 0))) (x0 x1 x2 x3 x4 x5 x6 : Value) (o : Obj) : ((((((((w.setCell ⟨b, 0, none⟩ x0).setCell ⟨b, 1, none⟩ x1).setCell ⟨b, 2, none⟩ x2).setCell ⟨b, 3, none⟩ x3).setCell ⟨b, 4, none⟩ x4).setCell ⟨b, 5, none⟩ x5).setCell ⟨b, 6, none⟩ x6).alloc o).heap[b]? = some (.cells #[x0, x1, x2, x3, x4, x5, x6] 23 (0, 0)) := by
  have h7 := set7_heap h x0 x1 x2 x3 x4 x5 x6
  exact (heap_alloc_old _ _ (lt_of_heap h7)).trans h7
theorem set7_alloc_below {B : Nat} {w0 w : World} (h : Below B w0 w) {b : Nat} (hb : B ≤ b) (hz : B ≤ w.heap.size) (x0 x1 x2 x3 x4 x5 x6 : Value) (o : Obj) : Below B w0 ((((((((w.setCell ⟨b, 0, none⟩ x0).setCell ⟨b, 1, none⟩ x1).setCell ⟨b, 2, none⟩ x2).setCell ⟨b, 3, none⟩ x3).setCell ⟨b, 4, none⟩ x4).setCell ⟨b, 5, none⟩ x5).setCell ⟨b, 6, none⟩ x6).alloc o) :=
  (set7_below h hb x0 x1 x2 x3 x4 x5 x6).alloc (by simpa [World.setCell] using hz) o

set_option maxRecDepth 100000 in
set_option maxHeartbeats 2000000 in
theorem parse_any (a : Addr) (s : ByteArray) (W : World) (hL : Lw a W) (hs : s.size ≤ 1000) : Calls Tryd.prog 16 #[.string s] W fun e w' => e = .returned (parseV s.data.toList) ∧ Below W.heap.size W w' := by
  have HL := Lib.hid hL
  have HC := Lib.hid (read_any a s (W.alloc (.cells qz 23)) (hL.below (ba _ _)) hs)
  have HP := Lib.hid (parse_readR s.data.toList)
  have HW1 : Hid (Below W.heap.size W (W.alloc (.cells qz 23))) := Lib.hid (ba _ _)
  have HR1 : Hid (∀ w, Below (W.alloc (.cells qz 23)).heap.size (W.alloc (.cells qz 23)) w → w.heap[W.heap.size]? = some (.cells qz 23 (0, 0))) := Lib.hid (fun w hb => (hb.block _ (by simp)).trans (heap_alloc_new W _))
  clear hL hs
  cases hr : readR (spl s.data.toList) with
  | none =>
    rw [hr] at HC HP
    have HPn : Hid (parseV s.data.toList = .tuple #[qV MQ.zero, .int .i64 50]) := Lib.hid (by unfold parseV; rw [← HP.out]; rfl)
    clear hr
    go_enter Tryd.func16, Tryd.ntmps16
    go_wp2_with fail
    (with_reducible refine HC.out.mono ?_)
    rintro e w2 ⟨rfl, hb2⟩
    have HB2 := Lib.hid (HW1.out.trans (hb2.mono HW1.out.size))
    have hr2 := HR1.out w2 hb2
    have HRr := Lib.hid hr2
    have hR2 := lt_of_heap hr2
    have hne : ¬ W.heap.size = w2.heap.size := by omega
    have g1 := (HL.out.below (bt HW1.out hb2)).er
    have hg1 : 1 < w2.heap.size := World.block_lt_of_cell? w2 _ g1
    have hg1n : ¬ 1 = w2.heap.size := by omega
    obtain ⟨⟨y0, y1, y2, y3, y4, y5, y6⟩, yf⟩ := zeros_of hr2
    clear hb2 hr2
    unfold qV MQ.zero
    go_wp2_with fail
    (with_reducible refine (is_same a _).mono ?_)
    rintro e w3 ⟨rfl, rfl⟩
    go_wp2_with fail
    exact bodyPost_ret (v := .tuple #[.agg #[.int .i64 0, .int .i64 0, .int .i64 0, .int .i64 0, .int .i64 0, .int .i64 0, .int .i64 0], .int .i64 50]) (results_p _ W.heap.size _ _ _ (set7_alloc_heap HRr.out _ _ _ _ _ _ _ _) rfl rfl rfl) rfl ⟨by rw [HPn.out]; rfl, set7_alloc_below HB2.out (Nat.le_refl _) (by omega) _ _ _ _ _ _ _ _⟩
  | some q =>
    rw [hr] at HC HP
    obtain ⟨k, t, c, l, h, b, o⟩ := q
    obtain ⟨v, Hv⟩ : ∃ v, Hid (validB ⟨k, t, c, l, h, b, o⟩ = v) := ⟨_, Lib.hid rfl⟩
    clear hr
    cases v
    · have HPn : Hid (parseV s.data.toList = .tuple #[qV MQ.zero, .int .i64 50]) := Lib.hid (by
        unfold parseV; rw [← HP.out, Option.filter_some, if_neg (by rw [Hv.out]; exact Bool.false_ne_true)])
      go_enter Tryd.func16, Tryd.ntmps16
      go_wp2_with fail
      (with_reducible refine HC.out.mono ?_)
      rintro e w2 ⟨rfl, hb2⟩
      have HB2 := Lib.hid (HW1.out.trans (hb2.mono HW1.out.size))
      have hr2 := HR1.out w2 hb2
      have HRr := Lib.hid hr2
      have hR2 := lt_of_heap hr2
      have hne : ¬ W.heap.size = w2.heap.size := by omega
      have g1 := (HL.out.below (bt HW1.out hb2)).er
      have hg1 : 1 < w2.heap.size := World.block_lt_of_cell? w2 _ g1
      have hg1n : ¬ 1 = w2.heap.size := by omega
      clear hb2 hr2
      have HVa := Lib.hid (valid_any ⟨k, t, c, l, h, b, o⟩ (w2.alloc (.cells #[.int .i64 k, .int .i64 t, .int .i64 c, .int .i64 l, .int .i64 h, .int .i64 b, .int .i64 o] 23)))
      rw [Hv.out] at HVa
      unfold qV at *
      go_wp2_with fail
      (with_reducible refine (is_nil a _).mono ?_)
      rintro e w3 ⟨rfl, rfl⟩
      go_wp2_with fail
      (with_reducible refine HVa.out.mono ?_)
      rintro e w4 ⟨rfl, hb4⟩
      have HB4 : Hid (Below w2.heap.size w2 w4) := Lib.hid (bt (ba w2 _) hb4)
      have HR4 := Lib.hid ((HB4.out.block _ hR2).trans HRr.out)
      obtain ⟨⟨y0, y1, y2, y3, y4, y5, y6⟩, yf⟩ := zeros_of HR4.out
      clear hb4
      go_wp2_with fail
      exact bodyPost_ret (v := .tuple #[.agg #[.int .i64 0, .int .i64 0, .int .i64 0, .int .i64 0, .int .i64 0, .int .i64 0, .int .i64 0], .int .i64 50]) (results_p _ W.heap.size _ _ _ (set7_heap HR4.out _ _ _ _ _ _ _) rfl rfl rfl) rfl ⟨by rw [HPn.out]; rfl, set7_below (bt HB2.out HB4.out) (Nat.le_refl _) _ _ _ _ _ _ _⟩
    · have HPn : Hid (parseV s.data.toList = .tuple #[qV ⟨k, t, c, l, h, b, o⟩, .int .i64 0]) := Lib.hid (by
        unfold parseV; rw [← HP.out, Option.filter_some, if_pos Hv.out])
      go_enter Tryd.func16, Tryd.ntmps16
      go_wp2_with fail
      (with_reducible refine HC.out.mono ?_)
      rintro e w2 ⟨rfl, hb2⟩
      have HB2 := Lib.hid (HW1.out.trans (hb2.mono HW1.out.size))
      have hr2 := HR1.out w2 hb2
      have HRr := Lib.hid hr2
      have hR2 := lt_of_heap hr2
      have hne : ¬ W.heap.size = w2.heap.size := by omega
      have g1 := (HL.out.below (bt HW1.out hb2)).er
      have hg1 : 1 < w2.heap.size := World.block_lt_of_cell? w2 _ g1
      have hg1n : ¬ 1 = w2.heap.size := by omega
      clear hb2 hr2
      have HVa := Lib.hid (valid_any ⟨k, t, c, l, h, b, o⟩ (w2.alloc (.cells #[.int .i64 k, .int .i64 t, .int .i64 c, .int .i64 l, .int .i64 h, .int .i64 b, .int .i64 o] 23)))
      rw [Hv.out] at HVa
      have HQn := Lib.hid (QAt.new w2 ⟨k, t, c, l, h, b, o⟩)
      unfold qV at *
      go_wp2_with fail
      (with_reducible refine (is_nil a _).mono ?_)
      rintro e w3 ⟨rfl, rfl⟩
      go_wp2_with fail
      (with_reducible refine HVa.out.mono ?_)
      rintro e w4 ⟨rfl, hb4⟩
      have HB4 : Hid (Below w2.heap.size w2 w4) := Lib.hid (bt (ba w2 _) hb4)
      have HR4 := Lib.hid ((HB4.out.block _ hR2).trans HRr.out)
      obtain ⟨⟨y0, y1, y2, y3, y4, y5, y6⟩, yf⟩ := zeros_of HR4.out
      obtain ⟨z0, z1, z2, z3, z4, z5, z6⟩ := HQn.out.below hb4
      clear hb4
      go_wp2_with fail
      exact bodyPost_ret (v := .tuple #[.agg #[.int .i64 k, .int .i64 t, .int .i64 c, .int .i64 l, .int .i64 h, .int .i64 b, .int .i64 o], .int .i64 0]) (results_p _ W.heap.size _ _ _ (set7_heap HR4.out _ _ _ _ _ _ _) rfl rfl rfl) rfl ⟨by rw [HPn.out], set7_below (bt HB2.out HB4.out) (Nat.le_refl _) _ _ _ _ _ _ _⟩

theorem ret4 {w : World} {fn : Func} {t u v x : Tmp} {tmps : Array Value} (P : Program) (h : fn.results = #[.tmp t, .tmp u, .tmp v, .tmp x]) : (results fn tmps).run P w = .ok (.tuple #[tmps.getD t undef, tmps.getD u undef, tmps.getD v undef, tmps.getD x undef]) w := by simp [results, h]
/-- What Scan returns. -/
def scanV (q : MQ) : Value := if validB q then .tuple #[.int .i64 q.table, .int .i64 q.column, .int .i64 q.low, .int .i64 q.high] else .tuple #[.int .i64 0, .int .i64 0, .int .i64 0, .int .i64 0]
set_option maxRecDepth 100000 in
set_option maxHeartbeats 1000000 in
theorem scan_any (q : MQ) (W : World) : Calls Tryd.prog 12 #[qV q] W fun e w' => e = .returned (scanV q) ∧ Below W.heap.size W w' := by
  obtain ⟨k, t, c, l, h, b, o⟩ := q
  obtain ⟨v, Hv⟩ : ∃ v, Hid (validB ⟨k, t, c, l, h, b, o⟩ = v) := ⟨_, Lib.hid rfl⟩
  have HC := Lib.hid (valid_any ⟨k, t, c, l, h, b, o⟩ (W.alloc (.cells #[.int .i64 k, .int .i64 t, .int .i64 c, .int .i64 l, .int .i64 h, .int .i64 b, .int .i64 o] 23)))
  rw [Hv.out] at HC
  have HQ := Lib.hid (QAt.new W ⟨k, t, c, l, h, b, o⟩)
  have HS : Hid (scanV ⟨k, t, c, l, h, b, o⟩ = if v then .tuple #[.int .i64 t, .int .i64 c, .int .i64 l, .int .i64 h] else .tuple #[.int .i64 0, .int .i64 0, .int .i64 0, .int .i64 0]) := Lib.hid (by unfold scanV; rw [Hv.out])
  unfold qV at *
  cases v
  · go_enter Tryd.func12, Tryd.ntmps12
    go_wp2_with fail
    (with_reducible refine HC.out.mono ?_)
    rintro e w1 ⟨rfl, hb1⟩
    have HB := Lib.hid (bt (ba W _) hb1)
    clear hb1
    go_wp2_with fail
    exact bodyPost_ret (ret4 _ rfl) rfl ⟨by rw [HS.out]; rfl, HB.out⟩
  · go_enter Tryd.func12, Tryd.ntmps12
    go_wp2_with fail
    (with_reducible refine HC.out.mono ?_)
    rintro e w1 ⟨rfl, hb1⟩
    have HB := Lib.hid (bt (ba W _) hb1)
    obtain ⟨z0, z1, z2, z3, z4, z5, z6⟩ := HQ.out.below hb1
    clear hb1
    go_wp2_with fail
    go_quiet (fail)
    go_wp2_with fail
    exact bodyPost_ret (ret4 _ rfl) rfl ⟨by rw [HS.out]; rfl, below_drewN HB.out _⟩
end Go.Proofs.YtmjcjgmmolmibaaDoor
