/- WALKS: StoreLast, given what Log does. -/
import Derived.Test.YtaapggeaoacikaaS5
import Derived.Test.YtaapggeaoacikaaV1
set_option linter.unusedVariables false
set_option linter.unusedSimpArgs false
namespace Go.Proofs.Ytaapggeaoacikaa
open Go.RowKit Go.Sort Go.ChangeMaps Go.MapKept

def rowCs (r : MRow) : Array Value := #[.int .i64 r.t, .int .i64 r.k, .int .i64 r.v.a, .int .i64 r.v.b, .int .i64 r.v.c]
/-- The row in block wb, and whether it is there, are what the rows L have at a place. -/
def WantAt (w0 wr : World) (wb : Nat) (L : List MRow) (t k : Int) : Prop := w0.heap.size ≤ wb ∧ wr.heap[wb]? = some (.cells (rowCs ((look L t k).getD rowZ)) 50 (0, 0)) ∧ Below w0.heap.size w0 wr
theorem WantAt.below {w0 wr w' : World} {wb : Nat} {L : List MRow} {t k : Int} (h : WantAt w0 wr wb L t k) (hb : Below wr.heap.size wr w') : WantAt w0 w' wb L t k :=
  ⟨h.1, (hb.block _ (lt_of_block h.2.1)).trans h.2.1, bt h.2.2 hb⟩
theorem set5_heap {w : World} {b : Nat} {x0 x1 x2 x3 x4 : Value} {ty : TypeId} {fr : Nat × Nat} (h : w.heap[b]? = some (.cells #[x0, x1, x2, x3, x4] ty fr)) (y0 y1 y2 y3 y4 : Value) :
    (((((w.setCell ⟨b, 0, none⟩ y0).setCell ⟨b, 1, none⟩ y1).setCell ⟨b, 2, none⟩ y2).setCell ⟨b, 3, none⟩ y3).setCell ⟨b, 4, none⟩ y4).heap[b]? = some (.cells #[y0, y1, y2, y3, y4] ty fr) :=
  setCell_heap (setCell_heap (setCell_heap (setCell_heap (setCell_heap h 0 _) 1 _) 2 _) 3 _) 4 _
theorem below_set {B : Nat} {a w : World} {b : Nat} (h : Below B a w) (hb : B ≤ b) (j : Nat) (u : Value) : Below B a (w.setCell ⟨b, j, none⟩ u) := h.setCell (p := ⟨b, j, none⟩) hb u
theorem want_set {w0 wr : World} {wb : Nat} {L M : List MRow} {t k : Int} (h : WantAt w0 wr wb L t k) (r : MRow) (hr : (look M t k).getD rowZ = r) :
    WantAt w0 (((((wr.setCell ⟨wb, 0, none⟩ (.int .i64 r.t)).setCell ⟨wb, 1, none⟩ (.int .i64 r.k)).setCell ⟨wb, 2, none⟩ (.int .i64 r.v.a)).setCell ⟨wb, 3, none⟩ (.int .i64 r.v.b)).setCell ⟨wb, 4, none⟩ (.int .i64 r.v.c)) wb M t k := by
  subst hr
  exact ⟨h.1, set5_heap h.2.1 _ _ _ _ _, below_set (below_set (below_set (below_set (below_set h.2.2 h.1 _ _) h.1 _ _) h.1 _ _) h.1 _ _) h.1 _ _⟩
theorem WantAt.cells {w0 wr : World} {wb : Nat} {L : List MRow} {t k : Int} {r : MRow} (h : WantAt w0 wr wb L t k) (hr : (look L t k).getD rowZ = r) :
    wr.cell? ⟨wb, 0, none⟩ = some (.int .i64 r.t) ∧ wr.cell? ⟨wb, 1, none⟩ = some (.int .i64 r.k) ∧ wr.cell? ⟨wb, 2, none⟩ = some (.int .i64 r.v.a) ∧ wr.cell? ⟨wb, 3, none⟩ = some (.int .i64 r.v.b) ∧ wr.cell? ⟨wb, 4, none⟩ = some (.int .i64 r.v.c) ∧ ∀ j, wr.frozen? ⟨wb, j, none⟩ = false := by
  subst hr
  have h1 := h.2.1
  unfold rowCs at h1
  exact ⟨by simp [World.cell?, h1], by simp [World.cell?, h1], by simp [World.cell?, h1], by simp [World.cell?, h1], by simp [World.cell?, h1], fun j => by simp [World.frozen?, h1]⟩
theorem want_same {w0 wr : World} {wb : Nat} {L M : List MRow} {t k : Int} (h : WantAt w0 wr wb L t k) (e : look M t k = look L t k) : WantAt w0 wr wb M t k := by
  unfold WantAt at *
  rw [e]
  exact h
theorem neqRow_same (t k a b c : Int) (w : World) : (Go.binOp .neq 50 (.agg #[.int .i64 t, .int .i64 k, .int .i64 a, .int .i64 b, .int .i64 c]) (.agg #[.int .i64 t, .int .i64 k, .int .i64 a, .int .i64 b, .int .i64 c])).run Try.prog w = .ok (.bool false) w := by
  rw [neqRow]
  simp [rowE]
theorem look_nil (t k : Int) : (look [] t k).getD rowZ = ⟨0, 0, ⟨0, 0, 0⟩⟩ := rfl
theorem look_nil2 (t k : Int) : (look [] t k).isSome = false := rfl

set_option maxRecDepth 100000 in
set_option maxHeartbeats 8000000 in
theorem last_of (H : LogWalked) {W : World} {v : Value} {n : Nat} {p : Int} (h : XS W v n) (hb : I64 p) : Calls Try.prog 7 #[v, .int .i64 p] W fun e w' => e = .returned (.bool true) ∧ Below W.heap.size W w' := by
  have HX := Lib.hid h
  have HL := Lib.hid H
  have HBk := Lib.hid hb
  clear h H hb
  go_enter Try.func7, Try.ntmps7
  go_wp2_with fail
  (with_reducible refine (sane_any W).mono ?_)
  rintro e w1 ⟨rfl, hb1⟩
  have HB1 := Lib.hid hb1
  have HX1 := Lib.hid (HX.out.below hb1)
  clear hb1
  go_wp2_with fail
  (with_reducible refine (lawLog_of HL.out HX1.out).mono ?_)
  rintro e w0 ⟨R, u, rfl, hrs, hch, hl30, hsm, hb0⟩
  have HRS := Lib.hid hrs
  have HCh := Lib.hid hch
  have HSm := Lib.hid hsm
  have HB0 := Lib.hid (bt HB1.out hb0)
  obtain ⟨ra, rn, rcap, rfl, hrn, hrest⟩ := hrs
  subst hrn
  clear hrest hch hsm hb0 HX1 HX
  have hpr := pk_range p (n := (R.length : Int) + 1) (by omega)
  obtain ⟨m, hm⟩ : ∃ m : Nat, pk p ((R.length : Int) + 1) = m := ⟨(pk p ((R.length : Int) + 1)).toNat, by omega⟩
  have hml : m ≤ R.length := by omega
  have HPk := Lib.hid (pick_any p ((R.length : Int) + 1) w0 HBk.out (by omega) (by omega))
  rw [hm] at HPk
  clear hpr hm
  go_wp2_with fail
  (with_reducible refine HPk.out.mono ?_)
  rintro e wx ⟨rfl, rfl⟩
  go_wp2_with fail
  refine (at_any HRS.out HCh.out m hml).mono ?_
  rintro e w2 ⟨b1, m1, rfl, hs1, ho1, hb2⟩
  have HS1 := Lib.hid hs1
  have HB2 := Lib.hid hb2
  have HIn : Hid (InS (rowsOf (R.take m))) := Lib.hid (inS_rows (fun r hr => HSm.out r (List.mem_of_mem_take hr)))
  have HSr : Hid (Srt (rowsOf (R.take m))) := Lib.hid hs1.good.1
  obtain ⟨Lm, HLm⟩ : ∃ L, Hid (rowsOf (R.take m) = L) := ⟨_, Lib.hid rfl⟩
  rw [HLm.out] at HIn HSr HS1
  have hlen2 : Lm.length ≤ 2000 := HS1.out.good.2.2
  have HCnt : Hid (∀ t k, cntk Lm t k ≤ 2000) := Lib.hid (fun t k => Nat.le_trans (cntk_le _ _ _) hlen2)
  clear hs1 ho1 hb2
  go_wp2_with fail
  go_loopw [10, 11] (fun c t wr => ∃ T : Nat, T ≤ 3 ∧ t = .int .i64 T ∧ (∃ x : Nat, c = .int .i64 x ∧ Hid (cntk Lm T 1 = x)) ∧ Hid (Below w2.heap.size w2 wr)) (fun _ t _ => 3 - (intOf t).toNat)
  case atStart => exact ⟨0, by omega, rfl, ⟨0, rfl, Lib.hid (cntk_first HIn.out)⟩, Lib.hid (Below.refl _ _)⟩
  case round => as_aux_lemma =>
    obtain ⟨T, hT, rfl, ⟨x, rfl, Hx⟩, HBt⟩ := hrel
    rename World => wt
    by_cases hT3 : T < 3
    · have hTi : (T : Int) < 3 := by omega
      go_wp2_with fail
      go_loopw [10, 12] (fun c t wr => ∃ K : Nat, 1 ≤ K ∧ K ≤ 10 ∧ t = .int .i64 K ∧ (∃ x : Nat, c = .int .i64 x ∧ Hid (cntk Lm T K = x)) ∧ Hid (Below w2.heap.size w2 wr)) (fun _ t _ => 10 - (intOf t).toNat)
      case atStart => exact ⟨1, by omega, by omega, rfl, ⟨x, rfl, Hx⟩, HBt⟩
      case round => as_aux_lemma =>
        obtain ⟨K, hK1, hK, rfl, ⟨y, rfl, Hy⟩, HBk0⟩ := hrel
        rename World => wk
        by_cases hK9 : K ≤ 9
        · have hKi : (K : Int) ≤ 9 := by omega
          have HW0 : Hid (WantAt w2 (wk.alloc (.cells #[.int .i64 0, .int .i64 0, .int .i64 0, .int .i64 0, .int .i64 0] 50)) wk.heap.size (rowsOf (R.take 0)) T K) := Lib.hid ⟨HBk0.out.size, heap_alloc_new wk _, bt HBk0.out (ba wk _)⟩
          go_wp2_with fail
          go_loopw [14, 15] (fun th i wr => ∃ k : Nat, k ≤ m ∧ i = .int .i64 k ∧ (∃ b : Bool, th = .bool b ∧ Hid ((look (rowsOf (R.take k)) T K).isSome = b)) ∧ Hid (WantAt w2 wr wk.heap.size (rowsOf (R.take k)) T K)) (fun _ i _ => m - (intOf i).toNat)
          case atStart => exact ⟨0, by omega, rfl, ⟨false, rfl, Lib.hid rfl⟩, HW0⟩
          case round => as_aux_lemma =>
            obtain ⟨i, hi, rfl, ⟨th, rfl, Hth⟩, HWi⟩ := hrel
            clear HW0
            rename World => wi
            by_cases him : i < m
            · have HB0i : Hid (Below w0.heap.size w0 wi) := Lib.hid (bt HB2.out HWi.out.2.2)
              obtain ⟨_, _, _, er, hrn, _, _, hrc⟩ := HRS.out
              simp at er
              obtain ⟨rfl, rfl, rfl⟩ := er
              obtain ⟨rb, ro, rfl, hrb, hcs⟩ := hrc (by omega)
              obtain ⟨q0, vs, q1, hvs⟩ := hcs i (by omega)
              have HSri : Hid (Srt (rowsOf (R.take i))) := Lib.hid (HCh.out.good i (by omega)).1
              obtain ⟨r, Hr⟩ : ∃ r, Hid (R.getD i recZ = r) := ⟨_, Lib.hid rfl⟩
              have Htk := Lib.hid (rowsOf_succ (R := R) (i := i) (by omega))
              have HOa := Lib.hid (HCh.out i (by omega))
              rw [Hr.out] at q0 hvs HOa Htk
              obtain ⟨pos, cs⟩ := r
              simp only at q0 hvs
              have hcl8 : cs.length ≤ 8 := HOa.out.1.2.1.2
              obtain ⟨va, vn, vcap, rfl, hvn, hv1, hv2, hvc⟩ := hvs
              subst hvn
              have HVc : Hid (1 ≤ cs.length → ∃ b o, va = some ⟨b, o, none⟩ ∧ b < w0.heap.size ∧ ∀ j, j < cs.length → ChAt w0 b (o + j * 10) (cs.getD j chZ)) := Lib.hid hvc
              have HQ1 := Lib.hid q1
              have HWs : Hid (WantAt w2 wi wk.heap.size (stepAll (rowsOf (R.take i)) (cs.take 0)) T K) := HWi
              have Hths : Hid ((look (stepAll (rowsOf (R.take i)) (cs.take 0)) T K).isSome = th) := Hth
              obtain ⟨Li, HLi⟩ : ∃ L, Hid (rowsOf (R.take i) = L) := ⟨_, Lib.hid rfl⟩
              rw [HLi.out] at HWs Hths HSri Htk
              clear hrc hcs hrn hvc q0 q1 HOa Hr
              go_wp2_with fail
              go_loopw [14, 16] (fun th k wr => ∃ j : Nat, j ≤ cs.length ∧ k = .int .i64 j ∧ (∃ b : Bool, th = .bool b ∧ Hid ((look (stepAll Li (cs.take j)) T K).isSome = b)) ∧ Hid (WantAt w2 wr wk.heap.size (stepAll Li (cs.take j)) T K)) (fun _ k _ => cs.length - (intOf k).toNat)
              case atStart => exact ⟨0, by omega, rfl, ⟨th, rfl, Hths⟩, HWs⟩
              case round => as_aux_lemma =>
                obtain ⟨j, hj, rfl, ⟨tj, rfl, Htj⟩, HWj⟩ := hrel
                clear HWs Hths
                rename World => wj
                have HB0j : Hid (Below w0.heap.size w0 wj) := Lib.hid (bt HB2.out HWj.out.2.2)
                have q1 := (HB0j.out.cell (p := ⟨rb, ro + i * 2 + 1, none⟩) hrb).trans HQ1.out
                have hrj : rb < wj.heap.size := Nat.lt_of_lt_of_le hrb HB0j.out.size
                have hii : (i : Int) < R.length := by omega
                by_cases hjl : j < cs.length
                · obtain ⟨lb, lo, rfl, hlb, hla⟩ := HVc.out (by omega)
                  have HCm := (hla j hjl).below hlb HB0j.out
                  have hlj : lb < wj.heap.size := Nat.lt_of_lt_of_le hlb HB0j.out.size
                  have hljn : ¬ lb = wj.heap.size := by omega
                  have hwkj : wk.heap.size < wj.heap.size := lt_of_block HWj.out.2.1
                  clear hla
                  have HStep := Lib.hid (stepAll_take (L := Li) hjl)
                  obtain ⟨⟨ct, ck, chad, ⟨coa, cob, coc⟩, chas, ⟨cna, cnb, cnc⟩⟩, Hlc⟩ : ∃ c, Hid (cs.getD j chZ = c) := ⟨_, Lib.hid rfl⟩
                  rw [Hlc.out] at HCm HStep
                  obtain ⟨d0, d1, d2, d3, d4, d5, d6, d7, d8, d9⟩ := HCm.cells
                  clear HCm
                  have hji : (j : Int) < cs.length := by omega
                  have HSrj : Hid (Srt (stepAll Li (cs.take j))) := Lib.hid (srt_all HSri.out _)
                  by_cases hm1 : ct = T
                  · have g1 : (ct == (T : Int)) = true := by simp [hm1]
                    by_cases hm2 : ck = K
                    · have g2 : (ck == (K : Int)) = true := by simp [hm2]
                      have HA : Hid (look (stepAll Li (cs.take (j + 1))) T K = if chas then some ⟨ct, ck, ⟨cna, cnb, cnc⟩⟩ else none) := Lib.hid (by rw [HStep.out, ← hm1, ← hm2]; exact look_step_same HSrj.out ⟨ct, ck, chad, ⟨coa, cob, coc⟩, chas, ⟨cna, cnb, cnc⟩⟩)
                      clear hm1 hm2
                      go_wp2_with fail
                      cases chas
                      · refine (aft_false ct ck coa cob coc cna cnb cnc chad _).mono ?_
                        rintro e w5 ⟨rfl, hb5⟩
                        have HW5 := Lib.hid (HWj.out.below (bt (ba wj _) hb5))
                        obtain ⟨_, _, _, ⟨f0, f1, f2, f3, f4, ff⟩⟩ : True ∧ True ∧ True ∧ _ := ⟨trivial, trivial, trivial, HW5.out.cells rfl⟩
                        have hwk5 : wk.heap.size < w5.heap.size := lt_of_block HW5.out.2.1
                        have HW6 := Lib.hid (want_set HW5.out (M := stepAll Li (cs.take (j + 1))) ⟨0, 0, ⟨0, 0, 0⟩⟩ (by rw [HA.out]; rfl))
                        have Ht6 : Hid ((look (stepAll Li (cs.take (j + 1))) T K).isSome = false) := Lib.hid (by rw [HA.out]; rfl)
                        clear hb5
                        unfold rowV
                        go_wp2_with fail
                        exact ⟨⟨j + 1, by omega, by go_num, ⟨false, rfl, Ht6⟩, HW6⟩, by simp [intOf]; omega⟩
                      · refine (aft_true ct ck coa cob coc cna cnb cnc chad _).mono ?_
                        rintro e w5 ⟨rfl, hb5⟩
                        have HW5 := Lib.hid (HWj.out.below (bt (ba wj _) hb5))
                        obtain ⟨_, _, _, ⟨f0, f1, f2, f3, f4, ff⟩⟩ : True ∧ True ∧ True ∧ _ := ⟨trivial, trivial, trivial, HW5.out.cells rfl⟩
                        have hwk5 : wk.heap.size < w5.heap.size := lt_of_block HW5.out.2.1
                        have HW6 := Lib.hid (want_set HW5.out (M := stepAll Li (cs.take (j + 1))) ⟨ct, ck, ⟨cna, cnb, cnc⟩⟩ (by rw [HA.out]; rfl))
                        have Ht6 : Hid ((look (stepAll Li (cs.take (j + 1))) T K).isSome = true) := Lib.hid (by rw [HA.out]; rfl)
                        clear hb5
                        unfold rowV
                        go_wp2_with fail
                        exact ⟨⟨j + 1, by omega, by go_num, ⟨true, rfl, Ht6⟩, HW6⟩, by simp [intOf]; omega⟩
                    · have g2 : (ck == (K : Int)) = false := by simp [hm2]
                      have HA : Hid (look (stepAll Li (cs.take (j + 1))) T K = look (stepAll Li (cs.take j)) T K) := Lib.hid (by rw [HStep.out]; exact look_step_other HSrj.out _ (fun h => hm2 h.2.symm))
                      have HW6 := Lib.hid (want_same (M := stepAll Li (cs.take (j + 1))) (HWj.out.below (ba wj (.cells (chCells ⟨ct, ck, chad, ⟨coa, cob, coc⟩, chas, ⟨cna, cnb, cnc⟩⟩) 57))) HA.out)
                      have Ht6 : Hid ((look (stepAll Li (cs.take (j + 1))) T K).isSome = tj) := Lib.hid (by rw [HA.out]; exact Htj.out)
                      clear hm1 hm2
                      go_wp2_with fail
                      exact ⟨⟨j + 1, by omega, by go_num, ⟨tj, rfl, Ht6⟩, HW6⟩, by simp [intOf]; omega⟩
                  · have g1 : (ct == (T : Int)) = false := by simp [hm1]
                    have HA : Hid (look (stepAll Li (cs.take (j + 1))) T K = look (stepAll Li (cs.take j)) T K) := Lib.hid (by rw [HStep.out]; exact look_step_other HSrj.out _ (fun h => hm1 h.1.symm))
                    have HW6 := Lib.hid (want_same (M := stepAll Li (cs.take (j + 1))) (HWj.out.below (ba wj (.cells (chCells ⟨ct, ck, chad, ⟨coa, cob, coc⟩, chas, ⟨cna, cnb, cnc⟩⟩) 57))) HA.out)
                    have Ht6 : Hid ((look (stepAll Li (cs.take (j + 1))) T K).isSome = tj) := Lib.hid (by rw [HA.out]; exact Htj.out)
                    clear hm1
                    go_wp2_with fail
                    exact ⟨⟨j + 1, by omega, by go_num, ⟨tj, rfl, Ht6⟩, HW6⟩, by simp [intOf]; omega⟩
                · obtain rfl : j = cs.length := by omega
                  have hjl2 : ¬ (cs.length : Int) < cs.length := by omega
                  have HW6 : Hid (WantAt w2 wj wk.heap.size (rowsOf (R.take (i + 1))) T K) := Lib.hid (by rw [Htk.out]; have := HWj.out; rwa [List.take_length] at this)
                  have Ht6 : Hid ((look (rowsOf (R.take (i + 1))) T K).isSome = tj) := Lib.hid (by rw [Htk.out]; have := Htj.out; rwa [List.take_length] at this)
                  go_wp2_with fail
                  exact ⟨⟨i + 1, by omega, by go_num, ⟨tj, rfl, Ht6⟩, HW6⟩, by simp [intOf]; omega⟩
            · obtain rfl : i = m := by omega
              rw [HLm.out] at HWi Hth
              have hbS := HS1.out.below HWi.out.2.2
              obtain ⟨⟨rt, rk, ⟨ra1, rb1, rc1⟩⟩, Hrr⟩ : ∃ r, Hid ((look Lm T K).getD rowZ = r) := ⟨_, Lib.hid rfl⟩
              have HGet := Lib.hid (get_any hbS (t := T) (k := K) ⟨by omega, by omega⟩ ⟨by omega, by omega⟩)
              rw [Hth.out, Hrr.out] at HGet
              unfold rowV at HGet
              have HN := Lib.hid (cntk_next HSr.out T K)
              have hy2 : y ≤ 2000 := by rw [← Hy.out]; exact HCnt.out _ _
              clear hbS
              go_wp2_with fail
              (with_reducible refine HGet.out.mono ?_)
              rintro e w5 ⟨rfl, hb5⟩
              have HW5 := Lib.hid (HWi.out.below hb5)
              obtain ⟨f0, f1, f2, f3, f4, ff⟩ := HW5.out.cells Hrr.out
              simp only at f0 f1 f2 f3 f4
              have hwk5 : wk.heap.size < w5.heap.size := lt_of_block HW5.out.2.1
              have hwk5n : ¬ wk.heap.size = w5.heap.size := by omega
              have HB6 : Hid (Below w2.heap.size w2 (w5.alloc (.cells #[.int .i64 rt, .int .i64 rk, .int .i64 ra1, .int .i64 rb1, .int .i64 rc1] 50))) := Lib.hid (bt HW5.out.2.2 (ba w5 _))
              have hq := fun w => neqRow_same rt rk ra1 rb1 rc1 w
              clear hb5
              cases th
              · have HC6 : Hid (cntk Lm T ((K : Int) + 1) = y) := Lib.hid (by rw [HN.out, Hth.out, Hy.out]; simp)
                go_wp2_with fail
                exact ⟨⟨K + 1, by omega, by omega, by go_num, ⟨y, rfl, by rw [Int.natCast_add]; exact HC6⟩, HB6⟩, by simp [intOf]; omega⟩
              · have HC6 : Hid (cntk Lm T ((K : Int) + 1) = y + 1) := Lib.hid (by rw [HN.out, Hth.out, Hy.out]; simp)
                go_wp2_with fail
                exact ⟨⟨K + 1, by omega, by omega, by go_num, ⟨y + 1, by go_num, by rw [Int.natCast_add]; exact HC6⟩, HB6⟩, by simp [intOf]; omega⟩
        · obtain rfl : K = 10 := by omega
          have HC6 : Hid (cntk Lm ((T : Int) + 1) 1 = y) := Lib.hid (by rw [cntk_table HIn.out]; exact Hy.out)
          go_wp2_with fail
          exact ⟨⟨T + 1, by omega, by go_num, ⟨y, rfl, by rw [Int.natCast_add]; exact HC6⟩, HBk0⟩, by simp [intOf]; omega⟩
    · obtain rfl : T = 3 := by omega
      obtain rfl : x = Lm.length := by rw [← Hx.out]; exact cntk_last HIn.out
      have HLen := Lib.hid (len_any (HS1.out.below HBt.out))
      have HBf := Lib.hid (bt HB0.out (bt HB2.out HBt.out))
      clear Hx
      go_wp2_with (first | (with_reducible refine HLen.out.mono ?_; rintro e wy ⟨rfl, rfl⟩))
      go_ret
      exact ⟨rfl, HBf.out⟩
end Go.Proofs.Ytaapggeaoacikaa
