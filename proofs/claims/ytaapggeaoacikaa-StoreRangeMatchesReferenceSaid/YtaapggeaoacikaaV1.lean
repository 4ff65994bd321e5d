/- WALKS: StoreClone, given what Log does. -/
import Derived.Test.YtaapggeaoacikaaU2
set_option linter.unusedVariables false
set_option linter.unusedSimpArgs false
namespace Go.Proofs.Ytaapggeaoacikaa
open Go.RowKit Go.Sort Go.ChangeMaps Go.MapKept

theorem XS.below {w w1 : World} {v : Value} {n : Nat} (h : XS w v n) (hb1 : Below w.heap.size w w1) : XS w1 v n := by
  obtain ⟨a, cap, e, h1, h2, h3⟩ := h
  refine ⟨a, cap, e, h1, h2, fun hh => ?_⟩
  obtain ⟨b, o, e1, hb, hc⟩ := h3 hh
  refine ⟨b, o, e1, Nat.lt_of_lt_of_le hb hb1.size, fun i j hi hj => ?_⟩
  obtain ⟨z, hz, hcell⟩ := hc i j hi hj
  exact ⟨z, hz, (hb1.cell (p := ⟨b, o + i * 6 + j, none⟩) hb).trans hcell⟩

set_option maxRecDepth 100000 in
set_option maxHeartbeats 8000000 in
theorem clone_of (H : LogWalked) {W : World} {v : Value} {n : Nat} {p : Int} (h : XS W v n) (hb : I64 p) : Calls Try.prog 9 #[v, .int .i64 p] W fun e w' => e = .returned (.bool true) ∧ Below W.heap.size W w' := by
  have HX := Lib.hid h
  have HL := Lib.hid H
  have HBk := Lib.hid hb
  clear h H hb
  go_enter Try.func9, Try.ntmps9
  go_wp2_with fail
  (with_reducible refine (sane_any W).mono ?_)
  rintro e w1 ⟨rfl, hb1⟩
  have HB1 := Lib.hid hb1
  have HX1 := Lib.hid (HX.out.below hb1)
  clear hb1
  go_wp2_with fail
  (with_reducible refine (lawLog_of HL.out HX1.out).mono ?_)
  rintro e w0 ⟨R, u, rfl, hrs, hch, hl30, hsm, hb0⟩
  have HRS := Lib.hid hrs
  have HCh := Lib.hid hch
  have HB0 := Lib.hid (bt HB1.out hb0)
  obtain ⟨ra, rn, rcap, rfl, hrn, hrest⟩ := hrs
  subst hrn
  clear hrest hch hsm hb0 HX1 HX
  have hpr := pk_range p (n := (R.length : Int) + 1) (by omega)
  obtain ⟨m, hm⟩ : ∃ m : Nat, pk p ((R.length : Int) + 1) = m := ⟨(pk p ((R.length : Int) + 1)).toNat, by omega⟩
  have hml : m ≤ R.length := by omega
  have HPk := Lib.hid (pick_any p ((R.length : Int) + 1) w0 HBk.out (by omega) (by omega))
  rw [hm] at HPk
  clear hpr hm
  go_wp2_with fail
  (with_reducible refine HPk.out.mono ?_)
  rintro e wx ⟨rfl, rfl⟩
  go_wp2_with fail
  refine (at_any HRS.out HCh.out m hml).mono ?_
  rintro e w2 ⟨b1, m1, rfl, hs1, ho1, hb2⟩
  have HS1 := Lib.hid hs1
  have HB2 := Lib.hid hb2
  clear hs1 ho1 hb2
  go_wp2_with fail
  refine (at_any (HRS.out.below HB2.out) HCh.out m hml).mono ?_
  rintro e w3 ⟨b2, m2, rfl, hs2, ho2, hb3⟩
  have HS13 := Lib.hid (HS1.out.below hb3)
  have HS23 := Lib.hid hs2
  have HB3 := Lib.hid (bt HB2.out hb3)
  clear hs2 ho2 hb3 HS1
  go_wp2_with fail
  refine (at_any (HRS.out.below HB3.out) HCh.out R.length (Nat.le_refl _)).mono ?_
  rintro e w4 ⟨b3, m3, rfl, hs3, ho3, hb4⟩
  have HS14 := Lib.hid (HS13.out.below hb4)
  have HS24 := Lib.hid (HS23.out.below hb4)
  have HS34 := Lib.hid hs3
  have HB4 := Lib.hid (bt HB3.out hb4)
  clear hs3 ho3 hb4 HS13 HS23
  go_wp2_with fail
  (with_reducible refine (clone_any HS14.out).mono ?_)
  rintro e w5 ⟨bc, mc, rfl, hsc, hoc, hb5⟩
  have HSc := Lib.hid hsc
  have HOc := Lib.hid hoc
  have HB5 := Lib.hid hb5
  clear hsc hoc hb5
  go_wp2_with fail
  (with_reducible refine (equal_true HSc.out (HS24.out.below HB5.out)).mono ?_)
  rintro e w6 ⟨rfl, hb6⟩
  have HC6 : Hid (∃ mc, StAt w6 bc mc (rowsOf (R.take m)) m ∧ Own w4.heap.size bc mc ∧ Below w4.heap.size w4 w6) := Lib.hid ⟨mc, HSc.out.below hb6, HOc.out, bt HB5.out hb6⟩
  have HSc6 := Lib.hid (HSc.out.below hb6)
  clear hb6 HSc HOc
  go_wp2_with fail
  (with_reducible refine (position_any HSc6.out).mono ?_)
  rintro e w7 ⟨rfl, rfl⟩
  clear HSc6
  go_wp2_with fail
  go_loopw [15] (fun i wr => ∃ k : Nat, m ≤ k ∧ k ≤ R.length ∧ i = .int .i64 k ∧ Hid (∃ mc, StAt wr bc mc (rowsOf (R.take k)) k ∧ Own w4.heap.size bc mc ∧ Below w4.heap.size w4 wr)) (fun i _ => R.length - (intOf i).toNat)
  case atStart => exact ⟨m, Nat.le_refl _, hml, rfl, HC6⟩
  case round =>
    obtain ⟨k, hmk, hk, rfl, HC⟩ := hrel
    clear HC6
    by_cases hlt : k < R.length
    · obtain ⟨mk, g1, g2, g3⟩ := HC.out
      have HSk := Lib.hid g1
      have HOk := Lib.hid g2
      have HBk2 := Lib.hid g3
      have HOa := Lib.hid (HCh.out k hlt)
      have Htk := Lib.hid (rowsOf_succ hlt)
      obtain ⟨_, _, _, er, hrn, _, _, hrc⟩ := HRS.out.below (bt HB4.out HBk2.out)
      simp at er
      obtain ⟨rfl, rfl, rfl⟩ := er
      obtain ⟨rb, ro, rfl, hrb, hcs⟩ := hrc (by omega)
      obtain ⟨q0, vs, q1, hvs⟩ := hcs k hlt
      obtain ⟨r, Hr⟩ : ∃ r, Hid (R.getD k recZ = r) := ⟨_, Lib.hid rfl⟩
      rw [Hr.out] at q0 hvs HOa Htk
      obtain ⟨pos, cs⟩ := r
      simp only at q0 hvs
      obtain rfl : pos = k + 1 := HOa.out.2.1
      have HVs := Lib.hid hvs
      obtain ⟨va, vn, vcap, rfl, hvrest⟩ := hvs
      clear g1 g2 g3 hrc hcs hrn hvrest
      go_wp2_with fail
      (with_reducible refine (apply_ok HSk.out HVs.out HOa.out).mono ?_)
      rintro e w6 ⟨rfl, m6, hst, hkt, hm6⟩
      have HCn : Hid (∃ mc, StAt w6 bc mc (rowsOf (R.take (k + 1))) ((k + 1 : Nat) : Int) ∧ Own w4.heap.size bc mc ∧ Below w4.heap.size w4 w6) := Lib.hid ⟨m6, by rw [Htk.out, Int.natCast_add]; exact hst, ⟨HOk.out.1, fun x hx => by
          rcases hm6 with rfl | ⟨y, rfl, hy⟩
          · exact HOk.out.2 x hx
          · cases hx
            have := HBk2.out.size
            omega⟩, ((Kept.of_below (F := foot bc mk) HBk2.out).trans hkt (fun _ _ f => f)).below (Nat.le_refl _) (fun x f => by
          rcases f with rfl | f
          · exact HOk.out.1
          · exact HOk.out.2 x f)⟩
      clear hst hkt hm6
      go_wp2_with fail
      exact ⟨⟨k + 1, by omega, by omega, by go_num, HCn⟩, by simp [intOf]; omega⟩
    · obtain rfl : k = R.length := by omega
      obtain ⟨mk, g1, g2, g3⟩ := HC.out
      have HSk := Lib.hid g1
      have HBk2 := Lib.hid g3
      clear g1 g2 g3
      go_wp2_with fail
      (with_reducible refine (rows_any (HS14.out.below HBk2.out) 0).mono ?_)
      rintro e w8 ⟨vr, M, rfl, hor, hsr, hb8⟩
      obtain ⟨oa, on, ocap, rfl⟩ := own_form hor
      have HG : Hid (∀ g, oa = some ⟨g, 0, none⟩ → wr.heap.size ≤ g ∧ ∃ cur, w8.heap[g]? = some (.cells cur 50 (0, 0)) ∧ on * 5 ≤ cur.size) := Lib.hid (fun g e => by
        rcases hor.2 with ⟨e2, _⟩ | ⟨g', cap', cur, e2, hg, hbk, hnc, _, hcs, _⟩
        · simp at e2
          rw [e2.1] at e
          cases e
        · simp at e2
          rw [e2.1] at e
          simp at e
          subst e
          exact ⟨hg, cur, hbk, by rw [hcs, e2.2.1]; omega⟩)
      have HG1 : Hid (1 ≤ on → ∃ g, oa = some ⟨g, 0, none⟩) := Lib.hid (fun h => by
        rcases hor.2 with ⟨e2, _⟩ | ⟨g', cap', cur, e2, _⟩
        · simp at e2
          omega
        · simp at e2
          exact ⟨g', e2.1⟩)
      have hon2 : on ≤ 4611686018427387904 := by
        have q1 := hsr.1.length_eq
        have q2 := List.length_filter_le (selT 0) (rowsOf (R.take m))
        have q3 := HS14.out.good.2.2
        obtain ⟨_, _, _, e, hn', _⟩ := hor.rowS
        simp at e
        omega
      have HB8 := Lib.hid hb8
      clear hor hsr hb8
      obtain ⟨wo, hwo⟩ : ∃ wo, wo = wr := ⟨_, rfl⟩
      subst hwo
      go_wp2_with fail
      go_loopw [17] (fun i wq => ∃ j : Nat, j ≤ on ∧ i = .int .i64 j ∧ Hid (Below wo.heap.size wo wq) ∧ Hid (∀ g, oa = some ⟨g, 0, none⟩ → wo.heap.size ≤ g ∧ ∃ cur, wq.heap[g]? = some (.cells cur 50 (0, 0)) ∧ on * 5 ≤ cur.size)) (fun i _ => on - (intOf i).toNat)
      case atStart => exact ⟨0, by omega, rfl, HB8, HG⟩
      case round =>
        obtain ⟨j, hj, rfl, HBq, HGq⟩ := hrel
        rename World => wq
        by_cases hjl : j < on
        · obtain ⟨g, rfl⟩ := HG1.out (by omega)
          obtain ⟨hg, cur, hcur, hsz⟩ := HGq.out g rfl
          have hidx : j * 5 + 1 < cur.size := by omega
          have k1 : wq.cell? ⟨g, j * 5 + 1, none⟩ = some cur[j * 5 + 1] := by simp [World.cell?, hcur, hidx]
          have kf : wq.frozen? ⟨g, j * 5 + 1, none⟩ = false := by simp [World.frozen?, hcur]
          have hk5 : Kept (fun x => x = g) wq (wq.setCell ⟨g, j * 5 + 1, none⟩ (.int .i64 99)) := Kept.setCell (F := fun x => x = g) (p := ⟨g, j * 5 + 1, none⟩) (Kept.refl _ _) (.inl rfl) _
          have HBn : Hid (Below wo.heap.size wo (wq.setCell ⟨g, j * 5 + 1, none⟩ (.int .i64 99))) := Lib.hid (((Kept.of_below (F := fun x => x = g) HBq.out).trans hk5 (fun _ _ f => f)).below (Nat.le_refl _) (fun x e => by omega))
          have HGn : Hid (∀ g', (some ⟨g, 0, none⟩ : Option Addr) = some ⟨g', 0, none⟩ → wo.heap.size ≤ g' ∧ ∃ cur, (wq.setCell ⟨g, j * 5 + 1, none⟩ (.int .i64 99)).heap[g']? = some (.cells cur 50 (0, 0)) ∧ on * 5 ≤ cur.size) := Lib.hid (fun g' e => by
            simp at e
            subst e
            exact ⟨hg, _, setCell_heap hcur _ _, by simpa using hsz⟩)
          clear hk5
          go_wp2_with fail
          exact ⟨⟨j + 1, by omega, by go_num, HBn, HGn⟩, by simp [intOf]; omega⟩
        · obtain rfl : j = on := by omega
          have HBa := Lib.hid (bt HBk2.out HBq.out)
          have HSc9 := Lib.hid (HSk.out.below HBq.out)
          have HSc8 : Hid (StAt wq bc mk (rowsOf (R.take R.length)) (R.length : Nat)) := HSc9
          clear HGq HG HG1
          go_wp2_with fail
          (with_reducible refine (equal_true HSc8.out (HS34.out.below HBa.out)).mono ?_)
          rintro e w9 ⟨rfl, hb9⟩
          have HB9 := Lib.hid (bt HBa.out hb9)
          clear hb9
          go_wp2_with fail
          (with_reducible refine (equal_true (HS14.out.below HB9.out) (HS24.out.below HB9.out)).mono ?_)
          rintro e w10 ⟨rfl, hb10⟩
          have HB10 := Lib.hid (bt HB9.out hb10)
          have HS10 := Lib.hid (HS14.out.below HB10.out)
          clear hb10
          go_wp2_with fail
          (with_reducible refine (position_any HS10.out).mono ?_)
          rintro e w11 ⟨rfl, rfl⟩
          go_wp2_with fail
          go_ret
          exact ⟨rfl, bt HB0.out (bt HB4.out HB10.out)⟩
end Go.Proofs.Ytaapggeaoacikaa
