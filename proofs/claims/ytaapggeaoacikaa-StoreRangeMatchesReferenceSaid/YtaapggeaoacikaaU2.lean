/- WALKS: StoreUndo, given what Log does. -/
import Derived.Test.YtaapggeaoacikaaU1
set_option linter.unusedVariables false
set_option linter.unusedSimpArgs false
namespace Go.Proofs.Ytaapggeaoacikaa
open Go.RowKit Go.Sort Go.ChangeMaps Go.MapKept

/-- The states s and t of StoreUndo, apart from one another. -/
def UndoSt (w0 wr : World) (R : List MRec) (m b1 b2 : Nat) (m2 : Option Nat) (i : Nat) : Prop :=
  ∃ m1, StAt wr b1 m1 (rowsOf (R.take (R.length - i))) (R.length + i : Nat) ∧ StAt wr b2 m2 (rowsOf (R.take (R.length - m))) (R.length - m : Nat) ∧ Own w0.heap.size b1 m1 ∧ Own w0.heap.size b2 m2 ∧
    (∀ k, foot b1 m1 k → ¬ foot b2 m2 k) ∧ Below w0.heap.size w0 wr

theorem Try.info57 : (Try.prog.info? 57).map (fun i => (i.zero, i.size, i.bytes)) = some (some (.agg #[.int .i64 0, .int .i64 0, .bool false, .int .i64 0, .int .i64 0, .int .i64 0, .bool false, .int .i64 0, .int .i64 0, .int .i64 0]), 10, 80) := by kernel_rfl
theorem ownC_form {w : World} {base : Nat} {v : Value} {M : List MCh} (h : OwnC w base v M) : ∃ a n c, v = .slice a n c := by
  rcases h.2 with ⟨rfl, _⟩ | ⟨g, cap, cur, rfl, _⟩
  · exact ⟨_, _, _, rfl⟩
  · exact ⟨_, _, _, rfl⟩
theorem ownC_snoc {W : World} {B : Nat} {v : Value} {M : List MCh} {c : MCh} (h : W.ownsRow B 57 10 v (M.length + 1) (flatC M ++ ccl c)) : OwnC W B v (M ++ [c]) := by
  unfold OwnC
  rw [List.length_append, flatC_app]
  simpa [flatC] using h
theorem take_turn {cs : List MCh} {i : Nat} (h : i < cs.length) : (cs.take (i + 1)).map turnC = (cs.take i).map turnC ++ [turnC (cs.getD i chZ)] := by
  rw [take_snoc' (d := chZ) h, List.map_append]
  rfl

set_option maxRecDepth 100000 in
set_option maxHeartbeats 8000000 in
theorem undo_of (H : LogWalked) {W : World} {v : Value} {n : Nat} {back : Int} (h : XS W v n) (hb : I64 back) : Calls Try.prog 5 #[v, .int .i64 back] W fun e w' => e = .returned (.bool true) ∧ Below W.heap.size W w' := by
  have HX := Lib.hid h
  have HL := Lib.hid H
  have HBk := Lib.hid hb
  clear h H hb
  go_enter Try.func5, Try.ntmps5
  go_wp2_with fail
  (with_reducible refine (sane_any W).mono ?_)
  rintro e w1 ⟨rfl, hb1⟩
  have HB1 := Lib.hid hb1
  have HX1 : Hid (XS w1 v n) := Lib.hid (by
    obtain ⟨a, cap, e, h1, h2, h3⟩ := HX.out
    refine ⟨a, cap, e, h1, h2, fun hh => ?_⟩
    obtain ⟨b, o, e1, hb, hc⟩ := h3 hh
    refine ⟨b, o, e1, Nat.lt_of_lt_of_le hb hb1.size, fun i j hi hj => ?_⟩
    obtain ⟨z, hz, hcell⟩ := hc i j hi hj
    exact ⟨z, hz, (hb1.cell (p := ⟨b, o + i * 6 + j, none⟩) hb).trans hcell⟩)
  clear hb1
  go_wp2_with fail
  (with_reducible refine (lawLog_of HL.out HX1.out).mono ?_)
  rintro e w0 ⟨R, u, rfl, hrs, hch, hl30, hsm, hb0⟩
  have HRS := Lib.hid hrs
  have HCh := Lib.hid hch
  have HB0 := Lib.hid (bt HB1.out hb0)
  obtain ⟨ra, rn, rcap, rfl, hrn, hrest⟩ := hrs
  subst hrn
  clear hrest hch hsm hb0 HX1 HX
  have hpr := pk_range back (n := (R.length : Int) + 1) (by omega)
  obtain ⟨m, hm⟩ : ∃ m : Nat, pk back ((R.length : Int) + 1) = m := ⟨(pk back ((R.length : Int) + 1)).toNat, by omega⟩
  have hml : m ≤ R.length := by omega
  have HPk := Lib.hid (pick_any back ((R.length : Int) + 1) w0 HBk.out (by omega) (by omega))
  rw [hm] at HPk
  clear hpr hm
  go_wp2_with fail
  (with_reducible refine HPk.out.mono ?_)
  rintro e wx ⟨rfl, rfl⟩
  go_wp2_with fail
  refine (at_any HRS.out HCh.out R.length (Nat.le_refl _)).mono ?_
  rintro e w2 ⟨b1, m1, rfl, hs1, ho1, hb2⟩
  have HS1 := Lib.hid hs1
  have HO1 := Lib.hid ho1
  have HB2 := Lib.hid hb2
  clear hs1 ho1 hb2
  go_wp2_with fail
  rw [show ((R.length : Int) - (m : Int)) = ((R.length - m : Nat) : Int) by omega]
  refine (at_any (HRS.out.below HB2.out) HCh.out (R.length - m) (by omega)).mono ?_
  rintro e w3 ⟨b2, m2, rfl, hs2, ho2, hb3⟩
  have HU0 : Hid (UndoSt w0 w3 R m b1 b2 m2 0) := Lib.hid ⟨m1, HS1.out.below hb3, hs2, HO1.out, ⟨Nat.le_trans HB2.out.size ho2.1, fun i e => Nat.le_trans HB2.out.size (ho2.2 i e)⟩, fun k f1 f2 => by
    have q1 : k < w2.heap.size := by
      rcases f1 with rfl | f1
      · exact HS1.out.lt
      · exact HS1.out.mlt f1
    rcases f2 with rfl | f2
    · have := ho2.1; omega
    · have := ho2.2 _ f2; omega, bt HB2.out hb3⟩
  clear hs2 ho2 hb3 HS1 HO1
  go_wp2_with fail
  go_loopw [12] (fun i wr => ∃ k : Nat, k ≤ m ∧ i = .int .i64 k ∧ Hid (UndoSt w0 wr R m b1 b2 m2 k)) (fun i _ => m - (intOf i).toNat)
  case atStart => exact ⟨0, by omega, rfl, HU0⟩
  case round =>
    obtain ⟨k, hk, rfl, HU⟩ := hrel
    clear HU0
    by_cases hlt : k < m
    · obtain ⟨m1', g1, g2, g3, g4, g5, g6⟩ := HU.out
      have HS1 := Lib.hid g1
      have HS2 := Lib.hid g2
      have HO1 := Lib.hid g3
      have HO2 := Lib.hid g4
      have HAp := Lib.hid g5
      have HBr := Lib.hid g6
      have HStep := Lib.hid (undo_step HCh.out (by omega) (i := k) (by omega))
      obtain ⟨j, hj⟩ : ∃ j, Hid (R.length - 1 - k = j ∧ j < R.length) := ⟨_, Lib.hid ⟨rfl, by omega⟩⟩
      rw [hj.out.1] at HStep
      obtain ⟨_, _, _, er, hrn, _, _, hrc⟩ := HRS.out.below HBr.out
      simp at er
      obtain ⟨rfl, rfl, rfl⟩ := er
      obtain ⟨rb, ro, rfl, hrb, hcs⟩ := hrc (by omega)
      obtain ⟨q0, vs, q1, hvs⟩ := hcs j (by have := hj.out.2; omega)
      obtain ⟨cs, Hcs⟩ : ∃ cs, Hid ((R.getD j recZ).chs = cs) := ⟨_, Lib.hid rfl⟩
      rw [Hcs.out] at hvs HStep
      have HVs := Lib.hid hvs
      obtain ⟨va, vn, vcap, rfl, hvn, _, _, _⟩ := hvs
      subst hvn
      have hidx : ((R.length : Int) - 1 - k) = (j : Int) := by have := hj.out; omega
      clear g1 g2 g3 g4 g5 g6 hrc hcs hrn
      obtain ⟨i0, hI, hZ0, hZ1, hZ2⟩ := info_parts Try.info57
      have hcl8 : cs.length ≤ 8 := by have := HStep.out.1.1.2.1.2; simpa using this
      go_wp2_with fail
      obtain ⟨wa, Hwa⟩ : ∃ wa, Hid (wr.alloc (.cells #[.int .i64 ((R.length : Int) + k + 1), .slice none 0 0] 32) = wa) := ⟨_, Lib.hid rfl⟩
      rw [Hwa.out]
      have HA0 : Hid (wa.heap[wr.heap.size]? = some (.cells #[.int .i64 ((R.length : Int) + k + 1), .slice none 0 0] 32 (0, 0))) := Lib.hid (by rw [← Hwa.out]; exact (MapKept.heap_alloc wr _).1)
      have HAB : Hid (Below wr.heap.size wr wa) := Lib.hid (by rw [← Hwa.out]; exact ba _ _)
      clear q0 q1
      obtain ⟨wo, hwo⟩ : ∃ wo, wo = wr := ⟨_, rfl⟩
      subst hwo
      go_loopw [15] (fun s wq => ∃ i : Nat, i ≤ cs.length ∧ s = .int .i64 i ∧ ∃ vl, Hid (wq.heap[wo.heap.size]? = some (.cells #[.int .i64 ((R.length : Int) + k + 1), vl] 32 (0, 0))) ∧ Hid (OwnC wq (wo.heap.size + 1) vl ((cs.take i).map turnC)) ∧ Hid (Below wo.heap.size wo wq)) (fun s _ => cs.length - (intOf s).toNat)
      case atStart => exact ⟨0, by omega, rfl, _, HA0, Lib.hid (OwnC.nil _ _), HAB⟩
      case round =>
        obtain ⟨i, hi, rfl, vl, HH, HOl, HBq⟩ := hrel
        rename World => wq
        obtain ⟨la, ln, lcap, rfl⟩ := ownC_form HOl.out
        have q0 : wq.cell? ⟨wo.heap.size, 0, none⟩ = some (.int .i64 ((R.length : Int) + k + 1)) := by simp [World.cell?, HH.out]
        have q1 : wq.cell? ⟨wo.heap.size, 1, none⟩ = some (.slice la ln lcap) := by simp [World.cell?, HH.out]
        have qz : wo.heap.size < wq.heap.size := lt_of_block HH.out
        have qn : ¬ wo.heap.size = wq.heap.size := by omega
        have qn1 : ¬ wo.heap.size = wq.heap.size + 1 := by omega
        by_cases hil : i < cs.length
        · obtain ⟨_, _, _, ev, _, _, _, hvc⟩ := HVs.out
          simp at ev
          obtain ⟨rfl, rfl, rfl⟩ := ev
          obtain ⟨cb, co, rfl, hcb, hca⟩ := hvc (by omega)
          have HCi := (hca i (by omega)).below hcb HBq.out
          clear hvc hca
          obtain ⟨⟨ct, ck, chad, ⟨coa, cob, coc⟩, chas, ⟨cna, cnb, cnc⟩⟩, Hci⟩ : ∃ c, Hid (cs.getD i chZ = c) := ⟨_, Lib.hid rfl⟩
          rw [Hci.out] at HCi
          obtain ⟨d0, d1, d2, d3, d4, d5, d6, d7, d8, d9⟩ := HCi.cells
          have Htk := Lib.hid (take_turn hil)
          rw [Hci.out] at Htk
          clear HCi
          obtain ⟨Mt, HMt⟩ : ∃ Mt, Hid ((cs.take i).map turnC = Mt) := ⟨_, Lib.hid rfl⟩
          have hMt : Mt.length ≤ 8 := by rw [← HMt.out, List.length_map, List.length_take]; omega
          rw [HMt.out] at HOl Htk
          have HO2 : Hid (wq.ownsRow (wo.heap.size + 1) 57 10 (.slice la ln lcap) Mt.length (flatC Mt)) := Lib.hid HOl.out
          go_wp2_with (at_builtin; (refine wpList_append_own _ rfl (.tmp 78) (.tmp 92) 30 rfl (wo.heap.size + 1) 57 i0 (.agg #[.int .i64 0, .int .i64 0, .bool false, .int .i64 0, .int .i64 0, .int .i64 0, .bool false, .int .i64 0, .int .i64 0, .int .i64 0]) 10 80 Try.underlying30 hI hZ0 hZ1 hZ2 rfl (by decide) _ _ _ rfl ((HO2.out.alloc _).alloc _) ⟨wq.heap.size + 1, 0, none⟩ 1 1 (ccl ⟨ct, ck, chas, ⟨cna, cnb, cnc⟩, chad, ⟨coa, cob, coc⟩⟩) rfl rfl (World.news_of_block (cs := chCells ⟨ct, ck, chas, ⟨cna, cnb, cnc⟩, chad, ⟨coa, cob, coc⟩⟩) (t := 57) (fr := (0, 0)) (by have := heap_alloc_new (wq.alloc (.cells (chCells ⟨ct, ck, chad, ⟨coa, cob, coc⟩, chas, ⟨cna, cnb, cnc⟩⟩) 57)) (.cells (chCells ⟨ct, ck, chas, ⟨cna, cnb, cnc⟩, chad, ⟨coa, cob, coc⟩⟩) 57); rwa [World.size_alloc] at this)) (ccl_one _) (by unfold maxLen; omega) (by omega) (by simp; omega) ?_; intro v' w5 hown' hgrow _; have HOn : Hid (OwnC w5 (wo.heap.size + 1) v' (Mt ++ [turnC ⟨ct, ck, chad, ⟨coa, cob, coc⟩, chas, ⟨cna, cnb, cnc⟩⟩])) := Lib.hid (ownC_snoc hown'); have HB5 : Hid (Below wo.heap.size wo w5) := Lib.hid ((bt HBq.out (bt (ba wq _) (ba _ _))).grown hgrow (by rw [World.size_alloc, World.size_alloc]; omega) (fun x hx => Nat.le_of_succ_le (own_type HO2.out hx).1)); have HH5 : Hid (w5.heap[wo.heap.size]? = some (.cells #[.int .i64 ((R.length : Int) + k + 1), .slice la ln lcap] 32 (0, 0))) := Lib.hid ((hgrow.block _ (by rw [World.size_alloc, World.size_alloc]; omega) (fun e => by have := (own_type HO2.out e.symm).1; omega)).trans (((bt (ba wq _) (ba _ _)).block _ qz).trans HH.out)); obtain ⟨va', vn', vc', rfl⟩ := ownC_form HOn.out; have k1 : w5.cell? ⟨wo.heap.size, 1, none⟩ = some (.slice la ln lcap) := (by simp [World.cell?, HH5.out]); have kf : w5.frozen? ⟨wo.heap.size, 1, none⟩ = false := (by simp [World.frozen?, HH5.out]); clear hown' hgrow))
          have hk5 : Kept (fun x => x = wo.heap.size) w5 (w5.setCell ⟨wo.heap.size, 1, none⟩ (.slice va' vn' vc')) := Kept.setCell (F := fun x => x = wo.heap.size) (p := ⟨wo.heap.size, 1, none⟩) (Kept.refl _ _) (.inl rfl) _
          exact ⟨⟨i + 1, by omega, by go_num, _, Lib.hid (setCell_heap HH5.out 1 _), by rw [Htk.out]; exact Lib.hid (HOn.out.kept hk5 (fun x hx e => by have := (own_type HOn.out hx).1; omega)), Lib.hid (((Kept.of_below (F := fun x => x = wo.heap.size) HB5.out).trans hk5 (fun _ _ f => f)).below (Nat.le_refl _) (fun x e => by omega))⟩, by simp [intOf]; omega⟩
        · obtain rfl : i = cs.length := by omega
          have HCl : Hid (ChS wq (.slice la ln lcap) (cs.map turnC)) := Lib.hid (by have := HOl.out.chS; rwa [List.take_length] at this)
          have HOk : Hid (Okay (rowsOf (R.take (R.length - k))) (R.length + k : Nat) ((R.length : Int) + k + 1) (cs.map turnC)) := Lib.hid (by have := HStep.out.1; rwa [show ((R.length + k + 1 : Nat) : Int) = (R.length : Int) + k + 1 by omega] at this)
          go_wp2_with fail
          (with_reducible refine (apply_ok (HS1.out.below HBq.out) HCl.out HOk.out).mono ?_)
          rintro e w6 ⟨rfl, m6, hst, hkt, hm6⟩
          have HUn : Hid (UndoSt w0 w6 R m b1 b2 m2 (k + 1)) := Lib.hid (by
            refine ⟨m6, ?_, ?_, ⟨HO1.out.1, fun x hx => ?_⟩, HO2.out, ?_, ?_⟩
            · rw [← HStep.out.2, show ((R.length + (k + 1) : Nat) : Int) = (R.length : Int) + k + 1 by omega]
              exact hst
            · exact (HS2.out.below HBq.out).kept hkt (fun x f g => HAp.out x g f)
            · rcases hm6 with rfl | ⟨y, rfl, hy⟩
              · exact HO1.out.2 x hx
              · cases hx
                have := HBr.out.size
                have := HBq.out.size
                omega
            · intro x f g
              rcases f with rfl | f
              · exact HAp.out _ (.inl rfl) g
              · rcases hm6 with rfl | ⟨y, rfl, hy⟩
                · exact HAp.out x (.inr f) g
                · cases f
                  have h1 := HBq.out.size
                  rcases g with rfl | g
                  · have := HS2.out.lt; omega
                  · have := HS2.out.mlt g; omega
            · exact ((Kept.of_below (F := foot b1 m1') (bt HBr.out HBq.out)).trans hkt (fun _ _ f => f)).below (Nat.le_refl _) (fun x f => by
                rcases f with rfl | f
                · exact HO1.out.1
                · exact HO1.out.2 x f))
          clear hst hkt hm6
          go_wp2_with fail
          exact ⟨⟨k + 1, by omega, by go_num, HUn⟩, by simp [intOf]; omega⟩
    · obtain rfl : k = m := by omega
      obtain ⟨m1', g1, g2, g3, g4, g5, g6⟩ := HU.out
      have HBr := Lib.hid (bt HB0.out g6)
      have HE := Lib.hid (equal_true g1 g2)
      clear g1 g2 g3 g4 g5 g6
      go_wp2_with fail
      (with_reducible refine HE.out.mono ?_)
      rintro e w9 ⟨rfl, hb9⟩
      have HB9 := Lib.hid (bt HBr.out hb9)
      clear hb9
      go_wp2_with fail
      go_ret
      exact ⟨rfl, HB9.out⟩
end Go.Proofs.Ytaapggeaoacikaa
