/- WALKS: Print's closure for numbers. -/
import Derived.Test.YtmjcjgmmolmibaaDoorW6
import Derived.Test.YtmjcjgmmolmibaaDoorQ1
import Derived.Maps.RangeWalk
set_option linter.unusedVariables false
set_option linter.unusedSimpArgs false
namespace Go.Proofs.YtmjcjgmmolmibaaDoor
open Go.RowKit Go.Sort

def MQ.Ok' (q : MQ) : Prop := ∀ j, I64 (q.get j)
set_option maxRecDepth 100000 in
set_option maxHeartbeats 1000000 in
theorem printN_any {a : Addr} {B : World} {lb qb : Nat} {w : World} {s : SpS} (hL : Lw a B) (h : PrI B lb qb w s) (hl : s.ws.length ≤ 100) (hq : MQ.Ok' s.q) (j : Nat) (hj : 1 ≤ j ∧ j ≤ 6) :
    Calls Tryd.prog 20 #[.pointer (some ⟨qb, j, none⟩), .pointer (some ⟨lb, 0, none⟩)] w (SpOut (PrI B lb qb) (fun _ => False) a (pn s j)) := by
  obtain ⟨i0, hI, hZ0, hZ1, hZ2⟩ := info_parts Tryd.info9
  have HI := Lib.hid h
  obtain ⟨v, hv, ho⟩ := h.v
  have HO := Lib.hid ho
  have HV := Lib.hid hv
  obtain ⟨va, vn, vc, rfl⟩ := ho.form
  have ll : lb < w.heap.size := lt_of_heap hv
  have lln : ¬ lb = w.heap.size := by omega
  have HLn := Lib.hid hl
  have HLw := Lib.hid (hL.below h.b)
  have HQ := Lib.hid (h.q.cellOf j hj)
  have hz := hq j
  obtain ⟨z, Hz⟩ : ∃ z, Hid (s.q.get j = z) := ⟨_, Lib.hid rfl⟩
  rw [Hz.out] at HQ hz
  have HZ := Lib.hid hz
  have hql : qb < w.heap.size := World.block_lt_of_cell? w _ HQ.out
  have HP : Hid (pn s j = some { s with ws := s.ws ++ [Lib.itoa z] }) := Lib.hid (by unfold pn; rw [Hz.out])
  clear h ho hv hq hz hj hL
  have HW0 : Hid (Below w.heap.size w w.drew) := Lib.hid (Below.refl _ _).drew
  have HIt := Lib.hid (itoa_any a z w.drew (HLw.out.below HW0.out) HZ.out)
  have c1 := (one_cell HV.out).1
  have c2 := HQ.out
  have HD : Hid (w.drew.heap.size = w.heap.size) := Lib.hid rfl
  go_enter Tryd.func20, Tryd.ntmps20
  go_wp2_with fail
  go_region_law ((first | (go_simp; refine HIt.out.mono ?_; rintro e w1 ⟨rfl, hb1⟩; have HB1 : Hid (Below w.heap.size w w1) := (Lib.hid (bt HW0.out hb1)); have e1 := (one_cell ((HB1.out.block lb ll).trans HV.out)).1; have e4 : lb < w1.heap.size := (by have := HB1.out.size; omega); have e3 : ¬ lb = w1.heap.size := (by have := HB1.out.size; omega); clear hb1) | (refine step_append_lies _ (by rfl) (.tmp 3) (.tmp 8) 35 (by rfl) (qb + 1) 9 i0 (.string ⟨#[]⟩) 1 16 Tryd.underlying35 hI hZ0 hZ1 hZ2 (by rfl) (by decide) _ _ _ (by rfl) (World.ownsRow.alloc (HO.out.below HB1.out) _) ⟨w1.heap.size, 0, none⟩ 1 1 [.string (bstr (Lib.itoa z))] (by rfl) (by rfl) (World.news_of_block (heap_alloc_new w1 _)) (strOne _) (by decide) (by unfold maxLen; omega) (by omega) (by have := HB1.out.size; simp; omega) _ rfl ?_; intro g cp w5 hown' hgrow _ hgl; have HOn : Hid (OwnS w5 (qb + 1) (.slice (some ⟨g, 0, none⟩) (s.ws.length + 1) cp) (s.ws ++ [Lib.itoa z])) := (Lib.hid (by unfold OwnS; rw [List.length_append, strs_snoc]; exact hown')); have HG := Lib.hid (grown_of_below (bt HB1.out (ba w1 _)) hgrow); obtain ⟨k1, kf⟩ := one_cell ((HG.out.block lb ll (fun e => HO.out.ne HV.out e.symm)).trans HV.out); clear hown' hgrow)))
  all_goals
    go_end0
    exact SpOut.ok HP rfl (HI.out.push HV.out HO.out HG.out HOn.out)
end Go.Proofs.YtmjcjgmmolmibaaDoor
