/- WALKS: fit. -/
import Derived.Test.YtaapggeaoacikaaK1
import Derived.Test.YtaapggeaoacikaaQ1
import Derived.Deep.RegionHeld3
import Derived.Deep.CutRange
import Derived.Outline
set_option linter.unusedVariables false
set_option linter.unusedSimpArgs false
namespace Go.Proofs.Ytaapggeaoacikaa
open Go.RowKit Go.Sort Go.ChangeMaps Go.MapKept

def fitB (L : List MRow) (cs : List MCh) : Bool := decide (Fits L cs ∧ cnt L.length cs ≤ 2000)
theorem fit_t {L : List MRow} {cs : List MCh} (h : Fits L cs ∧ cnt L.length cs ≤ 2000) : Ending.returned (.bool true) = .returned (.bool (fitB L cs)) := by rw [fitB, decide_eq_true h]
theorem fit_f {L : List MRow} {cs : List MCh} (h : ¬ (Fits L cs ∧ cnt L.length cs ≤ 2000)) : Ending.returned (.bool false) = .returned (.bool (fitB L cs)) := by rw [fitB, decide_eq_false h]

theorem neq3 (a b c a' b' c' : Int) (w : World) : (Go.binOp .neq 48 (.agg #[.int .i64 a, .int .i64 b, .int .i64 c]) (.agg #[.int .i64 a', .int .i64 b', .int .i64 c'])).run Try.prog w = .ok (.bool (!v3e ⟨a, b, c⟩ ⟨a', b', c'⟩)) w := by
  rw [run_neq_struct, equal3]; rfl
theorem below_row {B g : Nat} {w0 w : World} (h : Below B w0 w) (hg : B ≤ g) (cs : Array Value) : Below B w0 (w.setRow g cs) :=
  ⟨h.os, h.tape, h.output, by simpa using h.size, fun k hk => (setRow_other w g k cs (by omega)).trans (h.block k hk)⟩
theorem fitC_iff {L : List MRow} {c : MCh} (hv : VCh c) : fitC L c ↔ (look L c.t c.k).isSome = c.had ∧ ((look L c.t c.k).getD rowZ).v = c.o := by
  unfold fitC
  cases e : look L c.t c.k with
  | none =>
    cases hh : c.had with
    | false => simp only [Bool.false_eq_true, if_false, Option.isSome_none, Option.getD_none, true_and, true_iff]; exact ((hv.2.2.1).2 hh).symm
    | true => simp
  | some r =>
    have h2 := List.find?_some e
    simp only [atk, decide_eq_true_eq] at h2
    cases hh : c.had with
    | false => simp
    | true =>
      simp only [if_true, Option.some.injEq, Option.isSome_some, Option.getD_some, true_and]
      constructor
      · intro h; rw [h]
      · intro h
        obtain ⟨rt, rk, rv⟩ := r
        obtain ⟨h3, h4⟩ := h2
        simp only at h h3 h4
        rw [h, h3, h4]
structure RowAt (w : World) (b : Nat) (r : MRow) : Prop where
  c0 : w.cell? ⟨b, 0, none⟩ = some (.int .i64 r.t)
  c1 : w.cell? ⟨b, 1, none⟩ = some (.int .i64 r.k)
  c2 : w.cell? ⟨b, 2, none⟩ = some (.int .i64 r.v.a)
  c3 : w.cell? ⟨b, 3, none⟩ = some (.int .i64 r.v.b)
  c4 : w.cell? ⟨b, 4, none⟩ = some (.int .i64 r.v.c)
theorem rowAt_of {w : World} {b t : Nat} {r : MRow} (h : w.heap[b]? = some (.cells #[.int .i64 r.t, .int .i64 r.k, .int .i64 r.v.a, .int .i64 r.v.b, .int .i64 r.v.c] t (0, 0))) : RowAt w b r :=
  ⟨by simp [World.cell?, h], by simp [World.cell?, h], by simp [World.cell?, h], by simp [World.cell?, h], by simp [World.cell?, h]⟩

set_option maxRecDepth 100000 in
set_option maxHeartbeats 8000000 in
theorem fit_in {W : World} {b : Nat} {m : Option Nat} {L : List MRow} {p : Int} (h : StAt W b m L p) (n cap : Nat) (cs : List MCh) (hn : n = cs.length) (h8 : n ≤ 8) (hv : ∀ c ∈ cs, VCh c) (vb vo : Nat) (hvb : vb < W.heap.size)
    (hc : ∀ i, i < n → ChAt W vb (vo + i * 10) (cs.getD i chZ)) :
    Calls Try.prog 35 #[.pointer (some ⟨b, 0, none⟩), .slice (some ⟨vb, vo, none⟩) n cap] W fun e w' => e = .returned (.bool (fitB L cs)) ∧ Below W.heap.size W w' := by
  obtain ⟨c0, c1, _, _⟩ := h.cells
  have HS := Lib.hid h
  have HN := Lib.hid hn
  have HC := Lib.hid hc
  have HV := Lib.hid hv
  have hlen := fun ty => h.mp.len ty
  have hL : L.length ≤ 2000 := h.good.2.2
  have hblt := h.lt
  clear h hn hc hv
  go_enter Try.func35, Try.ntmps35
  go_wp2_with fail
  clear hlen
  go_loopw [17, 5] (fun i q wr => ∃ k : Nat, k ≤ n ∧ i = .int .i64 k ∧ Hid (Below W.heap.size W wr) ∧ Hid (Fits L (cs.take k)) ∧ ∃ z : Int, q = .int .i64 z ∧ Hid (z = cnt L.length (cs.take k)) ∧ -(k : Int) ≤ z ∧ z ≤ 2000 + k) (fun i _ _ => n - (intOf i).toNat)
  case atStart => exact ⟨0, by omega, rfl, Lib.hid (Below.refl _ _), Lib.hid (by simp [Fits]), _, rfl, Lib.hid rfl, by omega, by omega⟩
  case round =>
    obtain ⟨k, hk, rfl, HB, HF, z, rfl, HZ, hz1, hz2⟩ := hrel
    by_cases hlt : k < n
    · have HCk := (HC.out k hlt).below hvb HB.out
      obtain ⟨c, HcE⟩ : ∃ c, Hid (cs.getD k chZ = c) := ⟨_, Lib.hid rfl⟩
      rw [HcE.out] at HCk
      have Hmem : Hid (c ∈ cs) := Lib.hid (by rw [← HcE.out, List.getD_eq_getElem?_getD, List.getElem?_eq_getElem (by rw [← HN.out]; exact hlt)]; exact List.getElem_mem _)
      have Htk : Hid (cs.take (k + 1) = cs.take k ++ [c]) := Lib.hid (by
        rw [← HcE.out, List.getD_eq_getElem?_getD, List.getElem?_eq_getElem (by rw [← HN.out]; exact hlt), Option.getD_some, List.take_succ_eq_append_getElem (by rw [← HN.out]; exact hlt)])
      have HVc := Lib.hid (HV.out c Hmem.out)
      have HSr := Lib.hid (HS.out.below HB.out)
      obtain ⟨t, kk, had, ⟨oa, ob, oc⟩, has, ⟨na, nb, nc⟩⟩ := c
      obtain ⟨d0, d1, d2, d3, d4, d5, d6, d7, d8, d9⟩ := HCk.cells
      go_wp2_with fail
      obtain ⟨wb, Hwb⟩ : ∃ wb, Hid (wr.alloc (.cells #[.int .i64 t, .int .i64 kk, .bool had, .int .i64 oa, .int .i64 ob, .int .i64 oc, .bool has, .int .i64 na, .int .i64 nb, .int .i64 nc] 57) = wb) := ⟨_, Lib.hid rfl⟩
      rw [Hwb.out]
      have HCb : Hid (ChAt wb wr.heap.size 0 ⟨t, kk, had, ⟨oa, ob, oc⟩, has, ⟨na, nb, nc⟩⟩) := Lib.hid (by rw [← Hwb.out]; exact ChAt_new wr ⟨t, kk, had, ⟨oa, ob, oc⟩, has, ⟨na, nb, nc⟩⟩)
      have Hrb : Hid (Below wr.heap.size wr wb) := Lib.hid (by rw [← Hwb.out]; exact ba _ _)
      have hsz : wr.heap.size < wb.heap.size := by rw [← Hwb.out]; simp
      have HSb := Lib.hid (HSr.out.below Hrb.out)
      obtain ⟨⟨t', k', ⟨a', b', c'⟩⟩, Hr⟩ : ∃ r, Hid ((look L t kk).getD rowZ = r) := ⟨_, Lib.hid rfl⟩
      obtain ⟨ok, Ho⟩ : ∃ ok, Hid ((look L t kk).isSome = ok) := ⟨_, Lib.hid rfl⟩
      have Hit : Hid (I64 t ∧ I64 kk) := Lib.hid (by
        obtain ⟨h1, h2, h3, h4⟩ := HVc.out
        rcases h1 with h1 | h1
        · exact (h3.1 h1).i64
        · exact (h4.1 h1).i64)
      have g0 : ∀ w0, BW wb w0 → ∀ d os, (grow (redrawn w0 d) os).cell? ⟨wr.heap.size, 0, none⟩ = some (.int .i64 t) := fun w0 h d os => by
        have hC := ((HCb.out.below hsz h).below (Nat.lt_of_lt_of_le hsz h.size) (below_regrown w0 d os)) 0 (by omega)
        simpa [chCells] using hC
      have g1 : ∀ w0, BW wb w0 → ∀ d os, (grow (redrawn w0 d) os).cell? ⟨wr.heap.size, 1, none⟩ = some (.int .i64 kk) := fun w0 h d os => by
        have hC := ((HCb.out.below hsz h).below (Nat.lt_of_lt_of_le hsz h.size) (below_regrown w0 d os)) 1 (by omega)
        simpa [chCells] using hC
      have g2 : ∀ w0, BW wb w0 → ∀ d os, (grow (redrawn w0 d) os).cell? ⟨wr.heap.size, 2, none⟩ = some (.bool had) := fun w0 h d os => by
        have hC := ((HCb.out.below hsz h).below (Nat.lt_of_lt_of_le hsz h.size) (below_regrown w0 d os)) 2 (by omega)
        simpa [chCells] using hC
      have g3 : ∀ w0, BW wb w0 → ∀ d os, (grow (redrawn w0 d) os).cell? ⟨wr.heap.size, 3, none⟩ = some (.int .i64 oa) := fun w0 h d os => by
        have hC := ((HCb.out.below hsz h).below (Nat.lt_of_lt_of_le hsz h.size) (below_regrown w0 d os)) 3 (by omega)
        simpa [chCells] using hC
      have g4 : ∀ w0, BW wb w0 → ∀ d os, (grow (redrawn w0 d) os).cell? ⟨wr.heap.size, 4, none⟩ = some (.int .i64 ob) := fun w0 h d os => by
        have hC := ((HCb.out.below hsz h).below (Nat.lt_of_lt_of_le hsz h.size) (below_regrown w0 d os)) 4 (by omega)
        simpa [chCells] using hC
      have g5 : ∀ w0, BW wb w0 → ∀ d os, (grow (redrawn w0 d) os).cell? ⟨wr.heap.size, 5, none⟩ = some (.int .i64 oc) := fun w0 h d os => by
        have hC := ((HCb.out.below hsz h).below (Nat.lt_of_lt_of_le hsz h.size) (below_regrown w0 d os)) 5 (by omega)
        simpa [chCells] using hC
      have g6 : ∀ w0, BW wb w0 → ∀ d os, (grow (redrawn w0 d) os).cell? ⟨wr.heap.size, 6, none⟩ = some (.bool has) := fun w0 h d os => by
        have hC := ((HCb.out.below hsz h).below (Nat.lt_of_lt_of_le hsz h.size) (below_regrown w0 d os)) 6 (by omega)
        simpa [chCells] using hC
      have g7 : ∀ w0, BW wb w0 → ∀ d os, (grow (redrawn w0 d) os).cell? ⟨wr.heap.size, 7, none⟩ = some (.int .i64 na) := fun w0 h d os => by
        have hC := ((HCb.out.below hsz h).below (Nat.lt_of_lt_of_le hsz h.size) (below_regrown w0 d os)) 7 (by omega)
        simpa [chCells] using hC
      have g8 : ∀ w0, BW wb w0 → ∀ d os, (grow (redrawn w0 d) os).cell? ⟨wr.heap.size, 8, none⟩ = some (.int .i64 nb) := fun w0 h d os => by
        have hC := ((HCb.out.below hsz h).below (Nat.lt_of_lt_of_le hsz h.size) (below_regrown w0 d os)) 8 (by omega)
        simpa [chCells] using hC
      have g9 : ∀ w0, BW wb w0 → ∀ d os, (grow (redrawn w0 d) os).cell? ⟨wr.heap.size, 9, none⟩ = some (.int .i64 nc) := fun w0 h d os => by
        have hC := ((HCb.out.below hsz h).below (Nat.lt_of_lt_of_le hsz h.size) (below_regrown w0 d os)) 9 (by omega)
        simpa [chCells] using hC
      have gm : ∀ w0, BW wb w0 → ∀ d os, (grow (redrawn w0 d) os).cell? ⟨b, 0, none⟩ = some (.map m) := fun w0 h d os => ((HSb.out.below h).below (below_regrown w0 d os)).cells.1
      have gl : ∀ w0, BW wb w0 → ∀ d os, (Instr.lookup 69 (.map m) (.agg #[.int .i64 t, .int .i64 kk]) true).run Try.prog (grow (redrawn w0 d) os) = .ok (.tuple #[.agg #[.int .i64 t', .int .i64 k', .int .i64 a', .int .i64 b', .int .i64 c'], .bool ok]) (grow (redrawn w0 d) os) := fun w0 h d os => by
        have hl := ((HSb.out.below h).below (below_regrown w0 d os)).mp.look Hit.out.1 Hit.out.2
        rw [Hr.out, Ho.out] at hl
        exact hl
      clear d0 d1 d2 d3 d4 d5 d6 d7 d8 d9
      refine wp_region_calm1 11 9 10 [0, 1, 2, 3, 4, 5, 6, 7, 8, 9] (obj := .cells #[.int .i64 0, .int .i64 0, .int .i64 0, .int .i64 0, .int .i64 0] 50 (0, 0)) (by kernel_rfl) (by kernel_rfl) (by rintro _ ⟨rfl⟩; exact worldless_extract _ _ rfl) (by rintro _ ⟨rfl⟩ _ _ _ _ h; exact h) (by rfl) (by rfl) (fun a w => by kernel_rfl) ?_
      simp only [List.take_succ_cons, List.take_zero, List.eraseIdx_cons_succ, List.eraseIdx_cons_zero]
      iterate 5
        apply wpCalm_want
        · rfl
        · exact bc_refl
        · exact ⟨_, Below.refl _ _⟩
        · intro w0 hC0 K hK
          go_big_quiet_op
          exact hK
      apply wpCalm_want
      · rfl
      · exact bc_refl
      · exact ⟨_, Below.refl _ _⟩
      · intro w0 hC0 K hK
        go_big_quiet_op
        apply Exists.intro
        refine ⟨fun p => ?_, ?_⟩
        · exact Calls.regrown_of (placeOf_any ⟨t, kk, had, ⟨oa, ob, oc⟩, has, ⟨na, nb, nc⟩⟩ _)
        · exact hK
      iterate 4
        apply wpCalm_want
        · rfl
        · exact bc_refl
        · exact ⟨_, Below.refl _ _⟩
        · intro w0 hC0 K hK
          go_big_quiet_op
          exact hK
      refine wpCalm_nil ?_
      intro yb wc hbc hyb hblk
      simp only [List.drop_succ_cons, List.drop_zero]
      go_frame
      refine wpList_store_row rfl 50 _ _ rfl yb #[.int .i64 t', .int .i64 k', .int .i64 a', .int .i64 b', .int .i64 c'] rfl rfl 50 _ hblk (by kernel_rfl) rfl (by simp [Value.oneCell']) ?_
      go_frame
      have Hyd : Hid ((wc.setRow yb #[.int .i64 t', .int .i64 k', .int .i64 a', .int .i64 b', .int .i64 c']).heap[yb]? = some (.cells #[.int .i64 t', .int .i64 k', .int .i64 a', .int .i64 b', .int .i64 c'] 50 (0, 0))) := Lib.hid (setRow_heap _ _ _ _ _ _ hblk)
      have HBd : Hid (Below wb.heap.size wb (wc.setRow yb #[.int .i64 t', .int .i64 k', .int .i64 a', .int .i64 b', .int .i64 c'])) := Lib.hid (below_row hbc hyb _)
      obtain ⟨wd, Hwd⟩ : ∃ wd, Hid (wc.setRow yb #[.int .i64 t', .int .i64 k', .int .i64 a', .int .i64 b', .int .i64 c'] = wd) := ⟨_, Lib.hid rfl⟩
      rw [Hwd.out] at Hyd HBd ⊢
      clear g0 g1 g2 g3 g4 g5 g6 g7 g8 g9 gm gl hblk hbc hyb Hwd
      have HFc : Hid (fitC L ⟨t, kk, had, ⟨oa, ob, oc⟩, has, ⟨na, nb, nc⟩⟩ ↔ ok = had ∧ (⟨a', b', c'⟩ : V3) = ⟨oa, ob, oc⟩) := Lib.hid (by
        have := fitC_iff (L := L) HVc.out
        simp only at this
        rw [Hr.out, Ho.out] at this
        exact this)
      have HBn := Lib.hid (bt HB.out (bt Hrb.out HBd.out))
      have HCd := (HCb.out.below hsz HBd.out).cells
      simp only [Nat.zero_add] at HCd
      obtain ⟨e0, e1, e2, e3, e4, e5, e6, e7, e8, e9⟩ := HCd
      obtain ⟨y0, y1, y2, y3, y4⟩ := rowAt_of (r := ⟨t', k', ⟨a', b', c'⟩⟩) Hyd.out
      simp only at y0 y1 y2 y3 y4
      have hq := fun w => neq3 a' b' c' oa ob oc w
      by_cases hok : ok = had
      · subst hok
        by_cases h3 : (⟨a', b', c'⟩ : V3) = ⟨oa, ob, oc⟩
        · have HFt : Hid (Fits L (cs.take (k + 1))) := Lib.hid (by
            rw [Htk.out]
            intro d hd
            rcases List.mem_append.1 hd with hd | hd
            · exact HF.out d hd
            · rw [List.mem_singleton.1 hd]; exact HFc.out.2 ⟨rfl, h3⟩)
          rw [show v3e ⟨a', b', c'⟩ ⟨oa, ob, oc⟩ = true from decide_eq_true h3] at hq
          have HZn : Hid (z + dlt ⟨t, kk, ok, ⟨oa, ob, oc⟩, has, ⟨na, nb, nc⟩⟩ = cnt L.length (cs.take (k + 1))) := Lib.hid (by rw [Htk.out, cnt_snoc, HZ.out])
          clear h3
          cases ok <;> cases has
          · go_wp2_with fail
            exact ⟨⟨k + 1, by omega, by go_num, HBn, HFt, z, rfl, Lib.hid (by rw [← HZn.out]; simp [dlt]), by omega, by omega⟩, by simp [intOf]; omega⟩
          · go_wp2_with fail
            exact ⟨⟨k + 1, by omega, by go_num, HBn, HFt, z + 1, rfl, Lib.hid (by rw [← HZn.out]; simp [dlt]), by omega, by omega⟩, by simp [intOf]; omega⟩
          · go_wp2_with fail
            exact ⟨⟨k + 1, by omega, by go_num, HBn, HFt, z - 1, rfl, Lib.hid (by rw [← HZn.out]; simp [dlt]; omega), by omega, by omega⟩, by simp [intOf]; omega⟩
          · go_wp2_with fail
            exact ⟨⟨k + 1, by omega, by go_num, HBn, HFt, z - 1 + 1, by go_num, Lib.hid (by rw [← HZn.out]; simp [dlt]), by omega, by omega⟩, by simp [intOf]; omega⟩
        · have HNo : Hid (¬ (Fits L cs ∧ cnt L.length cs ≤ 2000)) := Lib.hid (fun h => h3 (HFc.out.1 (h.1 _ Hmem.out)).2)
          rw [show v3e ⟨a', b', c'⟩ ⟨oa, ob, oc⟩ = false from decide_eq_false h3] at hq
          clear h3
          cases ok
          · go_wp2_with fail
            go_ret
            exact ⟨fit_f HNo.out, HBn.out⟩
          · go_wp2_with fail
            go_ret
            exact ⟨fit_f HNo.out, HBn.out⟩
      · have HNo : Hid (¬ (Fits L cs ∧ cnt L.length cs ≤ 2000)) := Lib.hid (fun h => hok (HFc.out.1 (h.1 _ Hmem.out)).1)
        cases ok <;> cases had
        · exact absurd rfl hok
        · clear hok
          go_wp2_with fail
          go_ret
          exact ⟨fit_f HNo.out, HBn.out⟩
        · clear hok
          go_wp2_with fail
          go_ret
          exact ⟨fit_f HNo.out, HBn.out⟩
        · exact absurd rfl hok
    · obtain rfl : k = n := by omega
      have HFa : Hid (Fits L cs) := Lib.hid (by have := HF.out; rwa [HN.out, List.take_length] at this)
      have HZa : Hid (z = cnt L.length cs) := Lib.hid (by have := HZ.out; rwa [HN.out, List.take_length] at this)
      by_cases h2 : z ≤ 2000
      · have HT : Hid (Fits L cs ∧ cnt L.length cs ≤ 2000) := Lib.hid ⟨HFa.out, by rw [← HZa.out]; exact h2⟩
        go_wp2_with fail
        go_ret
        exact ⟨fit_t HT.out, HB.out⟩
      · have HT : Hid (¬ (Fits L cs ∧ cnt L.length cs ≤ 2000)) := Lib.hid (fun h => h2 (by rw [HZa.out]; exact h.2))
        go_wp2_with fail
        go_ret
        exact ⟨fit_f HT.out, HB.out⟩
end Go.Proofs.Ytaapggeaoacikaa
