import Derived.Deep.AppendLies
/- WALKS: ordered. -/
import Derived.Test.YtaapggeaoacikaaS4
import Derived.Shelf.SlSortCmp.NoneTotal
set_option linter.unusedVariables false
set_option linter.unusedSimpArgs false
namespace Go.Proofs.Ytaapggeaoacikaa
open Go.RowKit Go.Sort Go.ChangeMaps Go.MapKept

/-- By a column's values, then by keys. -/
def rle (col : Int) (x y : MRow) : Prop := vget x col < vget y col ∨ vget x col = vget y col ∧ x.k ≤ y.k
theorem cmpR_neg (col : Int) (x y : MRow) : cmpR col x y < 0 ↔ (vget x col < vget y col ∨ vget x col = vget y col ∧ x.k < y.k) := by
  unfold cmpR orI Lib.compareInt
  by_cases h1 : vget x col < vget y col
  · simp [h1]
  · by_cases h2 : vget y col < vget x col
    · simp [h1, h2]; omega
    · have h3 : vget x col = vget y col := by omega
      by_cases h4 : x.k < y.k
      · simp [h3, h4]
      · by_cases h5 : y.k < x.k
        · simp [h3, h4, h5]
        · simp [h3, h4, h5]
theorem swoR (col : Int) : SWO (ltOf (cmpR col)) where
  irrefl x := by unfold ltOf; rw [decide_eq_false]; rw [cmpR_neg]; omega
  trans x y z h1 h2 := by unfold ltOf at *; rw [decide_eq_true_eq, cmpR_neg] at *; omega
  ntrans x y z h1 h2 := by unfold ltOf at *; rw [decide_eq_false_iff_not, cmpR_neg] at *; omega
/-- What a choice of rows, put in order, is. -/
def SortOf (L : List MRow) (sel : MRow → Bool) (col : Int) (M : List MRow) : Prop := M.Perm (L.filter sel) ∧ M.Pairwise (rle col)
theorem sortOf_unique {L : List MRow} {sel : MRow → Bool} {col t : Int} {M N : List MRow} (hL : Srt L) (ht : ∀ r, sel r = true → r.t = t) (h : SortOf L sel col M) (k : SortOf L sel col N) : M = N := by
  refine List.Perm.eq_of_pairwise (le := rle col) (fun a b ha hb h1 h2 => ?_) h.2 k.2 (h.1.trans k.1.symm)
  obtain ⟨a1, a2⟩ := List.mem_filter.1 (h.1.mem_iff.1 ha)
  obtain ⟨b1, b2⟩ := List.mem_filter.1 (k.1.mem_iff.1 hb)
  refine srt_inj hL a1 b1 ((ht a a2).trans (ht b b2).symm) ?_
  unfold rle at h1 h2
  omega
theorem sortOf_sorted {L : List MRow} {sel : MRow → Bool} {col : Int} {M : List MRow} {d' : Array MRow} (hM : M.Perm (L.filter sel)) (hp : PermIn 0 M.toArray.size M.toArray d') (hs : SortedIn (ltOf (cmpR col)) 0 M.toArray.size d') : SortOf L sel col d'.toList ∧ d'.toList.length = M.length := by
  obtain ⟨h1, _, h2⟩ := hp
  have hsz : d'.size = M.length := by simpa using h1
  have e1 : d'.extract 0 M.toArray.size = d' := by rw [← h1]; simp
  have e2 : M.toArray.extract 0 M.toArray.size = M.toArray := by simp
  rw [e1, e2] at h2
  refine ⟨⟨h2.trans hM, ?_⟩, by simpa using hsz⟩
  rw [List.pairwise_iff_getElem]
  intro i j hi hj hij
  have := hs i j (Nat.zero_le _) hij (by simpa [hsz] using hj)
  unfold ltOf at this
  rw [decide_eq_false_iff_not, cmpR_neg, getElem!_pos d' j (by simpa using hj), getElem!_pos d' i (by simpa using hi)] at this
  simp only [Array.getElem_toList]
  unfold rle
  omega

theorem Try.info50 : (Try.prog.info? 50).map (fun i => (i.zero, i.size, i.bytes)) = some (some (.agg #[.int .i64 0, .int .i64 0, .int .i64 0, .int .i64 0, .int .i64 0]), 5, 40) := by kernel_rfl
theorem below_of_append {B : Nat} {a w : World} {o : Obj} {w' : World} {base e : Nat} {size n : Nat} {v : Value} {xs : List Value} (hB : Below B a w) (hown : w.ownsRow base e size v n xs) (hb : B ≤ base) (hs : B ≤ w.heap.size) (hgrow : (w.alloc o).grownBy w' v.ownBlock) : Below B a w' :=
  (hB.alloc hs o).grown hgrow (by simp; omega) (fun k hk => by
    rcases hown.2 with ⟨rfl, _⟩ | ⟨g, cap, cur, rfl, hg, _⟩
    · simp [Value.ownBlock] at hk
    · simp [Value.ownBlock] at hk; omega)
theorem kept_grown {w w' : World} {row : Option Nat} (h : w.grownBy w' row) : Kept (fun k => row = some k) w w' := ⟨h.os, h.tape, h.output, h.size, fun k hk hf => h.block k hk (fun e => hf e.symm)⟩

theorem OwnR.kept {F : Nat → Prop} {W W' : World} {base : Nat} {v : Value} {M : List MRow} (h : OwnR W base v M) (k : Kept F W W') (hF : ∀ i, base ≤ i → ¬ F i) : OwnR W' base v M := by
  obtain ⟨hl, h⟩ := h
  exact ⟨hl, h.imp id fun ⟨g, cap, cur, e, hg, hb, r⟩ => ⟨g, cap, cur, e, hg, (k.block g (lt_of_block hb) (hF g hg)).trans hb, r⟩⟩
theorem OwnR.mono {W : World} {base base' : Nat} {v : Value} {M : List MRow} (h : OwnR W base v M) (hb : base' ≤ base) : OwnR W base' v M := by
  obtain ⟨hl, h⟩ := h
  exact ⟨hl, h.imp id fun ⟨g, cap, cur, e, hg, r⟩ => ⟨g, cap, cur, e, by omega, r⟩⟩
theorem OwnR.own_ge {W : World} {base : Nat} {v : Value} {M : List MRow} (h : OwnR W base v M) {k : Nat} (e : v.ownBlock = some k) : base ≤ k := by
  rcases h.2 with ⟨rfl, _⟩ | ⟨g, cap, cur, rfl, hg, _⟩
  · simp [Value.ownBlock] at e
  · simp [Value.ownBlock] at e; omega

/-- What 'ordered' is handed: a function that says of each row whether it is chosen. -/
def Chooses (W : World) (g : FuncId) (cb : Array Value) (sel : MRow → Bool) : Prop :=
  ∀ (W' : World) (r : MRow), Below W.heap.size W W' → Calls Try.prog g (#[rowV r] ++ cb) W' fun e w' => e = .returned (.bool (sel r)) ∧ Below W'.heap.size W' w'

set_option maxRecDepth 100000 in
set_option maxHeartbeats 8000000 in
theorem ordered_some {W : World} {b mb : Nat} {L : List MRow} {p : Int} (h : StAt W b (some mb) L p) {col : Int} (h1 : 0 ≤ col) (h2 : col ≤ 3) {g : FuncId} {cb : Array Value} {sel : MRow → Bool}
    (eg : ∀ args w, (callFunc g args).run Try.prog w = .ok (.enter g args) w) (hsel : Chooses W g cb sel) :
    Calls Try.prog 41 #[.pointer (some ⟨b, 0, none⟩), .int .i64 col, .func (.func g) #[] cb] W fun e w' => ∃ v M, e = .returned v ∧ OwnR w' W.heap.size v M ∧ SortOf L sel col M ∧ Below W.heap.size W w' := by
  obtain ⟨i0, hI, hZ0, hZ1, hZ2⟩ := info_parts Try.info50
  have HS := Lib.hid h
  have HSel := Lib.hid hsel
  have HC : Hid (0 ≤ col ∧ col ≤ 3) := Lib.hid ⟨h1, h2⟩
  have hblt := h.lt
  have hmlt : mb < W.heap.size := h.mlt rfl
  have hbne : ¬ b = W.heap.size := by omega
  obtain ⟨c0, c1, _, _⟩ := h.cells
  clear h hsel h1 h2
  go_enter Try.func41, Try.ntmps41
  go_wp2_with (at_range; refine wpList_range_st rfl _ rfl mb L rfl (HS.out.below (ba _ _)).mp ?_; intro w0 hrg0 hb0 hs0)
  go_frame
  have HBx : Hid (w0.heap[W.heap.size]? = some (.cells #[.int .i64 col] 3 (0, 0))) := Lib.hid ((hb0.block _ (by simp)).trans (MapKept.heap_alloc W _).1)
  have HB0 : Hid (Below W.heap.size W w0) := Lib.hid (bt (ba W _) hb0)
  have hr0 : (W.alloc (.cells #[.int .i64 col] 3)).heap.size = W.heap.size + 1 := by simp
  have hz0' : w0.heap.size = W.heap.size + 2 := by rw [hs0, hr0]
  rw [hr0] at hrg0 ⊢
  have HL : Hid (L.length ≤ 2000) := Lib.hid HS.out.good.2.2
  clear hb0 hs0 hr0
  go_loopw [7] (fun v wr => ∃ vis rest, Hid (OwnR wr (W.heap.size + 2) v (vis.filter sel)) ∧ Hid (L.Perm (vis ++ rest)) ∧ StRng wr mb (W.heap.size + 1) L rest ∧ Hid (Below W.heap.size W wr) ∧ Hid (wr.heap[W.heap.size]? = some (.cells #[.int .i64 col] 3 (0, 0))) ∧ W.heap.size + 2 ≤ wr.heap.size) (fun _ wr => wr.rangeLeft mb (W.heap.size + 1))
  case atStart => exact ⟨[], L, Lib.hid (OwnR.nil _ _), Lib.hid (List.Perm.refl _), hrg0, HB0, HBx, by omega⟩
  case round =>
    obtain ⟨vis, rest, HO, HP, hrg, HB, HX, hwz⟩ := hrel
    obtain ⟨v, hvv⟩ : ∃ v, v = u7 := ⟨_, rfl⟩
    subst hvv
    clear hrg0
    go_wp2_with (at_next; refine wpList_next_st rfl _ rfl mb (W.heap.size + 1) L rest rfl hrg ?_ ?_)
    · intro hrest
      subst hrest
      have HPe : Hid ((vis.filter sel).Perm (L.filter sel)) := Lib.hid (by have := HP.out; rw [List.append_nil] at this; exact (this.filter sel).symm)
      obtain ⟨M, HM⟩ : ∃ M, Hid (vis.filter sel = M) := ⟨_, Lib.hid rfl⟩
      rw [HM.out] at HO HPe
      have HO' := HO.out
      have hBx : wr.cell? ⟨W.heap.size, 0, none⟩ = some (.int .i64 col) := by simp [World.cell?, HX.out]
      have eg53 : ∀ args w, (callFunc 53 args).run Try.prog w = .ok (.enter 53 args) w := enters_of Try.func53 (by kernel_rfl) rfl
      obtain ⟨hOl, hO2⟩ := HO'
      rcases hO2 with ⟨rfl, hM0⟩ | ⟨g7, cap7, cur7, rfl, hg7, hb7, hn7, hc7, hs7, ht7⟩
      · have hM : M = [] := List.length_eq_zero_iff.1 hM0
        have hS := fun fv W => AnyF.slices_SortFunc_none (P := Try.prog) (ρ := Try.laysSort_ren) { Try.laysSort with } none 0 fv W
        change ∀ fv W, Calls Try.prog 52 _ _ _ at hS
        clear eg53 hOl hrg
        have HSort := Lib.hid hS
        clear hS
        go_wp2_with fail
        (with_reducible refine (HSort.out _ _).mono ?_)
        rintro e w9 ⟨rfl, rfl⟩
        go_wp2_with fail
        go_ret
        refine ⟨_, [], rfl, OwnR.nil _ _, ?_, HB.out⟩
        have := HPe.out
        rw [hM] at this
        exact ⟨this, List.Pairwise.nil⟩
      · have hgB : ¬ W.heap.size = g7 := by omega
        have hwl : W.heap.size < wr.heap.size := by omega
        have hcl : CmpLays Try.prog 53 #[.pointer (some ⟨W.heap.size, 0, none⟩)] rcl 5 (cmpR col) g7 0 M.toArray.size wr := fun m os dk hsz x y => by
          have hk := kept_sortedK (W := wr) (g := g7) (n := m) (os := os) dk
          have hcell : (sortWorldK rcl 5 wr g7 0 m dk os).cell? ⟨W.heap.size, 0, none⟩ = some (.int .i64 col) := (hk.cell (p := ⟨W.heap.size, 0, none⟩) hwl hgB).trans hBx
          exact (closure_cmp x y col W.heap.size _ HC.out.1 HC.out.2 hcell).mono fun e w' ⟨he, ⟨q, hq⟩⟩ => ⟨he, q.d, q.os, hq⟩
        have hHd := (OwnR.holds (M := M) (cap := cap7) (g := g7) HO.out)
        have hMl : M.toArray.size < 4611686018427387904 := by
          have h1 := HPe.out.length_eq
          have h2 := List.length_filter_le sel L
          have h3 := HL.out
          simp; omega
        have hS := AnyQ.slices_SortFunc Try.laysSort 5 Try.isAgg50 Try.sizeOf50 rcl rcl_len rcl_one (cmpR col) (swoR col) 53 #[.pointer (some ⟨W.heap.size, 0, none⟩)] g7 0 cap7 M.toArray wr eg53 hcl hHd.1 hHd.2.1 hMl
        change Calls Try.prog 52 _ _ _ at hS
        rw [show M.toArray.size = M.length from by simp] at hS
        have HSort := Lib.hid hS
        clear hS hcl hHd eg53 hOl hb7 hn7 hc7 hs7 ht7 hrg hMl
        go_wp2_with fail
        (with_reducible refine HSort.out.mono ?_)
        rintro e w9 ⟨rfl, d', nn, os, hp, hsd, rfl⟩
        have HSO := Lib.hid (sortOf_sorted HPe.out (by simpa using hp) (by simpa using hsd))
        clear hp hsd
        go_wp2_with fail
        go_ret
        refine ⟨_, d'.toList, rfl, ?_, HSO.out.1, ?_⟩
        · have := (OwnR.sorted (n := nn) (os := os) (N := d'.toList) HO.out HSO.out.2).mono (base' := W.heap.size) (by omega)
          simpa using this
        · exact ((Kept.of_below (F := fun k => k = g7) HB.out).trans (kept_sortedK d') (fun _ _ f => f)).below (Nat.le_refl _) (fun k e => by omega)
    · intro q rs' w1 hp hst hk hen
      have HPn : Hid (L.Perm ((vis ++ [q]) ++ rs')) := Lib.hid (HP.out.trans (by
        rw [List.append_assoc]
        exact hp.append_left vis))
      have hlen := hp.length_eq
      have HB1 : Hid (Below W.heap.size W w1) := Lib.hid (((Kept.of_below (F := fun k => k = W.heap.size + 1) HB.out).trans hk (fun _ _ f => f)).below (Nat.le_refl _) (fun k e => by omega))
      have HX1 : Hid (w1.heap[W.heap.size]? = some (.cells #[.int .i64 col] 3 (0, 0))) := Lib.hid ((hk.block _ (by omega) (by omega)).trans HX.out)
      have HO1 : Hid (OwnR w1 (W.heap.size + 2) v (vis.filter sel)) := Lib.hid (HO.out.kept hk (fun i hi e => by omega))
      have hz1 : W.heap.size + 2 ≤ w1.heap.size := Nat.le_trans hwz hk.size
      have hlft := hrg.left_eq
      have HST := Lib.hid hst
      have hvl : vis.length ≤ 2000 := by have h1 := HPn.out.length_eq; have h2 := HL.out; simp only [List.length_append, List.length_singleton] at h1; omega
      have hfl := List.length_filter_le sel vis
      obtain ⟨qt, qk, ⟨qa, qb, qc⟩⟩ := q
      clear hrg hp hst hk
      go_wp2_with fail
      refine (HSel.out _ ⟨qt, qk, ⟨qa, qb, qc⟩⟩ (bt HB1.out (ba w1 _))).mono ?_
      rintro e w2 ⟨rfl, hb2⟩
      have HY2 : Hid (RowAt w2 w1.heap.size ⟨qt, qk, ⟨qa, qb, qc⟩⟩) := Lib.hid (rowAt_of (t := 50) ((hb2.block _ (by simp)).trans (MapKept.heap_alloc w1 _).1))
      have HB12 : Hid (Below w1.heap.size w1 w2) := Lib.hid (bt (ba w1 _) hb2)
      have hz2 : W.heap.size + 2 ≤ w2.heap.size := Nat.le_trans hz1 HB12.out.size
      obtain ⟨bq, Hbq⟩ : ∃ bq, Hid (sel ⟨qt, qk, ⟨qa, qb, qc⟩⟩ = bq) := ⟨_, Lib.hid rfl⟩
      rw [Hbq.out]
      clear hb2 hen
      cases bq
      · have HOn : Hid (OwnR w2 (W.heap.size + 2) v ((vis ++ [(⟨qt, qk, ⟨qa, qb, qc⟩⟩ : MRow)]).filter sel)) := Lib.hid (by
          rw [List.filter_append, List.filter_cons_of_neg (by rw [Hbq.out]; exact Bool.false_ne_true), List.filter_nil, List.append_nil]
          exact HO1.out.below HB12.out)
        have HSn : StRng w2 mb (W.heap.size + 1) L rs' := HST.out.kept (Kept.of_below (F := fun _ => False) HB12.out) id id
        have hl2 := HSn.left_eq
        have HBn : Hid (Below W.heap.size W w2) := Lib.hid (bt HB1.out HB12.out)
        have HXn : Hid (w2.heap[W.heap.size]? = some (.cells #[.int .i64 col] 3 (0, 0))) := Lib.hid ((HB12.out.block _ (by omega)).trans HX1.out)
        go_wp2_with fail
        exact ⟨⟨vis ++ [⟨qt, qk, ⟨qa, qb, qc⟩⟩], rs', HOn, HPn, HSn, HBn, HXn, hz2⟩, by rw [hl2, hlft, hlen]; simp⟩
      · obtain ⟨y0, y1, y2, y3, y4⟩ := HY2.out
        simp only at y0 y1 y2 y3 y4
        have HO2 : Hid (w2.ownsRow (W.heap.size + 2) 50 5 v (vis.filter sel).length (flat (vis.filter sel))) := Lib.hid (HO1.out.below HB12.out)
        go_wp2_with (at_builtin; go_loud (refine wpList_append_own _ rfl _ _ 36 rfl (W.heap.size + 2) 50 i0 (.agg #[.int .i64 0, .int .i64 0, .int .i64 0, .int .i64 0, .int .i64 0]) 5 40 Try.underlying36 hI hZ0 hZ1 hZ2 rfl (by decide) _ _ _ rfl (HO2.out.alloc _) ⟨w2.heap.size, 0, none⟩ 1 1 [.int .i64 qt, .int .i64 qk, .int .i64 qa, .int .i64 qb, .int .i64 qc] rfl rfl (World.news_of_block (cs := #[.int .i64 qt, .int .i64 qk, .int .i64 qa, .int .i64 qb, .int .i64 qc]) (t := 50) (fr := (0, 0)) (heap_alloc_new w2 _)) (by simp [Value.oneCell']) (by unfold maxLen; omega) (by omega) (by simp; omega) ?_); intro v' w3 hown' hgrow _)
        have HOn : Hid (OwnR w3 (W.heap.size + 2) v' ((vis ++ [(⟨qt, qk, ⟨qa, qb, qc⟩⟩ : MRow)]).filter sel)) := Lib.hid (by
          rw [List.filter_append, List.filter_cons_of_pos (by rw [Hbq.out]), List.filter_nil]
          unfold OwnR
          rw [List.length_append, flat_app]
          exact hown')
        have hKg : Kept (fun k => v.ownBlock = some k) w2 w3 := (Kept.of_below (F := fun k => v.ownBlock = some k) (ba w2 _)).trans (kept_grown hgrow) (fun _ _ f => f)
        have hge : ∀ k, v.ownBlock = some k → W.heap.size + 2 ≤ k := fun k e => OwnR.own_ge HO1.out e
        have HSn : StRng w3 mb (W.heap.size + 1) L rs' := (HST.out.kept (Kept.of_below (F := fun _ => False) HB12.out) id id).kept hKg (fun e => by have := hge _ e; omega) (fun e => by have := hge _ e; omega)
        have hl2 := HSn.left_eq
        have HBn : Hid (Below W.heap.size W w3) := Lib.hid (((Kept.of_below (F := fun k => v.ownBlock = some k) (bt HB1.out HB12.out)).trans hKg (fun _ _ f => f)).below (Nat.le_refl _) (fun k e => by have := hge _ e; omega))
        have HXn : Hid (w3.heap[W.heap.size]? = some (.cells #[.int .i64 col] 3 (0, 0))) := Lib.hid ((hKg.block _ (by omega) (fun e => by have := hge _ e; omega)).trans ((HB12.out.block _ (by omega)).trans HX1.out))
        have hz3 : W.heap.size + 2 ≤ w3.heap.size := Nat.le_trans hz2 hKg.size
        clear hown' hgrow hKg hge
        go_wp2_with fail
        exact ⟨⟨vis ++ [⟨qt, qk, ⟨qa, qb, qc⟩⟩], rs', HOn, HPn, HSn, HBn, HXn, hz3⟩, by rw [hl2, hlft, hlen]; simp⟩
end Go.Proofs.Ytaapggeaoacikaa
