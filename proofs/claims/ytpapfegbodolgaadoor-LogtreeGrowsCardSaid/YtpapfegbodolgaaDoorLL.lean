/- WALKS: slices.Clone of changes, clone; Len, Head, Record. -/
import Derived.Test.YtpapfegbodolgaaDoorLG
import Derived.Lib.SliceRun
set_option linter.unusedVariables false
set_option linter.unusedSimpArgs false
namespace Go.Proofs.YtpapfegbodolgaaDoor
open Go.RowKit Go.Sort

theorem Tryd.info57 : (Tryd.prog.info? 57).map (fun i => (i.zero, i.size, i.bytes)) = some (some (.agg #[.int .i64 0, .int .i64 0, .bool false, .int .i64 0, .int .i64 0, .int .i64 0, .bool false, .int .i64 0, .int .i64 0, .int .i64 0]), 10, 80) := by kernel_rfl
theorem chS_news {w : World} {b o : Nat} {L : List MCh} (h : ∀ i, i < L.length → ChAt w b (o + i * 10) (L.getD i chZ)) : ∀ j u, (flatC L)[j]? = some u → w.cell? ((⟨b, o, none⟩ : Addr).add j) = some u := by
  intro j u hj
  have hlt := (List.getElem?_eq_some_iff.1 hj).1
  rw [flatC_len] at hlt
  have h1 := flatC_get L (j / 10) (j % 10) (by omega) (by omega)
  rw [show j / 10 * 10 + j % 10 = j by omega, hj] at h1
  have h2 := h (j / 10) (by omega) (j % 10) (by omega)
  have h6 : (ccl (L.getD (j / 10) chZ))[j % 10]? = (chCells (L.getD (j / 10) chZ))[j % 10]? := by unfold ccl; simp
  rw [h6] at h1
  rw [← h1] at h2
  rw [← h2]
  congr 1
  unfold Addr.add
  split
  · next h0 => subst h0; simp
  · simp only [Addr.mk.injEq, true_and, and_true]
    omega
set_option maxRecDepth 100000 in
set_option maxHeartbeats 2000000 in
theorem clone_chs {W : World} {va : Value} {L : List MCh} (hR : ChS W va L) (hl : L.length ≤ 100000) :
    Calls Tryd.prog 65 #[va] W fun e w' => ∃ v, e = .returned v ∧ OwnC w' W.heap.size v L ∧ Below W.heap.size W w' := by
  have HR := Lib.hid hR
  obtain ⟨a, n, cap, rfl, hn, hc1, hc2, hcell⟩ := hR
  cases a with
  | none =>
    have hn0 : L = [] := by
      rcases Nat.eq_zero_or_pos n with h0 | h0
      · exact List.length_eq_zero_iff.1 (by omega)
      · obtain ⟨_, _, e, _⟩ := hcell h0
        simp at e
    subst hn0
    have hnil := fun w => Lib.run_eql_slice_nil (P := Tryd.prog) w 49 57 none n cap 0 0 Tryd.underlying49
    simp only [Option.isNone_none] at hnil
    clear hcell hn
    go_enter Tryd.func65, Tryd.ntmps65
    go_wp2_with fail
    go_ret
    exact ⟨_, rfl, OwnC.nil _ _, Below.refl _ _⟩
  | some ad =>
    have hnil := fun w => Lib.run_eql_slice_nil (P := Tryd.prog) w 49 57 (some ad) n cap 0 0 Tryd.underlying49
    simp only [Option.isNone_some] at hnil
    obtain ⟨i0, hI, hZ0, hZ1, hZ2⟩ := info_parts Tryd.info57
    have HOwn : Hid ((W.alloc (.cells #[] 57)).ownsRow W.heap.size 57 10 (.slice (some ⟨W.heap.size, 0, none⟩) 0 0) 0 []) := Lib.hid ⟨rfl, .inr ⟨W.heap.size, 0, #[], rfl, Nat.le_refl _, heap_alloc_new W _, Nat.le_refl _, by unfold maxLen; omega, rfl, rfl⟩⟩
    have HFl : Hid ((flatC L).length = n * 10) := Lib.hid (by rw [flatC_len, hn])
    have HNews : Hid (∀ j u, (flatC L)[j]? = some u → (W.alloc (.cells #[] 57)).cell? (ad.add j) = some u) := Lib.hid (fun j u hj => by
      have hj5 := (List.getElem?_eq_some_iff.1 hj).1
      rw [flatC_len] at hj5
      obtain ⟨b, o, e, hb, hc⟩ := hcell (by omega)
      simp at e
      subst e
      have h := chS_news (w := W) (b := b) (o := o) (L := L) (fun i hi => hc i (by omega)) j u hj
      rw [(ba W _).cell (by rw [Addr.add_lit]; exact hb)]
      exact h)
    have hn4 : n ≤ 100000 := by omega
    have HNL := Lib.hid hn
    clear hcell hn
    go_enter Tryd.func65, Tryd.ntmps65
    go_wp2_with (at_builtin; refine wpList_append_own _ rfl (.tmp 5) (.tmp 6) 49 rfl W.heap.size 57 i0 (.agg #[.int .i64 0, .int .i64 0, .bool false, .int .i64 0, .int .i64 0, .int .i64 0, .bool false, .int .i64 0, .int .i64 0, .int .i64 0]) 10 80 Tryd.underlying49 hI hZ0 hZ1 hZ2 rfl (by decide) _ 0 [] rfl HOwn.out ad n cap (flatC L) rfl HFl.out HNews.out (flatC_one L) (by unfold maxLen; omega) (by omega) (by simp) ?_; intro v2 w7 hown hg _; have HO2 := Lib.hid hown; have HG2 : Hid ((W.alloc (.cells #[] 57)).grownBy w7 (some W.heap.size)) := Lib.hid hg; clear hown hg)
    have HOn : Hid (OwnC w7 W.heap.size v2 L) := Lib.hid (by
      have h := HO2.out
      unfold OwnC
      rw [← HNL.out]
      simpa using h)
    have HBn : Hid (Below W.heap.size W w7) := Lib.hid ((ba W _).grown HG2.out (by simp) (fun k hk => by simp at hk; omega))
    go_wp2_with fail
    go_ret
    exact ⟨v2, rfl, HOn.out, HBn.out⟩

set_option maxRecDepth 100000 in
set_option maxHeartbeats 4000000 in
theorem clone_any {w : World} {u : Value} {L : List MCh} (p : Int) (hu : ChS w u L) (hl : L.length ≤ 100000) :
    Calls Tryd.prog 45 #[.agg #[.int .i64 p, u]] w fun e w' => ∃ v, e = .returned (.agg #[.int .i64 p, v]) ∧ OwnC w' w.heap.size v L ∧ Below w.heap.size w w' := by
  obtain ⟨ua, un, uc, rfl, -⟩ := id hu
  have HU := Lib.hid hu
  clear hu
  go_enter Tryd.func45, Tryd.ntmps45
  go_upto_region 1 with fail
  obtain ⟨w0, Hw0⟩ : ∃ w0, Hid ((w.alloc (.cells #[.int .i64 p, .slice ua un uc] 51)).alloc (.cells #[.int .i64 0, .slice none 0 0] 51) = w0) := ⟨_, Lib.hid rfl⟩
  obtain ⟨hB0, hR0, hZ0⟩ := lay2 w (.cells #[.int .i64 p, .slice ua un uc] 51) (.cells #[.int .i64 0, .slice none 0 0] 51)
  rw [Hw0.out] at hB0 hR0 hZ0 ⊢
  clear Hw0
  have HB0 := Lib.hid hB0
  have HR0 := Lib.hid hR0
  have HZ0 := Lib.hid hZ0
  have HC := Lib.hid (clone_chs (HU.out.below hB0) hl)
  have hz0 : w.heap.size + 1 < w0.heap.size := lt_of_block hZ0
  clear hB0 hR0 hZ0 HU
  have c1 := cellOf (j := 1) HR0.out rfl
  go_wp2_with fail
  (with_reducible refine HC.out.mono ?_)
  rintro e w1 ⟨v, rfl, ho, hb⟩
  have HO1 := Lib.hid ho
  obtain ⟨va, vcap, rfl, -⟩ := ownsRow_form ho
  have HB1 := Lib.hid (bt HB0.out hb)
  have HR1 := Lib.hid (gone hb HR0.out)
  have HZ1 := Lib.hid (gone hb HZ0.out)
  have f1 := freeOf HR1.out 1
  have k1 := cellOf (j := 1) HR1.out rfl
  have hz1 : w0.heap.size ≤ w1.heap.size := hb.size
  clear ho hb HC c1 HB0 HR0 HZ0
  go_upto_region 2 with fail
  generalize hw2 : w1.setCell ⟨w.heap.size, 1, none⟩ (.slice va L.length vcap) = w2
  have HR2 : Hid (w2.heap[w.heap.size]? = some (.cells #[.int .i64 p, .slice va L.length vcap] 51 (0, 0))) := Lib.hid (by rw [← hw2]; exact two_setCell1 HR1.out)
  have HZ2 : Hid (w2.heap[w.heap.size + 1]? = some (.cells #[.int .i64 0, .slice none 0 0] 51 (0, 0))) := Lib.hid (by rw [← hw2, Below.heap_setCell _ _ _ _ (by show ¬ w.heap.size + 1 = w.heap.size; omega)]; exact HZ1.out)
  have HB2 : Hid (Below w.heap.size w w2) := Lib.hid (by rw [← hw2]; exact HB1.out.setCell (Nat.le_refl _) _)
  have HO2 : Hid (OwnC w2 w.heap.size (.slice va L.length vcap) L) := Lib.hid (by
    rw [← hw2]
    have h := HO1.out.kept (F := fun i => i = w.heap.size) (Kept.setCell (F := fun i => i = w.heap.size) (Kept.refl _ _) (p := ⟨w.heap.size, 1, none⟩) (.inl rfl) (.slice va L.length vcap)) (fun i e f => by have := (ownsRow_lt HO1.out e).1; omega)
    exact ⟨h.1, h.2.imp id fun ⟨g, cap, cur, e, hg, r⟩ => ⟨g, cap, cur, e, by omega, r⟩⟩)
  clear hw2 HR1 HZ1 HB1 HO1 f1 k1
  go_wp2_with (first
    | (refine wpList_load_row rfl 51 _ rfl w.heap.size rfl 51 _ _ _ HR2.out Tryd.underlying51 rfl (by kernel_rfl) ?_)
    | (refine wpList_store_row rfl 51 _ _ rfl (w.heap.size + 1) rfl 51 _ _ rfl HZ2.out (by kernel_rfl) (by rfl) (rec_one _ _ _ _) ?_))
  refine bodyPost_ret (v := .agg #[.int .i64 p, .slice va L.length vcap]) (results_cell_row rfl _ _ (w.heap.size + 1) 51 _ (0, 0) _ rfl (setRow_heap _ _ _ _ _ _ HZ2.out) Tryd.underlying51 rfl (by kernel_rfl)) rfl ⟨_, rfl, ?_, belowRow HB2.out (by omega) _⟩
  obtain ⟨h1, h2⟩ := HO2.out
  refine ⟨h1, h2.imp id fun ⟨g, cap, cur, e, hg, hb, r⟩ => ⟨g, cap, cur, e, hg, ?_, r⟩⟩
  exact (setRow_other _ _ _ _ (fun e2 => by subst e2; rw [HZ2.out] at hb; simp at hb)).trans hb

set_option maxRecDepth 100000 in
theorem len_any {W : World} {b : Nat} {vr vh : Value} {R : List MRec} (h : W.heap[b]? = some (.cells #[vr, vh] 78 (0, 0))) (hr : RecS W vr R) : Calls Tryd.prog 28 #[.pointer (some ⟨b, 0, none⟩)] W fun e w' => e = .returned (.int .i64 R.length) ∧ W = w' := by
  obtain ⟨a, n, cap, rfl, rfl, -⟩ := hr
  have c0 := cellOf (j := 0) h rfl
  clear h
  go_enter Tryd.func28, Tryd.ntmps28
  go_wp2_with fail
  go_ret
  exact ⟨rfl, rfl⟩
set_option maxRecDepth 100000 in
theorem len_nil (W : World) : Calls Tryd.prog 28 #[.pointer none] W fun e w' => e = .returned (.int .i64 0) ∧ W = w' := by
  go_enter Tryd.func28, Tryd.ntmps28
  go_wp2_with fail
  go_ret
  exact ⟨rfl, rfl⟩

set_option maxRecDepth 100000 in
set_option maxHeartbeats 1000000 in
theorem head_nil (W : World) (p : Int) : Calls Tryd.prog 13 #[.pointer none, .int .i64 p] W fun e w' => e = .returned (.tuple #[headV hdZ, .bool false]) ∧ Below W.heap.size W w' := by
  go_enter Tryd.func13, Tryd.ntmps13
  go_upto_region 1 with fail
  obtain ⟨w0, Hw0⟩ : ∃ w0, Hid (W.alloc (.cells #[.int .i64 0, .string ⟨#[]⟩, .string ⟨#[]⟩] 23) = w0) := ⟨_, Lib.hid rfl⟩
  have HB0 : Hid (Below W.heap.size W w0) := Lib.hid (by rw [← Hw0.out]; exact ba W _)
  have HZ0 : Hid (w0.heap[W.heap.size]? = some (.cells #[.int .i64 0, .string ⟨#[]⟩, .string ⟨#[]⟩] 23 (0, 0))) := Lib.hid (by rw [← Hw0.out]; exact heap_alloc_new W _)
  rw [Hw0.out]
  clear Hw0
  go_wp2_with (refine wpList_store_row rfl 23 _ _ rfl W.heap.size rfl 23 _ _ rfl HZ0.out (by kernel_rfl) (by rfl) (head_one _ _ _) ?_)
  refine bodyPost_ret (v := .tuple #[headV hdZ, .bool false]) (results_cell_row_tmp rfl _ _ W.heap.size 23 _ (0, 0) _ rfl (setRow_heap _ _ _ _ _ _ HZ0.out) Tryd.underlying23 rfl (by kernel_rfl) rfl) rfl ⟨rfl, belowRow HB0.out (Nat.le_refl _) _⟩

set_option maxRecDepth 100000 in
set_option maxHeartbeats 1000000 in
theorem head_neg {W : World} {b : Nat} {vr vh : Value} (h : W.heap[b]? = some (.cells #[vr, vh] 78 (0, 0))) (p : Int) (hp : p < 0) : Calls Tryd.prog 13 #[.pointer (some ⟨b, 0, none⟩), .int .i64 p] W fun e w' => e = .returned (.tuple #[headV hdZ, .bool false]) ∧ Below W.heap.size W w' := by
  have d1 : decide (p < 0) = true := decide_eq_true hp
  clear hp
  go_enter Tryd.func13, Tryd.ntmps13
  go_upto_region 1 with fail
  obtain ⟨w0, Hw0⟩ : ∃ w0, Hid (W.alloc (.cells #[.int .i64 0, .string ⟨#[]⟩, .string ⟨#[]⟩] 23) = w0) := ⟨_, Lib.hid rfl⟩
  have HB0 : Hid (Below W.heap.size W w0) := Lib.hid (by rw [← Hw0.out]; exact ba W _)
  have HZ0 : Hid (w0.heap[W.heap.size]? = some (.cells #[.int .i64 0, .string ⟨#[]⟩, .string ⟨#[]⟩] 23 (0, 0))) := Lib.hid (by rw [← Hw0.out]; exact heap_alloc_new W _)
  rw [Hw0.out]
  clear Hw0
  go_wp2_with (refine wpList_store_row rfl 23 _ _ rfl W.heap.size rfl 23 _ _ rfl HZ0.out (by kernel_rfl) (by rfl) (head_one _ _ _) ?_)
  refine bodyPost_ret (v := .tuple #[headV hdZ, .bool false]) (results_cell_row_tmp rfl _ _ W.heap.size 23 _ (0, 0) _ rfl (setRow_heap _ _ _ _ _ _ HZ0.out) Tryd.underlying23 rfl (by kernel_rfl) rfl) rfl ⟨rfl, belowRow HB0.out (Nat.le_refl _) _⟩

set_option maxRecDepth 100000 in
set_option maxHeartbeats 1000000 in
theorem head_far {W : World} {b : Nat} {vr vh : Value} {H : List MHead} (h : W.heap[b]? = some (.cells #[vr, vh] 78 (0, 0))) (hh : HdS W vh H) (p : Int) (hp : 0 ≤ p) (hf : (H.length : Int) ≤ p) : Calls Tryd.prog 13 #[.pointer (some ⟨b, 0, none⟩), .int .i64 p] W fun e w' => e = .returned (.tuple #[headV hdZ, .bool false]) ∧ Below W.heap.size W w' := by
  obtain ⟨a, n, cap, rfl, rfl, -⟩ := hh
  have HC1 := Lib.hid (fun w1 (k : Below W.heap.size W w1) => cellOf (j := 1) (gone k h) rfl)
  have d1 : decide (p < 0) = false := decide_eq_false (by omega)
  have d2 : decide ((H.length : Int) ≤ p) = true := decide_eq_true hf
  clear hp hf h
  go_enter Tryd.func13, Tryd.ntmps13
  go_upto_region 1 with fail
  obtain ⟨w0, Hw0⟩ : ∃ w0, Hid (W.alloc (.cells #[.int .i64 0, .string ⟨#[]⟩, .string ⟨#[]⟩] 23) = w0) := ⟨_, Lib.hid rfl⟩
  have HB0 : Hid (Below W.heap.size W w0) := Lib.hid (by rw [← Hw0.out]; exact ba W _)
  have HZ0 : Hid (w0.heap[W.heap.size]? = some (.cells #[.int .i64 0, .string ⟨#[]⟩, .string ⟨#[]⟩] 23 (0, 0))) := Lib.hid (by rw [← Hw0.out]; exact heap_alloc_new W _)
  rw [Hw0.out]
  clear Hw0
  have c1 := HC1.out _ HB0.out
  go_wp2_with (refine wpList_store_row rfl 23 _ _ rfl W.heap.size rfl 23 _ _ rfl HZ0.out (by kernel_rfl) (by rfl) (head_one _ _ _) ?_)
  refine bodyPost_ret (v := .tuple #[headV hdZ, .bool false]) (results_cell_row_tmp rfl _ _ W.heap.size 23 _ (0, 0) _ rfl (setRow_heap _ _ _ _ _ _ HZ0.out) Tryd.underlying23 rfl (by kernel_rfl) rfl) rfl ⟨rfl, belowRow HB0.out (Nat.le_refl _) _⟩

set_option maxRecDepth 100000 in
set_option maxHeartbeats 1000000 in
theorem head_ok {W : World} {b : Nat} {vr vh : Value} {H : List MHead} (h : W.heap[b]? = some (.cells #[vr, vh] 78 (0, 0))) (hh : HdS W vh H) (p : Nat) (hp : p < H.length) : Calls Tryd.prog 13 #[.pointer (some ⟨b, 0, none⟩), .int .i64 p] W fun e w' => e = .returned (.tuple #[headV (H.getD p hdZ), .bool true]) ∧ Below W.heap.size W w' := by
  have HH := Lib.hid hh
  obtain ⟨a, n, cap, rfl, hn, hc1, hc2, -⟩ := hh
  have HC1 := Lib.hid (fun w1 (k : Below W.heap.size W w1) => cellOf (j := 1) (gone k h) rfl)
  have hpn : p < n := by omega
  have d1 : decide ((p : Int) < 0) = false := decide_eq_false (by omega)
  have d2 : decide ((n : Int) ≤ (p : Int)) = false := decide_eq_false (by omega)
  have HN := Lib.hid hn
  obtain ⟨⟨xp, xc, xs⟩, Hx⟩ : ∃ x, Hid (H.getD p hdZ = x) := ⟨_, Lib.hid rfl⟩
  rw [Hx.out]
  clear hp h hn
  go_enter Tryd.func13, Tryd.ntmps13
  go_upto_region 1 with fail
  obtain ⟨w0, Hw0⟩ : ∃ w0, Hid (W.alloc (.cells #[.int .i64 0, .string ⟨#[]⟩, .string ⟨#[]⟩] 23) = w0) := ⟨_, Lib.hid rfl⟩
  have HB0 : Hid (Below W.heap.size W w0) := Lib.hid (by rw [← Hw0.out]; exact ba W _)
  have HZ0 : Hid (w0.heap[W.heap.size]? = some (.cells #[.int .i64 0, .string ⟨#[]⟩, .string ⟨#[]⟩] 23 (0, 0))) := Lib.hid (by rw [← Hw0.out]; exact heap_alloc_new W _)
  rw [Hw0.out]
  clear Hw0
  have c1 := HC1.out _ HB0.out
  obtain ⟨_, _, _, e1, -, -, -, hcell⟩ := HH.out.below HB0.out
  simp at e1
  obtain ⟨rfl, rfl, rfl⟩ := e1
  obtain ⟨vb, vo, rfl, hvb, hcs⟩ := hcell (by omega)
  obtain ⟨y0, y1, y2⟩ := hcs p hpn
  rw [Hx.out] at y0 y1 y2
  simp only at y0 y1 y2
  clear hcell hcs Hx HH HN
  go_wp2_with (refine wpList_store_row rfl 23 _ _ rfl W.heap.size rfl 23 _ _ rfl HZ0.out (by kernel_rfl) (by rfl) (head_one _ _ _) ?_)
  refine bodyPost_ret (v := .tuple #[.agg #[.int .i64 xp, .string xc, .string xs], .bool true]) (results_cell_row_tmp rfl _ _ W.heap.size 23 _ (0, 0) _ rfl (setRow_heap _ _ _ _ _ _ HZ0.out) Tryd.underlying23 rfl (by kernel_rfl) rfl) rfl ⟨rfl, belowRow HB0.out (Nat.le_refl _) _⟩

/-- What Head returns. -/
def headOut (H : List MHead) (p : Int) : Value := if 0 ≤ p ∧ p < H.length then .tuple #[headV (H.getD p.toNat hdZ), .bool true] else .tuple #[headV hdZ, .bool false]
theorem head_any {W : World} {F : Nat → Prop} {b : Nat} {R : List MRec} {H : List MHead} (h : LgAt W F b R H) (p : Int) : Calls Tryd.prog 13 #[.pointer (some ⟨b, 0, none⟩), .int .i64 p] W fun e w' => e = .returned (headOut H p) ∧ Below W.heap.size W w' := by
  obtain ⟨vr, vh, hb, hr, hh⟩ := h.read
  unfold headOut
  by_cases h0 : 0 ≤ p
  · by_cases h1 : p < H.length
    · rw [if_pos ⟨h0, h1⟩]
      obtain ⟨q, rfl⟩ := Int.eq_ofNat_of_zero_le h0
      exact head_ok hb hh q (by omega)
    · rw [if_neg (fun k => h1 k.2)]; exact head_far hb hh p h0 (by omega)
  · rw [if_neg (fun k => h0 k.1)]; exact head_neg hb p (by omega)

set_option maxRecDepth 100000 in
set_option maxHeartbeats 1000000 in
theorem record_nil (W : World) (p : Int) : Calls Tryd.prog 22 #[.pointer none, .int .i64 p] W fun e w' => e = .returned (.tuple #[.agg #[.int .i64 0, .slice none 0 0], .bool false]) ∧ Below W.heap.size W w' := by
  go_enter Tryd.func22, Tryd.ntmps22
  go_upto_region 1 with fail
  obtain ⟨w0, Hw0⟩ : ∃ w0, Hid (W.alloc (.cells #[.int .i64 0, .slice none 0 0] 51) = w0) := ⟨_, Lib.hid rfl⟩
  have HB0 : Hid (Below W.heap.size W w0) := Lib.hid (by rw [← Hw0.out]; exact ba W _)
  have HZ0 : Hid (w0.heap[W.heap.size]? = some (.cells #[.int .i64 0, .slice none 0 0] 51 (0, 0))) := Lib.hid (by rw [← Hw0.out]; exact heap_alloc_new W _)
  rw [Hw0.out]
  clear Hw0
  go_wp2_with (refine wpList_store_row rfl 51 _ _ rfl W.heap.size rfl 51 _ _ rfl HZ0.out (by kernel_rfl) (by rfl) (rec_one _ _ _ _) ?_)
  refine bodyPost_ret (v := .tuple #[.agg #[.int .i64 0, .slice none 0 0], .bool false]) (results_cell_row_tmp rfl _ _ W.heap.size 51 _ (0, 0) _ rfl (setRow_heap _ _ _ _ _ _ HZ0.out) Tryd.underlying51 rfl (by kernel_rfl) rfl) rfl ⟨rfl, belowRow HB0.out (Nat.le_refl _) _⟩

set_option maxRecDepth 100000 in
set_option maxHeartbeats 1000000 in
theorem record_neg {W : World} {b : Nat} {vr vh : Value} (h : W.heap[b]? = some (.cells #[vr, vh] 78 (0, 0))) (p : Int) (hp : p < 1) : Calls Tryd.prog 22 #[.pointer (some ⟨b, 0, none⟩), .int .i64 p] W fun e w' => e = .returned (.tuple #[.agg #[.int .i64 0, .slice none 0 0], .bool false]) ∧ Below W.heap.size W w' := by
  have d1 : decide (p < 1) = true := decide_eq_true hp
  clear hp
  go_enter Tryd.func22, Tryd.ntmps22
  go_upto_region 1 with fail
  obtain ⟨w0, Hw0⟩ : ∃ w0, Hid (W.alloc (.cells #[.int .i64 0, .slice none 0 0] 51) = w0) := ⟨_, Lib.hid rfl⟩
  have HB0 : Hid (Below W.heap.size W w0) := Lib.hid (by rw [← Hw0.out]; exact ba W _)
  have HZ0 : Hid (w0.heap[W.heap.size]? = some (.cells #[.int .i64 0, .slice none 0 0] 51 (0, 0))) := Lib.hid (by rw [← Hw0.out]; exact heap_alloc_new W _)
  rw [Hw0.out]
  clear Hw0
  go_wp2_with (refine wpList_store_row rfl 51 _ _ rfl W.heap.size rfl 51 _ _ rfl HZ0.out (by kernel_rfl) (by rfl) (rec_one _ _ _ _) ?_)
  refine bodyPost_ret (v := .tuple #[.agg #[.int .i64 0, .slice none 0 0], .bool false]) (results_cell_row_tmp rfl _ _ W.heap.size 51 _ (0, 0) _ rfl (setRow_heap _ _ _ _ _ _ HZ0.out) Tryd.underlying51 rfl (by kernel_rfl) rfl) rfl ⟨rfl, belowRow HB0.out (Nat.le_refl _) _⟩

set_option maxRecDepth 100000 in
set_option maxHeartbeats 1000000 in
theorem record_far {W : World} {b : Nat} {vr vh : Value} {R : List MRec} (h : W.heap[b]? = some (.cells #[vr, vh] 78 (0, 0))) (hr : RecS W vr R) (p : Int) (hp : 1 ≤ p) (hf : (R.length : Int) < p) : Calls Tryd.prog 22 #[.pointer (some ⟨b, 0, none⟩), .int .i64 p] W fun e w' => e = .returned (.tuple #[.agg #[.int .i64 0, .slice none 0 0], .bool false]) ∧ Below W.heap.size W w' := by
  obtain ⟨a, n, cap, rfl, rfl, -⟩ := hr
  have HC1 := Lib.hid (fun w1 (k : Below W.heap.size W w1) => cellOf (j := 0) (gone k h) rfl)
  have d1 : decide (p < 1) = false := decide_eq_false (by omega)
  have d2 : decide ((R.length : Int) < p) = true := decide_eq_true hf
  clear hp hf h
  go_enter Tryd.func22, Tryd.ntmps22
  go_upto_region 1 with fail
  obtain ⟨w0, Hw0⟩ : ∃ w0, Hid (W.alloc (.cells #[.int .i64 0, .slice none 0 0] 51) = w0) := ⟨_, Lib.hid rfl⟩
  have HB0 : Hid (Below W.heap.size W w0) := Lib.hid (by rw [← Hw0.out]; exact ba W _)
  have HZ0 : Hid (w0.heap[W.heap.size]? = some (.cells #[.int .i64 0, .slice none 0 0] 51 (0, 0))) := Lib.hid (by rw [← Hw0.out]; exact heap_alloc_new W _)
  rw [Hw0.out]
  clear Hw0
  have c1 := HC1.out _ HB0.out
  go_wp2_with (refine wpList_store_row rfl 51 _ _ rfl W.heap.size rfl 51 _ _ rfl HZ0.out (by kernel_rfl) (by rfl) (rec_one _ _ _ _) ?_)
  refine bodyPost_ret (v := .tuple #[.agg #[.int .i64 0, .slice none 0 0], .bool false]) (results_cell_row_tmp rfl _ _ W.heap.size 51 _ (0, 0) _ rfl (setRow_heap _ _ _ _ _ _ HZ0.out) Tryd.underlying51 rfl (by kernel_rfl) rfl) rfl ⟨rfl, belowRow HB0.out (Nat.le_refl _) _⟩

/-- What Record returns. -/
def RecOut (W : World) (r : MRec) (e : Ending) (w' : World) : Prop := ∃ v, e = .returned (.tuple #[.agg #[.int .i64 r.pos, v], .bool true]) ∧ OwnC w' W.heap.size v r.chs ∧ Below W.heap.size W w'
set_option maxRecDepth 100000 in
set_option maxHeartbeats 2000000 in
theorem record_ok {W : World} {b : Nat} {vr vh : Value} {R : List MRec} (h : W.heap[b]? = some (.cells #[vr, vh] 78 (0, 0))) (hr : RecS W vr R) (p : Nat) (hp : p < R.length) (h8 : (R.getD p recZ).chs.length ≤ 100000) (hl : R.length ≤ 10000) :
    Calls Tryd.prog 22 #[.pointer (some ⟨b, 0, none⟩), .int .i64 ((p : Int) + 1)] W (RecOut W (R.getD p recZ)) := by
  have HH := Lib.hid hr
  obtain ⟨a, n, cap, rfl, hn, hc1, hc2, -⟩ := hr
  have HC1 := Lib.hid (fun w1 (k : Below W.heap.size W w1) => cellOf (j := 0) (gone k h) rfl)
  have hpn : p < n := by omega
  have hn4 : n ≤ 10000 := by omega
  have d1 : decide ((p : Int) + 1 < 1) = false := decide_eq_false (by omega)
  have d2 : decide ((n : Int) < (p : Int) + 1) = false := decide_eq_false (by omega)
  have HN := Lib.hid hn
  obtain ⟨⟨pos, cs⟩, Hx⟩ : ∃ x, Hid (R.getD p recZ = x) := ⟨_, Lib.hid rfl⟩
  rw [Hx.out] at h8 ⊢
  simp only at h8
  have H8 := Lib.hid h8
  clear hp h hn hl h8
  go_enter Tryd.func22, Tryd.ntmps22
  go_upto_region 1 with fail
  obtain ⟨w0, Hw0⟩ : ∃ w0, Hid (W.alloc (.cells #[.int .i64 0, .slice none 0 0] 51) = w0) := ⟨_, Lib.hid rfl⟩
  have HB0 : Hid (Below W.heap.size W w0) := Lib.hid (by rw [← Hw0.out]; exact ba W _)
  have HZ0 : Hid (w0.heap[W.heap.size]? = some (.cells #[.int .i64 0, .slice none 0 0] 51 (0, 0))) := Lib.hid (by rw [← Hw0.out]; exact heap_alloc_new W _)
  rw [Hw0.out]
  clear Hw0
  have c1 := HC1.out _ HB0.out
  obtain ⟨_, _, _, e1, -, -, -, hcell⟩ := HH.out.below HB0.out
  simp at e1
  obtain ⟨rfl, rfl, rfl⟩ := e1
  obtain ⟨vb, vo, rfl, hvb, hcs⟩ := hcell (by omega)
  obtain ⟨y0, u, y1, hu⟩ := hcs p hpn
  rw [Hx.out] at y0 hu
  simp only at y0 hu
  have HCl := Lib.hid (clone_any pos hu H8.out)
  obtain ⟨ua, un, uc, rfl, -⟩ := hu
  clear hcell hcs Hx HH HN
  go_wp2_with fail
  (with_reducible refine HCl.out.mono ?_)
  rintro e w1 ⟨v, rfl, ho, hb⟩
  have HO1 := Lib.hid ho
  obtain ⟨va, vcap, rfl, -⟩ := ownsRow_form ho
  have HB1 := Lib.hid (bt HB0.out hb)
  have HZ1 := Lib.hid (gone hb HZ0.out)
  have hz0 : W.heap.size < w0.heap.size := lt_of_block HZ0.out
  clear ho hb HCl y0 y1 c1 HB0 HZ0
  go_wp2_with (refine wpList_store_row rfl 51 _ _ rfl W.heap.size rfl 51 _ _ rfl HZ1.out (by kernel_rfl) (by rfl) (rec_one _ _ _ _) ?_)
  refine bodyPost_ret (v := .tuple #[.agg #[.int .i64 pos, .slice va cs.length vcap], .bool true]) (results_cell_row_tmp rfl _ _ W.heap.size 51 _ (0, 0) _ rfl (setRow_heap _ _ _ _ _ _ HZ1.out) Tryd.underlying51 rfl (by kernel_rfl) rfl) rfl ⟨_, rfl, ?_, belowRow HB1.out (Nat.le_refl _) _⟩
  obtain ⟨h1, h2⟩ := HO1.out
  refine ⟨h1, h2.imp id fun ⟨g, cap, cur, e, hg, hb, r⟩ => ⟨g, cap, cur, e, by omega, ?_, r⟩⟩
  exact (setRow_other _ _ _ _ (fun e2 => by subst e2; omega)).trans hb
theorem record_any {W : World} {F : Nat → Prop} {b : Nat} {R : List MRec} {H : List MHead} (h : LgAt W F b R H) (p : Nat) (hp : p < R.length) :
    Calls Tryd.prog 22 #[.pointer (some ⟨b, 0, none⟩), .int .i64 ((p : Int) + 1)] W (RecOut W (R.getD p recZ)) := by
  obtain ⟨vr, vh, hb, hr, hh⟩ := h.read
  exact record_ok hb hr p hp (by have := (h.lg.nx p hp).1.2.1; omega) h.lg.small
theorem record_not {W : World} {F : Nat → Prop} {b : Nat} {R : List MRec} {H : List MHead} (h : LgAt W F b R H) (p : Int) (hp : p < 1 ∨ R.length < p) :
    Calls Tryd.prog 22 #[.pointer (some ⟨b, 0, none⟩), .int .i64 p] W fun e w' => e = .returned (.tuple #[.agg #[.int .i64 0, .slice none 0 0], .bool false]) ∧ Below W.heap.size W w' := by
  obtain ⟨vr, vh, hb, hr, hh⟩ := h.read
  by_cases h1 : p < 1
  · exact record_neg hb p h1
  · exact record_far hb hr p (by omega) (by omega)
end Go.Proofs.YtpapfegbodolgaaDoor
