/- WALKS: the reference: Decode. -/
import Derived.Test.YtgkdliocfnoffaaDoorF1
import Derived.BigRegion
set_option linter.unusedVariables false
set_option linter.unusedSimpArgs false
namespace Go.Proofs.YtgkdliocfnoffaaDoor
open Go.RowKit Go.Sort

theorem rdRow_no {L : List UInt8} {k : Nat} (h : getN 5 L k = none) : rdRow.run L k = .error false := by
  simp only [getN] at h
  simp only [rdRow, rd3, Rd.run, Rd.bind]
  cases h1 : decInt (L.drop k) with
  | none => rfl
  | some p1 =>
    simp only [h1] at h ⊢
    cases h2 : decInt (L.drop (k + p1.2)) with
    | none => rfl
    | some p2 =>
      simp only [h2] at h ⊢
      cases h3 : decInt (L.drop (k + p1.2 + p2.2)) with
      | none => rfl
      | some p3 =>
        simp only [h3] at h ⊢
        cases h4 : decInt (L.drop (k + p1.2 + p2.2 + p3.2)) with
        | none => rfl
        | some p4 =>
          simp only [h4] at h ⊢
          cases h5 : decInt (L.drop (k + p1.2 + p2.2 + p3.2 + p4.2)) with
          | none => rfl
          | some p5 => simp [h5] at h
theorem rdRow_yes {L : List UInt8} {k k' : Nat} {l : List Int} (h : getN 5 L k = some (l, k')) : ∃ t kk a b c, l = [t, kk, a, b, c] ∧ rdRow.run L k = .ok (⟨t, kk, ⟨a, b, c⟩⟩, k') := by
  simp only [getN] at h
  simp only [rdRow, rd3, Rd.run, Rd.bind]
  cases h1 : decInt (L.drop k) with
  | none => simp [h1] at h
  | some p1 =>
    simp only [h1] at h ⊢
    cases h2 : decInt (L.drop (k + p1.2)) with
    | none => simp [h2] at h
    | some p2 =>
      simp only [h2] at h ⊢
      cases h3 : decInt (L.drop (k + p1.2 + p2.2)) with
      | none => simp [h3] at h
      | some p3 =>
        simp only [h3] at h ⊢
        cases h4 : decInt (L.drop (k + p1.2 + p2.2 + p3.2)) with
        | none => simp [h4] at h
        | some p4 =>
          simp only [h4] at h ⊢
          cases h5 : decInt (L.drop (k + p1.2 + p2.2 + p3.2 + p4.2)) with
          | none => simp [h5] at h
          | some p5 =>
            simp only [h5, Option.map_some, Option.some.injEq, Prod.mk.injEq] at h
            exact ⟨_, _, _, _, _, h.1.symm, by rw [← h.2]⟩
theorem getN_le {s : ByteArray} : ∀ {n k : Nat} {l : List Int} {k' : Nat}, k ≤ s.size → getN n s.data.toList k = some (l, k') → k' ≤ s.size
  | 0, k, l, k', hk, h => by simp [getN] at h; omega
  | n + 1, k, l, k', hk, h => by
    simp only [getN] at h
    cases hd : decInt (s.data.toList.drop k) with
    | none => simp [hd] at h
    | some p =>
      have h2 := dec_le (m := p.2) (n := p.1) hk hd
      simp only [hd] at h
      cases hg : getN n s.data.toList (k + p.2) with
      | none => simp [hg] at h
      | some q =>
        simp only [hg, Option.map_some, Option.some.injEq, Prod.mk.injEq] at h
        exact h.2 ▸ getN_le h2 (l := q.1) (k' := q.2) hg
theorem get_no (s : ByteArray) (ki ni : Int) (k n : Nat) (w : World) (hki : ki = (k : Int)) (hni : ni = (n : Int)) (hs : s.size ≤ maxLen) (hk : k ≤ s.size) (hn : n ≤ 100) (hr : Hid (getN n s.data.toList k = none)) :
    Calls Tryd.prog 44 #[.string s, .int .i64 ki, .int .i64 ni] w fun e w' => e = .returned (.tuple #[.slice none 0 0, .int .i64 0, .bool false]) ∧ Below w.heap.size w w' := by
  subst hki; subst hni
  have := get_any s k n w hs hk hn
  rw [hr.out] at this
  exact this.mono fun e w' hw => ⟨hw.2, hw.1⟩
theorem get_ok (s : ByteArray) (ki ni : Int) (k n : Nat) (w : World) (hki : ki = (k : Int)) (hni : ni = (n : Int)) (hs : s.size ≤ maxLen) (hk : k ≤ s.size) (hn : n ≤ 100) {l : List Int} {k' : Nat} (hr : Hid (getN n s.data.toList k = some (l, k'))) (h0 : 0 < n) :
    Calls Tryd.prog 44 #[.string s, .int .i64 ki, .int .i64 ni] w fun e w' => ∃ g c, e = .returned (.tuple #[.slice (some ⟨g, 0, none⟩) n c, .int .i64 (k' : Int), .bool true]) ∧ (∀ j, j < n → w'.cell? ⟨g, j, none⟩ = some (.int .i64 (l.getD j 0))) ∧ w.heap.size ≤ g ∧ g < w'.heap.size ∧ Below w.heap.size w w' := by
  subst hki; subst hni
  have := get_any s k n w hs hk hn
  have hl := getN_len _ _ _ hr.out
  rw [hr.out] at this
  refine this.mono fun e w' hw => ?_
  obtain ⟨hb, v, he, ho⟩ := hw
  have h1 : l.length - 1 + 1 = l.length := by omega
  rw [← h1] at ho
  obtain ⟨g, c, rfl⟩ := ownsRow_succ ho
  rw [h1] at ho
  refine ⟨g, c, by rw [he, h1, hl], fun j hj => ?_, (ho.lt g rfl).1, (ho.lt g rfl).2, hb⟩
  rw [ho.cellAt j (by omega)]
  simp [intV, hl, hj, List.getD_eq_getElem?_getD]
theorem decRow_e0 {s : ByteArray} (h : getN 5 s.data.toList 0 = none) : decRow s = (⟨0, 0, V3.zero⟩, 10) := by unfold decRow; rw [rdRow_no h]; rfl
theorem decRow_more {s : ByteArray} {l : List Int} {k : Nat} (h : getN 5 s.data.toList 0 = some (l, k)) (hk : k < s.size) : decRow s = (⟨0, 0, V3.zero⟩, 10) := by
  obtain ⟨t, kk, a, b, c, rfl, hr⟩ := rdRow_yes h
  unfold decRow; rw [hr]; simp only; rw [if_neg (by omega)]
theorem decRow_ok {s : ByteArray} {t kk a b c : Int} (h : getN 5 s.data.toList 0 = some ([t, kk, a, b, c], s.size)) (hv : VRow ⟨t, kk, ⟨a, b, c⟩⟩) : decRow s = (⟨t, kk, ⟨a, b, c⟩⟩, 0) := by
  obtain ⟨_, _, _, _, _, e, hr⟩ := rdRow_yes h
  simp only [List.cons.injEq, and_true] at e
  obtain ⟨rfl, rfl, rfl, rfl, rfl⟩ := e
  unfold decRow; rw [hr]; simp [hv]
theorem decRow_bad {s : ByteArray} {t kk a b c : Int} (h : getN 5 s.data.toList 0 = some ([t, kk, a, b, c], s.size)) (hv : ¬ VRow ⟨t, kk, ⟨a, b, c⟩⟩) : decRow s = (⟨0, 0, V3.zero⟩, 30) := by
  obtain ⟨_, _, _, _, _, e, hr⟩ := rdRow_yes h
  simp only [List.cons.injEq, and_true] at e
  obtain ⟨rfl, rfl, rfl, rfl, rfl⟩ := e
  unfold decRow; rw [hr]; simp [hv]
theorem decRowV_e {s : ByteArray} {r : MRow} {c : Int} (h : Hid (decRow s = (r, c))) : Value.tuple #[rowV r, .int .i64 c] = decRowV s := by unfold decRowV; rw [h.out]

theorem results_row16 (w : World) (R : Nat) (cells : Array Value) (t : TypeId) (x : Value) (tmps : Array Value) (hR : w.heap[R]? = some (.cells cells t (0, 0))) (hs : cells.size = 5)
    (h2 : tmps.getD 2 undef = .pointer (some ⟨R, 0, none⟩)) (h3 : tmps.getD 3 undef = x) : (results Tryd.f16 tmps).run Tryd.prog w = .ok (.tuple #[.agg cells, x]) w := by
  have h2' : tmps[2]?.getD undef = .pointer (some ⟨R, 0, none⟩) := by simpa using h2
  have h3' : tmps[3]?.getD undef = x := by simpa using h3
  have hl := run_loadVar_row (P := Tryd.prog) w R t 24 cells (0, 0) _ hR Tryd.underlying24 rfl (by rw [hs]; kernel_rfl)
  simp [results, Tryd.results16, h2', h3', asAddr, hl]
theorem cells_new5 (w : World) (o : Obj) : (w.alloc o).heap[w.heap.size]? = some o := heap_alloc_new w o

set_option maxRecDepth 100000 in
set_option maxHeartbeats 4000000 in
theorem refDecode_any (s : ByteArray) (w : World) (hs : s.size ≤ maxLen) :
    Calls Tryd.prog 16 #[.string s] w fun e w' => e = .returned (decRowV s) ∧ Below w.heap.size w w' := by
  cases h : getN 5 s.data.toList 0 with
  | none =>
    have HX := Lib.hid (decRow_e0 h)
    have H := Lib.hid h
    clear h
    go_enter Tryd.func16, Tryd.ntmps16
    go_wp2_with fail
    (with_reducible refine (get_no s 0 5 0 5 _ (by decide) (by decide) hs (Nat.zero_le _) (by decide) H).mono ?_)
    rintro e w1 ⟨rfl, hb1⟩
    have hR : w1.heap[w.heap.size]? = some (.cells #[.int .i64 0, .int .i64 0, .int .i64 0, .int .i64 0, .int .i64 0] 24 (0, 0)) := (hb1.block _ (by simp)).trans (heap_alloc_new w _)
    go_wp2_with (refine wpList_store_row rfl 24 _ _ rfl w.heap.size #[.int .i64 0, .int .i64 0, .int .i64 0, .int .i64 0, .int .i64 0] rfl rfl 24 _ hR (by kernel_rfl) rfl (by simp [Value.oneCell']) ?_)
    refine bodyPost_ret (v := .tuple #[rowV ⟨0, 0, V3.zero⟩, .int .i64 10]) ?_ rfl ⟨by rw [decRowV_e HX], below_row (bt (ba w _) hb1) (Nat.le_refl _) _⟩
    exact results_row16 _ _ _ _ _ _ (setRow_heap _ _ _ _ _ _ hR) rfl rfl rfl
  | some q =>
    obtain ⟨l, k⟩ := q
    have hkl := getN_le (Nat.zero_le _) h
    have H := Lib.hid h
    by_cases hk : k < s.size
    · have HX := Lib.hid (decRow_more h hk)
      clear h
      go_enter Tryd.func16, Tryd.ntmps16
      go_wp2_with fail
      (with_reducible refine (get_ok s 0 5 0 5 _ (by decide) (by decide) hs (Nat.zero_le _) (by decide) H (by decide)).mono ?_)
      rintro e w1 ⟨g, c, rfl, hcl, hg, hgl, hb1⟩
      have hR : w1.heap[w.heap.size]? = some (.cells #[.int .i64 0, .int .i64 0, .int .i64 0, .int .i64 0, .int .i64 0] 24 (0, 0)) := (hb1.block _ (by simp)).trans (heap_alloc_new w _)
      clear hcl
      go_wp2_with (refine wpList_store_row rfl 24 _ _ rfl w.heap.size #[.int .i64 0, .int .i64 0, .int .i64 0, .int .i64 0, .int .i64 0] rfl rfl 24 _ hR (by kernel_rfl) rfl (by simp [Value.oneCell']) ?_)
      refine bodyPost_ret (v := .tuple #[rowV ⟨0, 0, V3.zero⟩, .int .i64 10]) ?_ rfl ⟨by rw [decRowV_e HX], below_row (bt (ba w _) hb1) (Nat.le_refl _) _⟩
      exact results_row16 _ _ _ _ _ _ (setRow_heap _ _ _ _ _ _ hR) rfl rfl rfl
    · obtain rfl : k = s.size := by omega
      obtain ⟨t, kk, a, b, c, rfl, _⟩ := rdRow_yes h
      by_cases hv : VRow ⟨t, kk, ⟨a, b, c⟩⟩
      · have HX := Lib.hid (decRow_ok h hv)
        have HV := Lib.hid hv
        clear h hv
        go_enter Tryd.func16, Tryd.ntmps16
        go_wp2_with fail
        (with_reducible refine (get_ok s 0 5 0 5 _ (by decide) (by decide) hs (Nat.zero_le _) (by decide) H (by decide)).mono ?_)
        rintro e w1 ⟨g, cc, rfl, hcl, hg, hgl, hb1⟩
        have hR : w1.heap[w.heap.size]? = some (.cells #[.int .i64 0, .int .i64 0, .int .i64 0, .int .i64 0, .int .i64 0] 24 (0, 0)) := (hb1.block _ (by simp)).trans (heap_alloc_new w _)
        have c0 : w1.cell? ⟨g, 0, none⟩ = some (.int .i64 t) := hcl 0 (by decide)
        have c1 : w1.cell? ⟨g, 1, none⟩ = some (.int .i64 kk) := hcl 1 (by decide)
        have c2 : w1.cell? ⟨g, 2, none⟩ = some (.int .i64 a) := hcl 2 (by decide)
        have c3 : w1.cell? ⟨g, 3, none⟩ = some (.int .i64 b) := hcl 3 (by decide)
        have c4 : w1.cell? ⟨g, 4, none⟩ = some (.int .i64 c) := hcl 4 (by decide)
        clear hcl
        go_wp2_with fail
        go_region
        go_wp2_with fail
        (with_reducible refine (refValid_t ⟨t, kk, ⟨a, b, c⟩⟩ _ HV.out).mono ?_)
        rintro e w2 ⟨rfl, hb2⟩
        have hb3 := bt (ba w1 (.cells #[.int .i64 t, .int .i64 kk, .int .i64 a, .int .i64 b, .int .i64 c] 24)).drew hb2
        have hR2 : w2.heap[w.heap.size]? = some (.cells #[.int .i64 0, .int .i64 0, .int .i64 0, .int .i64 0, .int .i64 0] 24 (0, 0)) := (hb3.block _ (Array.getElem?_eq_some_iff.1 hR).1).trans hR
        have hN2 : w2.heap[w1.heap.size]? = some (.cells #[.int .i64 t, .int .i64 kk, .int .i64 a, .int .i64 b, .int .i64 c] 24 (0, 0)) := (hb2.block _ (by simp)).trans (heap_alloc_new w1 _)
        go_wp2_with (first | (refine wpList_load_row rfl 24 _ rfl w1.heap.size rfl 24 _ _ _ hN2 Tryd.underlying24 rfl (by kernel_rfl) ?_) | (refine wpList_store_row rfl 24 _ _ rfl w.heap.size #[.int .i64 t, .int .i64 kk, .int .i64 a, .int .i64 b, .int .i64 c] rfl rfl 24 _ hR2 (by kernel_rfl) rfl (by simp [Value.oneCell']) ?_))
        refine bodyPost_ret (v := .tuple #[rowV ⟨t, kk, ⟨a, b, c⟩⟩, .int .i64 0]) ?_ rfl ⟨by rw [decRowV_e HX], below_row (bt (bt (ba w _) hb1) hb3) (Nat.le_refl _) _⟩
        exact results_row16 _ _ _ _ _ _ (setRow_heap _ _ _ _ _ _ hR2) rfl rfl rfl
      · have HX := Lib.hid (decRow_bad h hv)
        have HV := Lib.hid hv
        clear h hv
        go_enter Tryd.func16, Tryd.ntmps16
        go_wp2_with fail
        (with_reducible refine (get_ok s 0 5 0 5 _ (by decide) (by decide) hs (Nat.zero_le _) (by decide) H (by decide)).mono ?_)
        rintro e w1 ⟨g, cc, rfl, hcl, hg, hgl, hb1⟩
        have hR : w1.heap[w.heap.size]? = some (.cells #[.int .i64 0, .int .i64 0, .int .i64 0, .int .i64 0, .int .i64 0] 24 (0, 0)) := (hb1.block _ (by simp)).trans (heap_alloc_new w _)
        have c0 : w1.cell? ⟨g, 0, none⟩ = some (.int .i64 t) := hcl 0 (by decide)
        have c1 : w1.cell? ⟨g, 1, none⟩ = some (.int .i64 kk) := hcl 1 (by decide)
        have c2 : w1.cell? ⟨g, 2, none⟩ = some (.int .i64 a) := hcl 2 (by decide)
        have c3 : w1.cell? ⟨g, 3, none⟩ = some (.int .i64 b) := hcl 3 (by decide)
        have c4 : w1.cell? ⟨g, 4, none⟩ = some (.int .i64 c) := hcl 4 (by decide)
        clear hcl
        go_wp2_with fail
        go_region
        go_wp2_with fail
        (with_reducible refine (refValid_f ⟨t, kk, ⟨a, b, c⟩⟩ _ HV.out).mono ?_)
        rintro e w2 ⟨rfl, hb2⟩
        have hb3 := bt (ba w1 (.cells #[.int .i64 t, .int .i64 kk, .int .i64 a, .int .i64 b, .int .i64 c] 24)).drew hb2
        have hR2 : w2.heap[w.heap.size]? = some (.cells #[.int .i64 0, .int .i64 0, .int .i64 0, .int .i64 0, .int .i64 0] 24 (0, 0)) := (hb3.block _ (Array.getElem?_eq_some_iff.1 hR).1).trans hR
        have hN2 : w2.heap[w1.heap.size]? = some (.cells #[.int .i64 t, .int .i64 kk, .int .i64 a, .int .i64 b, .int .i64 c] 24 (0, 0)) := (hb2.block _ (by simp)).trans (heap_alloc_new w1 _)
        go_wp2_with (refine wpList_store_row rfl 24 _ _ rfl w.heap.size #[.int .i64 0, .int .i64 0, .int .i64 0, .int .i64 0, .int .i64 0] rfl rfl 24 _ hR2 (by kernel_rfl) rfl (by simp [Value.oneCell']) ?_)
        refine bodyPost_ret (v := .tuple #[rowV ⟨0, 0, V3.zero⟩, .int .i64 30]) ?_ rfl ⟨by rw [decRowV_e HX], below_row (bt (bt (ba w _) hb1) hb3) (Nat.le_refl _) _⟩
        exact results_row16 _ _ _ _ _ _ (setRow_heap _ _ _ _ _ _ hR2) rfl rfl rfl
end Go.Proofs.YtgkdliocfnoffaaDoor
