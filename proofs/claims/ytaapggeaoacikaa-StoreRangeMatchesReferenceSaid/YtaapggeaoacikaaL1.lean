/- WALKS: the law's pick, equal, same. -/
import Derived.Test.YtaapggeaoacikaaX4
set_option linter.unusedVariables false
set_option linter.unusedSimpArgs false
namespace Go.Proofs.Ytaapggeaoacikaa
open Go.RowKit Go.Sort Go.ChangeMaps Go.MapKept

theorem sortOf_filter {L : List MRow} (h : Srt L) (t : Int) : SortOf L (selT t) 0 (L.filter (selT t)) := by
  refine ⟨List.Perm.refl _, ?_⟩
  have h1 : (L.filter (selT t)).Pairwise rlt := srt_filter h _
  refine List.Pairwise.imp_of_mem (fun {a b} ha hb hab => ?_) h1
  have ha' := (List.mem_filter.1 ha).2
  have hb' := (List.mem_filter.1 hb).2
  simp only [selT, decide_eq_true_eq] at ha' hb'
  unfold rlt at hab
  have e1 : vget a 0 = a.k := rfl
  have e2 : vget b 0 = b.k := rfl
  unfold rle
  rw [e1, e2]
  omega
theorem selT_t {t : Int} : ∀ r, selT t r = true → r.t = t := fun r h => by simpa [selT] using h
theorem selR_t {t col lo hi : Int} : ∀ r, selR t col lo hi r = true → r.t = t := fun r h => by
  simp only [selR, decide_eq_true_eq] at h
  exact h.1

set_option maxRecDepth 100000 in
set_option maxHeartbeats 4000000 in
theorem equal_true {W : World} {b b' : Nat} {m m' : Option Nat} {L : List MRow} {p p' : Int} (h : StAt W b m L p) (h' : StAt W b' m' L p') :
    Calls Try.prog 26 #[.pointer (some ⟨b, 0, none⟩), .pointer (some ⟨b', 0, none⟩)] W fun e w' => e = .returned (.bool true) ∧ Below W.heap.size W w' := by
  have HS := Lib.hid h
  have HS' := Lib.hid h'
  have hl : L.length ≤ 2000 := h.good.2.2
  have HG : Hid (Srt L) := Lib.hid h.good.1
  clear h h'
  go_enter Try.func26, Try.ntmps26
  go_wp2_with fail
  (with_reducible refine (len_any HS.out).mono ?_)
  rintro e w1 ⟨rfl, rfl⟩
  go_wp2_with fail
  (with_reducible refine (len_any HS'.out).mono ?_)
  rintro e w1 ⟨rfl, rfl⟩
  go_wp2_with fail
  go_loopw [5] (fun i wr => ∃ k : Nat, k ≤ 4 ∧ i = .int .i64 k ∧ Hid (Below W.heap.size W wr)) (fun i _ => 4 - (intOf i).toNat)
  case atStart => exact ⟨0, by omega, rfl, Lib.hid (Below.refl _ _)⟩
  case round =>
    obtain ⟨k, hk, rfl, HB⟩ := hrel
    by_cases hlt : k < 4
    · have d1 : decide ((k : Int) < 4) = true := decide_eq_true (by omega)
      go_wp2_with fail
      (with_reducible refine (rows_any (HS.out.below HB.out) (k : Int)).mono ?_)
      rintro e w1 ⟨v1, M1, rfl, ho1, hs1, hb1⟩
      have HB1 := Lib.hid (bt HB.out hb1)
      have HR1 := Lib.hid ho1.rowS
      have HQ1 := Lib.hid hs1
      clear ho1 hs1 hb1
      go_wp2_with fail
      (with_reducible refine (rows_any (HS'.out.below HB1.out) (k : Int)).mono ?_)
      rintro e w2 ⟨v2, M2, rfl, ho2, hs2, hb2⟩
      have HE : Hid (M1 = M2) := Lib.hid (sortOf_unique HG.out selT_t HQ1.out hs2)
      have HB2 := Lib.hid (bt HB1.out hb2)
      have HR2 := Lib.hid ho2.rowS
      have HR1' := Lib.hid (HR1.out.below hb2)
      clear ho2 hs2 hb2
      go_wp2_with fail
      (with_reducible refine (sameRows_any HR1'.out HR2.out).mono ?_)
      rintro e w3 ⟨rfl, hb3⟩
      rw [decide_eq_true HE.out]
      have HB3 := Lib.hid (bt HB2.out hb3)
      clear hb3
      go_wp2_with fail
      exact ⟨⟨k + 1, by omega, by go_num, HB3⟩, by simp [intOf]; omega⟩
    · obtain rfl : k = 4 := by omega
      go_wp2_with fail
      go_ret
      exact ⟨rfl, HB.out⟩

/-- Whatever is said of the loop over the tables. -/
theorem rowsS_any {W : World} {b : Nat} {m : Option Nat} {L : List MRow} {p : Int} (h : StAt W b m L p) (t : Int) :
    Calls Try.prog 30 #[.pointer (some ⟨b, 0, none⟩), .int .i64 t] W fun e w' => ∃ v, e = .returned v ∧ RowS w' v (L.filter (selT t)) ∧ Below W.heap.size W w' :=
  (rows_any h t).mono fun e w' ⟨v, M, he, ho, hs, hb⟩ => ⟨v, he, by rw [← sortOf_unique h.good.1 selT_t hs (sortOf_filter h.good.1 t)]; exact ho.rowS, hb⟩

set_option maxRecDepth 100000 in
set_option maxHeartbeats 8000000 in
theorem same_true {W : World} {b b' : Nat} {m : Option Nat} {v : Value} {L : List MRow} {p : Int} (h : StAt W b m L p) (h' : RfAt W b' v L p) :
    Calls Try.prog 17 #[.pointer (some ⟨b, 0, none⟩), .pointer (some ⟨b', 0, none⟩)] W fun e w' => e = .returned (.bool true) ∧ Below W.heap.size W w' := by
  have HS := Lib.hid h
  have HS' := Lib.hid h'
  have hl : L.length ≤ 2000 := h.good.2.2
  obtain ⟨c0, c1, _, _⟩ := h'.cells
  obtain ⟨va, vn, vcap, rfl, hvn, _, _, _⟩ := h'.own.rowS
  have hvl : (L.length : Int) = vn := by rw [hvn]
  have hpos : ∀ d, Calls Try.prog 27 #[.pointer (some ⟨b, 0, none⟩)] (W.drewN d) fun e w' => e = .returned (.int .i64 p) ∧ w' = W.drewN d := fun d => (position_any (HS.out.below (below_drewN W d))).mono fun e w' ⟨h1, h2⟩ => ⟨h1, h2.symm⟩
  have hlen : ∀ d, Calls Try.prog 29 #[.pointer (some ⟨b, 0, none⟩)] (W.drewN d) fun e w' => e = .returned (.int .i64 vn) ∧ w' = W.drewN d := fun d => (len_any (HS.out.below (below_drewN W d))).mono fun e w' ⟨h1, h2⟩ => ⟨by rw [h1, hvl], h2.symm⟩
  have d1 : ((L.length : Int) != (vn : Int)) = false := by simp [hvl]
  clear h h' hvn
  go_enter Try.func17, Try.ntmps17
  go_wp2_with fail
  go_quiet (first | (go_at_call 27; exact Calls.quiet_of_same (hpos _)) | (go_at_call 29; exact Calls.quiet_of_same (hlen _)))
  have HB0 : Hid (Below W.heap.size W (W.drewN nq)) := Lib.hid (below_drewN W nq)
  obtain ⟨wq, Hwq⟩ : ∃ wq, Hid (W.drewN nq = wq) := ⟨_, Lib.hid rfl⟩
  rw [Hwq.out] at HB0 ⊢
  clear hpos hlen c0 c1 d1
  go_wp2_with fail
  go_loopw [5] (fun i wr => ∃ k : Nat, k ≤ 4 ∧ i = .int .i64 k ∧ Hid (Below W.heap.size W wr)) (fun i _ => 4 - (intOf i).toNat)
  case atStart => exact ⟨0, by omega, rfl, HB0⟩
  case round =>
    obtain ⟨k, hk, rfl, HB⟩ := hrel
    by_cases hlt : k < 4
    · have d1 : decide ((k : Int) < 4) = true := decide_eq_true (by omega)
      go_wp2_with fail
      (with_reducible refine (rowsS_any (HS.out.below HB.out) (k : Int)).mono ?_)
      rintro e w1 ⟨v1, rfl, hs1, hb1⟩
      have HB1 := Lib.hid (bt HB.out hb1)
      have HR1 := Lib.hid hs1
      clear hs1 hb1
      go_wp2_with fail
      (with_reducible refine (rowsR_any (HS'.out.below HB1.out) (k : Int)).mono ?_)
      rintro e w2 ⟨v2, rfl, ho2, hb2⟩
      have HB2 := Lib.hid (bt HB1.out hb2)
      have HR2 := Lib.hid ho2.rowS
      have HR1' := Lib.hid (HR1.out.below hb2)
      clear ho2 hb2
      go_wp2_with fail
      (with_reducible refine (sameRows_any HR1'.out HR2.out).mono ?_)
      rintro e w3 ⟨rfl, hb3⟩
      rw [decide_eq_true rfl]
      have HB3 := Lib.hid (bt HB2.out hb3)
      clear hb3
      go_wp2_with fail
      exact ⟨⟨k + 1, by omega, by go_num, HB3⟩, by simp [intOf]; omega⟩
    · obtain rfl : k = 4 := by omega
      go_wp2_with fail
      go_ret
      exact ⟨rfl, HB.out⟩

/-- What pick gives: something of 0 .. n - 1. -/
def pk (c : Int) (n : Int) : Int := (if c < 0 then -(c + 1) else c) % n
theorem pk_range (c : Int) {n : Int} (hn : 1 ≤ n) : 0 ≤ pk c n ∧ pk c n < n := by
  unfold pk
  exact ⟨Int.emod_nonneg _ (by omega), Int.emod_lt_of_pos _ (by omega)⟩
theorem pick_any (c n : Int) (W : World) (hc : I64 c) (hn : 1 ≤ n) (hn2 : n ≤ 1000000) : Calls Try.prog 18 #[.int .i64 c, .int .i64 n] W fun e w' => e = .returned (.int .i64 (pk c n)) ∧ W = w' := by
  unfold I64 at hc
  have hn0 : (n == 0) = false := by simp; omega
  by_cases h : c < 0
  · have d1 : decide (c < 0) = true := decide_eq_true h
    have hp : pk c n = (-(c + 1)) % n := by unfold pk; rw [if_pos h]
    rw [hp]
    have ht : Int.tmod (-(c + 1)) n = (-(c + 1)) % n := Int.tmod_eq_emod_of_nonneg (by omega)
    have h3 := Int.emod_nonneg (-(c + 1)) (show n ≠ 0 by omega)
    have h4 := Int.emod_lt_of_pos (-(c + 1)) (show 0 < n by omega)
    go_enter Try.func18, Try.ntmps18
    go_wp2_with fail
    go_ret
    exact ⟨rfl, rfl⟩
  · have d1 : decide (c < 0) = false := decide_eq_false h
    have hp : pk c n = c % n := by unfold pk; rw [if_neg h]
    rw [hp]
    have ht : Int.tmod c n = c % n := Int.tmod_eq_emod_of_nonneg (by omega)
    have h3 := Int.emod_nonneg c (show n ≠ 0 by omega)
    have h4 := Int.emod_lt_of_pos c (show 0 < n by omega)
    go_enter Try.func18, Try.ntmps18
    go_wp2_with fail
    go_ret
    exact ⟨rfl, rfl⟩
end Go.Proofs.Ytaapggeaoacikaa
