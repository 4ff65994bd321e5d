/- WALKS: the reference's Get. -/
import Derived.Test.YtaapggeaoacikaaX1
set_option linter.unusedVariables false
set_option linter.unusedSimpArgs false
namespace Go.Proofs.Ytaapggeaoacikaa
open Go.RowKit Go.Sort Go.ChangeMaps Go.MapKept

theorem getR_out {L : List MRow} {t k : Int} {r : MRow} {W w' : World} (h : look L t k = some r) (hb : Below W.heap.size W w') :
    Ending.returned (.tuple #[rowV r, .bool true]) = .returned (.tuple #[rowV ((look L t k).getD rowZ), .bool (look L t k).isSome]) ∧ Below W.heap.size W w' := by rw [h]; exact ⟨rfl, hb⟩
theorem getR_no {L : List MRow} {t k : Int} {W w' : World} (h : look L t k = none) (hb : Below W.heap.size W w') :
    Ending.returned (.tuple #[rowV rowZ, .bool false]) = .returned (.tuple #[rowV ((look L t k).getD rowZ), .bool (look L t k).isSome]) ∧ Below W.heap.size W w' := by rw [h]; exact ⟨rfl, hb⟩

set_option maxRecDepth 100000 in
set_option maxHeartbeats 4000000 in
theorem getR_any {W : World} {b : Nat} {v : Value} {L : List MRow} {p : Int} (h : RfAt W b v L p) (t k : Int) :
    Calls Try.prog 22 #[.pointer (some ⟨b, 0, none⟩), .int .i64 t, .int .i64 k] W fun e w' => e = .returned (.tuple #[rowV ((look L t k).getD rowZ), .bool (look L t k).isSome]) ∧ Below W.heap.size W w' := by
  have hlk := look_cntk h.good.1 t k
  have HP := fun o => place_any (h.below (ba W o)) t k
  have hblt := h.lt
  have hbne : ¬ b = W.heap.size := by omega
  obtain ⟨c0, c1, _, _⟩ := h.cells
  have HR : Hid (RowS W v L) := Lib.hid h.own.rowS
  have hlen := h.good.2.2
  obtain ⟨a, n, cap, rfl, hn, hc1, hc2, hcell⟩ := HR.out
  have HN := Lib.hid hn
  have hn2 : n ≤ 2000 := by omega
  have HC := Lib.hid hcell
  obtain ⟨c, Hc⟩ : ∃ c, Hid (cntk L t k = c) := ⟨_, Lib.hid rfl⟩
  have hcn : c ≤ n := by rw [← Hc.out, HN.out]; exact cntk_le _ _ _
  rw [Hc.out, ← HN.out] at hlk
  simp only [Hc.out] at HP
  have HPl := Lib.hid HP
  clear h hcell hn hlen HP
  by_cases hlt : c < n
  · obtain ⟨vb, vo, rfl, hvb, hcs⟩ := HC.out (by omega)
    have hvne : ¬ vb = W.heap.size := by omega
    have HRm := hcs _ hlt
    clear hcs
    obtain ⟨⟨rt, rk, ⟨ra, rb, rc⟩⟩, Hr⟩ : ∃ r, Hid (L.getD c rowZ = r) := ⟨_, Lib.hid rfl⟩
    rw [Hr.out] at HRm hlk
    obtain ⟨y0, y1, y2, y3, y4⟩ := HRm.cells
    simp only at y0 y1 y2 y3 y4
    simp only at hlk
    by_cases g2 : rt = t
    · have d2 : (rt == t) = true := by simp [g2]
      by_cases g3 : rk = k
      · have d3 : (rk == k) = true := by simp [g3]
        have HL : Hid (look L t k = some ⟨rt, rk, ⟨ra, rb, rc⟩⟩) := Lib.hid (by rw [hlk, if_pos ⟨hlt, g2, g3⟩])
        clear HRm hlk g2 g3
        go_enter Try.func22, Try.ntmps22
        go_wp2_with fail
        (with_reducible refine (HPl.out _).mono ?_)
        rintro e w1 ⟨rfl, rfl⟩
        go_wp2_with fail
        refine bodyPost_ret (v := .tuple #[rowV ⟨rt, rk, ⟨ra, rb, rc⟩⟩, .bool true]) (by simp [results, Try.results22, go_sem, rowV]) rfl (getR_out HL.out (ba W _))
      · have d3 : (rk == k) = false := by simp [g3]
        have HL : Hid (look L t k = none) := Lib.hid (by rw [hlk, if_neg (fun h => g3 h.2.2)])
        clear HRm hlk g2 g3
        go_enter Try.func22, Try.ntmps22
        go_wp2_with fail
        (with_reducible refine (HPl.out _).mono ?_)
        rintro e w1 ⟨rfl, rfl⟩
        go_wp2_with fail
        refine bodyPost_ret (v := .tuple #[rowV rowZ, .bool false]) (by simp [results, Try.results22, go_sem, rowV, rowZ]) rfl (getR_no HL.out (ba W _))
    · have d2 : (rt == t) = false := by simp [g2]
      have HL : Hid (look L t k = none) := Lib.hid (by rw [hlk, if_neg (fun h => g2 h.2.1)])
      clear HRm hlk g2
      go_enter Try.func22, Try.ntmps22
      go_wp2_with fail
      (with_reducible refine (HPl.out _).mono ?_)
      rintro e w1 ⟨rfl, rfl⟩
      go_wp2_with fail
      refine bodyPost_ret (v := .tuple #[rowV rowZ, .bool false]) (by simp [results, Try.results22, go_sem, rowV, rowZ]) rfl (getR_no HL.out (ba W _))
  · have HL : Hid (look L t k = none) := Lib.hid (by rw [hlk, if_neg (fun h => hlt h.1)])
    clear hlk
    go_enter Try.func22, Try.ntmps22
    go_wp2_with fail
    (with_reducible refine (HPl.out _).mono ?_)
    rintro e w1 ⟨rfl, rfl⟩
    go_wp2_with fail
    refine bodyPost_ret (v := .tuple #[rowV rowZ, .bool false]) (by simp [results, Try.results22, go_sem, rowV, rowZ]) rfl (getR_no HL.out (ba W _))
end Go.Proofs.Ytaapggeaoacikaa
