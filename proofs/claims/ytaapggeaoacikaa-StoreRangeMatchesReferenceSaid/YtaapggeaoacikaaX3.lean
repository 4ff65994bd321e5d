/- WALKS: the reference's Rows. -/
import Derived.Test.YtaapggeaoacikaaX2
set_option linter.unusedVariables false
set_option linter.unusedSimpArgs false
namespace Go.Proofs.Ytaapggeaoacikaa
open Go.RowKit Go.Sort Go.ChangeMaps Go.MapKept

theorem appendRow_own {W : World} {B : Nat} {v : Value} {M : List MRow} {r : MRow} (h : OwnR W B v M) : W.ownsRow B 50 5 v M.length (flat M) := h
theorem own_snoc {W : World} {B : Nat} {v : Value} {M : List MRow} {t k a b c : Int} (h : W.ownsRow B 50 5 v (M.length + 1) (flat M ++ [.int .i64 t, .int .i64 k, .int .i64 a, .int .i64 b, .int .i64 c])) : OwnR W B v (M ++ [⟨t, k, ⟨a, b, c⟩⟩]) := by
  unfold OwnR
  rw [List.length_append, flat_app]
  exact h

set_option maxRecDepth 100000 in
set_option maxHeartbeats 4000000 in
theorem rowsR_any {W : World} {b : Nat} {v : Value} {L : List MRow} {p : Int} (h : RfAt W b v L p) (t : Int) :
    Calls Try.prog 40 #[.pointer (some ⟨b, 0, none⟩), .int .i64 t] W fun e w' => ∃ u, e = .returned u ∧ OwnR w' W.heap.size u (L.filter (selT t)) ∧ Below W.heap.size W w' := by
  obtain ⟨i0, hI, hZ0, hZ1, hZ2⟩ := info_parts Try.info50
  have HF := Lib.hid h
  have HR : Hid (RowS W v L) := Lib.hid h.own.rowS
  have hlen := h.good.2.2
  obtain ⟨a, n, cap, rfl, hn, hc1, hc2, hcell⟩ := HR.out
  have HN := Lib.hid hn
  have hn2 : n ≤ 2000 := by omega
  have HC := Lib.hid hcell
  clear h hcell hn hlen
  go_enter Try.func40, Try.ntmps40
  go_wp2_with fail
  go_loopw [5, 6] (fun v i wr => ∃ k : Nat, k ≤ n ∧ i = .int .i64 k ∧ Hid (OwnR wr W.heap.size v ((L.take k).filter (selT t))) ∧ Hid (Below W.heap.size W wr)) (fun v i _ => n - (intOf i).toNat)
  case atStart => exact ⟨0, by omega, rfl, Lib.hid (OwnR.nil _ _), Lib.hid (Below.refl _ _)⟩
  case round =>
    obtain ⟨k, hk, rfl, HO, HB⟩ := hrel
    obtain ⟨v, hvv⟩ : ∃ v, v = u5 := ⟨_, rfl⟩
    subst hvv
    obtain ⟨c0, c1, _, _⟩ := (HF.out.below HB.out).cells
    by_cases hlt : k < n
    · obtain ⟨vb, vo, rfl, hvb, hcs⟩ := HC.out (by omega)
      have HRm := (hcs k hlt).below hvb HB.out
      have Htk : Hid (L.take (k + 1) = L.take k ++ [L.getD k rowZ]) := Lib.hid (take_snoc' (by rw [← HN.out]; exact hlt))
      clear hcs
      obtain ⟨⟨rt, rk, ⟨ra, rb, rc⟩⟩, Hr⟩ : ∃ r, Hid (L.getD k rowZ = r) := ⟨_, Lib.hid rfl⟩
      rw [Hr.out] at HRm Htk
      obtain ⟨y0, y1, y2, y3, y4⟩ := HRm.cells
      simp only at y0 y1 y2 y3 y4
      clear HRm
      have hlt' := HF.out.lt
      have hbr : b < wr.heap.size := Nat.lt_of_lt_of_le hlt' HB.out.size
      have hvr : vb < wr.heap.size := Nat.lt_of_lt_of_le hvb HB.out.size
      have hfl : ((L.take k).filter (selT t)).length ≤ 2000 := Nat.le_trans (List.length_filter_le _ _) (by rw [List.length_take]; omega)
      by_cases g : rt = t
      · have d1 : (rt == t) = true := by simp [g]
        have Hs : Hid ((L.take (k + 1)).filter (selT t) = (L.take k).filter (selT t) ++ [⟨rt, rk, ⟨ra, rb, rc⟩⟩]) := Lib.hid (by
          rw [Htk.out, List.filter_append, List.filter_cons_of_pos (by simp [selT, g]), List.filter_nil])
        obtain ⟨M, HM⟩ : ∃ M, Hid ((L.take k).filter (selT t) = M) := ⟨_, Lib.hid rfl⟩
        rw [HM.out] at HO Hs hfl
        have HO2 : Hid (wr.ownsRow W.heap.size 50 5 v M.length (flat M)) := Lib.hid HO.out
        clear g
        go_wp2_with (at_builtin; refine wpList_append_own _ rfl _ _ 36 rfl W.heap.size 50 i0 (.agg #[.int .i64 0, .int .i64 0, .int .i64 0, .int .i64 0, .int .i64 0]) 5 40 Try.underlying36 hI hZ0 hZ1 hZ2 rfl (by decide) _ _ _ rfl (HO2.out.alloc _) ⟨wr.heap.size, 0, none⟩ 1 1 [.int .i64 rt, .int .i64 rk, .int .i64 ra, .int .i64 rb, .int .i64 rc] rfl rfl (World.news_of_block (cs := #[.int .i64 rt, .int .i64 rk, .int .i64 ra, .int .i64 rb, .int .i64 rc]) (t := 50) (fr := (0, 0)) (heap_alloc_new wr _)) (by simp [Value.oneCell']) (by unfold maxLen; omega) (by omega) (by have := HB.out.size; simp; omega) ?_; intro v' w3 hown' hgrow _)
        have HOn : Hid (OwnR w3 W.heap.size v' ((L.take (k + 1)).filter (selT t))) := Lib.hid (by rw [Hs.out]; exact own_snoc hown')
        have HBn : Hid (Below W.heap.size W w3) := Lib.hid (below_of_append HB.out HO2.out (Nat.le_refl _) HB.out.size hgrow)
        clear hown' hgrow
        go_wp2_with fail
        exact ⟨⟨k + 1, by omega, by go_num, HOn, HBn⟩, by simp [intOf]; omega⟩
      · have d1 : (rt == t) = false := by simp [g]
        have Hs : Hid ((L.take (k + 1)).filter (selT t) = (L.take k).filter (selT t)) := Lib.hid (by
          rw [Htk.out, List.filter_append, List.filter_cons_of_neg (by simp [selT, g]), List.filter_nil, List.append_nil])
        clear g
        go_wp2_with fail
        exact ⟨⟨k + 1, by omega, by go_num, by rw [Hs.out]; exact HO, HB⟩, by simp [intOf]; omega⟩
    · obtain rfl : k = n := by omega
      have HOn : Hid (OwnR wr W.heap.size v (L.filter (selT t))) := Lib.hid (by have := HO.out; rwa [HN.out, List.take_length] at this)
      go_wp2_with fail
      go_ret
      exact ⟨v, rfl, HOn.out, HB.out⟩
end Go.Proofs.Ytaapggeaoacikaa
