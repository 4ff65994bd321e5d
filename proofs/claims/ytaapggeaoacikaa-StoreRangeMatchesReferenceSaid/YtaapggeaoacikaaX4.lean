/- WALKS: SameRows. -/
import Derived.Test.YtaapggeaoacikaaX3
import Derived.Deep.QuietTactic
import Derived.BigQuiet
set_option linter.unusedVariables false
set_option linter.unusedSimpArgs false
namespace Go.Proofs.Ytaapggeaoacikaa
open Go.RowKit Go.Sort Go.ChangeMaps Go.MapKept

theorem below_drewN (w : World) (d : Nat) : Below w.heap.size w (w.drewN d) := ⟨rfl, rfl, rfl, Nat.le_refl _, fun _ _ => rfl⟩
theorem ret_dec {p : Prop} [Decidable p] {W w' : World} (b : Bool) (h : p ↔ b = true) (hb : Below W.heap.size W w') : Ending.returned (.bool b) = .returned (.bool (decide p)) ∧ Below W.heap.size W w' :=
  ⟨by rw [show decide p = b by cases b <;> simp_all], hb⟩

set_option maxRecDepth 100000 in
set_option maxHeartbeats 4000000 in
theorem sameRows_any {W : World} {u v : Value} {M N : List MRow} (h : RowS W u M) (h' : RowS W v N) :
    Calls Try.prog 23 #[u, v] W fun e w' => e = .returned (.bool (decide (M = N))) ∧ Below W.heap.size W w' := by
  obtain ⟨a, n, cap, rfl, hn, hc1, hc2, hcell⟩ := h
  obtain ⟨a', n', cap', rfl, hn', hc1', hc2', hcell'⟩ := h'
  have HC := Lib.hid hcell
  have HC' := Lib.hid hcell'
  clear hcell hcell'
  by_cases hlen : n = n'
  · subst hlen
    have HN := Lib.hid hn
    have HN' := Lib.hid hn'
    have hn63 : n ≤ 9223372036854775807 := by omega
    clear hn hn'
    go_enter Try.func23, Try.ntmps23
    go_wp2_with fail
    go_loopw [5] (fun i wr => ∃ k : Nat, k ≤ n ∧ i = .int .i64 k ∧ Hid (M.take k = N.take k) ∧ Hid (Below W.heap.size W wr)) (fun i _ => n - (intOf i).toNat)
    case atStart => exact ⟨0, by omega, rfl, Lib.hid rfl, Lib.hid (Below.refl _ _)⟩
    case round =>
      obtain ⟨k, hk, rfl, HE, HB⟩ := hrel
      by_cases hlt : k < n
      · obtain ⟨vb, vo, rfl, hvb, hcs⟩ := HC.out (by omega)
        obtain ⟨vb', vo', rfl, hvb', hcs'⟩ := HC'.out (by omega)
        have HR1 := (hcs k hlt).below hvb HB.out
        have HR2 := (hcs' k hlt).below hvb' HB.out
        have Ht1 : Hid (M.take (k + 1) = M.take k ++ [M.getD k rowZ]) := Lib.hid (take_snoc' (by rw [← HN.out]; exact hlt))
        have Ht2 : Hid (N.take (k + 1) = N.take k ++ [N.getD k rowZ]) := Lib.hid (take_snoc' (by rw [← HN'.out]; exact hlt))
        clear hcs hcs'
        obtain ⟨⟨rt, rk, ⟨ra, rb, rc⟩⟩, Hr⟩ : ∃ r, Hid (M.getD k rowZ = r) := ⟨_, Lib.hid rfl⟩
        obtain ⟨⟨st, sk, ⟨sa, sb, sc⟩⟩, Hs⟩ : ∃ r, Hid (N.getD k rowZ = r) := ⟨_, Lib.hid rfl⟩
        rw [Hr.out] at HR1 Ht1
        rw [Hs.out] at HR2 Ht2
        obtain ⟨y0, y1, y2, y3, y4⟩ := HR1.cells
        obtain ⟨z0, z1, z2, z3, z4⟩ := HR2.cells
        simp only at y0 y1 y2 y3 y4 z0 z1 z2 z3 z4
        clear HR1 HR2
        have hki : (k : Int) < n := by omega
        have hne := fun w => neqRow rt rk ra rb rc st sk sa sb sc w
        by_cases g : (⟨rt, rk, ⟨ra, rb, rc⟩⟩ : MRow) = ⟨st, sk, ⟨sa, sb, sc⟩⟩
        · have d1 : rowE ⟨rt, rk, ⟨ra, rb, rc⟩⟩ ⟨st, sk, ⟨sa, sb, sc⟩⟩ = true := by rw [rowE]; simpa using g
          have HEn : Hid (M.take (k + 1) = N.take (k + 1)) := Lib.hid (by rw [Ht1.out, Ht2.out, HE.out, g])
          simp only [d1, Bool.not_true] at hne
          clear g d1
          go_wp2_with fail
          go_quiet (fail)
          have HB2 := Lib.hid (bt HB.out (below_drewN wr nq))
          go_wp2_with fail
          exact ⟨⟨k + 1, by omega, by go_num, HEn, HB2⟩, by simp [intOf]; omega⟩
        · have d1 : rowE ⟨rt, rk, ⟨ra, rb, rc⟩⟩ ⟨st, sk, ⟨sa, sb, sc⟩⟩ = false := by rw [rowE]; simpa using g
          have HEn : Hid (¬ M = N) := Lib.hid (fun e => g (by rw [← Hr.out, ← Hs.out, e]))
          simp only [d1, Bool.not_false] at hne
          clear g d1
          go_wp2_with fail
          go_quiet (fail)
          have HB2 := Lib.hid (bt HB.out (below_drewN wr nq))
          go_wp2_with fail
          go_ret
          exact ret_dec false (by simp [HEn.out]) HB2.out
      · obtain rfl : k = n := by omega
        have HEn : Hid (M = N) := Lib.hid (by
          have := HE.out
          rwa [HN.out, List.take_length, ← HN.out, HN'.out, List.take_length] at this)
        go_wp2_with fail
        go_ret
        exact ret_dec true (by simp [HEn.out]) HB.out
  · have HE : Hid (¬ M = N) := Lib.hid (fun e => hlen (by rw [hn, hn', e]))
    have d1 : ((n : Int) != (n' : Int)) = true := by simp; omega
    clear hn hn' hlen
    go_enter Try.func23, Try.ntmps23
    go_wp2_with fail
    go_ret
    exact ret_dec false (by simp [HE.out]) (Below.refl _ _)
end Go.Proofs.Ytaapggeaoacikaa
