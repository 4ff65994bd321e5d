/- MERGED: EP, ES, EQ, EQ2, EC. -/
import Derived.Test.YtcffofjialihaaaA6
import Derived.Test.YtcffofjialihaaaA4
import Derived.Test.YtcffofjialihaaaA5
import Derived.Test.YtcffofjialihaaaA3
import Derived.Deep.Cut
import Derived.Deep.DeepCutAuto
import Derived.Deep.CutRange
section
set_option linter.unusedVariables false
set_option linter.unusedSimpArgs false
namespace Go.Proofs.Ytcffofjialihaaa
open Go.RowKit Go.Sort Go.ChangeMaps Go.MapKept

set_option maxRecDepth 100000 in
set_option maxHeartbeats 1000000 in
theorem pick6_any (c n : Int) (W : World) (hc : I64 c) (hn : 1 ≤ n) (hn2 : n ≤ 1000000) : Calls Try.prog 29 #[.int .i64 c, .int .i64 n] W fun e w' => e = .returned (.int .i64 (pk c n)) ∧ W = w' := by
  unfold I64 at hc
  have hn0 : (n == 0) = false := by simp; omega
  by_cases h : c < 0
  · have d1 : decide (c < 0) = true := decide_eq_true h
    have hp : pk c n = (-(c + 1)) % n := by unfold pk; rw [if_pos h]
    rw [hp]
    have ht : Int.tmod (-(c + 1)) n = (-(c + 1)) % n := Int.tmod_eq_emod_of_nonneg (by omega)
    have h3 := Int.emod_nonneg (-(c + 1)) (show n ≠ 0 by omega)
    have h4 := Int.emod_lt_of_pos (-(c + 1)) (show 0 < n by omega)
    go_enter Try.func29, Try.ntmps29
    go_wp2_with fail
    go_ret
    exact ⟨rfl, rfl⟩
  · have d1 : decide (c < 0) = false := decide_eq_false h
    have hp : pk c n = c % n := by unfold pk; rw [if_neg h]
    rw [hp]
    have ht : Int.tmod c n = c % n := Int.tmod_eq_emod_of_nonneg (by omega)
    have h3 := Int.emod_nonneg c (show n ≠ 0 by omega)
    have h4 := Int.emod_lt_of_pos c (show 0 < n by omega)
    go_enter Try.func29, Try.ntmps29
    go_wp2_with fail
    go_ret
    exact ⟨rfl, rfl⟩
set_option maxRecDepth 100000 in
set_option maxHeartbeats 1000000 in
theorem pick7_any (c n : Int) (W : World) (hc : I64 c) (hn : 1 ≤ n) (hn2 : n ≤ 1000000) : Calls Try.prog 81 #[.int .i64 c, .int .i64 n] W fun e w' => e = .returned (.int .i64 (pk c n)) ∧ W = w' := by
  unfold I64 at hc
  have hn0 : (n == 0) = false := by simp; omega
  by_cases h : c < 0
  · have d1 : decide (c < 0) = true := decide_eq_true h
    have hp : pk c n = (-(c + 1)) % n := by unfold pk; rw [if_pos h]
    rw [hp]
    have ht : Int.tmod (-(c + 1)) n = (-(c + 1)) % n := Int.tmod_eq_emod_of_nonneg (by omega)
    have h3 := Int.emod_nonneg (-(c + 1)) (show n ≠ 0 by omega)
    have h4 := Int.emod_lt_of_pos (-(c + 1)) (show 0 < n by omega)
    go_enter Try.func81, Try.ntmps81
    go_wp2_with fail
    go_ret
    exact ⟨rfl, rfl⟩
  · have d1 : decide (c < 0) = false := decide_eq_false h
    have hp : pk c n = c % n := by unfold pk; rw [if_neg h]
    rw [hp]
    have ht : Int.tmod c n = c % n := Int.tmod_eq_emod_of_nonneg (by omega)
    have h3 := Int.emod_nonneg c (show n ≠ 0 by omega)
    have h4 := Int.emod_lt_of_pos c (show 0 < n by omega)
    go_enter Try.func81, Try.ntmps81
    go_wp2_with fail
    go_ret
    exact ⟨rfl, rfl⟩
set_option maxRecDepth 100000 in
set_option maxHeartbeats 4000000 in
theorem sameRows3_any {W : World} {u v : Value} {M N : List MRow} (h : RowS W u M) (h' : RowS W v N) :
    Calls Try.prog 31 #[u, v] W fun e w' => e = .returned (.bool (decide (M = N))) ∧ Below W.heap.size W w' := by
  obtain ⟨a, n, cap, rfl, hn, hc1, hc2, hcell⟩ := h
  obtain ⟨a', n', cap', rfl, hn', hc1', hc2', hcell'⟩ := h'
  have HC := Lib.hid hcell
  have HC' := Lib.hid hcell'
  clear hcell hcell'
  by_cases hlen : n = n'
  · subst hlen
    have HN := Lib.hid hn
    have HN' := Lib.hid hn'
    have hn63 : n ≤ 9223372036854775807 := by omega
    clear hn hn'
    go_enter Try.func31, Try.ntmps31
    go_wp2_with fail
    go_loopw [5] (fun i wr => ∃ k : Nat, k ≤ n ∧ i = .int .i64 k ∧ Hid (M.take k = N.take k) ∧ Hid (Below W.heap.size W wr)) (fun i _ => n - (intOf i).toNat)
    case atStart => exact ⟨0, by omega, rfl, Lib.hid rfl, Lib.hid (Below.refl _ _)⟩
    case round =>
      obtain ⟨k, hk, rfl, HE, HB⟩ := hrel
      by_cases hlt : k < n
      · obtain ⟨vb, vo, rfl, hvb, hcs⟩ := HC.out (by omega)
        obtain ⟨vb', vo', rfl, hvb', hcs'⟩ := HC'.out (by omega)
        have HR1 := (hcs k hlt).below hvb HB.out
        have HR2 := (hcs' k hlt).below hvb' HB.out
        have Ht1 : Hid (M.take (k + 1) = M.take k ++ [M.getD k rowZ]) := Lib.hid (take_snoc' (by rw [← HN.out]; exact hlt))
        have Ht2 : Hid (N.take (k + 1) = N.take k ++ [N.getD k rowZ]) := Lib.hid (take_snoc' (by rw [← HN'.out]; exact hlt))
        clear hcs hcs'
        obtain ⟨⟨rt, rk, ⟨ra, rb, rc⟩⟩, Hr⟩ : ∃ r, Hid (M.getD k rowZ = r) := ⟨_, Lib.hid rfl⟩
        obtain ⟨⟨st, sk, ⟨sa, sb, sc⟩⟩, Hs⟩ : ∃ r, Hid (N.getD k rowZ = r) := ⟨_, Lib.hid rfl⟩
        rw [Hr.out] at HR1 Ht1
        rw [Hs.out] at HR2 Ht2
        obtain ⟨y0, y1, y2, y3, y4⟩ := HR1.cells
        obtain ⟨z0, z1, z2, z3, z4⟩ := HR2.cells
        simp only at y0 y1 y2 y3 y4 z0 z1 z2 z3 z4
        clear HR1 HR2
        have hki : (k : Int) < n := by omega
        have hne := fun w => neqRow rt rk ra rb rc st sk sa sb sc w
        by_cases g : (⟨rt, rk, ⟨ra, rb, rc⟩⟩ : MRow) = ⟨st, sk, ⟨sa, sb, sc⟩⟩
        · have d1 : rowE ⟨rt, rk, ⟨ra, rb, rc⟩⟩ ⟨st, sk, ⟨sa, sb, sc⟩⟩ = true := by rw [rowE]; simpa using g
          have HEn : Hid (M.take (k + 1) = N.take (k + 1)) := Lib.hid (by rw [Ht1.out, Ht2.out, HE.out, g])
          simp only [d1, Bool.not_true] at hne
          clear g d1
          go_wp2_with fail
          go_quiet (fail)
          have HB2 := Lib.hid (bt HB.out (below_drewN wr nq))
          go_wp2_with fail
          exact ⟨⟨k + 1, by omega, by go_num, HEn, HB2⟩, by simp [intOf]; omega⟩
        · have d1 : rowE ⟨rt, rk, ⟨ra, rb, rc⟩⟩ ⟨st, sk, ⟨sa, sb, sc⟩⟩ = false := by rw [rowE]; simpa using g
          have HEn : Hid (¬ M = N) := Lib.hid (fun e => g (by rw [← Hr.out, ← Hs.out, e]))
          simp only [d1, Bool.not_false] at hne
          clear g d1
          go_wp2_with fail
          go_quiet (fail)
          have HB2 := Lib.hid (bt HB.out (below_drewN wr nq))
          go_wp2_with fail
          go_ret
          exact ret_dec false (by simp [HEn.out]) HB2.out
      · obtain rfl : k = n := by omega
        have HEn : Hid (M = N) := Lib.hid (by
          have := HE.out
          rwa [HN.out, List.take_length, ← HN.out, HN'.out, List.take_length] at this)
        go_wp2_with fail
        go_ret
        exact ret_dec true (by simp [HEn.out]) HB.out
  · have HE : Hid (¬ M = N) := Lib.hid (fun e => hlen (by rw [hn, hn', e]))
    have d1 : ((n : Int) != (n' : Int)) = true := by simp; omega
    clear hn hn' hlen
    go_enter Try.func31, Try.ntmps31
    go_wp2_with fail
    go_ret
    exact ret_dec false (by simp [HE.out]) (Below.refl _ _)
set_option maxRecDepth 100000 in
set_option maxHeartbeats 4000000 in
theorem equalRows_any {W : World} {u v : Value} {M N : List MRow} (h : RowS W u M) (h' : RowS W v N) :
    Calls Try.prog 68 #[u, v] W fun e w' => e = .returned (.bool (decide (M = N))) ∧ Below W.heap.size W w' := by
  obtain ⟨a, n, cap, rfl, hn, hc1, hc2, hcell⟩ := h
  obtain ⟨a', n', cap', rfl, hn', hc1', hc2', hcell'⟩ := h'
  have HC := Lib.hid hcell
  have HC' := Lib.hid hcell'
  clear hcell hcell'
  by_cases hlen : n = n'
  · subst hlen
    have HN := Lib.hid hn
    have HN' := Lib.hid hn'
    have hn63 : n ≤ 9223372036854775807 := by omega
    clear hn hn'
    go_enter Try.func68, Try.ntmps68
    go_wp2_with fail
    go_loopw [13, 5] (fun i _ wr => ∃ k : Nat, k ≤ n ∧ i = .int .i64 k ∧ Hid (M.take k = N.take k) ∧ Hid (Below W.heap.size W wr)) (fun i _ _ => n - (intOf i).toNat)
    case atStart => exact ⟨0, by omega, rfl, Lib.hid rfl, Lib.hid (Below.refl _ _)⟩
    case round =>
      obtain ⟨k, hk, rfl, HE, HB⟩ := hrel
      by_cases hlt : k < n
      · obtain ⟨vb, vo, rfl, hvb, hcs⟩ := HC.out (by omega)
        obtain ⟨vb', vo', rfl, hvb', hcs'⟩ := HC'.out (by omega)
        have HR1 := (hcs k hlt).below hvb HB.out
        have HR2 := (hcs' k hlt).below hvb' HB.out
        have Ht1 : Hid (M.take (k + 1) = M.take k ++ [M.getD k rowZ]) := Lib.hid (take_snoc' (by rw [← HN.out]; exact hlt))
        have Ht2 : Hid (N.take (k + 1) = N.take k ++ [N.getD k rowZ]) := Lib.hid (take_snoc' (by rw [← HN'.out]; exact hlt))
        clear hcs hcs'
        obtain ⟨⟨rt, rk, ⟨ra, rb, rc⟩⟩, Hr⟩ : ∃ r, Hid (M.getD k rowZ = r) := ⟨_, Lib.hid rfl⟩
        obtain ⟨⟨st, sk, ⟨sa, sb, sc⟩⟩, Hs⟩ : ∃ r, Hid (N.getD k rowZ = r) := ⟨_, Lib.hid rfl⟩
        rw [Hr.out] at HR1 Ht1
        rw [Hs.out] at HR2 Ht2
        obtain ⟨y0, y1, y2, y3, y4⟩ := HR1.cells
        obtain ⟨z0, z1, z2, z3, z4⟩ := HR2.cells
        simp only at y0 y1 y2 y3 y4 z0 z1 z2 z3 z4
        clear HR1 HR2
        have hki : (k : Int) < n := by omega
        have hne := fun w => neqRow rt rk ra rb rc st sk sa sb sc w
        by_cases g : (⟨rt, rk, ⟨ra, rb, rc⟩⟩ : MRow) = ⟨st, sk, ⟨sa, sb, sc⟩⟩
        · have d1 : rowE ⟨rt, rk, ⟨ra, rb, rc⟩⟩ ⟨st, sk, ⟨sa, sb, sc⟩⟩ = true := by rw [rowE]; simpa using g
          have HEn : Hid (M.take (k + 1) = N.take (k + 1)) := Lib.hid (by rw [Ht1.out, Ht2.out, HE.out, g])
          simp only [d1, Bool.not_true] at hne
          clear g d1
          go_wp2_with fail
          go_quiet (fail)
          have HB2 := Lib.hid (bt HB.out (below_drewN wr nq))
          go_wp2_with fail
          exact ⟨⟨k + 1, by omega, by go_num, HEn, HB2⟩, by simp [intOf]; omega⟩
        · have d1 : rowE ⟨rt, rk, ⟨ra, rb, rc⟩⟩ ⟨st, sk, ⟨sa, sb, sc⟩⟩ = false := by rw [rowE]; simpa using g
          have HEn : Hid (¬ M = N) := Lib.hid (fun e => g (by rw [← Hr.out, ← Hs.out, e]))
          simp only [d1, Bool.not_false] at hne
          clear g d1
          go_wp2_with fail
          go_quiet (fail)
          have HB2 := Lib.hid (bt HB.out (below_drewN wr nq))
          go_wp2_with fail
          go_ret
          exact ret_dec false (by simp [HEn.out]) HB2.out
      · obtain rfl : k = n := by omega
        have HEn : Hid (M = N) := Lib.hid (by
          have := HE.out
          rwa [HN.out, List.take_length, ← HN.out, HN'.out, List.take_length] at this)
        go_wp2_with fail
        go_ret
        exact ret_dec true (by simp [HEn.out]) HB.out
  · have HE : Hid (¬ M = N) := Lib.hid (fun e => hlen (by rw [hn, hn', e]))
    have d1 : ((n : Int) != (n' : Int)) = true := by simp; omega
    clear hn hn' hlen
    go_enter Try.func68, Try.ntmps68
    go_wp2_with fail
    go_ret
    exact ret_dec false (by simp [HE.out]) (Below.refl _ _)

set_option maxRecDepth 100000 in
theorem size_any {W : World} {u : Value} {M : List MRow} (h : RowS W u M) (v : Int) (f : Bool) (hl : M.length ≤ 100000) : Calls Try.prog 21 #[resV u v f] W fun e w' => e = .returned (.int .i64 (1 + M.length)) ∧ Below W.heap.size W w' := by
  obtain ⟨a, n, cap, rfl, hn, _, _, _⟩ := h
  rw [← hn]
  have hn2 : n ≤ 100000 := by omega
  clear hn hl
  unfold resV
  go_enter Try.func21, Try.ntmps21
  go_wp2_with fail
  have hw : wrap64 (1 + (n : Int)) = 1 + (n : Int) := by unfold wrap64; omega
  first
    | (go_ret; exact ⟨rfl, ba W _⟩)
    | (go_ret; exact ⟨by simp [hw], ba W _⟩)

set_option maxRecDepth 100000 in
theorem sizeR_any {W : World} {u : Value} {M : List MRow} (h : RowS W u M) (v : Int) (f : Bool) (hl : M.length ≤ 100000) : Calls Try.prog 22 #[resV u v f] W fun e w' => e = .returned (.int .i64 (1 + M.length)) ∧ Below W.heap.size W w' := by
  obtain ⟨a, n, cap, rfl, hn, _, _, _⟩ := h
  rw [← hn]
  have hn2 : n ≤ 100000 := by omega
  clear hn hl
  unfold resV
  go_enter Try.func22, Try.ntmps22
  go_wp2_with fail
  have hw : wrap64 (1 + (n : Int)) = 1 + (n : Int) := by unfold wrap64; omega
  first
    | (go_ret; exact ⟨rfl, ba W _⟩)
    | (go_ret; exact ⟨by simp [hw], ba W _⟩)

set_option maxRecDepth 100000 in
set_option maxHeartbeats 2000000 in
theorem put_any (t k a b c : Int) (W : World) : Calls Try.prog 56 #[.int .i64 t, .int .i64 k, .int .i64 a, .int .i64 b, .int .i64 c] W fun e w' => e = .returned (chV ⟨t, k, false, ⟨0, 0, 0⟩, true, ⟨a, b, c⟩⟩) ∧ Below W.heap.size W w' := by
  have HX : Hid ((W.alloc (.cells (chCells chZ) 58)).heap[W.heap.size]? = some (.cells (chCells chZ) 58 (0, 0))) := Lib.hid (heap_alloc_new W _)
  go_enter Try.func56, Try.ntmps56
  go_wp2_with fail
  exact bodyPost_ret (v := chV ⟨t, k, false, ⟨0, 0, 0⟩, true, ⟨a, b, c⟩⟩) (results_cell_row rfl _ _ W.heap.size 58 _ (0, 0) _ rfl (heap_alloc_new W _) Try.underlying58 rfl (by kernel_rfl)) rfl ⟨rfl, ba _ _⟩

set_option maxRecDepth 100000 in
set_option maxHeartbeats 4000000 in
theorem evSame_any {W : World} {u v : Value} {M N : List MRow} (h : RowS W u M) (h' : RowS W v N) (x y : Int) (f g : Bool) : Calls Try.prog 20 #[resV u x f, resV v y g] W fun e w' => e = .returned (.bool (decide (x = y ∧ f = g ∧ M = N))) ∧ Below W.heap.size W w' := by
  have H1 := Lib.hid h
  have H2 := Lib.hid h'
  have HC := Lib.hid (fun w (hb : Below W.heap.size W w) => equalRows_any (H1.out.below hb) (H2.out.below hb))
  obtain ⟨a, n, cap, rfl, -, -, -, -⟩ := h
  obtain ⟨a', n', cap', rfl, -, -, -, -⟩ := h'
  obtain ⟨e, He⟩ : ∃ x, Hid (decide (M = N) = x) := ⟨_, Lib.hid rfl⟩
  simp only [He.out] at HC
  have HA : Hid (Below W.heap.size W ((W.alloc (.cells #[.slice a n cap, .int .i64 x, .bool f] 27)).alloc (.cells #[.slice a' n' cap', .int .i64 y, .bool g] 27))) := Lib.hid (bt (ba W _) (ba _ _))
  unfold resV
  by_cases hx : x = y
  · have gx : (x == y) = true := by simp [hx]
    by_cases hf : f = g
    · have gf : (f == g) = true := by simp [hf]
      have HE : Hid (decide (x = y ∧ f = g ∧ M = N) = e) := Lib.hid (by rw [← He.out]; simp [hx, hf])
      rw [HE.out]
      clear hx hf
      go_enter Try.func20, Try.ntmps20
      go_wp2_with fail
      (with_reducible refine (HC.out _ HA.out).mono ?_)
      rintro e w1 ⟨rfl, hb⟩
      have HB := Lib.hid (bt HA.out hb)
      clear hb
      go_wp2_with fail
      go_ret
      exact ⟨rfl, HB.out⟩
    · have gf : (f == g) = false := by simp [hf]
      have HE : Hid (decide (x = y ∧ f = g ∧ M = N) = false) := Lib.hid (by simp [hf])
      rw [HE.out]
      clear hx hf
      go_enter Try.func20, Try.ntmps20
      go_wp2_with fail
      go_ret
      exact ⟨rfl, HA.out⟩
  · have gx : (x == y) = false := by simp [hx]
    have HE : Hid (decide (x = y ∧ f = g ∧ M = N) = false) := Lib.hid (by simp [hx])
    rw [HE.out]
    clear hx
    go_enter Try.func20, Try.ntmps20
    go_wp2_with fail
    go_ret
    exact ⟨rfl, HA.out⟩

set_option maxRecDepth 100000 in
set_option maxHeartbeats 4000000 in
theorem rfSame_any {W : World} {u v : Value} {M N : List MRow} (h : RowS W u M) (h' : RowS W v N) (x y : Int) (f g : Bool) : Calls Try.prog 19 #[resV u x f, resV v y g] W fun e w' => e = .returned (.bool (decide (x = y ∧ f = g ∧ M = N))) ∧ Below W.heap.size W w' := by
  have H1 := Lib.hid h
  have H2 := Lib.hid h'
  have HC := Lib.hid (fun w (hb : Below W.heap.size W w) => sameRows3_any (H1.out.below hb) (H2.out.below hb))
  obtain ⟨a, n, cap, rfl, -, -, -, -⟩ := h
  obtain ⟨a', n', cap', rfl, -, -, -, -⟩ := h'
  obtain ⟨e, He⟩ : ∃ x, Hid (decide (M = N) = x) := ⟨_, Lib.hid rfl⟩
  simp only [He.out] at HC
  have HA : Hid (Below W.heap.size W ((W.alloc (.cells #[.slice a n cap, .int .i64 x, .bool f] 27)).alloc (.cells #[.slice a' n' cap', .int .i64 y, .bool g] 27))) := Lib.hid (bt (ba W _) (ba _ _))
  unfold resV
  have HK : Hid (∀ w, Below ((W.alloc (.cells #[.slice a n cap, .int .i64 x, .bool f] 27)).alloc (.cells #[.slice a' n' cap', .int .i64 y, .bool g] 27)).heap.size ((W.alloc (.cells #[.slice a n cap, .int .i64 x, .bool f] 27)).alloc (.cells #[.slice a' n' cap', .int .i64 y, .bool g] 27)) w → w.cell? ⟨W.heap.size, 1, none⟩ = some (.int .i64 x) ∧ w.cell? ⟨W.heap.size + 1, 1, none⟩ = some (.int .i64 y) ∧ w.cell? ⟨W.heap.size, 2, none⟩ = some (.bool f) ∧ w.cell? ⟨W.heap.size + 1, 2, none⟩ = some (.bool g)) := Lib.hid (fun w hb =>
    ⟨(hb.cell (p := ⟨W.heap.size, 1, none⟩) (by simp; omega)).trans (by simp [go_sem]), (hb.cell (p := ⟨W.heap.size + 1, 1, none⟩) (by simp)).trans (by simp [go_sem]), (hb.cell (p := ⟨W.heap.size, 2, none⟩) (by simp; omega)).trans (by simp [go_sem]), (hb.cell (p := ⟨W.heap.size + 1, 2, none⟩) (by simp)).trans (by simp [go_sem])⟩)
  cases e
  · have HE : Hid (decide (x = y ∧ f = g ∧ M = N) = false) := Lib.hid (by have h := He.out; simp only [decide_eq_false_iff_not] at h; simp [h])
    rw [HE.out]
    go_enter Try.func19, Try.ntmps19
    go_wp2_with fail
    (with_reducible refine (HC.out _ HA.out).mono ?_)
    rintro e w1 ⟨rfl, hb⟩
    obtain ⟨k0, k1, k2, k3⟩ := HK.out _ hb
    have HB := Lib.hid (bt HA.out hb)
    clear hb
    go_wp2_with fail
    go_ret
    exact ⟨rfl, HB.out⟩
  · have HMN : Hid (M = N) := Lib.hid (of_decide_eq_true He.out)
    by_cases hx : x = y
    · have gx : (x == y) = true := by simp [hx]
      by_cases hf : f = g
      · have gf : (f == g) = true := by simp [hf]
        have HE : Hid (decide (x = y ∧ f = g ∧ M = N) = true) := Lib.hid (by simp [hx, hf, HMN.out])
        rw [HE.out]
        clear hx hf
        go_enter Try.func19, Try.ntmps19
        go_wp2_with fail
        (with_reducible refine (HC.out _ HA.out).mono ?_)
        rintro e w1 ⟨rfl, hb⟩
        obtain ⟨k0, k1, k2, k3⟩ := HK.out _ hb
        have HB := Lib.hid (bt HA.out hb)
        clear hb
        go_wp2_with fail
        go_ret
        exact ⟨rfl, HB.out⟩
      · have gf : (f == g) = false := by simp [hf]
        have HE : Hid (decide (x = y ∧ f = g ∧ M = N) = false) := Lib.hid (by simp [hf])
        rw [HE.out]
        clear hx hf
        go_enter Try.func19, Try.ntmps19
        go_wp2_with fail
        (with_reducible refine (HC.out _ HA.out).mono ?_)
        rintro e w1 ⟨rfl, hb⟩
        obtain ⟨k0, k1, k2, k3⟩ := HK.out _ hb
        have HB := Lib.hid (bt HA.out hb)
        clear hb
        go_wp2_with fail
        go_ret
        exact ⟨rfl, HB.out⟩
    · have gx : (x == y) = false := by simp [hx]
      have HE : Hid (decide (x = y ∧ f = g ∧ M = N) = false) := Lib.hid (by simp [hx])
      rw [HE.out]
      clear hx
      go_enter Try.func19, Try.ntmps19
      go_wp2_with fail
      (with_reducible refine (HC.out _ HA.out).mono ?_)
      rintro e w1 ⟨rfl, hb⟩
      obtain ⟨k0, k1, k2, k3⟩ := HK.out _ hb
      have HB := Lib.hid (bt HA.out hb)
      clear hb
      go_wp2_with fail
      go_ret
      exact ⟨rfl, HB.out⟩
end Go.Proofs.Ytcffofjialihaaa
end

section
set_option linter.unusedVariables false
set_option linter.unusedSimpArgs false
namespace Go.Proofs.Ytcffofjialihaaa
open Go.RowKit Go.Sort Go.ChangeMaps Go.MapKept

def eC : List MCh := [⟨0, 5, false, ⟨0, 0, 0⟩, true, ⟨10, 2, 7⟩⟩, ⟨0, 6, false, ⟨0, 0, 0⟩, true, ⟨10, 9, 7⟩⟩, ⟨0, 7, false, ⟨0, 0, 0⟩, true, ⟨12, 1, 8⟩⟩, ⟨1, 2, false, ⟨0, 0, 0⟩, true, ⟨30, 31, 32⟩⟩, ⟨1, 9, false, ⟨0, 0, 0⟩, true, ⟨40, 41, 42⟩⟩]
def eM : List MRow := [⟨0, 5, ⟨10, 2, 7⟩⟩, ⟨0, 6, ⟨10, 9, 7⟩⟩, ⟨0, 7, ⟨12, 1, 8⟩⟩, ⟨1, 2, ⟨30, 31, 32⟩⟩, ⟨1, 9, ⟨40, 41, 42⟩⟩]
def eR : List MRec := [⟨1, eC⟩]
theorem eR_chn : Chn eR := by
  intro i hi
  match i, hi with
  | 0, _ => decide
theorem eR_1 : rowsOf (eR.take 1) = eM := by decide
theorem own_block {w : World} {b : Nat} {C : List MCh} {cur : Array Value} (h : w.heap[b]? = some (.cells cur 58 (0, 0))) (hc : cur.toList = flatC C) (hl : C.length ≤ 1000) : OwnC w b (.slice (some ⟨b, 0, none⟩) C.length C.length) C := by
  have hs : cur.size = C.length * 10 := by rw [← Array.length_toList, hc, flatC_len]
  exact ⟨by rw [flatC_len], .inr ⟨b, C.length, cur, rfl, Nat.le_refl _, h, Nat.le_refl _, by unfold maxLen; omega, hs, by rw [hc, List.take_of_length_le (by rw [flatC_len]; omega)]⟩⟩
theorem eRec_any {W : World} {g : Nat} {cur : Array Value} (h : W.heap[g]? = some (.cells cur 58 (0, 0))) (hc : cur.toList = flatC eC) (h2 : W.heap[g + 1]? = some (.cells #[.int .i64 1, .slice (some ⟨g, 0, none⟩) 5 5] 61 (0, 0))) : RecS W (.slice (some ⟨g + 1, 0, none⟩) 1 1) eR := by
  refine ⟨_, 1, 1, rfl, rfl, Nat.le_refl _, by omega, fun _ => ⟨g + 1, 0, rfl, lt_of_block h2, fun i hi => ?_⟩⟩
  obtain rfl : i = 0 := by omega
  exact ⟨by simp [World.cell?, h2, eR], _, by simp [World.cell?, h2]; rfl, (own_block h hc (by decide)).chS⟩
theorem sortOf_mk {L N : List MRow} {sel : MRow → Bool} {col : Int} (h1 : L.filter sel = N) (h2 : N.Pairwise (rle col)) : SortOf L sel col N := ⟨by rw [h1], h2⟩
instance (col : Int) (x y : MRow) : Decidable (rle col x y) := by unfold rle; infer_instance
/-- Of, where the scan is known. -/
theorem ofS_any {W : World} {b : Nat} {m : Option Nat} {L : List MRow} {p : Int} (hS : StAt W b m L p) {q : MQ} (hv : validB q = true) {N rows : List MRow} {v : Int} {f : Bool} (hN : SortOf L (selR q.table q.column q.low q.high) q.column N) (hr : resM q N (L.filter (selT q.other)) = ⟨rows, v, f⟩) :
    Calls Try.prog 26 #[ptr b, qV q] W fun e w' => ∃ a n c, e = .returned (.tuple #[resV (.slice a n c) v f, .int .i64 0]) ∧ OwnR w' W.heap.size (.slice a n c) rows ∧ Below W.heap.size W w' := by
  refine (of_any hS hv).mono fun e w' hw => ?_
  obtain ⟨u, M, he, ho, hs, hb⟩ := hw
  obtain rfl : M = N := sortOf_unique hS.good.1 (fun r hr' => selR_t r hr') hs hN
  rw [hr] at he ho
  obtain ⟨a, n, c, rfl⟩ := ho.form
  exact ⟨a, n, c, he, ho, hb⟩
abbrev qC (q : MQ) : Array Value := #[.int .i64 q.kind, .int .i64 q.table, .int .i64 q.column, .int .i64 q.low, .int .i64 q.high, .int .i64 q.by_, .int .i64 q.other]
theorem qAt_of {w : World} {b : Nat} {q : MQ} (h : w.heap[b]? = some (.cells (qC q) 23 (0, 0))) : QAt w b q := by
  constructor <;> simp [World.cell?, h]
/-- What sane has at hand: a state, a query in a variable, results in variables. -/
structure SEv (w0 w : World) (b1 : Nat) (m1 : Option Nat) (qb : Nat) (q : MQ) (A : List (Nat × Value × Int × Bool)) (B : List (Value × List MRow)) : Prop where
  st : StAt w b1 m1 eM 1
  nb : qb ≠ b1
  nm : m1 ≠ some qb
  qblk : w.heap[qb]? = some (.cells (qC q) 23 (0, 0))
  res : ∀ x ∈ A, w.heap[x.1]? = some (.cells (resC x.2.1 x.2.2.1 x.2.2.2) 27 (0, 0)) ∧ x.1 ≠ qb
  rows : ∀ x ∈ B, OwnR w (qb + 1) x.1 x.2
  old : Below w0.heap.size w0 w
  ge : w0.heap.size ≤ qb
section
variable {w0 w w' : World} {b1 qb : Nat} {m1 : Option Nat} {q : MQ} {A : List (Nat × Value × Int × Bool)} {B : List (Value × List MRow)}
theorem SEv.below (h : SEv w0 w b1 m1 qb q A B) (k : Below w.heap.size w w') : SEv w0 w' b1 m1 qb q A B :=
  ⟨h.st.below k, h.nb, h.nm, (k.block _ (lt_of_block h.qblk)).trans h.qblk, fun x hx => ⟨(k.block _ (lt_of_block (h.res x hx).1)).trans (h.res x hx).1, (h.res x hx).2⟩, fun x hx => (h.rows x hx).below k, bt h.old k, h.ge⟩
theorem SEv.set (h : SEv w0 w b1 m1 qb q A B) {j : Nat} {u : Value} {q' : MQ} (hq : (qC q).setIfInBounds j u = qC q') : SEv w0 (w.setCell ⟨qb, j, none⟩ u) b1 m1 qb q' A B := by
  have k : Kept (fun i => i = qb) w (w.setCell ⟨qb, j, none⟩ u) := Kept.setCell (F := fun i => i = qb) (p := ⟨qb, j, none⟩) (Kept.refl _ _) (.inl rfl) u
  refine ⟨h.st.kept k (fun i hf e => ?_), h.nb, h.nm, by rw [setC_heap h.qblk j u, hq], fun x hx => ⟨(k.block _ (lt_of_block (h.res x hx).1) (h.res x hx).2).trans (h.res x hx).1, (h.res x hx).2⟩, fun x hx => (h.rows x hx).kept k (fun i hi e => by omega), h.old.trans (k.below h.old.size (fun i e => by have := h.ge; omega)), h.ge⟩
  subst e
  rcases hf with e | e
  · exact h.nb e
  · exact h.nm e
theorem SEv.res' (h : SEv w0 w b1 m1 qb q A B) (a : Option Addr) (n c : Nat) (v : Int) (f : Bool) (M : List MRow) (hO : OwnR w (qb + 1) (.slice a n c) M) : SEv w0 (w.alloc (.cells (resC (.slice a n c) v f) 27)) b1 m1 qb q ((w.heap.size, .slice a n c, v, f) :: A) ((.slice a n c, M) :: B) := by
  have h' := h.below (ba w (.cells (resC (.slice a n c) v f) 27))
  have hlt := lt_of_block h.qblk
  refine ⟨h'.st, h'.nb, h'.nm, h'.qblk, fun x hx => ?_, fun x hx => ?_, h'.old, h'.ge⟩
  · rcases List.mem_cons.1 hx with rfl | hx
    · exact ⟨heap_alloc_new w _, by simp only; omega⟩
    · exact h'.res x hx
  · rcases List.mem_cons.1 hx with rfl | hx
    · exact hO.below (ba w _)
    · exact h'.rows x hx
end
theorem rowS_form {w : World} {v : Value} {M : List MRow} (n : Nat) (h : RowS w v M) (hn : M.length = n) (h1 : 1 ≤ n) : ∃ g o cap, v = .slice (some ⟨g, o, none⟩) n cap ∧ g < w.heap.size ∧ ∀ i, i < n → RwO w g (o + i * 5) (M.getD i rowZ) := by
  obtain ⟨a, n', cap, rfl, hn', _, _, hc⟩ := h
  obtain ⟨g, o, rfl, hg, hcs⟩ := hc (by omega)
  obtain rfl : n' = n := by omega
  exact ⟨g, o, cap, rfl, hg, hcs⟩
theorem rowS_at {w : World} {g o n cap : Nat} {M : List MRow} (h : RowS w (.slice (some ⟨g, o, none⟩) n cap) M) (i : Nat) (hi : i < n) : RwO w g (o + i * 5) (M.getD i rowZ) := by
  obtain ⟨a, n', cap', e, hn', _, _, hc⟩ := h
  simp at e
  obtain ⟨rfl, rfl, rfl⟩ := e
  obtain ⟨g', o', e2, hg, hcs⟩ := hc (by omega)
  simp at e2
  obtain ⟨rfl, rfl⟩ := e2
  exact hcs i hi

set_option maxRecDepth 100000 in
set_option maxHeartbeats 8000000 in
theorem sane_any (W : World) : Calls Try.prog 15 #[] W fun e w' => e = .returned (.bool true) ∧ Below W.heap.size W w' := by
  go_enter Try.func15, Try.ntmps15
  go_wp2_with fail
  (with_reducible refine (put_any _ _ _ _ _ _).mono ?_)
  rintro e w1 ⟨rfl, hb⟩
  have HB1 : Hid (Below W.heap.size W w1) := Lib.hid (hb)
  clear hb
  go_wp2_with fail
  (with_reducible refine (put_any _ _ _ _ _ _).mono ?_)
  rintro e w2 ⟨rfl, hb⟩
  have HB2 : Hid (Below W.heap.size W w2) := Lib.hid (bt HB1.out hb)
  clear hb
  go_wp2_with fail
  (with_reducible refine (put_any _ _ _ _ _ _).mono ?_)
  rintro e w3 ⟨rfl, hb⟩
  have HB3 : Hid (Below W.heap.size W w3) := Lib.hid (bt HB2.out hb)
  clear hb
  go_wp2_with fail
  (with_reducible refine (put_any _ _ _ _ _ _).mono ?_)
  rintro e w4 ⟨rfl, hb⟩
  have HB4 : Hid (Below W.heap.size W w4) := Lib.hid (bt HB3.out hb)
  clear hb
  go_wp2_with fail
  (with_reducible refine (put_any _ _ _ _ _ _).mono ?_)
  rintro e w5 ⟨rfl, hb⟩
  have HB5 : Hid (Below W.heap.size W w5) := Lib.hid (bt HB4.out hb)
  clear hb
  go_wp2_with fail
  generalize hwc : (w5.alloc (.cells #[.int .i64 0, .int .i64 5, .bool false, .int .i64 0, .int .i64 0, .int .i64 0, .bool true, .int .i64 10, .int .i64 2, .int .i64 7, .int .i64 0, .int .i64 6, .bool false, .int .i64 0, .int .i64 0, .int .i64 0, .bool true, .int .i64 10, .int .i64 9, .int .i64 7, .int .i64 0, .int .i64 7, .bool false, .int .i64 0, .int .i64 0, .int .i64 0, .bool true, .int .i64 12, .int .i64 1, .int .i64 8, .int .i64 1, .int .i64 2, .bool false, .int .i64 0, .int .i64 0, .int .i64 0, .bool true, .int .i64 30, .int .i64 31, .int .i64 32, .int .i64 1, .int .i64 9, .bool false, .int .i64 0, .int .i64 0, .int .i64 0, .bool true, .int .i64 40, .int .i64 41, .int .i64 42] 58)).alloc (.cells #[.int .i64 1, .slice (some ⟨w5.heap.size, 0, none⟩) 5 5] 61) = wc
  have HRc : Hid (RecS wc (.slice (some ⟨w5.heap.size + 1, 0, none⟩) 1 1) eR) := Lib.hid (by
    rw [← hwc]
    refine eRec_any (cur := #[.int .i64 0, .int .i64 5, .bool false, .int .i64 0, .int .i64 0, .int .i64 0, .bool true, .int .i64 10, .int .i64 2, .int .i64 7, .int .i64 0, .int .i64 6, .bool false, .int .i64 0, .int .i64 0, .int .i64 0, .bool true, .int .i64 10, .int .i64 9, .int .i64 7, .int .i64 0, .int .i64 7, .bool false, .int .i64 0, .int .i64 0, .int .i64 0, .bool true, .int .i64 12, .int .i64 1, .int .i64 8, .int .i64 1, .int .i64 2, .bool false, .int .i64 0, .int .i64 0, .int .i64 0, .bool true, .int .i64 30, .int .i64 31, .int .i64 32, .int .i64 1, .int .i64 9, .bool false, .int .i64 0, .int .i64 0, .int .i64 0, .bool true, .int .i64 40, .int .i64 41, .int .i64 42]) (((ba (w5.alloc _) _).block _ (by simp)).trans (heap_alloc_new w5 _)) (by rfl) ?_
    have h := heap_alloc_new (w5.alloc (.cells #[.int .i64 0, .int .i64 5, .bool false, .int .i64 0, .int .i64 0, .int .i64 0, .bool true, .int .i64 10, .int .i64 2, .int .i64 7, .int .i64 0, .int .i64 6, .bool false, .int .i64 0, .int .i64 0, .int .i64 0, .bool true, .int .i64 10, .int .i64 9, .int .i64 7, .int .i64 0, .int .i64 7, .bool false, .int .i64 0, .int .i64 0, .int .i64 0, .bool true, .int .i64 12, .int .i64 1, .int .i64 8, .int .i64 1, .int .i64 2, .bool false, .int .i64 0, .int .i64 0, .int .i64 0, .bool true, .int .i64 30, .int .i64 31, .int .i64 32, .int .i64 1, .int .i64 9, .bool false, .int .i64 0, .int .i64 0, .int .i64 0, .bool true, .int .i64 40, .int .i64 41, .int .i64 42] 58)) (.cells #[.int .i64 1, .slice (some ⟨w5.heap.size, 0, none⟩) 5 5] 61)
    simpa using h)
  have HBc : Hid (Below W.heap.size W wc) := Lib.hid (by rw [← hwc]; exact bt HB5.out (bt (ba _ _) (ba _ _)))
  clear hwc
  refine (at_any HRc.out eR_chn 1 (by decide)).mono ?_
  rintro e w6 ⟨b1, m1, rfl, hst, hown, hb⟩
  rw [eR_1] at hst
  have HST := Lib.hid hst
  have HB6 := Lib.hid (bt HBc.out hb)
  clear hst hown hb
  go_upto_region 5 with fail
  have HE0 : Hid (SEv W (w6.alloc (.cells #[.int .i64 2, .int .i64 0, .int .i64 1, .int .i64 10, .int .i64 11, .int .i64 0, .int .i64 0] 23)) b1 m1 w6.heap.size ⟨2, 0, 1, 10, 11, 0, 0⟩ [] []) := Lib.hid ⟨HST.out.below (ba w6 _), by have := HST.out.lt; omega, fun e => by have := HST.out.mlt e; omega, heap_alloc_new w6 _, fun x hx => by simp at hx, fun x hx => by simp at hx, bt HB6.out (ba w6 _), HB6.out.size⟩
  generalize hw7 : w6.alloc (.cells #[.int .i64 2, .int .i64 0, .int .i64 1, .int .i64 10, .int .i64 11, .int .i64 0, .int .i64 0] 23) = v0
  obtain ⟨qb, Hqb⟩ : ∃ x, Hid (w6.heap.size = x) := ⟨_, Lib.hid rfl⟩
  rw [hw7] at HE0
  rw [Hqb.out] at HE0 ⊢
  clear hw7
  obtain ⟨q0, q1, q2, q3, q4, q5, q6⟩ := qAt_of HE0.out.qblk
  simp only at q0 q1 q2 q3 q4 q5 q6
  have HC := Lib.hid (ofS_any (q := ⟨2, 0, 1, 10, 11, 0, 0⟩) HE0.out.st (by decide) (sortOf_mk (N := [⟨0, 5, ⟨10, 2, 7⟩⟩, ⟨0, 6, ⟨10, 9, 7⟩⟩]) (by decide) (by decide)) (rows := [⟨0, 5, ⟨10, 2, 7⟩⟩, ⟨0, 6, ⟨10, 9, 7⟩⟩]) (v := 0) (f := false) (by decide +kernel))
  unfold ptr qV at HC
  simp only at HC
  go_wp2_with fail
  refine HC.out.mono ?_
  rintro e u1 ⟨a1, n1, c1, rfl, ho, hb⟩
  obtain ⟨g1, o1, cp1, e1, -, -⟩ := rowS_form 2 ho.rowS rfl (by omega)
  simp at e1
  obtain ⟨rfl, rfl, rfl⟩ := e1
  have HEn := Lib.hid ((HE0.out.below hb).res' (some ⟨g1, o1, none⟩) 2 c1 0 false [⟨0, 5, ⟨10, 2, 7⟩⟩, ⟨0, 6, ⟨10, 9, 7⟩⟩] (ho.mono (Nat.succ_le_of_lt (lt_of_block HE0.out.qblk))))
  clear ho hb HC q0 q1 q2 q3 q4 q5 q6
  go_upto_region 6 with fail
  generalize hz1 : u1.alloc (.cells #[.slice (some ⟨g1, o1, none⟩) 2 c1, .int .i64 0, .bool false] 27) = x1 at HEn ⊢
  obtain ⟨rb1, Hrb1⟩ : ∃ x, Hid (u1.heap.size = x) := ⟨_, Lib.hid rfl⟩
  rw [Hrb1.out] at HEn ⊢
  have HE1 := HEn
  clear hz1 HEn
  have f0 : x1.frozen? ⟨qb, 0, none⟩ = false := by simp [World.frozen?, HE1.out.qblk]
  obtain ⟨q0, q1, q2, q3, q4, q5, q6⟩ := qAt_of HE1.out.qblk
  simp only at q0 q1 q2 q3 q4 q5 q6
  go_upto_region 7 with fail
  have HEs := Lib.hid (HE1.out.set (j := 0) (u := .int .i64 3) (q' := ⟨3, 0, 1, 10, 11, 0, 0⟩) rfl)
  generalize hy1_0 : x1.setCell ⟨qb, 0, none⟩ (.int .i64 3) = y1_0 at HEs ⊢
  have HEs1_0 := HEs
  clear hy1_0 HEs f0 q0 q1 q2 q3 q4 q5 q6
  obtain ⟨q0, q1, q2, q3, q4, q5, q6⟩ := qAt_of HEs1_0.out.qblk
  simp only at q0 q1 q2 q3 q4 q5 q6
  have HC := Lib.hid (ofS_any (q := ⟨3, 0, 1, 10, 11, 0, 0⟩) HEs1_0.out.st (by decide) (sortOf_mk (N := [⟨0, 5, ⟨10, 2, 7⟩⟩, ⟨0, 6, ⟨10, 9, 7⟩⟩]) (by decide) (by decide)) (rows := []) (v := 2) (f := false) (by decide +kernel))
  unfold ptr qV at HC
  simp only at HC
  go_wp2_with fail
  refine HC.out.mono ?_
  rintro e u2 ⟨a2, n2, c2, rfl, ho, hb⟩
  have HEn := Lib.hid ((HEs1_0.out.below hb).res' a2 n2 c2 2 false [] (ho.mono (Nat.succ_le_of_lt (lt_of_block HEs1_0.out.qblk))))
  clear ho hb HC q0 q1 q2 q3 q4 q5 q6
  go_upto_region 8 with fail
  generalize hz2 : u2.alloc (.cells #[.slice a2 n2 c2, .int .i64 2, .bool false] 27) = x2 at HEn ⊢
  obtain ⟨rb2, Hrb2⟩ : ∃ x, Hid (u2.heap.size = x) := ⟨_, Lib.hid rfl⟩
  rw [Hrb2.out] at HEn ⊢
  have HE2 := HEn
  clear hz2 HEn
  have f0 : x2.frozen? ⟨qb, 0, none⟩ = false := by simp [World.frozen?, HE2.out.qblk]
  obtain ⟨q0, q1, q2, q3, q4, q5, q6⟩ := qAt_of HE2.out.qblk
  simp only at q0 q1 q2 q3 q4 q5 q6
  go_upto_region 9 with fail
  have HEs := Lib.hid (HE2.out.set (j := 0) (u := .int .i64 4) (q' := ⟨4, 0, 1, 10, 11, 0, 0⟩) rfl)
  generalize hy2_0 : x2.setCell ⟨qb, 0, none⟩ (.int .i64 4) = y2_0 at HEs ⊢
  have HEs2_0 := HEs
  clear hy2_0 HEs f0 q0 q1 q2 q3 q4 q5 q6
  have f0 : y2_0.frozen? ⟨qb, 5, none⟩ = false := by simp [World.frozen?, HEs2_0.out.qblk]
  obtain ⟨q0, q1, q2, q3, q4, q5, q6⟩ := qAt_of HEs2_0.out.qblk
  simp only at q0 q1 q2 q3 q4 q5 q6
  go_upto_region 10 with fail
  have HEs := Lib.hid (HEs2_0.out.set (j := 5) (u := .int .i64 2) (q' := ⟨4, 0, 1, 10, 11, 2, 0⟩) rfl)
  generalize hy2_1 : y2_0.setCell ⟨qb, 5, none⟩ (.int .i64 2) = y2_1 at HEs ⊢
  have HEs2_1 := HEs
  clear hy2_1 HEs f0 q0 q1 q2 q3 q4 q5 q6
  obtain ⟨q0, q1, q2, q3, q4, q5, q6⟩ := qAt_of HEs2_1.out.qblk
  simp only at q0 q1 q2 q3 q4 q5 q6
  have HC := Lib.hid (ofS_any (q := ⟨4, 0, 1, 10, 11, 2, 0⟩) HEs2_1.out.st (by decide) (sortOf_mk (N := [⟨0, 5, ⟨10, 2, 7⟩⟩, ⟨0, 6, ⟨10, 9, 7⟩⟩]) (by decide) (by decide)) (rows := []) (v := 11) (f := false) (by decide +kernel))
  unfold ptr qV at HC
  simp only at HC
  go_wp2_with fail
  refine HC.out.mono ?_
  rintro e u3 ⟨a3, n3, c3, rfl, ho, hb⟩
  have HEn := Lib.hid ((HEs2_1.out.below hb).res' a3 n3 c3 11 false [] (ho.mono (Nat.succ_le_of_lt (lt_of_block HEs2_1.out.qblk))))
  clear ho hb HC q0 q1 q2 q3 q4 q5 q6
  go_upto_region 11 with fail
  generalize hz3 : u3.alloc (.cells #[.slice a3 n3 c3, .int .i64 11, .bool false] 27) = x3 at HEn ⊢
  obtain ⟨rb3, Hrb3⟩ : ∃ x, Hid (u3.heap.size = x) := ⟨_, Lib.hid rfl⟩
  rw [Hrb3.out] at HEn ⊢
  have HE3 := HEn
  clear hz3 HEn
  have f0 : x3.frozen? ⟨qb, 0, none⟩ = false := by simp [World.frozen?, HE3.out.qblk]
  obtain ⟨q0, q1, q2, q3, q4, q5, q6⟩ := qAt_of HE3.out.qblk
  simp only at q0 q1 q2 q3 q4 q5 q6
  go_upto_region 12 with fail
  have HEs := Lib.hid (HE3.out.set (j := 0) (u := .int .i64 5) (q' := ⟨5, 0, 1, 10, 11, 2, 0⟩) rfl)
  generalize hy3_0 : x3.setCell ⟨qb, 0, none⟩ (.int .i64 5) = y3_0 at HEs ⊢
  have HEs3_0 := HEs
  clear hy3_0 HEs f0 q0 q1 q2 q3 q4 q5 q6
  obtain ⟨q0, q1, q2, q3, q4, q5, q6⟩ := qAt_of HEs3_0.out.qblk
  simp only at q0 q1 q2 q3 q4 q5 q6
  have HC := Lib.hid (ofS_any (q := ⟨5, 0, 1, 10, 11, 2, 0⟩) HEs3_0.out.st (by decide) (sortOf_mk (N := [⟨0, 5, ⟨10, 2, 7⟩⟩, ⟨0, 6, ⟨10, 9, 7⟩⟩]) (by decide) (by decide)) (rows := []) (v := 2) (f := true) (by decide +kernel))
  unfold ptr qV at HC
  simp only at HC
  go_wp2_with fail
  refine HC.out.mono ?_
  rintro e u4 ⟨a4, n4, c4, rfl, ho, hb⟩
  have HEn := Lib.hid ((HEs3_0.out.below hb).res' a4 n4 c4 2 true [] (ho.mono (Nat.succ_le_of_lt (lt_of_block HEs3_0.out.qblk))))
  clear ho hb HC q0 q1 q2 q3 q4 q5 q6
  go_upto_region 13 with fail
  generalize hz4 : u4.alloc (.cells #[.slice a4 n4 c4, .int .i64 2, .bool true] 27) = x4 at HEn ⊢
  obtain ⟨rb4, Hrb4⟩ : ∃ x, Hid (u4.heap.size = x) := ⟨_, Lib.hid rfl⟩
  rw [Hrb4.out] at HEn ⊢
  have HE4 := HEn
  clear hz4 HEn
  have f0 : x4.frozen? ⟨qb, 0, none⟩ = false := by simp [World.frozen?, HE4.out.qblk]
  obtain ⟨q0, q1, q2, q3, q4, q5, q6⟩ := qAt_of HE4.out.qblk
  simp only at q0 q1 q2 q3 q4 q5 q6
  go_upto_region 14 with fail
  have HEs := Lib.hid (HE4.out.set (j := 0) (u := .int .i64 6) (q' := ⟨6, 0, 1, 10, 11, 2, 0⟩) rfl)
  generalize hy4_0 : x4.setCell ⟨qb, 0, none⟩ (.int .i64 6) = y4_0 at HEs ⊢
  have HEs4_0 := HEs
  clear hy4_0 HEs f0 q0 q1 q2 q3 q4 q5 q6
  obtain ⟨q0, q1, q2, q3, q4, q5, q6⟩ := qAt_of HEs4_0.out.qblk
  simp only at q0 q1 q2 q3 q4 q5 q6
  have HC := Lib.hid (ofS_any (q := ⟨6, 0, 1, 10, 11, 2, 0⟩) HEs4_0.out.st (by decide) (sortOf_mk (N := [⟨0, 5, ⟨10, 2, 7⟩⟩, ⟨0, 6, ⟨10, 9, 7⟩⟩]) (by decide) (by decide)) (rows := []) (v := 9) (f := true) (by decide +kernel))
  unfold ptr qV at HC
  simp only at HC
  go_wp2_with fail
  refine HC.out.mono ?_
  rintro e u5 ⟨a5, n5, c5, rfl, ho, hb⟩
  have HEn := Lib.hid ((HEs4_0.out.below hb).res' a5 n5 c5 9 true [] (ho.mono (Nat.succ_le_of_lt (lt_of_block HEs4_0.out.qblk))))
  clear ho hb HC q0 q1 q2 q3 q4 q5 q6
  go_upto_region 15 with fail
  generalize hz5 : u5.alloc (.cells #[.slice a5 n5 c5, .int .i64 9, .bool true] 27) = x5 at HEn ⊢
  obtain ⟨rb5, Hrb5⟩ : ∃ x, Hid (u5.heap.size = x) := ⟨_, Lib.hid rfl⟩
  rw [Hrb5.out] at HEn ⊢
  have HE5 := HEn
  clear hz5 HEn
  have HC := Lib.hid (ofS_any (q := ⟨7, 0, 1, 10, 12, 2, 1⟩) HE5.out.st (by decide) (sortOf_mk (N := [⟨0, 5, ⟨10, 2, 7⟩⟩, ⟨0, 6, ⟨10, 9, 7⟩⟩, ⟨0, 7, ⟨12, 1, 8⟩⟩]) (by decide) (by decide)) (rows := [⟨0, 5, ⟨10, 2, 7⟩⟩, ⟨1, 2, ⟨30, 31, 32⟩⟩, ⟨0, 6, ⟨10, 9, 7⟩⟩, ⟨1, 9, ⟨40, 41, 42⟩⟩]) (v := 0) (f := false) (by decide +kernel))
  unfold ptr qV at HC
  simp only at HC
  go_wp2_with fail
  refine HC.out.mono ?_
  rintro e u6 ⟨a6, n6, c6, rfl, ho, hb⟩
  obtain ⟨g6, o6, cp6, e1, -, -⟩ := rowS_form 4 ho.rowS rfl (by omega)
  simp at e1
  obtain ⟨rfl, rfl, rfl⟩ := e1
  have HEn := Lib.hid ((HE5.out.below hb).res' (some ⟨g6, o6, none⟩) 4 c6 0 false [⟨0, 5, ⟨10, 2, 7⟩⟩, ⟨1, 2, ⟨30, 31, 32⟩⟩, ⟨0, 6, ⟨10, 9, 7⟩⟩, ⟨1, 9, ⟨40, 41, 42⟩⟩] (ho.mono (Nat.succ_le_of_lt (lt_of_block HE5.out.qblk))))
  clear ho hb HC
  go_upto_region 16 with fail
  generalize hz6 : u6.alloc (.cells #[.slice (some ⟨g6, o6, none⟩) 4 c6, .int .i64 0, .bool false] 27) = x6 at HEn ⊢
  obtain ⟨rb6, Hrb6⟩ : ∃ x, Hid (u6.heap.size = x) := ⟨_, Lib.hid rfl⟩
  rw [Hrb6.out] at HEn ⊢
  have HE6 := HEn
  clear hz6 HEn
  have HC := Lib.hid (of_bad (q := ⟨0, 0, 0, 0, 0, 0, 0⟩) (by decide) b1 x6)
  unfold ptr qV at HC
  simp only at HC
  go_wp2_with fail
  refine HC.out.mono ?_
  rintro e u7 ⟨rfl, hb⟩
  have HEn := Lib.hid ((HE6.out.below hb).below (ba u7 (.cells #[.slice none 0 0, .int .i64 0, .bool false] 27)))
  clear hb HC
  go_upto_region 17 with fail
  generalize hz7 : u7.alloc (.cells #[.slice none 0 0, .int .i64 0, .bool false] 27) = x7 at HEn ⊢
  have HE7 := HEn
  clear hz7 HEn
  obtain ⟨q0, q1, q2, q3, q4, q5, q6⟩ := qAt_of HE7.out.qblk
  simp only at q0 q1 q2 q3 q4 q5 q6
  have HC := Lib.hid (of_nil ⟨6, 0, 1, 10, 11, 2, 0⟩ x7)
  unfold qV at HC
  simp only at HC
  go_wp2_with fail
  refine HC.out.mono ?_
  rintro e u8 ⟨rfl, hb⟩
  have HEn := Lib.hid ((HE7.out.below hb).below (ba u8 (.cells #[.slice none 0 0, .int .i64 0, .bool false] 27)))
  clear hb HC q0 q1 q2 q3 q4 q5 q6
  go_upto_region 18 with fail
  generalize hz8 : u8.alloc (.cells #[.slice none 0 0, .int .i64 0, .bool false] 27) = x8 at HEn ⊢
  have HE8 := HEn
  clear hz8 HEn HE0 HE1 HE2 HE3 HE4 HE5 HE6 HE7
  have HZ : Hid (∀ w, Below x8.heap.size x8 w → SEv W w b1 m1 qb _ _ _) := Lib.hid (fun w hb => HE8.out.below hb)
  have HF : Hid (∀ w, Below x8.heap.size x8 w → w.cell? ⟨rb1, 0, none⟩ = some (.slice (some ⟨g1, o1, none⟩) 2 c1) ∧ w.cell? ⟨rb1, 1, none⟩ = some (.int .i64 0) ∧ w.cell? ⟨rb1, 2, none⟩ = some (.bool false) ∧ w.cell? ⟨rb2, 0, none⟩ = some (.slice a2 n2 c2) ∧ w.cell? ⟨rb2, 1, none⟩ = some (.int .i64 2) ∧ w.cell? ⟨rb2, 2, none⟩ = some (.bool false) ∧ w.cell? ⟨rb3, 0, none⟩ = some (.slice a3 n3 c3) ∧ w.cell? ⟨rb3, 1, none⟩ = some (.int .i64 11) ∧ w.cell? ⟨rb3, 2, none⟩ = some (.bool false) ∧ w.cell? ⟨rb4, 0, none⟩ = some (.slice a4 n4 c4) ∧ w.cell? ⟨rb4, 1, none⟩ = some (.int .i64 2) ∧ w.cell? ⟨rb4, 2, none⟩ = some (.bool true) ∧ w.cell? ⟨rb5, 0, none⟩ = some (.slice a5 n5 c5) ∧ w.cell? ⟨rb5, 1, none⟩ = some (.int .i64 9) ∧ w.cell? ⟨rb5, 2, none⟩ = some (.bool true) ∧ w.cell? ⟨rb6, 0, none⟩ = some (.slice (some ⟨g6, o6, none⟩) 4 c6) ∧ w.cell? ⟨rb6, 1, none⟩ = some (.int .i64 0) ∧ w.cell? ⟨rb6, 2, none⟩ = some (.bool false) ∧ w.cell? ⟨g1, o1 + 5 + 1, none⟩ = some (.int .i64 6) ∧ w.cell? ⟨g6, o6 + 1, none⟩ = some (.int .i64 5) ∧ w.cell? ⟨g6, o6 + 5 + 1, none⟩ = some (.int .i64 2) ∧ w.cell? ⟨g6, o6 + 15 + 1, none⟩ = some (.int .i64 9)) := Lib.hid (fun w hb => by
    have h := HZ.out w hb
    have r1 := (h.res (rb1, .slice (some ⟨g1, o1, none⟩) 2 c1, 0, false) (by simp)).1
    have r2 := (h.res (rb2, .slice a2 n2 c2, 2, false) (by simp)).1
    have r3 := (h.res (rb3, .slice a3 n3 c3, 11, false) (by simp)).1
    have r4 := (h.res (rb4, .slice a4 n4 c4, 2, true) (by simp)).1
    have r5 := (h.res (rb5, .slice a5 n5 c5, 9, true) (by simp)).1
    have r6 := (h.res (rb6, .slice (some ⟨g6, o6, none⟩) 4 c6, 0, false) (by simp)).1
    have ha := (h.rows (.slice (some ⟨g1, o1, none⟩) 2 c1, [⟨0, 5, ⟨10, 2, 7⟩⟩, ⟨0, 6, ⟨10, 9, 7⟩⟩]) (by simp)).rowS
    have hj := (h.rows (.slice (some ⟨g6, o6, none⟩) 4 c6, [⟨0, 5, ⟨10, 2, 7⟩⟩, ⟨1, 2, ⟨30, 31, 32⟩⟩, ⟨0, 6, ⟨10, 9, 7⟩⟩, ⟨1, 9, ⟨40, 41, 42⟩⟩]) (by simp)).rowS
    simp only at r1 r2 r3 r4 r5 r6
    refine ⟨?_, ?_, ?_, ?_, ?_, ?_, ?_, ?_, ?_, ?_, ?_, ?_, ?_, ?_, ?_, ?_, ?_, ?_, ?_, ?_, ?_, ?_⟩
    all_goals first
      | (simp only [World.cell?, r1, r2, r3, r4, r5, r6]; rfl)
      | exact (rowS_at ha 1 (by omega)) 1 (by omega)
      | exact (rowS_at hj 0 (by omega)) 1 (by omega)
      | exact (rowS_at hj 1 (by omega)) 1 (by omega)
      | exact (rowS_at hj 3 (by omega)) 1 (by omega))
  have HRa : Hid (∀ w, Below x8.heap.size x8 w → RowS w (.slice (some ⟨g1, o1, none⟩) 2 c1) [⟨0, 5, ⟨10, 2, 7⟩⟩, ⟨0, 6, ⟨10, 9, 7⟩⟩]) := Lib.hid (fun w hb => ((HZ.out w hb).rows (.slice (some ⟨g1, o1, none⟩) 2 c1, [⟨0, 5, ⟨10, 2, 7⟩⟩, ⟨0, 6, ⟨10, 9, 7⟩⟩]) (by simp)).rowS)
  have HRb : Hid (∀ w, Below x8.heap.size x8 w → RowS w (.slice a2 n2 c2) []) := Lib.hid (fun w hb => ((HZ.out w hb).rows (.slice a2 n2 c2, []) (by simp)).rowS)
  have HRj : Hid (∀ w, Below x8.heap.size x8 w → RowS w (.slice (some ⟨g6, o6, none⟩) 4 c6) [⟨0, 5, ⟨10, 2, 7⟩⟩, ⟨1, 2, ⟨30, 31, 32⟩⟩, ⟨0, 6, ⟨10, 9, 7⟩⟩, ⟨1, 9, ⟨40, 41, 42⟩⟩]) := Lib.hid (fun w hb => ((HZ.out w hb).rows (.slice (some ⟨g6, o6, none⟩) 4 c6, [⟨0, 5, ⟨10, 2, 7⟩⟩, ⟨1, 2, ⟨30, 31, 32⟩⟩, ⟨0, 6, ⟨10, 9, 7⟩⟩, ⟨1, 9, ⟨40, 41, 42⟩⟩]) (by simp)).rowS)
  have HC1 := Lib.hid (size_any (HRj.out x8 (Below.refl _ _)) 0 false (by decide))
  have HC2 := Lib.hid (fun w (hb : Below x8.heap.size x8 w) => evSame_any (HRa.out w hb) (HRa.out w hb) 0 0 false false)
  have HC3 := Lib.hid (fun w (hb : Below x8.heap.size x8 w) => evSame_any (HRa.out w hb) (HRb.out w hb) 0 2 false false)
  have e2 : decide ((0 : Int) = 0 ∧ false = false ∧ ([⟨0, 5, ⟨10, 2, 7⟩⟩, ⟨0, 6, ⟨10, 9, 7⟩⟩] : List MRow) = [⟨0, 5, ⟨10, 2, 7⟩⟩, ⟨0, 6, ⟨10, 9, 7⟩⟩]) = true := by decide
  have e3 : decide ((0 : Int) = 2 ∧ false = false ∧ ([⟨0, 5, ⟨10, 2, 7⟩⟩, ⟨0, 6, ⟨10, 9, 7⟩⟩] : List MRow) = []) = false := by decide
  rw [e2] at HC2
  rw [e3] at HC3
  unfold resV at HC1 HC2 HC3
  rw [show (1 + (([⟨0, 5, ⟨10, 2, 7⟩⟩, ⟨1, 2, ⟨30, 31, 32⟩⟩, ⟨0, 6, ⟨10, 9, 7⟩⟩, ⟨1, 9, ⟨40, 41, 42⟩⟩] : List MRow).length : Int)) = 5 from by decide] at HC1
  obtain ⟨k0, k1, k2, k3, k4, k5, k6, k7, k8, k9, k10, k11, k12, k13, k14, k15, k16, k17, k18, k19, k20, k21⟩ := HF.out x8 (Below.refl _ _)
  clear e2 e3
  go_wp2_with fail
  (with_reducible refine HC1.out.mono ?_)
  rintro e y1 ⟨rfl, hb1⟩
  clear k0 k1 k2 k3 k4 k5 k6 k7 k8 k9 k10 k11 k12 k13 k14 k15 k16 k17 k18 k19 k20 k21
  obtain ⟨k0, k1, k2, k3, k4, k5, k6, k7, k8, k9, k10, k11, k12, k13, k14, k15, k16, k17, k18, k19, k20, k21⟩ := HF.out y1 hb1
  go_wp2_with fail
  (with_reducible refine (HC2.out y1 hb1).mono ?_)
  rintro e y2 ⟨rfl, hb2⟩
  have hb12 := bt hb1 hb2
  clear k0 k1 k2 k3 k4 k5 k6 k7 k8 k9 k10 k11 k12 k13 k14 k15 k16 k17 k18 k19 k20 k21
  obtain ⟨k0, k1, k2, k3, k4, k5, k6, k7, k8, k9, k10, k11, k12, k13, k14, k15, k16, k17, k18, k19, k20, k21⟩ := HF.out y2 hb12
  go_wp2_with fail
  (with_reducible refine (HC3.out y2 hb12).mono ?_)
  rintro e y3 ⟨rfl, hb3⟩
  have HBf := Lib.hid (HZ.out y3 (bt hb12 hb3)).old
  clear hb1 hb2 hb12 hb3 k0 k1 k2 k3 k4 k5 k6 k7 k8 k9 k10 k11 k12 k13 k14 k15 k16 k17 k18 k19 k20 k21
  go_wp2_with fail
  go_ret
  exact ⟨rfl, HBf.out⟩
end Go.Proofs.Ytcffofjialihaaa
end

section
set_option linter.unusedVariables false
set_option linter.unusedSimpArgs false
namespace Go.Proofs.Ytcffofjialihaaa
open Go.RowKit Go.Sort Go.ChangeMaps Go.MapKept

structure X4 where
  a : Int
  b : Int
  c : Int
  d : Int
abbrev x4V (x : X4) : Value := .agg #[.int .i64 x.a, .int .i64 x.b, .int .i64 x.c, .int .i64 x.d]
def X4.Ok (x : X4) : Prop := I64 x.a ∧ I64 x.b ∧ I64 x.c ∧ I64 x.d
theorem pickB (c n : Int) (W : World) (hc : I64 c) (hn : 1 ≤ n) (hn2 : n ≤ 1000000) : Calls Try.prog 29 #[.int .i64 c, .int .i64 n] W fun e w' => e = .returned (.int .i64 (pk c n)) ∧ Below W.heap.size W w' :=
  (pick6_any c n W hc hn hn2).mono fun e w' hw => ⟨hw.1, hw.2 ▸ Below.refl _ _⟩
theorem tdiv_i64 {a n : Int} (h : I64 a) (hn : 2 ≤ n) : I64 (Int.tdiv a n) := by
  unfold I64 at *
  rcases Int.le_total 0 a with h0 | h0
  · have h1 := Int.tdiv_nonneg h0 (show 0 ≤ n by omega)
    have h2 : Int.tdiv a n ≤ a := by
      rw [Int.tdiv_eq_ediv_of_nonneg h0]
      exact Int.ediv_le_self _ h0
    omega
  · have e : Int.tdiv a n = -(Int.tdiv (-a) n) := by rw [Int.neg_tdiv, Int.neg_neg]
    have h0' : 0 ≤ -a := by omega
    have h1 := Int.tdiv_nonneg h0' (show 0 ≤ n by omega)
    have h2 : Int.tdiv (-a) n ≤ -a := by
      rw [Int.tdiv_eq_ediv_of_nonneg h0']
      exact Int.ediv_le_self _ h0'
    omega
/-- The row that four integers determine. -/
def rowX (x : X4) : MRow := ⟨pk x.a 2, 1 + pk (Int.tdiv x.a 2) 12, ⟨pk x.b 20, pk x.c 14, pk x.d 40 - 10⟩⟩

set_option maxRecDepth 100000 in
set_option maxHeartbeats 4000000 in
theorem row_any (x : X4) (hx : x.Ok) (W : World) : Calls Try.prog 69 #[x4V x] W fun e w' => e = .returned (rowV (rowX x)) ∧ Below W.heap.size W w' := by
  obtain ⟨a, b, c, d⟩ := x
  obtain ⟨ha, hb, hc, hd⟩ := hx
  simp only at ha hb hc hd
  have hWn : W.heap.size ≤ W.heap.size + 1 := by omega
  have P1 := Lib.hid (fun w => pickB a 2 w ha (by omega) (by omega))
  have P2 := Lib.hid (fun w => pickB (Int.tdiv a 2) 12 w (tdiv_i64 ha (by omega)) (by omega) (by omega))
  have P3 := Lib.hid (fun w => pickB b 20 w hb (by omega) (by omega))
  have P4 := Lib.hid (fun w => pickB c 14 w hc (by omega) (by omega))
  have P5 := Lib.hid (fun w => pickB d 40 w hd (by omega) (by omega))
  have r1 := pk_range a (n := 2) (by omega)
  have r2 := pk_range (Int.tdiv a 2) (n := 12) (by omega)
  have r5 := pk_range d (n := 40) (by omega)
  obtain ⟨z1, H1⟩ : ∃ z, Hid (pk a 2 = z) := ⟨_, Lib.hid rfl⟩
  obtain ⟨z2, H2⟩ : ∃ z, Hid (pk (Int.tdiv a 2) 12 = z) := ⟨_, Lib.hid rfl⟩
  obtain ⟨z3, H3⟩ : ∃ z, Hid (pk b 20 = z) := ⟨_, Lib.hid rfl⟩
  obtain ⟨z4, H4⟩ : ∃ z, Hid (pk c 14 = z) := ⟨_, Lib.hid rfl⟩
  obtain ⟨z5, H5⟩ : ∃ z, Hid (pk d 40 = z) := ⟨_, Lib.hid rfl⟩
  have HR : Hid (rowX ⟨a, b, c, d⟩ = ⟨z1, 1 + z2, ⟨z3, z4, z5 - 10⟩⟩) := Lib.hid (by unfold rowX; simp only [H1.out, H2.out, H3.out, H4.out, H5.out])
  rw [HR.out]
  simp only [H1.out, H2.out, H3.out, H4.out, H5.out] at P1 P2 P3 P4 P5
  rw [H2.out] at r2
  rw [H5.out] at r5
  have hw2 : IntKind.i64.wrap (1 + z2) = 1 + z2 := by rw [IntKind.wrap_i64]; omega
  have hw5 : IntKind.i64.wrap (z5 - 10) = z5 - 10 := by rw [IntKind.wrap_i64]; omega
  have hdv := tdiv_i64 ha (show (2 : Int) ≤ 2 by omega)
  have hwd : IntKind.i64.wrap (Int.tdiv a 2) = Int.tdiv a 2 := by unfold I64 at hdv; rw [IntKind.wrap_i64]; omega
  clear ha hb hc hd r1 r2 r5 H1 H2 H3 H4 H5 HR hdv
  go_enter Try.func69, Try.ntmps69
  go_upto_region 1 with fail
  generalize hwb : (W.alloc (.cells #[.int .i64 a, .int .i64 b, .int .i64 c, .int .i64 d] 24)).alloc (.cells #[.int .i64 0, .int .i64 0, .int .i64 0, .int .i64 0, .int .i64 0] 31) = wb
  have HBb : Hid (Below W.heap.size W wb) := Lib.hid (by rw [← hwb]; exact bt (ba W _) (ba _ _))
  have HX : Hid (wb.heap[W.heap.size]? = some (.cells #[.int .i64 a, .int .i64 b, .int .i64 c, .int .i64 d] 24 (0, 0))) := Lib.hid (by
    rw [← hwb]
    exact ((ba (W.alloc _) _).block _ (by simp)).trans (heap_alloc_new W _))
  have HY : Hid (wb.heap[W.heap.size + 1]? = some (.cells #[.int .i64 0, .int .i64 0, .int .i64 0, .int .i64 0, .int .i64 0] 31 (0, 0))) := Lib.hid (by
    rw [← hwb]
    have h := heap_alloc_new (W.alloc (.cells #[.int .i64 a, .int .i64 b, .int .i64 c, .int .i64 d] 24)) (.cells #[.int .i64 0, .int .i64 0, .int .i64 0, .int .i64 0, .int .i64 0] 31)
    simpa using h)
  clear hwb
  have HG : Hid (∀ w0, BW wb w0 → ∀ d' os, (grow (redrawn w0 d') os).heap[W.heap.size]? = some (.cells #[.int .i64 a, .int .i64 b, .int .i64 c, .int .i64 d] 24 (0, 0))) := Lib.hid (fun w0 h d' os => ((show Below wb.heap.size wb (grow (redrawn w0 d') os) from bt h (below_regrown w0 d' os)).block _ (lt_of_block HX.out)).trans HX.out)
  have g0 : ∀ w0, BW wb w0 → ∀ d' os, (grow (redrawn w0 d') os).cell? ⟨W.heap.size, 0, none⟩ = some (.int .i64 a) := fun w0 h d' os => by simp [World.cell?, HG.out w0 h d' os]
  have g1 : ∀ w0, BW wb w0 → ∀ d' os, (grow (redrawn w0 d') os).cell? ⟨W.heap.size, 1, none⟩ = some (.int .i64 b) := fun w0 h d' os => by simp [World.cell?, HG.out w0 h d' os]
  have g2 : ∀ w0, BW wb w0 → ∀ d' os, (grow (redrawn w0 d') os).cell? ⟨W.heap.size, 2, none⟩ = some (.int .i64 c) := fun w0 h d' os => by simp [World.cell?, HG.out w0 h d' os]
  have g3 : ∀ w0, BW wb w0 → ∀ d' os, (grow (redrawn w0 d') os).cell? ⟨W.heap.size, 3, none⟩ = some (.int .i64 d) := fun w0 h d' os => by simp [World.cell?, HG.out w0 h d' os]
  refine wp_region_calm 20 99 [0, 1, 2, 3, 4, 5, 6, 7, 8, 9, 10, 11, 12, 13, 14, 15, 16, 17, 18, 19] (by kernel_rfl) (by kernel_rfl) (by intro oz h; simp at h) (by intro oz h; simp at h) (by rfl) ?_
  simp only [List.take_succ_cons, List.take_zero]
  iterate 2
    apply wpCalm_want
    · rfl
    · exact bc_refl
    · exact ⟨_, Below.refl _ _⟩
    · intro w0 hC0 K hK
      go_big_quiet_op
      exact hK
  apply wpCalm_want
  · rfl
  · exact bc_refl
  · exact ⟨_, Below.refl _ _⟩
  · intro w0 hC0 K hK
    go_big_quiet_op
    apply Exists.intro
    refine ⟨fun p => ?_, ?_⟩
    · exact Calls.regrown_of (P1.out _)
    · exact hK
  iterate 3
    apply wpCalm_want
    · rfl
    · exact bc_refl
    · exact ⟨_, Below.refl _ _⟩
    · intro w0 hC0 K hK
      go_big_quiet_op
      exact hK
  apply wpCalm_want
  · rfl
  · exact bc_refl
  · exact ⟨_, Below.refl _ _⟩
  · intro w0 hC0 K hK
    go_big_quiet_op
    apply Exists.intro
    refine ⟨fun p => ?_, ?_⟩
    · exact Calls.regrown_of (P2.out _)
    · exact hK
  apply wpCalm_want
  · rfl
  · exact bc_refl
  · exact ⟨_, Below.refl _ _⟩
  · intro w0 hC0 K hK
    go_big_quiet_op
    exact hK
  iterate 2
    apply wpCalm_want
    · rfl
    · exact bc_refl
    · exact ⟨_, Below.refl _ _⟩
    · intro w0 hC0 K hK
      go_big_quiet_op
      exact hK
  apply wpCalm_want
  · rfl
  · exact bc_refl
  · exact ⟨_, Below.refl _ _⟩
  · intro w0 hC0 K hK
    go_big_quiet_op
    apply Exists.intro
    refine ⟨fun p => ?_, ?_⟩
    · exact Calls.regrown_of (P3.out _)
    · exact hK
  iterate 2
    apply wpCalm_want
    · rfl
    · exact bc_refl
    · exact ⟨_, Below.refl _ _⟩
    · intro w0 hC0 K hK
      go_big_quiet_op
      exact hK
  apply wpCalm_want
  · rfl
  · exact bc_refl
  · exact ⟨_, Below.refl _ _⟩
  · intro w0 hC0 K hK
    go_big_quiet_op
    apply Exists.intro
    refine ⟨fun p => ?_, ?_⟩
    · exact Calls.regrown_of (P4.out _)
    · exact hK
  iterate 2
    apply wpCalm_want
    · rfl
    · exact bc_refl
    · exact ⟨_, Below.refl _ _⟩
    · intro w0 hC0 K hK
      go_big_quiet_op
      exact hK
  apply wpCalm_want
  · rfl
  · exact bc_refl
  · exact ⟨_, Below.refl _ _⟩
  · intro w0 hC0 K hK
    go_big_quiet_op
    apply Exists.intro
    refine ⟨fun p => ?_, ?_⟩
    · exact Calls.regrown_of (P5.out _)
    · exact hK
  apply wpCalm_want
  · rfl
  · exact bc_refl
  · exact ⟨_, Below.refl _ _⟩
  · intro w0 hC0 K hK
    go_big_quiet_op
    exact hK
  iterate 2
    apply wpCalm_want
    · rfl
    · exact bc_refl
    · exact ⟨_, Below.refl _ _⟩
    · intro w0 hC0 K hK
      go_big_quiet_op
      exact hK
  refine wpCalm_nil ?_
  intro wq hbq
  try simp only [List.drop_succ_cons, List.drop_zero]
  have HYq := Lib.hid ((hbq.block _ (lt_of_block HY.out)).trans HY.out)
  have HBq := Lib.hid (bt HBb.out hbq)
  clear g0 g1 g2 g3 hbq hw2 hw5 hwd
  try go_frame
  refine wpList_store_row rfl 31 _ _ rfl (W.heap.size + 1) #[.int .i64 z1, .int .i64 (1 + z2), .int .i64 z3, .int .i64 z4, .int .i64 (z5 - 10)] rfl rfl 31 _ HYq.out (by kernel_rfl) rfl (by simp [Value.oneCell']) ?_
  try go_frame
  go_wp2_with fail
  exact bodyPost_ret (v := rowV ⟨z1, 1 + z2, ⟨z3, z4, z5 - 10⟩⟩) (results_cell_row rfl _ _ (W.heap.size + 1) 31 _ (0, 0) _ rfl (setRow_heap _ _ _ _ _ _ HYq.out) Try.underlying31 rfl (by kernel_rfl)) rfl ⟨rfl, below_row HBq.out hWn _⟩
end Go.Proofs.Ytcffofjialihaaa
end

section
set_option linter.unusedVariables false
set_option linter.unusedSimpArgs false
namespace Go.Proofs.Ytcffofjialihaaa
open Go.RowKit Go.Sort Go.ChangeMaps Go.MapKept


/-- The query that four integers determine. -/
def qryX (x : X4) : MQ :=
  let k := 1 + pk x.a 7
  let t := pk (Int.tdiv x.a 7) 2
  if k = 1 then ⟨1, t, 0, 1 + pk x.b 12, 1 + pk x.b 12, 0, 0⟩
  else ⟨k, t, pk x.b 4, pk x.c 20 - 3, pk x.c 20 - 3 + pk (Int.tdiv x.c 20) 15, if 4 ≤ k then 1 + pk x.d 3 else 0, if k = 7 then pk (Int.tdiv x.d 3) 2 else 0⟩
theorem qryX_valid (x : X4) : validB (qryX x) = true := by
  have h1 := pk_range x.a (n := 7) (by omega)
  have h2 := pk_range (Int.tdiv x.a 7) (n := 2) (by omega)
  have h3 := pk_range x.b (n := 12) (by omega)
  have h4 := pk_range x.b (n := 4) (by omega)
  have h5 := pk_range x.c (n := 20) (by omega)
  have h6 := pk_range (Int.tdiv x.c 20) (n := 15) (by omega)
  have h7 := pk_range x.d (n := 3) (by omega)
  have h8 := pk_range (Int.tdiv x.d 3) (n := 2) (by omega)
  unfold qryX
  simp only
  generalize pk x.a 7 = k at *
  generalize pk (Int.tdiv x.a 7) 2 = t at *
  generalize pk x.b 12 = b12 at *
  generalize pk x.b 4 = b4 at *
  generalize pk x.c 20 = c20 at *
  generalize pk (Int.tdiv x.c 20) 15 = c15 at *
  generalize pk x.d 3 = d3 at *
  generalize pk (Int.tdiv x.d 3) 2 = d2 at *
  have hk : k = 0 ∨ k = 1 ∨ k = 2 ∨ k = 3 ∨ k = 4 ∨ k = 5 ∨ k = 6 := by omega
  rcases hk with rfl | rfl | rfl | rfl | rfl | rfl | rfl <;> simp [validB, scanB] <;> omega
/-- What Query has at hand: its argument, its result, and the query in a variable. -/
structure QS (W w : World) (yb : Nat) (x : X4) (q : MQ) : Prop where
  old : Below W.heap.size W w
  arg : w.heap[W.heap.size]? = some (.cells #[.int .i64 x.a, .int .i64 x.b, .int .i64 x.c, .int .i64 x.d] 24 (0, 0))
  res : w.heap[W.heap.size + 1]? = some (.cells (qC ⟨0, 0, 0, 0, 0, 0, 0⟩) 23 (0, 0))
  var : w.heap[yb]? = some (.cells (qC q) 23 (0, 0))
  ge : W.heap.size + 2 ≤ yb
theorem QS.below {W w w' : World} {yb : Nat} {x : X4} {q : MQ} (h : QS W w yb x q) (k : Below w.heap.size w w') : QS W w' yb x q :=
  ⟨bt h.old k, (k.block _ (lt_of_block h.arg)).trans h.arg, (k.block _ (lt_of_block h.res)).trans h.res, (k.block _ (lt_of_block h.var)).trans h.var, h.ge⟩
theorem QS.set {W w : World} {yb : Nat} {x : X4} {q q' : MQ} (h : QS W w yb x q) {j : Nat} {u : Value} (hq : (qC q).setIfInBounds j u = qC q') : QS W (w.setCell ⟨yb, j, none⟩ u) yb x q' := by
  have hg := h.ge
  exact ⟨below_setCell h.old (by show W.heap.size ≤ yb; omega) u, (Below.heap_setCell _ _ _ _ (by show W.heap.size ≠ yb; omega)).trans h.arg, (Below.heap_setCell _ _ _ _ (by show W.heap.size + 1 ≠ yb; omega)).trans h.res, by rw [setC_heap h.var j u, hq], hg⟩
theorem QS.args {W w : World} {yb : Nat} {x : X4} {q : MQ} (h : QS W w yb x q) : w.cell? ⟨W.heap.size, 0, none⟩ = some (.int .i64 x.a) ∧ w.cell? ⟨W.heap.size, 1, none⟩ = some (.int .i64 x.b) ∧ w.cell? ⟨W.heap.size, 2, none⟩ = some (.int .i64 x.c) ∧ w.cell? ⟨W.heap.size, 3, none⟩ = some (.int .i64 x.d) :=
  ⟨by simp [World.cell?, h.arg], by simp [World.cell?, h.arg], by simp [World.cell?, h.arg], by simp [World.cell?, h.arg]⟩
theorem QS.frz {W w : World} {yb : Nat} {x : X4} {q : MQ} (h : QS W w yb x q) (j : Nat) : w.frozen? ⟨yb, j, none⟩ = false := by simp [World.frozen?, h.var]

set_option maxRecDepth 100000 in
set_option maxHeartbeats 8000000 in
theorem query_any (x : X4) (hx : x.Ok) (W : World) : Calls Try.prog 16 #[x4V x] W fun e w' => e = .returned (qV (qryX x)) ∧ Below W.heap.size W w' := by
  have hWn : W.heap.size ≤ W.heap.size + 1 := by omega
  obtain ⟨hQ, HQX⟩ : ∃ q, Hid (qryX x = q) := ⟨_, Lib.hid rfl⟩
  rw [HQX.out]
  obtain ⟨a, b, c, d⟩ := x
  obtain ⟨ha, hb, hc, hd⟩ := hx
  simp only at ha hb hc hd
  have P1 := Lib.hid (fun w => pickB a 7 w ha (by omega) (by omega))
  have P2 := Lib.hid (fun w => pickB (Int.tdiv a 7) 2 w (tdiv_i64 ha (by omega)) (by omega) (by omega))
  have P3 := Lib.hid (fun w => pick6_any b 12 w hb (by omega) (by omega))
  have P4 := Lib.hid (fun w => pick6_any b 4 w hb (by omega) (by omega))
  have P5 := Lib.hid (fun w => pick6_any c 20 w hc (by omega) (by omega))
  have P6 := Lib.hid (fun w => pickB (Int.tdiv c 20) 15 w (tdiv_i64 hc (by omega)) (by omega) (by omega))
  have P7 := Lib.hid (fun w => pick6_any d 3 w hd (by omega) (by omega))
  have P8 := Lib.hid (fun w => pick6_any (Int.tdiv d 3) 2 w (tdiv_i64 hd (by omega)) (by omega) (by omega))
  have r1 := pk_range a (n := 7) (by omega)
  have r3 := pk_range b (n := 12) (by omega)
  have r5 := pk_range c (n := 20) (by omega)
  have r6 := pk_range (Int.tdiv c 20) (n := 15) (by omega)
  have r7 := pk_range d (n := 3) (by omega)
  unfold qryX at HQX
  simp only at HQX
  obtain ⟨z1, H1⟩ : ∃ z, Hid (pk a 7 = z) := ⟨_, Lib.hid rfl⟩
  obtain ⟨z2, H2⟩ : ∃ z, Hid (pk (Int.tdiv a 7) 2 = z) := ⟨_, Lib.hid rfl⟩
  obtain ⟨z3, H3⟩ : ∃ z, Hid (pk b 12 = z) := ⟨_, Lib.hid rfl⟩
  obtain ⟨z4, H4⟩ : ∃ z, Hid (pk b 4 = z) := ⟨_, Lib.hid rfl⟩
  obtain ⟨z5, H5⟩ : ∃ z, Hid (pk c 20 = z) := ⟨_, Lib.hid rfl⟩
  obtain ⟨z6, H6⟩ : ∃ z, Hid (pk (Int.tdiv c 20) 15 = z) := ⟨_, Lib.hid rfl⟩
  obtain ⟨z7, H7⟩ : ∃ z, Hid (pk d 3 = z) := ⟨_, Lib.hid rfl⟩
  obtain ⟨z8, H8⟩ : ∃ z, Hid (pk (Int.tdiv d 3) 2 = z) := ⟨_, Lib.hid rfl⟩
  simp only [H1.out, H2.out, H3.out, H4.out, H5.out, H6.out, H7.out, H8.out] at P1 P2 P3 P4 P5 P6 P7 P8 HQX
  rw [H1.out] at r1
  rw [H3.out] at r3
  rw [H5.out] at r5
  rw [H6.out] at r6
  rw [H7.out] at r7
  obtain ⟨kk, Hkk⟩ : ∃ k, Hid (1 + z1 = k) := ⟨_, Lib.hid rfl⟩
  have hw1 : wrap64 (1 + z1) = kk := by rw [← Hkk.out]; unfold wrap64; omega
  have hk17 : 1 ≤ kk ∧ kk ≤ 7 := by rw [← Hkk.out]; omega
  simp only [Hkk.out] at HQX
  have hda := tdiv_i64 ha (show (2 : Int) ≤ 7 by omega)
  have hdc := tdiv_i64 hc (show (2 : Int) ≤ 20 by omega)
  have hdd := tdiv_i64 hd (show (2 : Int) ≤ 3 by omega)
  have hwa : wrap64 (Int.tdiv a 7) = Int.tdiv a 7 := by unfold I64 at hda; unfold wrap64; omega
  have hwc : wrap64 (Int.tdiv c 20) = Int.tdiv c 20 := by unfold I64 at hdc; unfold wrap64; omega
  have hwd : wrap64 (Int.tdiv d 3) = Int.tdiv d 3 := by unfold I64 at hdd; unfold wrap64; omega
  have hw3 : wrap64 (1 + z3) = 1 + z3 := by unfold wrap64; omega
  have hw5 : wrap64 (z5 - 3) = z5 - 3 := by unfold wrap64; omega
  have hw6 : wrap64 (z5 - 3 + z6) = z5 - 3 + z6 := by unfold wrap64; omega
  have hw7 : wrap64 (1 + z7) = 1 + z7 := by unfold wrap64; omega
  clear ha hb hc hd r1 r3 r5 r6 r7 H1 H2 H3 H4 H5 H6 H7 H8 hda hdc hdd
  go_enter Try.func16, Try.ntmps16
  go_upto_region 1 with fail
  generalize hwb : (W.alloc (.cells #[.int .i64 a, .int .i64 b, .int .i64 c, .int .i64 d] 24)).alloc (.cells #[.int .i64 0, .int .i64 0, .int .i64 0, .int .i64 0, .int .i64 0, .int .i64 0, .int .i64 0] 23) = wb
  have HBb : Hid (Below W.heap.size W wb) := Lib.hid (by rw [← hwb]; exact bt (ba W _) (ba _ _))
  have HX : Hid (wb.heap[W.heap.size]? = some (.cells #[.int .i64 a, .int .i64 b, .int .i64 c, .int .i64 d] 24 (0, 0))) := Lib.hid (by
    rw [← hwb]
    exact ((ba (W.alloc _) _).block _ (by simp)).trans (heap_alloc_new W _))
  have HY : Hid (wb.heap[W.heap.size + 1]? = some (.cells (qC ⟨0, 0, 0, 0, 0, 0, 0⟩) 23 (0, 0))) := Lib.hid (by
    rw [← hwb]
    have h := heap_alloc_new (W.alloc (.cells #[.int .i64 a, .int .i64 b, .int .i64 c, .int .i64 d] 24)) (.cells #[.int .i64 0, .int .i64 0, .int .i64 0, .int .i64 0, .int .i64 0, .int .i64 0, .int .i64 0] 23)
    simpa using h)
  clear hwb
  have g0 : ∀ w0, BW wb w0 → ∀ d' os, (grow (redrawn w0 d') os).cell? ⟨W.heap.size, 0, none⟩ = some (.int .i64 a) := fun w0 h d' os => by
    have e := ((show Below wb.heap.size wb (grow (redrawn w0 d') os) from bt h (below_regrown w0 d' os)).block _ (lt_of_block HX.out)).trans HX.out
    simp [World.cell?, e]
  refine wp_region_calm1 10 99 9 [0, 1, 2, 3, 4, 5, 6, 7, 8] (obj := .cells #[.int .i64 0, .int .i64 0, .int .i64 0, .int .i64 0, .int .i64 0, .int .i64 0, .int .i64 0] 23 (0, 0)) (by kernel_rfl) (by kernel_rfl) (by intro oz h; simp at h) (by intro oz h; simp at h) (by rfl) (by rfl) (fun a w => by kernel_rfl) ?_
  simp only [List.take_succ_cons, List.take_zero, List.eraseIdx_cons_succ, List.eraseIdx_cons_zero]
  iterate 2
    apply wpCalm_want
    · rfl
    · exact bc_refl
    · exact ⟨_, Below.refl _ _⟩
    · intro w0 hC0 K hK
      go_big_quiet_op
      exact hK
  apply wpCalm_want
  · rfl
  · exact bc_refl
  · exact ⟨_, Below.refl _ _⟩
  · intro w0 hC0 K hK
    go_big_quiet_op
    apply Exists.intro
    refine ⟨fun p => ?_, ?_⟩
    · exact Calls.regrown_of (P1.out _)
    · exact hK
  iterate 4
    apply wpCalm_want
    · rfl
    · exact bc_refl
    · exact ⟨_, Below.refl _ _⟩
    · intro w0 hC0 K hK
      go_big_quiet_op
      exact hK
  apply wpCalm_want
  · rfl
  · exact bc_refl
  · exact ⟨_, Below.refl _ _⟩
  · intro w0 hC0 K hK
    go_big_quiet_op
    apply Exists.intro
    refine ⟨fun p => ?_, ?_⟩
    · exact Calls.regrown_of (P2.out _)
    · exact hK
  apply wpCalm_want
  · rfl
  · exact bc_refl
  · exact ⟨_, Below.refl _ _⟩
  · intro w0 hC0 K hK
    go_big_quiet_op
    exact hK
  refine wpCalm_nil ?_
  intro yb wc hbc hyb hblk
  try simp only [List.drop_succ_cons, List.drop_zero]
  try go_frame
  refine wpList_store_row rfl 23 _ _ rfl yb #[.int .i64 kk, .int .i64 z2, .int .i64 0, .int .i64 0, .int .i64 0, .int .i64 0, .int .i64 0] rfl rfl 23 _ hblk (by kernel_rfl) rfl (by simp [Value.oneCell']) ?_
  try go_frame
  have HS0 : Hid (QS W (wc.setRow yb #[.int .i64 kk, .int .i64 z2, .int .i64 0, .int .i64 0, .int .i64 0, .int .i64 0, .int .i64 0]) yb ⟨a, b, c, d⟩ ⟨kk, z2, 0, 0, 0, 0, 0⟩) := Lib.hid (by
    have hz1 := lt_of_block HY.out
    have hb1 : Below wb.heap.size wb (wc.setRow yb #[.int .i64 kk, .int .i64 z2, .int .i64 0, .int .i64 0, .int .i64 0, .int .i64 0, .int .i64 0]) := below_row hbc hyb _
    exact ⟨bt HBb.out hb1, (hb1.block _ (by omega)).trans HX.out, (hb1.block _ hz1).trans HY.out, setRow_heap _ _ _ _ _ _ hblk, by omega⟩)
  generalize wc.setRow yb #[.int .i64 kk, .int .i64 z2, .int .i64 0, .int .i64 0, .int .i64 0, .int .i64 0, .int .i64 0] = v0 at HS0 ⊢
  clear g0 hbc hyb hblk HX HY HBb hw1 hwa P1 P2
  by_cases h1 : kk = 1
  · have hk : kk = 1 := h1
    have HE : Hid (hQ = ⟨1, z2, 0, 1 + z3, 1 + z3, 0, 0⟩) := Lib.hid (by rw [← HQX.out, if_pos hk])
    subst hk
    obtain ⟨y0, y1, y2, y3⟩ := HS0.out.args
    obtain ⟨q0, q1, q2, q3, q4, q5, q6⟩ := qAt_of HS0.out.var
    have fz := HS0.out.frz
    simp only at y0 y1 y2 y3 q0 q1 q2 q3 q4 q5 q6
    go_upto_region 3 with fail
    clear y0 y1 y2 y3 q0 q1 q2 q3 q4 q5 q6 fz
    obtain ⟨y0, y1, y2, y3⟩ := HS0.out.args
    obtain ⟨q0, q1, q2, q3, q4, q5, q6⟩ := qAt_of HS0.out.var
    have fz := HS0.out.frz
    simp only at y0 y1 y2 y3 q0 q1 q2 q3 q4 q5 q6
    go_wp2_with fail
    (with_reducible refine (P3.out _).mono ?_)
    rintro e wx ⟨rfl, rfl⟩
    go_upto_region 4 with fail
    have HSn1 := Lib.hid (HS0.out.set (j := 3) (u := .int .i64 (1 + z3)) (q' := ⟨1, z2, 0, 1 + z3, 0, 0, 0⟩) rfl)
    generalize v0.setCell ⟨yb, 3, none⟩ (.int .i64 (1 + z3)) = v1 at HSn1 ⊢
    clear y0 y1 y2 y3 q0 q1 q2 q3 q4 q5 q6 fz
    obtain ⟨y0, y1, y2, y3⟩ := HSn1.out.args
    obtain ⟨q0, q1, q2, q3, q4, q5, q6⟩ := qAt_of HSn1.out.var
    have fz := HSn1.out.frz
    simp only at y0 y1 y2 y3 q0 q1 q2 q3 q4 q5 q6
    go_upto_region 5 with fail
    have HSn2 := Lib.hid (HSn1.out.set (j := 4) (u := .int .i64 (1 + z3)) (q' := ⟨1, z2, 0, 1 + z3, 1 + z3, 0, 0⟩) rfl)
    generalize v1.setCell ⟨yb, 4, none⟩ (.int .i64 (1 + z3)) = v2 at HSn2 ⊢
    clear y0 y1 y2 y3 q0 q1 q2 q3 q4 q5 q6 fz
    clear hw3 hw5 hw6 hw7 hwc hwd hk17
    go_wp2_with (first | (refine wpList_load_row rfl 23 _ rfl yb rfl 23 _ _ _ HSn2.out.var Try.underlying23 rfl (by kernel_rfl) ?_) | (refine wpList_store_row rfl 23 _ _ rfl (W.heap.size + 1) _ rfl rfl 23 _ HSn2.out.res (by kernel_rfl) rfl (by simp [Value.oneCell']) ?_))
    refine bodyPost_ret (v := qV ⟨1, z2, 0, 1 + z3, 1 + z3, 0, 0⟩) (results_cell_row rfl _ _ (W.heap.size + 1) 23 _ (0, 0) _ rfl (setRow_heap _ _ _ _ _ _ HSn2.out.res) Try.underlying23 rfl (by kernel_rfl)) rfl ⟨?_, below_row HSn2.out.old hWn _⟩
    rw [HE.out]
  · by_cases hc7 : kk = 7
    · have hne : (kk == 1) = false := by simp [h1]
      have HE : Hid (hQ = ⟨kk, z2, z4, z5 - 3, z5 - 3 + z6, 1 + z7, z8⟩) := Lib.hid (by rw [← HQX.out, if_neg h1, if_pos (by omega), if_pos hc7])
      have h4 : 4 ≤ kk := by omega
      have h7 : (kk == 7) = true := by simp [hc7]
      clear hc7
      clear h1 hk17
      obtain ⟨y0, y1, y2, y3⟩ := HS0.out.args
      obtain ⟨q0, q1, q2, q3, q4, q5, q6⟩ := qAt_of HS0.out.var
      have fz := HS0.out.frz
      simp only at y0 y1 y2 y3 q0 q1 q2 q3 q4 q5 q6
      go_upto_region 6 with fail
      clear y0 y1 y2 y3 q0 q1 q2 q3 q4 q5 q6 fz
      obtain ⟨y0, y1, y2, y3⟩ := HS0.out.args
      obtain ⟨q0, q1, q2, q3, q4, q5, q6⟩ := qAt_of HS0.out.var
      have fz := HS0.out.frz
      simp only at y0 y1 y2 y3 q0 q1 q2 q3 q4 q5 q6
      go_wp2_with fail
      (with_reducible refine (P4.out _).mono ?_)
      rintro e wx ⟨rfl, rfl⟩
      go_upto_region 7 with fail
      have HSn1 := Lib.hid (HS0.out.set (j := 2) (u := .int .i64 (z4)) (q' := ⟨kk, z2, z4, 0, 0, 0, 0⟩) rfl)
      generalize v0.setCell ⟨yb, 2, none⟩ (.int .i64 (z4)) = v1 at HSn1 ⊢
      clear y0 y1 y2 y3 q0 q1 q2 q3 q4 q5 q6 fz
      obtain ⟨y0, y1, y2, y3⟩ := HSn1.out.args
      obtain ⟨q0, q1, q2, q3, q4, q5, q6⟩ := qAt_of HSn1.out.var
      have fz := HSn1.out.frz
      simp only at y0 y1 y2 y3 q0 q1 q2 q3 q4 q5 q6
      go_wp2_with fail
      (with_reducible refine (P5.out _).mono ?_)
      rintro e wx ⟨rfl, rfl⟩
      go_upto_region 8 with fail
      have HSn2 := Lib.hid (HSn1.out.set (j := 3) (u := .int .i64 (z5 - 3)) (q' := ⟨kk, z2, z4, z5 - 3, 0, 0, 0⟩) rfl)
      generalize v1.setCell ⟨yb, 3, none⟩ (.int .i64 (z5 - 3)) = v2 at HSn2 ⊢
      clear y0 y1 y2 y3 q0 q1 q2 q3 q4 q5 q6 fz
      have g2 : ∀ w0, BW v2 w0 → ∀ d' os, (grow (redrawn w0 d') os).cell? ⟨W.heap.size, 2, none⟩ = some (.int .i64 c) := fun w0 h d' os => (HSn2.out.below (bt h (below_regrown w0 d' os))).args.2.2.1
      have gl : ∀ w0, BW v2 w0 → ∀ d' os, (grow (redrawn w0 d') os).cell? ⟨yb, 3, none⟩ = some (.int .i64 (z5 - 3)) := fun w0 h d' os => (qAt_of (HSn2.out.below (bt h (below_regrown w0 d' os))).var).c3
      refine wp_region_calm 8 99 [0, 1, 2, 3, 4, 5, 6, 7] (by kernel_rfl) (by kernel_rfl) (by intro oz h; simp at h) (by intro oz h; simp at h) (by rfl) ?_
      simp only [List.take_succ_cons, List.take_zero]
      iterate 5
        apply wpCalm_want
        · rfl
        · exact bc_refl
        · exact ⟨_, Below.refl _ _⟩
        · intro w0 hC0 K hK
          go_big_quiet_op
          exact hK
      apply wpCalm_want
      · rfl
      · exact bc_refl
      · exact ⟨_, Below.refl _ _⟩
      · intro w0 hC0 K hK
        go_big_quiet_op
        apply Exists.intro
        refine ⟨fun p => ?_, ?_⟩
        · exact Calls.regrown_of (P6.out _)
        · exact hK
      iterate 2
        apply wpCalm_want
        · rfl
        · exact bc_refl
        · exact ⟨_, Below.refl _ _⟩
        · intro w0 hC0 K hK
          go_big_quiet_op
          exact hK
      refine wpCalm_nil ?_
      intro wq hbq
      try simp only [List.drop_succ_cons, List.drop_zero]
      have HSq := Lib.hid (HSn2.out.below hbq)
      clear g2 gl hbq
      obtain ⟨y0, y1, y2, y3⟩ := HSq.out.args
      obtain ⟨q0, q1, q2, q3, q4, q5, q6⟩ := qAt_of HSq.out.var
      have fz := HSq.out.frz
      simp only at y0 y1 y2 y3 q0 q1 q2 q3 q4 q5 q6
      go_upto_region 9 with fail
      have HSn3 := Lib.hid (HSq.out.set (j := 4) (u := .int .i64 (z5 - 3 + z6)) (q' := ⟨kk, z2, z4, z5 - 3, z5 - 3 + z6, 0, 0⟩) rfl)
      generalize wq.setCell ⟨yb, 4, none⟩ (.int .i64 (z5 - 3 + z6)) = v3 at HSn3 ⊢
      clear y0 y1 y2 y3 q0 q1 q2 q3 q4 q5 q6 fz
      obtain ⟨y0, y1, y2, y3⟩ := HSn3.out.args
      obtain ⟨q0, q1, q2, q3, q4, q5, q6⟩ := qAt_of HSn3.out.var
      have fz := HSn3.out.frz
      simp only at y0 y1 y2 y3 q0 q1 q2 q3 q4 q5 q6
      go_upto_region 10 with fail
      clear y0 y1 y2 y3 q0 q1 q2 q3 q4 q5 q6 fz
      obtain ⟨y0, y1, y2, y3⟩ := HSn3.out.args
      obtain ⟨q0, q1, q2, q3, q4, q5, q6⟩ := qAt_of HSn3.out.var
      have fz := HSn3.out.frz
      simp only at y0 y1 y2 y3 q0 q1 q2 q3 q4 q5 q6
      go_wp2_with fail
      (with_reducible refine (P7.out _).mono ?_)
      rintro e wx ⟨rfl, rfl⟩
      go_upto_region 11 with fail
      have HSn4 := Lib.hid (HSn3.out.set (j := 5) (u := .int .i64 (1 + z7)) (q' := ⟨kk, z2, z4, z5 - 3, z5 - 3 + z6, 1 + z7, 0⟩) rfl)
      generalize v3.setCell ⟨yb, 5, none⟩ (.int .i64 (1 + z7)) = v4 at HSn4 ⊢
      clear y0 y1 y2 y3 q0 q1 q2 q3 q4 q5 q6 fz
      obtain ⟨y0, y1, y2, y3⟩ := HSn4.out.args
      obtain ⟨q0, q1, q2, q3, q4, q5, q6⟩ := qAt_of HSn4.out.var
      have fz := HSn4.out.frz
      simp only at y0 y1 y2 y3 q0 q1 q2 q3 q4 q5 q6
      go_upto_region 12 with fail
      clear y0 y1 y2 y3 q0 q1 q2 q3 q4 q5 q6 fz
      obtain ⟨y0, y1, y2, y3⟩ := HSn4.out.args
      obtain ⟨q0, q1, q2, q3, q4, q5, q6⟩ := qAt_of HSn4.out.var
      have fz := HSn4.out.frz
      simp only at y0 y1 y2 y3 q0 q1 q2 q3 q4 q5 q6
      go_wp2_with fail
      (with_reducible refine (P8.out _).mono ?_)
      rintro e wx ⟨rfl, rfl⟩
      go_upto_region 13 with fail
      have HSn5 := Lib.hid (HSn4.out.set (j := 6) (u := .int .i64 (z8)) (q' := ⟨kk, z2, z4, z5 - 3, z5 - 3 + z6, 1 + z7, z8⟩) rfl)
      generalize v4.setCell ⟨yb, 6, none⟩ (.int .i64 (z8)) = v5 at HSn5 ⊢
      clear y0 y1 y2 y3 q0 q1 q2 q3 q4 q5 q6 fz
      go_wp2_with (first | (refine wpList_load_row rfl 23 _ rfl yb rfl 23 _ _ _ HSn5.out.var Try.underlying23 rfl (by kernel_rfl) ?_) | (refine wpList_store_row rfl 23 _ _ rfl (W.heap.size + 1) _ rfl rfl 23 _ HSn5.out.res (by kernel_rfl) rfl (by simp [Value.oneCell']) ?_))
      refine bodyPost_ret (v := qV ⟨kk, z2, z4, z5 - 3, z5 - 3 + z6, 1 + z7, z8⟩) (results_cell_row rfl _ _ (W.heap.size + 1) 23 _ (0, 0) _ rfl (setRow_heap _ _ _ _ _ _ HSn5.out.res) Try.underlying23 rfl (by kernel_rfl)) rfl ⟨?_, below_row HSn5.out.old hWn _⟩
      rw [HE.out]
    · by_cases hc4 : 4 ≤ kk
      · have hne : (kk == 1) = false := by simp [h1]
        have h4 : 4 ≤ kk := by omega
        have h7 : (kk == 7) = false := by simp; omega
        have HE : Hid (hQ = ⟨kk, z2, z4, z5 - 3, z5 - 3 + z6, 1 + z7, 0⟩) := Lib.hid (by rw [← HQX.out, if_neg h1, if_pos h4, if_neg (by omega)])
        clear h1 hk17
        obtain ⟨y0, y1, y2, y3⟩ := HS0.out.args
        obtain ⟨q0, q1, q2, q3, q4, q5, q6⟩ := qAt_of HS0.out.var
        have fz := HS0.out.frz
        simp only at y0 y1 y2 y3 q0 q1 q2 q3 q4 q5 q6
        go_upto_region 6 with fail
        clear y0 y1 y2 y3 q0 q1 q2 q3 q4 q5 q6 fz
        obtain ⟨y0, y1, y2, y3⟩ := HS0.out.args
        obtain ⟨q0, q1, q2, q3, q4, q5, q6⟩ := qAt_of HS0.out.var
        have fz := HS0.out.frz
        simp only at y0 y1 y2 y3 q0 q1 q2 q3 q4 q5 q6
        go_wp2_with fail
        (with_reducible refine (P4.out _).mono ?_)
        rintro e wx ⟨rfl, rfl⟩
        go_upto_region 7 with fail
        have HSn1 := Lib.hid (HS0.out.set (j := 2) (u := .int .i64 (z4)) (q' := ⟨kk, z2, z4, 0, 0, 0, 0⟩) rfl)
        generalize v0.setCell ⟨yb, 2, none⟩ (.int .i64 (z4)) = v1 at HSn1 ⊢
        clear y0 y1 y2 y3 q0 q1 q2 q3 q4 q5 q6 fz
        obtain ⟨y0, y1, y2, y3⟩ := HSn1.out.args
        obtain ⟨q0, q1, q2, q3, q4, q5, q6⟩ := qAt_of HSn1.out.var
        have fz := HSn1.out.frz
        simp only at y0 y1 y2 y3 q0 q1 q2 q3 q4 q5 q6
        go_wp2_with fail
        (with_reducible refine (P5.out _).mono ?_)
        rintro e wx ⟨rfl, rfl⟩
        go_upto_region 8 with fail
        have HSn2 := Lib.hid (HSn1.out.set (j := 3) (u := .int .i64 (z5 - 3)) (q' := ⟨kk, z2, z4, z5 - 3, 0, 0, 0⟩) rfl)
        generalize v1.setCell ⟨yb, 3, none⟩ (.int .i64 (z5 - 3)) = v2 at HSn2 ⊢
        clear y0 y1 y2 y3 q0 q1 q2 q3 q4 q5 q6 fz
        have g2 : ∀ w0, BW v2 w0 → ∀ d' os, (grow (redrawn w0 d') os).cell? ⟨W.heap.size, 2, none⟩ = some (.int .i64 c) := fun w0 h d' os => (HSn2.out.below (bt h (below_regrown w0 d' os))).args.2.2.1
        have gl : ∀ w0, BW v2 w0 → ∀ d' os, (grow (redrawn w0 d') os).cell? ⟨yb, 3, none⟩ = some (.int .i64 (z5 - 3)) := fun w0 h d' os => (qAt_of (HSn2.out.below (bt h (below_regrown w0 d' os))).var).c3
        refine wp_region_calm 8 99 [0, 1, 2, 3, 4, 5, 6, 7] (by kernel_rfl) (by kernel_rfl) (by intro oz h; simp at h) (by intro oz h; simp at h) (by rfl) ?_
        simp only [List.take_succ_cons, List.take_zero]
        iterate 5
          apply wpCalm_want
          · rfl
          · exact bc_refl
          · exact ⟨_, Below.refl _ _⟩
          · intro w0 hC0 K hK
            go_big_quiet_op
            exact hK
        apply wpCalm_want
        · rfl
        · exact bc_refl
        · exact ⟨_, Below.refl _ _⟩
        · intro w0 hC0 K hK
          go_big_quiet_op
          apply Exists.intro
          refine ⟨fun p => ?_, ?_⟩
          · exact Calls.regrown_of (P6.out _)
          · exact hK
        iterate 2
          apply wpCalm_want
          · rfl
          · exact bc_refl
          · exact ⟨_, Below.refl _ _⟩
          · intro w0 hC0 K hK
            go_big_quiet_op
            exact hK
        refine wpCalm_nil ?_
        intro wq hbq
        try simp only [List.drop_succ_cons, List.drop_zero]
        have HSq := Lib.hid (HSn2.out.below hbq)
        clear g2 gl hbq
        obtain ⟨y0, y1, y2, y3⟩ := HSq.out.args
        obtain ⟨q0, q1, q2, q3, q4, q5, q6⟩ := qAt_of HSq.out.var
        have fz := HSq.out.frz
        simp only at y0 y1 y2 y3 q0 q1 q2 q3 q4 q5 q6
        go_upto_region 9 with fail
        have HSn3 := Lib.hid (HSq.out.set (j := 4) (u := .int .i64 (z5 - 3 + z6)) (q' := ⟨kk, z2, z4, z5 - 3, z5 - 3 + z6, 0, 0⟩) rfl)
        generalize wq.setCell ⟨yb, 4, none⟩ (.int .i64 (z5 - 3 + z6)) = v3 at HSn3 ⊢
        clear y0 y1 y2 y3 q0 q1 q2 q3 q4 q5 q6 fz
        obtain ⟨y0, y1, y2, y3⟩ := HSn3.out.args
        obtain ⟨q0, q1, q2, q3, q4, q5, q6⟩ := qAt_of HSn3.out.var
        have fz := HSn3.out.frz
        simp only at y0 y1 y2 y3 q0 q1 q2 q3 q4 q5 q6
        go_upto_region 10 with fail
        clear y0 y1 y2 y3 q0 q1 q2 q3 q4 q5 q6 fz
        obtain ⟨y0, y1, y2, y3⟩ := HSn3.out.args
        obtain ⟨q0, q1, q2, q3, q4, q5, q6⟩ := qAt_of HSn3.out.var
        have fz := HSn3.out.frz
        simp only at y0 y1 y2 y3 q0 q1 q2 q3 q4 q5 q6
        go_wp2_with fail
        (with_reducible refine (P7.out _).mono ?_)
        rintro e wx ⟨rfl, rfl⟩
        go_upto_region 11 with fail
        have HSn4 := Lib.hid (HSn3.out.set (j := 5) (u := .int .i64 (1 + z7)) (q' := ⟨kk, z2, z4, z5 - 3, z5 - 3 + z6, 1 + z7, 0⟩) rfl)
        generalize v3.setCell ⟨yb, 5, none⟩ (.int .i64 (1 + z7)) = v4 at HSn4 ⊢
        clear y0 y1 y2 y3 q0 q1 q2 q3 q4 q5 q6 fz
        obtain ⟨y0, y1, y2, y3⟩ := HSn4.out.args
        obtain ⟨q0, q1, q2, q3, q4, q5, q6⟩ := qAt_of HSn4.out.var
        have fz := HSn4.out.frz
        simp only at y0 y1 y2 y3 q0 q1 q2 q3 q4 q5 q6
        go_upto_region 13 with fail
        clear y0 y1 y2 y3 q0 q1 q2 q3 q4 q5 q6 fz
        go_wp2_with (first | (refine wpList_load_row rfl 23 _ rfl yb rfl 23 _ _ _ HSn4.out.var Try.underlying23 rfl (by kernel_rfl) ?_) | (refine wpList_store_row rfl 23 _ _ rfl (W.heap.size + 1) _ rfl rfl 23 _ HSn4.out.res (by kernel_rfl) rfl (by simp [Value.oneCell']) ?_))
        refine bodyPost_ret (v := qV ⟨kk, z2, z4, z5 - 3, z5 - 3 + z6, 1 + z7, 0⟩) (results_cell_row rfl _ _ (W.heap.size + 1) 23 _ (0, 0) _ rfl (setRow_heap _ _ _ _ _ _ HSn4.out.res) Try.underlying23 rfl (by kernel_rfl)) rfl ⟨?_, below_row HSn4.out.old hWn _⟩
        rw [HE.out]
      · have hne : (kk == 1) = false := by simp [h1]
        have h4 : ¬ 4 ≤ kk := by omega
        have h7 : (kk == 7) = false := by simp; omega
        have HE : Hid (hQ = ⟨kk, z2, z4, z5 - 3, z5 - 3 + z6, 0, 0⟩) := Lib.hid (by rw [← HQX.out, if_neg h1, if_neg h4, if_neg (by omega)])
        clear h1 hk17
        obtain ⟨y0, y1, y2, y3⟩ := HS0.out.args
        obtain ⟨q0, q1, q2, q3, q4, q5, q6⟩ := qAt_of HS0.out.var
        have fz := HS0.out.frz
        simp only at y0 y1 y2 y3 q0 q1 q2 q3 q4 q5 q6
        go_upto_region 6 with fail
        clear y0 y1 y2 y3 q0 q1 q2 q3 q4 q5 q6 fz
        obtain ⟨y0, y1, y2, y3⟩ := HS0.out.args
        obtain ⟨q0, q1, q2, q3, q4, q5, q6⟩ := qAt_of HS0.out.var
        have fz := HS0.out.frz
        simp only at y0 y1 y2 y3 q0 q1 q2 q3 q4 q5 q6
        go_wp2_with fail
        (with_reducible refine (P4.out _).mono ?_)
        rintro e wx ⟨rfl, rfl⟩
        go_upto_region 7 with fail
        have HSn1 := Lib.hid (HS0.out.set (j := 2) (u := .int .i64 (z4)) (q' := ⟨kk, z2, z4, 0, 0, 0, 0⟩) rfl)
        generalize v0.setCell ⟨yb, 2, none⟩ (.int .i64 (z4)) = v1 at HSn1 ⊢
        clear y0 y1 y2 y3 q0 q1 q2 q3 q4 q5 q6 fz
        obtain ⟨y0, y1, y2, y3⟩ := HSn1.out.args
        obtain ⟨q0, q1, q2, q3, q4, q5, q6⟩ := qAt_of HSn1.out.var
        have fz := HSn1.out.frz
        simp only at y0 y1 y2 y3 q0 q1 q2 q3 q4 q5 q6
        go_wp2_with fail
        (with_reducible refine (P5.out _).mono ?_)
        rintro e wx ⟨rfl, rfl⟩
        go_upto_region 8 with fail
        have HSn2 := Lib.hid (HSn1.out.set (j := 3) (u := .int .i64 (z5 - 3)) (q' := ⟨kk, z2, z4, z5 - 3, 0, 0, 0⟩) rfl)
        generalize v1.setCell ⟨yb, 3, none⟩ (.int .i64 (z5 - 3)) = v2 at HSn2 ⊢
        clear y0 y1 y2 y3 q0 q1 q2 q3 q4 q5 q6 fz
        have g2 : ∀ w0, BW v2 w0 → ∀ d' os, (grow (redrawn w0 d') os).cell? ⟨W.heap.size, 2, none⟩ = some (.int .i64 c) := fun w0 h d' os => (HSn2.out.below (bt h (below_regrown w0 d' os))).args.2.2.1
        have gl : ∀ w0, BW v2 w0 → ∀ d' os, (grow (redrawn w0 d') os).cell? ⟨yb, 3, none⟩ = some (.int .i64 (z5 - 3)) := fun w0 h d' os => (qAt_of (HSn2.out.below (bt h (below_regrown w0 d' os))).var).c3
        refine wp_region_calm 8 99 [0, 1, 2, 3, 4, 5, 6, 7] (by kernel_rfl) (by kernel_rfl) (by intro oz h; simp at h) (by intro oz h; simp at h) (by rfl) ?_
        simp only [List.take_succ_cons, List.take_zero]
        iterate 5
          apply wpCalm_want
          · rfl
          · exact bc_refl
          · exact ⟨_, Below.refl _ _⟩
          · intro w0 hC0 K hK
            go_big_quiet_op
            exact hK
        apply wpCalm_want
        · rfl
        · exact bc_refl
        · exact ⟨_, Below.refl _ _⟩
        · intro w0 hC0 K hK
          go_big_quiet_op
          apply Exists.intro
          refine ⟨fun p => ?_, ?_⟩
          · exact Calls.regrown_of (P6.out _)
          · exact hK
        iterate 2
          apply wpCalm_want
          · rfl
          · exact bc_refl
          · exact ⟨_, Below.refl _ _⟩
          · intro w0 hC0 K hK
            go_big_quiet_op
            exact hK
        refine wpCalm_nil ?_
        intro wq hbq
        try simp only [List.drop_succ_cons, List.drop_zero]
        have HSq := Lib.hid (HSn2.out.below hbq)
        clear g2 gl hbq
        obtain ⟨y0, y1, y2, y3⟩ := HSq.out.args
        obtain ⟨q0, q1, q2, q3, q4, q5, q6⟩ := qAt_of HSq.out.var
        have fz := HSq.out.frz
        simp only at y0 y1 y2 y3 q0 q1 q2 q3 q4 q5 q6
        go_upto_region 9 with fail
        have HSn3 := Lib.hid (HSq.out.set (j := 4) (u := .int .i64 (z5 - 3 + z6)) (q' := ⟨kk, z2, z4, z5 - 3, z5 - 3 + z6, 0, 0⟩) rfl)
        generalize wq.setCell ⟨yb, 4, none⟩ (.int .i64 (z5 - 3 + z6)) = v3 at HSn3 ⊢
        clear y0 y1 y2 y3 q0 q1 q2 q3 q4 q5 q6 fz
        obtain ⟨y0, y1, y2, y3⟩ := HSn3.out.args
        obtain ⟨q0, q1, q2, q3, q4, q5, q6⟩ := qAt_of HSn3.out.var
        have fz := HSn3.out.frz
        simp only at y0 y1 y2 y3 q0 q1 q2 q3 q4 q5 q6
        go_upto_region 11 with fail
        clear y0 y1 y2 y3 q0 q1 q2 q3 q4 q5 q6 fz
        obtain ⟨y0, y1, y2, y3⟩ := HSn3.out.args
        obtain ⟨q0, q1, q2, q3, q4, q5, q6⟩ := qAt_of HSn3.out.var
        have fz := HSn3.out.frz
        simp only at y0 y1 y2 y3 q0 q1 q2 q3 q4 q5 q6
        go_upto_region 13 with fail
        clear y0 y1 y2 y3 q0 q1 q2 q3 q4 q5 q6 fz
        go_wp2_with (first | (refine wpList_load_row rfl 23 _ rfl yb rfl 23 _ _ _ HSn3.out.var Try.underlying23 rfl (by kernel_rfl) ?_) | (refine wpList_store_row rfl 23 _ _ rfl (W.heap.size + 1) _ rfl rfl 23 _ HSn3.out.res (by kernel_rfl) rfl (by simp [Value.oneCell']) ?_))
        refine bodyPost_ret (v := qV ⟨kk, z2, z4, z5 - 3, z5 - 3 + z6, 0, 0⟩) (results_cell_row rfl _ _ (W.heap.size + 1) 23 _ (0, 0) _ rfl (setRow_heap _ _ _ _ _ _ HSn3.out.res) Try.underlying23 rfl (by kernel_rfl)) rfl ⟨?_, below_row HSn3.out.old hWn _⟩
        rw [HE.out]
end Go.Proofs.Ytcffofjialihaaa
end

section
set_option linter.unusedVariables false
set_option linter.unusedSimpArgs false
namespace Go.Proofs.Ytcffofjialihaaa
open Go.RowKit Go.Sort Go.ChangeMaps Go.MapKept

/-- A slice that reads as n lists of four integers. -/
def XS4 (w : World) (v : Value) (n : Nat) : Prop :=
  ∃ a cap, v = .slice a n cap ∧ n ≤ cap ∧ cap ≤ 9223372036854775807 ∧ (1 ≤ n → ∃ b o, a = some ⟨b, o, none⟩ ∧ b < w.heap.size ∧ ∀ i j, i < n → j < 4 → ∃ z, I64 z ∧ w.cell? ⟨b, o + i * 4 + j, none⟩ = some (.int .i64 z))
theorem XS4.below {w w1 : World} {v : Value} {n : Nat} (h : XS4 w v n) (hb1 : Below w.heap.size w w1) : XS4 w1 v n := by
  obtain ⟨a, cap, e, h1, h2, h3⟩ := h
  refine ⟨a, cap, e, h1, h2, fun hh => ?_⟩
  obtain ⟨b, o, ea, hb, hc⟩ := h3 hh
  refine ⟨b, o, ea, Nat.lt_of_lt_of_le hb hb1.size, fun i j hi hj => ?_⟩
  obtain ⟨z, hz, hcz⟩ := hc i j hi hj
  exact ⟨z, hz, (hb1.cell (p := ⟨b, o + i * 4 + j, none⟩) hb).trans hcz⟩
/-- The changes that 'changes' makes. -/
def SmallK (c : MCh) : Prop := 0 ≤ c.t ∧ c.t ≤ 1 ∧ 1 ≤ c.k ∧ c.k ≤ 12
/-- What 'changes' returns. -/
def CgOut (W : World) (e : Ending) (w' : World) : Prop :=
  ∃ R u, e = .returned u ∧ RecS w' u R ∧ Chn R ∧ R.length ≤ 40 ∧ (∀ r ∈ R, ∃ c, r.chs = [c] ∧ SmallK c) ∧ Below W.heap.size W w'
def CgSt (W wr : World) (b : Nat) (vo : Value) (n : Nat) : Prop :=
  ∃ Q vs, RfAt wr b vs (rowsOf (Q.map Prod.fst)) Q.length ∧ OwnQ wr W.heap.size vo Q ∧ (∀ q ∈ Q, OwnC wr W.heap.size q.2 q.1.chs) ∧ Chn (Q.map Prod.fst) ∧ (∀ q ∈ Q, ∃ c, q.1.chs = [c] ∧ SmallK c) ∧ Q.length ≤ n ∧ Below W.heap.size W wr
theorem CgSt.below {W w w' : World} {b n : Nat} {vo : Value} (h : CgSt W w b vo n) (k : Below w.heap.size w w') : CgSt W w' b vo n := by
  obtain ⟨Q, vs, h1, h2, h3, h4, h5, h6, h7⟩ := h
  exact ⟨Q, vs, h1.below k, h2.below k, fun q hq => (h3 q hq).below k, h4, h5, h6, bt h7 k⟩

set_option maxRecDepth 100000 in
set_option maxHeartbeats 16000000 in
theorem changes_any {W : World} {v : Value} {n : Nat} (h : XS4 W v n) : Calls Try.prog 23 #[v] W (CgOut W) := by
  obtain ⟨a, cap, rfl, hc1, hc2, hcell⟩ := h
  have HX : Hid (1 ≤ n → ∃ b o, a = some ⟨b, o, none⟩ ∧ b < W.heap.size ∧ ∀ i j, i < n → j < 4 → ∃ z, I64 z ∧ W.cell? ⟨b, o + i * 4 + j, none⟩ = some (.int .i64 z)) := Lib.hid hcell
  clear hcell
  go_enter Try.func23, Try.ntmps23
  go_upto_region 3 with fail
  have HL1 : Hid (CgSt W (W.alloc (.cells #[.slice none 0 0, .int .i64 0] 102)) W.heap.size (.slice none 0 0) 0) := Lib.hid ⟨[], _, rfAt_new W, OwnQ.nil _ _, fun q hq => by simp at hq, Chn.nil, fun q hq => by simp at hq, Nat.le_refl _, ba _ _⟩
  generalize W.alloc (.cells #[.slice none 0 0, .int .i64 0] 102) = w1 at HL1 ⊢
  go_wp2_with fail
  go_loopw [4, 5] (fun vo i wr => ∃ k : Nat, k ≤ n ∧ k ≤ 40 ∧ i = .int .i64 k ∧ Hid (CgSt W wr W.heap.size vo k)) (fun _ i _ => 41 - (intOf i).toNat)
  case atStart => exact ⟨0, by omega, by omega, rfl, HL1⟩
  case round =>
    obtain ⟨k, hk, hk40, rfl, HL⟩ := hrel
    obtain ⟨vo, hvo⟩ : ∃ v, v = u4 := ⟨_, rfl⟩
    subst hvo
    clear HL1
    by_cases hlt : k < n
    · by_cases hlt40 : k < 40
      · have hki : (k : Int) < 40 := by omega
        have Hk41 : Hid (k + 1 ≤ 40) := Lib.hid (by omega)
        obtain ⟨vb, xo, rfl, hvb, hxs⟩ := HX.out (by omega)
        have HBw : Hid (Below W.heap.size W wr) := Lib.hid (by
          obtain ⟨_, _, _, _, _, _, _, _, h7⟩ := HL.out
          exact h7)
        obtain ⟨z0, hz0, x0⟩ := hxs k 0 hlt (by omega)
        obtain ⟨z1, hz1, x1⟩ := hxs k 1 hlt (by omega)
        obtain ⟨z2, hz2, x2⟩ := hxs k 2 hlt (by omega)
        obtain ⟨z3, hz3, x3⟩ := hxs k 3 hlt (by omega)
        have HR := Lib.hid (fun w => row_any ⟨z0, z1, z2, z3⟩ ⟨hz0, hz1, hz2, hz3⟩ w)
        have HPk := Lib.hid (fun w => pick6_any z3 4 w hz3 (by omega) (by omega))
        have HZ3 := Lib.hid x3
        obtain ⟨pz, Hpz⟩ : ∃ p, Hid (pk z3 4 = p) := ⟨_, Lib.hid rfl⟩
        simp only [Hpz.out] at HPk
        have hrt := pk_range z0 (n := 2) (by omega)
        have hrk := pk_range (Int.tdiv z0 2) (n := 12) (by omega)
        obtain ⟨⟨rt, rk, ⟨ra, rb, rc⟩⟩, Hr⟩ : ∃ r, Hid (rowX ⟨z0, z1, z2, z3⟩ = r) := ⟨_, Lib.hid rfl⟩
        have HSm : Hid (0 ≤ rt ∧ rt ≤ 1 ∧ 1 ≤ rk ∧ rk ≤ 12) := Lib.hid (by
          have e := Hr.out
          unfold rowX at e
          simp only [MRow.mk.injEq] at e
          rw [← e.1, ← e.2.1]
          omega)
        rw [Hr.out] at HR
        unfold rowV x4V at HR
        simp only at HR
        replace x0 := (HBw.out.cell (p := ⟨vb, xo + k * 4 + 0, none⟩) hvb).trans x0
        replace x1 := (HBw.out.cell (p := ⟨vb, xo + k * 4 + 1, none⟩) hvb).trans x1
        replace x2 := (HBw.out.cell (p := ⟨vb, xo + k * 4 + 2, none⟩) hvb).trans x2
        replace x3 := (HBw.out.cell (p := ⟨vb, xo + k * 4 + 3, none⟩) hvb).trans x3
        rw [Nat.add_zero] at x0
        have hvr : vb < wr.heap.size := Nat.lt_of_lt_of_le hvb HBw.out.size
        clear hxs hz0 hz1 hz2 hz3 hrt hrk Hpz Hr
        go_wp2_with fail
        (with_reducible refine (HR.out _).mono ?_)
        rintro e w2 ⟨rfl, hb2⟩
        clear x0 x1 x2 x3
        go_upto_region 8 with fail
        generalize hw4 : (w2.alloc (.cells #[.int .i64 rt, .int .i64 rk, .int .i64 ra, .int .i64 rb, .int .i64 rc] 31)).alloc (.cells #[.int .i64 rt, .int .i64 rk, .bool false, .int .i64 0, .int .i64 0, .int .i64 0, .bool true, .int .i64 ra, .int .i64 rb, .int .i64 rc] 58) = w4
        have HB24 : Hid (Below w2.heap.size w2 w4) := Lib.hid (by rw [← hw4]; exact bt (ba w2 _) (ba _ _))
        have HB4 : Hid (Below wr.heap.size wr w4) := Lib.hid (bt hb2 HB24.out)
        have HRo : Hid (w4.heap[w2.heap.size]? = some (.cells #[.int .i64 rt, .int .i64 rk, .int .i64 ra, .int .i64 rb, .int .i64 rc] 31 (0, 0))) := Lib.hid (by
          rw [← hw4]
          exact ((ba (w2.alloc _) _).block _ (by simp)).trans (heap_alloc_new w2 _))
        have HCb : Hid (w4.heap[w2.heap.size + 1]? = some (.cells (chCells ⟨rt, rk, false, ⟨0, 0, 0⟩, true, ⟨ra, rb, rc⟩⟩) 58 (0, 0))) := Lib.hid (by
          rw [← hw4]
          have h := heap_alloc_new (w2.alloc (.cells #[.int .i64 rt, .int .i64 rk, .int .i64 ra, .int .i64 rb, .int .i64 rc] 31)) (.cells #[.int .i64 rt, .int .i64 rk, .bool false, .int .i64 0, .int .i64 0, .int .i64 0, .bool true, .int .i64 ra, .int .i64 rb, .int .i64 rc] 58)
          rw [World.size_alloc] at h
          exact h)
        obtain ⟨rbk, Hrbk⟩ : ∃ x, Hid (w2.heap.size = x) := ⟨_, Lib.hid rfl⟩
        have hrb : wr.heap.size ≤ rbk := by rw [← Hrbk.out]; exact hb2.size
        rw [Hrbk.out] at HRo HCb ⊢
        obtain ⟨cb, Hcb⟩ : ∃ x, Hid (rbk + 1 = x) := ⟨_, Lib.hid rfl⟩
        have hcb : wr.heap.size ≤ cb := by rw [← Hcb.out]; omega
        rw [Hcb.out] at HCb ⊢
        clear hw4 hb2
        obtain ⟨Q, vs, HF0, HO0, HCs0, HCh0, HSm0, hQl, _⟩ := HL.out
        have HRf4 := Lib.hid (HF0.below HB4.out)
        obtain ⟨ok, Hok⟩ : ∃ ok, Hid ((look (rowsOf (Q.map Prod.fst)) rt rk).isSome = ok) := ⟨_, Lib.hid rfl⟩
        obtain ⟨⟨lt', lk, ⟨la, lb, lc⟩⟩, Hlr⟩ : ∃ r, Hid ((look (rowsOf (Q.map Prod.fst)) rt rk).getD rowZ = r) := ⟨_, Lib.hid rfl⟩
        have HG := Lib.hid (getR_any HRf4.out rt rk)
        rw [Hok.out, Hlr.out] at HG
        unfold rowV at HG
        simp only at HG
        clear HF0 HO0 HCs0 HCh0 HSm0 hQl Hok Hlr
        have r0 : w4.cell? ⟨rbk, 0, none⟩ = some (.int .i64 rt) := by simp [World.cell?, HRo.out]
        have r1 : w4.cell? ⟨rbk, 1, none⟩ = some (.int .i64 rk) := by simp [World.cell?, HRo.out]
        go_wp2_with fail
        refine HG.out.mono ?_
        rintro e w5 ⟨rfl, hb5⟩
        clear r0 r1
        go_upto_region 9 with fail
        generalize hw6 : w5.alloc (.cells #[.int .i64 lt', .int .i64 lk, .int .i64 la, .int .i64 lb, .int .i64 lc] 31) = w6
        have HB6 : Hid (Below w4.heap.size w4 w6) := Lib.hid (by rw [← hw6]; exact bt hb5 (ba w5 _))
        have HOl : Hid (w6.heap[w5.heap.size]? = some (.cells #[.int .i64 lt', .int .i64 lk, .int .i64 la, .int .i64 lb, .int .i64 lc] 31 (0, 0))) := Lib.hid (by rw [← hw6]; exact heap_alloc_new w5 _)
        have HC6 := Lib.hid ((HB6.out.block _ (lt_of_block HCb.out)).trans HCb.out)
        have HBr6 := Lib.hid (bt HB4.out HB6.out)
        have hcl : cb ≠ w5.heap.size := by have h1 := lt_of_block HCb.out; have h2 := hb5.size; omega
        clear hw6 hb5 HG
        go_upto_if 44 with fail
        go_cut [] (fun wy => ∃ c : MCh, Hid (SmallK c) ∧ Hid (Below wr.heap.size wr wy) ∧ Hid (wy.heap[cb]? = some (.cells (chCells c) 58 (0, 0))))
        case first =>
          cases ok
          · go_wp2_with fail
            go_meet
            exact ⟨⟨rt, rk, false, ⟨0, 0, 0⟩, true, ⟨ra, rb, rc⟩⟩, HSm, HBr6, HC6⟩
          · obtain ⟨⟨e0, e1, e2, e3, e4, e5, e6, e7, e8, e9⟩, f0⟩ := CBk.cells ⟨HC6.out, Kept.refl (fun i => i = cb) w6⟩
            have l2 : w6.cell? ⟨w5.heap.size, 2, none⟩ = some (.int .i64 la) := by simp [World.cell?, HOl.out]
            have l3 : w6.cell? ⟨w5.heap.size, 3, none⟩ = some (.int .i64 lb) := by simp [World.cell?, HOl.out]
            have l4 : w6.cell? ⟨w5.heap.size, 4, none⟩ = some (.int .i64 lc) := by simp [World.cell?, HOl.out]
            have hcl' : ¬ w5.heap.size = cb := fun e => hcl e.symm
            go_upto_region 12 with fail
            have HC7 : Hid (((((w6.setCell ⟨cb, 2, none⟩ (.bool true)).setCell ⟨cb, 3, none⟩ (.int .i64 la)).setCell ⟨cb, 4, none⟩ (.int .i64 lb)).setCell ⟨cb, 5, none⟩ (.int .i64 lc)).heap[cb]? = some (.cells (chCells ⟨rt, rk, true, ⟨la, lb, lc⟩, true, ⟨ra, rb, rc⟩⟩) 58 (0, 0))) := Lib.hid (setCell_heap (setCell_heap (setCell_heap (setCell_heap HC6.out 2 _) 3 _) 4 _) 5 _)
            have HB7 : Hid (Below wr.heap.size wr ((((w6.setCell ⟨cb, 2, none⟩ (.bool true)).setCell ⟨cb, 3, none⟩ (.int .i64 la)).setCell ⟨cb, 4, none⟩ (.int .i64 lb)).setCell ⟨cb, 5, none⟩ (.int .i64 lc))) := Lib.hid (below_setCell (below_setCell (below_setCell (below_setCell HBr6.out hcb _) hcb _) hcb _) hcb _)
            generalize (((w6.setCell ⟨cb, 2, none⟩ (.bool true)).setCell ⟨cb, 3, none⟩ (.int .i64 la)).setCell ⟨cb, 4, none⟩ (.int .i64 lb)).setCell ⟨cb, 5, none⟩ (.int .i64 lc) = w7 at HC7 HB7 ⊢
            clear e0 e1 e2 e3 e4 e5 e6 e7 e8 e9 f0 l2 l3 l4 hcl'
            obtain ⟨⟨e0, e1, e2, e3, e4, e5, e6, e7, e8, e9⟩, f0⟩ := CBk.cells ⟨HC7.out, Kept.refl (fun i => i = cb) w7⟩
            have x3 : w7.cell? ⟨vb, xo + k * 4 + 3, none⟩ = some (.int .i64 z3) := ((bt HBw.out HB7.out).cell (p := ⟨vb, xo + k * 4 + 3, none⟩) hvb).trans HZ3.out
            have hvn : ¬ vb = cb := by omega
            by_cases hp : pz = 0
            · have hp0 : (pz == 0) = true := by simp [hp]
              clear hp
              go_wp2_with fail
              (with_reducible refine (HPk.out _).mono ?_)
              rintro e wx ⟨rfl, rfl⟩
              go_wp2_with fail
              go_meet
              exact ⟨⟨rt, rk, true, ⟨la, lb, lc⟩, false, ⟨0, 0, 0⟩⟩, HSm, Lib.hid (below_setCell (below_setCell (below_setCell (below_setCell HB7.out hcb _) hcb _) hcb _) hcb _), Lib.hid (setCell_heap (setCell_heap (setCell_heap (setCell_heap HC7.out 6 _) 7 _) 8 _) 9 _)⟩
            · have hp0 : (pz == 0) = false := by simp [hp]
              clear hp
              go_wp2_with fail
              (with_reducible refine (HPk.out _).mono ?_)
              rintro e wx ⟨rfl, rfl⟩
              go_wp2_with fail
              go_meet
              exact ⟨⟨rt, rk, true, ⟨la, lb, lc⟩, true, ⟨ra, rb, rc⟩⟩, HSm, HB7, HC7⟩
        case rest =>
          obtain ⟨c, HSc, HBy, HCy⟩ := hcut
          rename World => wy
          clear HC6 HBr6 HOl HCb HRo HRf4 HB4 HB24 HB6 HPk HR hcl
          obtain ⟨Q, vs, HF0, HO0, HCs0, HCh0, HSm0, hQl, hBw⟩ := (CgSt.below HL.out HBy.out)
          have HRf := Lib.hid HF0
          have HOQ := Lib.hid HO0
          have HCsQ := Lib.hid HCs0
          have HChQ := Lib.hid HCh0
          have HSmQ := Lib.hid HSm0
          have HBr := Lib.hid hBw
          have HQk := Lib.hid hQl
          have hQ1 : Q.length ≤ 1000 := by omega
          have hqv : ∃ a n c, vo = .slice a n c := by
            rcases HO0.2 with ⟨rfl, _⟩ | ⟨g, cap, cur, rfl, _⟩
            · exact ⟨_, _, _, rfl⟩
            · exact ⟨_, _, _, rfl⟩
          obtain ⟨oa, on, oc, rfl⟩ := hqv
          have hon : on = Q.length := by
            rcases HO0.2 with ⟨e, e2⟩ | ⟨g, cap, cur, e, _⟩
            · simp at e; omega
            · simp at e; omega
          subst hon
          obtain ⟨⟨ct, ck, chad, ⟨coa, cob, coc⟩, chas, ⟨cna, cnb, cnc⟩⟩, Hc⟩ : ∃ x, Hid (c = x) := ⟨_, Lib.hid rfl⟩
          rw [Hc.out] at HCy HSc
          obtain ⟨⟨e0, e1, e2, e3, e4, e5, e6, e7, e8, e9⟩, f0⟩ := CBk.cells ⟨HCy.out, Kept.refl (fun i => i = cb) wy⟩
          have hcy := lt_of_block HCy.out
          have hcyn : ¬ cb = wy.heap.size := by omega
          clear HF0 HO0 HCs0 HCh0 HSm0 hQl hBw
          go_upto_region 16 with fail
          have HB8 : Hid (∀ o o', Below wy.heap.size wy ((wy.alloc o).alloc o')) := Lib.hid (fun o o' => bt (ba wy o) (ba _ o'))
          generalize hw8 : (wy.alloc (.cells #[.int .i64 ct, .int .i64 ck, .bool chad, .int .i64 coa, .int .i64 cob, .int .i64 coc, .bool chas, .int .i64 cna, .int .i64 cnb, .int .i64 cnc] 58)).alloc (.cells #[.int .i64 ((Q.length : Int) + 1), .slice (some ⟨wy.heap.size, 0, none⟩) 1 1] 61) = w8
          have HBy8 : Hid (Below wy.heap.size wy w8) := Lib.hid (by rw [← hw8]; exact HB8.out _ _)
          have HG8 : Hid (w8.heap[wy.heap.size]? = some (.cells (chCells ⟨ct, ck, chad, ⟨coa, cob, coc⟩, chas, ⟨cna, cnb, cnc⟩⟩) 58 (0, 0))) := Lib.hid (by
            rw [← hw8]
            exact ((ba (wy.alloc _) _).block _ (by simp)).trans (heap_alloc_new wy _))
          have HR8 : Hid (w8.heap[wy.heap.size + 1]? = some (.cells #[.int .i64 ((Q.length : Int) + 1), .slice (some ⟨wy.heap.size, 0, none⟩) 1 1] 61 (0, 0))) := Lib.hid (by
            rw [← hw8]
            have h := heap_alloc_new (wy.alloc (.cells #[.int .i64 ct, .int .i64 ck, .bool chad, .int .i64 coa, .int .i64 cob, .int .i64 coc, .bool chas, .int .i64 cna, .int .i64 cnb, .int .i64 cnc] 58)) (.cells #[.int .i64 ((Q.length : Int) + 1), .slice (some ⟨wy.heap.size, 0, none⟩) 1 1] 61)
            rw [World.size_alloc] at h
            exact h)
          have hWy : W.heap.size ≤ wy.heap.size := by have := HBr.out.size; exact this
          have HOc8 : Hid (OwnC w8 W.heap.size (.slice (some ⟨wy.heap.size, 0, none⟩) 1 1) [⟨ct, ck, chad, ⟨coa, cob, coc⟩, chas, ⟨cna, cnb, cnc⟩⟩]) := Lib.hid ((own_block (C := [⟨ct, ck, chad, ⟨coa, cob, coc⟩, chas, ⟨cna, cnb, cnc⟩⟩]) HG8.out (by rfl) (by simp)).mono hWy)
          obtain ⟨gb, Hgb⟩ : ∃ x, Hid (wy.heap.size = x) := ⟨_, Lib.hid rfl⟩
          have HRf8 := Lib.hid (HRf.out.below HBy8.out)
          have HOQ8 := Lib.hid (HOQ.out.below HBy8.out)
          have HCs8 : Hid (∀ q ∈ Q, OwnC w8 W.heap.size q.2 q.1.chs) := Lib.hid (fun q hq => (HCsQ.out q hq).below HBy8.out)
          have HBr8 := Lib.hid (bt HBr.out HBy8.out)
          have hgW : W.heap.size < wy.heap.size + 1 := by omega
          rw [Hgb.out] at HOc8 HR8 HG8 hgW ⊢
          clear hw8 HB8 e0 e1 e2 e3 e4 e5 e6 e7 e8 e9 f0 HRf HOQ HCsQ HBr hcy hcyn HCy HBy
          have r0 : w8.cell? ⟨gb + 1, 0, none⟩ = some (.int .i64 ((Q.length : Int) + 1)) := by simp [World.cell?, HR8.out]
          have r1 : w8.cell? ⟨gb + 1, 1, none⟩ = some (.slice (some ⟨gb, 0, none⟩) 1 1) := by simp [World.cell?, HR8.out]
          go_wp2_with fail
          refine (applyR_any HRf8.out HOc8.out.chS).mono ?_
          rintro e w9 hap
          rcases hap with ⟨hok, rfl, v', hrf, hkp, hown⟩ | ⟨hno, rfl, hb⟩
          · have HOk := Lib.hid hok
            have HRf9 := Lib.hid hrf
            have HK9 := Lib.hid hkp
            have HR9 : Hid (w9.heap[gb + 1]? = some (.cells #[.int .i64 ((Q.length : Int) + 1), .slice (some ⟨gb, 0, none⟩) 1 1] 61 (0, 0))) := Lib.hid ((HK9.out.block _ (lt_of_block HR8.out) (by omega)).trans HR8.out)
            have HB9 : Hid (Below W.heap.size W w9) := Lib.hid (HBr8.out.trans (HK9.out.below HBr8.out.size (fun i e => by omega)))
            have HOQ9 : Hid (OwnQ w9 W.heap.size (.slice oa Q.length oc) Q) := Lib.hid (HOQ8.out.kept HK9.out (fun i hi e => by
              obtain ⟨_, cur, h1⟩ := own_type HOQ8.out hi
              exact type_ne h1 HRf8.out.blk (by decide) e))
            have HCs9 : Hid (∀ q ∈ Q, OwnC w9 W.heap.size q.2 q.1.chs) := Lib.hid (fun q hq => (HCs8.out q hq).kept HK9.out (fun i hi e => by
              obtain ⟨_, cur, h1⟩ := own_type (HCs8.out q hq) hi
              exact type_ne h1 HRf8.out.blk (by decide) e))
            have HCn9 : Hid (OwnC w9 W.heap.size (.slice (some ⟨gb, 0, none⟩) 1 1) [⟨ct, ck, chad, ⟨coa, cob, coc⟩, chas, ⟨cna, cnb, cnc⟩⟩]) := Lib.hid (HOc8.out.kept HK9.out (fun i hi e => by
              obtain ⟨_, cur, h1⟩ := own_type HOc8.out hi
              exact type_ne h1 HRf8.out.blk (by decide) e))
            clear hok hrf hkp hown r0 r1
            obtain ⟨i0, hI, hZ0, hZ1, hZ2⟩ := info_parts Try.info61
            have r0 : w9.cell? ⟨gb + 1, 0, none⟩ = some (.int .i64 ((Q.length : Int) + 1)) := by simp [World.cell?, HR9.out]
            have r1 : w9.cell? ⟨gb + 1, 1, none⟩ = some (.slice (some ⟨gb, 0, none⟩) 1 1) := by simp [World.cell?, HR9.out]
            have hr9 : gb + 1 < w9.heap.size := lt_of_block HR9.out
            have hr9n : ¬ gb + 1 = w9.heap.size := by omega
            go_wp2_with (at_builtin; (refine wpList_append_own _ rfl (.tmp 69) (.tmp 71) 39 rfl W.heap.size 61 i0 _ 2 32 Try.underlying39 hI hZ0 hZ1 hZ2 rfl (by decide) (.slice oa Q.length oc) Q.length (flatQ Q) rfl (HOQ9.out.below (ba w9 (.cells #[.int .i64 ((Q.length : Int) + 1), .slice (some ⟨gb, 0, none⟩) 1 1] 61))) ⟨w9.heap.size, 0, none⟩ 1 1 [.int .i64 ((Q.length : Int) + 1), .slice (some ⟨gb, 0, none⟩) 1 1] rfl rfl (World.news_of_block (cs := #[.int .i64 ((Q.length : Int) + 1), .slice (some ⟨gb, 0, none⟩) 1 1]) (t := 61) (fr := (0, 0)) (heap_alloc_new w9 _)) (by simp [Value.oneCell']) (by unfold maxLen; omega) (by omega) (by have := HB9.out.size; simp; omega) ?_; intro v5 w5 hown5 hgrow5 _; have HG5 : Hid ((w9.alloc (.cells #[.int .i64 ((Q.length : Int) + 1), .slice (some ⟨gb, 0, none⟩) 1 1] 61)).grownBy w5 (Value.slice oa Q.length oc).ownBlock) := Lib.hid hgrow5; have HO5 := Lib.hid hown5; clear hown5 hgrow5))
            have HG : Hid (∀ (g : Nat) (cur : Array Value) (e : TypeId) (fr : Nat × Nat), w9.heap[g]? = some (Obj.cells cur e fr) → e ≠ 61 → w5.heap[g]? = w9.heap[g]?) := Lib.hid (fun g cur e fr hg he => by
              have h1 := lt_of_block hg
              rw [HG5.out.block g (by simp; omega) (fun e2 => by
                obtain ⟨_, cur2, h2⟩ := own_type HOQ9.out e2.symm
                exact type_ne hg h2 he rfl)]
              exact (ba w9 _).block g h1)
            have HLn : Hid (CgSt W w5 W.heap.size v5 (k + 1)) := Lib.hid ⟨Q ++ [(⟨(Q.length : Int) + 1, [⟨ct, ck, chad, ⟨coa, cob, coc⟩, chas, ⟨cna, cnb, cnc⟩⟩]⟩, .slice (some ⟨gb, 0, none⟩) 1 1)], v', by
                have e1 : rowsOf ((Q ++ [((⟨(Q.length : Int) + 1, [⟨ct, ck, chad, ⟨coa, cob, coc⟩, chas, ⟨cna, cnb, cnc⟩⟩]⟩ : MRec), Value.slice (some ⟨gb, 0, none⟩) 1 1)]).map Prod.fst) = stepAll (rowsOf (Q.map Prod.fst)) [⟨ct, ck, chad, ⟨coa, cob, coc⟩, chas, ⟨cna, cnb, cnc⟩⟩] := by rw [List.map_append, List.map_singleton, rowsOf_snoc]
                have e2 : (((Q ++ [((⟨(Q.length : Int) + 1, [⟨ct, ck, chad, ⟨coa, cob, coc⟩, chas, ⟨cna, cnb, cnc⟩⟩]⟩ : MRec), Value.slice (some ⟨gb, 0, none⟩) 1 1)]).length : Nat) : Int) = (Q.length : Int) + 1 := by simp
                rw [e1, e2]
                exact ⟨(HG.out _ _ _ _ HRf9.out.blk (by decide)).trans HRf9.out.blk, own_same HRf9.out.own (fun g cur hg => HG.out _ _ _ _ hg (by decide)), HRf9.out.good, HRf9.out.pos⟩,
              by
                unfold OwnQ
                rw [List.length_append, flatQ_app]
                exact HO5.out,
              fun q hq => by
                rcases List.mem_append.1 hq with hq | hq
                · exact own_sameC (HCs9.out q hq) (fun g cur hg => HG.out _ _ _ _ hg (by decide))
                · rw [List.mem_singleton.1 hq]
                  exact own_sameC HCn9.out (fun g cur hg => HG.out _ _ _ _ hg (by decide)),
              by
                rw [List.map_append, List.map_singleton]
                exact HChQ.out.snoc (by rw [List.length_map]; exact HOk.out),
              fun q hq => by
                rcases List.mem_append.1 hq with hq | hq
                · exact HSmQ.out q hq
                · rw [List.mem_singleton.1 hq]
                  exact ⟨_, rfl, HSc.out⟩,
              by have := HQk.out; simp; omega,
              (HB9.out.trans ((ba w9 _).mono HB9.out.size)).grown HG5.out (Nat.le_trans HB9.out.size (ba w9 _).size) (fun g hg => (own_type HOQ9.out hg).1)⟩
            exact ⟨⟨k + 1, by omega, Hk41.out, by go_num, HLn⟩, by simp [intOf]; omega⟩
          · have HLn : Hid (CgSt W w9 W.heap.size (.slice oa Q.length oc) (k + 1)) := Lib.hid ⟨Q, vs, HRf8.out.below hb, HOQ8.out.below hb, fun q hq => (HCs8.out q hq).below hb, HChQ.out, HSmQ.out, by have := HQk.out; omega, bt HBr8.out hb⟩
            clear hno hb r0 r1
            go_wp2_with fail
            exact ⟨⟨k + 1, by omega, Hk41.out, by go_num, HLn⟩, by simp [intOf]; omega⟩
      · have hlt40' : ¬ (k : Int) < 40 := by omega
        obtain ⟨Q, vs, HF0, HO0, HCs0, HCh0, HSm0, hQl, hBw⟩ := HL.out
        have HOut : Hid (CgOut W (.returned vo) wr) := Lib.hid ⟨Q.map Prod.fst, vo, rfl, HO0.recS (fun q hq => ⟨_, HCs0 q hq⟩), HCh0, by rw [List.length_map]; omega, fun r hr => by
          obtain ⟨q, hq, rfl⟩ := List.mem_map.1 hr
          exact HSm0 q hq, hBw⟩
        clear HF0 HO0 HCs0 HCh0 HSm0 hQl hBw
        go_wp2_with fail
        go_ret
        exact HOut.out
    · obtain ⟨Q, vs, HF0, HO0, HCs0, HCh0, HSm0, hQl, hBw⟩ := HL.out
      have HOut : Hid (CgOut W (.returned vo) wr) := Lib.hid ⟨Q.map Prod.fst, vo, rfl, HO0.recS (fun q hq => ⟨_, HCs0 q hq⟩), HCh0, by rw [List.length_map]; omega, fun r hr => by
        obtain ⟨q, hq, rfl⟩ := List.mem_map.1 hr
        exact HSm0 q hq, hBw⟩
      clear HF0 HO0 HCs0 HCh0 HSm0 hQl hBw
      go_wp2_with fail
      go_ret
      exact HOut.out
end Go.Proofs.Ytcffofjialihaaa
end
