/- WALKS: the reference: within, Valid, Value. -/
import Derived.Test.YtaapggeaoacikaaN3
set_option linter.unusedVariables false
set_option linter.unusedSimpArgs false
namespace Go.Proofs.Ytaapggeaoacikaa
open Go.RowKit Go.Sort
theorem within_t (n lo hi : Int) (w : World) (h : lo ≤ n ∧ n ≤ hi) : Calls Try.prog 50 #[.int .i64 n, .int .i64 lo, .int .i64 hi] w fun e w' => e = .returned (.bool true) ∧ w' = w := by
  obtain ⟨h1, h2⟩ := h
  go_enter Try.func50, Try.ntmps50
  go_wp2
  all_goals (go_ret; exact ⟨rfl, rfl⟩)
theorem within_f (n lo hi : Int) (w : World) (h : ¬ (lo ≤ n ∧ n ≤ hi)) : Calls Try.prog 50 #[.int .i64 n, .int .i64 lo, .int .i64 hi] w fun e w' => e = .returned (.bool false) ∧ w' = w := by
  by_cases h1 : lo ≤ n
  · have h2 : ¬ n ≤ hi := fun h2 => h ⟨h1, h2⟩
    clear h
    go_enter Try.func50, Try.ntmps50
    go_wp2
    all_goals (go_ret; exact ⟨rfl, rfl⟩)
  · clear h
    go_enter Try.func50, Try.ntmps50
    go_wp2
    all_goals (go_ret; exact ⟨rfl, rfl⟩)

set_option maxRecDepth 100000 in
set_option maxHeartbeats 2000000 in
theorem refValid_any (t k a b c : Int) (w : World) :
    Calls Try.prog 59 #[rowV ⟨t, k, ⟨a, b, c⟩⟩] w fun e w' => e = .returned (.bool (vr ⟨t, k, ⟨a, b, c⟩⟩)) ∧ Below w.heap.size w w' := by
  by_cases ha : (-1000000000 : Int) ≤ a ∧ a ≤ 1000000000
  case neg =>
    have hv : Hid (vr ⟨t, k, ⟨a, b, c⟩⟩ = false) := Lib.hid (decide_eq_false (fun h => ha h.2.2.1))
    have Ha := Lib.hid ha
    clear ha
    rw [hv.out]
    go_enter Try.func59, Try.ntmps59
    go_wp2_with fail
    refine wp_loop_rounds 4 ?_
    rw [rounds_succ]
    go_wp2_with fail
    (with_reducible refine (within_f a _ _ _ Ha.out).mono ?_)
    rintro e w1 ⟨rfl, rfl⟩
    go_wp2_with fail
    go_ret
    exact ⟨rfl, ba _ _⟩
  by_cases hb : (-1000000000 : Int) ≤ b ∧ b ≤ 1000000000
  case neg =>
    have hv : Hid (vr ⟨t, k, ⟨a, b, c⟩⟩ = false) := Lib.hid (decide_eq_false (fun h => hb h.2.2.2.1))
    have Ha := Lib.hid ha
    have Hb := Lib.hid hb
    clear ha hb
    rw [hv.out]
    go_enter Try.func59, Try.ntmps59
    go_wp2_with fail
    refine wp_loop_rounds 4 ?_
    rw [rounds_succ]
    go_wp2_with fail
    (with_reducible refine (within_t a _ _ _ Ha.out).mono ?_)
    rintro e w1 ⟨rfl, rfl⟩
    go_wp2_with fail
    rw [rounds_succ]
    go_wp2_with fail
    (with_reducible refine (within_f b _ _ _ Hb.out).mono ?_)
    rintro e w1 ⟨rfl, rfl⟩
    go_wp2_with fail
    go_ret
    exact ⟨rfl, ba _ _⟩
  by_cases hc : (-1000000000 : Int) ≤ c ∧ c ≤ 1000000000
  case neg =>
    have hv : Hid (vr ⟨t, k, ⟨a, b, c⟩⟩ = false) := Lib.hid (decide_eq_false (fun h => hc h.2.2.2.2))
    have Ha := Lib.hid ha
    have Hb := Lib.hid hb
    have Hc := Lib.hid hc
    clear ha hb hc
    rw [hv.out]
    go_enter Try.func59, Try.ntmps59
    go_wp2_with fail
    refine wp_loop_rounds 4 ?_
    rw [rounds_succ]
    go_wp2_with fail
    (with_reducible refine (within_t a _ _ _ Ha.out).mono ?_)
    rintro e w1 ⟨rfl, rfl⟩
    go_wp2_with fail
    rw [rounds_succ]
    go_wp2_with fail
    (with_reducible refine (within_t b _ _ _ Hb.out).mono ?_)
    rintro e w1 ⟨rfl, rfl⟩
    go_wp2_with fail
    rw [rounds_succ]
    go_wp2_with fail
    (with_reducible refine (within_f c _ _ _ Hc.out).mono ?_)
    rintro e w1 ⟨rfl, rfl⟩
    go_wp2_with fail
    go_ret
    exact ⟨rfl, ba _ _⟩
  by_cases ht : (0 : Int) ≤ t ∧ t ≤ 3
  case neg =>
    have hv : Hid (vr ⟨t, k, ⟨a, b, c⟩⟩ = false) := Lib.hid (decide_eq_false (fun h => ht h.1))
    have Ha := Lib.hid ha
    have Hb := Lib.hid hb
    have Hc := Lib.hid hc
    have Ht := Lib.hid ht
    clear ha hb hc ht
    rw [hv.out]
    go_enter Try.func59, Try.ntmps59
    go_wp2_with fail
    refine wp_loop_rounds 4 ?_
    rw [rounds_succ]
    go_wp2_with fail
    (with_reducible refine (within_t a _ _ _ Ha.out).mono ?_)
    rintro e w1 ⟨rfl, rfl⟩
    go_wp2_with fail
    rw [rounds_succ]
    go_wp2_with fail
    (with_reducible refine (within_t b _ _ _ Hb.out).mono ?_)
    rintro e w1 ⟨rfl, rfl⟩
    go_wp2_with fail
    rw [rounds_succ]
    go_wp2_with fail
    (with_reducible refine (within_t c _ _ _ Hc.out).mono ?_)
    rintro e w1 ⟨rfl, rfl⟩
    go_wp2_with fail
    rw [rounds_succ]
    go_wp2_with fail
    (with_reducible refine (within_f t _ _ _ Ht.out).mono ?_)
    rintro e w1 ⟨rfl, rfl⟩
    go_wp2_with fail
    go_ret
    exact ⟨rfl, ba _ _⟩
  by_cases hk : (1 : Int) ≤ k ∧ k ≤ 1000000
  case neg =>
    have hv : Hid (vr ⟨t, k, ⟨a, b, c⟩⟩ = false) := Lib.hid (decide_eq_false (fun h => hk h.2.1))
    have Ha := Lib.hid ha
    have Hb := Lib.hid hb
    have Hc := Lib.hid hc
    have Ht := Lib.hid ht
    have Hk := Lib.hid hk
    clear ha hb hc ht hk
    rw [hv.out]
    go_enter Try.func59, Try.ntmps59
    go_wp2_with fail
    refine wp_loop_rounds 4 ?_
    rw [rounds_succ]
    go_wp2_with fail
    (with_reducible refine (within_t a _ _ _ Ha.out).mono ?_)
    rintro e w1 ⟨rfl, rfl⟩
    go_wp2_with fail
    rw [rounds_succ]
    go_wp2_with fail
    (with_reducible refine (within_t b _ _ _ Hb.out).mono ?_)
    rintro e w1 ⟨rfl, rfl⟩
    go_wp2_with fail
    rw [rounds_succ]
    go_wp2_with fail
    (with_reducible refine (within_t c _ _ _ Hc.out).mono ?_)
    rintro e w1 ⟨rfl, rfl⟩
    go_wp2_with fail
    rw [rounds_succ]
    go_wp2_with fail
    (with_reducible refine (within_t t _ _ _ Ht.out).mono ?_)
    rintro e w1 ⟨rfl, rfl⟩
    go_wp2_with fail
    (with_reducible refine (within_f k _ _ _ Hk.out).mono ?_)
    rintro e w1 ⟨rfl, rfl⟩
    go_wp2_with fail
    go_ret
    exact ⟨rfl, ba _ _⟩
  have hv : Hid (vr ⟨t, k, ⟨a, b, c⟩⟩ = true) := Lib.hid (decide_eq_true ⟨ht, hk, ha, hb, hc⟩)
  have Ha := Lib.hid ha
  have Hb := Lib.hid hb
  have Hc := Lib.hid hc
  have Ht := Lib.hid ht
  have Hk := Lib.hid hk
  clear ha hb hc ht hk
  rw [hv.out]
  go_enter Try.func59, Try.ntmps59
  go_wp2_with fail
  refine wp_loop_rounds 4 ?_
  rw [rounds_succ]
  go_wp2_with fail
  (with_reducible refine (within_t a _ _ _ Ha.out).mono ?_)
  rintro e w1 ⟨rfl, rfl⟩
  go_wp2_with fail
  rw [rounds_succ]
  go_wp2_with fail
  (with_reducible refine (within_t b _ _ _ Hb.out).mono ?_)
  rintro e w1 ⟨rfl, rfl⟩
  go_wp2_with fail
  rw [rounds_succ]
  go_wp2_with fail
  (with_reducible refine (within_t c _ _ _ Hc.out).mono ?_)
  rintro e w1 ⟨rfl, rfl⟩
  go_wp2_with fail
  rw [rounds_succ]
  go_wp2_with fail
  (with_reducible refine (within_t t _ _ _ Ht.out).mono ?_)
  rintro e w1 ⟨rfl, rfl⟩
  go_wp2_with fail
  (with_reducible refine (within_t k _ _ _ Hk.out).mono ?_)
  rintro e w1 ⟨rfl, rfl⟩
  go_wp2_with fail
  go_ret
  exact ⟨rfl, ba _ _⟩

set_option maxRecDepth 100000 in
set_option maxHeartbeats 400000 in
theorem refValue_any (t k a b c col : Int) (w : World) (h1 : -9223372036854775808 ≤ col) (h2 : col ≤ 9223372036854775807) :
    Calls Try.prog 43 #[rowV ⟨t, k, ⟨a, b, c⟩⟩, .int .i64 col] w fun e w' => e = .returned (.int .i64 (vget ⟨t, k, ⟨a, b, c⟩⟩ col)) ∧ Below w.heap.size w w' := by
  unfold rowV
  by_cases h0 : 0 ≤ col ∧ col ≤ 3
  · have : col = 0 ∨ col = 1 ∨ col = 2 ∨ col = 3 := by omega
    clear h0
    rcases this with rfl | rfl | rfl | rfl
    · go_enter Try.func43, Try.ntmps43
      go_wp2
      go_ret
      exact ⟨rfl, ba _ _⟩
    all_goals
      go_enter Try.func43, Try.ntmps43
      go_wp2_with fail
      (with_reducible refine (within_t _ _ _ _ (by decide)).mono ?_)
      rintro e w1 ⟨rfl, rfl⟩
      go_wp2_with fail
      go_ret
      exact ⟨rfl, ba _ _⟩
  · have hv : vget ⟨t, k, ⟨a, b, c⟩⟩ col = 0 := by
      unfold vget
      rw [if_neg (by omega), if_neg (by omega), if_neg (by omega), if_neg (by omega)]
    rw [hv]
    clear hv
    have he : (col == 0) = false := by simp; omega
    have H0 : Hid (¬ (1 ≤ col ∧ col ≤ 3)) := Lib.hid (by omega)
    clear h0
    go_enter Try.func43, Try.ntmps43
    go_wp2_with fail
    (with_reducible refine (within_f _ _ _ _ H0.out).mono ?_)
    rintro e w1 ⟨rfl, rfl⟩
    go_wp2_with fail
    go_ret
    exact ⟨rfl, ba _ _⟩

theorem refValid_t (r : MRow) (w : World) (h : VRow r) : Calls Try.prog 59 #[rowV r] w fun e w' => e = .returned (.bool true) ∧ Below w.heap.size w w' :=
  (refValid_any r.t r.k r.v.a r.v.b r.v.c w).mono fun e w' hw => by
    have h1 : vr ⟨r.t, r.k, ⟨r.v.a, r.v.b, r.v.c⟩⟩ = true := decide_eq_true h
    rw [h1] at hw; exact hw
theorem refValid_f (r : MRow) (w : World) (h : ¬ VRow r) : Calls Try.prog 59 #[rowV r] w fun e w' => e = .returned (.bool false) ∧ Below w.heap.size w w' :=
  (refValid_any r.t r.k r.v.a r.v.b r.v.c w).mono fun e w' hw => by
    have h1 : vr ⟨r.t, r.k, ⟨r.v.a, r.v.b, r.v.c⟩⟩ = false := decide_eq_false h
    rw [h1] at hw; exact hw

structure RwAt (W : World) (b : Nat) (r : MRow) : Prop where
  c0 : W.cell? ⟨b, 0, none⟩ = some (.int .i64 r.t)
  c1 : W.cell? ⟨b, 1, none⟩ = some (.int .i64 r.k)
  c2 : W.cell? ⟨b, 2, none⟩ = some (.int .i64 r.v.a)
  c3 : W.cell? ⟨b, 3, none⟩ = some (.int .i64 r.v.b)
  c4 : W.cell? ⟨b, 4, none⟩ = some (.int .i64 r.v.c)
theorem RwAt.below {W W' : World} {b : Nat} {r : MRow} (h : RwAt W b r) (k : Below W.heap.size W W') : RwAt W' b r := by
  have hl := World.block_lt_of_cell? W _ h.c0
  obtain ⟨hc, _⟩ := bcell k
  exact ⟨by rw [hc _ _ hl]; exact h.c0, by rw [hc _ _ hl]; exact h.c1, by rw [hc _ _ hl]; exact h.c2, by rw [hc _ _ hl]; exact h.c3, by rw [hc _ _ hl]; exact h.c4⟩
theorem RwAt.new (W : World) (r : MRow) : RwAt (W.alloc (.cells #[.int .i64 r.t, .int .i64 r.k, .int .i64 r.v.a, .int .i64 r.v.b, .int .i64 r.v.c] 50)) W.heap.size r :=
  ⟨by simp [go_sem], by simp [go_sem], by simp [go_sem], by simp [go_sem], by simp [go_sem]⟩

abbrev scV : Array Value := #[.int .i64 1, .int .i64 5, .bool false, .int .i64 0, .int .i64 0, .int .i64 0, .bool true, .int .i64 7, .int .i64 (-3), .int .i64 9]
abbrev sW (w : World) : World := (((w.alloc (.cells #[.int .i64 1, .int .i64 5, .int .i64 7, .int .i64 (-3), .int .i64 9] 50)).alloc (.cells scV 42)).alloc (.cells scV 42)).alloc (.cells #[.int .i64 4, .slice (some ⟨w.heap.size + 1 + 1, 0, none⟩) 1 1] 32)

end Go.Proofs.Ytaapggeaoacikaa
