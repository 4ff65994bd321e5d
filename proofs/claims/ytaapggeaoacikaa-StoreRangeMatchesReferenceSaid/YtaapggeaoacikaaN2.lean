/- WALKS: Valid, Value, rowOf, After, ValidChange, precedes. -/
import Derived.Test.YtaapggeaoacikaaE1
set_option linter.unusedVariables false
set_option linter.unusedSimpArgs false
namespace Go.Proofs.Ytaapggeaoacikaa
open Go.RowKit Go.Sort
def vcells (v : V3) : List Value := [.int .i64 v.a, .int .i64 v.b, .int .i64 v.c]
abbrev v3V (v : V3) : Value := .agg #[.int .i64 v.a, .int .i64 v.b, .int .i64 v.c]
abbrev rowV (r : MRow) : Value := .agg #[.int .i64 r.t, .int .i64 r.k, .int .i64 r.v.a, .int .i64 r.v.b, .int .i64 r.v.c]
abbrev chV (c : MCh) : Value := .agg #[.int .i64 c.t, .int .i64 c.k, .bool c.had, .int .i64 c.o.a, .int .i64 c.o.b, .int .i64 c.o.c, .bool c.has, .int .i64 c.n.a, .int .i64 c.n.b, .int .i64 c.n.c]

/-- An int of 64 bits. -/
def I64 (n : Int) : Prop := -9223372036854775808 ≤ n ∧ n ≤ 9223372036854775807

/-- A row is valid. -/
def VRow (r : MRow) : Prop := (0 ≤ r.t ∧ r.t ≤ 3) ∧ (1 ≤ r.k ∧ r.k ≤ 1000000) ∧ (-1000000000 ≤ r.v.a ∧ r.v.a ≤ 1000000000) ∧ (-1000000000 ≤ r.v.b ∧ r.v.b ≤ 1000000000) ∧ (-1000000000 ≤ r.v.c ∧ r.v.c ≤ 1000000000)
instance (r : MRow) : Decidable (VRow r) := by unfold VRow; infer_instance
def vr (r : MRow) : Bool := decide (VRow r)
theorem vr_t {r : MRow} (h : VRow r) : Ending.returned (.bool true) = .returned (.bool (vr r)) := by rw [vr, decide_eq_true h]
theorem vr_f {r : MRow} (h : ¬ VRow r) : Ending.returned (.bool false) = .returned (.bool (vr r)) := by rw [vr, decide_eq_false h]

set_option maxRecDepth 100000 in
set_option maxHeartbeats 1000000 in
theorem valid_any (t k a b c : Int) (w : World) :
    Calls Try.prog 63 #[rowV ⟨t, k, ⟨a, b, c⟩⟩] w fun e w' => e = .returned (.bool (vr ⟨t, k, ⟨a, b, c⟩⟩)) ∧ Below w.heap.size w w' := by
  unfold rowV
  have i0 : ∀ w : World, (Instr.index 48 (.agg #[.int .i64 a, .int .i64 b, .int .i64 c]) (.int .i64 0)).run Try.prog w = .ok (.int .i64 a) w := fun _ => by kernel_rfl
  have i1 : ∀ w : World, (Instr.index 48 (.agg #[.int .i64 a, .int .i64 b, .int .i64 c]) (.int .i64 1)).run Try.prog w = .ok (.int .i64 b) w := fun _ => by kernel_rfl
  have i2 : ∀ w : World, (Instr.index 48 (.agg #[.int .i64 a, .int .i64 b, .int .i64 c]) (.int .i64 2)).run Try.prog w = .ok (.int .i64 c) w := fun _ => by kernel_rfl
  go_enter Try.func63, Try.ntmps63
  go_wp2
  all_goals (first | (go_ret; exact ⟨vr_f (by unfold VRow; simp only; omega), ba _ _⟩) | skip)
  refine wp_loop_rounds 4 ?_
  rw [rounds_succ]
  go_wp2
  all_goals (first | (go_ret; exact ⟨vr_f (by unfold VRow; simp only; omega), ba _ _⟩) | skip)
  rw [rounds_succ]
  go_wp2
  all_goals (first | (go_ret; exact ⟨vr_f (by unfold VRow; simp only; omega), ba _ _⟩) | skip)
  rw [rounds_succ]
  go_wp2
  all_goals (first | (go_ret; exact ⟨vr_f (by unfold VRow; simp only; omega), ba _ _⟩) | skip)
  rw [rounds_succ]
  go_wp2
  go_ret
  exact ⟨vr_t (by unfold VRow; simp only; omega), ba _ _⟩

/-- The value of a column. -/
def vget (r : MRow) (col : Int) : Int := if col = 0 then r.k else if col = 1 then r.v.a else if col = 2 then r.v.b else if col = 3 then r.v.c else 0

set_option maxRecDepth 100000 in
set_option maxHeartbeats 400000 in
theorem value_any (t k a b c col : Int) (w : World) (h1 : -9223372036854775808 ≤ col) (h2 : col ≤ 9223372036854775807) :
    Calls Try.prog 31 #[rowV ⟨t, k, ⟨a, b, c⟩⟩, .int .i64 col] w fun e w' => e = .returned (.int .i64 (vget ⟨t, k, ⟨a, b, c⟩⟩ col)) ∧ Below w.heap.size w w' := by
  unfold rowV
  by_cases h0 : 0 ≤ col ∧ col ≤ 3
  · have : col = 0 ∨ col = 1 ∨ col = 2 ∨ col = 3 := by omega
    clear h0
    rcases this with rfl | rfl | rfl | rfl
    all_goals
      go_enter Try.func31, Try.ntmps31
      go_wp2
      go_ret
      exact ⟨rfl, ba _ _⟩
  · have hv : vget ⟨t, k, ⟨a, b, c⟩⟩ col = 0 := by
      unfold vget
      rw [if_neg (by omega), if_neg (by omega), if_neg (by omega), if_neg (by omega)]
    rw [hv]
    clear hv
    have he : (col == 0) = false := by simp; omega
    go_enter Try.func31, Try.ntmps31
    go_wp2
    all_goals
      go_ret
      exact ⟨rfl, ba _ _⟩

def chCells (c : MCh) : Array Value := #[.int .i64 c.t, .int .i64 c.k, .bool c.had, .int .i64 c.o.a, .int .i64 c.o.b, .int .i64 c.o.c, .bool c.has, .int .i64 c.n.a, .int .i64 c.n.b, .int .i64 c.n.c]

set_option maxRecDepth 100000 in
set_option maxHeartbeats 400000 in
theorem rowOf_w (t k : Int) (had has : Bool) (oa ob oc na nb nc a b c : Int) (w : World) :
    Calls Try.prog 44 #[.agg #[.int .i64 t, .int .i64 k, .bool had, .int .i64 oa, .int .i64 ob, .int .i64 oc, .bool has, .int .i64 na, .int .i64 nb, .int .i64 nc], .agg #[.int .i64 a, .int .i64 b, .int .i64 c]] w fun e w' =>
      e = .returned (.agg #[.int .i64 t, .int .i64 k, .int .i64 a, .int .i64 b, .int .i64 c]) ∧ w' = ((w.alloc (.cells #[.int .i64 t, .int .i64 k, .bool had, .int .i64 oa, .int .i64 ob, .int .i64 oc, .bool has, .int .i64 na, .int .i64 nb, .int .i64 nc] 57)).alloc (.cells #[.int .i64 a, .int .i64 b, .int .i64 c] 48)).alloc (.cells #[.int .i64 t, .int .i64 k, .int .i64 a, .int .i64 b, .int .i64 c] 50) := by
  go_enter Try.func44, Try.ntmps44
  go_wp2
  exact bodyPost_ret (v := .agg #[.int .i64 t, .int .i64 k, .int .i64 a, .int .i64 b, .int .i64 c]) (by simp [results, Try.results44, go_sem]) rfl ⟨rfl, rfl⟩

set_option maxRecDepth 100000 in
set_option maxHeartbeats 1000000 in
theorem after_any (c : MCh) (w : World) :
    Calls Try.prog 28 #[chV c] w fun e w' => e = .returned (.tuple #[rowV (if c.has then ⟨c.t, c.k, c.n⟩ else ⟨0, 0, V3.zero⟩), .bool c.has]) ∧ Below w.heap.size w w' := by
  obtain ⟨t, k, had, ⟨oa, ob, oc⟩, has, ⟨na, nb, nc⟩⟩ := c
  cases has
  · unfold chV rowV
    go_enter Try.func28, Try.ntmps28
    go_wp2
    exact bodyPost_ret (v := .tuple #[.agg #[.int .i64 0, .int .i64 0, .int .i64 0, .int .i64 0, .int .i64 0], .bool false]) (by simp [results, Try.results28, go_sem]) rfl ⟨rfl, ((Below.refl _ w).alloc (Nat.le_refl _) _).alloc (by simp) _⟩
  · unfold chV rowV
    go_enter Try.func28, Try.ntmps28
    go_wp2_with (go_at_call 44; refine (rowOf_w _ _ _ _ _ _ _ _ _ _ _ _ _ _).mono ?_; rintro e w1 ⟨rfl, rfl⟩)
    refine bodyPost_ret (v := .tuple #[.agg #[.int .i64 t, .int .i64 k, .int .i64 na, .int .i64 nb, .int .i64 nc], .bool true]) (by simp [results, Try.results28, go_sem]) rfl ⟨rfl, ?_⟩
    exact (((((Below.refl _ w).alloc (Nat.le_refl _) _).alloc (by simp) _).alloc (by simp; omega) _).alloc (by simp; omega) _).alloc (by simp; omega) _

set_option maxRecDepth 100000 in
set_option maxHeartbeats 1000000 in
theorem validSide_any (c : MCh) (has : Bool) (v : V3) (w : World) :
    Calls Try.prog 57 #[chV c, .bool has, v3V v] w fun e w' => e = .returned (.bool (if has then vr ⟨c.t, c.k, v⟩ else v3e v V3.zero)) ∧ Below w.heap.size w w' := by
  obtain ⟨t, k, had, ⟨oa, ob, oc⟩, hs, ⟨na, nb, nc⟩⟩ := c
  obtain ⟨a, b, c⟩ := v
  cases has
  · unfold chV v3V
    have he := eql3
    go_enter Try.func57, Try.ntmps57
    go_wp2
    go_ret
    exact ⟨rfl, ((Below.refl _ w).alloc (Nat.le_refl _) _).alloc (by simp) _⟩
  · unfold chV v3V
    go_enter Try.func57, Try.ntmps57
    go_wp2_with (first | (go_at_call 44; refine (rowOf_w _ _ _ _ _ _ _ _ _ _ _ _ _ _).mono ?_; rintro e w1 ⟨rfl, rfl⟩) | (go_at_call 63; refine (valid_any _ _ _ _ _ _).mono ?_; rintro e w1 ⟨rfl, hb⟩))
    go_ret
    exact ⟨rfl, bt ((((((Below.refl _ w).alloc (Nat.le_refl _) _).alloc (by simp) _).alloc (by simp; omega) _).alloc (by simp; omega) _).alloc (by simp; omega) _) hb⟩

/-- One side of a change is valid. -/
def VSide (c : MCh) (has : Bool) (v : V3) : Prop := (has = true → VRow ⟨c.t, c.k, v⟩) ∧ (has = false → v = V3.zero)
instance (c : MCh) (has : Bool) (v : V3) : Decidable (VSide c has v) := by unfold VSide; infer_instance
theorem side_val (c : MCh) (has : Bool) (v : V3) : (if has then vr ⟨c.t, c.k, v⟩ else v3e v V3.zero) = decide (VSide c has v) := by
  cases has <;> simp [VSide, vr, v3e]
def VCh (c : MCh) : Prop := (c.had = true ∨ c.has = true) ∧ ¬ (c.had = true ∧ c.has = true ∧ c.o = c.n) ∧ VSide c c.had c.o ∧ VSide c c.has c.n
instance (c : MCh) : Decidable (VCh c) := by unfold VCh; infer_instance
def vc (c : MCh) : Bool := decide (VCh c)
theorem validSide_t (c : MCh) (has : Bool) (v : V3) (w : World) (h : VSide c has v) : Calls Try.prog 57 #[chV c, .bool has, v3V v] w fun e w' => e = .returned (.bool true) ∧ Below w.heap.size w w' :=
  (validSide_any c has v w).mono fun e w' hw => by rw [side_val, decide_eq_true h] at hw; exact hw
theorem validSide_f (c : MCh) (has : Bool) (v : V3) (w : World) (h : ¬ VSide c has v) : Calls Try.prog 57 #[chV c, .bool has, v3V v] w fun e w' => e = .returned (.bool false) ∧ Below w.heap.size w w' :=
  (validSide_any c has v w).mono fun e w' hw => by rw [side_val, decide_eq_false h] at hw; exact hw

set_option maxRecDepth 100000 in
set_option maxHeartbeats 4000000 in
theorem validChange_any (c : MCh) (w : World) :
    Calls Try.prog 47 #[chV c] w fun e w' => e = .returned (.bool (vc c)) ∧ Below w.heap.size w w' := by
  have he := eql3
  obtain ⟨t, k, had, ⟨oa, ob, oc⟩, has, ⟨na, nb, nc⟩⟩ := c
  cases had <;> cases has
  · have hv : Hid (vc ⟨t, k, false, ⟨oa, ob, oc⟩, false, ⟨na, nb, nc⟩⟩ = false) := Lib.hid (by simp [vc, VCh])
    rw [hv.out]
    go_enter Try.func47, Try.ntmps47
    go_wp2
    go_ret
    exact ⟨rfl, ba _ _⟩
  · -- false, true
    by_cases h3 : VSide ⟨t, k, false, ⟨oa, ob, oc⟩, true, ⟨na, nb, nc⟩⟩ false ⟨oa, ob, oc⟩
    · by_cases h4 : VSide ⟨t, k, false, ⟨oa, ob, oc⟩, true, ⟨na, nb, nc⟩⟩ true ⟨na, nb, nc⟩
      · have hv : Hid (vc ⟨t, k, false, ⟨oa, ob, oc⟩, true, ⟨na, nb, nc⟩⟩ = true) := Lib.hid (decide_eq_true ⟨by simp, by simp, h3, h4⟩)
        have H3 := Lib.hid h3
        have H4 := Lib.hid h4
        clear h3 h4
        rw [hv.out]
        go_enter Try.func47, Try.ntmps47
        go_wp2_with fail
        (with_reducible refine (validSide_t ⟨t, k, false, ⟨oa, ob, oc⟩, true, ⟨na, nb, nc⟩⟩ _ _ _ H3.out).mono ?_)
        rintro e w1 ⟨rfl, hb⟩
        obtain ⟨hc, hf⟩ := bcell hb
        go_wp2_with fail
        (with_reducible refine (validSide_t ⟨t, k, false, ⟨oa, ob, oc⟩, true, ⟨na, nb, nc⟩⟩ _ _ _ H4.out).mono ?_)
        rintro e w2 ⟨rfl, hb2⟩
        go_wp2_with fail
        go_ret
        exact ⟨rfl, bt (bt (ba _ _) hb) hb2⟩
      · have hv : Hid (vc ⟨t, k, false, ⟨oa, ob, oc⟩, true, ⟨na, nb, nc⟩⟩ = false) := Lib.hid (decide_eq_false (fun h => h4 h.2.2.2))
        have H3 := Lib.hid h3
        have H4 := Lib.hid h4
        clear h3 h4
        rw [hv.out]
        go_enter Try.func47, Try.ntmps47
        go_wp2_with fail
        (with_reducible refine (validSide_t ⟨t, k, false, ⟨oa, ob, oc⟩, true, ⟨na, nb, nc⟩⟩ _ _ _ H3.out).mono ?_)
        rintro e w1 ⟨rfl, hb⟩
        obtain ⟨hc, hf⟩ := bcell hb
        go_wp2_with fail
        (with_reducible refine (validSide_f ⟨t, k, false, ⟨oa, ob, oc⟩, true, ⟨na, nb, nc⟩⟩ _ _ _ H4.out).mono ?_)
        rintro e w2 ⟨rfl, hb2⟩
        go_wp2_with fail
        go_ret
        exact ⟨rfl, bt (bt (ba _ _) hb) hb2⟩
    · have hv : Hid (vc ⟨t, k, false, ⟨oa, ob, oc⟩, true, ⟨na, nb, nc⟩⟩ = false) := Lib.hid (decide_eq_false (fun h => h3 h.2.2.1))
      have H3 := Lib.hid h3
      clear h3
      rw [hv.out]
      go_enter Try.func47, Try.ntmps47
      go_wp2_with fail
      (with_reducible refine (validSide_f ⟨t, k, false, ⟨oa, ob, oc⟩, true, ⟨na, nb, nc⟩⟩ _ _ _ H3.out).mono ?_)
      rintro e w1 ⟨rfl, hb⟩
      go_wp2_with fail
      go_ret
      exact ⟨rfl, bt (ba _ _) hb⟩
  · -- true, false
    by_cases h3 : VSide ⟨t, k, true, ⟨oa, ob, oc⟩, false, ⟨na, nb, nc⟩⟩ true ⟨oa, ob, oc⟩
    · by_cases h4 : VSide ⟨t, k, true, ⟨oa, ob, oc⟩, false, ⟨na, nb, nc⟩⟩ false ⟨na, nb, nc⟩
      · have hv : Hid (vc ⟨t, k, true, ⟨oa, ob, oc⟩, false, ⟨na, nb, nc⟩⟩ = true) := Lib.hid (decide_eq_true ⟨by simp, by simp, h3, h4⟩)
        have H3 := Lib.hid h3
        have H4 := Lib.hid h4
        clear h3 h4
        rw [hv.out]
        go_enter Try.func47, Try.ntmps47
        go_wp2_with fail
        (with_reducible refine (validSide_t ⟨t, k, true, ⟨oa, ob, oc⟩, false, ⟨na, nb, nc⟩⟩ _ _ _ H3.out).mono ?_)
        rintro e w1 ⟨rfl, hb⟩
        obtain ⟨hc, hf⟩ := bcell hb
        go_wp2_with fail
        (with_reducible refine (validSide_t ⟨t, k, true, ⟨oa, ob, oc⟩, false, ⟨na, nb, nc⟩⟩ _ _ _ H4.out).mono ?_)
        rintro e w2 ⟨rfl, hb2⟩
        go_wp2_with fail
        go_ret
        exact ⟨rfl, bt (bt (ba _ _) hb) hb2⟩
      · have hv : Hid (vc ⟨t, k, true, ⟨oa, ob, oc⟩, false, ⟨na, nb, nc⟩⟩ = false) := Lib.hid (decide_eq_false (fun h => h4 h.2.2.2))
        have H3 := Lib.hid h3
        have H4 := Lib.hid h4
        clear h3 h4
        rw [hv.out]
        go_enter Try.func47, Try.ntmps47
        go_wp2_with fail
        (with_reducible refine (validSide_t ⟨t, k, true, ⟨oa, ob, oc⟩, false, ⟨na, nb, nc⟩⟩ _ _ _ H3.out).mono ?_)
        rintro e w1 ⟨rfl, hb⟩
        obtain ⟨hc, hf⟩ := bcell hb
        go_wp2_with fail
        (with_reducible refine (validSide_f ⟨t, k, true, ⟨oa, ob, oc⟩, false, ⟨na, nb, nc⟩⟩ _ _ _ H4.out).mono ?_)
        rintro e w2 ⟨rfl, hb2⟩
        go_wp2_with fail
        go_ret
        exact ⟨rfl, bt (bt (ba _ _) hb) hb2⟩
    · have hv : Hid (vc ⟨t, k, true, ⟨oa, ob, oc⟩, false, ⟨na, nb, nc⟩⟩ = false) := Lib.hid (decide_eq_false (fun h => h3 h.2.2.1))
      have H3 := Lib.hid h3
      clear h3
      rw [hv.out]
      go_enter Try.func47, Try.ntmps47
      go_wp2_with fail
      (with_reducible refine (validSide_f ⟨t, k, true, ⟨oa, ob, oc⟩, false, ⟨na, nb, nc⟩⟩ _ _ _ H3.out).mono ?_)
      rintro e w1 ⟨rfl, hb⟩
      go_wp2_with fail
      go_ret
      exact ⟨rfl, bt (ba _ _) hb⟩
  · -- true, true
    by_cases h2 : (⟨oa, ob, oc⟩ : V3) = ⟨na, nb, nc⟩
    · have hv : Hid (vc ⟨t, k, true, ⟨oa, ob, oc⟩, true, ⟨na, nb, nc⟩⟩ = false) := Lib.hid (decide_eq_false (fun h => h.2.1 ⟨rfl, rfl, h2⟩))
      have hx : v3e ⟨oa, ob, oc⟩ ⟨na, nb, nc⟩ = true := decide_eq_true h2
      clear h2
      rw [hv.out]
      go_enter Try.func47, Try.ntmps47
      go_wp2
      go_ret
      exact ⟨rfl, ba _ _⟩
    have hn : ¬ (true = true ∧ true = true ∧ (⟨oa, ob, oc⟩ : V3) = ⟨na, nb, nc⟩) := fun h => h2 h.2.2
    have hx : v3e ⟨oa, ob, oc⟩ ⟨na, nb, nc⟩ = false := decide_eq_false h2
    have HN := Lib.hid hn
    clear h2 hn
    by_cases h3 : VSide ⟨t, k, true, ⟨oa, ob, oc⟩, true, ⟨na, nb, nc⟩⟩ true ⟨oa, ob, oc⟩
    · by_cases h4 : VSide ⟨t, k, true, ⟨oa, ob, oc⟩, true, ⟨na, nb, nc⟩⟩ true ⟨na, nb, nc⟩
      · have hv : Hid (vc ⟨t, k, true, ⟨oa, ob, oc⟩, true, ⟨na, nb, nc⟩⟩ = true) := Lib.hid (decide_eq_true ⟨by simp, HN.out, h3, h4⟩)
        have H3 := Lib.hid h3
        have H4 := Lib.hid h4
        clear h3 h4
        rw [hv.out]
        go_enter Try.func47, Try.ntmps47
        go_wp2_with fail
        (with_reducible refine (validSide_t ⟨t, k, true, ⟨oa, ob, oc⟩, true, ⟨na, nb, nc⟩⟩ _ _ _ H3.out).mono ?_)
        rintro e w1 ⟨rfl, hb⟩
        obtain ⟨hc, hf⟩ := bcell hb
        go_wp2_with fail
        (with_reducible refine (validSide_t ⟨t, k, true, ⟨oa, ob, oc⟩, true, ⟨na, nb, nc⟩⟩ _ _ _ H4.out).mono ?_)
        rintro e w2 ⟨rfl, hb2⟩
        go_wp2_with fail
        go_ret
        exact ⟨rfl, bt (bt (ba _ _) hb) hb2⟩
      · have hv : Hid (vc ⟨t, k, true, ⟨oa, ob, oc⟩, true, ⟨na, nb, nc⟩⟩ = false) := Lib.hid (decide_eq_false (fun h => h4 h.2.2.2))
        have H3 := Lib.hid h3
        have H4 := Lib.hid h4
        clear h3 h4
        rw [hv.out]
        go_enter Try.func47, Try.ntmps47
        go_wp2_with fail
        (with_reducible refine (validSide_t ⟨t, k, true, ⟨oa, ob, oc⟩, true, ⟨na, nb, nc⟩⟩ _ _ _ H3.out).mono ?_)
        rintro e w1 ⟨rfl, hb⟩
        obtain ⟨hc, hf⟩ := bcell hb
        go_wp2_with fail
        (with_reducible refine (validSide_f ⟨t, k, true, ⟨oa, ob, oc⟩, true, ⟨na, nb, nc⟩⟩ _ _ _ H4.out).mono ?_)
        rintro e w2 ⟨rfl, hb2⟩
        go_wp2_with fail
        go_ret
        exact ⟨rfl, bt (bt (ba _ _) hb) hb2⟩
    · have hv : Hid (vc ⟨t, k, true, ⟨oa, ob, oc⟩, true, ⟨na, nb, nc⟩⟩ = false) := Lib.hid (decide_eq_false (fun h => h3 h.2.2.1))
      have H3 := Lib.hid h3
      clear h3
      rw [hv.out]
      go_enter Try.func47, Try.ntmps47
      go_wp2_with fail
      (with_reducible refine (validSide_f ⟨t, k, true, ⟨oa, ob, oc⟩, true, ⟨na, nb, nc⟩⟩ _ _ _ H3.out).mono ?_)
      rintro e w1 ⟨rfl, hb⟩
      go_wp2_with fail
      go_ret
      exact ⟨rfl, bt (ba _ _) hb⟩

set_option maxRecDepth 100000 in
set_option maxHeartbeats 1000000 in
theorem precedes_any (c d : MCh) (w : World) :
    Calls Try.prog 48 #[chV c, chV d] w fun e w' => e = .returned (.bool (decide (c.t < d.t ∨ c.t = d.t ∧ c.k < d.k))) ∧ Below w.heap.size w w' := by
  by_cases h : c.t = d.t
  · have e1 : Hid (decide (c.t < d.t ∨ c.t = d.t ∧ c.k < d.k) = decide (c.k < d.k)) := Lib.hid (by simp [h])
    have e2 : (c.t != d.t) = false := by simp [h]
    rw [e1.out]
    clear h
    go_enter Try.func48, Try.ntmps48
    go_wp2
    go_ret
    exact ⟨rfl, ((Below.refl _ w).alloc (Nat.le_refl _) _).alloc (by simp) _⟩
  · have e1 : Hid (decide (c.t < d.t ∨ c.t = d.t ∧ c.k < d.k) = decide (c.t < d.t)) := Lib.hid (by simp [h])
    have e2 : (c.t != d.t) = true := by simp [h]
    rw [e1.out]
    clear h
    go_enter Try.func48, Try.ntmps48
    go_wp2
    go_ret
    exact ⟨rfl, ((Below.refl _ w).alloc (Nat.le_refl _) _).alloc (by simp) _⟩
end Go.Proofs.Ytaapggeaoacikaa
