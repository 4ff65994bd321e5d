/- MERGED: RRw, RF1, RH1, RH2, RH3. -/
import Derived.Test.YtpapfegbodolgaaDoorP2
import Derived.BigQuiet
section
set_option linter.unusedSimpArgs false
set_option linter.unusedVariables false
namespace Go.Proofs.YtpapfegbodolgaaDoor
open Go.RowKit Go.Sort

/-- A row that lies in a block. -/
structure RwAt (W : World) (b : Nat) (r : MRow) : Prop where
  c0 : W.cell? ⟨b, 0, none⟩ = some (.int .i64 r.t)
  c1 : W.cell? ⟨b, 1, none⟩ = some (.int .i64 r.k)
  c2 : W.cell? ⟨b, 2, none⟩ = some (.int .i64 r.v.a)
  c3 : W.cell? ⟨b, 3, none⟩ = some (.int .i64 r.v.b)
  c4 : W.cell? ⟨b, 4, none⟩ = some (.int .i64 r.v.c)
theorem RwAt.below {W W' : World} {b : Nat} {r : MRow} (h : RwAt W b r) (k : Below W.heap.size W W') : RwAt W' b r := by
  have hl := World.block_lt_of_cell? W _ h.c0
  obtain ⟨hc, _⟩ := bcell k
  exact ⟨by rw [hc _ _ hl]; exact h.c0, by rw [hc _ _ hl]; exact h.c1, by rw [hc _ _ hl]; exact h.c2, by rw [hc _ _ hl]; exact h.c3, by rw [hc _ _ hl]; exact h.c4⟩
theorem RwAt.new (W : World) (r : MRow) : RwAt (W.alloc (.cells #[.int .i64 r.t, .int .i64 r.k, .int .i64 r.v.a, .int .i64 r.v.b, .int .i64 r.v.c] 111)) W.heap.size r :=
  ⟨by simp [go_sem], by simp [go_sem], by simp [go_sem], by simp [go_sem], by simp [go_sem]⟩

end Go.Proofs.YtpapfegbodolgaaDoor
end

section
set_option linter.unusedVariables false
set_option linter.unusedSimpArgs false
namespace Go.Proofs.YtpapfegbodolgaaDoor
open Go.RowKit Go.Sort

theorem within_t (n lo hi : Int) (w : World) (h : lo ≤ n ∧ n ≤ hi) : Calls Tryd.prog 46 #[.int .i64 n, .int .i64 lo, .int .i64 hi] w fun e w' => e = .returned (.bool true) ∧ w' = w := by
  obtain ⟨h1, h2⟩ := h
  go_enter Tryd.func46, Tryd.ntmps46
  go_wp2
  all_goals (go_ret; exact ⟨rfl, rfl⟩)
theorem within_f (n lo hi : Int) (w : World) (h : ¬ (lo ≤ n ∧ n ≤ hi)) : Calls Tryd.prog 46 #[.int .i64 n, .int .i64 lo, .int .i64 hi] w fun e w' => e = .returned (.bool false) ∧ w' = w := by
  by_cases h1 : lo ≤ n
  · have h2 : ¬ n ≤ hi := fun h2 => h ⟨h1, h2⟩
    clear h
    go_enter Tryd.func46, Tryd.ntmps46
    go_wp2
    all_goals (go_ret; exact ⟨rfl, rfl⟩)
  · clear h
    go_enter Tryd.func46, Tryd.ntmps46
    go_wp2
    all_goals (go_ret; exact ⟨rfl, rfl⟩)

set_option maxRecDepth 100000 in
set_option maxHeartbeats 2000000 in
theorem refValid_any (t k a b c : Int) (w : World) :
    Calls Tryd.prog 68 #[rowV ⟨t, k, ⟨a, b, c⟩⟩] w fun e w' => e = .returned (.bool (vr ⟨t, k, ⟨a, b, c⟩⟩)) ∧ Below w.heap.size w w' := by
  by_cases ha : (-1000000000 : Int) ≤ a ∧ a ≤ 1000000000
  case neg =>
    have hv : Hid (vr ⟨t, k, ⟨a, b, c⟩⟩ = false) := Lib.hid (decide_eq_false (fun h => ha h.2.2.1))
    have Ha := Lib.hid ha
    clear ha
    rw [hv.out]
    go_enter Tryd.func68, Tryd.ntmps68
    go_wp2_with fail
    refine wp_loop_rounds 4 ?_
    rw [rounds_succ]
    go_wp2_with fail
    (with_reducible refine (within_f a _ _ _ Ha.out).mono ?_)
    rintro e w1 ⟨rfl, rfl⟩
    go_wp2_with fail
    go_ret
    exact ⟨rfl, ba _ _⟩
  by_cases hb : (-1000000000 : Int) ≤ b ∧ b ≤ 1000000000
  case neg =>
    have hv : Hid (vr ⟨t, k, ⟨a, b, c⟩⟩ = false) := Lib.hid (decide_eq_false (fun h => hb h.2.2.2.1))
    have Ha := Lib.hid ha
    have Hb := Lib.hid hb
    clear ha hb
    rw [hv.out]
    go_enter Tryd.func68, Tryd.ntmps68
    go_wp2_with fail
    refine wp_loop_rounds 4 ?_
    rw [rounds_succ]
    go_wp2_with fail
    (with_reducible refine (within_t a _ _ _ Ha.out).mono ?_)
    rintro e w1 ⟨rfl, rfl⟩
    go_wp2_with fail
    rw [rounds_succ]
    go_wp2_with fail
    (with_reducible refine (within_f b _ _ _ Hb.out).mono ?_)
    rintro e w1 ⟨rfl, rfl⟩
    go_wp2_with fail
    go_ret
    exact ⟨rfl, ba _ _⟩
  by_cases hc : (-1000000000 : Int) ≤ c ∧ c ≤ 1000000000
  case neg =>
    have hv : Hid (vr ⟨t, k, ⟨a, b, c⟩⟩ = false) := Lib.hid (decide_eq_false (fun h => hc h.2.2.2.2))
    have Ha := Lib.hid ha
    have Hb := Lib.hid hb
    have Hc := Lib.hid hc
    clear ha hb hc
    rw [hv.out]
    go_enter Tryd.func68, Tryd.ntmps68
    go_wp2_with fail
    refine wp_loop_rounds 4 ?_
    rw [rounds_succ]
    go_wp2_with fail
    (with_reducible refine (within_t a _ _ _ Ha.out).mono ?_)
    rintro e w1 ⟨rfl, rfl⟩
    go_wp2_with fail
    rw [rounds_succ]
    go_wp2_with fail
    (with_reducible refine (within_t b _ _ _ Hb.out).mono ?_)
    rintro e w1 ⟨rfl, rfl⟩
    go_wp2_with fail
    rw [rounds_succ]
    go_wp2_with fail
    (with_reducible refine (within_f c _ _ _ Hc.out).mono ?_)
    rintro e w1 ⟨rfl, rfl⟩
    go_wp2_with fail
    go_ret
    exact ⟨rfl, ba _ _⟩
  by_cases ht : (0 : Int) ≤ t ∧ t ≤ 3
  case neg =>
    have hv : Hid (vr ⟨t, k, ⟨a, b, c⟩⟩ = false) := Lib.hid (decide_eq_false (fun h => ht h.1))
    have Ha := Lib.hid ha
    have Hb := Lib.hid hb
    have Hc := Lib.hid hc
    have Ht := Lib.hid ht
    clear ha hb hc ht
    rw [hv.out]
    go_enter Tryd.func68, Tryd.ntmps68
    go_wp2_with fail
    refine wp_loop_rounds 4 ?_
    rw [rounds_succ]
    go_wp2_with fail
    (with_reducible refine (within_t a _ _ _ Ha.out).mono ?_)
    rintro e w1 ⟨rfl, rfl⟩
    go_wp2_with fail
    rw [rounds_succ]
    go_wp2_with fail
    (with_reducible refine (within_t b _ _ _ Hb.out).mono ?_)
    rintro e w1 ⟨rfl, rfl⟩
    go_wp2_with fail
    rw [rounds_succ]
    go_wp2_with fail
    (with_reducible refine (within_t c _ _ _ Hc.out).mono ?_)
    rintro e w1 ⟨rfl, rfl⟩
    go_wp2_with fail
    rw [rounds_succ]
    go_wp2_with fail
    (with_reducible refine (within_f t _ _ _ Ht.out).mono ?_)
    rintro e w1 ⟨rfl, rfl⟩
    go_wp2_with fail
    go_ret
    exact ⟨rfl, ba _ _⟩
  by_cases hk : (1 : Int) ≤ k ∧ k ≤ 1000000
  case neg =>
    have hv : Hid (vr ⟨t, k, ⟨a, b, c⟩⟩ = false) := Lib.hid (decide_eq_false (fun h => hk h.2.1))
    have Ha := Lib.hid ha
    have Hb := Lib.hid hb
    have Hc := Lib.hid hc
    have Ht := Lib.hid ht
    have Hk := Lib.hid hk
    clear ha hb hc ht hk
    rw [hv.out]
    go_enter Tryd.func68, Tryd.ntmps68
    go_wp2_with fail
    refine wp_loop_rounds 4 ?_
    rw [rounds_succ]
    go_wp2_with fail
    (with_reducible refine (within_t a _ _ _ Ha.out).mono ?_)
    rintro e w1 ⟨rfl, rfl⟩
    go_wp2_with fail
    rw [rounds_succ]
    go_wp2_with fail
    (with_reducible refine (within_t b _ _ _ Hb.out).mono ?_)
    rintro e w1 ⟨rfl, rfl⟩
    go_wp2_with fail
    rw [rounds_succ]
    go_wp2_with fail
    (with_reducible refine (within_t c _ _ _ Hc.out).mono ?_)
    rintro e w1 ⟨rfl, rfl⟩
    go_wp2_with fail
    rw [rounds_succ]
    go_wp2_with fail
    (with_reducible refine (within_t t _ _ _ Ht.out).mono ?_)
    rintro e w1 ⟨rfl, rfl⟩
    go_wp2_with fail
    (with_reducible refine (within_f k _ _ _ Hk.out).mono ?_)
    rintro e w1 ⟨rfl, rfl⟩
    go_wp2_with fail
    go_ret
    exact ⟨rfl, ba _ _⟩
  have hv : Hid (vr ⟨t, k, ⟨a, b, c⟩⟩ = true) := Lib.hid (decide_eq_true ⟨ht, hk, ha, hb, hc⟩)
  have Ha := Lib.hid ha
  have Hb := Lib.hid hb
  have Hc := Lib.hid hc
  have Ht := Lib.hid ht
  have Hk := Lib.hid hk
  clear ha hb hc ht hk
  rw [hv.out]
  go_enter Tryd.func68, Tryd.ntmps68
  go_wp2_with fail
  refine wp_loop_rounds 4 ?_
  rw [rounds_succ]
  go_wp2_with fail
  (with_reducible refine (within_t a _ _ _ Ha.out).mono ?_)
  rintro e w1 ⟨rfl, rfl⟩
  go_wp2_with fail
  rw [rounds_succ]
  go_wp2_with fail
  (with_reducible refine (within_t b _ _ _ Hb.out).mono ?_)
  rintro e w1 ⟨rfl, rfl⟩
  go_wp2_with fail
  rw [rounds_succ]
  go_wp2_with fail
  (with_reducible refine (within_t c _ _ _ Hc.out).mono ?_)
  rintro e w1 ⟨rfl, rfl⟩
  go_wp2_with fail
  rw [rounds_succ]
  go_wp2_with fail
  (with_reducible refine (within_t t _ _ _ Ht.out).mono ?_)
  rintro e w1 ⟨rfl, rfl⟩
  go_wp2_with fail
  (with_reducible refine (within_t k _ _ _ Hk.out).mono ?_)
  rintro e w1 ⟨rfl, rfl⟩
  go_wp2_with fail
  go_ret
  exact ⟨rfl, ba _ _⟩

theorem encStr_take_succ (l : List Int) (k : Nat) (h : k < l.length) : encStr (l.take k) ++ encI (l.getD k 0) = encStr (l.take (k + 1)) := by
  apply ext_list
  rw [app_list]
  simp [encStr, encI, encs_take_succ l k h]
theorem IntS.five {w : World} {b o cap : Nat} {x y z u v : Int} (hb : b < w.heap.size) (h0 : w.cell? ⟨b, o, none⟩ = some (.int .i64 x)) (h1 : w.cell? ⟨b, o + 1, none⟩ = some (.int .i64 y)) (h2 : w.cell? ⟨b, o + 2, none⟩ = some (.int .i64 z)) (h3 : w.cell? ⟨b, o + 3, none⟩ = some (.int .i64 u)) (h4 : w.cell? ⟨b, o + 4, none⟩ = some (.int .i64 v)) :
    IntS w (.slice (some ⟨b, o, none⟩) 5 cap) [x, y, z, u, v] :=
  ⟨_, 5, cap, rfl, rfl, by omega, fun _ => ⟨b, o, rfl, hb, fun i hi => by
    match i, hi with
    | 0, _ => exact h0
    | 1, _ => exact h1
    | 2, _ => exact h2
    | 3, _ => exact h3
    | 4, _ => exact h4⟩⟩
theorem refValid_t (r : MRow) (w : World) (h : VRow r) : Calls Tryd.prog 68 #[rowV r] w fun e w' => e = .returned (.bool true) ∧ Below w.heap.size w w' :=
  (refValid_any r.t r.k r.v.a r.v.b r.v.c w).mono fun e w' hw => by
    have h1 : vr ⟨r.t, r.k, ⟨r.v.a, r.v.b, r.v.c⟩⟩ = true := decide_eq_true h
    rw [h1] at hw; exact hw
theorem refValid_f (r : MRow) (w : World) (h : ¬ VRow r) : Calls Tryd.prog 68 #[rowV r] w fun e w' => e = .returned (.bool false) ∧ Below w.heap.size w w' :=
  (refValid_any r.t r.k r.v.a r.v.b r.v.c w).mono fun e w' hw => by
    have h1 : vr ⟨r.t, r.k, ⟨r.v.a, r.v.b, r.v.c⟩⟩ = false := decide_eq_false h
    rw [h1] at hw; exact hw
end Go.Proofs.YtpapfegbodolgaaDoor
set_option linter.unusedVariables false
set_option linter.unusedSimpArgs false
namespace Go.Proofs.YtpapfegbodolgaaDoor
open Go.RowKit Go.Sort

/-- Reading n numbers, from an offset. -/
def getN : Nat → List UInt8 → Nat → Option (List Int × Nat)
  | 0, _, k => some ([], k)
  | n + 1, L, k => match decInt (L.drop k) with
    | none => none
    | some (x, m) => (getN n L (k + m)).map fun q => (x :: q.1, q.2)
theorem getN_len : ∀ (n : Nat) (L : List UInt8) (k : Nat) {l : List Int} {k' : Nat}, getN n L k = some (l, k') → l.length = n
  | 0, _, _, l, _, h => by simp [getN] at h; simp [← h.1]
  | n + 1, L, k, l, k', h => by
    simp only [getN] at h
    cases hd : decInt (L.drop k) with
    | none => simp [hd] at h
    | some p =>
      obtain ⟨x, m⟩ := p
      simp only [hd] at h
      cases hg : getN n L (k + m) with
      | none => simp [hg] at h
      | some q =>
        obtain ⟨l', k2⟩ := q
        simp only [hg, Option.map_some, Option.some.injEq, Prod.mk.injEq] at h
        rw [← h.1, List.length_cons, getN_len n L (k + m) hg]
def pre (acc : List Int) (r : Option (List Int × Nat)) : Option (List Int × Nat) := r.map fun q => (acc ++ q.1, q.2)
theorem pre_nil (r : Option (List Int × Nat)) : pre [] r = r := by cases r <;> simp [pre]
theorem getN_none {n : Nat} {L : List UInt8} {k : Nat} (acc : List Int) (h : decInt (L.drop k) = none) : pre acc (getN (n + 1) L k) = none := by simp [getN, h, pre]
theorem getN_some {n : Nat} {L : List UInt8} {k m : Nat} {x : Int} (acc : List Int) (h : decInt (L.drop k) = some (x, m)) : pre acc (getN (n + 1) L k) = pre (acc ++ [x]) (getN n L (k + m)) := by
  simp only [getN, h, pre]
  cases getN n L (k + m) with
  | none => rfl
  | some q => simp
theorem Tryd.info3 : (Tryd.prog.info? 3).map (fun i => (i.zero, i.size, i.bytes)) = some (some (.int .i64 0), 1, 8) := by kernel_rfl
def intV (x : Int) : Value := .int .i64 x
/-- What get hands back. -/
def GetOut (w : World) (r : Option (List Int × Nat)) (e : Ending) (w' : World) : Prop :=
  Below w.heap.size w w' ∧ match r with
  | none => e = .returned (.tuple #[.slice none 0 0, .int .i64 0, .bool false])
  | some (l, k) => ∃ v, e = .returned (.tuple #[v, .int .i64 (k : Int), .bool true]) ∧ w'.ownsRow w.heap.size 3 1 v l.length (l.map intV)
theorem GetOut.no {w w' : World} {e : Ending} {r : Option (List Int × Nat)} (h : Hid (r = none)) (he : e = .returned (.tuple #[.slice none 0 0, .int .i64 0, .bool false])) (hb : Below w.heap.size w w') : GetOut w r e w' := by rw [h.out]; exact ⟨hb, he⟩
theorem GetOut.ok {w w' : World} {e : Ending} {r : Option (List Int × Nat)} {l : List Int} {k : Nat} {v : Value} (h : Hid (r = some (l, k))) (he : e = .returned (.tuple #[v, .int .i64 (k : Int), .bool true])) (ho : w'.ownsRow w.heap.size 3 1 v l.length (l.map intV)) (hb : Below w.heap.size w w') : GetOut w r e w' := by rw [h.out]; exact ⟨hb, v, he, ho⟩
end Go.Proofs.YtpapfegbodolgaaDoor
end

section
set_option linter.unusedVariables false
set_option linter.unusedSimpArgs false
namespace Go.Proofs.YtpapfegbodolgaaDoor
open Go.RowKit Go.Sort

set_option maxRecDepth 100000 in
set_option maxHeartbeats 1000000 in
theorem refBefore_any (c : MCh) (w : World) :
    Calls Tryd.prog 66 #[chV c] w fun e w' => e = .returned (.tuple #[rowV (if c.had then ⟨c.t, c.k, c.o⟩ else ⟨0, 0, V3.zero⟩), .bool c.had]) ∧ Below w.heap.size w w' := by
  obtain ⟨t, k, had, ⟨oa, ob, oc⟩, has, ⟨na, nb, nc⟩⟩ := c
  cases had
  · unfold chV rowV
    go_enter Tryd.func66, Tryd.ntmps66
    go_wp2
    exact bodyPost_ret (v := .tuple #[.agg #[.int .i64 0, .int .i64 0, .int .i64 0, .int .i64 0, .int .i64 0], .bool false]) (by simp [results, Tryd.results66, go_sem]) rfl ⟨rfl, ((Below.refl _ w).alloc (Nat.le_refl _) _).alloc (by simp) _⟩
  · unfold chV rowV
    go_enter Tryd.func66, Tryd.ntmps66
    go_wp2
    exact bodyPost_ret (v := .tuple #[.agg #[.int .i64 t, .int .i64 k, .int .i64 oa, .int .i64 ob, .int .i64 oc], .bool true]) (by simp [results, Tryd.results66, go_sem]) rfl ⟨rfl, ((Below.refl _ w).alloc (Nat.le_refl _) _).alloc (by simp) _⟩
set_option maxRecDepth 100000 in
set_option maxHeartbeats 1000000 in
theorem refAfter_any (c : MCh) (w : World) :
    Calls Tryd.prog 67 #[chV c] w fun e w' => e = .returned (.tuple #[rowV (if c.has then ⟨c.t, c.k, c.n⟩ else ⟨0, 0, V3.zero⟩), .bool c.has]) ∧ Below w.heap.size w w' := by
  obtain ⟨t, k, had, ⟨oa, ob, oc⟩, has, ⟨na, nb, nc⟩⟩ := c
  cases has
  · unfold chV rowV
    go_enter Tryd.func67, Tryd.ntmps67
    go_wp2
    exact bodyPost_ret (v := .tuple #[.agg #[.int .i64 0, .int .i64 0, .int .i64 0, .int .i64 0, .int .i64 0], .bool false]) (by simp [results, Tryd.results67, go_sem]) rfl ⟨rfl, ((Below.refl _ w).alloc (Nat.le_refl _) _).alloc (by simp) _⟩
  · unfold chV rowV
    go_enter Tryd.func67, Tryd.ntmps67
    go_wp2
    exact bodyPost_ret (v := .tuple #[.agg #[.int .i64 t, .int .i64 k, .int .i64 na, .int .i64 nb, .int .i64 nc], .bool true]) (by simp [results, Tryd.results67, go_sem]) rfl ⟨rfl, ((Below.refl _ w).alloc (Nat.le_refl _) _).alloc (by simp) _⟩
theorem rbef_true (t k oa ob oc na nb nc : Int) (x : Bool) (W : World) : Calls Tryd.prog 66 #[chV ⟨t, k, true, ⟨oa, ob, oc⟩, x, ⟨na, nb, nc⟩⟩] W fun e w' => e = .returned (.tuple #[rowV ⟨t, k, ⟨oa, ob, oc⟩⟩, .bool true]) ∧ Below W.heap.size W w' := refBefore_any ⟨t, k, true, ⟨oa, ob, oc⟩, x, ⟨na, nb, nc⟩⟩ W
theorem rbef_false (t k oa ob oc na nb nc : Int) (x : Bool) (W : World) : Calls Tryd.prog 66 #[chV ⟨t, k, false, ⟨oa, ob, oc⟩, x, ⟨na, nb, nc⟩⟩] W fun e w' => e = .returned (.tuple #[rowV ⟨0, 0, ⟨0, 0, 0⟩⟩, .bool false]) ∧ Below W.heap.size W w' := refBefore_any ⟨t, k, false, ⟨oa, ob, oc⟩, x, ⟨na, nb, nc⟩⟩ W
theorem raft_true (t k oa ob oc na nb nc : Int) (x : Bool) (W : World) : Calls Tryd.prog 67 #[chV ⟨t, k, x, ⟨oa, ob, oc⟩, true, ⟨na, nb, nc⟩⟩] W fun e w' => e = .returned (.tuple #[rowV ⟨t, k, ⟨na, nb, nc⟩⟩, .bool true]) ∧ Below W.heap.size W w' := refAfter_any ⟨t, k, x, ⟨oa, ob, oc⟩, true, ⟨na, nb, nc⟩⟩ W
theorem raft_false (t k oa ob oc na nb nc : Int) (x : Bool) (W : World) : Calls Tryd.prog 67 #[chV ⟨t, k, x, ⟨oa, ob, oc⟩, false, ⟨na, nb, nc⟩⟩] W fun e w' => e = .returned (.tuple #[rowV ⟨0, 0, ⟨0, 0, 0⟩⟩, .bool false]) ∧ Below W.heap.size W w' := refAfter_any ⟨t, k, x, ⟨oa, ob, oc⟩, false, ⟨na, nb, nc⟩⟩ W
set_option maxRecDepth 100000 in
set_option maxHeartbeats 2000000 in
theorem refVC_false_false_none (t k oa ob oc na nb nc : Int) (w : World)  : Calls Tryd.prog 47 #[chV ⟨t, k, false, ⟨oa, ob, oc⟩, false, ⟨na, nb, nc⟩⟩] w fun e w' => e = .returned (.bool (vc ⟨t, k, false, ⟨oa, ob, oc⟩, false, ⟨na, nb, nc⟩⟩)) ∧ Below w.heap.size w w' := by
  have hv : Hid (vc ⟨t, k, false, ⟨oa, ob, oc⟩, false, ⟨na, nb, nc⟩⟩ = false) := Lib.hid (decide_eq_false (fun h => by rcases h.1 with h | h <;> cases h))
  rw [hv.out]
  go_enter Tryd.func47, Tryd.ntmps47
  have HC0 : Hid (ChAt (w.alloc (.cells #[.int .i64 t, .int .i64 k, .bool false, .int .i64 oa, .int .i64 ob, .int .i64 oc, .bool false, .int .i64 na, .int .i64 nb, .int .i64 nc] 57)) w.heap.size 0 ⟨t, k, false, ⟨oa, ob, oc⟩, false, ⟨na, nb, nc⟩⟩) := Lib.hid (ChAt_new w ⟨t, k, false, ⟨oa, ob, oc⟩, false, ⟨na, nb, nc⟩⟩)
  go_wp2_with fail
  (with_reducible refine (rbef_false t k oa ob oc na nb nc false _).mono ?_)
  rintro e w2 ⟨rfl, hb2⟩
  have hk2 := bt hb2 (ba w2 (.cells #[.int .i64 0, .int .i64 0, .int .i64 0, .int .i64 0, .int .i64 0] 111))
  have HB2 := Lib.hid (bt (ba w (.cells #[.int .i64 t, .int .i64 k, .bool false, .int .i64 oa, .int .i64 ob, .int .i64 oc, .bool false, .int .i64 na, .int .i64 nb, .int .i64 nc] 57)) hk2)
  have HC2 := Lib.hid (HC0.out.below (by simp) hk2)
  have HA2 := Lib.hid (RwAt.new w2 ⟨0, 0, ⟨0, 0, 0⟩⟩)
  have hl2 : w.heap.size < w2.heap.size := by have := hb2.size; simp only [World.size_alloc] at this; omega
  clear hb2 hk2 HC0
  obtain ⟨d0, d1, d2, d3, d4, d5, d6, d7, d8, d9⟩ := ChAt.cells HC2.out
  go_wp2_with fail
  (with_reducible refine (raft_false t k oa ob oc na nb nc false _).mono ?_)
  rintro e w3 ⟨rfl, hb3⟩
  have hk3 := bt hb3 (ba w3 (.cells #[.int .i64 0, .int .i64 0, .int .i64 0, .int .i64 0, .int .i64 0] 111))
  have HB3 := Lib.hid (bt HB2.out hk3)
  have HC3 := Lib.hid (HC2.out.below (by simp; omega) hk3)
  have HA3 := Lib.hid (HA2.out.below hk3)
  have HN3 := Lib.hid (RwAt.new w3 ⟨0, 0, ⟨0, 0, 0⟩⟩)
  clear hb3 hk3 HC2 HA2 HB2 d0 d1 d2 d3 d4 d5 d6 d7 d8 d9
  obtain ⟨d0, d1, d2, d3, d4, d5, d6, d7, d8, d9⟩ := ChAt.cells HC3.out
  obtain ⟨a0, a1, a2, a3, a4⟩ := HA3.out
  obtain ⟨n0, n1, n2, n3, n4⟩ := HN3.out
  go_wp2_with fail
  go_ret
  exact ⟨rfl, HB3.out⟩
set_option maxRecDepth 100000 in
set_option maxHeartbeats 2000000 in
theorem refVC_true_false_vo (t k oa ob oc na nb nc : Int) (w : World) (h3 : ¬ VRow ⟨t, k, ⟨oa, ob, oc⟩⟩) : Calls Tryd.prog 47 #[chV ⟨t, k, true, ⟨oa, ob, oc⟩, false, ⟨na, nb, nc⟩⟩] w fun e w' => e = .returned (.bool (vc ⟨t, k, true, ⟨oa, ob, oc⟩, false, ⟨na, nb, nc⟩⟩)) ∧ Below w.heap.size w w' := by
  have hv : Hid (vc ⟨t, k, true, ⟨oa, ob, oc⟩, false, ⟨na, nb, nc⟩⟩ = false) := Lib.hid (decide_eq_false (fun h => h3 (h.2.2.1.1 rfl)))
  have H3 := Lib.hid h3
  clear h3
  rw [hv.out]
  go_enter Tryd.func47, Tryd.ntmps47
  have HC0 : Hid (ChAt (w.alloc (.cells #[.int .i64 t, .int .i64 k, .bool true, .int .i64 oa, .int .i64 ob, .int .i64 oc, .bool false, .int .i64 na, .int .i64 nb, .int .i64 nc] 57)) w.heap.size 0 ⟨t, k, true, ⟨oa, ob, oc⟩, false, ⟨na, nb, nc⟩⟩) := Lib.hid (ChAt_new w ⟨t, k, true, ⟨oa, ob, oc⟩, false, ⟨na, nb, nc⟩⟩)
  go_wp2_with fail
  (with_reducible refine (rbef_true t k oa ob oc na nb nc false _).mono ?_)
  rintro e w2 ⟨rfl, hb2⟩
  have hk2 := bt hb2 (ba w2 (.cells #[.int .i64 t, .int .i64 k, .int .i64 oa, .int .i64 ob, .int .i64 oc] 111))
  have HB2 := Lib.hid (bt (ba w (.cells #[.int .i64 t, .int .i64 k, .bool true, .int .i64 oa, .int .i64 ob, .int .i64 oc, .bool false, .int .i64 na, .int .i64 nb, .int .i64 nc] 57)) hk2)
  have HC2 := Lib.hid (HC0.out.below (by simp) hk2)
  have HA2 := Lib.hid (RwAt.new w2 ⟨t, k, ⟨oa, ob, oc⟩⟩)
  have hl2 : w.heap.size < w2.heap.size := by have := hb2.size; simp only [World.size_alloc] at this; omega
  clear hb2 hk2 HC0
  obtain ⟨d0, d1, d2, d3, d4, d5, d6, d7, d8, d9⟩ := ChAt.cells HC2.out
  go_wp2_with fail
  (with_reducible refine (raft_false t k oa ob oc na nb nc true _).mono ?_)
  rintro e w3 ⟨rfl, hb3⟩
  have hk3 := bt hb3 (ba w3 (.cells #[.int .i64 0, .int .i64 0, .int .i64 0, .int .i64 0, .int .i64 0] 111))
  have HB3 := Lib.hid (bt HB2.out hk3)
  have HC3 := Lib.hid (HC2.out.below (by simp; omega) hk3)
  have HA3 := Lib.hid (HA2.out.below hk3)
  have HN3 := Lib.hid (RwAt.new w3 ⟨0, 0, ⟨0, 0, 0⟩⟩)
  clear hb3 hk3 HC2 HA2 HB2 d0 d1 d2 d3 d4 d5 d6 d7 d8 d9
  obtain ⟨d0, d1, d2, d3, d4, d5, d6, d7, d8, d9⟩ := ChAt.cells HC3.out
  obtain ⟨a0, a1, a2, a3, a4⟩ := HA3.out
  obtain ⟨n0, n1, n2, n3, n4⟩ := HN3.out
  go_wp2_with fail
  (with_reducible refine (refValid_f ⟨t, k, ⟨oa, ob, oc⟩⟩ _ H3.out).mono ?_)
  rintro e w4 ⟨rfl, hb4⟩
  have HB4 := Lib.hid (bt HB3.out hb4)
  have HC4 := Lib.hid (HC3.out.below (World.block_lt_of_cell? _ _ d0) hb4)
  have HN4 := Lib.hid (HN3.out.below hb4)
  clear hb4 d0 d1 d2 d3 d4 d5 d6 d7 d8 d9 a0 a1 a2 a3 a4 n0 n1 n2 n3 n4
  obtain ⟨d0, d1, d2, d3, d4, d5, d6, d7, d8, d9⟩ := ChAt.cells HC4.out
  obtain ⟨n0, n1, n2, n3, n4⟩ := HN4.out
  go_wp2_with fail
  go_ret
  exact ⟨rfl, HB4.out⟩
set_option maxRecDepth 100000 in
set_option maxHeartbeats 2000000 in
theorem refVC_true_false_z (t k oa ob oc na nb nc : Int) (w : World) (h3 : VRow ⟨t, k, ⟨oa, ob, oc⟩⟩) (h2 : ¬ (⟨na, nb, nc⟩ : V3) = ⟨0, 0, 0⟩) : Calls Tryd.prog 47 #[chV ⟨t, k, true, ⟨oa, ob, oc⟩, false, ⟨na, nb, nc⟩⟩] w fun e w' => e = .returned (.bool (vc ⟨t, k, true, ⟨oa, ob, oc⟩, false, ⟨na, nb, nc⟩⟩)) ∧ Below w.heap.size w w' := by
  have hv : Hid (vc ⟨t, k, true, ⟨oa, ob, oc⟩, false, ⟨na, nb, nc⟩⟩ = false) := Lib.hid (decide_eq_false (fun h => h2 (h.2.2.2.2 rfl)))
  have he := fun w => eql3 na nb nc 0 0 0 w
  rw [show v3e ⟨na, nb, nc⟩ ⟨0, 0, 0⟩ = false from decide_eq_false h2] at he
  have H3 := Lib.hid h3
  clear h2 h3
  rw [hv.out]
  go_enter Tryd.func47, Tryd.ntmps47
  have HC0 : Hid (ChAt (w.alloc (.cells #[.int .i64 t, .int .i64 k, .bool true, .int .i64 oa, .int .i64 ob, .int .i64 oc, .bool false, .int .i64 na, .int .i64 nb, .int .i64 nc] 57)) w.heap.size 0 ⟨t, k, true, ⟨oa, ob, oc⟩, false, ⟨na, nb, nc⟩⟩) := Lib.hid (ChAt_new w ⟨t, k, true, ⟨oa, ob, oc⟩, false, ⟨na, nb, nc⟩⟩)
  go_wp2_with fail
  (with_reducible refine (rbef_true t k oa ob oc na nb nc false _).mono ?_)
  rintro e w2 ⟨rfl, hb2⟩
  have hk2 := bt hb2 (ba w2 (.cells #[.int .i64 t, .int .i64 k, .int .i64 oa, .int .i64 ob, .int .i64 oc] 111))
  have HB2 := Lib.hid (bt (ba w (.cells #[.int .i64 t, .int .i64 k, .bool true, .int .i64 oa, .int .i64 ob, .int .i64 oc, .bool false, .int .i64 na, .int .i64 nb, .int .i64 nc] 57)) hk2)
  have HC2 := Lib.hid (HC0.out.below (by simp) hk2)
  have HA2 := Lib.hid (RwAt.new w2 ⟨t, k, ⟨oa, ob, oc⟩⟩)
  have hl2 : w.heap.size < w2.heap.size := by have := hb2.size; simp only [World.size_alloc] at this; omega
  clear hb2 hk2 HC0
  obtain ⟨d0, d1, d2, d3, d4, d5, d6, d7, d8, d9⟩ := ChAt.cells HC2.out
  go_wp2_with fail
  (with_reducible refine (raft_false t k oa ob oc na nb nc true _).mono ?_)
  rintro e w3 ⟨rfl, hb3⟩
  have hk3 := bt hb3 (ba w3 (.cells #[.int .i64 0, .int .i64 0, .int .i64 0, .int .i64 0, .int .i64 0] 111))
  have HB3 := Lib.hid (bt HB2.out hk3)
  have HC3 := Lib.hid (HC2.out.below (by simp; omega) hk3)
  have HA3 := Lib.hid (HA2.out.below hk3)
  have HN3 := Lib.hid (RwAt.new w3 ⟨0, 0, ⟨0, 0, 0⟩⟩)
  clear hb3 hk3 HC2 HA2 HB2 d0 d1 d2 d3 d4 d5 d6 d7 d8 d9
  obtain ⟨d0, d1, d2, d3, d4, d5, d6, d7, d8, d9⟩ := ChAt.cells HC3.out
  obtain ⟨a0, a1, a2, a3, a4⟩ := HA3.out
  obtain ⟨n0, n1, n2, n3, n4⟩ := HN3.out
  go_wp2_with fail
  (with_reducible refine (refValid_t ⟨t, k, ⟨oa, ob, oc⟩⟩ _ H3.out).mono ?_)
  rintro e w4 ⟨rfl, hb4⟩
  have HB4 := Lib.hid (bt HB3.out hb4)
  have HC4 := Lib.hid (HC3.out.below (World.block_lt_of_cell? _ _ d0) hb4)
  have HN4 := Lib.hid (HN3.out.below hb4)
  clear hb4 d0 d1 d2 d3 d4 d5 d6 d7 d8 d9 a0 a1 a2 a3 a4 n0 n1 n2 n3 n4
  obtain ⟨d0, d1, d2, d3, d4, d5, d6, d7, d8, d9⟩ := ChAt.cells HC4.out
  obtain ⟨n0, n1, n2, n3, n4⟩ := HN4.out
  go_wp2_with fail
  go_ret
  exact ⟨rfl, HB4.out⟩
set_option maxRecDepth 100000 in
set_option maxHeartbeats 2000000 in
theorem refVC_true_false_ok (t k oa ob oc na nb nc : Int) (w : World) (h3 : VRow ⟨t, k, ⟨oa, ob, oc⟩⟩) (h2 : (⟨na, nb, nc⟩ : V3) = ⟨0, 0, 0⟩) : Calls Tryd.prog 47 #[chV ⟨t, k, true, ⟨oa, ob, oc⟩, false, ⟨na, nb, nc⟩⟩] w fun e w' => e = .returned (.bool (vc ⟨t, k, true, ⟨oa, ob, oc⟩, false, ⟨na, nb, nc⟩⟩)) ∧ Below w.heap.size w w' := by
  have hv : Hid (vc ⟨t, k, true, ⟨oa, ob, oc⟩, false, ⟨na, nb, nc⟩⟩ = true) := Lib.hid (decide_eq_true (⟨.inl rfl, (fun h => by cases h.2.1), ⟨fun _ => h3, (fun h => by cases h)⟩, ⟨(fun h => by cases h), fun _ => h2⟩⟩))
  have he := fun w => eql3 na nb nc 0 0 0 w
  rw [show v3e ⟨na, nb, nc⟩ ⟨0, 0, 0⟩ = true from decide_eq_true h2] at he
  have H3 := Lib.hid h3
  clear h2 h3
  rw [hv.out]
  go_enter Tryd.func47, Tryd.ntmps47
  have HC0 : Hid (ChAt (w.alloc (.cells #[.int .i64 t, .int .i64 k, .bool true, .int .i64 oa, .int .i64 ob, .int .i64 oc, .bool false, .int .i64 na, .int .i64 nb, .int .i64 nc] 57)) w.heap.size 0 ⟨t, k, true, ⟨oa, ob, oc⟩, false, ⟨na, nb, nc⟩⟩) := Lib.hid (ChAt_new w ⟨t, k, true, ⟨oa, ob, oc⟩, false, ⟨na, nb, nc⟩⟩)
  go_wp2_with fail
  (with_reducible refine (rbef_true t k oa ob oc na nb nc false _).mono ?_)
  rintro e w2 ⟨rfl, hb2⟩
  have hk2 := bt hb2 (ba w2 (.cells #[.int .i64 t, .int .i64 k, .int .i64 oa, .int .i64 ob, .int .i64 oc] 111))
  have HB2 := Lib.hid (bt (ba w (.cells #[.int .i64 t, .int .i64 k, .bool true, .int .i64 oa, .int .i64 ob, .int .i64 oc, .bool false, .int .i64 na, .int .i64 nb, .int .i64 nc] 57)) hk2)
  have HC2 := Lib.hid (HC0.out.below (by simp) hk2)
  have HA2 := Lib.hid (RwAt.new w2 ⟨t, k, ⟨oa, ob, oc⟩⟩)
  have hl2 : w.heap.size < w2.heap.size := by have := hb2.size; simp only [World.size_alloc] at this; omega
  clear hb2 hk2 HC0
  obtain ⟨d0, d1, d2, d3, d4, d5, d6, d7, d8, d9⟩ := ChAt.cells HC2.out
  go_wp2_with fail
  (with_reducible refine (raft_false t k oa ob oc na nb nc true _).mono ?_)
  rintro e w3 ⟨rfl, hb3⟩
  have hk3 := bt hb3 (ba w3 (.cells #[.int .i64 0, .int .i64 0, .int .i64 0, .int .i64 0, .int .i64 0] 111))
  have HB3 := Lib.hid (bt HB2.out hk3)
  have HC3 := Lib.hid (HC2.out.below (by simp; omega) hk3)
  have HA3 := Lib.hid (HA2.out.below hk3)
  have HN3 := Lib.hid (RwAt.new w3 ⟨0, 0, ⟨0, 0, 0⟩⟩)
  clear hb3 hk3 HC2 HA2 HB2 d0 d1 d2 d3 d4 d5 d6 d7 d8 d9
  obtain ⟨d0, d1, d2, d3, d4, d5, d6, d7, d8, d9⟩ := ChAt.cells HC3.out
  obtain ⟨a0, a1, a2, a3, a4⟩ := HA3.out
  obtain ⟨n0, n1, n2, n3, n4⟩ := HN3.out
  go_wp2_with fail
  (with_reducible refine (refValid_t ⟨t, k, ⟨oa, ob, oc⟩⟩ _ H3.out).mono ?_)
  rintro e w4 ⟨rfl, hb4⟩
  have HB4 := Lib.hid (bt HB3.out hb4)
  have HC4 := Lib.hid (HC3.out.below (World.block_lt_of_cell? _ _ d0) hb4)
  have HN4 := Lib.hid (HN3.out.below hb4)
  clear hb4 d0 d1 d2 d3 d4 d5 d6 d7 d8 d9 a0 a1 a2 a3 a4 n0 n1 n2 n3 n4
  obtain ⟨d0, d1, d2, d3, d4, d5, d6, d7, d8, d9⟩ := ChAt.cells HC4.out
  obtain ⟨n0, n1, n2, n3, n4⟩ := HN4.out
  go_wp2_with fail
  go_ret
  exact ⟨rfl, HB4.out⟩
set_option maxRecDepth 100000 in
set_option maxHeartbeats 2000000 in
theorem refVC_false_true_vn (t k oa ob oc na nb nc : Int) (w : World) (h3 : ¬ VRow ⟨t, k, ⟨na, nb, nc⟩⟩) : Calls Tryd.prog 47 #[chV ⟨t, k, false, ⟨oa, ob, oc⟩, true, ⟨na, nb, nc⟩⟩] w fun e w' => e = .returned (.bool (vc ⟨t, k, false, ⟨oa, ob, oc⟩, true, ⟨na, nb, nc⟩⟩)) ∧ Below w.heap.size w w' := by
  have hv : Hid (vc ⟨t, k, false, ⟨oa, ob, oc⟩, true, ⟨na, nb, nc⟩⟩ = false) := Lib.hid (decide_eq_false (fun h => h3 (h.2.2.2.1 rfl)))
  have H3 := Lib.hid h3
  clear h3
  rw [hv.out]
  go_enter Tryd.func47, Tryd.ntmps47
  have HC0 : Hid (ChAt (w.alloc (.cells #[.int .i64 t, .int .i64 k, .bool false, .int .i64 oa, .int .i64 ob, .int .i64 oc, .bool true, .int .i64 na, .int .i64 nb, .int .i64 nc] 57)) w.heap.size 0 ⟨t, k, false, ⟨oa, ob, oc⟩, true, ⟨na, nb, nc⟩⟩) := Lib.hid (ChAt_new w ⟨t, k, false, ⟨oa, ob, oc⟩, true, ⟨na, nb, nc⟩⟩)
  go_wp2_with fail
  (with_reducible refine (rbef_false t k oa ob oc na nb nc true _).mono ?_)
  rintro e w2 ⟨rfl, hb2⟩
  have hk2 := bt hb2 (ba w2 (.cells #[.int .i64 0, .int .i64 0, .int .i64 0, .int .i64 0, .int .i64 0] 111))
  have HB2 := Lib.hid (bt (ba w (.cells #[.int .i64 t, .int .i64 k, .bool false, .int .i64 oa, .int .i64 ob, .int .i64 oc, .bool true, .int .i64 na, .int .i64 nb, .int .i64 nc] 57)) hk2)
  have HC2 := Lib.hid (HC0.out.below (by simp) hk2)
  have HA2 := Lib.hid (RwAt.new w2 ⟨0, 0, ⟨0, 0, 0⟩⟩)
  have hl2 : w.heap.size < w2.heap.size := by have := hb2.size; simp only [World.size_alloc] at this; omega
  clear hb2 hk2 HC0
  obtain ⟨d0, d1, d2, d3, d4, d5, d6, d7, d8, d9⟩ := ChAt.cells HC2.out
  go_wp2_with fail
  (with_reducible refine (raft_true t k oa ob oc na nb nc false _).mono ?_)
  rintro e w3 ⟨rfl, hb3⟩
  have hk3 := bt hb3 (ba w3 (.cells #[.int .i64 t, .int .i64 k, .int .i64 na, .int .i64 nb, .int .i64 nc] 111))
  have HB3 := Lib.hid (bt HB2.out hk3)
  have HC3 := Lib.hid (HC2.out.below (by simp; omega) hk3)
  have HA3 := Lib.hid (HA2.out.below hk3)
  have HN3 := Lib.hid (RwAt.new w3 ⟨t, k, ⟨na, nb, nc⟩⟩)
  clear hb3 hk3 HC2 HA2 HB2 d0 d1 d2 d3 d4 d5 d6 d7 d8 d9
  obtain ⟨d0, d1, d2, d3, d4, d5, d6, d7, d8, d9⟩ := ChAt.cells HC3.out
  obtain ⟨a0, a1, a2, a3, a4⟩ := HA3.out
  obtain ⟨n0, n1, n2, n3, n4⟩ := HN3.out
  go_wp2_with fail
  (with_reducible refine (refValid_f ⟨t, k, ⟨na, nb, nc⟩⟩ _ H3.out).mono ?_)
  rintro e w4 ⟨rfl, hb4⟩
  have HB4 := Lib.hid (bt HB3.out hb4)
  have HC4 := Lib.hid (HC3.out.below (World.block_lt_of_cell? _ _ d0) hb4)
  have HN4 := Lib.hid (HN3.out.below hb4)
  clear hb4 d0 d1 d2 d3 d4 d5 d6 d7 d8 d9 a0 a1 a2 a3 a4 n0 n1 n2 n3 n4
  obtain ⟨d0, d1, d2, d3, d4, d5, d6, d7, d8, d9⟩ := ChAt.cells HC4.out
  obtain ⟨n0, n1, n2, n3, n4⟩ := HN4.out
  go_wp2_with fail
  go_ret
  exact ⟨rfl, HB4.out⟩
set_option maxRecDepth 100000 in
set_option maxHeartbeats 2000000 in
theorem refVC_false_true_z (t k oa ob oc na nb nc : Int) (w : World) (h3 : VRow ⟨t, k, ⟨na, nb, nc⟩⟩) (h2 : ¬ (⟨oa, ob, oc⟩ : V3) = ⟨0, 0, 0⟩) : Calls Tryd.prog 47 #[chV ⟨t, k, false, ⟨oa, ob, oc⟩, true, ⟨na, nb, nc⟩⟩] w fun e w' => e = .returned (.bool (vc ⟨t, k, false, ⟨oa, ob, oc⟩, true, ⟨na, nb, nc⟩⟩)) ∧ Below w.heap.size w w' := by
  have hv : Hid (vc ⟨t, k, false, ⟨oa, ob, oc⟩, true, ⟨na, nb, nc⟩⟩ = false) := Lib.hid (decide_eq_false (fun h => h2 (h.2.2.1.2 rfl)))
  have he := fun w => eql3 oa ob oc 0 0 0 w
  rw [show v3e ⟨oa, ob, oc⟩ ⟨0, 0, 0⟩ = false from decide_eq_false h2] at he
  have H3 := Lib.hid h3
  clear h2 h3
  rw [hv.out]
  go_enter Tryd.func47, Tryd.ntmps47
  have HC0 : Hid (ChAt (w.alloc (.cells #[.int .i64 t, .int .i64 k, .bool false, .int .i64 oa, .int .i64 ob, .int .i64 oc, .bool true, .int .i64 na, .int .i64 nb, .int .i64 nc] 57)) w.heap.size 0 ⟨t, k, false, ⟨oa, ob, oc⟩, true, ⟨na, nb, nc⟩⟩) := Lib.hid (ChAt_new w ⟨t, k, false, ⟨oa, ob, oc⟩, true, ⟨na, nb, nc⟩⟩)
  go_wp2_with fail
  (with_reducible refine (rbef_false t k oa ob oc na nb nc true _).mono ?_)
  rintro e w2 ⟨rfl, hb2⟩
  have hk2 := bt hb2 (ba w2 (.cells #[.int .i64 0, .int .i64 0, .int .i64 0, .int .i64 0, .int .i64 0] 111))
  have HB2 := Lib.hid (bt (ba w (.cells #[.int .i64 t, .int .i64 k, .bool false, .int .i64 oa, .int .i64 ob, .int .i64 oc, .bool true, .int .i64 na, .int .i64 nb, .int .i64 nc] 57)) hk2)
  have HC2 := Lib.hid (HC0.out.below (by simp) hk2)
  have HA2 := Lib.hid (RwAt.new w2 ⟨0, 0, ⟨0, 0, 0⟩⟩)
  have hl2 : w.heap.size < w2.heap.size := by have := hb2.size; simp only [World.size_alloc] at this; omega
  clear hb2 hk2 HC0
  obtain ⟨d0, d1, d2, d3, d4, d5, d6, d7, d8, d9⟩ := ChAt.cells HC2.out
  go_wp2_with fail
  (with_reducible refine (raft_true t k oa ob oc na nb nc false _).mono ?_)
  rintro e w3 ⟨rfl, hb3⟩
  have hk3 := bt hb3 (ba w3 (.cells #[.int .i64 t, .int .i64 k, .int .i64 na, .int .i64 nb, .int .i64 nc] 111))
  have HB3 := Lib.hid (bt HB2.out hk3)
  have HC3 := Lib.hid (HC2.out.below (by simp; omega) hk3)
  have HA3 := Lib.hid (HA2.out.below hk3)
  have HN3 := Lib.hid (RwAt.new w3 ⟨t, k, ⟨na, nb, nc⟩⟩)
  clear hb3 hk3 HC2 HA2 HB2 d0 d1 d2 d3 d4 d5 d6 d7 d8 d9
  obtain ⟨d0, d1, d2, d3, d4, d5, d6, d7, d8, d9⟩ := ChAt.cells HC3.out
  obtain ⟨a0, a1, a2, a3, a4⟩ := HA3.out
  obtain ⟨n0, n1, n2, n3, n4⟩ := HN3.out
  go_wp2_with fail
  (with_reducible refine (refValid_t ⟨t, k, ⟨na, nb, nc⟩⟩ _ H3.out).mono ?_)
  rintro e w4 ⟨rfl, hb4⟩
  have HB4 := Lib.hid (bt HB3.out hb4)
  have HC4 := Lib.hid (HC3.out.below (World.block_lt_of_cell? _ _ d0) hb4)
  have HN4 := Lib.hid (HN3.out.below hb4)
  clear hb4 d0 d1 d2 d3 d4 d5 d6 d7 d8 d9 a0 a1 a2 a3 a4 n0 n1 n2 n3 n4
  obtain ⟨d0, d1, d2, d3, d4, d5, d6, d7, d8, d9⟩ := ChAt.cells HC4.out
  obtain ⟨n0, n1, n2, n3, n4⟩ := HN4.out
  go_wp2_with fail
  go_ret
  exact ⟨rfl, HB4.out⟩
set_option maxRecDepth 100000 in
set_option maxHeartbeats 2000000 in
theorem refVC_false_true_ok (t k oa ob oc na nb nc : Int) (w : World) (h3 : VRow ⟨t, k, ⟨na, nb, nc⟩⟩) (h2 : (⟨oa, ob, oc⟩ : V3) = ⟨0, 0, 0⟩) : Calls Tryd.prog 47 #[chV ⟨t, k, false, ⟨oa, ob, oc⟩, true, ⟨na, nb, nc⟩⟩] w fun e w' => e = .returned (.bool (vc ⟨t, k, false, ⟨oa, ob, oc⟩, true, ⟨na, nb, nc⟩⟩)) ∧ Below w.heap.size w w' := by
  have hv : Hid (vc ⟨t, k, false, ⟨oa, ob, oc⟩, true, ⟨na, nb, nc⟩⟩ = true) := Lib.hid (decide_eq_true (⟨.inr rfl, (fun h => by cases h.1), ⟨(fun h => by cases h), fun _ => h2⟩, ⟨fun _ => h3, (fun h => by cases h)⟩⟩))
  have he := fun w => eql3 oa ob oc 0 0 0 w
  rw [show v3e ⟨oa, ob, oc⟩ ⟨0, 0, 0⟩ = true from decide_eq_true h2] at he
  have H3 := Lib.hid h3
  clear h2 h3
  rw [hv.out]
  go_enter Tryd.func47, Tryd.ntmps47
  have HC0 : Hid (ChAt (w.alloc (.cells #[.int .i64 t, .int .i64 k, .bool false, .int .i64 oa, .int .i64 ob, .int .i64 oc, .bool true, .int .i64 na, .int .i64 nb, .int .i64 nc] 57)) w.heap.size 0 ⟨t, k, false, ⟨oa, ob, oc⟩, true, ⟨na, nb, nc⟩⟩) := Lib.hid (ChAt_new w ⟨t, k, false, ⟨oa, ob, oc⟩, true, ⟨na, nb, nc⟩⟩)
  go_wp2_with fail
  (with_reducible refine (rbef_false t k oa ob oc na nb nc true _).mono ?_)
  rintro e w2 ⟨rfl, hb2⟩
  have hk2 := bt hb2 (ba w2 (.cells #[.int .i64 0, .int .i64 0, .int .i64 0, .int .i64 0, .int .i64 0] 111))
  have HB2 := Lib.hid (bt (ba w (.cells #[.int .i64 t, .int .i64 k, .bool false, .int .i64 oa, .int .i64 ob, .int .i64 oc, .bool true, .int .i64 na, .int .i64 nb, .int .i64 nc] 57)) hk2)
  have HC2 := Lib.hid (HC0.out.below (by simp) hk2)
  have HA2 := Lib.hid (RwAt.new w2 ⟨0, 0, ⟨0, 0, 0⟩⟩)
  have hl2 : w.heap.size < w2.heap.size := by have := hb2.size; simp only [World.size_alloc] at this; omega
  clear hb2 hk2 HC0
  obtain ⟨d0, d1, d2, d3, d4, d5, d6, d7, d8, d9⟩ := ChAt.cells HC2.out
  go_wp2_with fail
  (with_reducible refine (raft_true t k oa ob oc na nb nc false _).mono ?_)
  rintro e w3 ⟨rfl, hb3⟩
  have hk3 := bt hb3 (ba w3 (.cells #[.int .i64 t, .int .i64 k, .int .i64 na, .int .i64 nb, .int .i64 nc] 111))
  have HB3 := Lib.hid (bt HB2.out hk3)
  have HC3 := Lib.hid (HC2.out.below (by simp; omega) hk3)
  have HA3 := Lib.hid (HA2.out.below hk3)
  have HN3 := Lib.hid (RwAt.new w3 ⟨t, k, ⟨na, nb, nc⟩⟩)
  clear hb3 hk3 HC2 HA2 HB2 d0 d1 d2 d3 d4 d5 d6 d7 d8 d9
  obtain ⟨d0, d1, d2, d3, d4, d5, d6, d7, d8, d9⟩ := ChAt.cells HC3.out
  obtain ⟨a0, a1, a2, a3, a4⟩ := HA3.out
  obtain ⟨n0, n1, n2, n3, n4⟩ := HN3.out
  go_wp2_with fail
  (with_reducible refine (refValid_t ⟨t, k, ⟨na, nb, nc⟩⟩ _ H3.out).mono ?_)
  rintro e w4 ⟨rfl, hb4⟩
  have HB4 := Lib.hid (bt HB3.out hb4)
  have HC4 := Lib.hid (HC3.out.below (World.block_lt_of_cell? _ _ d0) hb4)
  have HN4 := Lib.hid (HN3.out.below hb4)
  clear hb4 d0 d1 d2 d3 d4 d5 d6 d7 d8 d9 a0 a1 a2 a3 a4 n0 n1 n2 n3 n4
  obtain ⟨d0, d1, d2, d3, d4, d5, d6, d7, d8, d9⟩ := ChAt.cells HC4.out
  obtain ⟨n0, n1, n2, n3, n4⟩ := HN4.out
  go_wp2_with fail
  go_ret
  exact ⟨rfl, HB4.out⟩
set_option maxRecDepth 100000 in
set_option maxHeartbeats 2000000 in
theorem refVC_true_true_eq (t k oa ob oc na nb nc : Int) (w : World) (h2 : (⟨oa, ob, oc⟩ : V3) = ⟨na, nb, nc⟩) : Calls Tryd.prog 47 #[chV ⟨t, k, true, ⟨oa, ob, oc⟩, true, ⟨na, nb, nc⟩⟩] w fun e w' => e = .returned (.bool (vc ⟨t, k, true, ⟨oa, ob, oc⟩, true, ⟨na, nb, nc⟩⟩)) ∧ Below w.heap.size w w' := by
  have hv : Hid (vc ⟨t, k, true, ⟨oa, ob, oc⟩, true, ⟨na, nb, nc⟩⟩ = false) := Lib.hid (decide_eq_false (fun h => h.2.1 ⟨rfl, rfl, h2⟩))
  have he := fun w => eql3 oa ob oc na nb nc w
  rw [show v3e ⟨oa, ob, oc⟩ ⟨na, nb, nc⟩ = true from decide_eq_true h2] at he
  clear h2
  rw [hv.out]
  go_enter Tryd.func47, Tryd.ntmps47
  have HC0 : Hid (ChAt (w.alloc (.cells #[.int .i64 t, .int .i64 k, .bool true, .int .i64 oa, .int .i64 ob, .int .i64 oc, .bool true, .int .i64 na, .int .i64 nb, .int .i64 nc] 57)) w.heap.size 0 ⟨t, k, true, ⟨oa, ob, oc⟩, true, ⟨na, nb, nc⟩⟩) := Lib.hid (ChAt_new w ⟨t, k, true, ⟨oa, ob, oc⟩, true, ⟨na, nb, nc⟩⟩)
  go_wp2_with fail
  (with_reducible refine (rbef_true t k oa ob oc na nb nc true _).mono ?_)
  rintro e w2 ⟨rfl, hb2⟩
  have hk2 := bt hb2 (ba w2 (.cells #[.int .i64 t, .int .i64 k, .int .i64 oa, .int .i64 ob, .int .i64 oc] 111))
  have HB2 := Lib.hid (bt (ba w (.cells #[.int .i64 t, .int .i64 k, .bool true, .int .i64 oa, .int .i64 ob, .int .i64 oc, .bool true, .int .i64 na, .int .i64 nb, .int .i64 nc] 57)) hk2)
  have HC2 := Lib.hid (HC0.out.below (by simp) hk2)
  have HA2 := Lib.hid (RwAt.new w2 ⟨t, k, ⟨oa, ob, oc⟩⟩)
  have hl2 : w.heap.size < w2.heap.size := by have := hb2.size; simp only [World.size_alloc] at this; omega
  clear hb2 hk2 HC0
  obtain ⟨d0, d1, d2, d3, d4, d5, d6, d7, d8, d9⟩ := ChAt.cells HC2.out
  go_wp2_with fail
  (with_reducible refine (raft_true t k oa ob oc na nb nc true _).mono ?_)
  rintro e w3 ⟨rfl, hb3⟩
  have hk3 := bt hb3 (ba w3 (.cells #[.int .i64 t, .int .i64 k, .int .i64 na, .int .i64 nb, .int .i64 nc] 111))
  have HB3 := Lib.hid (bt HB2.out hk3)
  have HC3 := Lib.hid (HC2.out.below (by simp; omega) hk3)
  have HA3 := Lib.hid (HA2.out.below hk3)
  have HN3 := Lib.hid (RwAt.new w3 ⟨t, k, ⟨na, nb, nc⟩⟩)
  clear hb3 hk3 HC2 HA2 HB2 d0 d1 d2 d3 d4 d5 d6 d7 d8 d9
  obtain ⟨d0, d1, d2, d3, d4, d5, d6, d7, d8, d9⟩ := ChAt.cells HC3.out
  obtain ⟨a0, a1, a2, a3, a4⟩ := HA3.out
  obtain ⟨n0, n1, n2, n3, n4⟩ := HN3.out
  go_wp2_with fail
  go_ret
  exact ⟨rfl, HB3.out⟩
set_option maxRecDepth 100000 in
set_option maxHeartbeats 2000000 in
theorem refVC_true_true_vo (t k oa ob oc na nb nc : Int) (w : World) (h2 : ¬ (⟨oa, ob, oc⟩ : V3) = ⟨na, nb, nc⟩) (h3 : ¬ VRow ⟨t, k, ⟨oa, ob, oc⟩⟩) : Calls Tryd.prog 47 #[chV ⟨t, k, true, ⟨oa, ob, oc⟩, true, ⟨na, nb, nc⟩⟩] w fun e w' => e = .returned (.bool (vc ⟨t, k, true, ⟨oa, ob, oc⟩, true, ⟨na, nb, nc⟩⟩)) ∧ Below w.heap.size w w' := by
  have hv : Hid (vc ⟨t, k, true, ⟨oa, ob, oc⟩, true, ⟨na, nb, nc⟩⟩ = false) := Lib.hid (decide_eq_false (fun h => h3 (h.2.2.1.1 rfl)))
  have he := fun w => eql3 oa ob oc na nb nc w
  rw [show v3e ⟨oa, ob, oc⟩ ⟨na, nb, nc⟩ = false from decide_eq_false h2] at he
  have H3 := Lib.hid h3
  clear h2 h3
  rw [hv.out]
  go_enter Tryd.func47, Tryd.ntmps47
  have HC0 : Hid (ChAt (w.alloc (.cells #[.int .i64 t, .int .i64 k, .bool true, .int .i64 oa, .int .i64 ob, .int .i64 oc, .bool true, .int .i64 na, .int .i64 nb, .int .i64 nc] 57)) w.heap.size 0 ⟨t, k, true, ⟨oa, ob, oc⟩, true, ⟨na, nb, nc⟩⟩) := Lib.hid (ChAt_new w ⟨t, k, true, ⟨oa, ob, oc⟩, true, ⟨na, nb, nc⟩⟩)
  go_wp2_with fail
  (with_reducible refine (rbef_true t k oa ob oc na nb nc true _).mono ?_)
  rintro e w2 ⟨rfl, hb2⟩
  have hk2 := bt hb2 (ba w2 (.cells #[.int .i64 t, .int .i64 k, .int .i64 oa, .int .i64 ob, .int .i64 oc] 111))
  have HB2 := Lib.hid (bt (ba w (.cells #[.int .i64 t, .int .i64 k, .bool true, .int .i64 oa, .int .i64 ob, .int .i64 oc, .bool true, .int .i64 na, .int .i64 nb, .int .i64 nc] 57)) hk2)
  have HC2 := Lib.hid (HC0.out.below (by simp) hk2)
  have HA2 := Lib.hid (RwAt.new w2 ⟨t, k, ⟨oa, ob, oc⟩⟩)
  have hl2 : w.heap.size < w2.heap.size := by have := hb2.size; simp only [World.size_alloc] at this; omega
  clear hb2 hk2 HC0
  obtain ⟨d0, d1, d2, d3, d4, d5, d6, d7, d8, d9⟩ := ChAt.cells HC2.out
  go_wp2_with fail
  (with_reducible refine (raft_true t k oa ob oc na nb nc true _).mono ?_)
  rintro e w3 ⟨rfl, hb3⟩
  have hk3 := bt hb3 (ba w3 (.cells #[.int .i64 t, .int .i64 k, .int .i64 na, .int .i64 nb, .int .i64 nc] 111))
  have HB3 := Lib.hid (bt HB2.out hk3)
  have HC3 := Lib.hid (HC2.out.below (by simp; omega) hk3)
  have HA3 := Lib.hid (HA2.out.below hk3)
  have HN3 := Lib.hid (RwAt.new w3 ⟨t, k, ⟨na, nb, nc⟩⟩)
  clear hb3 hk3 HC2 HA2 HB2 d0 d1 d2 d3 d4 d5 d6 d7 d8 d9
  obtain ⟨d0, d1, d2, d3, d4, d5, d6, d7, d8, d9⟩ := ChAt.cells HC3.out
  obtain ⟨a0, a1, a2, a3, a4⟩ := HA3.out
  obtain ⟨n0, n1, n2, n3, n4⟩ := HN3.out
  go_wp2_with fail
  (with_reducible refine (refValid_f ⟨t, k, ⟨oa, ob, oc⟩⟩ _ H3.out).mono ?_)
  rintro e w4 ⟨rfl, hb4⟩
  have HB4 := Lib.hid (bt HB3.out hb4)
  have HC4 := Lib.hid (HC3.out.below (World.block_lt_of_cell? _ _ d0) hb4)
  have HN4 := Lib.hid (HN3.out.below hb4)
  clear hb4 d0 d1 d2 d3 d4 d5 d6 d7 d8 d9 a0 a1 a2 a3 a4 n0 n1 n2 n3 n4
  obtain ⟨d0, d1, d2, d3, d4, d5, d6, d7, d8, d9⟩ := ChAt.cells HC4.out
  obtain ⟨n0, n1, n2, n3, n4⟩ := HN4.out
  go_wp2_with fail
  go_ret
  exact ⟨rfl, HB4.out⟩
set_option maxRecDepth 100000 in
set_option maxHeartbeats 2000000 in
theorem refVC_true_true_vn (t k oa ob oc na nb nc : Int) (w : World) (h2 : ¬ (⟨oa, ob, oc⟩ : V3) = ⟨na, nb, nc⟩) (h3 : VRow ⟨t, k, ⟨oa, ob, oc⟩⟩) (h4 : ¬ VRow ⟨t, k, ⟨na, nb, nc⟩⟩) : Calls Tryd.prog 47 #[chV ⟨t, k, true, ⟨oa, ob, oc⟩, true, ⟨na, nb, nc⟩⟩] w fun e w' => e = .returned (.bool (vc ⟨t, k, true, ⟨oa, ob, oc⟩, true, ⟨na, nb, nc⟩⟩)) ∧ Below w.heap.size w w' := by
  have hv : Hid (vc ⟨t, k, true, ⟨oa, ob, oc⟩, true, ⟨na, nb, nc⟩⟩ = false) := Lib.hid (decide_eq_false (fun h => h4 (h.2.2.2.1 rfl)))
  have he := fun w => eql3 oa ob oc na nb nc w
  rw [show v3e ⟨oa, ob, oc⟩ ⟨na, nb, nc⟩ = false from decide_eq_false h2] at he
  have H3 := Lib.hid h3
  have H4 := Lib.hid h4
  clear h2 h3 h4
  rw [hv.out]
  go_enter Tryd.func47, Tryd.ntmps47
  have HC0 : Hid (ChAt (w.alloc (.cells #[.int .i64 t, .int .i64 k, .bool true, .int .i64 oa, .int .i64 ob, .int .i64 oc, .bool true, .int .i64 na, .int .i64 nb, .int .i64 nc] 57)) w.heap.size 0 ⟨t, k, true, ⟨oa, ob, oc⟩, true, ⟨na, nb, nc⟩⟩) := Lib.hid (ChAt_new w ⟨t, k, true, ⟨oa, ob, oc⟩, true, ⟨na, nb, nc⟩⟩)
  go_wp2_with fail
  (with_reducible refine (rbef_true t k oa ob oc na nb nc true _).mono ?_)
  rintro e w2 ⟨rfl, hb2⟩
  have hk2 := bt hb2 (ba w2 (.cells #[.int .i64 t, .int .i64 k, .int .i64 oa, .int .i64 ob, .int .i64 oc] 111))
  have HB2 := Lib.hid (bt (ba w (.cells #[.int .i64 t, .int .i64 k, .bool true, .int .i64 oa, .int .i64 ob, .int .i64 oc, .bool true, .int .i64 na, .int .i64 nb, .int .i64 nc] 57)) hk2)
  have HC2 := Lib.hid (HC0.out.below (by simp) hk2)
  have HA2 := Lib.hid (RwAt.new w2 ⟨t, k, ⟨oa, ob, oc⟩⟩)
  have hl2 : w.heap.size < w2.heap.size := by have := hb2.size; simp only [World.size_alloc] at this; omega
  clear hb2 hk2 HC0
  obtain ⟨d0, d1, d2, d3, d4, d5, d6, d7, d8, d9⟩ := ChAt.cells HC2.out
  go_wp2_with fail
  (with_reducible refine (raft_true t k oa ob oc na nb nc true _).mono ?_)
  rintro e w3 ⟨rfl, hb3⟩
  have hk3 := bt hb3 (ba w3 (.cells #[.int .i64 t, .int .i64 k, .int .i64 na, .int .i64 nb, .int .i64 nc] 111))
  have HB3 := Lib.hid (bt HB2.out hk3)
  have HC3 := Lib.hid (HC2.out.below (by simp; omega) hk3)
  have HA3 := Lib.hid (HA2.out.below hk3)
  have HN3 := Lib.hid (RwAt.new w3 ⟨t, k, ⟨na, nb, nc⟩⟩)
  clear hb3 hk3 HC2 HA2 HB2 d0 d1 d2 d3 d4 d5 d6 d7 d8 d9
  obtain ⟨d0, d1, d2, d3, d4, d5, d6, d7, d8, d9⟩ := ChAt.cells HC3.out
  obtain ⟨a0, a1, a2, a3, a4⟩ := HA3.out
  obtain ⟨n0, n1, n2, n3, n4⟩ := HN3.out
  go_wp2_with fail
  (with_reducible refine (refValid_t ⟨t, k, ⟨oa, ob, oc⟩⟩ _ H3.out).mono ?_)
  rintro e w4 ⟨rfl, hb4⟩
  have HB4 := Lib.hid (bt HB3.out hb4)
  have HC4 := Lib.hid (HC3.out.below (World.block_lt_of_cell? _ _ d0) hb4)
  have HN4 := Lib.hid (HN3.out.below hb4)
  clear hb4 d0 d1 d2 d3 d4 d5 d6 d7 d8 d9 a0 a1 a2 a3 a4 n0 n1 n2 n3 n4
  obtain ⟨d0, d1, d2, d3, d4, d5, d6, d7, d8, d9⟩ := ChAt.cells HC4.out
  obtain ⟨n0, n1, n2, n3, n4⟩ := HN4.out
  go_wp2_with fail
  (with_reducible refine (refValid_f ⟨t, k, ⟨na, nb, nc⟩⟩ _ H4.out).mono ?_)
  rintro e w5 ⟨rfl, hb5⟩
  have HB5 := Lib.hid (bt HB4.out hb5)
  have HC5 := Lib.hid (HC4.out.below (World.block_lt_of_cell? _ _ d0) hb5)
  have HN5 := Lib.hid (HN4.out.below hb5)
  clear hb5 d0 d1 d2 d3 d4 d5 d6 d7 d8 d9 n0 n1 n2 n3 n4
  obtain ⟨d0, d1, d2, d3, d4, d5, d6, d7, d8, d9⟩ := ChAt.cells HC5.out
  obtain ⟨n0, n1, n2, n3, n4⟩ := HN5.out
  go_wp2_with fail
  go_ret
  exact ⟨rfl, HB5.out⟩
set_option maxRecDepth 100000 in
set_option maxHeartbeats 2000000 in
theorem refVC_true_true_ok (t k oa ob oc na nb nc : Int) (w : World) (h2 : ¬ (⟨oa, ob, oc⟩ : V3) = ⟨na, nb, nc⟩) (h3 : VRow ⟨t, k, ⟨oa, ob, oc⟩⟩) (h4 : VRow ⟨t, k, ⟨na, nb, nc⟩⟩) : Calls Tryd.prog 47 #[chV ⟨t, k, true, ⟨oa, ob, oc⟩, true, ⟨na, nb, nc⟩⟩] w fun e w' => e = .returned (.bool (vc ⟨t, k, true, ⟨oa, ob, oc⟩, true, ⟨na, nb, nc⟩⟩)) ∧ Below w.heap.size w w' := by
  have hv : Hid (vc ⟨t, k, true, ⟨oa, ob, oc⟩, true, ⟨na, nb, nc⟩⟩ = true) := Lib.hid (decide_eq_true (⟨.inl rfl, fun h => h2 h.2.2, ⟨fun _ => h3, fun h => by cases h⟩, ⟨fun _ => h4, fun h => by cases h⟩⟩))
  have he := fun w => eql3 oa ob oc na nb nc w
  rw [show v3e ⟨oa, ob, oc⟩ ⟨na, nb, nc⟩ = false from decide_eq_false h2] at he
  have H3 := Lib.hid h3
  have H4 := Lib.hid h4
  clear h2 h3 h4
  rw [hv.out]
  go_enter Tryd.func47, Tryd.ntmps47
  have HC0 : Hid (ChAt (w.alloc (.cells #[.int .i64 t, .int .i64 k, .bool true, .int .i64 oa, .int .i64 ob, .int .i64 oc, .bool true, .int .i64 na, .int .i64 nb, .int .i64 nc] 57)) w.heap.size 0 ⟨t, k, true, ⟨oa, ob, oc⟩, true, ⟨na, nb, nc⟩⟩) := Lib.hid (ChAt_new w ⟨t, k, true, ⟨oa, ob, oc⟩, true, ⟨na, nb, nc⟩⟩)
  go_wp2_with fail
  (with_reducible refine (rbef_true t k oa ob oc na nb nc true _).mono ?_)
  rintro e w2 ⟨rfl, hb2⟩
  have hk2 := bt hb2 (ba w2 (.cells #[.int .i64 t, .int .i64 k, .int .i64 oa, .int .i64 ob, .int .i64 oc] 111))
  have HB2 := Lib.hid (bt (ba w (.cells #[.int .i64 t, .int .i64 k, .bool true, .int .i64 oa, .int .i64 ob, .int .i64 oc, .bool true, .int .i64 na, .int .i64 nb, .int .i64 nc] 57)) hk2)
  have HC2 := Lib.hid (HC0.out.below (by simp) hk2)
  have HA2 := Lib.hid (RwAt.new w2 ⟨t, k, ⟨oa, ob, oc⟩⟩)
  have hl2 : w.heap.size < w2.heap.size := by have := hb2.size; simp only [World.size_alloc] at this; omega
  clear hb2 hk2 HC0
  obtain ⟨d0, d1, d2, d3, d4, d5, d6, d7, d8, d9⟩ := ChAt.cells HC2.out
  go_wp2_with fail
  (with_reducible refine (raft_true t k oa ob oc na nb nc true _).mono ?_)
  rintro e w3 ⟨rfl, hb3⟩
  have hk3 := bt hb3 (ba w3 (.cells #[.int .i64 t, .int .i64 k, .int .i64 na, .int .i64 nb, .int .i64 nc] 111))
  have HB3 := Lib.hid (bt HB2.out hk3)
  have HC3 := Lib.hid (HC2.out.below (by simp; omega) hk3)
  have HA3 := Lib.hid (HA2.out.below hk3)
  have HN3 := Lib.hid (RwAt.new w3 ⟨t, k, ⟨na, nb, nc⟩⟩)
  clear hb3 hk3 HC2 HA2 HB2 d0 d1 d2 d3 d4 d5 d6 d7 d8 d9
  obtain ⟨d0, d1, d2, d3, d4, d5, d6, d7, d8, d9⟩ := ChAt.cells HC3.out
  obtain ⟨a0, a1, a2, a3, a4⟩ := HA3.out
  obtain ⟨n0, n1, n2, n3, n4⟩ := HN3.out
  go_wp2_with fail
  (with_reducible refine (refValid_t ⟨t, k, ⟨oa, ob, oc⟩⟩ _ H3.out).mono ?_)
  rintro e w4 ⟨rfl, hb4⟩
  have HB4 := Lib.hid (bt HB3.out hb4)
  have HC4 := Lib.hid (HC3.out.below (World.block_lt_of_cell? _ _ d0) hb4)
  have HN4 := Lib.hid (HN3.out.below hb4)
  clear hb4 d0 d1 d2 d3 d4 d5 d6 d7 d8 d9 a0 a1 a2 a3 a4 n0 n1 n2 n3 n4
  obtain ⟨d0, d1, d2, d3, d4, d5, d6, d7, d8, d9⟩ := ChAt.cells HC4.out
  obtain ⟨n0, n1, n2, n3, n4⟩ := HN4.out
  go_wp2_with fail
  (with_reducible refine (refValid_t ⟨t, k, ⟨na, nb, nc⟩⟩ _ H4.out).mono ?_)
  rintro e w5 ⟨rfl, hb5⟩
  have HB5 := Lib.hid (bt HB4.out hb5)
  have HC5 := Lib.hid (HC4.out.below (World.block_lt_of_cell? _ _ d0) hb5)
  have HN5 := Lib.hid (HN4.out.below hb5)
  clear hb5 d0 d1 d2 d3 d4 d5 d6 d7 d8 d9 n0 n1 n2 n3 n4
  obtain ⟨d0, d1, d2, d3, d4, d5, d6, d7, d8, d9⟩ := ChAt.cells HC5.out
  obtain ⟨n0, n1, n2, n3, n4⟩ := HN5.out
  go_wp2_with fail
  go_ret
  exact ⟨rfl, HB5.out⟩
theorem refValidChange_any (c : MCh) (w : World) : Calls Tryd.prog 47 #[chV c] w fun e w' => e = .returned (.bool (vc c)) ∧ Below w.heap.size w w' := by
  obtain ⟨t, k, had, ⟨oa, ob, oc⟩, has, ⟨na, nb, nc⟩⟩ := c
  cases had <;> cases has
  · exact refVC_false_false_none t k oa ob oc na nb nc w
  · by_cases h3 : VRow ⟨t, k, ⟨na, nb, nc⟩⟩
    · by_cases h2 : (⟨oa, ob, oc⟩ : V3) = ⟨0, 0, 0⟩
      · exact refVC_false_true_ok t k oa ob oc na nb nc w h3 h2
      · exact refVC_false_true_z t k oa ob oc na nb nc w h3 h2
    · exact refVC_false_true_vn t k oa ob oc na nb nc w h3
  · by_cases h3 : VRow ⟨t, k, ⟨oa, ob, oc⟩⟩
    · by_cases h2 : (⟨na, nb, nc⟩ : V3) = ⟨0, 0, 0⟩
      · exact refVC_true_false_ok t k oa ob oc na nb nc w h3 h2
      · exact refVC_true_false_z t k oa ob oc na nb nc w h3 h2
    · exact refVC_true_false_vo t k oa ob oc na nb nc w h3
  · by_cases h2 : (⟨oa, ob, oc⟩ : V3) = ⟨na, nb, nc⟩
    · exact refVC_true_true_eq t k oa ob oc na nb nc w h2
    · by_cases h3 : VRow ⟨t, k, ⟨oa, ob, oc⟩⟩
      · by_cases h4 : VRow ⟨t, k, ⟨na, nb, nc⟩⟩
        · exact refVC_true_true_ok t k oa ob oc na nb nc w h2 h3 h4
        · exact refVC_true_true_vn t k oa ob oc na nb nc w h2 h3 h4
      · exact refVC_true_true_vo t k oa ob oc na nb nc w h2 h3
theorem refVC_t (c : MCh) (w : World) (h : VCh c) : Calls Tryd.prog 47 #[chV c] w fun e w' => e = .returned (.bool true) ∧ Below w.heap.size w w' :=
  (refValidChange_any c w).mono fun e w' hw => by rw [vc, decide_eq_true h] at hw; exact hw
theorem refVC_f (c : MCh) (w : World) (h : ¬ VCh c) : Calls Tryd.prog 47 #[chV c] w fun e w' => e = .returned (.bool false) ∧ Below w.heap.size w w' :=
  (refValidChange_any c w).mono fun e w' hw => by rw [vc, decide_eq_false h] at hw; exact hw
end Go.Proofs.YtpapfegbodolgaaDoor
end

section
set_option linter.unusedVariables false
set_option linter.unusedSimpArgs false
namespace Go.Proofs.YtpapfegbodolgaaDoor
open Go.RowKit Go.Sort

set_option maxRecDepth 100000 in
set_option maxHeartbeats 8000000 in
theorem refValidRecord_in (p : Int) (n cap : Nat) (L : List MCh) (w : World) (hn : n = L.length) (h1 : 1 ≤ p ∧ p ≤ 10000) (h2 : 1 ≤ n ∧ n ≤ 8) (b o : Nat) (hb : b < w.heap.size) (hc : ∀ i, i < n → ChAt w b (o + i * 10) (L.getD i chZ)) :
    Calls Tryd.prog 24 #[.agg #[.int .i64 p, .slice (some ⟨b, o, none⟩) n cap]] w fun e w' => e = .returned (.bool (vrec p L)) ∧ Below w.heap.size w w' := by
  have HN := Lib.hid hn
  have HC := Lib.hid hc
  have H1 := Lib.hid h1
  have H2 := Lib.hid h2
  have H2i : Hid ((1 : Int) ≤ (n : Int) ∧ (n : Int) ≤ 8) := Lib.hid (by omega)
  have hn8 : n ≤ 8 := h2.2
  clear hn hc h1 h2
  go_enter Tryd.func24, Tryd.ntmps24
  have HP0 := Lib.hid (⟨by simp [go_sem], by simp [go_sem]⟩ : (w.alloc (.cells #[.int .i64 p, .slice (some ⟨b, o, none⟩) n cap] 51)).cell? ⟨w.heap.size, 0, none⟩ = some (.int .i64 p) ∧ (w.alloc (.cells #[.int .i64 p, .slice (some ⟨b, o, none⟩) n cap] 51)).cell? ⟨w.heap.size, 1, none⟩ = some (.slice (some ⟨b, o, none⟩) n cap))
  go_wp2_with fail
  (with_reducible refine (within_t p _ _ _ H1.out).mono ?_)
  rintro e w1 ⟨rfl, rfl⟩
  go_wp2_with fail
  (with_reducible refine (within_t n _ _ _ H2i.out).mono ?_)
  rintro e w1 ⟨rfl, rfl⟩
  go_wp2_with fail
  go_loopw [3, 4, 5] (fun i _ _ wr => ∃ k : Nat, k ≤ n ∧ i = .int .i64 k ∧ Hid (Below (w.heap.size + 1) (w.alloc (.cells #[.int .i64 p, .slice (some ⟨b, o, none⟩) n cap] 51)) wr) ∧ Hid (∀ j, j < k → VGo L j)) (fun i _ _ _ => n - (intOf i).toNat)
  case atStart => exact ⟨0, by omega, rfl, Lib.hid (by simpa using Below.refl (w.alloc (.cells #[.int .i64 p, .slice (some ⟨b, o, none⟩) n cap] 51)).heap.size _), Lib.hid (fun j hj => by omega)⟩
  case round =>
    obtain ⟨k, hk, rfl, HB, HV⟩ := hrel
    have HB' : Hid (Below (w.alloc (.cells #[.int .i64 p, .slice (some ⟨b, o, none⟩) n cap] 51)).heap.size (w.alloc (.cells #[.int .i64 p, .slice (some ⟨b, o, none⟩) n cap] 51)) wr) := Lib.hid (by simpa using HB.out)
    have hsz : w.heap.size + 1 ≤ wr.heap.size := by have := HB'.out.size; simpa using this
    have Hw0 : Hid (Below w.heap.size w wr) := Lib.hid (bt (ba w _) HB'.out)
    have hr1 : wr.cell? ⟨w.heap.size, 1, none⟩ = some (.slice (some ⟨b, o, none⟩) n cap) := by rw [(bcell HB'.out).1 _ _ (by simp)]; exact HP0.out.2
    by_cases hlt : k < n
    · have HCk := (HC.out k hlt).below hb Hw0.out
      have HVk : Hid (VGo L k ↔ VCh (L.getD k chZ) ∧ (0 < k → Prec (L.getD (k - 1) chZ) (L.getD k chZ))) := Lib.hid Iff.rfl
      have HF : Hid (¬ VGo L k → ¬ VRec p L) := Lib.hid (fun h hh => h (hh.2.2 k (by rw [← HN.out]; exact hlt)))
      obtain ⟨c, HcE⟩ : ∃ c, Hid (L.getD k chZ = c) := ⟨_, Lib.hid rfl⟩
      rw [HcE.out] at HCk HVk
      obtain ⟨t, kk, had, ⟨oa, ob, oc⟩, has, ⟨na, nb, nc⟩⟩ := c
      obtain ⟨d0, d1, d2, d3, d4, d5, d6, d7, d8, d9⟩ := HCk.cells
      by_cases hv : VCh ⟨t, kk, had, ⟨oa, ob, oc⟩, has, ⟨na, nb, nc⟩⟩
      · have HVc := Lib.hid hv
        clear hv
        by_cases hk0 : 0 < k
        · obtain ⟨q, rfl⟩ : ∃ q, k = q + 1 := ⟨k - 1, by omega⟩
          have HCq := (HC.out q (by omega)).below hb Hw0.out
          obtain ⟨c', HcE'⟩ : ∃ c', Hid (L.getD q chZ = c') := ⟨_, Lib.hid rfl⟩
          rw [HcE'.out] at HCq
          rw [Nat.add_sub_cancel, HcE'.out] at HVk
          obtain ⟨t', kk', had', ⟨oa', ob', oc'⟩, has', ⟨na', nb', nc'⟩⟩ := c'
          by_cases hp : Prec ⟨t', kk', had', ⟨oa', ob', oc'⟩, has', ⟨na', nb', nc'⟩⟩ ⟨t, kk, had, ⟨oa, ob, oc⟩, has, ⟨na, nb, nc⟩⟩
          · have HNV : Hid (VGo L (q + 1)) := Lib.hid (HVk.out.2 ⟨HVc.out, fun _ => hp⟩)
            have HPt : Hid (t' < t ∨ t' = t ∧ kk' < kk) := Lib.hid hp
            clear hp hk0
            obtain ⟨b1, b2, b3, hd1, hd2, hd3, HX⟩ : ∃ b1 b2 b3, decide (t < t') = b1 ∧ (t' == t) = b2 ∧ decide (kk ≤ kk') = b3 ∧ Hid (b1 = false ∧ (b2 = false ∨ b3 = false)) := ⟨_, _, _, rfl, rfl, rfl, Lib.hid (by
              rcases HPt.out with h | ⟨h, h2⟩
              · exact ⟨decide_eq_false (by omega), .inl (by simp; omega)⟩
              · exact ⟨decide_eq_false (by omega), .inr (decide_eq_false (by omega))⟩)⟩
            obtain ⟨rfl, hb23⟩ := HX.out
            have hw1 : IntKind.i64.wrap ((q : Int) + 1 - 1) = (q : Int) := by rw [IntKind.wrap_i64]; omega
            go_wp2_with fail
            (with_reducible refine (refVC_t ⟨t, kk, had, ⟨oa, ob, oc⟩, has, ⟨na, nb, nc⟩⟩ _ HVc.out).mono ?_)
            rintro e w5 ⟨rfl, hb5⟩
            have HC5 := Lib.hid (ChAt.below (ChAt_new wr ⟨t, kk, had, ⟨oa, ob, oc⟩, has, ⟨na, nb, nc⟩⟩) (by simp) hb5)
            have hbk := bt (ba wr (.cells #[.int .i64 t, .int .i64 kk, .bool had, .int .i64 oa, .int .i64 ob, .int .i64 oc, .bool has, .int .i64 na, .int .i64 nb, .int .i64 nc] 57)) hb5
            have hr5 : w5.cell? ⟨w.heap.size, 1, none⟩ = some (.slice (some ⟨b, o, none⟩) n cap) := by rw [(bcell hbk).1 _ _ (by omega)]; exact hr1
            have HCq5 := HCq.below (Nat.lt_of_lt_of_le hb Hw0.out.size) hbk
            have hl5 : wr.heap.size < w5.heap.size := by have := hb5.size; simp only [World.size_alloc] at this; omega
            have HB7 : Hid (Below wr.heap.size wr (w5.alloc (.cells #[.int .i64 t', .int .i64 kk', .bool had', .int .i64 oa', .int .i64 ob', .int .i64 oc', .bool has', .int .i64 na', .int .i64 nb', .int .i64 nc'] 57))) := Lib.hid (bt hbk (ba _ _))
            have HBn : Hid (Below (w.heap.size + 1) (w.alloc (.cells #[.int .i64 p, .slice (some ⟨b, o, none⟩) n cap] 51)) (w5.alloc (.cells #[.int .i64 t', .int .i64 kk', .bool had', .int .i64 oa', .int .i64 ob', .int .i64 oc', .bool has', .int .i64 na', .int .i64 nb', .int .i64 nc'] 57))) := Lib.hid (HB.out.trans (HB7.out.mono hsz))
            clear hb5 hbk d0 d1 d2 d3 d4 d5 d6 d7 d8 d9 hr1
            obtain ⟨d0, d1, d2, d3, d4, d5, d6, d7, d8, d9⟩ := HC5.out.cells
            obtain ⟨e0, e1, e2, e3, e4, e5, e6, e7, e8, e9⟩ := HCq5.cells
            rcases hb23 with rfl | rfl
            · go_wp2_with fail
              exact ⟨⟨q + 1 + 1, by omega, by go_num, HBn, Lib.hid (fun j hj => by
                rcases Nat.lt_or_eq_of_le (Nat.le_of_lt_succ hj) with h | rfl
                · exact HV.out j h
                · exact HNV.out)⟩, by simp [intOf]; omega⟩
            · cases b2
              · go_wp2_with fail
                exact ⟨⟨q + 1 + 1, by omega, by go_num, HBn, Lib.hid (fun j hj => by
                  rcases Nat.lt_or_eq_of_le (Nat.le_of_lt_succ hj) with h | rfl
                  · exact HV.out j h
                  · exact HNV.out)⟩, by simp [intOf]; omega⟩
              · go_wp2_with fail
                exact ⟨⟨q + 1 + 1, by omega, by go_num, HBn, Lib.hid (fun j hj => by
                  rcases Nat.lt_or_eq_of_le (Nat.le_of_lt_succ hj) with h | rfl
                  · exact HV.out j h
                  · exact HNV.out)⟩, by simp [intOf]; omega⟩
          · have HPt : Hid (¬ (t' < t ∨ t' = t ∧ kk' < kk)) := Lib.hid hp
            have HNV : Hid (¬ VGo L (q + 1)) := Lib.hid (fun h => hp ((HVk.out.1 h).2 (by omega)))
            clear hp hk0
            obtain ⟨b1, b2, b3, hd1, hd2, hd3, HX⟩ : ∃ b1 b2 b3, decide (t < t') = b1 ∧ (t' == t) = b2 ∧ decide (kk ≤ kk') = b3 ∧ Hid (b1 = true ∨ (b1 = false ∧ b2 = true ∧ b3 = true)) := ⟨_, _, _, rfl, rfl, rfl, Lib.hid (by
              have h := HPt.out
              by_cases h1 : t < t'
              · exact .inl (decide_eq_true h1)
              · exact .inr ⟨decide_eq_false h1, by simp; omega, decide_eq_true (by omega)⟩)⟩
            have hw1 : IntKind.i64.wrap ((q : Int) + 1 - 1) = (q : Int) := by rw [IntKind.wrap_i64]; omega
            go_wp2_with fail
            (with_reducible refine (refVC_t ⟨t, kk, had, ⟨oa, ob, oc⟩, has, ⟨na, nb, nc⟩⟩ _ HVc.out).mono ?_)
            rintro e w5 ⟨rfl, hb5⟩
            have HC5 := Lib.hid (ChAt.below (ChAt_new wr ⟨t, kk, had, ⟨oa, ob, oc⟩, has, ⟨na, nb, nc⟩⟩) (by simp) hb5)
            have hbk := bt (ba wr (.cells #[.int .i64 t, .int .i64 kk, .bool had, .int .i64 oa, .int .i64 ob, .int .i64 oc, .bool has, .int .i64 na, .int .i64 nb, .int .i64 nc] 57)) hb5
            have hr5 : w5.cell? ⟨w.heap.size, 1, none⟩ = some (.slice (some ⟨b, o, none⟩) n cap) := by rw [(bcell hbk).1 _ _ (by omega)]; exact hr1
            have HCq5 := HCq.below (Nat.lt_of_lt_of_le hb Hw0.out.size) hbk
            have hl5 : wr.heap.size < w5.heap.size := by have := hb5.size; simp only [World.size_alloc] at this; omega
            have HB7 : Hid (Below wr.heap.size wr (w5.alloc (.cells #[.int .i64 t', .int .i64 kk', .bool had', .int .i64 oa', .int .i64 ob', .int .i64 oc', .bool has', .int .i64 na', .int .i64 nb', .int .i64 nc'] 57))) := Lib.hid (bt hbk (ba _ _))
            have HBn : Hid (Below (w.heap.size + 1) (w.alloc (.cells #[.int .i64 p, .slice (some ⟨b, o, none⟩) n cap] 51)) (w5.alloc (.cells #[.int .i64 t', .int .i64 kk', .bool had', .int .i64 oa', .int .i64 ob', .int .i64 oc', .bool has', .int .i64 na', .int .i64 nb', .int .i64 nc'] 57))) := Lib.hid (HB.out.trans (HB7.out.mono hsz))
            clear hb5 hbk d0 d1 d2 d3 d4 d5 d6 d7 d8 d9 hr1
            obtain ⟨d0, d1, d2, d3, d4, d5, d6, d7, d8, d9⟩ := HC5.out.cells
            obtain ⟨e0, e1, e2, e3, e4, e5, e6, e7, e8, e9⟩ := HCq5.cells
            rcases HX.out with rfl | ⟨rfl, rfl, rfl⟩
            · go_wp2_with fail
              go_ret
              exact ⟨vrec_f (HF.out HNV.out), bt Hw0.out HB7.out⟩
            · go_wp2_with fail
              go_ret
              exact ⟨vrec_f (HF.out HNV.out), bt Hw0.out HB7.out⟩
        · obtain rfl : k = 0 := by omega
          simp only [Nat.zero_mul, Nat.add_zero] at d0 d1 d2 d3 d4 d5 d6 d7 d8 d9
          have HNV : Hid (VGo L 0) := Lib.hid (HVk.out.2 ⟨HVc.out, fun h => by omega⟩)
          go_wp2_with fail
          (with_reducible refine (refVC_t ⟨t, kk, had, ⟨oa, ob, oc⟩, has, ⟨na, nb, nc⟩⟩ _ HVc.out).mono ?_)
          rintro e w5 ⟨rfl, hb5⟩
          have hbk := bt (ba wr (.cells #[.int .i64 t, .int .i64 kk, .bool had, .int .i64 oa, .int .i64 ob, .int .i64 oc, .bool has, .int .i64 na, .int .i64 nb, .int .i64 nc] 57)) hb5
          have HBn : Hid (Below (w.heap.size + 1) (w.alloc (.cells #[.int .i64 p, .slice (some ⟨b, o, none⟩) n cap] 51)) w5) := Lib.hid (HB.out.trans (hbk.mono hsz))
          go_wp2_with fail
          exact ⟨⟨0 + 1, by omega, by go_num, HBn, Lib.hid (fun j hj => by
            have e : j = 0 := (by omega)
            subst e
            exact HNV.out)⟩, by simp [intOf]; omega⟩
      · have HVc := Lib.hid hv
        have HNV : Hid (¬ VGo L k) := Lib.hid (fun h => HVc.out (HVk.out.1 h).1)
        clear hv
        go_wp2_with fail
        (with_reducible refine (refVC_f ⟨t, kk, had, ⟨oa, ob, oc⟩, has, ⟨na, nb, nc⟩⟩ _ HVc.out).mono ?_)
        rintro e w5 ⟨rfl, hb5⟩
        go_wp2_with fail
        go_ret
        exact ⟨vrec_f (HF.out HNV.out), bt Hw0.out (bt (ba wr (.cells #[.int .i64 t, .int .i64 kk, .bool had, .int .i64 oa, .int .i64 ob, .int .i64 oc, .bool has, .int .i64 na, .int .i64 nb, .int .i64 nc] 57)) hb5)⟩
    · obtain rfl : k = n := by omega
      have HR : Hid (VRec p L) := Lib.hid ⟨H1.out, by rw [← HN.out]; exact H2.out, fun j hj => HV.out j (by rw [HN.out]; exact hj)⟩
      go_wp2_with fail
      go_ret
      exact ⟨vrec_t HR.out, Hw0.out⟩
theorem refValidRecord_any (p : Int) (v : Value) (L : List MCh) (w : World) (hv : ChS w v L) :
    Calls Tryd.prog 24 #[.agg #[.int .i64 p, v]] w fun e w' => e = .returned (.bool (vrec p L)) ∧ Below w.heap.size w w' := by
  obtain ⟨a, n, cap, rfl, hn, hc1, hc2, hcell⟩ := hv
  by_cases h1 : 1 ≤ p ∧ p ≤ 10000
  · by_cases h2 : 1 ≤ n ∧ n ≤ 8
    · obtain ⟨b, o, rfl, hb, hc⟩ := hcell h2.1
      exact refValidRecord_in p n cap L w hn h1 h2 b o hb hc
    · have HR : Hid (¬ VRec p L) := Lib.hid (fun h => h2 (by rw [hn]; exact h.2.1))
      have H1 := Lib.hid h1
      have H2 : Hid (¬ ((1 : Int) ≤ (n : Int) ∧ (n : Int) ≤ 8)) := Lib.hid (by omega)
      clear h1 h2 hcell hn hc1 hc2
      go_enter Tryd.func24, Tryd.ntmps24
      go_wp2_with fail
      (with_reducible refine (within_t p _ _ _ H1.out).mono ?_)
      rintro e w1 ⟨rfl, rfl⟩
      go_wp2_with fail
      (with_reducible refine (within_f n _ _ _ H2.out).mono ?_)
      rintro e w1 ⟨rfl, rfl⟩
      go_wp2_with fail
      go_ret
      exact ⟨vrec_f HR.out, ba _ _⟩
  · have HR : Hid (¬ VRec p L) := Lib.hid (fun h => h1 h.1)
    have H1 := Lib.hid h1
    clear h1 hcell hn hc1 hc2
    go_enter Tryd.func24, Tryd.ntmps24
    go_wp2_with fail
    (with_reducible refine (within_f p _ _ _ H1.out).mono ?_)
    rintro e w1 ⟨rfl, rfl⟩
    go_wp2_with fail
    go_ret
    exact ⟨vrec_f HR.out, ba _ _⟩
end Go.Proofs.YtpapfegbodolgaaDoor
end

section
set_option linter.unusedVariables false
set_option linter.unusedSimpArgs false
namespace Go.Proofs.YtpapfegbodolgaaDoor
open Go.RowKit Go.Sort

theorem chs_agg {w : World} {X : Nat} {p : Int} {u : Value} : (w.alloc (.cells #[.int .i64 p, u] 51)).cell? ⟨w.heap.size, 0, none⟩ = some (.int .i64 p) ∧ (w.alloc (.cells #[.int .i64 p, u] 51)).cell? ⟨w.heap.size, 1, none⟩ = some u := ⟨by simp [go_sem], by simp [go_sem]⟩
set_option maxRecDepth 100000 in
set_option maxHeartbeats 8000000 in
theorem refSame_in (p : Int) (n c1 c2 : Nat) (a1 a2 : Option Addr) (L M : List MCh) (w : World) (hn1 : n = L.length) (hn2 : n = M.length) (h11 : n ≤ c1) (h12 : c1 ≤ 9223372036854775807)
    (hc1 : 1 ≤ n → ∃ b o, a1 = some ⟨b, o, none⟩ ∧ b < w.heap.size ∧ ∀ i, i < n → ChAt w b (o + i * 10) (L.getD i chZ)) (hc2 : 1 ≤ n → ∃ b o, a2 = some ⟨b, o, none⟩ ∧ b < w.heap.size ∧ ∀ i, i < n → ChAt w b (o + i * 10) (M.getD i chZ)) :
    Calls Tryd.prog 23 #[.agg #[.int .i64 p, .slice a1 n c1], .agg #[.int .i64 p, .slice a2 n c2]] w fun e w' => e = .returned (.bool (lstE L M)) ∧ Below w.heap.size w w' := by
  have HN1 := Lib.hid hn1
  have HN2 := Lib.hid hn2
  have HC1 := Lib.hid hc1
  have HC2 := Lib.hid hc2
  clear hn1 hn2 hc1 hc2
  have e0 : ((n : Int) != (n : Int)) = false := by simp
  have e1 : (p != p) = false := by simp
  go_enter Tryd.func23, Tryd.ntmps23
  have HP : Hid (∀ wr, Below (w.heap.size + 2) ((w.alloc (.cells #[.int .i64 p, .slice a1 n c1] 51)).alloc (.cells #[.int .i64 p, .slice a2 n c2] 51)) wr → wr.cell? ⟨w.heap.size, 1, none⟩ = some (.slice a1 n c1) ∧ wr.cell? ⟨w.heap.size + 1, 1, none⟩ = some (.slice a2 n c2) ∧ Below w.heap.size w wr) := Lib.hid (fun wr hb => by
    have hb' : Below ((w.alloc (.cells #[.int .i64 p, .slice a1 n c1] 51)).alloc (.cells #[.int .i64 p, .slice a2 n c2] 51)).heap.size ((w.alloc (.cells #[.int .i64 p, .slice a1 n c1] 51)).alloc (.cells #[.int .i64 p, .slice a2 n c2] 51)) wr := by simpa using hb
    obtain ⟨h1, _⟩ := bcell hb'
    exact ⟨by rw [h1 _ _ (by simp only [World.size_alloc]; omega)]; simp [go_sem], by rw [h1 _ _ (by simp only [World.size_alloc]; omega)]; simp [go_sem], bt (bt (ba w _) (ba _ _)) hb'⟩)
  go_wp2_with fail
  go_loopw [5] (fun i wr => ∃ k : Nat, k ≤ n ∧ i = .int .i64 k ∧ Hid (Below (w.heap.size + 2) ((w.alloc (.cells #[.int .i64 p, .slice a1 n c1] 51)).alloc (.cells #[.int .i64 p, .slice a2 n c2] 51)) wr) ∧ Hid (∀ j, j < k → L.getD j chZ = M.getD j chZ)) (fun i _ => n - (intOf i).toNat)
  case atStart => exact ⟨0, by omega, rfl, Lib.hid (by simpa using Below.refl ((w.alloc (.cells #[.int .i64 p, .slice a1 n c1] 51)).alloc (.cells #[.int .i64 p, .slice a2 n c2] 51)).heap.size _), Lib.hid (fun j hj => by omega)⟩
  case round =>
    obtain ⟨k, hk, rfl, HB, HE⟩ := hrel
    obtain ⟨p1, p2, hw0⟩ := HP.out _ HB.out
    have Hw0 := Lib.hid hw0
    clear hw0
    by_cases hlt : k < n
    · obtain ⟨b1, o1, rfl, hb1, hx1⟩ := HC1.out (by omega)
      obtain ⟨b2, o2, rfl, hb2, hx2⟩ := HC2.out (by omega)
      have HA := (hx1 k hlt).below hb1 Hw0.out
      have HA2 := (hx2 k hlt).below hb2 Hw0.out
      have HNo : Hid (L.getD k chZ ≠ M.getD k chZ → L ≠ M) := Lib.hid (fun h e => h (by rw [e]))
      have HNx : Hid (L.getD k chZ = M.getD k chZ → ∀ j, j < k + 1 → L.getD j chZ = M.getD j chZ) := Lib.hid (fun h j hj => by
        rcases Nat.lt_or_eq_of_le (Nat.le_of_lt_succ hj) with h1 | rfl
        · exact HE.out j h1
        · exact h)
      clear hx1 hx2
      obtain ⟨x, HX⟩ : ∃ x, Hid (L.getD k chZ = x) := ⟨_, Lib.hid rfl⟩
      obtain ⟨y, HY⟩ : ∃ y, Hid (M.getD k chZ = y) := ⟨_, Lib.hid rfl⟩
      rw [HX.out] at HA HNo HNx
      rw [HY.out] at HA2 HNo HNx
      have hne := neqCh x y
      by_cases hxy : x = y
      · have HN := Lib.hid (HNx.out hxy)
        have hb2' : chE x y = true := by simp [chE, hxy]
        rw [hb2'] at hne
        simp only [Bool.not_true, Bool.not_false] at hne
        clear hxy hb2' HNx HNo HX HY
        obtain ⟨t, kk, had, ⟨oa, ob, oc⟩, has, ⟨na, nb, nc⟩⟩ := x
        obtain ⟨t', kk', had', ⟨oa', ob', oc'⟩, has', ⟨na', nb', nc'⟩⟩ := y
        obtain ⟨d0, d1, d2, d3, d4, d5, d6, d7, d8, d9⟩ := HA.cells
        obtain ⟨e0, e1, e2, e3, e4, e5, e6, e7, e8, e9⟩ := HA2.cells
        simp only at hne
        go_wp2_with fail
        go_quiet (fail)
        have HBn := Lib.hid (below_drewN HB.out nq)
        clear hne d0 d1 d2 d3 d4 d5 d6 d7 d8 d9 e0 e1 e2 e3 e4 e5 e6 e7 e8 e9
        go_wp2_with fail
        exact ⟨⟨k + 1, by omega, by go_num, HBn, HN⟩, by simp [intOf]; omega⟩
      · have HN := Lib.hid (HNo.out hxy)
        have hb2' : chE x y = false := by simp [chE, hxy]
        rw [hb2'] at hne
        simp only [Bool.not_true, Bool.not_false] at hne
        clear hxy hb2' HNx HNo HX HY
        obtain ⟨t, kk, had, ⟨oa, ob, oc⟩, has, ⟨na, nb, nc⟩⟩ := x
        obtain ⟨t', kk', had', ⟨oa', ob', oc'⟩, has', ⟨na', nb', nc'⟩⟩ := y
        obtain ⟨d0, d1, d2, d3, d4, d5, d6, d7, d8, d9⟩ := HA.cells
        obtain ⟨e0, e1, e2, e3, e4, e5, e6, e7, e8, e9⟩ := HA2.cells
        simp only at hne
        go_wp2_with fail
        go_quiet (fail)
        have HBn := Lib.hid (below_drewN Hw0.out nq)
        clear hne d0 d1 d2 d3 d4 d5 d6 d7 d8 d9 e0 e1 e2 e3 e4 e5 e6 e7 e8 e9
        go_wp2_with fail
        go_ret
        exact ⟨lstE_f HN.out, HBn.out⟩
    · obtain rfl : k = n := by omega
      have HEq : Hid (L = M) := Lib.hid (lst_eq (by rw [← HN1.out, ← HN2.out]) k (by rw [HN1.out]; exact Nat.le_refl _) HE.out)
      go_wp2_with fail
      go_ret
      exact ⟨lstE_t HEq.out, Hw0.out⟩
theorem refSame_any (p q : Int) (v u : Value) (L M : List MCh) (w : World) (hv : ChS w v L) (hu : ChS w u M) :
    Calls Tryd.prog 23 #[.agg #[.int .i64 p, v], .agg #[.int .i64 q, u]] w fun e w' => e = .returned (.bool (sameE p q L M)) ∧ Below w.heap.size w w' := by
  obtain ⟨a1, n1, c1, rfl, hn1, h11, h12, hc1⟩ := hv
  obtain ⟨a2, n2, c2, rfl, hn2, h21, h22, hc2⟩ := hu
  by_cases hp : p = q
  · subst hp
    by_cases hn : n1 = n2
    · subst hn
      refine (refSame_in p n1 c1 c2 a1 a2 L M w hn1 hn2 h11 h12 hc1 hc2).mono fun e w' hw => ?_
      rw [show sameE p p L M = lstE L M by simp [sameE, lstE]]
      exact hw
    · have HS : Hid (sameE p p L M = false) := Lib.hid (by simp only [sameE]; exact decide_eq_false (fun h => hn (by rw [hn1, hn2, h.2])))
      rw [HS.out]
      have e1 : (p != p) = false := by simp
      have e0 : ((n1 : Int) != (n2 : Int)) = true := by simp; omega
      clear hc1 hc2 hn1 hn2 hn h11 h12 h21 h22
      go_enter Tryd.func23, Tryd.ntmps23
      go_wp2_with fail
      go_ret
      exact ⟨rfl, bt (ba w _) (ba _ _)⟩
  · have HS : Hid (sameE p q L M = false) := Lib.hid (by simp only [sameE]; exact decide_eq_false (fun h => hp h.1))
    rw [HS.out]
    have e1 : (p != q) = true := by simp [hp]
    clear hc1 hc2 hn1 hn2 hp h11 h12 h21 h22
    go_enter Tryd.func23, Tryd.ntmps23
    go_wp2_with fail
    go_ret
    exact ⟨rfl, bt (ba w _) (ba _ _)⟩
end Go.Proofs.YtpapfegbodolgaaDoor
end
