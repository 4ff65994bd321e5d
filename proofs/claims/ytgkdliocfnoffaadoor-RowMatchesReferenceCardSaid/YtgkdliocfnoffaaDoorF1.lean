/- WALKS: the reference: within, Valid, Value, put, Encode. -/
import Derived.Test.YtgkdliocfnoffaaDoorN6
import Derived.Test.YtgkdliocfnoffaaDoorWD2
set_option linter.unusedVariables false
set_option linter.unusedSimpArgs false
namespace Go.Proofs.YtgkdliocfnoffaaDoor
open Go.RowKit Go.Sort

theorem within_t (n lo hi : Int) (w : World) (h : lo ≤ n ∧ n ≤ hi) : Calls Tryd.prog 45 #[.int .i64 n, .int .i64 lo, .int .i64 hi] w fun e w' => e = .returned (.bool true) ∧ w' = w := by
  obtain ⟨h1, h2⟩ := h
  go_enter Tryd.func45, Tryd.ntmps45
  go_wp2
  all_goals (go_ret; exact ⟨rfl, rfl⟩)
theorem within_f (n lo hi : Int) (w : World) (h : ¬ (lo ≤ n ∧ n ≤ hi)) : Calls Tryd.prog 45 #[.int .i64 n, .int .i64 lo, .int .i64 hi] w fun e w' => e = .returned (.bool false) ∧ w' = w := by
  by_cases h1 : lo ≤ n
  · have h2 : ¬ n ≤ hi := fun h2 => h ⟨h1, h2⟩
    clear h
    go_enter Tryd.func45, Tryd.ntmps45
    go_wp2
    all_goals (go_ret; exact ⟨rfl, rfl⟩)
  · clear h
    go_enter Tryd.func45, Tryd.ntmps45
    go_wp2
    all_goals (go_ret; exact ⟨rfl, rfl⟩)

set_option maxRecDepth 100000 in
set_option maxHeartbeats 2000000 in
theorem refValid_any (t k a b c : Int) (w : World) :
    Calls Tryd.prog 18 #[rowV ⟨t, k, ⟨a, b, c⟩⟩] w fun e w' => e = .returned (.bool (vr ⟨t, k, ⟨a, b, c⟩⟩)) ∧ Below w.heap.size w w' := by
  by_cases ha : (-1000000000 : Int) ≤ a ∧ a ≤ 1000000000
  case neg =>
    have hv : Hid (vr ⟨t, k, ⟨a, b, c⟩⟩ = false) := Lib.hid (decide_eq_false (fun h => ha h.2.2.1))
    have Ha := Lib.hid ha
    clear ha
    rw [hv.out]
    go_enter Tryd.func18, Tryd.ntmps18
    go_wp2_with fail
    refine wp_loop_rounds 4 ?_
    rw [rounds_succ]
    go_wp2_with fail
    (with_reducible refine (within_f a _ _ _ Ha.out).mono ?_)
    rintro e w1 ⟨rfl, rfl⟩
    go_wp2_with fail
    go_ret
    exact ⟨rfl, ba _ _⟩
  by_cases hb : (-1000000000 : Int) ≤ b ∧ b ≤ 1000000000
  case neg =>
    have hv : Hid (vr ⟨t, k, ⟨a, b, c⟩⟩ = false) := Lib.hid (decide_eq_false (fun h => hb h.2.2.2.1))
    have Ha := Lib.hid ha
    have Hb := Lib.hid hb
    clear ha hb
    rw [hv.out]
    go_enter Tryd.func18, Tryd.ntmps18
    go_wp2_with fail
    refine wp_loop_rounds 4 ?_
    rw [rounds_succ]
    go_wp2_with fail
    (with_reducible refine (within_t a _ _ _ Ha.out).mono ?_)
    rintro e w1 ⟨rfl, rfl⟩
    go_wp2_with fail
    rw [rounds_succ]
    go_wp2_with fail
    (with_reducible refine (within_f b _ _ _ Hb.out).mono ?_)
    rintro e w1 ⟨rfl, rfl⟩
    go_wp2_with fail
    go_ret
    exact ⟨rfl, ba _ _⟩
  by_cases hc : (-1000000000 : Int) ≤ c ∧ c ≤ 1000000000
  case neg =>
    have hv : Hid (vr ⟨t, k, ⟨a, b, c⟩⟩ = false) := Lib.hid (decide_eq_false (fun h => hc h.2.2.2.2))
    have Ha := Lib.hid ha
    have Hb := Lib.hid hb
    have Hc := Lib.hid hc
    clear ha hb hc
    rw [hv.out]
    go_enter Tryd.func18, Tryd.ntmps18
    go_wp2_with fail
    refine wp_loop_rounds 4 ?_
    rw [rounds_succ]
    go_wp2_with fail
    (with_reducible refine (within_t a _ _ _ Ha.out).mono ?_)
    rintro e w1 ⟨rfl, rfl⟩
    go_wp2_with fail
    rw [rounds_succ]
    go_wp2_with fail
    (with_reducible refine (within_t b _ _ _ Hb.out).mono ?_)
    rintro e w1 ⟨rfl, rfl⟩
    go_wp2_with fail
    rw [rounds_succ]
    go_wp2_with fail
    (with_reducible refine (within_f c _ _ _ Hc.out).mono ?_)
    rintro e w1 ⟨rfl, rfl⟩
    go_wp2_with fail
    go_ret
    exact ⟨rfl, ba _ _⟩
  by_cases ht : (0 : Int) ≤ t ∧ t ≤ 3
  case neg =>
    have hv : Hid (vr ⟨t, k, ⟨a, b, c⟩⟩ = false) := Lib.hid (decide_eq_false (fun h => ht h.1))
    have Ha := Lib.hid ha
    have Hb := Lib.hid hb
    have Hc := Lib.hid hc
    have Ht := Lib.hid ht
    clear ha hb hc ht
    rw [hv.out]
    go_enter Tryd.func18, Tryd.ntmps18
    go_wp2_with fail
    refine wp_loop_rounds 4 ?_
    rw [rounds_succ]
    go_wp2_with fail
    (with_reducible refine (within_t a _ _ _ Ha.out).mono ?_)
    rintro e w1 ⟨rfl, rfl⟩
    go_wp2_with fail
    rw [rounds_succ]
    go_wp2_with fail
    (with_reducible refine (within_t b _ _ _ Hb.out).mono ?_)
    rintro e w1 ⟨rfl, rfl⟩
    go_wp2_with fail
    rw [rounds_succ]
    go_wp2_with fail
    (with_reducible refine (within_t c _ _ _ Hc.out).mono ?_)
    rintro e w1 ⟨rfl, rfl⟩
    go_wp2_with fail
    rw [rounds_succ]
    go_wp2_with fail
    (with_reducible refine (within_f t _ _ _ Ht.out).mono ?_)
    rintro e w1 ⟨rfl, rfl⟩
    go_wp2_with fail
    go_ret
    exact ⟨rfl, ba _ _⟩
  by_cases hk : (1 : Int) ≤ k ∧ k ≤ 1000000
  case neg =>
    have hv : Hid (vr ⟨t, k, ⟨a, b, c⟩⟩ = false) := Lib.hid (decide_eq_false (fun h => hk h.2.1))
    have Ha := Lib.hid ha
    have Hb := Lib.hid hb
    have Hc := Lib.hid hc
    have Ht := Lib.hid ht
    have Hk := Lib.hid hk
    clear ha hb hc ht hk
    rw [hv.out]
    go_enter Tryd.func18, Tryd.ntmps18
    go_wp2_with fail
    refine wp_loop_rounds 4 ?_
    rw [rounds_succ]
    go_wp2_with fail
    (with_reducible refine (within_t a _ _ _ Ha.out).mono ?_)
    rintro e w1 ⟨rfl, rfl⟩
    go_wp2_with fail
    rw [rounds_succ]
    go_wp2_with fail
    (with_reducible refine (within_t b _ _ _ Hb.out).mono ?_)
    rintro e w1 ⟨rfl, rfl⟩
    go_wp2_with fail
    rw [rounds_succ]
    go_wp2_with fail
    (with_reducible refine (within_t c _ _ _ Hc.out).mono ?_)
    rintro e w1 ⟨rfl, rfl⟩
    go_wp2_with fail
    rw [rounds_succ]
    go_wp2_with fail
    (with_reducible refine (within_t t _ _ _ Ht.out).mono ?_)
    rintro e w1 ⟨rfl, rfl⟩
    go_wp2_with fail
    (with_reducible refine (within_f k _ _ _ Hk.out).mono ?_)
    rintro e w1 ⟨rfl, rfl⟩
    go_wp2_with fail
    go_ret
    exact ⟨rfl, ba _ _⟩
  have hv : Hid (vr ⟨t, k, ⟨a, b, c⟩⟩ = true) := Lib.hid (decide_eq_true ⟨ht, hk, ha, hb, hc⟩)
  have Ha := Lib.hid ha
  have Hb := Lib.hid hb
  have Hc := Lib.hid hc
  have Ht := Lib.hid ht
  have Hk := Lib.hid hk
  clear ha hb hc ht hk
  rw [hv.out]
  go_enter Tryd.func18, Tryd.ntmps18
  go_wp2_with fail
  refine wp_loop_rounds 4 ?_
  rw [rounds_succ]
  go_wp2_with fail
  (with_reducible refine (within_t a _ _ _ Ha.out).mono ?_)
  rintro e w1 ⟨rfl, rfl⟩
  go_wp2_with fail
  rw [rounds_succ]
  go_wp2_with fail
  (with_reducible refine (within_t b _ _ _ Hb.out).mono ?_)
  rintro e w1 ⟨rfl, rfl⟩
  go_wp2_with fail
  rw [rounds_succ]
  go_wp2_with fail
  (with_reducible refine (within_t c _ _ _ Hc.out).mono ?_)
  rintro e w1 ⟨rfl, rfl⟩
  go_wp2_with fail
  rw [rounds_succ]
  go_wp2_with fail
  (with_reducible refine (within_t t _ _ _ Ht.out).mono ?_)
  rintro e w1 ⟨rfl, rfl⟩
  go_wp2_with fail
  (with_reducible refine (within_t k _ _ _ Hk.out).mono ?_)
  rintro e w1 ⟨rfl, rfl⟩
  go_wp2_with fail
  go_ret
  exact ⟨rfl, ba _ _⟩

set_option maxRecDepth 100000 in
set_option maxHeartbeats 400000 in
theorem refValue_any (t k a b c col : Int) (w : World) (h1 : -9223372036854775808 ≤ col) (h2 : col ≤ 9223372036854775807) :
    Calls Tryd.prog 20 #[rowV ⟨t, k, ⟨a, b, c⟩⟩, .int .i64 col] w fun e w' => e = .returned (.int .i64 (vget ⟨t, k, ⟨a, b, c⟩⟩ col)) ∧ Below w.heap.size w w' := by
  unfold rowV
  by_cases h0 : 0 ≤ col ∧ col ≤ 3
  · have : col = 0 ∨ col = 1 ∨ col = 2 ∨ col = 3 := by omega
    clear h0
    rcases this with rfl | rfl | rfl | rfl
    · go_enter Tryd.func20, Tryd.ntmps20
      go_wp2
      go_ret
      exact ⟨rfl, ba _ _⟩
    all_goals
      go_enter Tryd.func20, Tryd.ntmps20
      go_wp2_with fail
      (with_reducible refine (within_t _ _ _ _ (by decide)).mono ?_)
      rintro e w1 ⟨rfl, rfl⟩
      go_wp2_with fail
      go_ret
      exact ⟨rfl, ba _ _⟩
  · have hv : vget ⟨t, k, ⟨a, b, c⟩⟩ col = 0 := by
      unfold vget
      rw [if_neg (by omega), if_neg (by omega), if_neg (by omega), if_neg (by omega)]
    rw [hv]
    clear hv
    have he : (col == 0) = false := by simp; omega
    have H0 : Hid (¬ (1 ≤ col ∧ col ≤ 3)) := Lib.hid (by omega)
    clear h0
    go_enter Tryd.func20, Tryd.ntmps20
    go_wp2_with fail
    (with_reducible refine (within_f _ _ _ _ H0.out).mono ?_)
    rintro e w1 ⟨rfl, rfl⟩
    go_wp2_with fail
    go_ret
    exact ⟨rfl, ba _ _⟩

theorem refPut_fit (x : Int) (w : World) (h : Fit x) : Calls Tryd.prog 57 #[.int .i64 x] w fun e W' => e = .returned (.tuple #[.string (encI x), .int .i64 0]) ∧ Below w.heap.size w W' := refPutInt_ok x w h.1 h.2
theorem encStr_take_succ (l : List Int) (k : Nat) (h : k < l.length) : encStr (l.take k) ++ encI (l.getD k 0) = encStr (l.take (k + 1)) := by
  apply ext_list
  rw [app_list]
  simp [encStr, encI, encs_take_succ l k h]
set_option maxRecDepth 100000 in
set_option maxHeartbeats 2000000 in
theorem refPut_any (v : Value) (l : List Int) (w : World) (hv : IntS w v l) (hf : ∀ n ∈ l, Fit n) :
    Calls Tryd.prog 38 #[v] w fun e w' => e = .returned (.string (encStr l)) ∧ Below w.heap.size w w' := by
  obtain ⟨a, n, cap, rfl, hn, h1, hc⟩ := hv
  have HN := Lib.hid hn
  have HC := Lib.hid hc
  have HF := Lib.hid hf
  clear hn hc hf
  go_enter Tryd.func38, Tryd.ntmps38
  go_wp2_with fail
  go_loopw [3, 4, 5, 6] (fun s i _ _ wr => ∃ k : Nat, k ≤ n ∧ i = .int .i64 k ∧ s = .string (encStr (l.take k)) ∧ Below w.heap.size w wr) (fun _ i _ _ _ => n - (intOf i).toNat)
  case atStart => exact ⟨0, by omega, rfl, by simp [encStr, encs], Below.refl _ _⟩
  case round =>
    obtain ⟨k, hk, rfl, rfl, HB⟩ := hrel
    by_cases hlt : k < n
    · obtain ⟨b, o, rfl, hb, hx⟩ := HC.out (by omega)
      have hcell : wr.cell? ⟨b, o + k, none⟩ = some (.int .i64 (l.getD k 0)) := by rw [(bcell HB).1 b _ hb]; exact hx k hlt
      have HT := Lib.hid (encStr_take_succ l k (by rw [← HN.out]; exact hlt))
      have HFk : Hid (Fit (l.getD k 0)) := Lib.hid (HF.out _ (by
        have : k < l.length := by rw [← HN.out]; exact hlt
        rw [List.getD_eq_getElem?_getD, List.getElem?_eq_getElem this]
        exact List.getElem_mem _))
      have hs1 : (encStr (l.take k)).size ≤ 9000 := by
        have := encStr_size (l.take k)
        have : (l.take k).length ≤ k := List.length_take_le _ _
        omega
      clear hx
      obtain ⟨x, HX⟩ : ∃ x, Hid (l.getD k 0 = x) := ⟨_, Lib.hid rfl⟩
      rw [HX.out] at hcell HT HFk
      obtain ⟨S, HS⟩ : ∃ S, Hid (encStr (l.take k) = S) := ⟨_, Lib.hid rfl⟩
      rw [HS.out] at HT hs1
      rw [HS.out]
      go_wp2_with fail
      (with_reducible refine (refPut_fit x _ HFk.out).mono ?_)
      rintro e w1 ⟨rfl, hb1⟩
      have hs2 := encI_size_le x
      go_wp2_with fail
      exact ⟨⟨k + 1, by omega, by go_num, by rw [HT.out], bt HB hb1⟩, by simp [intOf]; omega⟩
    · have HT : Hid (l.take k = l) := Lib.hid (List.take_of_length_le (by rw [← HN.out]; omega))
      go_wp2_with fail
      go_ret
      exact ⟨by rw [HT.out]; rfl, HB⟩

theorem IntS.five {w : World} {b o cap : Nat} {x y z u v : Int} (hb : b < w.heap.size) (h0 : w.cell? ⟨b, o, none⟩ = some (.int .i64 x)) (h1 : w.cell? ⟨b, o + 1, none⟩ = some (.int .i64 y)) (h2 : w.cell? ⟨b, o + 2, none⟩ = some (.int .i64 z)) (h3 : w.cell? ⟨b, o + 3, none⟩ = some (.int .i64 u)) (h4 : w.cell? ⟨b, o + 4, none⟩ = some (.int .i64 v)) :
    IntS w (.slice (some ⟨b, o, none⟩) 5 cap) [x, y, z, u, v] :=
  ⟨_, 5, cap, rfl, rfl, by omega, fun _ => ⟨b, o, rfl, hb, fun i hi => by
    match i, hi with
    | 0, _ => exact h0
    | 1, _ => exact h1
    | 2, _ => exact h2
    | 3, _ => exact h3
    | 4, _ => exact h4⟩⟩
theorem refValid_t (r : MRow) (w : World) (h : VRow r) : Calls Tryd.prog 18 #[rowV r] w fun e w' => e = .returned (.bool true) ∧ Below w.heap.size w w' :=
  (refValid_any r.t r.k r.v.a r.v.b r.v.c w).mono fun e w' hw => by
    have h1 : vr ⟨r.t, r.k, ⟨r.v.a, r.v.b, r.v.c⟩⟩ = true := decide_eq_true h
    rw [h1] at hw; exact hw
theorem refValid_f (r : MRow) (w : World) (h : ¬ VRow r) : Calls Tryd.prog 18 #[rowV r] w fun e w' => e = .returned (.bool false) ∧ Below w.heap.size w w' :=
  (refValid_any r.t r.k r.v.a r.v.b r.v.c w).mono fun e w' hw => by
    have h1 : vr ⟨r.t, r.k, ⟨r.v.a, r.v.b, r.v.c⟩⟩ = false := decide_eq_false h
    rw [h1] at hw; exact hw
set_option maxRecDepth 100000 in
set_option maxHeartbeats 1000000 in
theorem refEncode_ok (t k a b c : Int) (w : World) (hv : VRow ⟨t, k, ⟨a, b, c⟩⟩) :
    Calls Tryd.prog 14 #[rowV ⟨t, k, ⟨a, b, c⟩⟩] w fun e w' => e = .returned (.tuple #[.string (encRowS ⟨t, k, ⟨a, b, c⟩⟩), .int .i64 0]) ∧ Below w.heap.size w w' := by
  have HF : Hid (∀ n ∈ [t, k, a, b, c], Fit n) := Lib.hid hv.fit
  have HV := Lib.hid hv
  clear hv
  go_enter Tryd.func14, Tryd.ntmps14
  go_wp2_with fail
  (with_reducible refine (refValid_t ⟨t, k, ⟨a, b, c⟩⟩ _ HV.out).mono ?_)
  rintro e w1 ⟨rfl, hb1⟩
  obtain ⟨hc1, hf1⟩ := bcell hb1
  go_wp2_with fail
  (with_reducible refine (refPut_any _ [t, k, a, b, c] _ (IntS.five (by simp) (by simp [go_sem]) (by simp [go_sem]) (by simp [go_sem]) (by simp [go_sem]) (by simp [go_sem])) HF.out).mono ?_)
  rintro e w2 ⟨rfl, hb2⟩
  go_wp2_with fail
  go_ret2
  exact ⟨rfl, bt (bt (bt (ba w _) hb1) (ba _ _)) hb2⟩
set_option maxRecDepth 100000 in
set_option maxHeartbeats 1000000 in
theorem refEncode_bad (t k a b c : Int) (w : World) (hv : ¬ VRow ⟨t, k, ⟨a, b, c⟩⟩) :
    Calls Tryd.prog 14 #[rowV ⟨t, k, ⟨a, b, c⟩⟩] w fun e w' => e = .returned (.tuple #[.string ⟨#[]⟩, .int .i64 30]) ∧ Below w.heap.size w w' := by
  have HV := Lib.hid hv
  clear hv
  go_enter Tryd.func14, Tryd.ntmps14
  go_wp2_with fail
  (with_reducible refine (refValid_f ⟨t, k, ⟨a, b, c⟩⟩ _ HV.out).mono ?_)
  rintro e w1 ⟨rfl, hb1⟩
  go_wp2_with fail
  go_ret2
  exact ⟨rfl, bt (ba w _) hb1⟩
end Go.Proofs.YtgkdliocfnoffaaDoor
