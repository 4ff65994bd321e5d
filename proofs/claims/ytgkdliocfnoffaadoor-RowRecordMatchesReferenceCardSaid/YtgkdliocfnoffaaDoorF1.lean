/- WALKS: the reference: within, Valid, Value, put, Encode, get. -/
import Derived.Test.YtgkdliocfnoffaaDoorN6
import Derived.Test.YtgkdliocfnoffaaDoorWD2
import Derived.Test.YtgkdliocfnoffaaDoorQ3
set_option linter.unusedVariables false
set_option linter.unusedSimpArgs false
namespace Go.Proofs.YtgkdliocfnoffaaDoor
open Go.RowKit Go.Sort

theorem within_t (n lo hi : Int) (w : World) (h : lo ≤ n ∧ n ≤ hi) : Calls Tryd.prog 45 #[.int .i64 n, .int .i64 lo, .int .i64 hi] w fun e w' => e = .returned (.bool true) ∧ w' = w := by
  obtain ⟨h1, h2⟩ := h
  go_enter Tryd.func45, Tryd.ntmps45
  go_wp2
  all_goals (go_ret; exact ⟨rfl, rfl⟩)
theorem within_f (n lo hi : Int) (w : World) (h : ¬ (lo ≤ n ∧ n ≤ hi)) : Calls Tryd.prog 45 #[.int .i64 n, .int .i64 lo, .int .i64 hi] w fun e w' => e = .returned (.bool false) ∧ w' = w := by
  by_cases h1 : lo ≤ n
  · have h2 : ¬ n ≤ hi := fun h2 => h ⟨h1, h2⟩
    clear h
    go_enter Tryd.func45, Tryd.ntmps45
    go_wp2
    all_goals (go_ret; exact ⟨rfl, rfl⟩)
  · clear h
    go_enter Tryd.func45, Tryd.ntmps45
    go_wp2
    all_goals (go_ret; exact ⟨rfl, rfl⟩)

set_option maxRecDepth 100000 in
set_option maxHeartbeats 2000000 in
theorem refValid_any (t k a b c : Int) (w : World) :
    Calls Tryd.prog 18 #[rowV ⟨t, k, ⟨a, b, c⟩⟩] w fun e w' => e = .returned (.bool (vr ⟨t, k, ⟨a, b, c⟩⟩)) ∧ Below w.heap.size w w' := by
  by_cases ha : (-1000000000 : Int) ≤ a ∧ a ≤ 1000000000
  case neg =>
    have hv : Hid (vr ⟨t, k, ⟨a, b, c⟩⟩ = false) := Lib.hid (decide_eq_false (fun h => ha h.2.2.1))
    have Ha := Lib.hid ha
    clear ha
    rw [hv.out]
    go_enter Tryd.func18, Tryd.ntmps18
    go_wp2_with fail
    refine wp_loop_rounds 4 ?_
    rw [rounds_succ]
    go_wp2_with fail
    (with_reducible refine (within_f a _ _ _ Ha.out).mono ?_)
    rintro e w1 ⟨rfl, rfl⟩
    go_wp2_with fail
    go_ret
    exact ⟨rfl, ba _ _⟩
  by_cases hb : (-1000000000 : Int) ≤ b ∧ b ≤ 1000000000
  case neg =>
    have hv : Hid (vr ⟨t, k, ⟨a, b, c⟩⟩ = false) := Lib.hid (decide_eq_false (fun h => hb h.2.2.2.1))
    have Ha := Lib.hid ha
    have Hb := Lib.hid hb
    clear ha hb
    rw [hv.out]
    go_enter Tryd.func18, Tryd.ntmps18
    go_wp2_with fail
    refine wp_loop_rounds 4 ?_
    rw [rounds_succ]
    go_wp2_with fail
    (with_reducible refine (within_t a _ _ _ Ha.out).mono ?_)
    rintro e w1 ⟨rfl, rfl⟩
    go_wp2_with fail
    rw [rounds_succ]
    go_wp2_with fail
    (with_reducible refine (within_f b _ _ _ Hb.out).mono ?_)
    rintro e w1 ⟨rfl, rfl⟩
    go_wp2_with fail
    go_ret
    exact ⟨rfl, ba _ _⟩
  by_cases hc : (-1000000000 : Int) ≤ c ∧ c ≤ 1000000000
  case neg =>
    have hv : Hid (vr ⟨t, k, ⟨a, b, c⟩⟩ = false) := Lib.hid (decide_eq_false (fun h => hc h.2.2.2.2))
    have Ha := Lib.hid ha
    have Hb := Lib.hid hb
    have Hc := Lib.hid hc
    clear ha hb hc
    rw [hv.out]
    go_enter Tryd.func18, Tryd.ntmps18
    go_wp2_with fail
    refine wp_loop_rounds 4 ?_
    rw [rounds_succ]
    go_wp2_with fail
    (with_reducible refine (within_t a _ _ _ Ha.out).mono ?_)
    rintro e w1 ⟨rfl, rfl⟩
    go_wp2_with fail
    rw [rounds_succ]
    go_wp2_with fail
    (with_reducible refine (within_t b _ _ _ Hb.out).mono ?_)
    rintro e w1 ⟨rfl, rfl⟩
    go_wp2_with fail
    rw [rounds_succ]
    go_wp2_with fail
    (with_reducible refine (within_f c _ _ _ Hc.out).mono ?_)
    rintro e w1 ⟨rfl, rfl⟩
    go_wp2_with fail
    go_ret
    exact ⟨rfl, ba _ _⟩
  by_cases ht : (0 : Int) ≤ t ∧ t ≤ 3
  case neg =>
    have hv : Hid (vr ⟨t, k, ⟨a, b, c⟩⟩ = false) := Lib.hid (decide_eq_false (fun h => ht h.1))
    have Ha := Lib.hid ha
    have Hb := Lib.hid hb
    have Hc := Lib.hid hc
    have Ht := Lib.hid ht
    clear ha hb hc ht
    rw [hv.out]
    go_enter Tryd.func18, Tryd.ntmps18
    go_wp2_with fail
    refine wp_loop_rounds 4 ?_
    rw [rounds_succ]
    go_wp2_with fail
    (with_reducible refine (within_t a _ _ _ Ha.out).mono ?_)
    rintro e w1 ⟨rfl, rfl⟩
    go_wp2_with fail
    rw [rounds_succ]
    go_wp2_with fail
    (with_reducible refine (within_t b _ _ _ Hb.out).mono ?_)
    rintro e w1 ⟨rfl, rfl⟩
    go_wp2_with fail
    rw [rounds_succ]
    go_wp2_with fail
    (with_reducible refine (within_t c _ _ _ Hc.out).mono ?_)
    rintro e w1 ⟨rfl, rfl⟩
    go_wp2_with fail
    rw [rounds_succ]
    go_wp2_with fail
    (with_reducible refine (within_f t _ _ _ Ht.out).mono ?_)
    rintro e w1 ⟨rfl, rfl⟩
    go_wp2_with fail
    go_ret
    exact ⟨rfl, ba _ _⟩
  by_cases hk : (1 : Int) ≤ k ∧ k ≤ 1000000
  case neg =>
    have hv : Hid (vr ⟨t, k, ⟨a, b, c⟩⟩ = false) := Lib.hid (decide_eq_false (fun h => hk h.2.1))
    have Ha := Lib.hid ha
    have Hb := Lib.hid hb
    have Hc := Lib.hid hc
    have Ht := Lib.hid ht
    have Hk := Lib.hid hk
    clear ha hb hc ht hk
    rw [hv.out]
    go_enter Tryd.func18, Tryd.ntmps18
    go_wp2_with fail
    refine wp_loop_rounds 4 ?_
    rw [rounds_succ]
    go_wp2_with fail
    (with_reducible refine (within_t a _ _ _ Ha.out).mono ?_)
    rintro e w1 ⟨rfl, rfl⟩
    go_wp2_with fail
    rw [rounds_succ]
    go_wp2_with fail
    (with_reducible refine (within_t b _ _ _ Hb.out).mono ?_)
    rintro e w1 ⟨rfl, rfl⟩
    go_wp2_with fail
    rw [rounds_succ]
    go_wp2_with fail
    (with_reducible refine (within_t c _ _ _ Hc.out).mono ?_)
    rintro e w1 ⟨rfl, rfl⟩
    go_wp2_with fail
    rw [rounds_succ]
    go_wp2_with fail
    (with_reducible refine (within_t t _ _ _ Ht.out).mono ?_)
    rintro e w1 ⟨rfl, rfl⟩
    go_wp2_with fail
    (with_reducible refine (within_f k _ _ _ Hk.out).mono ?_)
    rintro e w1 ⟨rfl, rfl⟩
    go_wp2_with fail
    go_ret
    exact ⟨rfl, ba _ _⟩
  have hv : Hid (vr ⟨t, k, ⟨a, b, c⟩⟩ = true) := Lib.hid (decide_eq_true ⟨ht, hk, ha, hb, hc⟩)
  have Ha := Lib.hid ha
  have Hb := Lib.hid hb
  have Hc := Lib.hid hc
  have Ht := Lib.hid ht
  have Hk := Lib.hid hk
  clear ha hb hc ht hk
  rw [hv.out]
  go_enter Tryd.func18, Tryd.ntmps18
  go_wp2_with fail
  refine wp_loop_rounds 4 ?_
  rw [rounds_succ]
  go_wp2_with fail
  (with_reducible refine (within_t a _ _ _ Ha.out).mono ?_)
  rintro e w1 ⟨rfl, rfl⟩
  go_wp2_with fail
  rw [rounds_succ]
  go_wp2_with fail
  (with_reducible refine (within_t b _ _ _ Hb.out).mono ?_)
  rintro e w1 ⟨rfl, rfl⟩
  go_wp2_with fail
  rw [rounds_succ]
  go_wp2_with fail
  (with_reducible refine (within_t c _ _ _ Hc.out).mono ?_)
  rintro e w1 ⟨rfl, rfl⟩
  go_wp2_with fail
  rw [rounds_succ]
  go_wp2_with fail
  (with_reducible refine (within_t t _ _ _ Ht.out).mono ?_)
  rintro e w1 ⟨rfl, rfl⟩
  go_wp2_with fail
  (with_reducible refine (within_t k _ _ _ Hk.out).mono ?_)
  rintro e w1 ⟨rfl, rfl⟩
  go_wp2_with fail
  go_ret
  exact ⟨rfl, ba _ _⟩

set_option maxRecDepth 100000 in
set_option maxHeartbeats 400000 in
theorem refValue_any (t k a b c col : Int) (w : World) (h1 : -9223372036854775808 ≤ col) (h2 : col ≤ 9223372036854775807) :
    Calls Tryd.prog 20 #[rowV ⟨t, k, ⟨a, b, c⟩⟩, .int .i64 col] w fun e w' => e = .returned (.int .i64 (vget ⟨t, k, ⟨a, b, c⟩⟩ col)) ∧ Below w.heap.size w w' := by
  unfold rowV
  by_cases h0 : 0 ≤ col ∧ col ≤ 3
  · have : col = 0 ∨ col = 1 ∨ col = 2 ∨ col = 3 := by omega
    clear h0
    rcases this with rfl | rfl | rfl | rfl
    · go_enter Tryd.func20, Tryd.ntmps20
      go_wp2
      go_ret
      exact ⟨rfl, ba _ _⟩
    all_goals
      go_enter Tryd.func20, Tryd.ntmps20
      go_wp2_with fail
      (with_reducible refine (within_t _ _ _ _ (by decide)).mono ?_)
      rintro e w1 ⟨rfl, rfl⟩
      go_wp2_with fail
      go_ret
      exact ⟨rfl, ba _ _⟩
  · have hv : vget ⟨t, k, ⟨a, b, c⟩⟩ col = 0 := by
      unfold vget
      rw [if_neg (by omega), if_neg (by omega), if_neg (by omega), if_neg (by omega)]
    rw [hv]
    clear hv
    have he : (col == 0) = false := by simp; omega
    have H0 : Hid (¬ (1 ≤ col ∧ col ≤ 3)) := Lib.hid (by omega)
    clear h0
    go_enter Tryd.func20, Tryd.ntmps20
    go_wp2_with fail
    (with_reducible refine (within_f _ _ _ _ H0.out).mono ?_)
    rintro e w1 ⟨rfl, rfl⟩
    go_wp2_with fail
    go_ret
    exact ⟨rfl, ba _ _⟩

theorem refPut_fit (x : Int) (w : World) (h : Fit x) : Calls Tryd.prog 57 #[.int .i64 x] w fun e W' => e = .returned (.tuple #[.string (encI x), .int .i64 0]) ∧ Below w.heap.size w W' := refPutInt_ok x w h.1 h.2
theorem encStr_take_succ (l : List Int) (k : Nat) (h : k < l.length) : encStr (l.take k) ++ encI (l.getD k 0) = encStr (l.take (k + 1)) := by
  apply ext_list
  rw [app_list]
  simp [encStr, encI, encs_take_succ l k h]
set_option maxRecDepth 100000 in
set_option maxHeartbeats 2000000 in
theorem refPut_any (v : Value) (l : List Int) (w : World) (hv : IntS w v l) (hf : ∀ n ∈ l, Fit n) :
    Calls Tryd.prog 38 #[v] w fun e w' => e = .returned (.string (encStr l)) ∧ Below w.heap.size w w' := by
  obtain ⟨a, n, cap, rfl, hn, h1, hc⟩ := hv
  have HN := Lib.hid hn
  have HC := Lib.hid hc
  have HF := Lib.hid hf
  clear hn hc hf
  go_enter Tryd.func38, Tryd.ntmps38
  go_wp2_with fail
  go_loopw [3, 4, 5, 6] (fun s i _ _ wr => ∃ k : Nat, k ≤ n ∧ i = .int .i64 k ∧ s = .string (encStr (l.take k)) ∧ Below w.heap.size w wr) (fun _ i _ _ _ => n - (intOf i).toNat)
  case atStart => exact ⟨0, by omega, rfl, by simp [encStr, encs], Below.refl _ _⟩
  case round =>
    obtain ⟨k, hk, rfl, rfl, HB⟩ := hrel
    by_cases hlt : k < n
    · obtain ⟨b, o, rfl, hb, hx⟩ := HC.out (by omega)
      have hcell : wr.cell? ⟨b, o + k, none⟩ = some (.int .i64 (l.getD k 0)) := by rw [(bcell HB).1 b _ hb]; exact hx k hlt
      have HT := Lib.hid (encStr_take_succ l k (by rw [← HN.out]; exact hlt))
      have HFk : Hid (Fit (l.getD k 0)) := Lib.hid (HF.out _ (by
        have : k < l.length := by rw [← HN.out]; exact hlt
        rw [List.getD_eq_getElem?_getD, List.getElem?_eq_getElem this]
        exact List.getElem_mem _))
      have hs1 : (encStr (l.take k)).size ≤ 9000 := by
        have := encStr_size (l.take k)
        have : (l.take k).length ≤ k := List.length_take_le _ _
        omega
      clear hx
      obtain ⟨x, HX⟩ : ∃ x, Hid (l.getD k 0 = x) := ⟨_, Lib.hid rfl⟩
      rw [HX.out] at hcell HT HFk
      obtain ⟨S, HS⟩ : ∃ S, Hid (encStr (l.take k) = S) := ⟨_, Lib.hid rfl⟩
      rw [HS.out] at HT hs1
      rw [HS.out]
      go_wp2_with fail
      (with_reducible refine (refPut_fit x _ HFk.out).mono ?_)
      rintro e w1 ⟨rfl, hb1⟩
      have hs2 := encI_size_le x
      go_wp2_with fail
      exact ⟨⟨k + 1, by omega, by go_num, by rw [HT.out], bt HB hb1⟩, by simp [intOf]; omega⟩
    · have HT : Hid (l.take k = l) := Lib.hid (List.take_of_length_le (by rw [← HN.out]; omega))
      go_wp2_with fail
      go_ret
      exact ⟨by rw [HT.out]; rfl, HB⟩

theorem IntS.five {w : World} {b o cap : Nat} {x y z u v : Int} (hb : b < w.heap.size) (h0 : w.cell? ⟨b, o, none⟩ = some (.int .i64 x)) (h1 : w.cell? ⟨b, o + 1, none⟩ = some (.int .i64 y)) (h2 : w.cell? ⟨b, o + 2, none⟩ = some (.int .i64 z)) (h3 : w.cell? ⟨b, o + 3, none⟩ = some (.int .i64 u)) (h4 : w.cell? ⟨b, o + 4, none⟩ = some (.int .i64 v)) :
    IntS w (.slice (some ⟨b, o, none⟩) 5 cap) [x, y, z, u, v] :=
  ⟨_, 5, cap, rfl, rfl, by omega, fun _ => ⟨b, o, rfl, hb, fun i hi => by
    match i, hi with
    | 0, _ => exact h0
    | 1, _ => exact h1
    | 2, _ => exact h2
    | 3, _ => exact h3
    | 4, _ => exact h4⟩⟩
theorem refValid_t (r : MRow) (w : World) (h : VRow r) : Calls Tryd.prog 18 #[rowV r] w fun e w' => e = .returned (.bool true) ∧ Below w.heap.size w w' :=
  (refValid_any r.t r.k r.v.a r.v.b r.v.c w).mono fun e w' hw => by
    have h1 : vr ⟨r.t, r.k, ⟨r.v.a, r.v.b, r.v.c⟩⟩ = true := decide_eq_true h
    rw [h1] at hw; exact hw
theorem refValid_f (r : MRow) (w : World) (h : ¬ VRow r) : Calls Tryd.prog 18 #[rowV r] w fun e w' => e = .returned (.bool false) ∧ Below w.heap.size w w' :=
  (refValid_any r.t r.k r.v.a r.v.b r.v.c w).mono fun e w' hw => by
    have h1 : vr ⟨r.t, r.k, ⟨r.v.a, r.v.b, r.v.c⟩⟩ = false := decide_eq_false h
    rw [h1] at hw; exact hw
set_option maxRecDepth 100000 in
set_option maxHeartbeats 1000000 in
theorem refEncode_ok (t k a b c : Int) (w : World) (hv : VRow ⟨t, k, ⟨a, b, c⟩⟩) :
    Calls Tryd.prog 14 #[rowV ⟨t, k, ⟨a, b, c⟩⟩] w fun e w' => e = .returned (.tuple #[.string (encRowS ⟨t, k, ⟨a, b, c⟩⟩), .int .i64 0]) ∧ Below w.heap.size w w' := by
  have HF : Hid (∀ n ∈ [t, k, a, b, c], Fit n) := Lib.hid hv.fit
  have HV := Lib.hid hv
  clear hv
  go_enter Tryd.func14, Tryd.ntmps14
  go_wp2_with fail
  (with_reducible refine (refValid_t ⟨t, k, ⟨a, b, c⟩⟩ _ HV.out).mono ?_)
  rintro e w1 ⟨rfl, hb1⟩
  obtain ⟨hc1, hf1⟩ := bcell hb1
  go_wp2_with fail
  (with_reducible refine (refPut_any _ [t, k, a, b, c] _ (IntS.five (by simp) (by simp [go_sem]) (by simp [go_sem]) (by simp [go_sem]) (by simp [go_sem]) (by simp [go_sem])) HF.out).mono ?_)
  rintro e w2 ⟨rfl, hb2⟩
  go_wp2_with fail
  go_ret2
  exact ⟨rfl, bt (bt (bt (ba w _) hb1) (ba _ _)) hb2⟩
set_option maxRecDepth 100000 in
set_option maxHeartbeats 1000000 in
theorem refEncode_bad (t k a b c : Int) (w : World) (hv : ¬ VRow ⟨t, k, ⟨a, b, c⟩⟩) :
    Calls Tryd.prog 14 #[rowV ⟨t, k, ⟨a, b, c⟩⟩] w fun e w' => e = .returned (.tuple #[.string ⟨#[]⟩, .int .i64 30]) ∧ Below w.heap.size w w' := by
  have HV := Lib.hid hv
  clear hv
  go_enter Tryd.func14, Tryd.ntmps14
  go_wp2_with fail
  (with_reducible refine (refValid_f ⟨t, k, ⟨a, b, c⟩⟩ _ HV.out).mono ?_)
  rintro e w1 ⟨rfl, hb1⟩
  go_wp2_with fail
  go_ret2
  exact ⟨rfl, bt (ba w _) hb1⟩
end Go.Proofs.YtgkdliocfnoffaaDoor
set_option linter.unusedVariables false
set_option linter.unusedSimpArgs false
namespace Go.Proofs.YtgkdliocfnoffaaDoor
open Go.RowKit Go.Sort

/-- Reading n numbers, from an offset. -/
def getN : Nat → List UInt8 → Nat → Option (List Int × Nat)
  | 0, _, k => some ([], k)
  | n + 1, L, k => match decInt (L.drop k) with
    | none => none
    | some (x, m) => (getN n L (k + m)).map fun q => (x :: q.1, q.2)
theorem getN_len : ∀ (n : Nat) (L : List UInt8) (k : Nat) {l : List Int} {k' : Nat}, getN n L k = some (l, k') → l.length = n
  | 0, _, _, l, _, h => by simp [getN] at h; simp [← h.1]
  | n + 1, L, k, l, k', h => by
    simp only [getN] at h
    cases hd : decInt (L.drop k) with
    | none => simp [hd] at h
    | some p =>
      obtain ⟨x, m⟩ := p
      simp only [hd] at h
      cases hg : getN n L (k + m) with
      | none => simp [hg] at h
      | some q =>
        obtain ⟨l', k2⟩ := q
        simp only [hg, Option.map_some, Option.some.injEq, Prod.mk.injEq] at h
        rw [← h.1, List.length_cons, getN_len n L (k + m) hg]
def pre (acc : List Int) (r : Option (List Int × Nat)) : Option (List Int × Nat) := r.map fun q => (acc ++ q.1, q.2)
theorem pre_nil (r : Option (List Int × Nat)) : pre [] r = r := by cases r <;> simp [pre]
theorem getN_none {n : Nat} {L : List UInt8} {k : Nat} (acc : List Int) (h : decInt (L.drop k) = none) : pre acc (getN (n + 1) L k) = none := by simp [getN, h, pre]
theorem getN_some {n : Nat} {L : List UInt8} {k m : Nat} {x : Int} (acc : List Int) (h : decInt (L.drop k) = some (x, m)) : pre acc (getN (n + 1) L k) = pre (acc ++ [x]) (getN n L (k + m)) := by
  simp only [getN, h, pre]
  cases getN n L (k + m) with
  | none => rfl
  | some q => simp
theorem refInt_no (s : ByteArray) (k : Nat) (w : World) (hs : s.size ≤ maxLen) (hk : k ≤ s.size) (h : decInt (s.data.toList.drop k) = none) :
    Calls Tryd.prog 61 #[.string s, .int .i64 k] w fun e w' => e = .returned (.tuple #[.int .i64 0, .int .i64 0, .int .i64 10]) ∧ Below w.heap.size w w' :=
  (refInt_any s k w hs hk).mono fun e w' hw => by rw [intOut_none h] at hw; exact hw
theorem refInt_ok (s : ByteArray) (k : Nat) (w : World) (hs : s.size ≤ maxLen) (hk : k ≤ s.size) {n : Int} {m : Nat} (h : decInt (s.data.toList.drop k) = some (n, m)) :
    Calls Tryd.prog 61 #[.string s, .int .i64 k] w fun e w' => e = .returned (.tuple #[.int .i64 n, .int .i64 ((k + m : Nat) : Int), .int .i64 0]) ∧ Below w.heap.size w w' :=
  (refInt_any s k w hs hk).mono fun e w' hw => by rw [intOut_some h] at hw; exact hw
theorem Tryd.info3 : (Tryd.prog.info? 3).map (fun i => (i.zero, i.size, i.bytes)) = some (some (.int .i64 0), 1, 8) := by kernel_rfl
def intV (x : Int) : Value := .int .i64 x
/-- What get hands back. -/
def GetOut (w : World) (r : Option (List Int × Nat)) (e : Ending) (w' : World) : Prop :=
  Below w.heap.size w w' ∧ match r with
  | none => e = .returned (.tuple #[.slice none 0 0, .int .i64 0, .bool false])
  | some (l, k) => ∃ v, e = .returned (.tuple #[v, .int .i64 (k : Int), .bool true]) ∧ w'.ownsRow w.heap.size 3 1 v l.length (l.map intV)
theorem GetOut.no {w w' : World} {e : Ending} {r : Option (List Int × Nat)} (h : Hid (r = none)) (he : e = .returned (.tuple #[.slice none 0 0, .int .i64 0, .bool false])) (hb : Below w.heap.size w w') : GetOut w r e w' := by rw [h.out]; exact ⟨hb, he⟩
theorem GetOut.ok {w w' : World} {e : Ending} {r : Option (List Int × Nat)} {l : List Int} {k : Nat} {v : Value} (h : Hid (r = some (l, k))) (he : e = .returned (.tuple #[v, .int .i64 (k : Int), .bool true])) (ho : w'.ownsRow w.heap.size 3 1 v l.length (l.map intV)) (hb : Below w.heap.size w w') : GetOut w r e w' := by rw [h.out]; exact ⟨hb, v, he, ho⟩
set_option maxRecDepth 100000 in
set_option maxHeartbeats 4000000 in
theorem get_any (s : ByteArray) (k n : Nat) (w : World) (hs : s.size ≤ maxLen) (hk : k ≤ s.size) (hn : n ≤ 100) :
    Calls Tryd.prog 44 #[.string s, .int .i64 k, .int .i64 n] w (GetOut w (getN n s.data.toList k)) := by
  obtain ⟨i0, hi, hz0, hz1, hz2⟩ := info_parts Tryd.info3
  go_enter Tryd.func44, Tryd.ntmps44
  go_wp2_with fail
  go_loopw [1, 9, 10, 11, 12, 13] (fun at_ out i _ _ _ wr => ∃ (j k' : Nat) (acc : List Int), j ≤ n ∧ i = .int .i64 j ∧ at_ = .int .i64 k' ∧ k' ≤ s.size ∧ Hid (acc.length = j) ∧ Hid (getN n s.data.toList k = pre acc (getN (n - j) s.data.toList k')) ∧ wr.ownsRow w.heap.size 3 1 out j (acc.map intV) ∧ Below w.heap.size w wr) (fun _ _ i _ _ _ _ => n - (intOf i).toNat)
  case atStart => exact ⟨0, k, [], by omega, rfl, rfl, hk, Lib.hid rfl, Lib.hid (pre_nil _).symm, World.ownsRow_nil _ _ _ _, Below.refl _ _⟩
  case round =>
    obtain ⟨j, k', acc, hj, rfl, rfl, hk', HL, HR, hown, hB⟩ := hrel
    by_cases hlt : j < n
    · obtain ⟨q, HQ, HQ1⟩ : ∃ q, Hid (n - j = q + 1) ∧ Hid (n - (j + 1) = q) := ⟨n - j - 1, Lib.hid (by omega), Lib.hid (by omega)⟩
      rw [HQ.out] at HR
      cases h : decInt (s.data.toList.drop k') with
      | none =>
        have H := Lib.hid h
        have HX : Hid (getN n s.data.toList k = none) := Lib.hid (HR.out.trans (getN_none acc h))
        clear h
        go_wp2_with fail
        (with_reducible refine (refInt_no s k' _ hs hk' H.out).mono ?_)
        rintro e w1 ⟨rfl, hb1⟩
        go_wp2_with fail
        exact bodyPost_ret (v := .tuple #[.slice none 0 0, .int .i64 0, .bool false]) (by simp [results, Tryd.results44, go_sem]) rfl (GetOut.no HX rfl (bt hB hb1))
      | some p =>
        obtain ⟨x, m⟩ := p
        have H := Lib.hid h
        have hk2 := dec_le hk' h
        have HX : Hid (getN n s.data.toList k = pre (acc ++ [x]) (getN (n - (j + 1)) s.data.toList (k' + m))) := Lib.hid (by rw [HQ1.out]; exact HR.out.trans (getN_some acc h))
        have HL2 : Hid ((acc ++ [x]).length = j + 1) := Lib.hid (by rw [List.length_append, HL.out]; rfl)
        clear h
        go_wp2_with fail
        (with_reducible refine (refInt_ok s k' _ hs hk' H.out).mono ?_)
        rintro e w1 ⟨rfl, hb1⟩
        have hown1 := ownsRow_below hown hb1
        have hB1 := bt hB hb1
        clear hown hB hb1
        go_wp2_with (at_builtin; refine wpList_append_own _ rfl _ _ 55 rfl w.heap.size 3 i0 (.int .i64 0) 1 8 Tryd.underlying55 hi hz0 hz1 hz2 rfl (by decide) _ _ _ rfl (hown1.alloc _) ⟨w1.heap.size, 0, none⟩ 1 1 [.int .i64 x] rfl rfl (cell_one_new _ _ _) (by simp [Value.oneCell']) (by unfold maxLen; omega) (by omega) (by have := hB1.size; simp; omega) ?_; intro v' w2 hown2 hgrow _)
        have hcast : ((k' : Int) + (m : Int)) = ((k' + m : Nat) : Int) := by omega
        refine ⟨⟨j + 1, k' + m, acc ++ [x], by omega, by go_num, by simp, hk2, HL2, HX, ?_, below_of_append hB1 hown1 hB1.size hgrow⟩, by simp [intOf]; omega⟩
        rw [List.map_append, List.map_singleton]
        exact hown2
    · obtain rfl : j = n := by omega
      have HX : Hid (getN j s.data.toList k = some (acc, k')) := Lib.hid (by rw [HR.out, Nat.sub_self]; simp [getN, pre])
      go_wp2_with fail
      refine bodyPost_ret (by simp [results, Tryd.results44, go_sem]; rfl) rfl (GetOut.ok HX rfl (by rw [HL.out]; exact hown) hB)
end Go.Proofs.YtgkdliocfnoffaaDoor
