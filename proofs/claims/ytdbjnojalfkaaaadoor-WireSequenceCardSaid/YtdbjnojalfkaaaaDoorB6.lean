/- THE WALK OF WireSequence. -/
import Derived.Test.YtdbjnojalfkaaaaDoorA10
import Derived.RegionTactic
import Derived.ChangeAlike
import Derived.BigRegion
import Derived.WalkSmall
import Derived.StillTailTactics
import Derived.Deep.RegionHeld3
import Derived.Deep.RegionWith
set_option linter.unusedVariables false
namespace Go.Proofs.YtdbjnojalfkaaaaDoor
open Go.RowKit

theorem string_some (s : ByteArray) (k : Nat) (w : World) (hs : s.size ≤ maxLen) (hk : k ≤ s.size) {v : ByteArray} {e : Nat} (h : strRes s k = some (v, e)) :
    Calls Tryd.prog 17 #[.string s, .int .i64 k] w fun e' w' => e' = .returned (.tuple #[.string v, .int .i64 (e : Int), .int .i64 0]) ∧ Below w.heap.size w w' :=
  (string_any s k w hs hk).mono fun e w' hw => by rw [h] at hw; exact hw

theorem run_min_int3 {P : Program} {w : World} (ts : Array TypeId) (t : TypeId) (k k' k'' : IntKind) (x y z : Int) (m : Int) (h : m = min (min x y) z) :
    (Builtin.min_ ts t #[.int k x, .int k' y, .int k'' z]).run P w = .ok (.int k m) w := by
  simp [Builtin.min_, Builtin.min2]
  subst h
  repeat' split
  all_goals omega

/-- A text, cut. -/
def cutS (s : ByteArray) (k : Nat) : ByteArray := s.extract 0 (min (s.size : Int) (k : Int)).toNat
/-- What behind j rounds has been written. -/
def seqS (z : Nat → Int) (t : Nat → ByteArray) : Nat → ByteArray
  | 0 => ⟨#[]⟩
  | j + 1 => seqS z t j ++ encI (nf (z j)) ++ encS (cutS (t j) 100)
theorem cutS_size (s : ByteArray) (k : Nat) : (cutS s k).size ≤ k := cut_size s k
theorem seqS_size (z : Nat → Int) (t : Nat → ByteArray) (j : Nat) : (seqS z t j).size ≤ 118 * j := by
  induction j with
  | zero => simp [seqS, ByteArray.size]
  | succ j ih =>
    have h1 := encI_size_le (nf (z j))
    have h2 := encI_size_le (cutS (t j) 100).size
    have h3 := cutS_size (t j) 100
    simp only [seqS, ByteArray.size_append, encS_size]
    omega
/-- What stands in front of the rest. -/
theorem seqS_split (z : Nat → Int) (t : Nat → ByteArray) (j : Nat) : ∀ n, j < n → ∃ r, seqS z t n = seqS z t j ++ encI (nf (z j)) ++ (encS (cutS (t j) 100) ++ r) := by
  intro n
  induction n with
  | zero => intro h; omega
  | succ n ih =>
    intro h
    rcases Nat.lt_or_ge j n with hj | hj
    · obtain ⟨r, hr⟩ := ih hj
      exact ⟨r ++ (encI (nf (z n)) ++ encS (cutS (t n) 100)), by simp only [seqS]; rw [hr]; simp only [ByteArray.append_assoc]⟩
    · obtain rfl : j = n := by omega
      exact ⟨⟨#[]⟩, by simp only [seqS]; apply ext_list; simp [app_list]⟩

set_option maxRecDepth 100000 in
set_option maxHeartbeats 1000000 in
/-- No round: one of the two lists is empty. -/
theorem sequence_none (a0 a1 : Option Addr) (len0 cap0 len1 cap1 : Nat) (w : World) (h0 : len0 ≤ maxLen) (h1 : len1 ≤ maxLen) (hz : len0 = 0 ∨ len1 = 0) (hN : Nib w) :
    Calls Tryd.prog 6 #[.slice a0 len0 cap0, .slice a1 len1 cap1] w fun e W' => e = .returned (.bool true) ∧ Below w.heap.size w W' := by
  unfold maxLen at h0 h1
  have HN := Lib.hid hN
  clear hN
  go_enter Tryd.func6, Tryd.ntmps6
  go_wp2_with fail
  refine (sane_any _ HN.out).mono ?_
  rintro e w1 ⟨rfl, hb1⟩
  have hmin : ∀ W : World, (Builtin.min_ #[3, 3, 3] 3 #[.int .i64 (len0 : Int), .int .i64 (len1 : Int), .int .i64 20]).run Tryd.prog W = .ok (.int .i64 0) W := fun W => run_min_int3 _ _ _ _ _ _ _ _ _ (by omega)
  go_wp2_with fail
  clear hmin hz
  go_loop [8, 7] (fun i s => i = .int .i64 0 ∧ s = .string ⟨#[]⟩) (fun _ _ => 0)
  case atStart => exact ⟨rfl, rfl⟩
  case round =>
    obtain ⟨rfl, rfl⟩ := hrel
    go_wp2_with fail
    go_loop [14, 13] (fun i s => i = .int .i64 0 ∧ s = .int .i64 0) (fun _ _ => 0)
    case atStart => exact ⟨rfl, rfl⟩
    case round =>
      obtain ⟨rfl, rfl⟩ := hrel
      go_wp2_with fail
      refine (int_none ⟨#[]⟩ 0 _ (by decide) (by decide) (by decide)).mono ?_
      rintro e w2 ⟨rfl, rfl⟩
      go_wp2_with fail
      go_ret
      exact ⟨rfl, hb1⟩

theorem seq_keep {w A B : World} {b o : Nat} {v : Value} (hb : b < w.heap.size) (h : A.cell? ⟨b, o, none⟩ = some v ∧ Below w.heap.size w A) (k : Below A.heap.size A B) :
    B.cell? ⟨b, o, none⟩ = some v ∧ Below w.heap.size w B :=
  ⟨(k.cell (p := ⟨b, o, none⟩) (Nat.lt_of_lt_of_le hb h.2.size)).trans h.1, bt h.2 k⟩

theorem seq_keep2 {w A B : World} {b o b' o' : Nat} {v v' : Value} (hb : b < w.heap.size) (hb' : b' < w.heap.size) (h : (A.cell? ⟨b, o, none⟩ = some v ∧ A.cell? ⟨b', o', none⟩ = some v') ∧ Below w.heap.size w A) (k : Below A.heap.size A B) :
    (B.cell? ⟨b, o, none⟩ = some v ∧ B.cell? ⟨b', o', none⟩ = some v') ∧ Below w.heap.size w B :=
  ⟨⟨(k.cell (p := ⟨b, o, none⟩) (Nat.lt_of_lt_of_le hb h.2.size)).trans h.1.1, (k.cell (p := ⟨b', o', none⟩) (Nat.lt_of_lt_of_le hb' h.2.size)).trans h.1.2⟩, bt h.2 k⟩

set_option maxRecDepth 100000 in
set_option maxHeartbeats 2000000 in
/-- The rounds. -/
theorem sequence_some (b0 o0 len0 cap0 b1 o1 len1 cap1 : Nat) (z : Nat → Int) (t : Nat → ByteArray) (w : World) (h0 : len0 ≤ maxLen) (h1 : len1 ≤ maxLen) (hz0 : 1 ≤ len0) (hz1 : 1 ≤ len1)
    (hb0 : b0 < w.heap.size) (hb1 : b1 < w.heap.size) (hc0 : ∀ j, j < len0 → w.cell? ⟨b0, o0 + j, none⟩ = some (.int .i64 (z j))) (hc1 : ∀ j, j < len1 → w.cell? ⟨b1, o1 + j, none⟩ = some (.string (t j)))
    (hzr : ∀ j, j < len0 → -9223372036854775808 ≤ z j ∧ z j ≤ 9223372036854775807) (htr : ∀ j, j < len1 → (t j).size ≤ maxLen) (hN : Nib w) :
    Calls Tryd.prog 6 #[.slice (some ⟨b0, o0, none⟩) len0 cap0, .slice (some ⟨b1, o1, none⟩) len1 cap1] w fun e W' => e = .returned (.bool true) ∧ Below w.heap.size w W' := by
  unfold maxLen at h0 h1
  have HN := Lib.hid hN
  have HC0 := Lib.hid hc0
  have HC1 := Lib.hid hc1
  have HZ := Lib.hid hzr
  have HT := Lib.hid htr
  clear hN hc0 hc1 hzr htr
  go_enter Tryd.func6, Tryd.ntmps6
  go_wp2_with fail
  refine (sane_any _ HN.out).mono ?_
  rintro e w1 ⟨rfl, hw1⟩
  obtain ⟨n, Hn⟩ : ∃ n : Nat, Hid ((n : Int) = min (min (len0 : Int) len1) 20) := ⟨(min (min (len0 : Int) len1) 20).toNat, Lib.hid (by omega)⟩
  have hn0 : n ≤ len0 := by have := Hn.out; omega
  have hn1 : n ≤ len1 := by have := Hn.out; omega
  have hn20 : n ≤ 20 := by have := Hn.out; omega
  have hn01 : 1 ≤ n := by have := Hn.out; omega
  have hmin : ∀ W : World, (Builtin.min_ #[3, 3, 3] 3 #[.int .i64 (len0 : Int), .int .i64 (len1 : Int), .int .i64 20]).run Tryd.prog W = .ok (.int .i64 (n : Int)) W := fun W => run_min_int3 _ _ _ _ _ _ _ _ _ Hn.out
  go_wp2_with fail
  clear hmin
  go_loopw [8, 7] (fun i s wr => ∃ j : Nat, j ≤ n ∧ i = .int .i64 j ∧ s = .string (seqS z t j) ∧ Below w.heap.size w wr) (fun i _ _ => n - (intOf i).toNat)
  case atStart => exact ⟨0, by omega, rfl, rfl, hw1⟩
  case round =>
    obtain ⟨j, hj, rfl, rfl, hB⟩ := hrel
    by_cases hlt : j < n
    · have hcz : wr.cell? ⟨b0, o0 + j, none⟩ = some (.int .i64 (z j)) := (hB.cell (p := ⟨b0, o0 + j, none⟩) hb0).trans (HC0.out j (by omega))
      have hr := HZ.out j (by omega)
      obtain ⟨Z, HZ2⟩ : ∃ Z, Hid (z j = Z) := ⟨_, Lib.hid rfl⟩
      rw [HZ2.out] at hcz hr
      obtain ⟨S, HS⟩ : ∃ S, Hid (seqS z t j = S) := ⟨_, Lib.hid rfl⟩
      have hSl := seqS_size z t j
      rw [HS.out] at hSl ⊢
      go_wp2_with fail
      refine (nf_any Z _ hr.1 hr.2).mono ?_
      rintro e w2 ⟨rfl, hb2⟩
      have hnf := nf_range Z
      obtain ⟨m, HM⟩ : ∃ m, Hid (nf Z = m) := ⟨_, Lib.hid rfl⟩
      rw [HM.out] at hnf ⊢
      go_wp2_with fail
      refine (putInt_enc m _ (by omega) (by omega)).mono ?_
      rintro e w3 ⟨rfl, hb3⟩
      have hB3 := hB.trans ((hb2.trans (hb3.mono hb2.size)).mono hB.size)
      have hct : w3.cell? ⟨b1, o1 + j, none⟩ = some (.string (t j)) := (hB3.cell (p := ⟨b1, o1 + j, none⟩) hb1).trans (HC1.out j (by omega))
      have htl := HT.out j (by omega)
      obtain ⟨T, HT2⟩ : ∃ T, Hid (t j = T) := ⟨_, Lib.hid rfl⟩
      rw [HT2.out] at hct htl
      unfold maxLen at htl
      go_wp2_with fail
      have hcs := cutS_size T 100
      have hj1 : (0 : Int) ≤ (j : Int) := by omega
      have hj2 : (j : Int) < (len1 : Int) := by omega
      have hj3 : j < len1 := by omega
      have hm1 : (0 : Int) ≤ min (T.size : Int) 100 := by omega
      have hm2 : min (T.size : Int) 100 ≤ (T.size : Int) := by omega
      have hcu : T.extract 0 (min (T.size : Int) 100).toNat = cutS T 100 := rfl
      go_region_held3 (fun w' => w'.cell? ⟨b1, o1 + j, none⟩ = some (.string T) ∧ Below w.heap.size w w')
        (first | assumption | exact ⟨hct, hB3.drew⟩ | (refine seq_keep hb1 ?_ hb4; assumption))
        (first | (go_at_call 19; refine (putString_enc _ _ (by omega)).mono ?_; rintro e w4 ⟨rfl, hb4⟩))
      have hB4 := (‹w4.cell? ⟨b1, o1 + j, none⟩ = some (.string T) ∧ Below w.heap.size w w4›).2
      have hem := encI_size_le m
      have hes : (encS (cutS T 100)).size ≤ 109 := by rw [encS_size]; have := encI_size_le (cutS T 100).size; omega
      have HS1 : Hid (seqS z t (j + 1) = S ++ encI m ++ encS (cutS T 100)) := Lib.hid (by simp only [seqS]; rw [HS.out, HZ2.out, HM.out, HT2.out])
      go_wp2_with fail
      exact ⟨⟨j + 1, by omega, by go_num, by rw [HS1.out], hB4⟩, by simp [intOf]; omega⟩
    · obtain rfl : j = n := by omega
      obtain ⟨SN, HSN⟩ : ∃ S, Hid (seqS z t j = S) := ⟨_, Lib.hid rfl⟩
      have hSl := seqS_size z t j
      rw [HSN.out] at hSl ⊢
      have hSm : SN.size ≤ maxLen := by unfold maxLen; omega
      go_wp2_with fail
      go_loopw [14, 13] (fun i a wr => ∃ k : Nat, k ≤ j ∧ i = .int .i64 k ∧ a = .int .i64 ((seqS z t k).size : Int) ∧ Below w.heap.size w wr) (fun i _ _ => j - (intOf i).toNat)
      case atStart => exact ⟨0, by omega, rfl, rfl, hB⟩
      case round =>
        obtain ⟨k, hk, rfl, rfl, hB⟩ := hrel
        by_cases hlt : k < j
        · obtain ⟨r, hsp⟩ := seqS_split z t k j hlt
          rw [HSN.out] at hsp
          have hnf := nf_range (z k)
          have hr := HZ.out k (by omega)
          have hct := cutS_size (t k) 100
          have hD : decInt (SN.data.toList.drop (seqS z t k).size) = some (nf (z k), (encI (nf (z k))).size) := by
            rw [hsp]; exact decInt_at _ _ _ (by omega) (by omega)
          have hR : strRes SN ((seqS z t k).size + (encI (nf (z k))).size) = some (cutS (t k) 100, (seqS z t k).size + (encI (nf (z k))).size + (encS (cutS (t k) 100)).size) := by
            have := strRes_at (seqS z t k ++ encI (nf (z k))) r (cutS (t k) 100) (by omega)
            rw [hsp, ← ByteArray.append_assoc]
            rw [ByteArray.size_append] at this
            exact this
          have HS1 : Hid ((seqS z t (k + 1)).size = (seqS z t k).size + (encI (nf (z k))).size + (encS (cutS (t k) 100)).size) := Lib.hid (by simp only [seqS, ByteArray.size_append])
          have hle : (seqS z t k).size + (encI (nf (z k))).size ≤ SN.size := by rw [hsp]; simp only [ByteArray.size_append]; omega
          have hcz : ∀ W, Below w.heap.size w W → W.cell? ⟨b0, o0 + k, none⟩ = some (.int .i64 (z k)) := fun W h => (h.cell (p := ⟨b0, o0 + k, none⟩) hb0).trans (HC0.out k (by omega))
          have hcu : ∀ W, Below w.heap.size w W → W.cell? ⟨b1, o1 + k, none⟩ = some (.string (t k)) := fun W h => (h.cell (p := ⟨b1, o1 + k, none⟩) hb1).trans (HC1.out k (by omega))
          have htl := HT.out k (by omega)
          unfold maxLen at htl
          have HNF : Hid (∀ W, Calls Tryd.prog 11 #[.int .i64 (z k)] W fun e W' => e = .returned (.int .i64 (nf (z k))) ∧ Below W.heap.size W W') := Lib.hid (fun W => nf_any (z k) W hr.1 hr.2)
          clear hsp hr
          have HD := Lib.hid hD
          have HR := Lib.hid hR
          have HCZ := Lib.hid hcz
          have HCU := Lib.hid hcu
          clear hD hR hcz hcu
          generalize nf (z k) = m at HD HR HS1 HNF hnf hle
          generalize z k = Z at HCZ HNF
          generalize t k = T at HCU HR HS1 hct htl
          obtain ⟨V, HV⟩ : ∃ V, Hid (cutS T 100 = V) := ⟨_, Lib.hid rfl⟩
          have hcv : T.extract 0 (min (T.size : Int) 100).toNat = V := HV.out
          rw [HV.out] at HR HS1 hct
          generalize (seqS z t k).size = A at HD HR HS1 hle ⊢
          generalize (encI m).size = E at HD HR HS1 hle
          generalize (encS V).size = G at HR HS1
          have hA : A ≤ SN.size := by omega
          go_wp2_with fail
          refine (int_some SN A _ hSm hA HD.out).mono ?_
          rintro e w2 ⟨rfl, rfl⟩
          go_wp2_with fail
          refine (string_some SN (A + E) _ hSm hle HR.out).mono ?_
          rintro e w3 ⟨rfl, hb3⟩
          have hB3 := bt hB hb3
          have hz3 := HCZ.out _ hB3
          have ht3 := HCU.out _ hB3
          have hj1 : (0 : Int) ≤ (k : Int) := by omega
          have hj2 : (k : Int) < (len1 : Int) := by omega
          have hj3 : k < len1 := by omega
          have hj4 : (k : Int) < (len0 : Int) := by omega
          have hj5 : k < len0 := by omega
          have hm1 : (0 : Int) ≤ min (T.size : Int) 100 := by omega
          have hm2 : min (T.size : Int) 100 ≤ (T.size : Int) := by omega
          go_wp2_with fail
          go_region_held3 (fun w' => (w'.cell? ⟨b0, o0 + k, none⟩ = some (.int .i64 Z) ∧ w'.cell? ⟨b1, o1 + k, none⟩ = some (.string T)) ∧ Below w.heap.size w w')
            (first | assumption | exact ⟨⟨hz3, ht3⟩, hB3.drew⟩ | (refine seq_keep2 hb0 hb1 ?_ hb4; assumption))
            (first | (go_at_call 11; refine (HNF.out _).mono ?_; rintro e w4 ⟨rfl, hb4⟩))
          have hB4 := (‹(w4.cell? ⟨b0, o0 + k, none⟩ = some (.int .i64 Z) ∧ w4.cell? ⟨b1, o1 + k, none⟩ = some (.string T)) ∧ Below w.heap.size w w4›).2
          go_wp2_with fail
          exact ⟨⟨k + 1, by omega, by go_num, by rw [HS1.out]; push_cast; rfl, hB4⟩, by simp [intOf]; omega⟩
        · obtain rfl : k = j := by omega
          rw [HSN.out]
          go_wp2_with fail
          refine (int_none SN SN.size _ hSm (Nat.le_refl _) (by rw [← list_size, List.drop_length]; rfl)).mono ?_
          rintro e w2 ⟨rfl, rfl⟩
          go_wp2_with fail
          go_ret
          exact ⟨rfl, hB⟩
end Go.Proofs.YtdbjnojalfkaaaaDoor
