/- WALKS: the reference's read. -/
import Derived.Test.YtmjcjgmmolmibaaDoorR5
set_option linter.unusedVariables false
set_option linter.unusedSimpArgs false
namespace Go.Proofs.YtmjcjgmmolmibaaDoor
open Go.RowKit

def rdStep (n : Int) (c : UInt8) : Int := 10 * n + c.toNat - 48
def rdNeg (L : List UInt8) : Bool := L.head? == some 45
def rdAcc (L : List UInt8) (m : Nat) : Int := ((L.take m).drop (if rdNeg L then 1 else 0)).foldl rdStep 0
def rdSign (L : List UInt8) (m : Nat) : Int := if rdNeg L ∧ 0 < m then -1 else 1
/-- What read returns. -/
def readV (L : List UInt8) : Int := rdSign L (min L.length 11) * rdAcc L (min L.length 11)

theorem rdAcc_zero (L : List UInt8) : rdAcc L 0 = 0 := by simp [rdAcc]
theorem rdAcc_neg {L : List UInt8} (h : rdNeg L = true) : rdAcc L 1 = 0 := by
  unfold rdAcc
  rw [h]
  cases L with
  | nil => rfl
  | cons c r => simp
theorem rdAcc_step {L : List UInt8} {m : Nat} {c : UInt8} (hc : L[m]? = some c) (h : m ≠ 0 ∨ rdNeg L = false) : rdAcc L (m + 1) = rdStep (rdAcc L m) c := by
  obtain ⟨hm, he⟩ := List.getElem?_eq_some_iff.1 hc
  unfold rdAcc
  rw [List.take_add_one, hc]
  have hd : (if rdNeg L then 1 else 0) ≤ (L.take m).length := by
    rw [List.length_take]
    split
    · rename_i hn
      rcases h with h | h
      · omega
      · rw [hn] at h; cases h
    · omega
  rw [List.drop_append_of_le_length hd]
  simp
theorem fold_le (l : List UInt8) : ∀ (n : Int) (k : Nat), -(30 * (((10 ^ k : Nat) : Int) - 1)) ≤ n → n ≤ 30 * (((10 ^ k : Nat) : Int) - 1) →
    -(30 * (((10 ^ (k + l.length) : Nat) : Int) - 1)) ≤ l.foldl rdStep n ∧ l.foldl rdStep n ≤ 30 * (((10 ^ (k + l.length) : Nat) : Int) - 1) := by
  induction l with
  | nil => intro n k h1 h2; exact ⟨h1, h2⟩
  | cons c l ih =>
    intro n k h1 h2
    have hc := c.toNat_lt
    have hp : 10 ^ (k + 1) = 10 * 10 ^ k := by rw [Nat.pow_succ]; omega
    have := ih (rdStep n c) (k + 1) (by rw [hp]; unfold rdStep; omega) (by rw [hp]; unfold rdStep; omega)
    rw [List.length_cons, List.foldl_cons, show k + (l.length + 1) = k + 1 + l.length by omega]
    exact this
theorem rdAcc_le (L : List UInt8) (m : Nat) (hm : m ≤ 11) : -3000000000000 ≤ rdAcc L m ∧ rdAcc L m ≤ 3000000000000 := by
  have h := fold_le ((L.take m).drop (if rdNeg L then 1 else 0)) 0 0 (by simp) (by simp)
  have hl : 0 + ((L.take m).drop (if rdNeg L then 1 else 0)).length ≤ 11 := by simp; omega
  have hp := Nat.pow_le_pow_right (n := 10) (by decide) hl
  unfold rdAcc
  generalize 10 ^ (0 + ((L.take m).drop (if rdNeg L then 1 else 0)).length) = X at h hp
  omega
theorem fold_dec (u : Nat) : (Lib.decDigits u).foldl rdStep 0 = u := by
  induction u using Nat.strongRecOn with
  | _ u ih =>
    rw [Lib.decDigits]
    by_cases h : u < 10
    · rw [dif_pos h]
      simp [rdStep]
      omega
    · rw [dif_neg h, List.foldl_append, ih (u / 10) (by omega)]
      simp [rdStep]
      omega
theorem readV_itoa {z : Int} (h : -1000000000 ≤ z ∧ z ≤ 1000000000) : readV (Lib.itoa z) = z := by
  have hl := itoa_len h
  unfold readV
  rw [Nat.min_eq_left hl]
  unfold rdAcc rdSign
  rw [List.take_length]
  unfold Lib.itoa at *
  by_cases hz : z < 0
  · rw [if_pos hz]
    have hn : rdNeg (45 :: Lib.decDigits z.natAbs) = true := by simp [rdNeg]
    rw [hn]
    simp [fold_dec]
    omega
  · rw [if_neg hz]
    have hn : rdNeg (Lib.decDigits z.toNat) = false := by
      cases hd : Lib.decDigits z.toNat with
      | nil => rfl
      | cons c r =>
        have hg := decDigits_digit z.toNat c (by rw [hd]; exact List.mem_cons_self)
        unfold rdNeg
        simp
        intro e
        subst e
        simp at hg
    rw [hn]
    simp [fold_dec]
    omega
theorem rdNeg_t {L : List UInt8} {c : UInt8} (h : L[0]? = some c) (hc : ((c.toNat : Int) == 45) = true) : rdNeg L = true := by
  have e : c = 45 := by
    apply UInt8.toNat_inj.1
    have : (c.toNat : Int) = 45 := by simpa using hc
    simp; omega
  subst e
  unfold rdNeg
  rw [List.head?_eq_getElem?, h]
  rfl
theorem rdNeg_f {L : List UInt8} {c : UInt8} (h : L[0]? = some c) (hc : ((c.toNat : Int) == 45) = false) : rdNeg L = false := by
  unfold rdNeg
  rw [List.head?_eq_getElem?, h]
  simp
  intro e
  subst e
  simp at hc
theorem rdSign_pm (L : List UInt8) (m : Nat) : rdSign L m = 1 ∨ rdSign L m = -1 := by
  unfold rdSign; split <;> simp
theorem rdSign_le (L : List UInt8) (m : Nat) : -1 ≤ rdSign L m ∧ rdSign L m ≤ 1 := by
  rcases rdSign_pm L m with h | h <;> rw [h] <;> decide
theorem rdSign_next {L : List UInt8} {m : Nat} (h : m ≠ 0 ∨ rdNeg L = false) : rdSign L (m + 1) = rdSign L m := by
  unfold rdSign
  rcases h with h | h
  · have : 0 < m := by omega
    simp [this]
  · simp [h]
theorem rdSign_zero (L : List UInt8) : rdSign L 0 = 1 := by simp [rdSign]
theorem rdSign_one {L : List UInt8} (h : rdNeg L = true) : rdSign L 1 = -1 := by simp [rdSign, h]

set_option maxRecDepth 100000 in
set_option maxHeartbeats 2000000 in
theorem rread_any (s : ByteArray) (hs : s.size ≤ 1000) (W : World) : Calls Tryd.prog 33 #[.string s] W fun e w' => e = .returned (.int .i64 (readV s.data.toList)) ∧ W = w' := by
  have Hsl : Hid (s.data.toList.length = s.size) := Lib.hid (by rw [Array.length_toList]; rfl)
  have HRv : Hid (∀ m, m = min s.size 11 → readV s.data.toList = rdSign s.data.toList m * rdAcc s.data.toList m) := Lib.hid (fun m hm => by unfold readV; rw [Hsl.out, hm])
  have hs64 : s.size < 9223372036854775807 := by omega
  clear hs
  go_enter Tryd.func33, Tryd.ntmps33
  go_wp2_with fail
  go_loopw [3, 4, 5] (fun n g i wr => ∃ m : Nat, m ≤ s.size ∧ m ≤ 11 ∧ n = .int .i64 (rdAcc s.data.toList m) ∧ g = .int .i64 (rdSign s.data.toList m) ∧ i = .int .i64 m ∧ W = wr) (fun _ _ i _ => 11 - (intOf i).toNat)
  case atStart => exact ⟨0, Nat.zero_le _, Nat.zero_le _, by rw [rdAcc_zero], by rw [rdSign_zero], rfl, rfl⟩
  case round =>
    obtain ⟨m, hms, hm11, rfl, rfl, rfl, rfl⟩ := hrel
    have hA := rdAcc_le s.data.toList m hm11
    have hG := rdSign_pm s.data.toList m
    have HSn : Hid (∀ c, s.data.toList[m]? = some c → (m ≠ 0 ∨ rdNeg s.data.toList = false) → rdAcc s.data.toList (m + 1) = rdStep (rdAcc s.data.toList m) c ∧ rdSign s.data.toList (m + 1) = rdSign s.data.toList m) := Lib.hid (fun c hc h => ⟨rdAcc_step hc h, rdSign_next h⟩)
    have HMs := Lib.hid hms
    have HM11 := Lib.hid hm11
    have HRm := Lib.hid (HRv.out m)
    obtain ⟨A, HA⟩ : ∃ A, Hid (rdAcc s.data.toList m = A) := ⟨_, Lib.hid rfl⟩
    obtain ⟨G, HG⟩ : ∃ G, Hid (rdSign s.data.toList m = G) := ⟨_, Lib.hid rfl⟩
    simp only [HA.out, HG.out] at hA hG HSn HRm
    rw [HA.out, HG.out]
    obtain ⟨ha1, ha2⟩ := hA
    by_cases hlt : m < s.size
    · have hd : decide (m < s.size) = true := decide_eq_true hlt
      have hby := byte_at s m hlt
      by_cases h11 : m < 11
      · have hd1 : decide ((m : Int) < 11) = true := decide_eq_true (by omega)
        have hc256 := s[m].toNat_lt
        have HBy := Lib.hid hby
        by_cases h0 : m = 0
        · subst h0
          cases h45 : ((s[0].toNat : Int) == 45) with
          | true =>
            have HN := Lib.hid (rdNeg_t hby h45)
            have HLt := Lib.hid hlt
            clear hms hm11 hby h11 hG
            go_wp2_with fail
            exact ⟨⟨1, HLt.out, by decide, by rw [← HA.out, rdAcc_zero, rdAcc_neg HN.out], by rw [rdSign_one HN.out], rfl, trivial⟩, by simp [intOf]⟩
          | false =>
            have HN := Lib.hid (rdNeg_f hby h45)
            have HLt := Lib.hid hlt
            clear hms hm11 hby h11 hG
            go_wp2_with fail
            obtain ⟨e1, e2⟩ := HSn.out _ HBy.out (.inr HN.out)
            exact ⟨⟨1, HLt.out, by decide, by rw [e1]; rfl, by rw [e2], rfl, trivial⟩, by simp [intOf]⟩
        · have hz : ((m : Int) == 0) = false := by simp; omega
          have H0 := Lib.hid h0
          have H11 := Lib.hid h11
          clear hms hm11 hby h11 hG h0
          go_wp2_with fail
          obtain ⟨e1, e2⟩ := HSn.out _ HBy.out (.inl H0.out)
          exact ⟨⟨m + 1, hlt, H11.out, by rw [e1]; rfl, by rw [e2], rfl, trivial⟩, by have := H11.out; simp only [intOf]; omega⟩
      · have hd1 : decide ((m : Int) < 11) = false := decide_eq_false (by omega)
        have HE := Lib.hid (HRm.out (by omega))
        clear hms hm11 hby h11 hlt
        rcases hG with rfl | rfl
        all_goals
          go_wp2_with fail
          go_ret
          exact ⟨by rw [HE.out]; simp, rfl⟩
    · have hd : decide (m < s.size) = false := decide_eq_false hlt
      have HE := Lib.hid (HRm.out (by omega))
      clear hms hm11 hlt
      rcases hG with rfl | rfl
      all_goals
        go_wp2_with fail
        go_ret
        exact ⟨by rw [HE.out]; simp, rfl⟩
end Go.Proofs.YtmjcjgmmolmibaaDoor
