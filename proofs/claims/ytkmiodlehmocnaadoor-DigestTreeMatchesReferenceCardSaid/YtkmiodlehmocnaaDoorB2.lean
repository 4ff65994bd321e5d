/- How long an extension is; the extension of any beginning. -/
import Derived.Test.YtkmiodlehmocnaaDoorB0
set_option linter.unusedVariables false
namespace Go.Proofs.YtkmiodlehmocnaaDoor
open Go.RowKit

theorem binN_le {k j : Nat} (h : k < 2 ^ j) : binN k ≤ j := by
  unfold binN
  by_cases h0 : k = 0
  · rw [if_pos h0]; omega
  · rw [if_neg h0]
    have := (Nat.log2_lt h0).2 h
    omega
theorem spl_half {n : Nat} (h : 2 ≤ n) : n ≤ 2 * spl n := by
  unfold spl
  have h2 : n - 1 < 2 ^ ((n - 1).log2 + 1) := Nat.lt_log2_self
  rw [Nat.pow_succ] at h2
  omega
theorem beg_size (l : List ByteArray) : ∀ (m : Nat) (b : Bool), 1 ≤ m → m ≤ l.length → (dg.beg l m b).length ≤ binN (l.length - 1) + 1 := by
  induction h : l.length using Nat.strongRecOn generalizing l with
  | ind n ih =>
    subst h
    intro m b h1 hm
    by_cases he : m = l.length
    · rw [Dig.beg_all _ he]; cases b <;> simp
    · have hn : 2 ≤ l.length := by omega
      have hlt := spl_lt hn
      have hp := spl_pos l.length
      have hhalf := spl_half hn
      have hb : binN (l.length - 1) = (l.length - 1).log2 + 1 := by unfold binN; rw [if_neg (by omega)]
      have hs : spl l.length = 2 ^ (l.length - 1).log2 := rfl
      by_cases hk : m ≤ spl l.length
      · rw [Dig.beg_le _ b (by omega) hn hk, List.length_append]
        have h3 := ih _ (by simp; omega) (l.take (spl l.length)) rfl m b h1 (by simp; omega)
        have h4 : (l.take (spl l.length)).length = spl l.length := by simp; omega
        rw [h4] at h3
        have h5 : binN (spl l.length - 1) ≤ (l.length - 1).log2 := binN_le (by rw [← hs]; omega)
        simp; omega
      · rw [Dig.beg_gt _ b (by omega) hn (by omega), List.length_append]
        have h3 := ih _ (by simp; omega) (l.drop (spl l.length)) rfl (m - spl l.length) false (by omega) (by simp; omega)
        have h4 : (l.drop (spl l.length)).length = l.length - spl l.length := by simp
        rw [h4] at h3
        have h5 : binN (l.length - spl l.length - 1) ≤ (l.length - 1).log2 := binN_le (by rw [← hs]; omega)
        simp; omega
theorem ext_size (l : List ByteArray) (m : Nat) (hm : m ≤ l.length) : (extL l m).length ≤ 2 * binN l.length := by
  unfold extL
  by_cases h0 : m = 0
  · rw [if_pos h0]; simp
  · rw [if_neg h0]
    have h1 := beg_size l m true (by omega) hm
    have h2 : binN (l.length - 1) ≤ binN l.length := by
      by_cases h1 : l.length = 1
      · rw [h1]; decide
      · unfold binN
        rw [if_neg (by omega), if_neg (by omega)]
        have h3 := Nat.log2_self_le (n := l.length - 1) (by omega)
        have : ¬ l.length.log2 < (l.length - 1).log2 := by
          rw [Nat.log2_lt (by omega)]; omega
        omega
    have h3 : 1 ≤ binN l.length := by unfold binN; rw [if_neg (by omega)]; omega
    omega
theorem ext_areD (l : List ByteArray) (m : Nat) : areD (extL l m) = true := by
  unfold extL
  by_cases h0 : m = 0
  · rw [if_pos h0]; rfl
  · rw [if_neg h0]; exact dg.beg_areD _ _ _
theorem ext_any (L : List ByteArray) (v : Value) (m : Nat) (w : World) (hL : L.length ≤ 1000000) (hm : m ≤ L.length) (hS : Strs w v L) (hsh : Short L) (hT : Tab w) :
    Calls Tryd.prog 22 #[v, .int .i64 m] w fun e w' => ∃ v', e = .returned (.tuple #[v', .int .i64 0]) ∧ Strs w' v' (extL L m) ∧ Below w.heap.size w w' := by
  by_cases h0 : m = 0
  · subst h0
    refine (ext_zero L v w hS).mono ?_
    rintro e w' ⟨rfl, rfl⟩
    exact ⟨_, rfl, Strs.nil _, Below.refl _ _⟩
  · refine (ext_c L v m w hL (by omega) hm hS hsh hT).mono ?_
    rintro e w' ⟨v', rfl, ho, hb⟩
    refine ⟨v', rfl, ?_, hb⟩
    unfold extL
    rw [if_neg h0]
    exact ho.strs
theorem ext_refuse (old : ByteArray) (m : Int) (root : ByteArray) (n : Int) (P : List ByteArray) (h : m < 0 ∨ n < m) : dg.verifyExt old m root n P = false := by
  unfold Dig.verifyExt
  rw [if_pos (by omega)]
end Go.Proofs.YtkmiodlehmocnaaDoor
