/- WALKS: NumberFrom. -/
import Derived.Test.YtdbjnojalfkaaaaDoorA7
set_option linter.unusedVariables false
namespace Go.Proofs.YtdbjnojalfkaaaaDoor
open Go.RowKit

def nfTab : List Int := [64, 128, 8192, 16384, 1073741824, 36028797018963968, 576460752303423488, 2]
def nfAbs (c : Int) : Int := pk (pk c 4611686018427387904 / 8) (nfTab.getD (pk c 8).toNat 0)
def nf (c : Int) : Int := if 8 ≤ pk c 16 then -(nfAbs c) else nfAbs c

theorem pk_range {c n : Int} (hn : 1 ≤ n) : 0 ≤ pk c n ∧ pk c n < n := by
  unfold pk
  exact ⟨Int.emod_nonneg _ (by omega), Int.emod_lt_of_pos _ (by omega)⟩
theorem nfTab_range (j : Nat) (hj : j < 8) : 1 ≤ nfTab.getD j 0 ∧ nfTab.getD j 0 ≤ 576460752303423488 := by
  have : ∀ i : Fin 8, 1 ≤ nfTab.getD i.val 0 ∧ nfTab.getD i.val 0 ≤ 576460752303423488 := by decide
  exact this ⟨j, hj⟩
theorem nfAbs_range (c : Int) : 0 ≤ nfAbs c ∧ nfAbs c ≤ 576460752303423488 := by
  have h8 := pk_range (c := c) (n := 8) (by omega)
  have ht := nfTab_range (pk c 8).toNat (by omega)
  have := pk_range (c := pk c 4611686018427387904 / 8) ht.1
  unfold nfAbs
  omega
theorem nf_range (c : Int) : -576460752303423488 ≤ nf c ∧ nf c ≤ 576460752303423488 := by
  have := nfAbs_range c
  unfold nf
  split <;> omega

set_option maxRecDepth 100000 in
set_option maxHeartbeats 400000 in
theorem nf_any (c : Int) (w : World) (h1 : -9223372036854775808 ≤ c) (h2 : c ≤ 9223372036854775807) :
    Calls Tryd.prog 11 #[.int .i64 c] w fun e W' => e = .returned (.int .i64 (nf c)) ∧ Below w.heap.size w W' := by
  go_enter Tryd.func11, Tryd.ntmps11
  go_wp2_with fail
  have hp := pk_range (c := c) (n := 4611686018427387904) (by omega)
  refine (pick_any c _ _ h1 h2 (by omega) (by omega)).mono ?_
  rintro e w' ⟨rfl, rfl⟩
  obtain ⟨P, HP⟩ : ∃ P, Hid (pk c 4611686018427387904 = P) := ⟨_, Lib.hid rfl⟩
  rw [HP.out] at hp ⊢
  go_wp2_with fail
  have hj := pk_range (c := c) (n := 8) (by omega)
  refine (pick_any c _ _ h1 h2 (by omega) (by omega)).mono ?_
  rintro e w2 ⟨rfl, rfl⟩
  obtain ⟨j, HJ⟩ : ∃ j : Nat, Hid (pk c 8 = (j : Int)) := ⟨(pk c 8).toNat, Lib.hid (by omega)⟩
  rw [HJ.out] at hj ⊢
  have hj8 : j < 8 := by omega
  obtain ⟨T, HT⟩ : ∃ T, Hid (nfTab.getD j 0 = T) := ⟨_, Lib.hid rfl⟩
  have hT := nfTab_range j hj8
  rw [HT.out] at hT
  go_wp2_with fail
  generalize hV : ([Value.int .i64 64, Value.int .i64 128, Value.int .i64 8192, Value.int .i64 16384, Value.int .i64 1073741824, Value.int .i64 36028797018963968, Value.int .i64 576460752303423488, Value.int .i64 2] : List Value)[j] = V
  obtain rfl : V = .int .i64 T := by
    rw [← hV, ← HT.out]
    have hl : ([Value.int .i64 64, Value.int .i64 128, Value.int .i64 8192, Value.int .i64 16384, Value.int .i64 1073741824, Value.int .i64 36028797018963968, Value.int .i64 576460752303423488, Value.int .i64 2] : List Value) = nfTab.map (Value.int .i64) := rfl
    simp only [hl, List.getElem_map]
    rw [List.getD_eq_getElem?_getD, List.getElem?_eq_getElem (by simp [nfTab]; omega)]
    rfl
  clear hV
  refine (pick_any (P / 8) T _ (by omega) (by omega) (by omega) (by omega)).mono ?_
  rintro e w3 ⟨rfl, rfl⟩
  have hQ := pk_range (c := P / 8) (n := T) (by omega)
  obtain ⟨Q, HQ⟩ : ∃ Q, Hid (pk (P / 8) T = Q) := ⟨_, Lib.hid rfl⟩
  rw [HQ.out] at hQ ⊢
  have HA : Hid (nfAbs c = Q) := Lib.hid (by unfold nfAbs; rw [HP.out, HJ.out, Int.toNat_natCast, HT.out, HQ.out])
  go_wp2_with fail
  refine (pick_any c _ _ h1 h2 (by omega) (by omega)).mono ?_
  rintro e w4 ⟨rfl, rfl⟩
  by_cases h16 : 8 ≤ pk c 16
  · have HF : Hid (nf c = -Q) := Lib.hid (by unfold nf; rw [if_pos h16, HA.out])
    obtain ⟨R, HR⟩ : ∃ R, Hid (pk c 16 = R) := ⟨_, Lib.hid rfl⟩
    rw [HR.out] at h16 ⊢
    go_wp2_with fail
    go_ret
    exact ⟨by rw [HF.out]; rfl, (Below.refl _ _).alloc (Nat.le_refl _) _⟩
  · have HF : Hid (nf c = Q) := Lib.hid (by unfold nf; rw [if_neg h16, HA.out])
    obtain ⟨R, HR⟩ : ∃ R, Hid (pk c 16 = R) := ⟨_, Lib.hid rfl⟩
    rw [HR.out] at h16 ⊢
    go_wp2_with fail
    go_ret
    exact ⟨by rw [HF.out]; rfl, (Below.refl _ _).alloc (Nat.le_refl _) _⟩
end Go.Proofs.YtdbjnojalfkaaaaDoor
