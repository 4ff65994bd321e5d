/- MERGED: M1, WA1, WA2, WA3, WA4, WA9. -/
import Derived.Test.YtpapfegbodolgaaDoorProg
import Derived.WalkKit
import Derived.WalkSpells
import Derived.WalkLawsBesides
import Derived.Shelf.LaysM
import Derived.Shelf.Strconv.Clone
import Derived.Deep.QuietTactic
import Derived.BigQuiet
import Derived.Lib.Hide
import Derived.Lib.Strings
import Derived.Lib.IndexBytes
import Derived.Deep.LoopGhost
import Derived.RangeFuncNested
import Derived.RangeFuncBound
import Derived.RangeFuncCalls
import Derived.RangeFuncLeaves
import Derived.Shelf.Abstract
import Derived.Shelf.RegionOpen
import Derived.RangeFuncBox
import Derived.OwnWalkIn
import Derived.TacticsInMore
import Derived.LoopNIn
import Derived.LoopIn
import Derived.Maps.AppendAt
import Derived.Laws.BytesArg
section
namespace Go.Proofs.YtpapfegbodolgaaDoor

def zig (n : Int) : Int := if n < 0 then -2 * n - 1 else 2 * n
def zag (z : Int) : Int := if z % 2 = 1 then -(z / 2) - 1 else z / 2

theorem zag_zig (n : Int) : zag (zig n) = n := by unfold zag zig; split <;> split <;> omega
theorem zig_zag (z : Int) (h : 0 ≤ z) : zig (zag z) = z := by unfold zag zig; split <;> split <;> omega
theorem zig_nonneg (n : Int) : 0 ≤ zig n := by unfold zig; split <;> omega
theorem zig_le (n : Int) (h1 : -4611686018427387903 ≤ n) (h2 : n ≤ 4611686018427387903) : zig n ≤ 9223372036854775806 := by unfold zig; split <;> omega
theorem zag_lo (z : Int) (h : 0 ≤ z) (h2 : z ≤ 9223372036854775806) : -4611686018427387903 ≤ zag z ∧ zag z ≤ 4611686018427387903 := by unfold zag; split <;> omega

/-- The groups of 7 bits, the least first; 128 is added to all but the last. -/
def leb : Nat → Nat → List UInt8
  | 0, _ => []
  | f + 1, z => if z < 128 then [UInt8.ofNat z] else UInt8.ofNat (z % 128 + 128) :: leb f (z / 128)

/-- The decoder: fuel, what is left, how many groups have come, what they make. -/
def dec : Nat → List UInt8 → Nat → Nat → Option (Nat × Nat)
  | 0, _, _, _ => none
  | _ + 1, [], _, _ => none
  | f + 1, b :: r, i, z =>
    if 128 ≤ b.toNat then dec f r (i + 1) (z + b.toNat % 128 * 2 ^ (7 * i))
    else if (b.toNat = 0 ∧ 0 < i) ∨ 9223372036854775806 < z + b.toNat % 128 * 2 ^ (7 * i) then none
    else some (z + b.toNat % 128 * 2 ^ (7 * i), i + 1)

theorem leb_short {f x : Nat} (h : x < 128) : leb (f + 1) x = [UInt8.ofNat x] := by simp [leb, h]
theorem leb_long {f x : Nat} (h : 128 ≤ x) : leb (f + 1) x = UInt8.ofNat (x % 128 + 128) :: leb f (x / 128) := by simp [leb, show ¬ x < 128 by omega]

theorem pow_step (i : Nat) : 2 ^ (7 * (i + 1)) = 128 * 2 ^ (7 * i) := by
  rw [show 7 * (i + 1) = 7 * i + 7 from by omega, Nat.pow_add]; omega

theorem dec_leb (f : Nat) : ∀ (x i z : Nat) (r : List UInt8), x < 128 ^ f → 1 ≤ f → (x ≠ 0 ∨ i = 0) → z + x * 2 ^ (7 * i) ≤ 9223372036854775806 →
    dec f (leb f x ++ r) i z = some (z + x * 2 ^ (7 * i), i + (leb f x).length) := by
  induction f with
  | zero => intro x i z r _ h; omega
  | succ f ih =>
    intro x i z r hx _ hne hle
    by_cases h : x < 128
    · rw [leb_short h]
      have e : (UInt8.ofNat x).toNat = x := by simp; omega
      have e2 : x % 128 = x := Nat.mod_eq_of_lt h
      simp only [List.cons_append, List.nil_append, dec, e, e2]
      rw [if_neg (by omega), if_neg (by omega)]
      simp
    · rw [leb_long (by omega)]
      have e : (UInt8.ofNat (x % 128 + 128)).toNat = x % 128 + 128 := by simp; omega
      have e2 : (x % 128 + 128) % 128 = x % 128 := by omega
      have hf : 1 ≤ f := by
        rcases f with _ | f
        · simp at hx; omega
        · omega
      have hs : z + x % 128 * 2 ^ (7 * i) + x / 128 * 2 ^ (7 * (i + 1)) = z + x * 2 ^ (7 * i) := by
        rw [pow_step, Nat.add_assoc, ← Nat.mul_assoc, ← Nat.add_mul]
        congr 2; omega
      simp only [List.cons_append, dec, e, e2]
      rw [if_pos (by omega), ih (x / 128) (i + 1) _ r (by rw [Nat.pow_succ] at hx; omega) hf (by omega) (by omega), hs]
      simp; omega

theorem dec_sound (f : Nat) : ∀ (l : List UInt8) (i z y m : Nat), dec f l i z = some (y, m) →
    ∃ x, y = z + x * 2 ^ (7 * i) ∧ m = i + (leb f x).length ∧ leb f x = l.take (leb f x).length ∧ (x ≠ 0 ∨ i = 0) ∧ (leb f x).length ≤ l.length ∧ 1 ≤ (leb f x).length ∧ y ≤ 9223372036854775806 := by
  induction f with
  | zero => intro l i z y m h; simp [dec] at h
  | succ f ih =>
    intro l i z y m h
    cases l with
    | nil => simp [dec] at h
    | cons b r =>
      simp only [dec] at h
      have hb := b.toNat_lt
      by_cases h1 : 128 ≤ b.toNat
      · rw [if_pos h1] at h
        obtain ⟨x, e1, e2, e3, e4, e5, e6, e7⟩ := ih _ _ _ _ _ h
        have hx : x ≠ 0 := by rcases e4 with h | h <;> omega
        have hl : leb (f + 1) (b.toNat - 128 + 128 * x) = b :: leb f x := by
          rw [leb_long (by omega)]
          have : (b.toNat - 128 + 128 * x) / 128 = x := by omega
          rw [this]
          have h2 : (b.toNat - 128 + 128 * x) % 128 + 128 = b.toNat := by omega
          rw [h2]; simp
        refine ⟨b.toNat - 128 + 128 * x, ?_, ?_, ?_, ?_, ?_, ?_, e7⟩
        · rw [e1, pow_step]
          rw [show b.toNat % 128 = b.toNat - 128 by omega, Nat.add_assoc, ← Nat.mul_assoc, ← Nat.add_mul, Nat.mul_comm x 128]
        · rw [hl, e2]; simp; omega
        · rw [hl]; simp; exact e3
        · omega
        · rw [hl]; simp; exact e5
        · rw [hl]; simp
      · rw [if_neg h1] at h
        by_cases h2 : (b.toNat = 0 ∧ 0 < i) ∨ 9223372036854775806 < z + b.toNat % 128 * 2 ^ (7 * i)
        · rw [if_pos h2] at h; simp at h
        · rw [if_neg h2] at h
          have hl : leb (f + 1) b.toNat = [b] := by rw [leb_short (by omega)]; simp
          have hm : b.toNat % 128 = b.toNat := by omega
          simp only [Option.some.injEq, Prod.mk.injEq] at h
          refine ⟨b.toNat, ?_, ?_, ?_, ?_, ?_, ?_, ?_⟩
          · rw [← h.1, hm]
          · rw [hl, ← h.2]; rfl
          · rw [hl]; simp
          · omega
          · rw [hl]; simp
          · rw [hl]; simp
          · omega

theorem leb_pos (f x : Nat) : 1 ≤ (leb (f + 1) x).length := by
  by_cases h : x < 128
  · rw [leb_short h]; simp
  · rw [leb_long (by omega)]; simp

theorem leb_len (f : Nat) : ∀ x, (leb f x).length ≤ f := by
  induction f with
  | zero => intro x; simp [leb]
  | succ f ih =>
    intro x
    by_cases h : x < 128
    · rw [leb_short h]; simp
    · rw [leb_long (by omega)]; simp; exact ih _

/-! ### The encoding of an integer -/
def encInt (n : Int) : List UInt8 := leb 9 (zig n).toNat
def decInt (l : List UInt8) : Option (Int × Nat) := (dec 9 l 0 0).map fun p => (zag p.1, p.2)

theorem encInt_pos (n : Int) : 1 ≤ (encInt n).length := leb_pos _ _
theorem encInt_len (n : Int) : (encInt n).length ≤ 9 := leb_len _ _

theorem decInt_enc (n : Int) (r : List UInt8) (h1 : -4611686018427387903 ≤ n) (h2 : n ≤ 4611686018427387903) : decInt (encInt n ++ r) = some (n, (encInt n).length) := by
  have hz := zig_le n h1 h2
  have h0 := zig_nonneg n
  have e : ((zig n).toNat : Int) = zig n := Int.toNat_of_nonneg h0
  unfold decInt encInt
  rw [dec_leb 9 (zig n).toNat 0 0 r (by omega) (by omega) (.inr rfl) (by simp; omega)]
  simp [e, zag_zig]

theorem decInt_sound {l : List UInt8} {n : Int} {m : Nat} (h : decInt l = some (n, m)) :
    m = (encInt n).length ∧ encInt n = l.take m ∧ m ≤ l.length ∧ 1 ≤ m ∧ -4611686018427387903 ≤ n ∧ n ≤ 4611686018427387903 := by
  unfold decInt at h
  cases hd : dec 9 l 0 0 with
  | none => rw [hd] at h; simp at h
  | some p =>
    obtain ⟨y, k⟩ := p
    rw [hd] at h
    simp only [Option.map_some, Option.some.injEq, Prod.mk.injEq] at h
    obtain ⟨x, e1, e2, e3, _, e5, e6, e7⟩ := dec_sound 9 l 0 0 y k hd
    simp at e1 e2
    obtain ⟨hn, rfl⟩ := h
    subst e1
    have hzz : (zig n).toNat = y := by rw [← hn, zig_zag _ (by omega)]; omega
    have hb := zag_lo y (by omega) (by omega)
    unfold encInt
    rw [hzz]
    exact ⟨e2, by rw [e2]; exact e3, by omega, by omega, by omega, by omega⟩

/-- Two encodings one of which begins with the other are of one integer. -/
theorem encInt_prefix {a b : Int} (ha1 : -4611686018427387903 ≤ a) (ha2 : a ≤ 4611686018427387903) (hb1 : -4611686018427387903 ≤ b) (hb2 : b ≤ 4611686018427387903)
    (h : (encInt b).take (encInt a).length = encInt a) : a = b := by
  have h1 := decInt_enc a ((encInt b).drop (encInt a).length) ha1 ha2
  have h2 := decInt_enc b [] hb1 hb2
  have e : encInt a ++ (encInt b).drop (encInt a).length = encInt b := by
    conv => lhs; lhs; rw [← h]
    exact List.take_append_drop _ _
  rw [e] at h1
  rw [List.append_nil] at h2
  rw [h1] at h2
  simp at h2
  exact h2.1

/-- No proper prefix of an encoding is accepted. -/
theorem decInt_prefix {n : Int} (h1 : -4611686018427387903 ≤ n) (h2 : n ≤ 4611686018427387903) (k : Nat) (hk : k < (encInt n).length) : decInt ((encInt n).take k) = none := by
  cases hd : decInt ((encInt n).take k) with
  | none => rfl
  | some p =>
    obtain ⟨m, j⟩ := p
    exfalso
    obtain ⟨e1, e2, e3, e4, e5, e6⟩ := decInt_sound hd
    have hj : j ≤ k := by rw [List.length_take] at e3; omega
    have : (encInt n).take (encInt m).length = encInt m := by
      rw [← e1, e2, List.take_take]
      rw [Nat.min_eq_left hj]
    have := encInt_prefix e5 e6 h1 h2 this
    subst this
    omega
end Go.Proofs.YtpapfegbodolgaaDoor
end

section
set_option linter.unusedVariables false
set_option linter.unusedSimpArgs false
namespace Go.Proofs.YtpapfegbodolgaaDoor
open Go.RowKit

theorem ret_int {k : IntKind} {a b : Int} (h : a = b) : Ending.returned (.int k a) = .returned (.int k b) := by rw [h]

set_option maxHeartbeats 400000 in
theorem unsigned_any (n : Int) (w : World) (h1 : -4611686018427387903 ≤ n) (h2 : n ≤ 4611686018427387903) :
    Calls Tryd.prog 80 #[.int .i64 n] w fun e w' => e = .returned (.int .u64 (zig n)) ∧ w' = w := by
  by_cases h : n < 0
  · have hz : zig n = -2 * n - 1 := by simp [zig, h]
    rw [hz]
    go_enter Tryd.func80, Tryd.ntmps80
    go_wp2
    go_ret
    exact ⟨rfl, rfl⟩
  · have hz : zig n = 2 * n := by simp [zig, h]
    rw [hz]
    go_enter Tryd.func80, Tryd.ntmps80
    go_wp2
    go_ret
    exact ⟨rfl, rfl⟩

set_option maxHeartbeats 400000 in
theorem signed_any (z : Int) (w : World) (h1 : 0 ≤ z) (h2 : z ≤ 9223372036854775807) :
    Calls Tryd.prog 56 #[.int .u64 z] w fun e w' => e = .returned (.int .i64 (zag z)) ∧ w' = w := by
  by_cases h : z % 2 = 1
  · have hz : zag z = -(z / 2) - 1 := by simp [zag, h]
    have hb : (z % 2 == 1) = true := by simp [h]
    rw [hz]
    clear h
    go_enter Tryd.func56, Tryd.ntmps56
    go_wp2
    go_ret
    exact ⟨ret_int (by omega), rfl⟩
  · have hz : zag z = z / 2 := by simp [zag, h]
    have hb : (z % 2 == 1) = false := by simp [h]
    rw [hz]
    clear h
    go_enter Tryd.func56, Tryd.ntmps56
    go_wp2
    go_ret
    exact ⟨ret_int (by omega), rfl⟩

end Go.Proofs.YtpapfegbodolgaaDoor
end

section
set_option linter.unusedSimpArgs false
set_option linter.unusedVariables false
namespace Go.Proofs.YtpapfegbodolgaaDoor
open Go.RowKit

set_option maxRecDepth 100000 in
set_option maxHeartbeats 400000 in
theorem int_lo (s : ByteArray) (k : Int) (w : World) (hs : s.size ≤ maxLen) (hk : k < 0) (hk2 : -9223372036854775808 ≤ k) :
    Calls Tryd.prog 35 #[.string s, .int .i64 k] w fun e w' => e = .returned (.tuple #[.int .i64 0, .int .i64 0, .int .i64 2]) ∧ w' = w := by
  unfold maxLen at hs
  go_enter Tryd.func35, Tryd.ntmps35
  go_wp2
  go_ret3
  exact ⟨rfl, rfl⟩
set_option maxRecDepth 100000 in
set_option maxHeartbeats 400000 in
theorem int_hi (s : ByteArray) (k : Int) (w : World) (hs : s.size ≤ maxLen) (hk : s.size < k) (hk2 : k ≤ 9223372036854775807) :
    Calls Tryd.prog 35 #[.string s, .int .i64 k] w fun e w' => e = .returned (.tuple #[.int .i64 0, .int .i64 0, .int .i64 2]) ∧ w' = w := by
  unfold maxLen at hs
  go_enter Tryd.func35, Tryd.ntmps35
  go_wp2
  go_ret3
  exact ⟨rfl, rfl⟩

theorem pow7 {j : Nat} (h : j < 9) : 2 ^ (7 * j) * 128 ≤ 2 ^ 63 := by
  have : 2 ^ (7 * j) * 2 ^ 7 = 2 ^ (7 * j + 7) := (Nat.pow_add 2 _ _).symm
  have h2 : 2 ^ (7 * j + 7) ≤ 2 ^ 63 := Nat.pow_le_pow_right (by omega) (by omega)
  omega
theorem group_lt {zz j b : Nat} (h : zz < 2 ^ (7 * j)) : zz + b % 128 * 2 ^ (7 * j) < 2 ^ (7 * (j + 1)) := by
  rw [pow_step]
  have h1 : b % 128 * 2 ^ (7 * j) ≤ 127 * 2 ^ (7 * j) := Nat.mul_le_mul_right _ (by omega)
  omega
theorem group_lt63 {zz j b : Nat} (h : zz < 2 ^ (7 * j)) (hj : j < 9) : zz + b % 128 * 2 ^ (7 * j) < 9223372036854775808 := by
  have h1 := group_lt (b := b) h
  have h2 := pow7 hj
  rw [pow_step] at h1
  have : (2 : Nat) ^ 63 = 9223372036854775808 := by decide
  omega
theorem and_group {b : Nat} (hb : b < 256) : bits .and .u8 (b : Int) 127 = ((b % 128 : Nat) : Int) := by
  have := u8_and_nat b 127 hb (by decide)
  rw [show ((127 : Nat) : Int) = 127 from rfl] at this
  rw [this, show (127 : Nat) = 2 ^ 7 - 1 from rfl, Nat.and_two_pow_sub_one_eq_mod]
theorem or_group {zz j b : Nat} (h : zz < 2 ^ (7 * j)) (hj : j < 9) (hb : b < 256) :
    bits .or .u64 (zz : Int) (IntKind.u64.wrap (IntKind.u64.wrap (bits .and .u8 (b : Int) 127) * 2 ^ (7 * j))) = ((zz + b % 128 * 2 ^ (7 * j) : Nat) : Int) := by
  have h1 := group_lt63 (b := b) h hj
  have e1 : IntKind.u64.wrap (bits .and .u8 (b : Int) 127) = ((b % 128 : Nat) : Int) := by
    rw [and_group hb, IntKind.wrap_u64]; omega
  have e2 : ((b % 128 : Nat) : Int) * 2 ^ (7 * j) = ((b % 128 * 2 ^ (7 * j) : Nat) : Int) := by push_cast; rfl
  have e3 : IntKind.u64.wrap ((b % 128 * 2 ^ (7 * j) : Nat) : Int) = ((b % 128 * 2 ^ (7 * j) : Nat) : Int) := by
    rw [IntKind.wrap_u64]; omega
  rw [e1, e2, e3, bits_or_u64_nat _ _ (by omega) (by omega)]
  congr 1
  rw [Nat.or_comm, Nat.mul_comm, ← Nat.two_pow_add_eq_or_of_lt h]
  omega

/-- What Int hands back, by what the decoder gives at its offset. -/
def intOut (o : Option (Nat × Nat)) (k : Nat) : Value :=
  match o with
  | none => .tuple #[.int .i64 0, .int .i64 0, .int .i64 10]
  | some (z, m) => .tuple #[.int .i64 (zag z), .int .i64 ((k + m : Nat) : Int), .int .i64 0]

theorem dec_round_more {f j zz : Nat} {L : List UInt8} {b : UInt8} (hb : L[j]? = some b) (h : 128 ≤ b.toNat) (hf : 0 < f) :
    dec f (L.drop j) j zz = dec (f - 1) (L.drop (j + 1)) (j + 1) (zz + b.toNat % 128 * 2 ^ (7 * j)) := by
  obtain ⟨hj, rfl⟩ := List.getElem?_eq_some_iff.1 hb
  obtain ⟨f, rfl⟩ : ∃ g, f = g + 1 := ⟨f - 1, by omega⟩
  rw [List.drop_eq_getElem_cons hj]
  simp only [dec]
  rw [if_pos h]
  rfl
theorem dec_round_bad {f j zz : Nat} {L : List UInt8} {b : UInt8} (hb : L[j]? = some b) (h : b.toNat < 128) (hf : 0 < f)
    (hc : (b.toNat = 0 ∧ 0 < j) ∨ 9223372036854775806 < zz + b.toNat % 128 * 2 ^ (7 * j)) : dec f (L.drop j) j zz = none := by
  obtain ⟨hj, rfl⟩ := List.getElem?_eq_some_iff.1 hb
  obtain ⟨f, rfl⟩ : ∃ g, f = g + 1 := ⟨f - 1, by omega⟩
  rw [List.drop_eq_getElem_cons hj]
  simp only [dec]
  rw [if_neg (by omega), if_pos hc]
theorem dec_round_good {f j zz : Nat} {L : List UInt8} {b : UInt8} (hb : L[j]? = some b) (h : b.toNat < 128) (hf : 0 < f)
    (hc : ¬ ((b.toNat = 0 ∧ 0 < j) ∨ 9223372036854775806 < zz + b.toNat % 128 * 2 ^ (7 * j))) : dec f (L.drop j) j zz = some (zz + b.toNat % 128 * 2 ^ (7 * j), j + 1) := by
  obtain ⟨hj, rfl⟩ := List.getElem?_eq_some_iff.1 hb
  obtain ⟨f, rfl⟩ : ∃ g, f = g + 1 := ⟨f - 1, by omega⟩
  rw [List.drop_eq_getElem_cons hj]
  simp only [dec]
  rw [if_neg (by omega), if_neg hc]
theorem dec_round_end {f j zz : Nat} {L : List UInt8} (h : L.length ≤ j ∨ f = 0) : dec f (L.drop j) j zz = none := by
  cases f with
  | zero => rfl
  | succ f => rw [List.drop_eq_nil_of_le (by omega)]; rfl

set_option maxRecDepth 100000 in
set_option maxHeartbeats 400000 in
theorem int_any (s : ByteArray) (k : Nat) (w : World) (hs : s.size ≤ maxLen) (hk : k ≤ s.size) :
    Calls Tryd.prog 35 #[.string s, .int .i64 k] w fun e w' => e = .returned (intOut (dec 9 (s.data.toList.drop k) 0 0) k) ∧ w' = w := by
  unfold maxLen at hs
  have hd1 : decide ((k : Int) < 0) = false := by simp
  have hd2 : decide (s.size < k) = false := by simp; omega
  go_enter Tryd.func35, Tryd.ntmps35
  go_wp2
  clear hd1 hd2
  obtain ⟨t, Ht⟩ : ∃ t, Hid (s.extract k s.size = t) := ⟨_, Lib.hid rfl⟩
  rw [Ht.out]
  obtain ⟨n, Hn⟩ : ∃ n, Hid (s.size - k = n) := ⟨_, Lib.hid rfl⟩
  rw [Hn.out]
  have htn : Hid (t.size = n) := Lib.hid (by rw [← Ht.out, ← Hn.out]; simp)
  have htl : Hid (s.data.toList.drop k = t.data.toList) := Lib.hid (by rw [← Ht.out, Lib.extract_to_end])
  have htt : Hid (t.data.toList.length = n) := Lib.hid (by rw [← htn.out]; rfl)
  have hn : n ≤ 9223372036854775807 := by rw [← Hn.out]; omega
  have hkn : k + n ≤ 9223372036854775807 := by rw [← Hn.out]; omega
  go_loop [8, 26, 9, 10, 11] (fun z i _ _ _ => ∃ (j zz : Nat), j ≤ 9 ∧ j ≤ n ∧ i = .int .i64 j ∧ z = .int .u64 zz ∧ zz < 2 ^ (7 * j) ∧ Hid (dec 9 t.data.toList 0 0 = dec (9 - j) (t.data.toList.drop j) j zz)) (fun _ i _ _ _ => 9 - (intOf i).toNat)
  case atStart => exact ⟨0, 0, by omega, by omega, rfl, rfl, by simp, Lib.hid rfl⟩
  case round =>
    obtain ⟨j, zz, hj9, hjn, rfl, rfl, hzz, HD⟩ := hrel
    by_cases hlt : j < n ∧ j < 9
    · obtain ⟨hlt, hlt9⟩ := hlt
      have htj : j < t.size := by rw [htn.out]; exact hlt
      have HB : Hid (t.data.toList[j]? = some t[j]) := Lib.hid (by rw [List.getElem?_eq_getElem (by rw [htt.out]; exact hlt)]; rfl)
      have hbl := t[j].toNat_lt
      have HE := Lib.hid (or_group (b := t[j].toNat) hzz hlt9 hbl)
      have hG := group_lt (b := t[j].toNat) hzz
      have hG63 := group_lt63 (b := t[j].toNat) hzz hlt9
      by_cases hb : 128 ≤ t[j].toNat
      · go_wp2
        refine ⟨⟨j + 1, zz + t[j].toNat % 128 * 2 ^ (7 * j), by omega, by omega, by go_num, by rw [HE.out], hG, Lib.hid ?_⟩, by simp [intOf]; omega⟩
        rw [HD.out, dec_round_more HB.out hb (by omega)]
        rfl
      · have hE := HE.out
        clear HE
        obtain ⟨y, Hy⟩ : ∃ y, Hid (zz + t[j].toNat % 128 * 2 ^ (7 * j) = y) := ⟨_, Lib.hid rfl⟩
        rw [Hy.out] at hE hG hG63
        by_cases hc : (t[j].toNat = 0 ∧ 0 < j) ∨ 9223372036854775806 < y
        · have hfin : Hid (intOut (dec 9 (s.data.toList.drop k) 0 0) k = .tuple #[.int .i64 0, .int .i64 0, .int .i64 10]) := Lib.hid (by
            rw [htl.out, HD.out, dec_round_bad HB.out (by omega) (by omega) (by rw [Hy.out]; exact hc)]; rfl)
          go_wp2
          all_goals
            go_ret3
            exact ⟨by rw [hfin.out]; rfl, rfl⟩
        · have hfin : Hid (intOut (dec 9 (s.data.toList.drop k) 0 0) k = .tuple #[.int .i64 (zag y), .int .i64 ((k + (j + 1) : Nat) : Int), .int .i64 0]) := Lib.hid (by
            rw [htl.out, HD.out, dec_round_good HB.out (by omega) (by omega) (by rw [Hy.out]; exact hc), Hy.out]; rfl)
          have hy : y ≤ 9223372036854775806 := by omega
          go_wp2_with (go_at_call 56; refine (signed_any _ _ (by omega) (by omega)).mono ?_; rintro e w' ⟨rfl, rfl⟩)
          · go_ret3
            have e : j = 0 := by assumption
            have hfin2 := hfin.out
            rw [show ((k + (j + 1) : Nat) : Int) = (k : Int) + 1 from by omega] at hfin2
            exact ⟨by rw [hfin2]; rfl, rfl⟩
          · go_ret3
            exact ⟨by rw [hfin.out]; push_cast; rfl, rfl⟩
    · go_wp2
      go_ret3
      refine ⟨?_, rfl⟩
      rw [htl.out, HD.out, dec_round_end (by rw [htt.out]; omega)]
      rfl
end Go.Proofs.YtpapfegbodolgaaDoor
end

section
set_option linter.unusedSimpArgs false
set_option linter.unusedVariables false
namespace Go.Proofs.YtpapfegbodolgaaDoor
open Go.RowKit Go.Shelf
attribute [local go_sem] Oper.semAt_some

/-- A group of 7 bits, and whether it is the last. -/
abbrev Grp := Fin 128 × Bool
abbrev encG (p : Grp) : Array Value := #[.int .u8 (p.1.val : Int), .bool p.2]
def gl : Nat → Nat → List Grp
  | 0, _ => []
  | f + 1, z => if h : z < 128 then [(⟨z, h⟩, true)] else (⟨z % 128, Nat.mod_lt _ (by decide)⟩, false) :: gl f (z / 128)
def grpByte (p : Grp) : UInt8 := UInt8.ofNat (if p.2 then p.1.val else p.1.val + 128)
theorem gl_leb (f : Nat) : ∀ z, (gl f z).map grpByte = leb f z := by
  induction f with
  | zero => intro z; rfl
  | succ f ih =>
    intro z
    by_cases h : z < 128
    · rw [leb_short h]; simp [gl, h, grpByte]
    · rw [leb_long (by omega)]; simp [gl, h, grpByte, ih]
theorem gl_short {f x : Nat} (h : x < 128) : gl (f + 1) x = [(⟨x, h⟩, true)] := by simp [gl, h]
theorem gl_long {f x : Nat} (h : 128 ≤ x) : gl (f + 1) x = (⟨x % 128, Nat.mod_lt _ (by decide)⟩, false) :: gl f (x / 128) := by simp [gl, show ¬ x < 128 by omega]
theorem gl_len (f : Nat) : ∀ x, (gl f x).length ≤ f := by
  induction f with
  | zero => intro x; simp [gl]
  | succ f ih =>
    intro x
    by_cases h : x < 128
    · rw [gl_short h]; simp
    · rw [gl_long (by omega)]; simp; exact ih _

theorem u64_and127 {x : Nat} (hx : x < 18446744073709551616) : bits .and .u64 (x : Int) 127 = ((x % 128 : Nat) : Int) := by
  have := bits_and_u64_nat x 127 hx (by decide)
  rw [show ((127 : Nat) : Int) = 127 from rfl] at this
  rw [this, show (127 : Nat) = 2 ^ 7 - 1 from rfl, Nat.and_two_pow_sub_one_eq_mod]

set_option maxRecDepth 100000 in
set_option maxHeartbeats 1000000 in
theorem groups1_in (F : Fence) (n : Nat) (h28 : F.fn 96) (hro : F.round = none) (hn : 1 ≤ n) (l Bz n₀ z : Nat) (hz : z < 128 ^ 9) (J Jx : List Grp → World → Prop)
    (hY : ∀ pre x W, J pre W → pre.length < 9 → YieldAt F (n - 1) Tryd.prog l (encG x) W fun e W' =>
      (e = .returned (.bool true) ∧ J (pre ++ [x]) W' ∧ Below n₀ W W') ∨ (e = .returned (.bool false) ∧ Jx (pre ++ [x]) W'))
    (W : World) (hBz : W.cell? ⟨Bz, 0, none⟩ = some (.int .u64 (z : Int))) (h0 : J [] W) :
    CallsIn F n Tryd.prog 96 #[.func (.yield l) #[] #[], .pointer (some ⟨Bz, 0, none⟩)] W fun e W' => (∃ v, e = .returned v) ∧
      ((∃ ys, ys = gl 9 z ∧ J ys W') ∨ (∃ pre, pre <+: gl 9 z ∧ Jx pre W')) := by
  refine callsIn_of_wp Tryd.func96 rfl h28 ?_ hro
  simp only [Tryd.ntmps96, List.size_toArray, List.length_cons, List.length_nil, Nat.reduceAdd, Nat.reduceSub, Array.replicate_succ, Array.replicate_zero, List.push_toArray, List.append_toArray, List.nil_append, List.cons_append]
  gi_wp2
  gi_loopw [3, 4] (fun r _ wr => ∃ (pre : List Grp) (f x : Nat), r = .int .u64 x ∧ x ≤ z ∧ Hid (gl 9 z = pre ++ gl f x) ∧ 1 ≤ f ∧ Hid (x < 128 ^ f) ∧ J pre wr)
    (fun r _ _ => (intOf r).toNat)
  case atStart =>
    exact ⟨[], 9, z, rfl, Nat.le_refl _, Lib.hid rfl, by omega, Lib.hid hz, h0⟩
  case round =>
    obtain ⟨pre, f, x, rfl, hxz, hx, hf, hxf, hJs⟩ := hrel
    have hx63 : x < 9223372036854775808 := Nat.lt_of_le_of_lt hxz (by have : (128 : Nat) ^ 9 = 9223372036854775808 := by decide
                                                                      omega)
    obtain ⟨f, rfl⟩ : ∃ g, f = g + 1 := ⟨f - 1, by omega⟩
    clear hz
    by_cases hs : x < 128
    · have hpl : pre.length < 9 := by
        have := gl_len 9 z
        rw [hx.out, gl_short hs] at this
        simp at this; omega
      obtain ⟨fn, tmps, assign, body, hy, hR⟩ := hY pre (⟨x, hs⟩, true) wr hJs hpl
      dsimp only [encG] at hy
      have h127 : bits .and .u64 (x : Int) 127 % 256 = (x : Int) := by rw [u64_and127 (by omega)]; omega
      have hdx : decide ((x : Int) < 128) = true := by simp; omega
      gi_wp2
      refine hR.mono ?_
      rintro e W3 (⟨rfl, hJ3, hk3⟩ | ⟨rfl, hJx3⟩)
      · gi_wp2
        refine bodyPost_ret (results_none rfl _ _ _) rfl ?_
        exact ⟨⟨_, rfl⟩, .inl ⟨_, rfl, by rw [hx.out, gl_short hs]; exact hJ3⟩⟩
      · gi_wp2
        refine bodyPost_ret (results_none rfl _ _ _) rfl ?_
        exact ⟨⟨_, rfl⟩, .inr ⟨_, by rw [hx.out, gl_short hs]; exact List.prefix_refl _, hJx3⟩⟩
    · have hpl : pre.length < 9 := by
        have := gl_len 9 z
        rw [hx.out, gl_long (by omega)] at this
        simp at this; omega
      obtain ⟨fn, tmps, assign, body, hy, hR⟩ := hY pre (⟨x % 128, Nat.mod_lt _ (by decide)⟩, false) wr hJs hpl
      dsimp only [encG] at hy
      rw [show ((x % 128 : Nat) : Int) = (x : Int) % 128 from by omega] at hy
      have h127 : bits .and .u64 (x : Int) 127 % 256 = (x : Int) % 128 := by rw [u64_and127 (by omega)]; omega
      have hdx : decide ((x : Int) < 128) = false := by simp; omega
      gi_wp2
      refine hR.mono ?_
      rintro e W3 (⟨rfl, hJ3, hk3⟩ | ⟨rfl, hJx3⟩)
      · gi_wp2
        go_roundw
        case rel =>
          have hf0 : f ≠ 0 := by
            intro e; subst e
            have := hxf.out; simp at this; omega
          exact ⟨pre ++ [(⟨x % 128, Nat.mod_lt _ (by decide)⟩, false)], f, x / 128, by go_num, by omega, Lib.hid (by rw [hx.out, gl_long (by omega)]; simp), by omega, Lib.hid (by have := hxf.out; rw [Nat.pow_succ] at this; omega), hJ3⟩
        case measure => simp [intOf]; omega
      · gi_wp2
        refine bodyPost_ret (results_none rfl _ _ _) rfl ?_
        exact ⟨⟨_, rfl⟩, .inr ⟨_, by rw [hx.out, gl_long (by omega)]; simp, hJx3⟩⟩

set_option maxHeartbeats 1000000 in
theorem groups_in (F : Fence) (n : Nat) (h23 : F.fn 79) (hro : F.round = none) (z : Int) (w : World) :
    CallsIn F n Tryd.prog 79 #[.int .u64 z] w fun e w' => e = .returned (.func (.func 96) #[] #[.pointer (some ⟨w.heap.size, 0, none⟩)]) ∧ w' = w.alloc (.cells #[.int .u64 z] 93) := by
  refine callsIn_of_wp Tryd.func79 rfl h23 ?_ hro
  simp only [Tryd.ntmps79, List.size_toArray, List.length_cons, List.length_nil, Nat.reduceAdd, Nat.reduceSub, Array.replicate_succ, Array.replicate_zero, List.push_toArray, List.append_toArray, List.nil_append, List.cons_append]
  gi_wp2
  go_ret
  exact ⟨rfl, rfl⟩

theorem groups_stops (F : Fence) (n : Nat) (h28 : F.fn 96) (hro : F.round = none) (hn : 1 ≤ n) (Bz n₀ z : Nat) (hz : z < 128 ^ 9) (w : World) (hBz : Bz < w.heap.size)
    (hc : w.cell? ⟨Bz, 0, none⟩ = some (.int .u64 (z : Int))) :
    SeqStopsK F n Tryd.prog 96 #[.pointer (some ⟨Bz, 0, none⟩)] encG (Below n₀) (fun ys => ys = gl 9 z) (fun pre => pre <+: gl 9 z) 9 w := fun l J Jx W hW _ _ hY h0 =>
  groups1_in F n h28 hro hn l Bz n₀ z hz J Jx hY W ((hW.cell (p := ⟨Bz, 0, none⟩) hBz).trans hc) h0
end Go.Proofs.YtpapfegbodolgaaDoor
end

section
set_option linter.unusedSimpArgs false
set_option linter.unusedVariables false
namespace Go.Proofs.YtpapfegbodolgaaDoor
open Go.RowKit Go.Shelf
attribute [local go_sem] Oper.semAt_some

theorem Tryd.info5 : (Tryd.prog.info? 5).map (fun i => (i.zero, i.size, i.bytes)) = some (some (.int .u8 0), 1, 1) := by kernel_rfl

def nine : Array Value := Array.replicate 9 (.int .u8 0)
theorem nine_size : nine.size = 9 := rfl
theorem make9 (w : World) : (Instr.makeSlice 67 (.int .i64 0) (.int .i64 9)).run Tryd.prog w = .ok (.slice (some ⟨w.heap.size, 0, none⟩) 0 9) (w.alloc (.cells nine 5)) := by kernel_rfl
def grpVal (p : Grp) : Value := .int .u8 ((grpByte p).toNat : Int)
theorem grpVal_more (g : Fin 128) : grpVal (g, false) = .int .u8 ((g.val : Int) + 128) := by
  have := g.isLt
  simp [grpVal, grpByte]; omega
theorem grpVal_last (g : Fin 128) : grpVal (g, true) = .int .u8 (g.val : Int) := by
  have := g.isLt
  simp [grpVal, grpByte]; omega

set_option maxRecDepth 100000 in
set_option maxHeartbeats 2000000 in
theorem putInt_ok (v : Int) (w : World) (h1 : -4611686018427387903 ≤ v) (h2 : v ≤ 4611686018427387903) :
    Calls Tryd.prog 55 #[.int .i64 v] w fun e W' => e = .returned (.tuple #[.string ⟨(encInt v).toArray⟩, .int .i64 0]) ∧ Below w.heap.size w W' := by
  refine (callsIn_wide (n := 6)).1 ?_
  obtain ⟨i0, hi, hz0, hz1, hz2⟩ := info_parts Tryd.info5
  have hz63 := zig_le v h1 h2
  have hz00 := zig_nonneg v
  have hmk := make9
  have hdA : decide (v < -4611686018427387903) = false := by simp; omega
  have hdB : decide (4611686018427387903 < v) = false := by simp; omega
  refine callsIn_of_wp_marks Tryd.func55 rfl trivial ?_ rfl
  simp only [Tryd.ntmps55, List.size_toArray, List.length_cons, List.length_nil, Nat.reduceAdd, Nat.reduceSub, Array.replicate_succ, Array.replicate_zero, List.push_toArray, List.append_toArray, List.nil_append, List.cons_append]
  gi_wp2_with (first | (refine ⟨trivial, ?_⟩; gi_at_call 80; refine (callsIn_wide.2 (unsigned_any v _ h1 h2)).mono ?_; rintro e w' ⟨rfl, rfl⟩) | (refine ⟨trivial, ?_⟩; gi_at_call 79; refine (groups_in Fence.wide _ trivial rfl _ _).mono ?_; rintro e w' ⟨rfl, rfl⟩))
  obtain ⟨z, Hz⟩ : ∃ z : Nat, Hid (zig v = (z : Int)) := ⟨(zig v).toNat, Lib.hid (by omega)⟩
  have hz9 : z < 128 ^ 9 := by have := Hz.out; have : (128 : Nat) ^ 9 = 9223372036854775808 := by decide
                               omega
  have Henc : Hid (encInt v = leb 9 z) := Lib.hid (by unfold encInt; rw [Hz.out]; rfl)
  rw [Hz.out]
  clear hmk hdA hdB hz63 hz00
  have bC := (Boxed.new (w.alloc (.cells nine 5)) 67 (.slice (some ⟨w.heap.size, 0, none⟩) 0 9)).alloc (.cells #[.int .u64 (z : Int)] 93)
  have bZ := Boxed.new ((w.alloc (.cells nine 5)).alloc (.cells #[.slice (some ⟨w.heap.size, 0, none⟩) 0 9] 67)) 93 (.int .u64 (z : Int))
  rw [World.size_alloc] at bC bZ
  rw [World.size_alloc] at bZ
  have hR0 := ((World.ownsRow_made (e := 5) (size := 1) w nine 9 (Nat.le_refl w.heap.size) (by decide) (by rfl)).alloc (.cells #[.slice (some ⟨w.heap.size, 0, none⟩) 0 9] 67)).alloc (.cells #[.int .u64 (z : Int)] 93)
  have hB0 : Below w.heap.size w (((w.alloc (.cells nine 5)).alloc (.cells #[.slice (some ⟨w.heap.size, 0, none⟩) 0 9] 67)).alloc (.cells #[.int .u64 (z : Int)] 93)) := (((Below.refl _ w).alloc (Nat.le_refl _) _).alloc (by simp) _).alloc (by simp; omega) _
  refine wpIn_rangeFunc_ownG rfl (by omega) (gf := 96) (lb := #[.pointer (some ⟨w.heap.size + 1 + 1, 0, none⟩)]) rfl trivial (enters_of Tryd.func96 (by kernel_rfl) rfl)
    (groups_stops Fence.wide _ trivial rfl (by omega) (w.heap.size + 1 + 1) w.heap.size z hz9 _ (by simp) bZ.cell) belowK_t (belowK_b (by simp; omega)) (Below.refl _ _) (fun _ => rfl)
    (fun (pre : List Grp) W => (∃ u, Boxed W (w.heap.size + 1) 67 u ∧ W.ownsRow w.heap.size 5 1 u pre.length (pre.map grpVal) ∧ True) ∧ Below w.heap.size w W)
    (fun _ _ _ => False)
    (OwnFrom.and (Own.from (holdsRow_own w.heap.size (w.heap.size + 1) 67 5 1 (fun pre : List Grp => pre.length) (fun pre : List Grp => pre.map grpVal) (fun _ _ => True)) _) (ownFrom_below (Nat.le_refl _) (by simp; omega)))
    (fun _ _ _ _ _ hs _ _ => hs)
    ⟨⟨_, bC, hR0, trivial⟩, hB0⟩
    (fun (x : Grp) => { tmps := #[.int .i64 v, undef, .string ⟨#[]⟩, .int .i64 0, .pointer (some ⟨w.heap.size + 1, 0, none⟩), .int .u8 (x.1.val : Int), .bool x.2, .int .i64 v, .bool false, .bool false, .int .i64 v, .bool false, .bool false, .slice (some ⟨w.heap.size, 0, none⟩) 0 9, .int .i64 v, .int .u64 (z : Int), .func (.func 96) #[] #[.pointer (some ⟨w.heap.size + 1 + 1, 0, none⟩)], .int .u8 (x.1.val : Int), .bool x.2, undef, undef, undef, undef, undef, undef, undef, undef, undef, undef], defers := [] }) ?assign ?body ?done ?stop
  case assign =>
    intro l x W K hK
    gi_wp2
    exact hK
  case body =>
    rintro l pre ⟨g, last⟩ W ⟨⟨u, hv, hrow, _⟩, hB⟩ hlt
    have hc := hv.cell
    have hg := g.isLt
    cases last
    · have hor : bits .or .u8 (g.val : Int) 128 = (g.val : Int) + 128 := u8_or128_right _ (by omega) (by omega)
      gi_wp2_with (gi_at_builtin; refine wpListIn_append_own _ rfl _ _ 67 rfl w.heap.size 5 i0 (.int .u8 0) 1 1 Tryd.underlying67 hi hz0 hz1 hz2 rfl (by decide) _ _ _ rfl (hrow.alloc _) ⟨W.heap.size, 0, none⟩ 1 1 [.int .u8 ((g.val : Int) + 128)] rfl rfl (cell_one_new _ _ _) (by simp [Value.oneCell']) (by unfold maxLen; omega) (by omega) (by have := hB.size; simp; omega) ?_; intro v' w1 hown' hgrow _; obtain ⟨g', cap', rfl⟩ := ownsRow_succ hown'; obtain ⟨hv1, hv2, hr2, hk2, hb2⟩ := hv.appended (by decide) hrow hB.size (by omega) hown' hgrow; have hc1 := hv1.cell; have hf1 := hv1.frozen)
      exact ⟨hk2.from _, hb2, ⟨_, hv2, by simpa [grpVal_more] using hr2, trivial⟩, hB.trans hb2⟩
    · gi_wp2_with (gi_at_builtin; refine wpListIn_append_own _ rfl _ _ 67 rfl w.heap.size 5 i0 (.int .u8 0) 1 1 Tryd.underlying67 hi hz0 hz1 hz2 rfl (by decide) _ _ _ rfl (hrow.alloc _) ⟨W.heap.size, 0, none⟩ 1 1 [.int .u8 (g.val : Int)] rfl rfl (cell_one_new _ _ _) (by simp [Value.oneCell']) (by unfold maxLen; omega) (by omega) (by have := hB.size; simp; omega) ?_; intro v' w1 hown' hgrow _; obtain ⟨g', cap', rfl⟩ := ownsRow_succ hown'; obtain ⟨hv1, hv2, hr2, hk2, hb2⟩ := hv.appended (by decide) hrow hB.size (by omega) hown' hgrow; have hc1 := hv1.cell; have hf1 := hv1.frozen)
      exact ⟨hk2.from _, hb2, ⟨_, hv2, by simpa [grpVal_last] using hr2, trivial⟩, hB.trans hb2⟩
  case done =>
    rintro D ys W hD rfl ⟨⟨u, hv, hrow, _⟩, hB⟩ hK
    have hc := hv.cell
    obtain ⟨m, hm⟩ : ∃ m, (gl 9 z).length = m + 1 := by
      have := congrArg List.length (gl_leb 9 z)
      rw [List.length_map] at this
      have : 1 ≤ (leb 9 z).length := leb_pos 8 z
      exact ⟨(gl 9 z).length - 1, by omega⟩
    rw [hm] at hrow
    obtain ⟨g, cap, rfl⟩ := ownsRow_succ hrow
    have hcells := hrow.cells (g := g) rfl
    have hconv := run_convert_bytes_arg (P := Tryd.prog) W 67 5 Tryd.underlying67 Tryd.underlying5 g 0 (m + 1) cap ((gl 9 z).map fun p => ((grpByte p).toNat : Int)) (by simp [hm])
      (fun i hi => by
        have := hcells i (grpVal ((gl 9 z)[i]'(by omega))) (by simp [show i < (gl 9 z).length by omega])
        rw [show (⟨g, 0, none⟩ : Addr).add i = ⟨g, 0 + i, none⟩ from by unfold Addr.add; split <;> simp_all] at this
        simpa [grpVal, List.getD, show i < (gl 9 z).length by omega] using this) 9 Tryd.underlying9
    have hstr : strOfNums ((gl 9 z).map fun p => ((grpByte p).toNat : Int)) = ⟨(encInt v).toArray⟩ := by
      unfold strOfNums
      rw [Henc.out, ← gl_leb]
      congr 2
      simp [List.map_map, Function.comp_def]
    rw [hstr] at hconv
    clear hm hcells hstr
    gi_wp2
    refine ⟨by simp, .inl ⟨_, _, rfl, run_takeDeferred hK, ?_⟩⟩
    exact ⟨.tuple #[.string ⟨(encInt v).toArray⟩, .int .i64 0], by simp [results, Tryd.f55, go_sem], rfl, hB.trans (belowK_b (w := w) (Nat.le_refl _) W D _ _ (by simp at hD; omega) hK rfl rfl)⟩
  case stop =>
    rintro D c pre W _ _ h _
    exact h.elim

set_option maxRecDepth 100000 in
set_option maxHeartbeats 400000 in
theorem putInt_bad (v : Int) (w : World) (h : v < -4611686018427387903 ∨ 4611686018427387903 < v) (h1 : -9223372036854775808 ≤ v) (h2 : v ≤ 9223372036854775807) :
    Calls Tryd.prog 55 #[.int .i64 v] w fun e W' => e = .returned (.tuple #[.string ⟨#[]⟩, .int .i64 10]) ∧ W' = w := by
  rcases h with h | h
  · go_enter Tryd.func55, Tryd.ntmps55
    go_wp2
    go_ret2
    exact ⟨rfl, rfl⟩
  · go_enter Tryd.func55, Tryd.ntmps55
    go_wp2
    go_ret2
    exact ⟨rfl, rfl⟩
end Go.Proofs.YtpapfegbodolgaaDoor
end

section
set_option linter.unusedSimpArgs false
set_option linter.unusedVariables false
namespace Go.Proofs.YtpapfegbodolgaaDoor
open Go.RowKit

theorem intOut_none {L : List UInt8} {k : Nat} (h : decInt L = none) : intOut (dec 9 L 0 0) k = .tuple #[.int .i64 0, .int .i64 0, .int .i64 10] := by
  unfold decInt at h
  cases hd : dec 9 L 0 0 with
  | none => rfl
  | some p => rw [hd] at h; simp at h
theorem intOut_some {L : List UInt8} {k m : Nat} {n : Int} (h : decInt L = some (n, m)) : intOut (dec 9 L 0 0) k = .tuple #[.int .i64 n, .int .i64 ((k + m : Nat) : Int), .int .i64 0] := by
  unfold decInt at h
  cases hd : dec 9 L 0 0 with
  | none => rw [hd] at h; simp at h
  | some p => rw [hd] at h; simp at h; unfold intOut; rw [← h.1, ← h.2]

theorem int_none (s : ByteArray) (k : Nat) (w : World) (hs : s.size ≤ maxLen) (hk : k ≤ s.size) (h : decInt (s.data.toList.drop k) = none) :
    Calls Tryd.prog 35 #[.string s, .int .i64 k] w fun e w' => e = .returned (.tuple #[.int .i64 0, .int .i64 0, .int .i64 10]) ∧ w' = w :=
  (int_any s k w hs hk).mono fun e w' hw => by rw [intOut_none h] at hw; exact hw
theorem int_some (s : ByteArray) (k : Nat) (w : World) (hs : s.size ≤ maxLen) (hk : k ≤ s.size) {n : Int} {m : Nat} (h : decInt (s.data.toList.drop k) = some (n, m)) :
    Calls Tryd.prog 35 #[.string s, .int .i64 k] w fun e w' => e = .returned (.tuple #[.int .i64 n, .int .i64 ((k + m : Nat) : Int), .int .i64 0]) ∧ w' = w :=
  (int_any s k w hs hk).mono fun e w' hw => by rw [intOut_some h] at hw; exact hw

/-- The encoding of an integer, of a string, as strings. -/
def encI (n : Int) : ByteArray := ⟨(encInt n).toArray⟩
def encS (t : ByteArray) : ByteArray := encI t.size ++ t
theorem encI_size (n : Int) : (encI n).size = (encInt n).length := by simp [encI, ByteArray.size]
theorem encI_size_le (n : Int) : (encI n).size ≤ 9 := by rw [encI_size]; exact encInt_len n
theorem encI_size_pos (n : Int) : 1 ≤ (encI n).size := by rw [encI_size]; exact encInt_pos n
theorem encI_list (n : Int) : (encI n).data.toList = encInt n := rfl
theorem encS_list (t : ByteArray) : (encS t).data.toList = encInt t.size ++ t.data.toList := by simp [encS, encI, ByteArray.data_append]
theorem encS_size (t : ByteArray) : (encS t).size = (encI t.size).size + t.size := by simp [encS]
theorem list_size (t : ByteArray) : t.data.toList.length = t.size := rfl
theorem app_list (a b : ByteArray) : (a ++ b).data.toList = a.data.toList ++ b.data.toList := by simp [ByteArray.data_append]
theorem ext_list {a b : ByteArray} (h : a.data.toList = b.data.toList) : a = b := by
  apply ByteArray.ext
  exact Array.ext' h

theorem decInt_at (p q : ByteArray) (n : Int) (h1 : -4611686018427387903 ≤ n) (h2 : n ≤ 4611686018427387903) :
    decInt ((p ++ encI n ++ q).data.toList.drop p.size) = some (n, (encI n).size) := by
  rw [app_list, app_list, encI_list, List.append_assoc, ← list_size p, List.drop_left, decInt_enc _ _ h1 h2, encI_size]

theorem extract_list (s : ByteArray) (a b : Nat) : (s.extract a b).data.toList = (s.data.toList.drop a).take (b - a) := Lib.extract_data s a b

/-- The contracts again, in these words. -/
theorem putInt_enc (v : Int) (w : World) (h1 : -4611686018427387903 ≤ v) (h2 : v ≤ 4611686018427387903) :
    Calls Tryd.prog 55 #[.int .i64 v] w fun e W' => e = .returned (.tuple #[.string (encI v), .int .i64 0]) ∧ Below w.heap.size w W' := putInt_ok v w h1 h2
theorem take0_list (s : ByteArray) (k : Nat) : (s.extract 0 k).data.toList = s.data.toList.take k := by rw [extract_list, List.drop_zero, Nat.sub_zero]
theorem int_cut (n : Int) (k : Nat) (h1 : -4611686018427387903 ≤ n) (h2 : n ≤ 4611686018427387903) (hk : k < (encI n).size) : decInt (((encI n).extract 0 k).data.toList.drop 0) = none := by
  rw [take0_list, List.drop_zero, encI_list, decInt_prefix h1 h2 k (by rw [encI_size] at hk; exact hk)]
theorem encI_inj_prefix {a b : Int} (ha1 : -4611686018427387903 ≤ a) (ha2 : a ≤ 4611686018427387903) (hb1 : -4611686018427387903 ≤ b) (hb2 : b ≤ 4611686018427387903)
    (h : (encI b).extract 0 (encI a).size = encI a) : a = b := by
  apply encInt_prefix ha1 ha2 hb1 hb2
  have := congrArg (fun s => s.data.toList) h
  simp only [take0_list, encI_list, encI_size] at this
  exact this
theorem ext_all (s : ByteArray) : s.extract 0 s.size = s := by
  apply ext_list
  rw [take0_list, ← list_size, List.take_length]

/-- Go's == on strings, as the walk spells it. -/
theorem str_eq {a b : ByteArray} (h : a = b) : (a.toList == b.toList) = true := beq_iff_eq.2 (by rw [h])
theorem str_ne {a b : ByteArray} (h : a ≠ b) : (a.toList == b.toList) = false := beq_eq_false_iff_ne.2 (fun e => h (ext_list (by rw [← ByteArray.toList_eq, ← ByteArray.toList_eq, e])))
theorem str_ne' {a b : ByteArray} (h : a ≠ b) : (a.toList != b.toList) = true := bne_iff_ne.2 (fun e => h (ext_list (by rw [← ByteArray.toList_eq, ← ByteArray.toList_eq, e])))
theorem str_eq' {a b : ByteArray} (h : a = b) : (a.toList != b.toList) = false := by rw [h]; simp

theorem bt {A B C : World} (h : Below A.heap.size A B) (k : Below B.heap.size B C) : Below A.heap.size A C := h.trans (k.mono h.size)
theorem ba (w : World) (o : Obj) : Below w.heap.size w (w.alloc o) := (Below.refl _ _).alloc (Nat.le_refl _) _
/-- A string cut to at most k bytes. -/
theorem cut_size (s : ByteArray) (k : Nat) : (s.extract 0 (min (s.size : Int) (k : Int)).toNat).size ≤ k := by
  rw [ByteArray.size_extract]; omega
end Go.Proofs.YtpapfegbodolgaaDoor
end
