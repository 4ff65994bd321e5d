/- PLAIN MATHEMATICS: LEB128 of natural numbers, its decoder, zigzag numbers. No Go and no program stands in it. -/
namespace Go.Proofs.YtgkdliocfnoffaaDoor

def zig (n : Int) : Int := if n < 0 then -2 * n - 1 else 2 * n
def zag (z : Int) : Int := if z % 2 = 1 then -(z / 2) - 1 else z / 2

theorem zag_zig (n : Int) : zag (zig n) = n := by unfold zag zig; split <;> split <;> omega
theorem zig_zag (z : Int) (h : 0 ≤ z) : zig (zag z) = z := by unfold zag zig; split <;> split <;> omega
theorem zig_nonneg (n : Int) : 0 ≤ zig n := by unfold zig; split <;> omega
theorem zig_le (n : Int) (h1 : -4611686018427387903 ≤ n) (h2 : n ≤ 4611686018427387903) : zig n ≤ 9223372036854775806 := by unfold zig; split <;> omega
theorem zag_lo (z : Int) (h : 0 ≤ z) (h2 : z ≤ 9223372036854775806) : -4611686018427387903 ≤ zag z ∧ zag z ≤ 4611686018427387903 := by unfold zag; split <;> omega

/-- The groups of 7 bits, the least first; 128 is added to all but the last. -/
def leb : Nat → Nat → List UInt8
  | 0, _ => []
  | f + 1, z => if z < 128 then [UInt8.ofNat z] else UInt8.ofNat (z % 128 + 128) :: leb f (z / 128)

/-- The decoder: fuel, what is left, how many groups have come, what they make. -/
def dec : Nat → List UInt8 → Nat → Nat → Option (Nat × Nat)
  | 0, _, _, _ => none
  | _ + 1, [], _, _ => none
  | f + 1, b :: r, i, z =>
    if 128 ≤ b.toNat then dec f r (i + 1) (z + b.toNat % 128 * 2 ^ (7 * i))
    else if (b.toNat = 0 ∧ 0 < i) ∨ 9223372036854775806 < z + b.toNat % 128 * 2 ^ (7 * i) then none
    else some (z + b.toNat % 128 * 2 ^ (7 * i), i + 1)

theorem leb_short {f x : Nat} (h : x < 128) : leb (f + 1) x = [UInt8.ofNat x] := by simp [leb, h]
theorem leb_long {f x : Nat} (h : 128 ≤ x) : leb (f + 1) x = UInt8.ofNat (x % 128 + 128) :: leb f (x / 128) := by simp [leb, show ¬ x < 128 by omega]

theorem pow_step (i : Nat) : 2 ^ (7 * (i + 1)) = 128 * 2 ^ (7 * i) := by
  rw [show 7 * (i + 1) = 7 * i + 7 from by omega, Nat.pow_add]; omega

theorem dec_leb (f : Nat) : ∀ (x i z : Nat) (r : List UInt8), x < 128 ^ f → 1 ≤ f → (x ≠ 0 ∨ i = 0) → z + x * 2 ^ (7 * i) ≤ 9223372036854775806 →
    dec f (leb f x ++ r) i z = some (z + x * 2 ^ (7 * i), i + (leb f x).length) := by
  induction f with
  | zero => intro x i z r _ h; omega
  | succ f ih =>
    intro x i z r hx _ hne hle
    by_cases h : x < 128
    · rw [leb_short h]
      have e : (UInt8.ofNat x).toNat = x := by simp; omega
      have e2 : x % 128 = x := Nat.mod_eq_of_lt h
      simp only [List.cons_append, List.nil_append, dec, e, e2]
      rw [if_neg (by omega), if_neg (by omega)]
      simp
    · rw [leb_long (by omega)]
      have e : (UInt8.ofNat (x % 128 + 128)).toNat = x % 128 + 128 := by simp; omega
      have e2 : (x % 128 + 128) % 128 = x % 128 := by omega
      have hf : 1 ≤ f := by
        rcases f with _ | f
        · simp at hx; omega
        · omega
      have hs : z + x % 128 * 2 ^ (7 * i) + x / 128 * 2 ^ (7 * (i + 1)) = z + x * 2 ^ (7 * i) := by
        rw [pow_step, Nat.add_assoc, ← Nat.mul_assoc, ← Nat.add_mul]
        congr 2; omega
      simp only [List.cons_append, dec, e, e2]
      rw [if_pos (by omega), ih (x / 128) (i + 1) _ r (by rw [Nat.pow_succ] at hx; omega) hf (by omega) (by omega), hs]
      simp; omega

theorem dec_sound (f : Nat) : ∀ (l : List UInt8) (i z y m : Nat), dec f l i z = some (y, m) →
    ∃ x, y = z + x * 2 ^ (7 * i) ∧ m = i + (leb f x).length ∧ leb f x = l.take (leb f x).length ∧ (x ≠ 0 ∨ i = 0) ∧ (leb f x).length ≤ l.length ∧ 1 ≤ (leb f x).length ∧ y ≤ 9223372036854775806 := by
  induction f with
  | zero => intro l i z y m h; simp [dec] at h
  | succ f ih =>
    intro l i z y m h
    cases l with
    | nil => simp [dec] at h
    | cons b r =>
      simp only [dec] at h
      have hb := b.toNat_lt
      by_cases h1 : 128 ≤ b.toNat
      · rw [if_pos h1] at h
        obtain ⟨x, e1, e2, e3, e4, e5, e6, e7⟩ := ih _ _ _ _ _ h
        have hx : x ≠ 0 := by rcases e4 with h | h <;> omega
        have hl : leb (f + 1) (b.toNat - 128 + 128 * x) = b :: leb f x := by
          rw [leb_long (by omega)]
          have : (b.toNat - 128 + 128 * x) / 128 = x := by omega
          rw [this]
          have h2 : (b.toNat - 128 + 128 * x) % 128 + 128 = b.toNat := by omega
          rw [h2]; simp
        refine ⟨b.toNat - 128 + 128 * x, ?_, ?_, ?_, ?_, ?_, ?_, e7⟩
        · rw [e1, pow_step]
          rw [show b.toNat % 128 = b.toNat - 128 by omega, Nat.add_assoc, ← Nat.mul_assoc, ← Nat.add_mul, Nat.mul_comm x 128]
        · rw [hl, e2]; simp; omega
        · rw [hl]; simp; exact e3
        · omega
        · rw [hl]; simp; exact e5
        · rw [hl]; simp
      · rw [if_neg h1] at h
        by_cases h2 : (b.toNat = 0 ∧ 0 < i) ∨ 9223372036854775806 < z + b.toNat % 128 * 2 ^ (7 * i)
        · rw [if_pos h2] at h; simp at h
        · rw [if_neg h2] at h
          have hl : leb (f + 1) b.toNat = [b] := by rw [leb_short (by omega)]; simp
          have hm : b.toNat % 128 = b.toNat := by omega
          simp only [Option.some.injEq, Prod.mk.injEq] at h
          refine ⟨b.toNat, ?_, ?_, ?_, ?_, ?_, ?_, ?_⟩
          · rw [← h.1, hm]
          · rw [hl, ← h.2]; rfl
          · rw [hl]; simp
          · omega
          · rw [hl]; simp
          · rw [hl]; simp
          · omega

theorem leb_pos (f x : Nat) : 1 ≤ (leb (f + 1) x).length := by
  by_cases h : x < 128
  · rw [leb_short h]; simp
  · rw [leb_long (by omega)]; simp

theorem leb_len (f : Nat) : ∀ x, (leb f x).length ≤ f := by
  induction f with
  | zero => intro x; simp [leb]
  | succ f ih =>
    intro x
    by_cases h : x < 128
    · rw [leb_short h]; simp
    · rw [leb_long (by omega)]; simp; exact ih _

/-! ### The encoding of an integer -/
def encInt (n : Int) : List UInt8 := leb 9 (zig n).toNat
def decInt (l : List UInt8) : Option (Int × Nat) := (dec 9 l 0 0).map fun p => (zag p.1, p.2)

theorem encInt_pos (n : Int) : 1 ≤ (encInt n).length := leb_pos _ _
theorem encInt_len (n : Int) : (encInt n).length ≤ 9 := leb_len _ _

theorem decInt_enc (n : Int) (r : List UInt8) (h1 : -4611686018427387903 ≤ n) (h2 : n ≤ 4611686018427387903) : decInt (encInt n ++ r) = some (n, (encInt n).length) := by
  have hz := zig_le n h1 h2
  have h0 := zig_nonneg n
  have e : ((zig n).toNat : Int) = zig n := Int.toNat_of_nonneg h0
  unfold decInt encInt
  rw [dec_leb 9 (zig n).toNat 0 0 r (by omega) (by omega) (.inr rfl) (by simp; omega)]
  simp [e, zag_zig]

theorem decInt_sound {l : List UInt8} {n : Int} {m : Nat} (h : decInt l = some (n, m)) :
    m = (encInt n).length ∧ encInt n = l.take m ∧ m ≤ l.length ∧ 1 ≤ m ∧ -4611686018427387903 ≤ n ∧ n ≤ 4611686018427387903 := by
  unfold decInt at h
  cases hd : dec 9 l 0 0 with
  | none => rw [hd] at h; simp at h
  | some p =>
    obtain ⟨y, k⟩ := p
    rw [hd] at h
    simp only [Option.map_some, Option.some.injEq, Prod.mk.injEq] at h
    obtain ⟨x, e1, e2, e3, _, e5, e6, e7⟩ := dec_sound 9 l 0 0 y k hd
    simp at e1 e2
    obtain ⟨hn, rfl⟩ := h
    subst e1
    have hzz : (zig n).toNat = y := by rw [← hn, zig_zag _ (by omega)]; omega
    have hb := zag_lo y (by omega) (by omega)
    unfold encInt
    rw [hzz]
    exact ⟨e2, by rw [e2]; exact e3, by omega, by omega, by omega, by omega⟩

/-- Two encodings one of which begins with the other are of one integer. -/
theorem encInt_prefix {a b : Int} (ha1 : -4611686018427387903 ≤ a) (ha2 : a ≤ 4611686018427387903) (hb1 : -4611686018427387903 ≤ b) (hb2 : b ≤ 4611686018427387903)
    (h : (encInt b).take (encInt a).length = encInt a) : a = b := by
  have h1 := decInt_enc a ((encInt b).drop (encInt a).length) ha1 ha2
  have h2 := decInt_enc b [] hb1 hb2
  have e : encInt a ++ (encInt b).drop (encInt a).length = encInt b := by
    conv => lhs; lhs; rw [← h]
    exact List.take_append_drop _ _
  rw [e] at h1
  rw [List.append_nil] at h2
  rw [h1] at h2
  simp at h2
  exact h2.1

/-- No proper prefix of an encoding is accepted. -/
theorem decInt_prefix {n : Int} (h1 : -4611686018427387903 ≤ n) (h2 : n ≤ 4611686018427387903) (k : Nat) (hk : k < (encInt n).length) : decInt ((encInt n).take k) = none := by
  cases hd : decInt ((encInt n).take k) with
  | none => rfl
  | some p =>
    obtain ⟨m, j⟩ := p
    exfalso
    obtain ⟨e1, e2, e3, e4, e5, e6⟩ := decInt_sound hd
    have hj : j ≤ k := by rw [List.length_take] at e3; omega
    have : (encInt n).take (encInt m).length = encInt m := by
      rw [← e1, e2, List.take_take]
      rw [Nat.min_eq_left hj]
    have := encInt_prefix e5 e6 h1 h2 this
    subst this
    omega
end Go.Proofs.YtgkdliocfnoffaaDoor
