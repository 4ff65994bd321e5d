/- PLAIN MATHEMATICS: CRC-32C as a linear map on natural numbers. No Go and no program stands in it. -/
namespace Go.Proofs.YtdbjnojalfkaaaaDoor

/-- One shift of the register. -/
def cS (x : Nat) : Nat := (x / 2) ^^^ (if x % 2 = 1 then 2197175160 else 0)
def cSs : Nat → Nat → Nat
  | 0, x => x
  | k + 1, x => cSs k (cS x)
def cTab : List Nat := [0, 274646895, 549293790, 820201905, 1098587580, 1361435347, 1640403810, 1905808397, 2197175160, 2460548119, 2722870694, 2987750089, 3280807620, 3553878443, 3811616794, 4084100981]

theorem xor_mod2 (a b : Nat) : (a ^^^ b) % 2 = (a % 2 + b % 2) % 2 := by
  have h := @Nat.xor_mod_two_eq_one a b
  omega
theorem xor_div2 (a b : Nat) : (a ^^^ b) / 2 = (a / 2) ^^^ (b / 2) := by
  have : (a ^^^ b) >>> 1 = a >>> 1 ^^^ b >>> 1 := Nat.shiftRight_xor_distrib
  simpa [Nat.shiftRight_eq_div_pow] using this
theorem xor_mul (a b k : Nat) : (a ^^^ b) * 2 ^ k = (a * 2 ^ k) ^^^ (b * 2 ^ k) := by
  have : (a ^^^ b) <<< k = a <<< k ^^^ b <<< k := Nat.shiftLeft_xor_distrib
  simpa [Nat.shiftLeft_eq] using this

theorem cS_xor (a b : Nat) : cS (a ^^^ b) = cS a ^^^ cS b := by
  unfold cS
  rw [xor_div2, xor_mod2]
  rcases Nat.mod_two_eq_zero_or_one a with ha | ha <;> rcases Nat.mod_two_eq_zero_or_one b with hb | hb <;> simp only [ha, hb]
  · simp
  · simp [Nat.xor_assoc]
  · simp; rw [Nat.xor_assoc, Nat.xor_assoc, Nat.xor_comm (b / 2)]
  · simp only [Nat.reduceAdd, Nat.reduceMod, if_true]
    simp
    rw [show a / 2 ^^^ 2197175160 ^^^ (b / 2 ^^^ 2197175160) = (a / 2 ^^^ b / 2) ^^^ (2197175160 ^^^ 2197175160) from by ac_rfl]
    simp

theorem cSs_xor (k : Nat) : ∀ a b, cSs k (a ^^^ b) = cSs k a ^^^ cSs k b := by
  induction k with
  | zero => intro a b; rfl
  | succ k ih => intro a b; simp only [cSs, cS_xor, ih]
theorem cSs_add (j : Nat) : ∀ (k x : Nat), cSs (j + k) x = cSs k (cSs j x) := by
  induction j with
  | zero => intro k x; simp [cSs]
  | succ j ih => intro k x; rw [Nat.succ_add]; simp only [cSs]; exact ih k (cS x)
theorem cS_zero : cS 0 = 0 := by decide
theorem cSs_zero (k : Nat) : cSs k 0 = 0 := by
  induction k with
  | zero => rfl
  | succ k ih => simp only [cSs, cS_zero, ih]
theorem cS_even (q : Nat) : cS (2 * q) = q := by
  unfold cS
  rw [if_neg (by omega)]
  simp
theorem cSs_pow (k : Nat) : ∀ q, cSs k (q * 2 ^ k) = q := by
  induction k with
  | zero => intro q; simp [cSs]
  | succ k ih =>
    intro q
    simp only [cSs]
    rw [show q * 2 ^ (k + 1) = 2 * (q * 2 ^ k) from by rw [Nat.pow_succ]; ac_rfl, cS_even, ih]

theorem cS_lt {x : Nat} (h : x < 4294967296) : cS x < 4294967296 := by
  unfold cS
  exact Nat.xor_lt_two_pow (n := 32) (by omega) (by split <;> decide)
theorem cSs_lt (k : Nat) : ∀ {x : Nat}, x < 4294967296 → cSs k x < 4294967296 := by
  induction k with
  | zero => intro x h; exact h
  | succ k ih => intro x h; exact ih (cS_lt h)

theorem cS_ne {x : Nat} (h : x < 4294967296) (h0 : x ≠ 0) : cS x ≠ 0 := by
  unfold cS
  rcases Nat.mod_two_eq_zero_or_one x with hx | hx
  · rw [if_neg (by omega)]; simp; omega
  · rw [if_pos hx]
    intro e
    have hb : ((x / 2) ^^^ 2197175160).testBit 31 = false := by rw [e]; simp
    rw [Nat.testBit_xor, Nat.testBit_lt_two_pow (show x / 2 < 2 ^ 31 by omega)] at hb
    revert hb; decide
theorem cSs_ne (k : Nat) : ∀ {x : Nat}, x < 4294967296 → x ≠ 0 → cSs k x ≠ 0 := by
  induction k with
  | zero => intro x _ h; exact h
  | succ k ih => intro x h h0; exact ih (cS_lt h) (cS_ne h h0)

theorem add_eq_xor {x y k : Nat} (h : x < 2 ^ k) : x ^^^ (y * 2 ^ k) = x + y * 2 ^ k := by
  apply Nat.eq_of_testBit_eq
  intro i
  rw [Nat.testBit_xor, Nat.testBit_mul_two_pow, Nat.add_comm, show y * 2 ^ k + x = 2 ^ k * y + x from by rw [Nat.mul_comm], Nat.testBit_two_pow_mul_add y h]
  by_cases hi : i < k
  · simp [hi, show ¬ k ≤ i by omega]
  · simp [hi, show k ≤ i by omega, Nat.testBit_lt_two_pow (Nat.lt_of_lt_of_le h (Nat.pow_le_pow_right (by omega) (show k ≤ i by omega)))]

/-- Four shifts by the table. -/
theorem cSs_nib (x : Nat) : cSs 4 x = (x / 16) ^^^ cTab.getD (x % 16) 0 := by
  have e : x = (x % 16) ^^^ (x / 16 * 2 ^ 4) := by rw [add_eq_xor (by omega)]; omega
  conv => lhs; rw [e]
  rw [cSs_xor, cSs_pow, Nat.xor_comm]
  congr 1
  have : ∀ i : Fin 16, cSs 4 i.val = cTab.getD i.val 0 := by decide
  exact this ⟨x % 16, by omega⟩

/-- A byte. -/
def cUpd (r b : Nat) : Nat := cSs 8 (r ^^^ b)
theorem cUpd_nib (r b : Nat) : cUpd r b = cSs 4 (cSs 4 (r ^^^ b)) := by unfold cUpd; rw [show (8 : Nat) = 4 + 4 from rfl, cSs_add]
def cCrc (r : Nat) (l : List Nat) : Nat := l.foldl cUpd r
theorem cCrc_snoc (r : Nat) (l : List Nat) (b : Nat) : cCrc r (l ++ [b]) = cUpd (cCrc r l) b := by simp [cCrc]
theorem cUpd_lt {r b : Nat} (hr : r < 4294967296) (hb : b < 256) : cUpd r b < 4294967296 := cSs_lt 8 (Nat.xor_lt_two_pow (n := 32) hr (by omega))
theorem cCrc_lt (l : List Nat) : ∀ {r : Nat}, r < 4294967296 → (∀ b ∈ l, b < 256) → cCrc r l < 4294967296 := by
  induction l with
  | nil => intro r h _; exact h
  | cons b l ih => intro r h hl; exact ih (cUpd_lt h (hl b (by simp))) (fun x hx => hl x (by simp [hx]))

/-- The bytes as one number, the least first. -/
def num : List Nat → Nat
  | [] => 0
  | b :: r => b + 256 * num r

theorem cCrc_num (l : List Nat) : ∀ (r : Nat), (∀ b ∈ l, b < 256) → cCrc r l = cSs (8 * l.length) (r ^^^ num l) := by
  induction l with
  | nil => intro r _; simp [cCrc, num, cSs]
  | cons b l ih =>
    intro r h
    have hb := h b (by simp)
    have e : cCrc r (b :: l) = cCrc (cUpd r b) l := rfl
    rw [e, ih _ (fun x hx => h x (by simp [hx]))]
    rw [show 8 * (b :: l).length = 8 + 8 * l.length from by simp; omega, cSs_add]
    congr 1
    rw [show num (b :: l) = b ^^^ (num l * 2 ^ 8) from by rw [add_eq_xor (by omega)]; simp [num]; omega, ← Nat.xor_assoc, cSs_xor, cSs_pow]
    rfl

theorem num_set (l : List Nat) : ∀ (j x : Nat), j < l.length → x < 256 → (∀ b ∈ l, b < 256) → num (l.set j (l.getD j 0 ^^^ x)) = num l ^^^ (x * 256 ^ j) := by
  induction l with
  | nil => intro j x h; simp at h
  | cons b l ih =>
    intro j x hj hx h
    have hb := h b (by simp)
    cases j with
    | zero =>
      have hbx : b ^^^ x < 2 ^ 8 := Nat.xor_lt_two_pow (n := 8) (by omega) (by omega)
      simp [num]
      rw [show 256 * num l = num l * 2 ^ 8 from by omega, ← add_eq_xor hbx, ← add_eq_xor (show b < 2 ^ 8 by omega)]
      ac_rfl
    | succ j =>
      simp [num]
      have hih := ih j x (by simpa using hj) hx (fun y hy => h y (by simp [hy]))
      simp at hih
      rw [hih, show 256 * (num l ^^^ x * 256 ^ j) = (num l ^^^ x * 256 ^ j) * 2 ^ 8 from by omega, show 256 * num l = num l * 2 ^ 8 from by omega,
        ← add_eq_xor (show b < 2 ^ 8 by omega), ← add_eq_xor (show b < 2 ^ 8 by omega), xor_mul, show x * 256 ^ (j + 1) = x * 256 ^ j * 2 ^ 8 from by rw [Nat.mul_assoc]; rfl, ← Nat.xor_assoc]

/-- **A burst**: what differs by M * 2 ^ from, M of at most 32 bits, has the same checksum only if M is 0. -/
theorem cCrc_burst {l l' : List Nat} {r M f : Nat} (hl : ∀ b ∈ l, b < 256) (hl' : ∀ b ∈ l', b < 256) (hlen : l'.length = l.length) (hM : M < 4294967296) (hf : f ≤ 8 * l.length)
    (hn : num l' = num l ^^^ (M * 2 ^ f)) : cCrc r l' = cCrc r l ↔ M = 0 := by
  rw [cCrc_num l r hl, cCrc_num l' r hl', hlen, hn, ← Nat.xor_assoc, cSs_xor _ (r ^^^ num l)]
  have e : cSs (8 * l.length) (M * 2 ^ f) = cSs (8 * l.length - f) M := by
    rw [show 8 * l.length = f + (8 * l.length - f) from by omega, cSs_add, cSs_pow]
    congr 1; omega
  rw [e]
  constructor
  · intro h
    by_cases h0 : M = 0
    · exact h0
    · exfalso
      refine cSs_ne (8 * l.length - f) hM h0 ?_
      have := congrArg (fun z => cSs (8 * l.length) (r ^^^ num l) ^^^ z) h
      simpa [← Nat.xor_assoc] using this
  · intro h; subst h; rw [cSs_zero]; simp

/-- **Affine.** -/
theorem cCrc_affine {a b c x : List Nat} {r : Nat} (ha : ∀ y ∈ a, y < 256) (hb : ∀ y ∈ b, y < 256) (hc : ∀ y ∈ c, y < 256) (hx : ∀ y ∈ x, y < 256)
    (eb : b.length = a.length) (ec : c.length = a.length) (ex : x.length = a.length) (hn : num x = num a ^^^ num b ^^^ num c) :
    cCrc r x = cCrc r a ^^^ cCrc r b ^^^ cCrc r c := by
  rw [cCrc_num a r ha, cCrc_num b r hb, cCrc_num c r hc, cCrc_num x r hx, eb, ec, ex, hn, ← cSs_xor, ← cSs_xor]
  congr 1
  rw [show r ^^^ num a ^^^ (r ^^^ num b) ^^^ (r ^^^ num c) = (r ^^^ r) ^^^ r ^^^ (num a ^^^ num b ^^^ num c) from by ac_rfl]
  simp
end Go.Proofs.YtdbjnojalfkaaaaDoor
