/- PLAIN: decimal numerals read and written; lines cut at spaces; queries and their lines. No program stands in it. -/
import Derived.Lib.AtoiAllCases
import Derived.Lib.ItoaLen
import Derived.Lib.IndexMore
import Derived.Lib.Join
namespace Go.Proofs.YtmjcjgmmolmibaaDoor
open Go.Lib

/-! ### Numerals -/
/-- What Atoi reads, if Itoa writes it so. -/
def num (l : List UInt8) : Option Int :=
  match atoiAll l with
  | .ok n => if itoa n = l then some n else none
  | _ => none

theorem decDigits_ne (u : Nat) : decDigits u ≠ [] := by
  have h := decDigits_length u
  have h1 := nDigits_pos u
  intro e
  rw [e] at h
  simp at h
  omega

theorem digit_nat {d : Nat} (h : d < 10) : (UInt8.ofNat (48 + d)).toNat = 48 + d := by
  simp
  omega

theorem decDigits_digit (u : Nat) : ∀ c ∈ decDigits u, 48 ≤ c.toNat ∧ c.toNat ≤ 57 := by
  induction u using Nat.strongRecOn with
  | _ u ih =>
    intro c hc
    rw [decDigits] at hc
    by_cases h : u < 10
    · rw [dif_pos h] at hc
      simp only [List.mem_singleton] at hc
      subst hc
      rw [digit_nat h]
      omega
    · rw [dif_neg h] at hc
      rcases List.mem_append.1 hc with hc | hc
      · exact ih _ (by omega) c hc
      · simp only [List.mem_singleton] at hc
        subst hc
        rw [digit_nat (by omega)]
        omega

theorem parse_digit {a d : Nat} (r : List UInt8) (hd : d < 10) (h : a * 10 + d < 18446744073709551616) : parseUint10 a (UInt8.ofNat (48 + d) :: r) = parseUint10 (a * 10 + d) r := by
  rw [parseUint10]
  rw [digit_nat hd]
  rw [if_pos (by omega), if_neg (by omega), if_neg (by omega)]
  congr 1
  omega

theorem parse_digits (u : Nat) : ∀ (a : Nat) (r : List UInt8), a * 10 ^ nDigits u + u < 18446744073709551616 → parseUint10 a (decDigits u ++ r) = parseUint10 (a * 10 ^ nDigits u + u) r := by
  induction u using Nat.strongRecOn with
  | _ u ih =>
    intro a r hlt
    rw [decDigits]
    by_cases h : u < 10
    · rw [dif_pos h]
      rw [nDigits_small h] at hlt ⊢
      simp only [Nat.pow_one, List.cons_append, List.nil_append] at hlt ⊢
      exact parse_digit r h hlt
    · rw [dif_neg h, List.append_assoc]
      rw [nDigits_big h, Nat.pow_succ] at hlt ⊢
      obtain ⟨P, hP⟩ : ∃ P, P = a * 10 ^ nDigits (u / 10) := ⟨_, rfl⟩
      have e : a * (10 ^ nDigits (u / 10) * 10) = P * 10 := by rw [hP, Nat.mul_assoc]
      rw [e] at hlt ⊢
      rw [ih (u / 10) (by omega) a _ (by rw [← hP]; omega), ← hP]
      rw [List.cons_append, List.nil_append, parse_digit _ (by omega) (by omega)]
      congr 1
      omega

theorem parseMag_dec {u : Nat} (h : u < 18446744073709551616) : parseMag (decDigits u) = .ok u := by
  unfold parseMag
  rw [if_neg (decDigits_ne u)]
  have := parse_digits u 0 [] (by omega)
  rw [List.append_nil] at this
  rw [this, parseUint10]
  congr 1
  omega

def I64 (n : Int) : Prop := -9223372036854775808 ≤ n ∧ n ≤ 9223372036854775807

theorem atoi_itoa {n : Int} (h : I64 n) : atoiAll (itoa n) = .ok n := by
  unfold I64 at h
  unfold itoa
  by_cases hn : n < 0
  · rw [if_pos hn, atoiAll_minus, parseMag_dec (by omega)]
    simp only [signed]
    rw [if_neg (by omega)]
    congr 1
    omega
  · rw [if_neg hn]
    have h1 := decDigits_digit n.toNat
    have h2 := parseMag_dec (u := n.toNat) (by omega)
    cases hd : decDigits n.toNat with
    | nil => exact absurd hd (decDigits_ne _)
    | cons c r =>
      have hc := h1 c (by rw [hd]; exact List.mem_cons_self)
      rw [atoiAll_plain c r (by omega) (by omega), ← hd, h2]
      simp only [signless]
      rw [if_neg (by omega)]
      congr 1
      omega

theorem num_itoa {n : Int} (h : I64 n) : num (itoa n) = some n := by
  unfold num
  rw [atoi_itoa h]
  simp
theorem num_some {l : List UInt8} {n : Int} (h : num l = some n) : itoa n = l ∧ I64 n ∧ atoiAll l = .ok n := by
  unfold num at h
  split at h
  · rename_i m hm
    split at h
    · rename_i he
      injection h with h
      subst h
      exact ⟨he, atoiAll_bounds hm, hm⟩
    · cases h
  · cases h
theorem num_nil : num [] = none := rfl
theorem itoa_inj {m n : Int} (hm : I64 m) (hn : I64 n) (h : itoa m = itoa n) : m = n := by
  have h1 := atoi_itoa hm
  rw [h, atoi_itoa hn] at h1
  injection h1 with h1
  exact h1.symm
theorem itoa_mem (n : Int) : ∀ c ∈ itoa n, c.toNat = 45 ∨ 48 ≤ c.toNat ∧ c.toNat ≤ 57 := by
  intro c hc
  unfold itoa at hc
  split at hc
  · rcases List.mem_cons.1 hc with rfl | hc
    · exact .inl rfl
    · exact .inr (decDigits_digit _ c hc)
  · exact .inr (decDigits_digit _ c hc)
theorem itoa_ne (n : Int) : itoa n ≠ [] := by
  unfold itoa
  split
  · simp
  · exact decDigits_ne _
theorem nDigits_le {k u : Nat} (h : u < 10 ^ (k + 1)) : nDigits u ≤ k + 1 := by
  induction k generalizing u with
  | zero => rw [nDigits_small (by simpa using h)]; omega
  | succ k ih =>
    by_cases hu : u < 10
    · rw [nDigits_small hu]; omega
    · rw [nDigits_big hu]
      have := @ih (u / 10) (by rw [Nat.pow_succ] at h; omega)
      omega
theorem itoa_len {n : Int} (h : -1000000000 ≤ n ∧ n ≤ 1000000000) : (itoa n).length ≤ 11 := by
  unfold itoa
  split
  · rw [List.length_cons, decDigits_length]
    have := nDigits_le (k := 9) (u := n.natAbs) (by omega)
    omega
  · rw [decDigits_length]
    have := nDigits_le (k := 9) (u := n.toNat) (by omega)
    omega
theorem itoa_len1 {n : Int} (h : 0 ≤ n ∧ n ≤ 9) : (itoa n).length = 1 := by
  unfold itoa
  rw [if_neg (by omega), decDigits_length, nDigits_small (by omega)]

/-! ### Lines cut at spaces -/
def spl : List UInt8 → List (List UInt8)
  | [] => [[]]
  | c :: r => if c = 32 then [] :: spl r else
    match spl r with
    | [] => [[c]]
    | w :: ws => (c :: w) :: ws
theorem spl_ne (l : List UInt8) : spl l ≠ [] := by
  cases l with
  | nil => simp [spl]
  | cons c r =>
    rw [spl]
    split
    · simp
    · split <;> simp
theorem spl_word {w : List UInt8} (h : ∀ c ∈ w, c ≠ 32) : spl w = [w] := by
  induction w with
  | nil => rfl
  | cons c r ih =>
    rw [spl, if_neg (h c List.mem_cons_self), ih fun d hd => h d (List.mem_cons_of_mem _ hd)]
theorem spl_app {w : List UInt8} (h : ∀ c ∈ w, c ≠ 32) (r : List UInt8) : spl (w ++ 32 :: r) = w :: spl r := by
  induction w with
  | nil => simp [spl]
  | cons c t ih =>
    rw [List.cons_append, spl, if_neg (h c List.mem_cons_self), ih fun d hd => h d (List.mem_cons_of_mem _ hd)]
theorem join_cons2 (w v : List UInt8) (ws : List (List UInt8)) : join (w :: v :: ws) [32] = w ++ 32 :: join (v :: ws) [32] := by
  rw [join_cons, join_cons]
  simp [joinTail]
theorem spl_join : ∀ {ws : List (List UInt8)}, ws ≠ [] → (∀ w ∈ ws, ∀ c ∈ w, c ≠ 32) → spl (join ws [32]) = ws
  | [], h, _ => absurd rfl h
  | [w], _, h => by rw [join_one]; exact spl_word (h w List.mem_cons_self)
  | w :: v :: ws, _, h => by
    rw [join_cons2, spl_app (h w List.mem_cons_self), spl_join (by simp) fun x hx => h x (List.mem_cons_of_mem _ hx)]
theorem join_spl (l : List UInt8) : join (spl l) [32] = l := by
  induction l with
  | nil => rfl
  | cons c r ih =>
    rw [spl]
    split
    · rename_i hc
      subst hc
      cases hs : spl r with
      | nil => exact absurd hs (spl_ne r)
      | cons w ws =>
        rw [join_cons2, ← hs, ih]
        rfl
    · cases hs : spl r with
      | nil => exact absurd hs (spl_ne r)
      | cons w ws =>
        rw [hs] at ih
        simp only
        rw [join_cons] at ih ⊢
        rw [List.cons_append, ih]
theorem spl_mem (l : List UInt8) : ∀ w ∈ spl l, ∀ c ∈ w, c ≠ 32 := by
  induction l with
  | nil => intro w hw; simp [spl] at hw; subst hw; simp
  | cons c r ih =>
    rw [spl]
    split
    · intro w hw
      rcases List.mem_cons.1 hw with rfl | hw
      · simp
      · exact ih w hw
    · rename_i hc
      cases hs : spl r with
      | nil => exact absurd hs (spl_ne r)
      | cons v vs =>
        rw [hs] at ih
        intro w hw
        rcases List.mem_cons.1 hw with rfl | hw
        · intro d hd
          rcases List.mem_cons.1 hd with rfl | hd
          · exact hc
          · exact ih v List.mem_cons_self d hd
        · exact ih w (List.mem_cons_of_mem _ hw)
theorem spl_len (l : List UInt8) : ∀ w ∈ spl l, w.length ≤ l.length := by
  induction l with
  | nil => intro w hw; simp [spl] at hw; subst hw; simp
  | cons c r ih =>
    rw [spl]
    split
    · intro w hw
      rcases List.mem_cons.1 hw with rfl | hw
      · simp
      · have := ih w hw; simp; omega
    · cases hs : spl r with
      | nil => exact absurd hs (spl_ne r)
      | cons v vs =>
        rw [hs] at ih
        intro w hw
        rcases List.mem_cons.1 hw with rfl | hw
        · have := ih v List.mem_cons_self; simp; omega
        · have := ih w (List.mem_cons_of_mem _ hw); simp; omega

/-! ### Queries -/
structure MQ where
  kind : Int
  table : Int
  column : Int
  low : Int
  high : Int
  by_ : Int
  other : Int
deriving DecidableEq
def MQ.zero : MQ := ⟨0, 0, 0, 0, 0, 0, 0⟩
def MQ.Ok (q : MQ) : Prop := I64 q.kind ∧ I64 q.table ∧ I64 q.column ∧ I64 q.low ∧ I64 q.high ∧ I64 q.by_ ∧ I64 q.other
def scanB (q : MQ) : Bool := 0 ≤ q.table && q.table ≤ 3 && (0 ≤ q.column && q.column ≤ 3) && -1000000000 ≤ q.low && q.low ≤ q.high && q.high ≤ 1000000000
def validB (q : MQ) : Bool :=
  scanB q &&
    (if q.kind = 1 then q.column = 0 && q.low = q.high && (1 ≤ q.low && q.low ≤ 1000000) && q.by_ = 0 && q.other = 0
    else if q.kind = 2 || q.kind = 3 then q.by_ = 0 && q.other = 0
    else if q.kind = 4 || q.kind = 5 || q.kind = 6 then (1 ≤ q.by_ && q.by_ ≤ 3) && q.other = 0
    else if q.kind = 7 then (1 ≤ q.by_ && q.by_ ≤ 3) && (0 ≤ q.other && q.other ≤ 3)
    else false)

def bs (l : List Nat) : List UInt8 := l.map fun n => UInt8.ofNat n
def wRow : List UInt8 := bs [114, 111, 119]
def wRows : List UInt8 := bs [114, 111, 119, 115]
def wCount : List UInt8 := bs [99, 111, 117, 110, 116]
def wSum : List UInt8 := bs [115, 117, 109]
def wMin : List UInt8 := bs [109, 105, 110]
def wMax : List UInt8 := bs [109, 97, 120]
def wJoin : List UInt8 := bs [106, 111, 105, 110]
def wTo : List UInt8 := bs [116, 111]
def wOf : List UInt8 := bs [111, 102]
def wordOf (k : Int) : List UInt8 :=
  if k = 1 then wRow else if k = 2 then wRows else if k = 3 then wCount else if k = 4 then wSum else if k = 5 then wMin else if k = 6 then wMax else if k = 7 then wJoin else []
def kindOf (w : List UInt8) : Int :=
  if w = wRow then 1 else if w = wRows then 2 else if w = wCount then 3 else if w = wSum then 4 else if w = wMin then 5 else if w = wMax then 6 else if w = wJoin then 7 else 0

/-- The words behind the first. -/
def rest (q : MQ) : List (List UInt8) :=
  if q.kind = 1 then [itoa q.table, itoa q.low]
  else if q.kind = 2 ∨ q.kind = 3 then [itoa q.table, itoa q.column, itoa q.low, itoa q.high]
  else if q.kind = 7 then [itoa q.by_, wTo, itoa q.other, wOf, itoa q.table, itoa q.column, itoa q.low, itoa q.high]
  else if q.kind = 4 ∨ q.kind = 5 ∨ q.kind = 6 then [itoa q.by_, wOf, itoa q.table, itoa q.column, itoa q.low, itoa q.high]
  else []
def wordsOf (q : MQ) : List (List UInt8) := wordOf q.kind :: rest q
def line (q : MQ) : List UInt8 := join (wordsOf q) [32]

theorem kind_word {k : Int} (h : 1 ≤ k ∧ k ≤ 7) : kindOf (wordOf k) = k := by
  rcases (by omega : k = 1 ∨ k = 2 ∨ k = 3 ∨ k = 4 ∨ k = 5 ∨ k = 6 ∨ k = 7) with rfl | rfl | rfl | rfl | rfl | rfl | rfl <;> decide
theorem word_kind {w : List UInt8} (h : kindOf w ≠ 0) : wordOf (kindOf w) = w ∧ 1 ≤ kindOf w ∧ kindOf w ≤ 7 := by
  unfold kindOf at h ⊢
  repeat' split at h
  all_goals first
    | (subst_vars; decide)
    | exact absurd rfl h
theorem kind_range (w : List UInt8) : 0 ≤ kindOf w ∧ kindOf w ≤ 7 := by
  unfold kindOf
  repeat' split
  all_goals omega

/-- The words as they are read: behind the last one there are empty ones. -/
def at_ (ws : List (List UInt8)) (i : Nat) : List UInt8 := ws.getD i []

/-- What a list of words spells. -/
def readM (ws : List (List UInt8)) : Option MQ :=
  let k := kindOf (at_ ws 0)
  if k = 0 then none
  else if k = 1 then
    match num (at_ ws 1), num (at_ ws 2) with
    | some t, some l => if ws.length ≤ 3 then some ⟨1, t, 0, l, l, 0, 0⟩ else none
    | _, _ => none
  else if k = 2 ∨ k = 3 then
    match num (at_ ws 1), num (at_ ws 2), num (at_ ws 3), num (at_ ws 4) with
    | some t, some c, some l, some h => if ws.length ≤ 5 then some ⟨k, t, c, l, h, 0, 0⟩ else none
    | _, _, _, _ => none
  else if k = 7 then
    match num (at_ ws 1), num (at_ ws 3), num (at_ ws 5), num (at_ ws 6), num (at_ ws 7), num (at_ ws 8) with
    | some b, some o, some t, some c, some l, some h => if at_ ws 2 = wTo ∧ at_ ws 4 = wOf ∧ ws.length ≤ 9 then some ⟨7, t, c, l, h, b, o⟩ else none
    | _, _, _, _, _, _ => none
  else
    match num (at_ ws 1), num (at_ ws 3), num (at_ ws 4), num (at_ ws 5), num (at_ ws 6) with
    | some b, some t, some c, some l, some h => if at_ ws 2 = wOf ∧ ws.length ≤ 7 then some ⟨k, t, c, l, h, b, 0⟩ else none
    | _, _, _, _, _ => none

/-- What Parse returns. -/
def parse (s : List UInt8) : Option MQ := (readM (spl s)).filter validB

theorem valid_ok {q : MQ} (h : validB q = true) : q.Ok ∧ 1 ≤ q.kind ∧ q.kind ≤ 7 := by
  obtain ⟨k, t, c, l, hh, b, o⟩ := q
  unfold validB scanB at h
  simp only [Bool.and_eq_true, decide_eq_true_eq] at h
  obtain ⟨⟨⟨⟨⟨⟨h1, h2⟩, h3, h4⟩, h5⟩, h6⟩, h7⟩, hk⟩ := h
  unfold MQ.Ok I64
  simp only
  split at hk
  · simp only [Bool.and_eq_true, decide_eq_true_eq] at hk
    omega
  · split at hk
    · rename_i hq
      simp only [Bool.or_eq_true, decide_eq_true_eq] at hq
      simp only [Bool.and_eq_true, decide_eq_true_eq] at hk
      omega
    · split at hk
      · rename_i hq
        simp only [Bool.or_eq_true, decide_eq_true_eq] at hq
        simp only [Bool.and_eq_true, decide_eq_true_eq] at hk
        omega
      · split at hk
        · simp only [Bool.and_eq_true, decide_eq_true_eq] at hk
          omega
        · cases hk
theorem valid_nf {q : MQ} (h : validB q = true) :
    q.kind = 1 ∧ q.column = 0 ∧ q.low = q.high ∧ q.by_ = 0 ∧ q.other = 0 ∨
    (q.kind = 2 ∨ q.kind = 3) ∧ q.by_ = 0 ∧ q.other = 0 ∨
    (q.kind = 4 ∨ q.kind = 5 ∨ q.kind = 6) ∧ q.other = 0 ∨ q.kind = 7 := by
  unfold validB at h
  simp only [Bool.and_eq_true] at h
  have hk := h.2
  clear h
  split at hk
  · simp only [Bool.and_eq_true, decide_eq_true_eq] at hk
    omega
  · split at hk
    · rename_i hq
      simp only [Bool.or_eq_true, decide_eq_true_eq] at hq
      simp only [Bool.and_eq_true, decide_eq_true_eq] at hk
      omega
    · split at hk
      · rename_i hq
        simp only [Bool.or_eq_true, decide_eq_true_eq] at hq
        simp only [Bool.and_eq_true, decide_eq_true_eq] at hk
        omega
      · split at hk
        · omega
        · cases hk

theorem read_words {q : MQ} (h : validB q = true) : readM (wordsOf q) = some q := by
  obtain ⟨ho, hk⟩ := valid_ok h
  have hn := valid_nf h
  obtain ⟨k, t, c, l, hh, b, o⟩ := q
  obtain ⟨i1, i2, i3, i4, i5, i6, i7⟩ := ho
  simp only at i1 i2 i3 i4 i5 i6 i7 hk hn
  have e := kind_word hk
  rcases hn with ⟨rfl, rfl, rfl, rfl, rfl⟩ | ⟨hk2, rfl, rfl⟩ | ⟨hk2, rfl⟩ | rfl
  · simp [readM, wordsOf, rest, at_, e, num_itoa i2, num_itoa i4]
  · have e1 : ¬ k = 0 := by omega
    have e2 : ¬ k = 1 := by omega
    simp [readM, wordsOf, rest, at_, e, num_itoa i2, num_itoa i3, num_itoa i4, num_itoa i5, e1, e2, hk2]
  · have e1 : ¬ k = 0 := by omega
    have e2 : ¬ k = 1 := by omega
    have e3 : ¬ (k = 2 ∨ k = 3) := by omega
    have e4 : ¬ k = 7 := by omega
    simp [readM, wordsOf, rest, at_, e, num_itoa i2, num_itoa i3, num_itoa i4, num_itoa i5, num_itoa i6, e1, e2, e3, e4, hk2]
  · simp [readM, wordsOf, rest, at_, e, num_itoa i2, num_itoa i3, num_itoa i4, num_itoa i5, num_itoa i6, num_itoa i7]

theorem bs_clean : ∀ w ∈ [wRow, wRows, wCount, wSum, wMin, wMax, wJoin, wTo, wOf], ∀ c ∈ w, c ≠ 32 ∧ c ≠ 10 := by decide
theorem itoa_clean (n : Int) : ∀ c ∈ itoa n, c ≠ 32 ∧ c ≠ 10 := by
  intro c hc
  have := itoa_mem n c hc
  constructor
  · rintro rfl
    simp at this
  · rintro rfl
    simp at this
theorem words_clean {q : MQ} : ∀ w ∈ wordsOf q, ∀ c ∈ w, c ≠ 32 ∧ c ≠ 10 := by
  intro w hw
  unfold wordsOf at hw
  rcases List.mem_cons.1 hw with rfl | hw
  · unfold wordOf
    repeat' split
    all_goals first
      | (apply bs_clean; simp; done)
      | simp
  · unfold rest at hw
    repeat' split at hw
    all_goals
      simp only [List.mem_cons, List.not_mem_nil, or_false] at hw
    all_goals first
      | exact hw.elim
      | (rcases hw with rfl | rfl | rfl | rfl | rfl | rfl | rfl | rfl <;> first | exact itoa_clean _ | (apply bs_clean; simp))
      | (rcases hw with rfl | rfl | rfl | rfl | rfl | rfl <;> first | exact itoa_clean _ | (apply bs_clean; simp))
      | (rcases hw with rfl | rfl | rfl | rfl <;> first | exact itoa_clean _ | (apply bs_clean; simp))
      | (rcases hw with rfl | rfl <;> first | exact itoa_clean _ | (apply bs_clean; simp))
theorem spl_line (q : MQ) : spl (line q) = wordsOf q := spl_join (by simp [wordsOf]) fun w hw c hc => (words_clean w hw c hc).1
theorem parse_line {q : MQ} (h : validB q = true) : parse (line q) = some q := by
  unfold parse
  rw [spl_line, read_words h]
  simp [h]

theorem at_num {ws : List (List UInt8)} {i : Nat} {n : Int} (h : num (at_ ws i) = some n) : i < ws.length ∧ at_ ws i = itoa n ∧ I64 n := by
  have h1 := num_some h
  refine ⟨?_, h1.1.symm, h1.2.1⟩
  refine Nat.lt_of_not_le fun hl => ?_
  have : at_ ws i = [] := by unfold at_; rw [List.getD_eq_getElem?_getD, List.getElem?_eq_none hl]; rfl
  rw [this, num_nil] at h
  cases h
theorem list_of_at (ws : List (List UInt8)) : ws = (List.range ws.length).map (at_ ws) := by
  refine List.ext_getElem (by simp) fun i h1 h2 => ?_
  simp [at_, List.getD_eq_getElem?_getD, List.getElem?_eq_getElem h1]
/-- What is read is spelled so. -/
theorem words_of_read {ws : List (List UInt8)} {q : MQ} (h : readM ws = some q) : ws = wordsOf q := by
  unfold readM at h
  simp only at h
  split at h
  · cases h
  · rename_i k0
    obtain ⟨e0, k1, k7⟩ := word_kind k0
    split at h
    · rename_i k1'
      split at h
      · rename_i t l ht hl
        split at h
        · rename_i hlen
          injection h with h
          subst h
          obtain ⟨a1, a2, _⟩ := at_num ht
          obtain ⟨b1, b2, _⟩ := at_num hl
          have hw : ws.length = 3 := by omega
          rw [list_of_at ws, hw]
          rw [k1'] at e0
          simp [List.range_succ, wordsOf, rest, a2, b2, e0]
        · cases h
      · cases h
    · split at h
      · rename_i k23
        split at h
        · rename_i t c l hh ht hc hl hhh
          split at h
          · rename_i hlen
            injection h with h
            subst h
            obtain ⟨a1, a2, _⟩ := at_num ht
            obtain ⟨b1, b2, _⟩ := at_num hc
            obtain ⟨c1, c2, _⟩ := at_num hl
            obtain ⟨d1, d2, _⟩ := at_num hhh
            have hw : ws.length = 5 := by omega
            have e1 : ¬ kindOf (at_ ws 0) = 1 := by omega
            generalize kindOf (at_ ws 0) = k at *
            rw [list_of_at ws, hw]
            simp [List.range_succ, wordsOf, rest, a2, b2, c2, d2, e0, e1, k23]
          · cases h
        · cases h
      · split at h
        · rename_i k7'
          split at h
          · rename_i b o t c l hh hb ho ht hc hl hhh
            split at h
            · rename_i hlen
              injection h with h
              subst h
              obtain ⟨p1, p2, _⟩ := at_num hb
              obtain ⟨q1, q2, _⟩ := at_num ho
              obtain ⟨a1, a2, _⟩ := at_num ht
              obtain ⟨b1, b2, _⟩ := at_num hc
              obtain ⟨c1, c2, _⟩ := at_num hl
              obtain ⟨d1, d2, _⟩ := at_num hhh
              have hw : ws.length = 9 := by omega
              rw [list_of_at ws, hw]
              rw [k7'] at e0
              simp [List.range_succ, wordsOf, rest, p2, q2, a2, b2, c2, d2, e0, hlen.1, hlen.2.1]
            · cases h
          · cases h
        · rename_i k1' k23 k7'
          split at h
          · rename_i b t c l hh hb ht hc hl hhh
            split at h
            · rename_i hlen
              injection h with h
              subst h
              obtain ⟨p1, p2, _⟩ := at_num hb
              obtain ⟨a1, a2, _⟩ := at_num ht
              obtain ⟨b1, b2, _⟩ := at_num hc
              obtain ⟨c1, c2, _⟩ := at_num hl
              obtain ⟨d1, d2, _⟩ := at_num hhh
              have hw : ws.length = 7 := by omega
              have e4 : kindOf (at_ ws 0) = 4 ∨ kindOf (at_ ws 0) = 5 ∨ kindOf (at_ ws 0) = 6 := by omega
              generalize kindOf (at_ ws 0) = k at *
              rw [list_of_at ws, hw]
              simp [List.range_succ, wordsOf, rest, p2, a2, b2, c2, d2, e0, hlen.1, k1', k23, k7', e4]
            · cases h
          · cases h
theorem parse_some {s : List UInt8} {q : MQ} (h : parse s = some q) : validB q = true ∧ line q = s := by
  unfold parse at h
  rw [Option.filter_eq_some_iff] at h
  refine ⟨h.2, ?_⟩
  have := words_of_read h.1
  unfold line
  rw [← this, join_spl]
theorem parse_iff {s : List UInt8} {q : MQ} : parse s = some q ↔ validB q = true ∧ line q = s :=
  ⟨parse_some, fun ⟨h, e⟩ => e ▸ parse_line h⟩
theorem line_inj {p q : MQ} (hp : validB p = true) (hq : validB q = true) : line p = line q ↔ p = q :=
  ⟨fun h => by
    have h1 := parse_line hp
    rw [h, parse_line hq] at h1
    injection h1 with h1
    exact h1.symm, fun h => by rw [h]⟩
theorem line_nl (q : MQ) : ∀ c ∈ line q, c ≠ 10 := by
  have h := words_clean (q := q)
  unfold line
  generalize wordsOf q = ws at h
  intro c hc
  cases ws with
  | nil => simp [join_nil] at hc
  | cons w r =>
    rw [join_cons] at hc
    rcases List.mem_append.1 hc with hc | hc
    · exact (h w List.mem_cons_self c hc).2
    · unfold joinTail at hc
      rw [List.mem_flatten] at hc
      obtain ⟨x, hx, hc⟩ := hc
      obtain ⟨y, hy, rfl⟩ := List.mem_map.1 hx
      rcases List.mem_append.1 hc with hc | hc
      · simp only [List.mem_singleton] at hc
        subst hc
        decide
      · exact (h y (List.mem_cons_of_mem _ hy) c hc).2
theorem valid_bounds {q : MQ} (h : validB q = true) : (0 ≤ q.table ∧ q.table ≤ 9) ∧ (0 ≤ q.column ∧ q.column ≤ 9) ∧ (-1000000000 ≤ q.low ∧ q.low ≤ 1000000000) ∧ (-1000000000 ≤ q.high ∧ q.high ≤ 1000000000) ∧ (0 ≤ q.by_ ∧ q.by_ ≤ 9) ∧ (0 ≤ q.other ∧ q.other ≤ 9) := by
  obtain ⟨k, t, c, l, hh, b, o⟩ := q
  unfold validB scanB at h
  simp only [Bool.and_eq_true, decide_eq_true_eq] at h
  obtain ⟨⟨⟨⟨⟨⟨h1, h2⟩, h3, h4⟩, h5⟩, h6⟩, h7⟩, hk⟩ := h
  simp only
  split at hk
  · simp only [Bool.and_eq_true, decide_eq_true_eq] at hk
    omega
  · split at hk
    · simp only [Bool.and_eq_true, decide_eq_true_eq] at hk
      omega
    · split at hk
      · simp only [Bool.and_eq_true, decide_eq_true_eq] at hk
        omega
      · split at hk
        · simp only [Bool.and_eq_true, decide_eq_true_eq] at hk
          omega
        · cases hk
theorem line_len {q : MQ} (h : validB q = true) : (line q).length ≤ 42 := by
  have hn := valid_nf h
  obtain ⟨a1, a2, a3, a4, a5, a6⟩ := valid_bounds h
  have b1 := itoa_len1 a1
  have b2 := itoa_len1 a2
  have b3 := itoa_len a3
  have b4 := itoa_len a4
  have b5 := itoa_len1 a5
  have b6 := itoa_len1 a6
  unfold line wordsOf
  rw [join_cons, List.length_append, joinTail_length]
  have l0 : (wordOf q.kind).length ≤ 5 := by
    unfold wordOf
    repeat' split
    all_goals decide
  have l1 : wTo.length = 2 := by decide
  have l2 : wOf.length = 2 := by decide
  rcases hn with ⟨hk, _⟩ | ⟨hk, _⟩ | ⟨hk, _⟩ | hk
  · rw [hk] at l0
    simp [rest, hk, lens, b1]
    omega
  · have e1 : ¬ q.kind = 1 := by omega
    simp [rest, hk, e1, lens, b1, b2]
    omega
  · have e1 : ¬ q.kind = 1 := by omega
    have e2 : ¬ (q.kind = 2 ∨ q.kind = 3) := by omega
    have e3 : ¬ q.kind = 7 := by omega
    simp [rest, hk, e1, e2, e3, lens, b1, b2, b5, l2]
    omega
  · have l3 : (wordOf q.kind).length = 4 := by rw [hk]; decide
    simp [rest, hk, lens, b1, b2, b5, b6, l1, l2] at l3 ⊢
    omega
theorem line_head (q : MQ) (hk : 1 ≤ q.kind ∧ q.kind ≤ 7) : ∃ r, line q = wordOf q.kind ++ 32 :: r := by
  unfold line wordsOf
  have hr : rest q ≠ [] := by
    unfold rest
    split
    · simp
    · split
      · simp
      · split
        · simp
        · split
          · simp
          · omega
  cases h : rest q with
  | nil => exact absurd h hr
  | cons v ws => exact ⟨_, join_cons2 _ _ _⟩

/-! ### spell, over whatever two closures -/
structure SpS where
  ws : List (List UInt8)
  q : MQ
def MQ.get (q : MQ) (j : Nat) : Int := match j with
  | 0 => q.kind | 1 => q.table | 2 => q.column | 3 => q.low | 4 => q.high | 5 => q.by_ | _ => q.other
def MQ.set (q : MQ) (j : Nat) (n : Int) : MQ := match j with
  | 0 => { q with kind := n } | 1 => { q with table := n } | 2 => { q with column := n } | 3 => { q with low := n } | 4 => { q with high := n } | 5 => { q with by_ := n } | _ => { q with other := n }
def low2 (s : SpS) : SpS := { s with q := { s.q with high := s.q.low } }
section
variable (sw : SpS → List UInt8 → Option SpS) (sn : SpS → Nat → Option SpS)
def spell4 (s : SpS) : Option SpS := (sn s 1).bind fun s => (sn s 2).bind fun s => (sn s 3).bind fun s => sn s 4
def spellM (s : SpS) : Option SpS :=
  if s.q.kind = 1 then (sn s 1).bind fun s => (sn s 3).bind fun s => some (low2 s)
  else if s.q.kind = 2 ∨ s.q.kind = 3 then spell4 sn s
  else if s.q.kind = 4 ∨ s.q.kind = 5 ∨ s.q.kind = 6 then (sn s 5).bind fun s => (sw s wOf).bind fun s => spell4 sn s
  else if s.q.kind = 7 then (sn s 5).bind fun s => (sw s wTo).bind fun s => (sn s 6).bind fun s => (sw s wOf).bind fun s => spell4 sn s
  else some s
end
/-- Print's closures. -/
def pw (s : SpS) (x : List UInt8) : Option SpS := some { s with ws := s.ws ++ [x] }
def pn (s : SpS) (j : Nat) : Option SpS := some { s with ws := s.ws ++ [itoa (s.q.get j)] }
theorem print_spell {q : MQ} (h : validB q = true) : spellM pw pn ⟨[wordOf q.kind], q⟩ = some ⟨wordsOf q, q⟩ := by
  have hn := valid_nf h
  obtain ⟨k, t, c, l, hh, b, o⟩ := q
  simp only at hn
  rcases hn with ⟨rfl, rfl, rfl, rfl, rfl⟩ | ⟨hk2, rfl, rfl⟩ | ⟨hk2, rfl⟩ | rfl
  · simp [spellM, pn, low2, wordsOf, rest, MQ.get]
  · have e2 : ¬ k = 1 := by omega
    simp [spellM, spell4, pn, wordsOf, rest, MQ.get, e2, hk2]
  · have e2 : ¬ k = 1 := by omega
    have e3 : ¬ (k = 2 ∨ k = 3) := by omega
    have e4 : ¬ k = 7 := by omega
    simp [spellM, spell4, pn, pw, wordsOf, rest, MQ.get, e2, e3, e4, hk2]
  · simp [spellM, spell4, pn, pw, wordsOf, rest, MQ.get]
/-- The next word. -/
def hdw (ws : List (List UInt8)) : List UInt8 := ws.headD []
/-- read's closures. -/
def rw_ (s : SpS) (x : List UInt8) : Option SpS := if hdw s.ws = x then some { s with ws := s.ws.tail } else none
def rn (s : SpS) (j : Nat) : Option SpS := match num (hdw s.ws) with
  | some n => some ⟨s.ws.tail, s.q.set j n⟩
  | none => none
theorem head_drop (ws : List (List UInt8)) (i : Nat) : hdw (ws.drop i) = at_ ws i := by
  unfold at_ hdw
  rw [List.headD_eq_head?_getD, List.head?_drop, List.getD_eq_getElem?_getD]
theorem rn_drop (ws : List (List UInt8)) (i : Nat) (q : MQ) (j : Nat) : rn ⟨ws.drop i, q⟩ j = (num (at_ ws i)).map fun n => ⟨ws.drop (i + 1), q.set j n⟩ := by
  unfold rn
  simp only [head_drop, List.tail_drop]
  cases num (at_ ws i) <;> rfl
theorem rw_drop (ws : List (List UInt8)) (i : Nat) (q : MQ) (x : List UInt8) : rw_ ⟨ws.drop i, q⟩ x = if at_ ws i = x then some ⟨ws.drop (i + 1), q⟩ else none := by
  unfold rw_
  simp only [head_drop, List.tail_drop]
/-- What read returns. -/
def readR (ws : List (List UInt8)) : Option MQ :=
  (spellM rw_ rn ⟨ws.drop 1, ⟨kindOf (at_ ws 0), 0, 0, 0, 0, 0, 0⟩⟩).bind fun s => if s.ws = [] then some s.q else none
theorem readR_filter (ws : List (List UInt8)) : (readR ws).filter validB = (readM ws).filter validB := by
  unfold readR readM
  generalize kindOf (at_ ws 0) = k
  simp only
  by_cases h0 : k = 0
  · subst h0
    have hz : validB ⟨0, 0, 0, 0, 0, 0, 0⟩ = false := by decide
    simp only [if_true, Option.filter_none]
    have e : spellM rw_ rn ⟨ws.drop 1, ⟨0, 0, 0, 0, 0, 0, 0⟩⟩ = some ⟨ws.drop 1, ⟨0, 0, 0, 0, 0, 0, 0⟩⟩ := by simp [spellM]
    rw [e, Option.bind_some]
    by_cases hd : ws.drop 1 = []
    · simp only [hd, if_true]
      rw [Option.filter_some, if_neg (by rw [hz]; exact Bool.false_ne_true)]
    · simp only [hd, if_false, Option.filter_none]
  · rw [if_neg h0]
    by_cases h1 : k = 1
    · subst h1
      congr 1
      simp only [spellM, if_true, rn_drop]
      cases num (at_ ws 1) with
      | none => simp
      | some t =>
        simp only [Option.map_some, Option.bind_some, rn_drop]
        cases num (at_ ws 2) with
        | none => simp
        | some l => simp [low2, MQ.set, List.drop_eq_nil_iff]
    · rw [if_neg h1]
      by_cases h2 : k = 2 ∨ k = 3
      · congr 1
        rw [if_pos h2]
        simp only [spellM, if_neg h1, if_pos h2, spell4, rn_drop]
        cases num (at_ ws 1) with
        | none => simp
        | some t =>
          simp only [Option.map_some, Option.bind_some, rn_drop]
          cases num (at_ ws 2) with
          | none => simp
          | some c =>
            simp only [Option.map_some, Option.bind_some, rn_drop]
            cases num (at_ ws 3) with
            | none => simp
            | some l =>
              simp only [Option.map_some, Option.bind_some, rn_drop]
              cases num (at_ ws 4) with
              | none => simp
              | some hh => simp [MQ.set, List.drop_eq_nil_iff]
      · rw [if_neg h2]
        by_cases h7 : k = 7
        · congr 1
          subst h7
          rw [if_pos rfl]
          have g1 : ¬ ((7 : Int) = 1) := by decide
          have g2 : ¬ ((7 : Int) = 2 ∨ (7 : Int) = 3) := by decide
          have g4 : ¬ ((7 : Int) = 4 ∨ (7 : Int) = 5 ∨ (7 : Int) = 6) := by decide
          simp only [spellM, if_neg g1, if_neg g2, if_neg g4, if_true, spell4, rn_drop]
          cases num (at_ ws 1) with
          | none => simp
          | some b =>
            simp only [Option.map_some, Option.bind_some, rw_drop]
            by_cases w2 : at_ ws 2 = wTo
            · simp only [if_pos w2, Option.bind_some, rn_drop]
              cases num (at_ ws 3) with
              | none => simp
              | some o =>
                simp only [Option.map_some, Option.bind_some, rw_drop]
                by_cases w4 : at_ ws 4 = wOf
                · simp only [if_pos w4, Option.bind_some, rn_drop]
                  cases num (at_ ws 5) with
                  | none => simp
                  | some t =>
                    simp only [Option.map_some, Option.bind_some, rn_drop]
                    cases num (at_ ws 6) with
                    | none => simp
                    | some c =>
                      simp only [Option.map_some, Option.bind_some, rn_drop]
                      cases num (at_ ws 7) with
                      | none => simp
                      | some l =>
                        simp only [Option.map_some, Option.bind_some, rn_drop]
                        cases num (at_ ws 8) with
                        | none => simp
                        | some hh => simp [MQ.set, List.drop_eq_nil_iff, w2, w4]
                · simp only [if_neg w4, Option.bind_none]
                  split <;> simp [w4]
            · simp only [if_neg w2, Option.bind_none]
              split <;> simp [w2]
        · rw [if_neg h7]
          by_cases h4 : k = 4 ∨ k = 5 ∨ k = 6
          · congr 1
            simp only [spellM, if_neg h1, if_neg h2, if_pos h4, spell4, rn_drop]
            cases num (at_ ws 1) with
            | none => simp
            | some b =>
              simp only [Option.map_some, Option.bind_some, rw_drop]
              by_cases w2 : at_ ws 2 = wOf
              · simp only [if_pos w2, Option.bind_some, rn_drop]
                cases num (at_ ws 3) with
                | none => simp
                | some t =>
                  simp only [Option.map_some, Option.bind_some, rn_drop]
                  cases num (at_ ws 4) with
                  | none => simp
                  | some c =>
                    simp only [Option.map_some, Option.bind_some, rn_drop]
                    cases num (at_ ws 5) with
                    | none => simp
                    | some l =>
                      simp only [Option.map_some, Option.bind_some, rn_drop]
                      cases num (at_ ws 6) with
                      | none => simp
                      | some hh => simp [MQ.set, List.drop_eq_nil_iff, w2]
              · simp only [if_neg w2, Option.bind_none]
                split <;> simp [w2]
          · have hv : ∀ t c l h b o, validB ⟨k, t, c, l, h, b, o⟩ = false := by
              intro t c l h b o
              cases hb : validB ⟨k, t, c, l, h, b, o⟩ with
              | false => rfl
              | true =>
                have := valid_nf hb
                simp only at this
                omega
            have hl : spellM rw_ rn ⟨ws.drop 1, ⟨k, 0, 0, 0, 0, 0, 0⟩⟩ = some ⟨ws.drop 1, ⟨k, 0, 0, 0, 0, 0, 0⟩⟩ := by simp [spellM, h1, h2, h4, h7]
            have hL : ∀ x : Option MQ, (∀ q, x = some q → q.kind = k) → x.filter validB = none := by
              intro x hx
              cases x with
              | none => rfl
              | some q =>
                have hq := hx q rfl
                obtain ⟨k', t, c, l, h, b, o⟩ := q
                simp only at hq
                subst hq
                simp [hv]
            rw [hl, hL, hL]
            · intro q hq
              repeat' split at hq
              all_goals first
                | (cases hq; rfl)
                | cases hq
            · intro q hq
              rw [Option.bind_some] at hq
              split at hq
              · cases hq
                rfl
              · cases hq
theorem parse_readR (s : List UInt8) : (readR (spl s)).filter validB = parse s := readR_filter _
end Go.Proofs.YtmjcjgmmolmibaaDoor
