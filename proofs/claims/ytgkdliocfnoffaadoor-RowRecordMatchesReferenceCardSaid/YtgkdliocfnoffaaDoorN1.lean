/- PLAIN MATHEMATICS: readers of numbers; rows, changes and records as lists of numbers. No program stands in it. -/
import Derived.Test.YtgkdliocfnoffaaDoorM1
namespace Go.Proofs.YtgkdliocfnoffaaDoor set_option linter.unusedSimpArgs false

/-- A reader of numbers: done, refused, or wanting one more. -/
inductive Rd (α : Type) where
  | ret (a : α)
  | bad
  | get (f : Int → Rd α)

namespace Rd
def bind {α β : Type} : Rd α → (α → Rd β) → Rd β
  | ret a, f => f a
  | bad, _ => bad
  | get g, f => get fun n => (g n).bind f
/-- Over bytes, from an offset: 'false': no number is there; 'true': refused. -/
def run {α : Type} (L : List UInt8) : Rd α → Nat → Except Bool (α × Nat)
  | ret a, k => .ok (a, k)
  | bad, _ => .error true
  | get f, k => match decInt (L.drop k) with
    | none => .error false
    | some (n, m) => (f n).run L (k + m)
/-- Over a list of numbers. -/
def feed {α : Type} : Rd α → List Int → Option (α × List Int)
  | ret a, l => some (a, l)
  | bad, _ => none
  | get _, [] => none
  | get f, n :: l => (f n).feed l

theorem run_bind {α β : Type} (L : List UInt8) (p : Rd α) (f : α → Rd β) : ∀ k, (p.bind f).run L k = match p.run L k with
    | .error e => .error e
    | .ok (a, k') => (f a).run L k' := by
  induction p with
  | ret a => intro k; rfl
  | bad => intro k; rfl
  | get g ih =>
    intro k
    simp only [bind, run]
    cases decInt (L.drop k) with
    | none => rfl
    | some p => exact ih _ _
theorem feed_bind {α β : Type} (p : Rd α) (f : α → Rd β) : ∀ l, (p.bind f).feed l = match p.feed l with
    | none => none
    | some (a, l') => (f a).feed l' := by
  induction p with
  | ret a => intro l; rfl
  | bad => intro l; rfl
  | get g ih =>
    intro l
    cases l with
    | nil => rfl
    | cons n l => exact ih _ _
end Rd

def encs (l : List Int) : List UInt8 := l.flatMap encInt
theorem encs_nil : encs [] = [] := rfl
theorem encs_cons (n : Int) (l : List Int) : encs (n :: l) = encInt n ++ encs l := by simp [encs]
theorem encs_append (a b : List Int) : encs (a ++ b) = encs a ++ encs b := by simp [encs]
theorem encs_len (l : List Int) : (encs l).length ≤ 9 * l.length := by
  induction l with
  | nil => simp [encs]
  | cons n l ih =>
    rw [encs_cons, List.length_append, List.length_cons]
    have := encInt_len n
    omega
theorem encs_pos {l : List Int} (h : l ≠ []) : 1 ≤ (encs l).length := by
  cases l with
  | nil => exact absurd rfl h
  | cons n l =>
    rw [encs_cons, List.length_append]
    have := encInt_pos n
    omega

def Fit (n : Int) : Prop := -4611686018427387903 ≤ n ∧ n ≤ 4611686018427387903

theorem run_full {α : Type} (L : List UInt8) (p : Rd α) : ∀ (toks : List Int) (k : Nat) (a : α) (R : List UInt8), p.feed toks = some (a, []) → (∀ n ∈ toks, Fit n) → L.drop k = encs toks ++ R → p.run L k = .ok (a, k + (encs toks).length) := by
  induction p with
  | ret b =>
    intro toks k a R h _ _
    simp [Rd.feed] at h
    obtain ⟨rfl, rfl⟩ := h
    rfl
  | bad => intro toks k a R h; simp [Rd.feed] at h
  | get g ih =>
    intro toks k a R h hb hL
    cases toks with
    | nil => simp [Rd.feed] at h
    | cons n toks =>
      simp only [Rd.feed] at h
      have hn := hb n (by simp)
      rw [encs_cons, List.append_assoc] at hL
      have hd := decInt_enc n (encs toks ++ R) hn.1 hn.2
      rw [← hL] at hd
      simp only [Rd.run, hd]
      rw [ih n toks (k + (encInt n).length) a R h (fun m hm => hb m (by simp [hm])) (by rw [← List.drop_drop, hL, List.drop_left])]
      rw [encs_cons, List.length_append, Nat.add_assoc]

theorem run_cut {α : Type} (L : List UInt8) (p : Rd α) : ∀ (toks : List Int) (k j : Nat) (a : α), p.feed toks = some (a, []) → (∀ n ∈ toks, Fit n) → j < (encs toks).length → L.drop k = (encs toks).take j → p.run L k = .error false := by
  induction p with
  | ret b =>
    intro toks k j a h _ hj _
    simp [Rd.feed] at h
    obtain ⟨rfl, rfl⟩ := h
    simp [encs] at hj
  | bad => intro toks k j a h; simp [Rd.feed] at h
  | get g ih =>
    intro toks k j a h hb hj hL
    cases toks with
    | nil => simp [Rd.feed] at h
    | cons n toks =>
      simp only [Rd.feed] at h
      have hn := hb n (by simp)
      rw [encs_cons] at hL hj
      rw [List.length_append] at hj
      by_cases hs : j < (encInt n).length
      · have hd := decInt_prefix hn.1 hn.2 j hs
        rw [List.take_append_of_le_length (by omega)] at hL
        rw [← hL] at hd
        simp only [Rd.run, hd]
      · rw [List.take_append, List.take_of_length_le (by omega)] at hL
        have hd := decInt_enc n ((encs toks).take (j - (encInt n).length)) hn.1 hn.2
        rw [← hL] at hd
        simp only [Rd.run, hd]
        exact ih n toks _ (j - (encInt n).length) a h (fun m hm => hb m (by simp [hm])) (by omega) (by rw [← List.drop_drop, hL, List.drop_left])

theorem run_sound {α : Type} (L : List UInt8) (p : Rd α) : ∀ (k k' : Nat) (a : α), k ≤ L.length → p.run L k = .ok (a, k') → ∃ toks, p.feed toks = some (a, []) ∧ (∀ n ∈ toks, Fit n) ∧ L.drop k = encs toks ++ L.drop k' ∧ k' = k + (encs toks).length ∧ k' ≤ L.length := by
  induction p with
  | ret b =>
    intro k k' a hk h
    simp [Rd.run] at h
    obtain ⟨rfl, rfl⟩ := h
    exact ⟨[], rfl, by simp, by simp [encs], by simp [encs], hk⟩
  | bad => intro k k' a hk h; simp [Rd.run] at h
  | get g ih =>
    intro k k' a hk h
    simp only [Rd.run] at h
    cases hd : decInt (L.drop k) with
    | none => rw [hd] at h; simp at h
    | some q =>
      obtain ⟨n, m⟩ := q
      rw [hd] at h
      obtain ⟨e1, e2, e3, e4, e5, e6⟩ := decInt_sound hd
      rw [List.length_drop] at e3
      obtain ⟨toks, t1, t2, t3, t4, t5⟩ := ih n (k + m) k' a (by omega) h
      refine ⟨n :: toks, t1, ?_, ?_, ?_, t5⟩
      · intro x hx
        rcases List.mem_cons.1 hx with rfl | hx
        · exact ⟨e5, e6⟩
        · exact t2 x hx
      · rw [encs_cons, List.append_assoc, ← t3, e2, ← List.drop_drop, List.take_append_drop]
      · rw [encs_cons, List.length_append, ← e1]; omega

/-! ### Rows, changes, records -/
structure V3 where
  a : Int
  b : Int
  c : Int
deriving DecidableEq
def V3.zero : V3 := ⟨0, 0, 0⟩
structure MRow where
  t : Int
  k : Int
  v : V3
deriving DecidableEq
structure MCh where
  t : Int
  k : Int
  had : Bool
  o : V3
  has : Bool
  n : V3
deriving DecidableEq
structure MRec where
  pos : Int
  chs : List MCh
deriving DecidableEq

def tok3 (v : V3) : List Int := [v.a, v.b, v.c]
def tokRow (r : MRow) : List Int := [r.t, r.k] ++ tok3 r.v
def marks (had has : Bool) : Int := (if had then 1 else 0) + if has then 2 else 0
def tokCh (c : MCh) : List Int := [c.t, c.k, marks c.had c.has] ++ ((if c.had then tok3 c.o else []) ++ if c.has then tok3 c.n else [])
def tokChs (l : List MCh) : List Int := l.flatMap tokCh
def tokRec (r : MRec) : List Int := [r.pos, (r.chs.length : Int)] ++ tokChs r.chs

open Rd
def rd3 : Rd V3 := get fun a => get fun b => get fun c => ret ⟨a, b, c⟩
def rdRow : Rd MRow := get fun t => get fun k => rd3.bind fun v => ret ⟨t, k, v⟩
def rdIf (b : Bool) : Rd V3 := if b then rd3 else ret V3.zero
def rdCh : Rd MCh := get fun t => get fun k => get fun m => if m < 1 ∨ 3 < m then bad else
  (rdIf (decide (m = 1 ∨ m = 3))).bind fun o => (rdIf (decide (m = 2 ∨ m = 3))).bind fun n => ret ⟨t, k, decide (m = 1 ∨ m = 3), o, decide (m = 2 ∨ m = 3), n⟩
def rdGo : Nat → List MCh → Rd (List MCh)
  | 0, acc => ret acc
  | n + 1, acc => rdCh.bind fun c => rdGo n (acc ++ [c])
def rdRec : Rd MRec := get fun p => get fun n => if n < 1 ∨ 8 < n then bad else (rdGo n.toNat []).bind fun cs => ret ⟨p, cs⟩

/-- Where there is no row, there are zeros; there is a row on one side. -/
def MCh.shaped (c : MCh) : Prop := (c.had = true ∨ c.has = true) ∧ (c.had = false → c.o = V3.zero) ∧ (c.has = false → c.n = V3.zero)

theorem feed_rd3 (v : V3) (l : List Int) : rd3.feed (tok3 v ++ l) = some (v, l) := rfl
theorem feed_rd3_inv {l l' : List Int} {v : V3} (h : rd3.feed l = some (v, l')) : l = tok3 v ++ l' := by
  match l, h with
  | [], h => simp [rd3, feed] at h
  | [_], h => simp [rd3, feed] at h
  | [_, _], h => simp [rd3, feed] at h
  | a :: b :: c :: l, h =>
    simp [rd3, feed] at h
    obtain ⟨rfl, rfl⟩ := h
    rfl
theorem feed_rdIf (b : Bool) (v : V3) (l : List Int) (h : b = false → v = V3.zero) : (rdIf b).feed ((if b then tok3 v else []) ++ l) = some (v, l) := by
  cases b with
  | true => rfl
  | false => rw [h rfl]; rfl
theorem feed_rdIf_inv {b : Bool} {l l' : List Int} {v : V3} (h : (rdIf b).feed l = some (v, l')) : l = (if b then tok3 v else []) ++ l' ∧ (b = false → v = V3.zero) := by
  cases b with
  | true => exact ⟨feed_rd3_inv h, by simp⟩
  | false =>
    simp [rdIf, feed] at h
    obtain ⟨rfl, rfl⟩ := h
    exact ⟨rfl, fun _ => rfl⟩
theorem feed_rdRow (r : MRow) : rdRow.feed (tokRow r) = some (r, []) := rfl
theorem feed_rdRow_inv {l : List Int} {r : MRow} (h : rdRow.feed l = some (r, [])) : l = tokRow r := by
  match l, h with
  | [], h => simp [rdRow, feed] at h
  | [_], h => simp [rdRow, feed] at h
  | t :: k :: l, h =>
    simp only [rdRow, feed, feed_bind] at h
    cases h3 : rd3.feed l with
    | none => rw [h3] at h; simp at h
    | some q =>
      obtain ⟨v, l'⟩ := q
      rw [h3] at h
      simp [feed] at h
      obtain ⟨rfl, rfl⟩ := h
      rw [feed_rd3_inv h3]
      rfl
theorem feed_rdCh (c : MCh) (l : List Int) (h : c.shaped) : rdCh.feed (tokCh c ++ l) = some (c, l) := by
  obtain ⟨t, k, had, o, has, n⟩ := c
  obtain ⟨h1, h2, h3⟩ := h
  have e1 : ¬ (marks had has < 1 ∨ 3 < marks had has) := by cases had <;> cases has <;> simp [marks] at * 
  have e2 : decide (marks had has = 1 ∨ marks had has = 3) = had := by cases had <;> cases has <;> simp [marks] at *
  have e3 : decide (marks had has = 2 ∨ marks had has = 3) = has := by cases had <;> cases has <;> simp [marks] at *
  simp only [tokCh, List.cons_append, List.nil_append, rdCh, feed]
  rw [if_neg e1, e2, e3, feed_bind, List.append_assoc, feed_rdIf had o _ h2]
  simp only []
  rw [feed_bind, feed_rdIf has n _ h3]
  rfl
theorem feed_rdCh_inv {l l' : List Int} {c : MCh} (h : rdCh.feed l = some (c, l')) : l = tokCh c ++ l' ∧ c.shaped := by
  match l, h with
  | [], h => simp [rdCh, feed] at h
  | [_], h => simp [rdCh, feed] at h
  | [_, _], h => simp [rdCh, feed] at h
  | t :: k :: m :: l, h =>
    simp only [rdCh, feed] at h
    by_cases hm : m < 1 ∨ 3 < m
    · rw [if_pos hm] at h; simp [feed] at h
    · rw [if_neg hm, feed_bind] at h
      cases h3 : (rdIf (decide (m = 1 ∨ m = 3))).feed l with
      | none => rw [h3] at h; simp at h
      | some q =>
        obtain ⟨o, l1⟩ := q
        rw [h3] at h
        simp only [] at h
        rw [feed_bind] at h
        cases h4 : (rdIf (decide (m = 2 ∨ m = 3))).feed l1 with
        | none => rw [h4] at h; simp at h
        | some q =>
          obtain ⟨n, l2⟩ := q
          rw [h4] at h
          simp only [feed, Option.some.injEq, Prod.mk.injEq] at h
          obtain ⟨rfl, rfl⟩ := h
          obtain ⟨e1, z1⟩ := feed_rdIf_inv h3
          obtain ⟨e2, z2⟩ := feed_rdIf_inv h4
          have hmk : marks (decide (m = 1 ∨ m = 3)) (decide (m = 2 ∨ m = 3)) = m := by
            have : m = 1 ∨ m = 2 ∨ m = 3 := by omega
            rcases this with rfl | rfl | rfl <;> rfl
          refine ⟨?_, ?_, z1, z2⟩
          · rw [e1, e2]
            simp only [tokCh, hmk, List.cons_append, List.nil_append, List.append_assoc]
          · simp only [decide_eq_true_eq]; omega
theorem feed_rdGo : ∀ (cs acc : List MCh) (l : List Int), (∀ c ∈ cs, c.shaped) → (rdGo cs.length acc).feed (tokChs cs ++ l) = some (acc ++ cs, l)
  | [], acc, l, _ => by simp [rdGo, tokChs, feed]
  | c :: cs, acc, l, h => by
    simp only [List.length_cons, rdGo, feed_bind]
    rw [show tokChs (c :: cs) ++ l = tokCh c ++ (tokChs cs ++ l) from by simp [tokChs], feed_rdCh c _ (h c (by simp))]
    simp only []
    rw [feed_rdGo cs (acc ++ [c]) l (fun x hx => h x (by simp [hx]))]
    simp
theorem feed_rdGo_inv : ∀ (n : Nat) (acc : List MCh) (l l' : List Int) (r : List MCh), (rdGo n acc).feed l = some (r, l') → ∃ cs, r = acc ++ cs ∧ cs.length = n ∧ l = tokChs cs ++ l' ∧ ∀ c ∈ cs, c.shaped
  | 0, acc, l, l', r, h => by
    simp [rdGo, feed] at h
    obtain ⟨rfl, rfl⟩ := h
    exact ⟨[], by simp, rfl, by simp [tokChs], by simp⟩
  | n + 1, acc, l, l', r, h => by
    simp only [rdGo, feed_bind] at h
    cases h3 : rdCh.feed l with
    | none => rw [h3] at h; simp at h
    | some q =>
      obtain ⟨c, l1⟩ := q
      rw [h3] at h
      simp only [] at h
      obtain ⟨e1, z1⟩ := feed_rdCh_inv h3
      obtain ⟨cs, rfl, e2, e3, e4⟩ := feed_rdGo_inv n _ _ _ _ h
      refine ⟨c :: cs, by simp, by simp [e2], by rw [e1, e3]; simp [tokChs], ?_⟩
      intro x hx
      rcases List.mem_cons.1 hx with rfl | hx
      · exact z1
      · exact e4 x hx
theorem feed_rdRec (r : MRec) (h : ∀ c ∈ r.chs, c.shaped) (h1 : 1 ≤ r.chs.length) (h8 : r.chs.length ≤ 8) : rdRec.feed (tokRec r) = some (r, []) := by
  obtain ⟨p, cs⟩ := r
  simp only [tokRec, List.cons_append, List.nil_append, rdRec, feed]
  rw [if_neg (by simp only at h1 h8; omega), feed_bind, Int.toNat_natCast]
  have := feed_rdGo cs [] [] h
  rw [List.append_nil] at this
  rw [this]
  rfl
theorem feed_rdRec_inv {l : List Int} {r : MRec} (h : rdRec.feed l = some (r, [])) : l = tokRec r ∧ (∀ c ∈ r.chs, c.shaped) ∧ 1 ≤ r.chs.length ∧ r.chs.length ≤ 8 := by
  match l, h with
  | [], h => simp [rdRec, feed] at h
  | [_], h => simp [rdRec, feed] at h
  | p :: n :: l, h =>
    simp only [rdRec, feed] at h
    by_cases hn : n < 1 ∨ 8 < n
    · rw [if_pos hn] at h; simp [feed] at h
    · rw [if_neg hn, feed_bind] at h
      cases h3 : (rdGo n.toNat []).feed l with
      | none => rw [h3] at h; simp at h
      | some q =>
        obtain ⟨cs, l1⟩ := q
        rw [h3] at h
        simp only [feed, Option.some.injEq, Prod.mk.injEq] at h
        obtain ⟨rfl, rfl⟩ := h
        obtain ⟨cs', e0, e1, e2, e3⟩ := feed_rdGo_inv _ _ _ _ _ h3
        simp only [List.nil_append] at e0
        subst e0
        refine ⟨?_, e3, by simp only; omega, by simp only; omega⟩
        rw [e2]
        simp only [tokRec, List.append_nil, List.cons_append, List.nil_append]
        congr 2
        omega
end Go.Proofs.YtgkdliocfnoffaaDoor
