/- MERGED: RN1, RE1, RN2, RN3, RN4, RN5, RN6. -/
import Derived.Test.YtpapfegbodolgaaDoorP1
import Derived.Laws.StructEq
import Derived.Deep.RegionHeld3
import Derived.Deep.RegionWith
import Derived.IntWalk
import Derived.Lib.QuietBelow
import Derived.BigQuiet
import Derived.Test.YtpapfegbodolgaaDoorShelf
section
set_option linter.unusedVariables false
namespace Go.Proofs.YtpapfegbodolgaaDoor set_option linter.unusedSimpArgs false

/-- A reader of numbers: done, refused, or wanting one more. -/
inductive Rd (α : Type) where
  | ret (a : α)
  | bad
  | get (f : Int → Rd α)

namespace Rd
def bind {α β : Type} : Rd α → (α → Rd β) → Rd β
  | ret a, f => f a
  | bad, _ => bad
  | get g, f => get fun n => (g n).bind f
/-- Over bytes, from an offset: 'false': no number is there; 'true': refused. -/
def run {α : Type} (L : List UInt8) : Rd α → Nat → Except Bool (α × Nat)
  | ret a, k => .ok (a, k)
  | bad, _ => .error true
  | get f, k => match decInt (L.drop k) with
    | none => .error false
    | some (n, m) => (f n).run L (k + m)
/-- Over a list of numbers. -/
def feed {α : Type} : Rd α → List Int → Option (α × List Int)
  | ret a, l => some (a, l)
  | bad, _ => none
  | get _, [] => none
  | get f, n :: l => (f n).feed l

theorem run_bind {α β : Type} (L : List UInt8) (p : Rd α) (f : α → Rd β) : ∀ k, (p.bind f).run L k = match p.run L k with
    | .error e => .error e
    | .ok (a, k') => (f a).run L k' := by
  induction p with
  | ret a => intro k; rfl
  | bad => intro k; rfl
  | get g ih =>
    intro k
    simp only [bind, run]
    cases decInt (L.drop k) with
    | none => rfl
    | some p => exact ih _ _
theorem feed_bind {α β : Type} (p : Rd α) (f : α → Rd β) : ∀ l, (p.bind f).feed l = match p.feed l with
    | none => none
    | some (a, l') => (f a).feed l' := by
  induction p with
  | ret a => intro l; rfl
  | bad => intro l; rfl
  | get g ih =>
    intro l
    cases l with
    | nil => rfl
    | cons n l => exact ih _ _
end Rd

def encs (l : List Int) : List UInt8 := l.flatMap encInt
theorem encs_nil : encs [] = [] := rfl
theorem encs_cons (n : Int) (l : List Int) : encs (n :: l) = encInt n ++ encs l := by simp [encs]
theorem encs_append (a b : List Int) : encs (a ++ b) = encs a ++ encs b := by simp [encs]
theorem encs_len (l : List Int) : (encs l).length ≤ 9 * l.length := by
  induction l with
  | nil => simp [encs]
  | cons n l ih =>
    rw [encs_cons, List.length_append, List.length_cons]
    have := encInt_len n
    omega
theorem encs_pos {l : List Int} (h : l ≠ []) : 1 ≤ (encs l).length := by
  cases l with
  | nil => exact absurd rfl h
  | cons n l =>
    rw [encs_cons, List.length_append]
    have := encInt_pos n
    omega

def Fit (n : Int) : Prop := -4611686018427387903 ≤ n ∧ n ≤ 4611686018427387903

theorem run_full {α : Type} (L : List UInt8) (p : Rd α) : ∀ (toks : List Int) (k : Nat) (a : α) (R : List UInt8), p.feed toks = some (a, []) → (∀ n ∈ toks, Fit n) → L.drop k = encs toks ++ R → p.run L k = .ok (a, k + (encs toks).length) := by
  induction p with
  | ret b =>
    intro toks k a R h _ _
    simp [Rd.feed] at h
    obtain ⟨rfl, rfl⟩ := h
    rfl
  | bad => intro toks k a R h; simp [Rd.feed] at h
  | get g ih =>
    intro toks k a R h hb hL
    cases toks with
    | nil => simp [Rd.feed] at h
    | cons n toks =>
      simp only [Rd.feed] at h
      have hn := hb n (by simp)
      rw [encs_cons, List.append_assoc] at hL
      have hd := decInt_enc n (encs toks ++ R) hn.1 hn.2
      rw [← hL] at hd
      simp only [Rd.run, hd]
      rw [ih n toks (k + (encInt n).length) a R h (fun m hm => hb m (by simp [hm])) (by rw [← List.drop_drop, hL, List.drop_left])]
      rw [encs_cons, List.length_append, Nat.add_assoc]

theorem run_cut {α : Type} (L : List UInt8) (p : Rd α) : ∀ (toks : List Int) (k j : Nat) (a : α), p.feed toks = some (a, []) → (∀ n ∈ toks, Fit n) → j < (encs toks).length → L.drop k = (encs toks).take j → p.run L k = .error false := by
  induction p with
  | ret b =>
    intro toks k j a h _ hj _
    simp [Rd.feed] at h
    obtain ⟨rfl, rfl⟩ := h
    simp [encs] at hj
  | bad => intro toks k j a h; simp [Rd.feed] at h
  | get g ih =>
    intro toks k j a h hb hj hL
    cases toks with
    | nil => simp [Rd.feed] at h
    | cons n toks =>
      simp only [Rd.feed] at h
      have hn := hb n (by simp)
      rw [encs_cons] at hL hj
      rw [List.length_append] at hj
      by_cases hs : j < (encInt n).length
      · have hd := decInt_prefix hn.1 hn.2 j hs
        rw [List.take_append_of_le_length (by omega)] at hL
        rw [← hL] at hd
        simp only [Rd.run, hd]
      · rw [List.take_append, List.take_of_length_le (by omega)] at hL
        have hd := decInt_enc n ((encs toks).take (j - (encInt n).length)) hn.1 hn.2
        rw [← hL] at hd
        simp only [Rd.run, hd]
        exact ih n toks _ (j - (encInt n).length) a h (fun m hm => hb m (by simp [hm])) (by omega) (by rw [← List.drop_drop, hL, List.drop_left])

theorem run_sound {α : Type} (L : List UInt8) (p : Rd α) : ∀ (k k' : Nat) (a : α), k ≤ L.length → p.run L k = .ok (a, k') → ∃ toks, p.feed toks = some (a, []) ∧ (∀ n ∈ toks, Fit n) ∧ L.drop k = encs toks ++ L.drop k' ∧ k' = k + (encs toks).length ∧ k' ≤ L.length := by
  induction p with
  | ret b =>
    intro k k' a hk h
    simp [Rd.run] at h
    obtain ⟨rfl, rfl⟩ := h
    exact ⟨[], rfl, by simp, by simp [encs], by simp [encs], hk⟩
  | bad => intro k k' a hk h; simp [Rd.run] at h
  | get g ih =>
    intro k k' a hk h
    simp only [Rd.run] at h
    cases hd : decInt (L.drop k) with
    | none => rw [hd] at h; simp at h
    | some q =>
      obtain ⟨n, m⟩ := q
      rw [hd] at h
      obtain ⟨e1, e2, e3, e4, e5, e6⟩ := decInt_sound hd
      rw [List.length_drop] at e3
      obtain ⟨toks, t1, t2, t3, t4, t5⟩ := ih n (k + m) k' a (by omega) h
      refine ⟨n :: toks, t1, ?_, ?_, ?_, t5⟩
      · intro x hx
        rcases List.mem_cons.1 hx with rfl | hx
        · exact ⟨e5, e6⟩
        · exact t2 x hx
      · rw [encs_cons, List.append_assoc, ← t3, e2, ← List.drop_drop, List.take_append_drop]
      · rw [encs_cons, List.length_append, ← e1]; omega

/-! ### Rows, changes, records -/
structure V3 where
  a : Int
  b : Int
  c : Int
deriving DecidableEq
def V3.zero : V3 := ⟨0, 0, 0⟩
structure MRow where
  t : Int
  k : Int
  v : V3
deriving DecidableEq
structure MCh where
  t : Int
  k : Int
  had : Bool
  o : V3
  has : Bool
  n : V3
deriving DecidableEq
structure MRec where
  pos : Int
  chs : List MCh
deriving DecidableEq

def tok3 (v : V3) : List Int := [v.a, v.b, v.c]
def tokRow (r : MRow) : List Int := [r.t, r.k] ++ tok3 r.v
def marks (had has : Bool) : Int := (if had then 1 else 0) + if has then 2 else 0
def tokCh (c : MCh) : List Int := [c.t, c.k, marks c.had c.has] ++ ((if c.had then tok3 c.o else []) ++ if c.has then tok3 c.n else [])
def tokChs (l : List MCh) : List Int := l.flatMap tokCh
def tokRec (r : MRec) : List Int := [r.pos, (r.chs.length : Int)] ++ tokChs r.chs

open Rd
def rd3 : Rd V3 := get fun a => get fun b => get fun c => ret ⟨a, b, c⟩
def rdRow : Rd MRow := get fun t => get fun k => rd3.bind fun v => ret ⟨t, k, v⟩
def rdIf (b : Bool) : Rd V3 := if b then rd3 else ret V3.zero
def rdCh : Rd MCh := get fun t => get fun k => get fun m => if m < 1 ∨ 3 < m then bad else
  (rdIf (decide (m = 1 ∨ m = 3))).bind fun o => (rdIf (decide (m = 2 ∨ m = 3))).bind fun n => ret ⟨t, k, decide (m = 1 ∨ m = 3), o, decide (m = 2 ∨ m = 3), n⟩
def rdGo : Nat → List MCh → Rd (List MCh)
  | 0, acc => ret acc
  | n + 1, acc => rdCh.bind fun c => rdGo n (acc ++ [c])
def rdRec : Rd MRec := get fun p => get fun n => if n < 1 ∨ 8 < n then bad else (rdGo n.toNat []).bind fun cs => ret ⟨p, cs⟩

/-- Where there is no row, there are zeros; there is a row on one side. -/
def MCh.shaped (c : MCh) : Prop := (c.had = true ∨ c.has = true) ∧ (c.had = false → c.o = V3.zero) ∧ (c.has = false → c.n = V3.zero)

theorem feed_rd3 (v : V3) (l : List Int) : rd3.feed (tok3 v ++ l) = some (v, l) := rfl
theorem feed_rd3_inv {l l' : List Int} {v : V3} (h : rd3.feed l = some (v, l')) : l = tok3 v ++ l' := by
  match l, h with
  | [], h => simp [rd3, feed] at h
  | [_], h => simp [rd3, feed] at h
  | [_, _], h => simp [rd3, feed] at h
  | a :: b :: c :: l, h =>
    simp [rd3, feed] at h
    obtain ⟨rfl, rfl⟩ := h
    rfl
theorem feed_rdIf (b : Bool) (v : V3) (l : List Int) (h : b = false → v = V3.zero) : (rdIf b).feed ((if b then tok3 v else []) ++ l) = some (v, l) := by
  cases b with
  | true => rfl
  | false => rw [h rfl]; rfl
theorem feed_rdIf_inv {b : Bool} {l l' : List Int} {v : V3} (h : (rdIf b).feed l = some (v, l')) : l = (if b then tok3 v else []) ++ l' ∧ (b = false → v = V3.zero) := by
  cases b with
  | true => exact ⟨feed_rd3_inv h, by simp⟩
  | false =>
    simp [rdIf, feed] at h
    obtain ⟨rfl, rfl⟩ := h
    exact ⟨rfl, fun _ => rfl⟩
theorem feed_rdRow (r : MRow) : rdRow.feed (tokRow r) = some (r, []) := rfl
theorem feed_rdRow_inv {l : List Int} {r : MRow} (h : rdRow.feed l = some (r, [])) : l = tokRow r := by
  match l, h with
  | [], h => simp [rdRow, feed] at h
  | [_], h => simp [rdRow, feed] at h
  | t :: k :: l, h =>
    simp only [rdRow, feed, feed_bind] at h
    cases h3 : rd3.feed l with
    | none => rw [h3] at h; simp at h
    | some q =>
      obtain ⟨v, l'⟩ := q
      rw [h3] at h
      simp [feed] at h
      obtain ⟨rfl, rfl⟩ := h
      rw [feed_rd3_inv h3]
      rfl
theorem feed_rdCh (c : MCh) (l : List Int) (h : c.shaped) : rdCh.feed (tokCh c ++ l) = some (c, l) := by
  obtain ⟨t, k, had, o, has, n⟩ := c
  obtain ⟨h1, h2, h3⟩ := h
  have e1 : ¬ (marks had has < 1 ∨ 3 < marks had has) := by cases had <;> cases has <;> simp [marks] at * 
  have e2 : decide (marks had has = 1 ∨ marks had has = 3) = had := by cases had <;> cases has <;> simp [marks] at *
  have e3 : decide (marks had has = 2 ∨ marks had has = 3) = has := by cases had <;> cases has <;> simp [marks] at *
  simp only [tokCh, List.cons_append, List.nil_append, rdCh, feed]
  rw [if_neg e1, e2, e3, feed_bind, List.append_assoc, feed_rdIf had o _ h2]
  simp only []
  rw [feed_bind, feed_rdIf has n _ h3]
  rfl
theorem feed_rdCh_inv {l l' : List Int} {c : MCh} (h : rdCh.feed l = some (c, l')) : l = tokCh c ++ l' ∧ c.shaped := by
  match l, h with
  | [], h => simp [rdCh, feed] at h
  | [_], h => simp [rdCh, feed] at h
  | [_, _], h => simp [rdCh, feed] at h
  | t :: k :: m :: l, h =>
    simp only [rdCh, feed] at h
    by_cases hm : m < 1 ∨ 3 < m
    · rw [if_pos hm] at h; simp [feed] at h
    · rw [if_neg hm, feed_bind] at h
      cases h3 : (rdIf (decide (m = 1 ∨ m = 3))).feed l with
      | none => rw [h3] at h; simp at h
      | some q =>
        obtain ⟨o, l1⟩ := q
        rw [h3] at h
        simp only [] at h
        rw [feed_bind] at h
        cases h4 : (rdIf (decide (m = 2 ∨ m = 3))).feed l1 with
        | none => rw [h4] at h; simp at h
        | some q =>
          obtain ⟨n, l2⟩ := q
          rw [h4] at h
          simp only [feed, Option.some.injEq, Prod.mk.injEq] at h
          obtain ⟨rfl, rfl⟩ := h
          obtain ⟨e1, z1⟩ := feed_rdIf_inv h3
          obtain ⟨e2, z2⟩ := feed_rdIf_inv h4
          have hmk : marks (decide (m = 1 ∨ m = 3)) (decide (m = 2 ∨ m = 3)) = m := by
            have : m = 1 ∨ m = 2 ∨ m = 3 := by omega
            rcases this with rfl | rfl | rfl <;> rfl
          refine ⟨?_, ?_, z1, z2⟩
          · rw [e1, e2]
            simp only [tokCh, hmk, List.cons_append, List.nil_append, List.append_assoc]
          · simp only [decide_eq_true_eq]; omega
theorem feed_rdGo : ∀ (cs acc : List MCh) (l : List Int), (∀ c ∈ cs, c.shaped) → (rdGo cs.length acc).feed (tokChs cs ++ l) = some (acc ++ cs, l)
  | [], acc, l, _ => by simp [rdGo, tokChs, feed]
  | c :: cs, acc, l, h => by
    simp only [List.length_cons, rdGo, feed_bind]
    rw [show tokChs (c :: cs) ++ l = tokCh c ++ (tokChs cs ++ l) from by simp [tokChs], feed_rdCh c _ (h c (by simp))]
    simp only []
    rw [feed_rdGo cs (acc ++ [c]) l (fun x hx => h x (by simp [hx]))]
    simp
theorem feed_rdGo_inv : ∀ (n : Nat) (acc : List MCh) (l l' : List Int) (r : List MCh), (rdGo n acc).feed l = some (r, l') → ∃ cs, r = acc ++ cs ∧ cs.length = n ∧ l = tokChs cs ++ l' ∧ ∀ c ∈ cs, c.shaped
  | 0, acc, l, l', r, h => by
    simp [rdGo, feed] at h
    obtain ⟨rfl, rfl⟩ := h
    exact ⟨[], by simp, rfl, by simp [tokChs], by simp⟩
  | n + 1, acc, l, l', r, h => by
    simp only [rdGo, feed_bind] at h
    cases h3 : rdCh.feed l with
    | none => rw [h3] at h; simp at h
    | some q =>
      obtain ⟨c, l1⟩ := q
      rw [h3] at h
      simp only [] at h
      obtain ⟨e1, z1⟩ := feed_rdCh_inv h3
      obtain ⟨cs, rfl, e2, e3, e4⟩ := feed_rdGo_inv n _ _ _ _ h
      refine ⟨c :: cs, by simp, by simp [e2], by rw [e1, e3]; simp [tokChs], ?_⟩
      intro x hx
      rcases List.mem_cons.1 hx with rfl | hx
      · exact z1
      · exact e4 x hx
theorem feed_rdRec (r : MRec) (h : ∀ c ∈ r.chs, c.shaped) (h1 : 1 ≤ r.chs.length) (h8 : r.chs.length ≤ 8) : rdRec.feed (tokRec r) = some (r, []) := by
  obtain ⟨p, cs⟩ := r
  simp only [tokRec, List.cons_append, List.nil_append, rdRec, feed]
  rw [if_neg (by simp only at h1 h8; omega), feed_bind, Int.toNat_natCast]
  have := feed_rdGo cs [] [] h
  rw [List.append_nil] at this
  rw [this]
  rfl
theorem feed_rdRec_inv {l : List Int} {r : MRec} (h : rdRec.feed l = some (r, [])) : l = tokRec r ∧ (∀ c ∈ r.chs, c.shaped) ∧ 1 ≤ r.chs.length ∧ r.chs.length ≤ 8 := by
  match l, h with
  | [], h => simp [rdRec, feed] at h
  | [_], h => simp [rdRec, feed] at h
  | p :: n :: l, h =>
    simp only [rdRec, feed] at h
    by_cases hn : n < 1 ∨ 8 < n
    · rw [if_pos hn] at h; simp [feed] at h
    · rw [if_neg hn, feed_bind] at h
      cases h3 : (rdGo n.toNat []).feed l with
      | none => rw [h3] at h; simp at h
      | some q =>
        obtain ⟨cs, l1⟩ := q
        rw [h3] at h
        simp only [feed, Option.some.injEq, Prod.mk.injEq] at h
        obtain ⟨rfl, rfl⟩ := h
        obtain ⟨cs', e0, e1, e2, e3⟩ := feed_rdGo_inv _ _ _ _ _ h3
        simp only [List.nil_append] at e0
        subst e0
        refine ⟨?_, e3, by simp only; omega, by simp only; omega⟩
        rw [e2]
        simp only [tokRec, List.append_nil, List.cons_append, List.nil_append]
        congr 2
        omega
end Go.Proofs.YtpapfegbodolgaaDoor
end

section
set_option linter.unusedSimpArgs false
set_option linter.unusedVariables false
namespace Go.Proofs.YtpapfegbodolgaaDoor
open Go.RowKit

/-- Go's == on arrays of three, rows, changes. -/
def v3e (u v : V3) : Bool := decide (u = v)
def rowE (u v : MRow) : Bool := decide (u = v)
def chE (u v : MCh) : Bool := decide (u = v)

set_option maxRecDepth 100000 in
theorem equal3 (d : Nat) (a b c a' b' c' : Int) (w : World) :
    (Op.equalIn (d + 2) 55 (.agg #[.int .i64 a, .int .i64 b, .int .i64 c]) (.agg #[.int .i64 a', .int .i64 b', .int .i64 c'])).run Tryd.prog w = .ok (decide ((⟨a, b, c⟩ : V3) = ⟨a', b', c'⟩)) w := by
  have hi := Tryd.sizeOf3
  have hg := Tryd.isAgg3
  have p : ∀ (cs : Array Value) (j : Nat) (v : Value) (w : World), cs[j]? = some v → (part 3 cs j).run Tryd.prog w = .ok v w := by
    intro cs j v w h
    simp [part, Sem.run_bind, hg, h]
  have e : ∀ (x y : Int) (w : World), (Op.equalIn (d + 1) 3 (.int .i64 x) (.int .i64 y)).run Tryd.prog w = .ok (x == y) w := fun x y w => run_equalIn_int w d 3 .i64 .i64 x y Tryd.underlying3
  have p0 := fun (x y z : Int) w => p #[.int .i64 x, .int .i64 y, .int .i64 z] 0 _ w rfl
  have p1 := fun (x y z : Int) w => p #[.int .i64 x, .int .i64 y, .int .i64 z] 1 _ w rfl
  have p2 := fun (x y z : Int) w => p #[.int .i64 x, .int .i64 y, .int .i64 z] 2 _ w rfl
  clear p
  rw [Op.equalIn]
  simp only [Sem.run_bind, run_underlying Tryd.underlying55, Result.andThen_ok]
  by_cases h1 : a = a' <;> by_cases h2 : b = b' <;> by_cases h3 : c = c' <;>
    simp [Sem.run_bind, hi, List.range', p0, p1, p2, e, h1, h2, h3]

theorem bcell {W w1 : World} (hb : Below W.heap.size W w1) : (∀ b o, b < W.heap.size → w1.cell? ⟨b, o, none⟩ = W.cell? ⟨b, o, none⟩) ∧ (∀ b o, b < W.heap.size → w1.frozen? ⟨b, o, none⟩ = W.frozen? ⟨b, o, none⟩) :=
  ⟨fun b o h => hb.cell (p := ⟨b, o, none⟩) h, fun b o h => hb.frozen (p := ⟨b, o, none⟩) h⟩

theorem eql3 (a b c a' b' c' : Int) (w : World) : (Go.binOp .eql 55 (.agg #[.int .i64 a, .int .i64 b, .int .i64 c]) (.agg #[.int .i64 a', .int .i64 b', .int .i64 c'])).run Tryd.prog w = .ok (.bool (v3e ⟨a, b, c⟩ ⟨a', b', c'⟩)) w := by
  rw [run_eql_struct, equal3]; rfl

theorem part1 (t : TypeId) (ht : ∀ w, (isAgg t).run Tryd.prog w = .ok false w) (cs : Array Value) (j : Nat) (v : Value) (w : World) (h : cs[j]? = some v) : (part t cs j).run Tryd.prog w = .ok v w := by
  simp [part, Sem.run_bind, ht, h]
theorem part3 (cs : Array Value) (j : Nat) (v : Value) (w : World) (h : Value.agg (cs.extract j (j + 3)) = v) : (part 55 cs j).run Tryd.prog w = .ok v w := by
  simp [part, Sem.run_bind, Tryd.isAgg55, Tryd.sizeOf55, h]

theorem fields24 : (Tryd.prog.fieldsOf 111).toList.map (fun f => (f.name, f.type, f.offset)) = [("Table", 3, 0), ("Key", 3, 1), ("V", 55, 2)] := by kernel_rfl
theorem fields42 : (Tryd.prog.fieldsOf 57).toList.map (fun f => (f.name, f.type, f.offset)) = [("Table", 3, 0), ("Key", 3, 1), ("Had", 4, 2), ("Old", 55, 3), ("Has", 4, 6), ("New", 55, 7)] := by kernel_rfl

/-- eqFields over the fields' names, types and places alone. -/
def eqParts (d : Nat) (xs ys : Array Value) : List (String × TypeId × Nat) → Sem Bool
  | [] => pure true
  | f :: fs =>
    if f.1 ≠ "_" then do
      let a ← part f.2.1 xs f.2.2
      let b ← part f.2.1 ys f.2.2
      let r ← Op.equalIn d f.2.1 a b
      if (!r) = true then pure false else eqParts d xs ys fs
    else eqParts d xs ys fs
theorem eqFields_parts (d : Nat) (xs ys : Array Value) : ∀ fs : List Field, Op.eqFields d xs ys fs = eqParts d xs ys (fs.map fun f => (f.name, f.type, f.offset))
  | [] => rfl
  | f :: fs => by
    simp only [Op.eqFields, eqParts, List.map_cons]
    rw [eqFields_parts d xs ys fs]

theorem run_eqPart {d : Nat} {xs ys : Array Value} {n : String} {t : TypeId} {o : Nat} {fs : List (String × TypeId × Nat)} {x y : Value} {r r2 : Bool} {w : World} (hn : n ≠ "_") (hx : ∀ w, (part t xs o).run Tryd.prog w = .ok x w) (hy : ∀ w, (part t ys o).run Tryd.prog w = .ok y w)
    (he : ∀ w, (Op.equalIn d t x y).run Tryd.prog w = .ok r w) (hr : (eqParts d xs ys fs).run Tryd.prog w = .ok r2 w) : (eqParts d xs ys ((n, t, o) :: fs)).run Tryd.prog w = .ok (r && r2) w := by
  simp only [eqParts]
  rw [if_pos hn]
  simp only [Sem.run_bind, hx, Result.andThen_ok, hy, he]
  cases r
  · simp
  · simpa using hr

theorem und24 : Tryd.prog.underlying 111 = some (.struct (Tryd.prog.fieldsOf 111)) := by kernel_rfl
theorem und42 : Tryd.prog.underlying 57 = some (.struct (Tryd.prog.fieldsOf 57)) := by kernel_rfl
theorem stood24 : Tryd.prog.stoodInHeld 111 = false := by kernel_rfl
theorem stood42 : Tryd.prog.stoodInHeld 57 = false := by kernel_rfl

set_option maxRecDepth 100000 in
theorem equalRow (d : Nat) (t k a b c t' k' a' b' c' : Int) (w : World) :
    (Op.equalIn (d + 3) 111 (.agg #[.int .i64 t, .int .i64 k, .int .i64 a, .int .i64 b, .int .i64 c]) (.agg #[.int .i64 t', .int .i64 k', .int .i64 a', .int .i64 b', .int .i64 c'])).run Tryd.prog w = .ok (decide ((⟨t, k, ⟨a, b, c⟩⟩ : MRow) = ⟨t', k', ⟨a', b', c'⟩⟩)) w := by
  rw [run_equalIn_struct w (d + 2) 111 _ _ und24 stood24, eqFields_parts, fields24]
  have e : ∀ (x y : Int) (w : World), (Op.equalIn (d + 2) 3 (.int .i64 x) (.int .i64 y)).run Tryd.prog w = .ok (x == y) w := fun x y w => run_equalIn_int w (d + 1) 3 .i64 .i64 x y Tryd.underlying3
  have h : (eqParts (d + 2) #[.int .i64 t, .int .i64 k, .int .i64 a, .int .i64 b, .int .i64 c] #[.int .i64 t', .int .i64 k', .int .i64 a', .int .i64 b', .int .i64 c'] [("Table", 3, 0), ("Key", 3, 1), ("V", 55, 2)]).run Tryd.prog w = .ok ((t == t') && ((k == k') && (decide ((⟨a, b, c⟩ : V3) = ⟨a', b', c'⟩) && true))) w := by
    refine run_eqPart (by decide) (fun w => part1 3 Tryd.isAgg3 _ 0 _ w rfl) (fun w => part1 3 Tryd.isAgg3 _ 0 _ w rfl) (fun w => e _ _ w) ?_
    refine run_eqPart (by decide) (fun w => part1 3 Tryd.isAgg3 _ 1 _ w rfl) (fun w => part1 3 Tryd.isAgg3 _ 1 _ w rfl) (fun w => e _ _ w) ?_
    exact run_eqPart (by decide) (fun w => part3 _ 2 _ w rfl) (fun w => part3 _ 2 _ w rfl) (fun w => equal3 d a b c a' b' c' w) rfl
  rw [h]
  congr 1
  by_cases h1 : t = t' <;> by_cases h2 : k = k' <;> simp [h1, h2]
set_option maxRecDepth 100000 in
theorem equalCh (d : Nat) (c c' : MCh) (w : World) :
    (Op.equalIn (d + 3) 57 (.agg #[.int .i64 c.t, .int .i64 c.k, .bool c.had, .int .i64 c.o.a, .int .i64 c.o.b, .int .i64 c.o.c, .bool c.has, .int .i64 c.n.a, .int .i64 c.n.b, .int .i64 c.n.c]) (.agg #[.int .i64 c'.t, .int .i64 c'.k, .bool c'.had, .int .i64 c'.o.a, .int .i64 c'.o.b, .int .i64 c'.o.c, .bool c'.has, .int .i64 c'.n.a, .int .i64 c'.n.b, .int .i64 c'.n.c])).run Tryd.prog w = .ok (decide (c = c')) w := by
  obtain ⟨t, k, had, ⟨oa, ob, oc⟩, has, ⟨na, nb, nc⟩⟩ := c
  obtain ⟨t', k', had', ⟨oa', ob', oc'⟩, has', ⟨na', nb', nc'⟩⟩ := c'
  rw [run_equalIn_struct w (d + 2) 57 _ _ und42 stood42, eqFields_parts, fields42]
  have e : ∀ (x y : Int) (w : World), (Op.equalIn (d + 2) 3 (.int .i64 x) (.int .i64 y)).run Tryd.prog w = .ok (x == y) w := fun x y w => run_equalIn_int w (d + 1) 3 .i64 .i64 x y Tryd.underlying3
  have f : ∀ (x y : Bool) (w : World), (Op.equalIn (d + 2) 4 (.bool x) (.bool y)).run Tryd.prog w = .ok (x == y) w := fun x y w => run_equalIn_bool' w (d + 1) 4 x y Tryd.underlying4
  have h : (eqParts (d + 2) #[.int .i64 t, .int .i64 k, .bool had, .int .i64 oa, .int .i64 ob, .int .i64 oc, .bool has, .int .i64 na, .int .i64 nb, .int .i64 nc] #[.int .i64 t', .int .i64 k', .bool had', .int .i64 oa', .int .i64 ob', .int .i64 oc', .bool has', .int .i64 na', .int .i64 nb', .int .i64 nc'] [("Table", 3, 0), ("Key", 3, 1), ("Had", 4, 2), ("Old", 55, 3), ("Has", 4, 6), ("New", 55, 7)]).run Tryd.prog w = .ok ((t == t') && ((k == k') && ((had == had') && (decide ((⟨oa, ob, oc⟩ : V3) = ⟨oa', ob', oc'⟩) && ((has == has') && (decide ((⟨na, nb, nc⟩ : V3) = ⟨na', nb', nc'⟩) && true)))))) w := by
    refine run_eqPart (by decide) (fun w => part1 3 Tryd.isAgg3 _ 0 _ w rfl) (fun w => part1 3 Tryd.isAgg3 _ 0 _ w rfl) (fun w => e _ _ w) ?_
    refine run_eqPart (by decide) (fun w => part1 3 Tryd.isAgg3 _ 1 _ w rfl) (fun w => part1 3 Tryd.isAgg3 _ 1 _ w rfl) (fun w => e _ _ w) ?_
    refine run_eqPart (by decide) (fun w => part1 4 Tryd.isAgg4 _ 2 _ w rfl) (fun w => part1 4 Tryd.isAgg4 _ 2 _ w rfl) (fun w => f _ _ w) ?_
    refine run_eqPart (by decide) (fun w => part3 _ 3 _ w rfl) (fun w => part3 _ 3 _ w rfl) (fun w => equal3 d oa ob oc oa' ob' oc' w) ?_
    refine run_eqPart (by decide) (fun w => part1 4 Tryd.isAgg4 _ 6 _ w rfl) (fun w => part1 4 Tryd.isAgg4 _ 6 _ w rfl) (fun w => f _ _ w) ?_
    exact run_eqPart (by decide) (fun w => part3 _ 7 _ w rfl) (fun w => part3 _ 7 _ w rfl) (fun w => equal3 d na nb nc na' nb' nc' w) rfl
  rw [h]
  congr 1
  by_cases h1 : t = t' <;> by_cases h2 : k = k' <;> by_cases h3 : had = had' <;> by_cases h5 : has = has' <;> simp_all

theorem eqlRow (t k a b c t' k' a' b' c' : Int) (w : World) : (Go.binOp .eql 111 (.agg #[.int .i64 t, .int .i64 k, .int .i64 a, .int .i64 b, .int .i64 c]) (.agg #[.int .i64 t', .int .i64 k', .int .i64 a', .int .i64 b', .int .i64 c'])).run Tryd.prog w = .ok (.bool (rowE ⟨t, k, ⟨a, b, c⟩⟩ ⟨t', k', ⟨a', b', c'⟩⟩)) w := by
  rw [run_eql_struct, equalRow]; rfl
theorem neqRow (t k a b c t' k' a' b' c' : Int) (w : World) : (Go.binOp .neq 111 (.agg #[.int .i64 t, .int .i64 k, .int .i64 a, .int .i64 b, .int .i64 c]) (.agg #[.int .i64 t', .int .i64 k', .int .i64 a', .int .i64 b', .int .i64 c'])).run Tryd.prog w = .ok (.bool (!rowE ⟨t, k, ⟨a, b, c⟩⟩ ⟨t', k', ⟨a', b', c'⟩⟩)) w := by
  rw [run_neq_struct, equalRow]; rfl
theorem neqCh (c c' : MCh) (w : World) : (Go.binOp .neq 57 (.agg #[.int .i64 c.t, .int .i64 c.k, .bool c.had, .int .i64 c.o.a, .int .i64 c.o.b, .int .i64 c.o.c, .bool c.has, .int .i64 c.n.a, .int .i64 c.n.b, .int .i64 c.n.c]) (.agg #[.int .i64 c'.t, .int .i64 c'.k, .bool c'.had, .int .i64 c'.o.a, .int .i64 c'.o.b, .int .i64 c'.o.c, .bool c'.has, .int .i64 c'.n.a, .int .i64 c'.n.b, .int .i64 c'.n.c])).run Tryd.prog w = .ok (.bool (!chE c c')) w := by
  rw [run_neq_struct, equalCh]; rfl
end Go.Proofs.YtpapfegbodolgaaDoor
end

section
set_option linter.unusedSimpArgs false
set_option linter.unusedVariables false
namespace Go.Proofs.YtpapfegbodolgaaDoor
open Go.RowKit

def vcells (v : V3) : List Value := [.int .i64 v.a, .int .i64 v.b, .int .i64 v.c]
abbrev v3V (v : V3) : Value := .agg #[.int .i64 v.a, .int .i64 v.b, .int .i64 v.c]
abbrev rowV (r : MRow) : Value := .agg #[.int .i64 r.t, .int .i64 r.k, .int .i64 r.v.a, .int .i64 r.v.b, .int .i64 r.v.c]
abbrev chV (c : MCh) : Value := .agg #[.int .i64 c.t, .int .i64 c.k, .bool c.had, .int .i64 c.o.a, .int .i64 c.o.b, .int .i64 c.o.c, .bool c.has, .int .i64 c.n.a, .int .i64 c.n.b, .int .i64 c.n.c]

/-- An int of 64 bits. -/
def I64 (n : Int) : Prop := -9223372036854775808 ≤ n ∧ n ≤ 9223372036854775807

/-- A row is valid. -/
def VRow (r : MRow) : Prop := (0 ≤ r.t ∧ r.t ≤ 3) ∧ (1 ≤ r.k ∧ r.k ≤ 1000000) ∧ (-1000000000 ≤ r.v.a ∧ r.v.a ≤ 1000000000) ∧ (-1000000000 ≤ r.v.b ∧ r.v.b ≤ 1000000000) ∧ (-1000000000 ≤ r.v.c ∧ r.v.c ≤ 1000000000)
instance (r : MRow) : Decidable (VRow r) := by unfold VRow; infer_instance
def vr (r : MRow) : Bool := decide (VRow r)
theorem vr_t {r : MRow} (h : VRow r) : Ending.returned (.bool true) = .returned (.bool (vr r)) := by rw [vr, decide_eq_true h]
theorem vr_f {r : MRow} (h : ¬ VRow r) : Ending.returned (.bool false) = .returned (.bool (vr r)) := by rw [vr, decide_eq_false h]

set_option maxRecDepth 100000 in
set_option maxHeartbeats 1000000 in
theorem valid_any (t k a b c : Int) (w : World) :
    Calls Tryd.prog 106 #[rowV ⟨t, k, ⟨a, b, c⟩⟩] w fun e w' => e = .returned (.bool (vr ⟨t, k, ⟨a, b, c⟩⟩)) ∧ Below w.heap.size w w' := by
  unfold rowV
  have i0 : ∀ w : World, (Instr.index 55 (.agg #[.int .i64 a, .int .i64 b, .int .i64 c]) (.int .i64 0)).run Tryd.prog w = .ok (.int .i64 a) w := fun _ => by kernel_rfl
  have i1 : ∀ w : World, (Instr.index 55 (.agg #[.int .i64 a, .int .i64 b, .int .i64 c]) (.int .i64 1)).run Tryd.prog w = .ok (.int .i64 b) w := fun _ => by kernel_rfl
  have i2 : ∀ w : World, (Instr.index 55 (.agg #[.int .i64 a, .int .i64 b, .int .i64 c]) (.int .i64 2)).run Tryd.prog w = .ok (.int .i64 c) w := fun _ => by kernel_rfl
  go_enter Tryd.func106, Tryd.ntmps106
  go_wp2
  all_goals (first | (go_ret; exact ⟨vr_f (by unfold VRow; simp only; omega), ba _ _⟩) | skip)
  refine wp_loop_rounds 4 ?_
  rw [rounds_succ]
  go_wp2
  all_goals (first | (go_ret; exact ⟨vr_f (by unfold VRow; simp only; omega), ba _ _⟩) | skip)
  rw [rounds_succ]
  go_wp2
  all_goals (first | (go_ret; exact ⟨vr_f (by unfold VRow; simp only; omega), ba _ _⟩) | skip)
  rw [rounds_succ]
  go_wp2
  all_goals (first | (go_ret; exact ⟨vr_f (by unfold VRow; simp only; omega), ba _ _⟩) | skip)
  rw [rounds_succ]
  go_wp2
  go_ret
  exact ⟨vr_t (by unfold VRow; simp only; omega), ba _ _⟩

/-- The value of a column. -/
def vget (r : MRow) (col : Int) : Int := if col = 0 then r.k else if col = 1 then r.v.a else if col = 2 then r.v.b else if col = 3 then r.v.c else 0

def chCells (c : MCh) : Array Value := #[.int .i64 c.t, .int .i64 c.k, .bool c.had, .int .i64 c.o.a, .int .i64 c.o.b, .int .i64 c.o.c, .bool c.has, .int .i64 c.n.a, .int .i64 c.n.b, .int .i64 c.n.c]

set_option maxRecDepth 100000 in
set_option maxHeartbeats 400000 in
theorem rowOf_w (t k : Int) (had has : Bool) (oa ob oc na nb nc a b c : Int) (w : World) :
    Calls Tryd.prog 107 #[.agg #[.int .i64 t, .int .i64 k, .bool had, .int .i64 oa, .int .i64 ob, .int .i64 oc, .bool has, .int .i64 na, .int .i64 nb, .int .i64 nc], .agg #[.int .i64 a, .int .i64 b, .int .i64 c]] w fun e w' =>
      e = .returned (.agg #[.int .i64 t, .int .i64 k, .int .i64 a, .int .i64 b, .int .i64 c]) ∧ w' = ((w.alloc (.cells #[.int .i64 t, .int .i64 k, .bool had, .int .i64 oa, .int .i64 ob, .int .i64 oc, .bool has, .int .i64 na, .int .i64 nb, .int .i64 nc] 57)).alloc (.cells #[.int .i64 a, .int .i64 b, .int .i64 c] 55)).alloc (.cells #[.int .i64 t, .int .i64 k, .int .i64 a, .int .i64 b, .int .i64 c] 111) := by
  go_enter Tryd.func107, Tryd.ntmps107
  go_wp2
  exact bodyPost_ret (v := .agg #[.int .i64 t, .int .i64 k, .int .i64 a, .int .i64 b, .int .i64 c]) (by simp [results, Tryd.results107, go_sem]) rfl ⟨rfl, rfl⟩

set_option maxRecDepth 100000 in
set_option maxHeartbeats 1000000 in
theorem validSide_any (c : MCh) (has : Bool) (v : V3) (w : World) :
    Calls Tryd.prog 104 #[chV c, .bool has, v3V v] w fun e w' => e = .returned (.bool (if has then vr ⟨c.t, c.k, v⟩ else v3e v V3.zero)) ∧ Below w.heap.size w w' := by
  obtain ⟨t, k, had, ⟨oa, ob, oc⟩, hs, ⟨na, nb, nc⟩⟩ := c
  obtain ⟨a, b, c⟩ := v
  cases has
  · unfold chV v3V
    have he := eql3
    go_enter Tryd.func104, Tryd.ntmps104
    go_wp2
    go_ret
    exact ⟨rfl, ((Below.refl _ w).alloc (Nat.le_refl _) _).alloc (by simp) _⟩
  · unfold chV v3V
    go_enter Tryd.func104, Tryd.ntmps104
    go_wp2_with (first | (go_at_call 107; refine (rowOf_w _ _ _ _ _ _ _ _ _ _ _ _ _ _).mono ?_; rintro e w1 ⟨rfl, rfl⟩) | (go_at_call 106; refine (valid_any _ _ _ _ _ _).mono ?_; rintro e w1 ⟨rfl, hb⟩))
    go_ret
    exact ⟨rfl, bt ((((((Below.refl _ w).alloc (Nat.le_refl _) _).alloc (by simp) _).alloc (by simp; omega) _).alloc (by simp; omega) _).alloc (by simp; omega) _) hb⟩

/-- One side of a change is valid. -/
def VSide (c : MCh) (has : Bool) (v : V3) : Prop := (has = true → VRow ⟨c.t, c.k, v⟩) ∧ (has = false → v = V3.zero)
instance (c : MCh) (has : Bool) (v : V3) : Decidable (VSide c has v) := by unfold VSide; infer_instance
theorem side_val (c : MCh) (has : Bool) (v : V3) : (if has then vr ⟨c.t, c.k, v⟩ else v3e v V3.zero) = decide (VSide c has v) := by
  cases has <;> simp [VSide, vr, v3e]
def VCh (c : MCh) : Prop := (c.had = true ∨ c.has = true) ∧ ¬ (c.had = true ∧ c.has = true ∧ c.o = c.n) ∧ VSide c c.had c.o ∧ VSide c c.has c.n
instance (c : MCh) : Decidable (VCh c) := by unfold VCh; infer_instance
def vc (c : MCh) : Bool := decide (VCh c)
theorem validSide_t (c : MCh) (has : Bool) (v : V3) (w : World) (h : VSide c has v) : Calls Tryd.prog 104 #[chV c, .bool has, v3V v] w fun e w' => e = .returned (.bool true) ∧ Below w.heap.size w w' :=
  (validSide_any c has v w).mono fun e w' hw => by rw [side_val, decide_eq_true h] at hw; exact hw
theorem validSide_f (c : MCh) (has : Bool) (v : V3) (w : World) (h : ¬ VSide c has v) : Calls Tryd.prog 104 #[chV c, .bool has, v3V v] w fun e w' => e = .returned (.bool false) ∧ Below w.heap.size w w' :=
  (validSide_any c has v w).mono fun e w' hw => by rw [side_val, decide_eq_false h] at hw; exact hw

set_option maxRecDepth 100000 in
set_option maxHeartbeats 4000000 in
theorem validChange_any (c : MCh) (w : World) :
    Calls Tryd.prog 97 #[chV c] w fun e w' => e = .returned (.bool (vc c)) ∧ Below w.heap.size w w' := by
  have he := eql3
  obtain ⟨t, k, had, ⟨oa, ob, oc⟩, has, ⟨na, nb, nc⟩⟩ := c
  cases had <;> cases has
  · have hv : Hid (vc ⟨t, k, false, ⟨oa, ob, oc⟩, false, ⟨na, nb, nc⟩⟩ = false) := Lib.hid (by simp [vc, VCh])
    rw [hv.out]
    go_enter Tryd.func97, Tryd.ntmps97
    go_wp2
    go_ret
    exact ⟨rfl, ba _ _⟩
  · -- false, true
    by_cases h3 : VSide ⟨t, k, false, ⟨oa, ob, oc⟩, true, ⟨na, nb, nc⟩⟩ false ⟨oa, ob, oc⟩
    · by_cases h4 : VSide ⟨t, k, false, ⟨oa, ob, oc⟩, true, ⟨na, nb, nc⟩⟩ true ⟨na, nb, nc⟩
      · have hv : Hid (vc ⟨t, k, false, ⟨oa, ob, oc⟩, true, ⟨na, nb, nc⟩⟩ = true) := Lib.hid (decide_eq_true ⟨by simp, by simp, h3, h4⟩)
        have H3 := Lib.hid h3
        have H4 := Lib.hid h4
        clear h3 h4
        rw [hv.out]
        go_enter Tryd.func97, Tryd.ntmps97
        go_wp2_with fail
        (with_reducible refine (validSide_t ⟨t, k, false, ⟨oa, ob, oc⟩, true, ⟨na, nb, nc⟩⟩ _ _ _ H3.out).mono ?_)
        rintro e w1 ⟨rfl, hb⟩
        obtain ⟨hc, hf⟩ := bcell hb
        go_wp2_with fail
        (with_reducible refine (validSide_t ⟨t, k, false, ⟨oa, ob, oc⟩, true, ⟨na, nb, nc⟩⟩ _ _ _ H4.out).mono ?_)
        rintro e w2 ⟨rfl, hb2⟩
        go_wp2_with fail
        go_ret
        exact ⟨rfl, bt (bt (ba _ _) hb) hb2⟩
      · have hv : Hid (vc ⟨t, k, false, ⟨oa, ob, oc⟩, true, ⟨na, nb, nc⟩⟩ = false) := Lib.hid (decide_eq_false (fun h => h4 h.2.2.2))
        have H3 := Lib.hid h3
        have H4 := Lib.hid h4
        clear h3 h4
        rw [hv.out]
        go_enter Tryd.func97, Tryd.ntmps97
        go_wp2_with fail
        (with_reducible refine (validSide_t ⟨t, k, false, ⟨oa, ob, oc⟩, true, ⟨na, nb, nc⟩⟩ _ _ _ H3.out).mono ?_)
        rintro e w1 ⟨rfl, hb⟩
        obtain ⟨hc, hf⟩ := bcell hb
        go_wp2_with fail
        (with_reducible refine (validSide_f ⟨t, k, false, ⟨oa, ob, oc⟩, true, ⟨na, nb, nc⟩⟩ _ _ _ H4.out).mono ?_)
        rintro e w2 ⟨rfl, hb2⟩
        go_wp2_with fail
        go_ret
        exact ⟨rfl, bt (bt (ba _ _) hb) hb2⟩
    · have hv : Hid (vc ⟨t, k, false, ⟨oa, ob, oc⟩, true, ⟨na, nb, nc⟩⟩ = false) := Lib.hid (decide_eq_false (fun h => h3 h.2.2.1))
      have H3 := Lib.hid h3
      clear h3
      rw [hv.out]
      go_enter Tryd.func97, Tryd.ntmps97
      go_wp2_with fail
      (with_reducible refine (validSide_f ⟨t, k, false, ⟨oa, ob, oc⟩, true, ⟨na, nb, nc⟩⟩ _ _ _ H3.out).mono ?_)
      rintro e w1 ⟨rfl, hb⟩
      go_wp2_with fail
      go_ret
      exact ⟨rfl, bt (ba _ _) hb⟩
  · -- true, false
    by_cases h3 : VSide ⟨t, k, true, ⟨oa, ob, oc⟩, false, ⟨na, nb, nc⟩⟩ true ⟨oa, ob, oc⟩
    · by_cases h4 : VSide ⟨t, k, true, ⟨oa, ob, oc⟩, false, ⟨na, nb, nc⟩⟩ false ⟨na, nb, nc⟩
      · have hv : Hid (vc ⟨t, k, true, ⟨oa, ob, oc⟩, false, ⟨na, nb, nc⟩⟩ = true) := Lib.hid (decide_eq_true ⟨by simp, by simp, h3, h4⟩)
        have H3 := Lib.hid h3
        have H4 := Lib.hid h4
        clear h3 h4
        rw [hv.out]
        go_enter Tryd.func97, Tryd.ntmps97
        go_wp2_with fail
        (with_reducible refine (validSide_t ⟨t, k, true, ⟨oa, ob, oc⟩, false, ⟨na, nb, nc⟩⟩ _ _ _ H3.out).mono ?_)
        rintro e w1 ⟨rfl, hb⟩
        obtain ⟨hc, hf⟩ := bcell hb
        go_wp2_with fail
        (with_reducible refine (validSide_t ⟨t, k, true, ⟨oa, ob, oc⟩, false, ⟨na, nb, nc⟩⟩ _ _ _ H4.out).mono ?_)
        rintro e w2 ⟨rfl, hb2⟩
        go_wp2_with fail
        go_ret
        exact ⟨rfl, bt (bt (ba _ _) hb) hb2⟩
      · have hv : Hid (vc ⟨t, k, true, ⟨oa, ob, oc⟩, false, ⟨na, nb, nc⟩⟩ = false) := Lib.hid (decide_eq_false (fun h => h4 h.2.2.2))
        have H3 := Lib.hid h3
        have H4 := Lib.hid h4
        clear h3 h4
        rw [hv.out]
        go_enter Tryd.func97, Tryd.ntmps97
        go_wp2_with fail
        (with_reducible refine (validSide_t ⟨t, k, true, ⟨oa, ob, oc⟩, false, ⟨na, nb, nc⟩⟩ _ _ _ H3.out).mono ?_)
        rintro e w1 ⟨rfl, hb⟩
        obtain ⟨hc, hf⟩ := bcell hb
        go_wp2_with fail
        (with_reducible refine (validSide_f ⟨t, k, true, ⟨oa, ob, oc⟩, false, ⟨na, nb, nc⟩⟩ _ _ _ H4.out).mono ?_)
        rintro e w2 ⟨rfl, hb2⟩
        go_wp2_with fail
        go_ret
        exact ⟨rfl, bt (bt (ba _ _) hb) hb2⟩
    · have hv : Hid (vc ⟨t, k, true, ⟨oa, ob, oc⟩, false, ⟨na, nb, nc⟩⟩ = false) := Lib.hid (decide_eq_false (fun h => h3 h.2.2.1))
      have H3 := Lib.hid h3
      clear h3
      rw [hv.out]
      go_enter Tryd.func97, Tryd.ntmps97
      go_wp2_with fail
      (with_reducible refine (validSide_f ⟨t, k, true, ⟨oa, ob, oc⟩, false, ⟨na, nb, nc⟩⟩ _ _ _ H3.out).mono ?_)
      rintro e w1 ⟨rfl, hb⟩
      go_wp2_with fail
      go_ret
      exact ⟨rfl, bt (ba _ _) hb⟩
  · -- true, true
    by_cases h2 : (⟨oa, ob, oc⟩ : V3) = ⟨na, nb, nc⟩
    · have hv : Hid (vc ⟨t, k, true, ⟨oa, ob, oc⟩, true, ⟨na, nb, nc⟩⟩ = false) := Lib.hid (decide_eq_false (fun h => h.2.1 ⟨rfl, rfl, h2⟩))
      have hx : v3e ⟨oa, ob, oc⟩ ⟨na, nb, nc⟩ = true := decide_eq_true h2
      clear h2
      rw [hv.out]
      go_enter Tryd.func97, Tryd.ntmps97
      go_wp2
      go_ret
      exact ⟨rfl, ba _ _⟩
    have hn : ¬ (true = true ∧ true = true ∧ (⟨oa, ob, oc⟩ : V3) = ⟨na, nb, nc⟩) := fun h => h2 h.2.2
    have hx : v3e ⟨oa, ob, oc⟩ ⟨na, nb, nc⟩ = false := decide_eq_false h2
    have HN := Lib.hid hn
    clear h2 hn
    by_cases h3 : VSide ⟨t, k, true, ⟨oa, ob, oc⟩, true, ⟨na, nb, nc⟩⟩ true ⟨oa, ob, oc⟩
    · by_cases h4 : VSide ⟨t, k, true, ⟨oa, ob, oc⟩, true, ⟨na, nb, nc⟩⟩ true ⟨na, nb, nc⟩
      · have hv : Hid (vc ⟨t, k, true, ⟨oa, ob, oc⟩, true, ⟨na, nb, nc⟩⟩ = true) := Lib.hid (decide_eq_true ⟨by simp, HN.out, h3, h4⟩)
        have H3 := Lib.hid h3
        have H4 := Lib.hid h4
        clear h3 h4
        rw [hv.out]
        go_enter Tryd.func97, Tryd.ntmps97
        go_wp2_with fail
        (with_reducible refine (validSide_t ⟨t, k, true, ⟨oa, ob, oc⟩, true, ⟨na, nb, nc⟩⟩ _ _ _ H3.out).mono ?_)
        rintro e w1 ⟨rfl, hb⟩
        obtain ⟨hc, hf⟩ := bcell hb
        go_wp2_with fail
        (with_reducible refine (validSide_t ⟨t, k, true, ⟨oa, ob, oc⟩, true, ⟨na, nb, nc⟩⟩ _ _ _ H4.out).mono ?_)
        rintro e w2 ⟨rfl, hb2⟩
        go_wp2_with fail
        go_ret
        exact ⟨rfl, bt (bt (ba _ _) hb) hb2⟩
      · have hv : Hid (vc ⟨t, k, true, ⟨oa, ob, oc⟩, true, ⟨na, nb, nc⟩⟩ = false) := Lib.hid (decide_eq_false (fun h => h4 h.2.2.2))
        have H3 := Lib.hid h3
        have H4 := Lib.hid h4
        clear h3 h4
        rw [hv.out]
        go_enter Tryd.func97, Tryd.ntmps97
        go_wp2_with fail
        (with_reducible refine (validSide_t ⟨t, k, true, ⟨oa, ob, oc⟩, true, ⟨na, nb, nc⟩⟩ _ _ _ H3.out).mono ?_)
        rintro e w1 ⟨rfl, hb⟩
        obtain ⟨hc, hf⟩ := bcell hb
        go_wp2_with fail
        (with_reducible refine (validSide_f ⟨t, k, true, ⟨oa, ob, oc⟩, true, ⟨na, nb, nc⟩⟩ _ _ _ H4.out).mono ?_)
        rintro e w2 ⟨rfl, hb2⟩
        go_wp2_with fail
        go_ret
        exact ⟨rfl, bt (bt (ba _ _) hb) hb2⟩
    · have hv : Hid (vc ⟨t, k, true, ⟨oa, ob, oc⟩, true, ⟨na, nb, nc⟩⟩ = false) := Lib.hid (decide_eq_false (fun h => h3 h.2.2.1))
      have H3 := Lib.hid h3
      clear h3
      rw [hv.out]
      go_enter Tryd.func97, Tryd.ntmps97
      go_wp2_with fail
      (with_reducible refine (validSide_f ⟨t, k, true, ⟨oa, ob, oc⟩, true, ⟨na, nb, nc⟩⟩ _ _ _ H3.out).mono ?_)
      rintro e w1 ⟨rfl, hb⟩
      go_wp2_with fail
      go_ret
      exact ⟨rfl, bt (ba _ _) hb⟩

set_option maxRecDepth 100000 in
set_option maxHeartbeats 1000000 in
theorem precedes_any (c d : MCh) (w : World) :
    Calls Tryd.prog 98 #[chV c, chV d] w fun e w' => e = .returned (.bool (decide (c.t < d.t ∨ c.t = d.t ∧ c.k < d.k))) ∧ Below w.heap.size w w' := by
  by_cases h : c.t = d.t
  · have e1 : Hid (decide (c.t < d.t ∨ c.t = d.t ∧ c.k < d.k) = decide (c.k < d.k)) := Lib.hid (by simp [h])
    have e2 : (c.t != d.t) = false := by simp [h]
    rw [e1.out]
    clear h
    go_enter Tryd.func98, Tryd.ntmps98
    go_wp2
    go_ret
    exact ⟨rfl, ((Below.refl _ w).alloc (Nat.le_refl _) _).alloc (by simp) _⟩
  · have e1 : Hid (decide (c.t < d.t ∨ c.t = d.t ∧ c.k < d.k) = decide (c.t < d.t)) := Lib.hid (by simp [h])
    have e2 : (c.t != d.t) = true := by simp [h]
    rw [e1.out]
    clear h
    go_enter Tryd.func98, Tryd.ntmps98
    go_wp2
    go_ret
    exact ⟨rfl, ((Below.refl _ w).alloc (Nat.le_refl _) _).alloc (by simp) _⟩
end Go.Proofs.YtpapfegbodolgaaDoor
end

section
set_option linter.unusedSimpArgs false
set_option linter.unusedVariables false
namespace Go.Proofs.YtpapfegbodolgaaDoor
open Go.RowKit Go.Sort

theorem ChAt_regrown {w : World} {b o : Nat} {c : MCh} (h : ∀ j : Nat, j < 10 → w.cell? ⟨b, o + j, none⟩ = (chCells c)[j]?) (d : Nat) (os : Array Obj) : ∀ j : Nat, j < 10 → (grow (redrawn w d) os).cell? ⟨b, o + j, none⟩ = (chCells c)[j]? := fun j hj => by
  have h1 := h j hj
  have hs : (chCells c)[j]? = some ((chCells c)[j]'(by simp [chCells]; omega)) := Array.getElem?_eq_getElem _
  rw [hs] at h1 ⊢
  exact cell_regrown h1 d os
def chZ : MCh := ⟨0, 0, false, V3.zero, false, V3.zero⟩
/-- The ten cells of a change, from an offset on. -/
def ChAt (w : World) (b o : Nat) (c : MCh) : Prop := ∀ j : Nat, j < 10 → w.cell? ⟨b, o + j, none⟩ = (chCells c)[j]?
/-- A slice that reads as a list of changes. -/
def ChS (w : World) (v : Value) (L : List MCh) : Prop :=
  ∃ a n cap, v = .slice a n cap ∧ n = L.length ∧ n ≤ cap ∧ cap ≤ 9223372036854775807 ∧ (1 ≤ n → ∃ b o, a = some ⟨b, o, none⟩ ∧ b < w.heap.size ∧ ∀ i, i < n → ChAt w b (o + i * 10) (L.getD i chZ))
theorem ChAt_new (w : World) (c : MCh) : ∀ j : Nat, j < 10 → (w.alloc (.cells (chCells c) 57)).cell? ⟨w.heap.size, 0 + j, none⟩ = (chCells c)[j]? := fun j hj => by
  match j, hj with
  | 0, _ => simp [go_sem, chCells]
  | 1, _ => simp [go_sem, chCells]
  | 2, _ => simp [go_sem, chCells]
  | 3, _ => simp [go_sem, chCells]
  | 4, _ => simp [go_sem, chCells]
  | 5, _ => simp [go_sem, chCells]
  | 6, _ => simp [go_sem, chCells]
  | 7, _ => simp [go_sem, chCells]
  | 8, _ => simp [go_sem, chCells]
  | 9, _ => simp [go_sem, chCells]
theorem ChAt.below {w w1 : World} {b o : Nat} {c : MCh} (h : ChAt w b o c) (hb : b < w.heap.size) (k : Below w.heap.size w w1) : ChAt w1 b o c := fun j hj => by rw [(bcell k).1 b _ hb]; exact h j hj
theorem ChAt.cells {w : World} {b o : Nat} {t k : Int} {had has : Bool} {oa ob oc na nb nc : Int} (h : ChAt w b o ⟨t, k, had, ⟨oa, ob, oc⟩, has, ⟨na, nb, nc⟩⟩) :
    w.cell? ⟨b, o, none⟩ = some (.int .i64 t) ∧ w.cell? ⟨b, o + 1, none⟩ = some (.int .i64 k) ∧ w.cell? ⟨b, o + 2, none⟩ = some (.bool had) ∧ w.cell? ⟨b, o + 3, none⟩ = some (.int .i64 oa) ∧ w.cell? ⟨b, o + 4, none⟩ = some (.int .i64 ob) ∧ w.cell? ⟨b, o + 5, none⟩ = some (.int .i64 oc) ∧ w.cell? ⟨b, o + 6, none⟩ = some (.bool has) ∧ w.cell? ⟨b, o + 7, none⟩ = some (.int .i64 na) ∧ w.cell? ⟨b, o + 8, none⟩ = some (.int .i64 nb) ∧ w.cell? ⟨b, o + 9, none⟩ = some (.int .i64 nc) :=
  ⟨h 0 (by omega), h 1 (by omega), h 2 (by omega), h 3 (by omega), h 4 (by omega), h 5 (by omega), h 6 (by omega), h 7 (by omega), h 8 (by omega), h 9 (by omega)⟩
theorem ChS.below {w w1 : World} {v : Value} {L : List MCh} (h : ChS w v L) (k : Below w.heap.size w w1) : ChS w1 v L := by
  obtain ⟨a, n, cap, e, hn, h1, h2, h3⟩ := h
  refine ⟨a, n, cap, e, hn, h1, h2, fun h => ?_⟩
  obtain ⟨b, o, e, hb, hc⟩ := h3 h
  exact ⟨b, o, e, Nat.lt_of_lt_of_le hb k.size, fun i hi => (hc i hi).below hb k⟩

/-- The changes are valid and ascend. -/
def Prec (c d : MCh) : Prop := c.t < d.t ∨ c.t = d.t ∧ c.k < d.k
instance (c d : MCh) : Decidable (Prec c d) := by unfold Prec; infer_instance
def VGo (L : List MCh) (k : Nat) : Prop := VCh (L.getD k chZ) ∧ (0 < k → Prec (L.getD (k - 1) chZ) (L.getD k chZ))
def VRec (p : Int) (L : List MCh) : Prop := (1 ≤ p ∧ p ≤ 10000) ∧ (1 ≤ L.length ∧ L.length ≤ 8) ∧ ∀ k, k < L.length → VGo L k
instance (L : List MCh) (k : Nat) : Decidable (VGo L k) := by unfold VGo; infer_instance
instance (p : Int) (L : List MCh) : Decidable (VRec p L) := by unfold VRec; infer_instance
def vrec (p : Int) (L : List MCh) : Bool := decide (VRec p L)
theorem vrec_t {p : Int} {L : List MCh} (h : VRec p L) : Ending.returned (.bool true) = .returned (.bool (vrec p L)) := by rw [vrec, decide_eq_true h]
theorem vrec_f {p : Int} {L : List MCh} (h : ¬ VRec p L) : Ending.returned (.bool false) = .returned (.bool (vrec p L)) := by rw [vrec, decide_eq_false h]

theorem vc_t (c : MCh) (w : World) (h : VCh c) : Calls Tryd.prog 97 #[chV c] w fun e w' => e = .returned (.bool true) ∧ Below w.heap.size w w' :=
  (validChange_any c w).mono fun e w' hw => by rw [vc, decide_eq_true h] at hw; exact hw
theorem vc_f (c : MCh) (w : World) (h : ¬ VCh c) : Calls Tryd.prog 97 #[chV c] w fun e w' => e = .returned (.bool false) ∧ Below w.heap.size w w' :=
  (validChange_any c w).mono fun e w' hw => by rw [vc, decide_eq_false h] at hw; exact hw
theorem prec_t (c d : MCh) (w : World) (h : Prec c d) : Calls Tryd.prog 98 #[chV c, chV d] w fun e w' => e = .returned (.bool true) ∧ Below w.heap.size w w' :=
  (precedes_any c d w).mono fun e w' hw => by rw [show decide (c.t < d.t ∨ c.t = d.t ∧ c.k < d.k) = true from decide_eq_true h] at hw; exact hw
theorem prec_f (c d : MCh) (w : World) (h : ¬ Prec c d) : Calls Tryd.prog 98 #[chV c, chV d] w fun e w' => e = .returned (.bool false) ∧ Below w.heap.size w w' :=
  (precedes_any c d w).mono fun e w' hw => by rw [show decide (c.t < d.t ∨ c.t = d.t ∧ c.k < d.k) = false from decide_eq_false h] at hw; exact hw

set_option maxRecDepth 100000 in
set_option maxHeartbeats 8000000 in
theorem validRecord_in (p : Int) (n cap : Nat) (L : List MCh) (w : World) (hn : n = L.length) (h1 : 1 ≤ p ∧ p ≤ 10000) (h2 : 1 ≤ n ∧ n ≤ 8) (b o : Nat) (hb : b < w.heap.size) (hc : ∀ i, i < n → ChAt w b (o + i * 10) (L.getD i chZ)) :
    Calls Tryd.prog 84 #[.agg #[.int .i64 p, .slice (some ⟨b, o, none⟩) n cap]] w fun e w' => e = .returned (.bool (vrec p L)) ∧ Below w.heap.size w w' := by
  have HN := Lib.hid hn
  have HC := Lib.hid hc
  have H1 := Lib.hid h1
  have H2 := Lib.hid h2
  clear hn hc
  go_enter Tryd.func84, Tryd.ntmps84
  go_wp2
  go_loopw [26, 28, 3, 4] (fun i _ _ _ wr => ∃ k : Nat, k ≤ n ∧ i = .int .i64 k ∧ Below (w.heap.size + 1) (w.alloc (.cells #[.int .i64 p, .slice (some ⟨b, o, none⟩) n cap] 51)) wr ∧ Hid (∀ j, j < k → VGo L j)) (fun i _ _ _ _ => n - (intOf i).toNat)
  case atStart => exact ⟨0, by omega, rfl, by simpa using Below.refl (w.alloc (.cells #[.int .i64 p, .slice (some ⟨b, o, none⟩) n cap] 51)).heap.size _, Lib.hid (fun j hj => by omega)⟩
  case round =>
    obtain ⟨k, hk, rfl, HB, HV⟩ := hrel
    have hsz := HB.size
    simp only [World.size_alloc] at hsz
    have hw0 : Below w.heap.size w wr := bt (ba w _) (by simpa using HB)
    have hr1 : wr.cell? ⟨w.heap.size, 1, none⟩ = some (.slice (some ⟨b, o, none⟩) n cap) := by
      rw [(bcell (W := w.alloc (.cells #[.int .i64 p, .slice (some ⟨b, o, none⟩) n cap] 51)) (w1 := wr) (by simpa using HB)).1 _ _ (by simp)]
      simp [go_sem]
    by_cases hlt : k < n
    · have HCk := (HC.out k hlt).below hb hw0
      have HVk : Hid (VGo L k ↔ VCh (L.getD k chZ) ∧ (0 < k → Prec (L.getD (k - 1) chZ) (L.getD k chZ))) := Lib.hid Iff.rfl
      have HF : Hid (¬ VGo L k → ¬ VRec p L) := Lib.hid (fun h hh => h (hh.2.2 k (by rw [← HN.out]; exact hlt)))
      obtain ⟨c, HcE⟩ : ∃ c, Hid (L.getD k chZ = c) := ⟨_, Lib.hid rfl⟩
      rw [HcE.out] at HCk HVk
      obtain ⟨t, kk, had, ⟨oa, ob, oc⟩, has, ⟨na, nb, nc⟩⟩ := c
      obtain ⟨d0, d1, d2, d3, d4, d5, d6, d7, d8, d9⟩ := HCk.cells
      by_cases hv : VCh ⟨t, kk, had, ⟨oa, ob, oc⟩, has, ⟨na, nb, nc⟩⟩
      · have HVc := Lib.hid hv
        clear hv
        by_cases hk0 : 0 < k
        · obtain ⟨q, rfl⟩ : ∃ q, k = q + 1 := ⟨k - 1, by omega⟩
          have HCq := (HC.out q (by omega)).below hb hw0
          obtain ⟨c', HcE'⟩ : ∃ c', Hid (L.getD q chZ = c') := ⟨_, Lib.hid rfl⟩
          rw [HcE'.out] at HCq
          rw [Nat.add_sub_cancel, HcE'.out] at HVk
          obtain ⟨t', kk', had', ⟨oa', ob', oc'⟩, has', ⟨na', nb', nc'⟩⟩ := c'
          have hw1 : IntKind.i64.wrap ((q : Int) + 1 - 1) = (q : Int) := by rw [IntKind.wrap_i64]; omega
          by_cases hp : Prec ⟨t', kk', had', ⟨oa', ob', oc'⟩, has', ⟨na', nb', nc'⟩⟩ ⟨t, kk, had, ⟨oa, ob, oc⟩, has, ⟨na, nb, nc⟩⟩
          · have HPc := Lib.hid hp
            have HNV : Hid (VGo L (q + 1)) := Lib.hid (HVk.out.2 ⟨HVc.out, fun _ => HPc.out⟩)
            clear hp hk0
            go_wp2_with fail
            obtain ⟨wb, Hwb⟩ : ∃ wb, Hid (wr.alloc (.cells #[.int .i64 t, .int .i64 kk, .bool had, .int .i64 oa, .int .i64 ob, .int .i64 oc, .bool has, .int .i64 na, .int .i64 nb, .int .i64 nc] 57) = wb) := ⟨_, Lib.hid rfl⟩
            rw [Hwb.out]
            have HBb : Hid (Below (w.heap.size + 1) (w.alloc (.cells #[.int .i64 p, .slice (some ⟨b, o, none⟩) n cap] 51)) wb) := Lib.hid (by rw [← Hwb.out]; exact HB.alloc hsz _)
            have Hwrb : Hid (Below wr.heap.size wr wb) := Lib.hid (by rw [← Hwb.out]; exact ba _ _)
            have hg : ∀ d os, ChAt (grow (redrawn wb d) os) wr.heap.size 0 ⟨t, kk, had, ⟨oa, ob, oc⟩, has, ⟨na, nb, nc⟩⟩ := fun d os => ChAt_regrown (by rw [← Hwb.out]; exact ChAt_new wr ⟨t, kk, had, ⟨oa, ob, oc⟩, has, ⟨na, nb, nc⟩⟩) d os
            have g0 := fun d os => (hg d os).cells.1
            have g1 := fun d os => (hg d os).cells.2.1
            have g2 := fun d os => (hg d os).cells.2.2.1
            have g3 := fun d os => (hg d os).cells.2.2.2.1
            have g4 := fun d os => (hg d os).cells.2.2.2.2.1
            have g5 := fun d os => (hg d os).cells.2.2.2.2.2.1
            have g6 := fun d os => (hg d os).cells.2.2.2.2.2.2.1
            have g7 := fun d os => (hg d os).cells.2.2.2.2.2.2.2.1
            have g8 := fun d os => (hg d os).cells.2.2.2.2.2.2.2.2.1
            have g9 := fun d os => (hg d os).cells.2.2.2.2.2.2.2.2.2
            simp only [Nat.zero_add] at g0 g1 g2 g3 g4 g5 g6 g7 g8 g9
            have hv : ∀ d os, Calls Tryd.prog 97 #[chV ⟨t, kk, had, ⟨oa, ob, oc⟩, has, ⟨na, nb, nc⟩⟩] (grow (redrawn wb d) os) fun e w'' => e = .returned (.bool true) ∧ ∃ p : Regrown, w'' = grow (redrawn wb p.d) p.os := fun d os => Calls.regrown_of (vc_t _ _ HVc.out)
            have he : ∀ d os, ChAt (grow (redrawn wb d) os) b (o + q * 10) ⟨t', kk', had', ⟨oa', ob', oc'⟩, has', ⟨na', nb', nc'⟩⟩ := fun d os => ChAt_regrown (HCq.below (Nat.lt_of_lt_of_le hb hw0.size) Hwrb.out) d os
            have e0 := fun d os => (he d os).cells.1
            have e1 := fun d os => (he d os).cells.2.1
            have e2 := fun d os => (he d os).cells.2.2.1
            have e3 := fun d os => (he d os).cells.2.2.2.1
            have e4 := fun d os => (he d os).cells.2.2.2.2.1
            have e5 := fun d os => (he d os).cells.2.2.2.2.2.1
            have e6 := fun d os => (he d os).cells.2.2.2.2.2.2.1
            have e7 := fun d os => (he d os).cells.2.2.2.2.2.2.2.1
            have e8 := fun d os => (he d os).cells.2.2.2.2.2.2.2.2.1
            have e9 := fun d os => (he d os).cells.2.2.2.2.2.2.2.2.2
            have hr2 : ∀ d os, (grow (redrawn wb d) os).cell? ⟨w.heap.size, 1, none⟩ = some (.slice (some ⟨b, o, none⟩) n cap) := fun d os => cell_regrown (by rw [(bcell Hwrb.out).1 _ _ (by omega)]; exact hr1) d os
            clear he
            have hp : ∀ d os, Calls Tryd.prog 98 #[chV ⟨t', kk', had', ⟨oa', ob', oc'⟩, has', ⟨na', nb', nc'⟩⟩, chV ⟨t, kk, had, ⟨oa, ob, oc⟩, has, ⟨na, nb, nc⟩⟩] (grow (redrawn wb d) os) fun e w'' => e = .returned (.bool true) ∧ ∃ p : Regrown, w'' = grow (redrawn wb p.d) p.os := fun d os => Calls.regrown_of (prec_t _ _ _ HPc.out)
            clear hg
            refine wp_region_quiet_below (by kernel_rfl) (by kernel_rfl) ?_
            repeat (first | go_big_quiet_step (first | exact hv _ _ | exact hp _ _) | quiet_step (first | exact hv _ _ | exact hp _ _))
            refine wpQuiet_nil ?_
            intro _ hw'
            obtain ⟨⟨dq, osq⟩, hw''⟩ := hw'
            subst hw''
            have HBq := Lib.hid (HBb.out.trans ((below_regrown wb dq osq).mono (by simpa using HBb.out.size)))
            clear g0 g1 g2 g3 g4 g5 g6 g7 g8 g9
            go_wp2_with fail
            exact ⟨⟨q + 1 + 1, by omega, by go_num, HBq.out, Lib.hid (fun j hj => by
              rcases Nat.lt_or_eq_of_le (Nat.le_of_lt_succ hj) with h | rfl
              · exact HV.out j h
              · exact HNV.out)⟩, by simp [intOf]; omega⟩
          · have HPc := Lib.hid hp
            have HNV : Hid (¬ VGo L (q + 1)) := Lib.hid (fun h => HPc.out ((HVk.out.1 h).2 (by omega)))
            clear hp hk0
            go_wp2_with fail
            obtain ⟨wb, Hwb⟩ : ∃ wb, Hid (wr.alloc (.cells #[.int .i64 t, .int .i64 kk, .bool had, .int .i64 oa, .int .i64 ob, .int .i64 oc, .bool has, .int .i64 na, .int .i64 nb, .int .i64 nc] 57) = wb) := ⟨_, Lib.hid rfl⟩
            rw [Hwb.out]
            have HBb : Hid (Below (w.heap.size + 1) (w.alloc (.cells #[.int .i64 p, .slice (some ⟨b, o, none⟩) n cap] 51)) wb) := Lib.hid (by rw [← Hwb.out]; exact HB.alloc hsz _)
            have Hwrb : Hid (Below wr.heap.size wr wb) := Lib.hid (by rw [← Hwb.out]; exact ba _ _)
            have hg : ∀ d os, ChAt (grow (redrawn wb d) os) wr.heap.size 0 ⟨t, kk, had, ⟨oa, ob, oc⟩, has, ⟨na, nb, nc⟩⟩ := fun d os => ChAt_regrown (by rw [← Hwb.out]; exact ChAt_new wr ⟨t, kk, had, ⟨oa, ob, oc⟩, has, ⟨na, nb, nc⟩⟩) d os
            have g0 := fun d os => (hg d os).cells.1
            have g1 := fun d os => (hg d os).cells.2.1
            have g2 := fun d os => (hg d os).cells.2.2.1
            have g3 := fun d os => (hg d os).cells.2.2.2.1
            have g4 := fun d os => (hg d os).cells.2.2.2.2.1
            have g5 := fun d os => (hg d os).cells.2.2.2.2.2.1
            have g6 := fun d os => (hg d os).cells.2.2.2.2.2.2.1
            have g7 := fun d os => (hg d os).cells.2.2.2.2.2.2.2.1
            have g8 := fun d os => (hg d os).cells.2.2.2.2.2.2.2.2.1
            have g9 := fun d os => (hg d os).cells.2.2.2.2.2.2.2.2.2
            simp only [Nat.zero_add] at g0 g1 g2 g3 g4 g5 g6 g7 g8 g9
            have hv : ∀ d os, Calls Tryd.prog 97 #[chV ⟨t, kk, had, ⟨oa, ob, oc⟩, has, ⟨na, nb, nc⟩⟩] (grow (redrawn wb d) os) fun e w'' => e = .returned (.bool true) ∧ ∃ p : Regrown, w'' = grow (redrawn wb p.d) p.os := fun d os => Calls.regrown_of (vc_t _ _ HVc.out)
            have he : ∀ d os, ChAt (grow (redrawn wb d) os) b (o + q * 10) ⟨t', kk', had', ⟨oa', ob', oc'⟩, has', ⟨na', nb', nc'⟩⟩ := fun d os => ChAt_regrown (HCq.below (Nat.lt_of_lt_of_le hb hw0.size) Hwrb.out) d os
            have e0 := fun d os => (he d os).cells.1
            have e1 := fun d os => (he d os).cells.2.1
            have e2 := fun d os => (he d os).cells.2.2.1
            have e3 := fun d os => (he d os).cells.2.2.2.1
            have e4 := fun d os => (he d os).cells.2.2.2.2.1
            have e5 := fun d os => (he d os).cells.2.2.2.2.2.1
            have e6 := fun d os => (he d os).cells.2.2.2.2.2.2.1
            have e7 := fun d os => (he d os).cells.2.2.2.2.2.2.2.1
            have e8 := fun d os => (he d os).cells.2.2.2.2.2.2.2.2.1
            have e9 := fun d os => (he d os).cells.2.2.2.2.2.2.2.2.2
            have hr2 : ∀ d os, (grow (redrawn wb d) os).cell? ⟨w.heap.size, 1, none⟩ = some (.slice (some ⟨b, o, none⟩) n cap) := fun d os => cell_regrown (by rw [(bcell Hwrb.out).1 _ _ (by omega)]; exact hr1) d os
            clear he
            have hp : ∀ d os, Calls Tryd.prog 98 #[chV ⟨t', kk', had', ⟨oa', ob', oc'⟩, has', ⟨na', nb', nc'⟩⟩, chV ⟨t, kk, had, ⟨oa, ob, oc⟩, has, ⟨na, nb, nc⟩⟩] (grow (redrawn wb d) os) fun e w'' => e = .returned (.bool false) ∧ ∃ p : Regrown, w'' = grow (redrawn wb p.d) p.os := fun d os => Calls.regrown_of (prec_f _ _ _ HPc.out)
            clear hg
            refine wp_region_quiet_below (by kernel_rfl) (by kernel_rfl) ?_
            repeat (first | go_big_quiet_step (first | exact hv _ _ | exact hp _ _) | quiet_step (first | exact hv _ _ | exact hp _ _))
            refine wpQuiet_nil ?_
            intro _ hw'
            obtain ⟨⟨dq, osq⟩, hw''⟩ := hw'
            subst hw''
            have HBq := Lib.hid (HBb.out.trans ((below_regrown wb dq osq).mono (by simpa using HBb.out.size)))
            clear g0 g1 g2 g3 g4 g5 g6 g7 g8 g9
            go_wp2_with fail
            go_ret
            exact ⟨vrec_f (HF.out HNV.out), bt (ba w _) (by simpa using HBq.out)⟩
        · have hd0 : decide (0 < (k : Int)) = false := by simp; omega
          have hd1 : decide (0 < k) = false := by simp; omega
          have HNV : Hid (VGo L k) := Lib.hid (HVk.out.2 ⟨HVc.out, fun h => absurd h hk0⟩)
          clear hk0
          go_wp2_with fail
          obtain ⟨wb, Hwb⟩ : ∃ wb, Hid (wr.alloc (.cells #[.int .i64 t, .int .i64 kk, .bool had, .int .i64 oa, .int .i64 ob, .int .i64 oc, .bool has, .int .i64 na, .int .i64 nb, .int .i64 nc] 57) = wb) := ⟨_, Lib.hid rfl⟩
          rw [Hwb.out]
          have HBb : Hid (Below (w.heap.size + 1) (w.alloc (.cells #[.int .i64 p, .slice (some ⟨b, o, none⟩) n cap] 51)) wb) := Lib.hid (by rw [← Hwb.out]; exact HB.alloc hsz _)
          have Hwrb : Hid (Below wr.heap.size wr wb) := Lib.hid (by rw [← Hwb.out]; exact ba _ _)
          have hg : ∀ d os, ChAt (grow (redrawn wb d) os) wr.heap.size 0 ⟨t, kk, had, ⟨oa, ob, oc⟩, has, ⟨na, nb, nc⟩⟩ := fun d os => ChAt_regrown (by rw [← Hwb.out]; exact ChAt_new wr ⟨t, kk, had, ⟨oa, ob, oc⟩, has, ⟨na, nb, nc⟩⟩) d os
          have g0 := fun d os => (hg d os).cells.1
          have g1 := fun d os => (hg d os).cells.2.1
          have g2 := fun d os => (hg d os).cells.2.2.1
          have g3 := fun d os => (hg d os).cells.2.2.2.1
          have g4 := fun d os => (hg d os).cells.2.2.2.2.1
          have g5 := fun d os => (hg d os).cells.2.2.2.2.2.1
          have g6 := fun d os => (hg d os).cells.2.2.2.2.2.2.1
          have g7 := fun d os => (hg d os).cells.2.2.2.2.2.2.2.1
          have g8 := fun d os => (hg d os).cells.2.2.2.2.2.2.2.2.1
          have g9 := fun d os => (hg d os).cells.2.2.2.2.2.2.2.2.2
          simp only [Nat.zero_add] at g0 g1 g2 g3 g4 g5 g6 g7 g8 g9
          have hv : ∀ d os, Calls Tryd.prog 97 #[chV ⟨t, kk, had, ⟨oa, ob, oc⟩, has, ⟨na, nb, nc⟩⟩] (grow (redrawn wb d) os) fun e w'' => e = .returned (.bool true) ∧ ∃ p : Regrown, w'' = grow (redrawn wb p.d) p.os := fun d os => Calls.regrown_of (vc_t _ _ HVc.out)
          clear hg
          refine wp_region_quiet_below (by kernel_rfl) (by kernel_rfl) ?_
          repeat (first | go_big_quiet_step (exact hv _ _) | quiet_step (exact hv _ _))
          refine wpQuiet_nil ?_
          intro _ hw'
          obtain ⟨⟨dq, osq⟩, hw''⟩ := hw'
          subst hw''
          have HBq := Lib.hid (HBb.out.trans ((below_regrown wb dq osq).mono (by simpa using HBb.out.size)))
          clear g0 g1 g2 g3 g4 g5 g6 g7 g8 g9
          go_wp2_with fail
          exact ⟨⟨k + 1, by omega, by go_num, HBq.out, Lib.hid (fun j hj => by
            rcases Nat.lt_or_eq_of_le (Nat.le_of_lt_succ hj) with h | rfl
            · exact HV.out j h
            · exact HNV.out)⟩, by simp [intOf]; omega⟩
      · have HVc := Lib.hid hv
        have HNV : Hid (¬ VGo L k) := Lib.hid (fun h => HVc.out (HVk.out.1 h).1)
        clear hv
        go_wp2_with fail
        obtain ⟨wb, Hwb⟩ : ∃ wb, Hid (wr.alloc (.cells #[.int .i64 t, .int .i64 kk, .bool had, .int .i64 oa, .int .i64 ob, .int .i64 oc, .bool has, .int .i64 na, .int .i64 nb, .int .i64 nc] 57) = wb) := ⟨_, Lib.hid rfl⟩
        rw [Hwb.out]
        have HBb : Hid (Below (w.heap.size + 1) (w.alloc (.cells #[.int .i64 p, .slice (some ⟨b, o, none⟩) n cap] 51)) wb) := Lib.hid (by rw [← Hwb.out]; exact HB.alloc hsz _)
        have Hwrb : Hid (Below wr.heap.size wr wb) := Lib.hid (by rw [← Hwb.out]; exact ba _ _)
        have hg : ∀ d os, ChAt (grow (redrawn wb d) os) wr.heap.size 0 ⟨t, kk, had, ⟨oa, ob, oc⟩, has, ⟨na, nb, nc⟩⟩ := fun d os => ChAt_regrown (by rw [← Hwb.out]; exact ChAt_new wr ⟨t, kk, had, ⟨oa, ob, oc⟩, has, ⟨na, nb, nc⟩⟩) d os
        have g0 := fun d os => (hg d os).cells.1
        have g1 := fun d os => (hg d os).cells.2.1
        have g2 := fun d os => (hg d os).cells.2.2.1
        have g3 := fun d os => (hg d os).cells.2.2.2.1
        have g4 := fun d os => (hg d os).cells.2.2.2.2.1
        have g5 := fun d os => (hg d os).cells.2.2.2.2.2.1
        have g6 := fun d os => (hg d os).cells.2.2.2.2.2.2.1
        have g7 := fun d os => (hg d os).cells.2.2.2.2.2.2.2.1
        have g8 := fun d os => (hg d os).cells.2.2.2.2.2.2.2.2.1
        have g9 := fun d os => (hg d os).cells.2.2.2.2.2.2.2.2.2
        simp only [Nat.zero_add] at g0 g1 g2 g3 g4 g5 g6 g7 g8 g9
        have hv : ∀ d os, Calls Tryd.prog 97 #[chV ⟨t, kk, had, ⟨oa, ob, oc⟩, has, ⟨na, nb, nc⟩⟩] (grow (redrawn wb d) os) fun e w'' => e = .returned (.bool false) ∧ ∃ p : Regrown, w'' = grow (redrawn wb p.d) p.os := fun d os => Calls.regrown_of (vc_f _ _ HVc.out)
        clear hg
        refine wp_region_quiet_below (by kernel_rfl) (by kernel_rfl) ?_
        repeat (first | go_big_quiet_step (exact hv _ _) | quiet_step (exact hv _ _))
        refine wpQuiet_nil ?_
        intro _ hw'
        obtain ⟨⟨dq, osq⟩, hw''⟩ := hw'
        subst hw''
        have HBq := Lib.hid (HBb.out.trans ((below_regrown wb dq osq).mono (by simpa using HBb.out.size)))
        clear g0 g1 g2 g3 g4 g5 g6 g7 g8 g9
        go_wp2_with fail
        go_ret
        exact ⟨vrec_f (HF.out HNV.out), bt (ba w _) (by simpa using HBq.out)⟩
    · have HT : Hid (VRec p L) := Lib.hid ⟨H1.out, by rw [← HN.out]; exact H2.out, fun j hj => HV.out j (by rw [← HN.out] at hj; omega)⟩
      go_wp2_with fail
      go_ret
      exact ⟨vrec_t HT.out, hw0⟩

set_option maxRecDepth 100000 in
set_option maxHeartbeats 1000000 in
theorem validRecord_any (p : Int) (v : Value) (L : List MCh) (w : World) (hv : ChS w v L) :
    Calls Tryd.prog 84 #[.agg #[.int .i64 p, v]] w fun e w' => e = .returned (.bool (vrec p L)) ∧ Below w.heap.size w w' := by
  obtain ⟨a, n, cap, rfl, hn, hc1, hc2, hcell⟩ := hv
  by_cases h1 : 1 ≤ p ∧ p ≤ 10000
  · by_cases h2 : 1 ≤ n ∧ n ≤ 8
    · obtain ⟨b, o, rfl, hb, hc⟩ := hcell h2.1
      exact validRecord_in p n cap L w hn h1 h2 b o hb hc
    · have HF : Hid (¬ VRec p L) := Lib.hid (fun h => h2 (by rw [hn]; exact h.2.1))
      clear hn hcell
      go_enter Tryd.func84, Tryd.ntmps84
      go_wp2
      all_goals
        go_ret
        exact ⟨vrec_f HF.out, ba _ _⟩
  · have HF : Hid (¬ VRec p L) := Lib.hid (fun h => h1 h.1)
    clear hn hcell
    go_enter Tryd.func84, Tryd.ntmps84
    go_wp2
    all_goals
      go_ret
      exact ⟨vrec_f HF.out, ba _ _⟩
end Go.Proofs.YtpapfegbodolgaaDoor
end

section
set_option linter.unusedVariables false set_option linter.unusedSimpArgs false
namespace Go.Proofs.YtpapfegbodolgaaDoor
open Go.RowKit Go.Sort

theorem below_drewN {n : Nat} {a w : World} (h : Below n a w) (m : Nat) : Below n a (w.drewN m) := by
  induction m with
  | zero => exact h
  | succ m ih => exact ih.drew

def lstE (L M : List MCh) : Bool := decide (L = M)
theorem lstE_t {L M : List MCh} (h : L = M) : Ending.returned (.bool true) = .returned (.bool (lstE L M)) := by rw [lstE, decide_eq_true h]
theorem lstE_f {L M : List MCh} (h : ¬ L = M) : Ending.returned (.bool false) = .returned (.bool (lstE L M)) := by rw [lstE, decide_eq_false h]
theorem lst_eq {L M : List MCh} (h : L.length = M.length) (k : Nat) (hk : L.length ≤ k) (hall : ∀ j, j < k → L.getD j chZ = M.getD j chZ) : L = M := by
  apply List.ext_getElem h
  intro i h1 h2
  have := hall i (by omega)
  simpa [List.getD_eq_getElem?_getD, h1, h2] using this

def sameE (p q : Int) (L M : List MCh) : Bool := decide (p = q ∧ L = M)
end Go.Proofs.YtpapfegbodolgaaDoor
end

section
set_option linter.unusedVariables false set_option linter.unusedSimpArgs false
namespace Go.Proofs.YtpapfegbodolgaaDoor
open Go.RowKit Go.Sort

theorem ownsRow_below {w w' : World} {base : Nat} {e : TypeId} {size : Nat} {v : Value} {n : Nat} {xs : List Value} (h : w.ownsRow base e size v n xs) (hb : Below w.heap.size w w') : w'.ownsRow base e size v n xs := by
  obtain ⟨h1, h2⟩ := h
  refine ⟨h1, ?_⟩
  rcases h2 with h2 | ⟨g, cap, cur, e1, e2, e3, e4⟩
  · exact .inl h2
  · exact .inr ⟨g, cap, cur, e1, e2, (hb.block g (Array.getElem?_eq_some_iff.1 e3).1).trans e3, e4⟩
theorem builder_below {w w' : World} {T e : TypeId} {B b : Nat} {bs : List Value} (h : Lib.IsBuilder T e B b bs w) (hb : Below w.heap.size w w') : Lib.IsBuilder T e B b bs w' := by
  rcases h with ⟨h1, v, h2, h3, h4⟩ | ⟨h1, v, h2, h3, h4⟩
  · exact .inl ⟨h1, v, (hb.block b (Array.getElem?_eq_some_iff.1 h2).1).trans h2, ownsRow_below h3 hb, h4⟩
  · exact .inr ⟨h1, v, (hb.block b (Array.getElem?_eq_some_iff.1 h2).1).trans h2, ownsRow_below h3 hb, h4⟩

/-- A slice that reads as a list of ints. -/
def IntS (w : World) (v : Value) (l : List Int) : Prop :=
  ∃ a n cap, v = .slice a n cap ∧ n = l.length ∧ n ≤ 1000 ∧ (1 ≤ n → ∃ b o, a = some ⟨b, o, none⟩ ∧ b < w.heap.size ∧ ∀ i, i < n → w.cell? ⟨b, o + i, none⟩ = some (.int .i64 (l.getD i 0)))
theorem IntS.below {w w1 : World} {v : Value} {l : List Int} (h : IntS w v l) (k : Below w.heap.size w w1) : IntS w1 v l := by
  obtain ⟨a, n, cap, e, hn, h1, h3⟩ := h
  refine ⟨a, n, cap, e, hn, h1, fun h => ?_⟩
  obtain ⟨b, o, e, hb, hc⟩ := h3 h
  exact ⟨b, o, e, Nat.lt_of_lt_of_le hb k.size, fun i hi => by rw [(bcell k).1 b _ hb]; exact hc i hi⟩

theorem putInt_fit (x : Int) (w : World) (h : Fit x) : Calls Tryd.prog 55 #[.int .i64 x] w fun e W' => e = .returned (.tuple #[.string (encI x), .int .i64 0]) ∧ Below w.heap.size w W' := putInt_enc x w h.1 h.2
def encStr (l : List Int) : ByteArray := ⟨(encs l).toArray⟩
theorem encs_take_succ (l : List Int) (k : Nat) (h : k < l.length) : encs (l.take (k + 1)) = encs (l.take k) ++ encInt (l.getD k 0) := by
  rw [List.take_succ_eq_append_getElem h, encs_append]
  simp [encs, List.getD_eq_getElem?_getD, h]
theorem byteCells_app (a b : List UInt8) : Lib.byteCells (a ++ b) = Lib.byteCells a ++ Lib.byteCells b := by simp [Lib.byteCells]
theorem strCells_enc (n : Int) : Lib.strCells (encI n) = Lib.byteCells (encInt n) := rfl
theorem byteCells_len (a : List UInt8) : (Lib.byteCells a).length = a.length := by simp [Lib.byteCells]

set_option maxRecDepth 100000 in
set_option maxHeartbeats 2000000 in
theorem encode_any (v : Value) (l : List Int) (w : World) (hv : IntS w v l) (hf : ∀ n ∈ l, Fit n) :
    Calls Tryd.prog 85 #[v] w fun e w' => e = .returned (.string (encStr l)) ∧ Below w.heap.size w w' := by
  obtain ⟨a, n, cap, rfl, hn, h1, hc⟩ := hv
  have HN := Lib.hid hn
  have HC := Lib.hid hc
  have HF := Lib.hid hf
  clear hn hc hf
  go_enter Tryd.func85, Tryd.ntmps85
  go_wp2_with fail
  go_loopw [10, 5, 6, 7] (fun i _ _ _ wr => ∃ k : Nat, k ≤ n ∧ i = .int .i64 k ∧ Below w.heap.size w wr ∧ Hid (Lib.IsBuilder 121 5 w.heap.size w.heap.size (Lib.byteCells (encs (l.take k))) wr)) (fun i _ _ _ _ => n - (intOf i).toNat)
  case atStart => exact ⟨0, by omega, rfl, ba _ _, Lib.hid (Lib.fresh_isBuilder 121 5 w)⟩
  case round =>
    obtain ⟨k, hk, rfl, HB, HI⟩ := hrel
    by_cases hlt : k < n
    · obtain ⟨b, o, rfl, hb, hx⟩ := HC.out (by omega)
      have hcell : wr.cell? ⟨b, o + k, none⟩ = some (.int .i64 (l.getD k 0)) := by rw [(bcell HB).1 b _ hb]; exact hx k hlt
      have HT := Lib.hid (encs_take_succ l k (by rw [← HN.out]; exact hlt))
      have HFk : Hid (Fit (l.getD k 0)) := Lib.hid (HF.out _ (by
        have : k < l.length := by rw [← HN.out]; exact hlt
        rw [List.getD_eq_getElem?_getD, List.getElem?_eq_getElem this]
        exact List.getElem_mem _))
      have HLen : Hid ((encs (l.take k)).length ≤ 9000) := Lib.hid (by
        have := encs_len (l.take k)
        have : (l.take k).length ≤ k := List.length_take_le _ _
        omega)
      clear hx
      obtain ⟨x, HX⟩ : ∃ x, Hid (l.getD k 0 = x) := ⟨_, Lib.hid rfl⟩
      rw [HX.out] at hcell HT HFk
      go_wp2_with fail
      (with_reducible refine (putInt_fit x _ HFk.out).mono ?_)
      rintro e w1 ⟨rfl, hb1⟩
      have HI1 := Lib.hid (builder_below HI.out hb1)
      go_wp2_with fail
      (with_reducible refine (Tryd.Builder_WriteString _ _ _ _ _ HI1.out (by rw [byteCells_len]; have := HLen.out; have := encI_size_le x; omega) (Nat.le_trans HB.size hb1.size)).mono ?_)
      rintro e w2 ⟨rfl, hI2, hb2⟩
      have HI2 : Hid (Lib.IsBuilder 121 5 w.heap.size w.heap.size (Lib.byteCells (encs (l.take (k + 1)))) w2) := Lib.hid (by rw [HT.out, byteCells_app, ← strCells_enc]; exact .inr hI2)
      clear hI2
      go_wp2_with fail
      exact ⟨⟨k + 1, by omega, by go_num, (bt HB hb1).trans hb2, HI2⟩, by simp [intOf]; omega⟩
    · have HT : Hid (l.take k = l) := Lib.hid (List.take_of_length_le (by rw [← HN.out]; omega))
      go_wp2_with fail
      (with_reducible refine (Tryd.Builder_String_any _ _ _ _ HI.out HB.size).mono ?_)
      rintro e w1 ⟨rfl, hb1⟩
      go_wp2_with fail
      go_ret
      exact ⟨by rw [HT.out]; rfl, HB.trans hb1⟩

theorem encStr_app (a b : List Int) : encStr a ++ encStr b = encStr (a ++ b) := by
  apply ext_list
  rw [app_list]
  simp [encStr, encs_append]
theorem encStr_nil (s : ByteArray) : (⟨#[]⟩ : ByteArray) ++ s = s := by
  apply ext_list
  rw [app_list]
  simp
theorem encStr_nil_r (s : ByteArray) : s ++ (⟨#[]⟩ : ByteArray) = s := by
  apply ext_list
  rw [app_list]
  simp
theorem encStr_size (l : List Int) : (encStr l).size ≤ 9 * l.length := by
  have := encs_len l
  simpa [encStr, ByteArray.size] using this
/-- Three cells in a row are a list of three. -/
theorem IntS.three {w : World} {b o cap : Nat} {x y z : Int} (hb : b < w.heap.size) (h0 : w.cell? ⟨b, o, none⟩ = some (.int .i64 x)) (h1 : w.cell? ⟨b, o + 1, none⟩ = some (.int .i64 y)) (h2 : w.cell? ⟨b, o + 2, none⟩ = some (.int .i64 z)) :
    IntS w (.slice (some ⟨b, o, none⟩) 3 cap) [x, y, z] :=
  ⟨_, 3, cap, rfl, rfl, by omega, fun _ => ⟨b, o, rfl, hb, fun i hi => by
    match i, hi with
    | 0, _ => exact h0
    | 1, _ => exact h1
    | 2, _ => exact h2⟩⟩
theorem IntS.two {w : World} {b o cap : Nat} {x y : Int} (hb : b < w.heap.size) (h0 : w.cell? ⟨b, o, none⟩ = some (.int .i64 x)) (h1 : w.cell? ⟨b, o + 1, none⟩ = some (.int .i64 y)) :
    IntS w (.slice (some ⟨b, o, none⟩) 2 cap) [x, y] :=
  ⟨_, 2, cap, rfl, rfl, by omega, fun _ => ⟨b, o, rfl, hb, fun i hi => by
    match i, hi with
    | 0, _ => exact h0
    | 1, _ => exact h1⟩⟩

/-- A change fits the encoding. -/
def FitCh (c : MCh) : Prop := ∀ n ∈ tokCh c, Fit n
set_option maxRecDepth 100000 in
set_option maxHeartbeats 4000000 in
theorem encodeChange_any (c : MCh) (w : World) (hf : FitCh c) :
    Calls Tryd.prog 86 #[chV c] w fun e w' => e = .returned (.string (encStr (tokCh c))) ∧ Below w.heap.size w w' := by
  obtain ⟨t, k, had, ⟨oa, ob, oc⟩, has, ⟨na, nb, nc⟩⟩ := c
  cases had <;> cases has
  · have HF1 : Hid (∀ n ∈ [t, k, 0], Fit n) := Lib.hid (fun n hn => hf n (by simp [tokCh, tok3, marks] at hn ⊢; omega))
    have hs1 := encStr_size [t, k, 0]
    simp only [List.length_cons, List.length_nil] at hs1
    clear hf
    go_enter Tryd.func86, Tryd.ntmps86
    go_wp2_with fail
    (with_reducible refine (encode_any _ [t, k, 0] _ (IntS.three (by simp) (by simp [go_sem]) (by simp [go_sem]) (by simp [go_sem])) HF1.out).mono ?_)
    rintro e w3 ⟨rfl, hb3⟩
    go_wp2_with fail
    go_ret
    exact ⟨by simp only [encStr_nil, encStr_nil_r, encStr_app, ByteArray.append_assoc]; rfl, bt (bt (ba w _) (ba _ _)) hb3⟩
  · have HF1 : Hid (∀ n ∈ [t, k, 2], Fit n) := Lib.hid (fun n hn => hf n (by simp [tokCh, tok3, marks] at hn ⊢; omega))
    have HF3 : Hid (∀ n ∈ [na, nb, nc], Fit n) := Lib.hid (fun n hn => hf n (by simp [tokCh, tok3, marks] at hn ⊢; omega))
    have hs3 := encStr_size [na, nb, nc]
    have hs1 := encStr_size [t, k, 2]
    simp only [List.length_cons, List.length_nil] at hs3 hs1
    clear hf
    go_enter Tryd.func86, Tryd.ntmps86
    go_wp2_with fail
    (with_reducible refine (encode_any _ [na, nb, nc] _ (IntS.three (by simp) (by simp [go_sem]) (by simp [go_sem]) (by simp [go_sem])) HF3.out).mono ?_)
    rintro e w1 ⟨rfl, hb1⟩
    obtain ⟨hc1, hf1⟩ := bcell hb1
    go_wp2_with fail
    (with_reducible refine (encode_any _ [t, k, 2] _ (IntS.three (by simp) (by simp [go_sem]) (by simp [go_sem]) (by simp [go_sem])) HF1.out).mono ?_)
    rintro e w3 ⟨rfl, hb3⟩
    go_wp2_with fail
    go_ret
    exact ⟨by simp only [encStr_nil, encStr_nil_r, encStr_app, ByteArray.append_assoc]; rfl, bt (bt (bt (ba w _) hb1) (ba _ _)) hb3⟩
  · have HF1 : Hid (∀ n ∈ [t, k, 1], Fit n) := Lib.hid (fun n hn => hf n (by simp [tokCh, tok3, marks] at hn ⊢; omega))
    have HF2 : Hid (∀ n ∈ [oa, ob, oc], Fit n) := Lib.hid (fun n hn => hf n (by simp [tokCh, tok3, marks] at hn ⊢; omega))
    have hs2 := encStr_size [oa, ob, oc]
    have hs1 := encStr_size [t, k, 1]
    simp only [List.length_cons, List.length_nil] at hs2 hs1
    clear hf
    go_enter Tryd.func86, Tryd.ntmps86
    go_wp2_with fail
    (with_reducible refine (encode_any _ [oa, ob, oc] _ (IntS.three (by simp) (by simp [go_sem]) (by simp [go_sem]) (by simp [go_sem])) HF2.out).mono ?_)
    rintro e w1 ⟨rfl, hb1⟩
    obtain ⟨hc1, hf1⟩ := bcell hb1
    go_wp2_with fail
    (with_reducible refine (encode_any _ [t, k, 1] _ (IntS.three (by simp) (by simp [go_sem]) (by simp [go_sem]) (by simp [go_sem])) HF1.out).mono ?_)
    rintro e w3 ⟨rfl, hb3⟩
    go_wp2_with fail
    go_ret
    exact ⟨by simp only [encStr_nil, encStr_nil_r, encStr_app, ByteArray.append_assoc]; rfl, bt (bt (bt (ba w _) hb1) (ba _ _)) hb3⟩
  · have HF1 : Hid (∀ n ∈ [t, k, 3], Fit n) := Lib.hid (fun n hn => hf n (by simp [tokCh, tok3, marks] at hn ⊢; omega))
    have HF2 : Hid (∀ n ∈ [oa, ob, oc], Fit n) := Lib.hid (fun n hn => hf n (by simp [tokCh, tok3, marks] at hn ⊢; omega))
    have hs2 := encStr_size [oa, ob, oc]
    have HF3 : Hid (∀ n ∈ [na, nb, nc], Fit n) := Lib.hid (fun n hn => hf n (by simp [tokCh, tok3, marks] at hn ⊢; omega))
    have hs3 := encStr_size [na, nb, nc]
    have hs1 := encStr_size [t, k, 3]
    simp only [List.length_cons, List.length_nil] at hs2 hs3 hs1
    clear hf
    go_enter Tryd.func86, Tryd.ntmps86
    go_wp2_with fail
    (with_reducible refine (encode_any _ [oa, ob, oc] _ (IntS.three (by simp) (by simp [go_sem]) (by simp [go_sem]) (by simp [go_sem])) HF2.out).mono ?_)
    rintro e w1 ⟨rfl, hb1⟩
    obtain ⟨hc1, hf1⟩ := bcell hb1
    go_wp2_with fail
    (with_reducible refine (encode_any _ [na, nb, nc] _ (IntS.three (Nat.lt_of_lt_of_le (by simp) hb1.size) (by simp [go_sem, hc1]) (by simp [go_sem, hc1]) (by simp [go_sem, hc1])) HF3.out).mono ?_)
    rintro e w2 ⟨rfl, hb2⟩
    obtain ⟨hc2, hf2⟩ := bcell hb2
    have hlt2 : w.heap.size < w1.heap.size := by have := hb1.size; simp only [World.size_alloc] at this; omega
    go_wp2_with fail
    (with_reducible refine (encode_any _ [t, k, 3] _ (IntS.three (by simp) (by simp [go_sem]) (by simp [go_sem]) (by simp [go_sem])) HF1.out).mono ?_)
    rintro e w3 ⟨rfl, hb3⟩
    go_wp2_with fail
    go_ret
    exact ⟨by simp only [encStr_nil, encStr_nil_r, encStr_app, ByteArray.append_assoc]; rfl, bt (bt (bt (bt (ba w _) hb1) hb2) (ba _ _)) hb3⟩
end Go.Proofs.YtpapfegbodolgaaDoor
end

section
set_option linter.unusedSimpArgs false
set_option linter.unusedVariables false
namespace Go.Proofs.YtpapfegbodolgaaDoor
open Go.RowKit Go.Sort

theorem valid_t (r : MRow) (w : World) (h : VRow r) : Calls Tryd.prog 106 #[rowV r] w fun e w' => e = .returned (.bool true) ∧ Below w.heap.size w w' :=
  (valid_any r.t r.k r.v.a r.v.b r.v.c w).mono fun e w' hw => by
    rw [show vr ⟨r.t, r.k, ⟨r.v.a, r.v.b, r.v.c⟩⟩ = true from decide_eq_true h] at hw; exact hw
theorem valid_f (r : MRow) (w : World) (h : ¬ VRow r) : Calls Tryd.prog 106 #[rowV r] w fun e w' => e = .returned (.bool false) ∧ Below w.heap.size w w' :=
  (valid_any r.t r.k r.v.a r.v.b r.v.c w).mono fun e w' hw => by
    rw [show vr ⟨r.t, r.k, ⟨r.v.a, r.v.b, r.v.c⟩⟩ = false from decide_eq_false h] at hw; exact hw
theorem VRow.fit {r : MRow} (h : VRow r) : ∀ n ∈ tokRow r, Fit n := by
  intro n hn
  simp [tokRow, tok3] at hn
  unfold VRow at h
  unfold Fit
  omega

/-- What Encode hands back. -/
def encRowS (r : MRow) : ByteArray := encStr (tokRow r)

/-- A valid record's numbers fit. -/
theorem VCh.fit {c : MCh} (h : VCh c) : FitCh c := by
  obtain ⟨t, k, had, ⟨oa, ob, oc⟩, has, ⟨na, nb, nc⟩⟩ := c
  obtain ⟨h1, h2, ⟨h3, h3'⟩, ⟨h4, h4'⟩⟩ := h
  intro n hn
  unfold Fit
  cases had <;> cases has <;> simp [tokCh, tok3, marks, VRow] at * <;> omega
theorem VRec.fit {p : Int} {L : List MCh} (h : VRec p L) : ∀ n ∈ tokRec ⟨p, L⟩, Fit n := by
  obtain ⟨h1, h2, h3⟩ := h
  intro n hn
  simp only [tokRec, List.mem_append, List.mem_cons, List.not_mem_nil, or_false, tokChs, List.mem_flatMap] at hn
  rcases hn with (rfl | rfl) | ⟨c, hc, hn⟩
  · unfold Fit; omega
  · unfold Fit; omega
  · obtain ⟨i, hi, rfl⟩ := List.getElem_of_mem hc
    have := (h3 i hi).1
    rw [List.getD_eq_getElem?_getD, List.getElem?_eq_getElem hi] at this
    exact this.fit n hn

theorem vrecC_t (p : Int) (v : Value) (L : List MCh) (w : World) (hv : ChS w v L) (h : VRec p L) : Calls Tryd.prog 84 #[.agg #[.int .i64 p, v]] w fun e w' => e = .returned (.bool true) ∧ Below w.heap.size w w' :=
  (validRecord_any p v L w hv).mono fun e w' hw => by rw [vrec, decide_eq_true h] at hw; exact hw
theorem vrecC_f (p : Int) (v : Value) (L : List MCh) (w : World) (hv : ChS w v L) (h : ¬ VRec p L) : Calls Tryd.prog 84 #[.agg #[.int .i64 p, v]] w fun e w' => e = .returned (.bool false) ∧ Below w.heap.size w w' :=
  (validRecord_any p v L w hv).mono fun e w' hw => by rw [vrec, decide_eq_false h] at hw; exact hw

def encRecS (p : Int) (L : List MCh) : ByteArray := encStr (tokRec ⟨p, L⟩)
theorem tok_take_succ (L : List MCh) (k : Nat) (h : k < L.length) : tokChs (L.take (k + 1)) = tokChs (L.take k) ++ tokCh (L.getD k chZ) := by
  rw [List.take_succ_eq_append_getElem h, List.getD_eq_getElem?_getD, List.getElem?_eq_getElem h]
  simp only [tokChs, List.flatMap_append, List.flatMap_cons, List.flatMap_nil, List.append_nil, Option.getD_some]
theorem tokCh_len (c : MCh) : (tokCh c).length ≤ 9 := by
  unfold tokCh tok3
  cases c.had <;> cases c.has <;> simp
theorem tokChs_len (L : List MCh) : (tokChs L).length ≤ 9 * L.length := by
  induction L with
  | nil => simp [tokChs]
  | cons c L ih =>
    have := tokCh_len c
    simp only [tokChs, List.flatMap_cons, List.length_append, List.length_cons] at ih ⊢
    omega
theorem strCells_encStr (l : List Int) : Lib.strCells (encStr l) = Lib.byteCells (encs l) := rfl

set_option maxRecDepth 100000 in
set_option maxHeartbeats 1000000 in
theorem encodeRecord_bad (p : Int) (v : Value) (L : List MCh) (w : World) (hs : ChS w v L) (hv : ¬ VRec p L) :
    Calls Tryd.prog 69 #[.agg #[.int .i64 p, v]] w fun e w' => e = .returned (.tuple #[.string ⟨#[]⟩, .int .i64 30]) ∧ Below w.heap.size w w' := by
  have HV := Lib.hid hv
  have HS := Lib.hid hs
  have hvs : ∃ a n c, v = .slice a n c := by obtain ⟨a, n, c, e, _⟩ := hs; exact ⟨a, n, c, e⟩
  obtain ⟨a1, n1, c1, rfl⟩ := hvs
  clear hv hs
  go_enter Tryd.func69, Tryd.ntmps69
  go_wp2_with fail
  (with_reducible refine (vrecC_f _ _ L _ (HS.out.below (ba _ _)) HV.out).mono ?_)
  rintro e w1 ⟨rfl, hb1⟩
  go_wp2_with fail
  go_ret2
  exact ⟨rfl, bt (ba w _) hb1⟩

set_option maxRecDepth 100000 in
set_option maxHeartbeats 4000000 in
theorem encodeRecord_ok (p : Int) (v : Value) (L : List MCh) (w : World) (hs : ChS w v L) (hv : VRec p L) :
    Calls Tryd.prog 69 #[.agg #[.int .i64 p, v]] w fun e w' => e = .returned (.tuple #[.string (encRecS p L), .int .i64 0]) ∧ Below w.heap.size w w' := by
  have HV := Lib.hid hv
  have HS := Lib.hid hs
  have HF1 : Hid (∀ n ∈ [p, (L.length : Int)], Fit n) := Lib.hid (fun n hn => hv.fit n (by simp [tokRec] at hn ⊢; omega))
  have hl8 : L.length ≤ 8 := hv.2.1.2
  obtain ⟨a, n, cap, rfl, hn, h1, h2, hc⟩ := hs
  have HN := Lib.hid hn
  have HC := Lib.hid hc
  have hn8 : n ≤ 8 := by omega
  clear hv hn hc hl8
  rw [← HN.out] at HF1
  go_enter Tryd.func69, Tryd.ntmps69
  go_wp2_with fail
  (with_reducible refine (vrecC_t _ _ L _ (HS.out.below (ba _ _)) HV.out).mono ?_)
  rintro e w1 ⟨rfl, hb1⟩
  have hlt1 : w.heap.size < w1.heap.size := by have := hb1.size; simp only [World.size_alloc] at this; omega
  have hr0 : w1.cell? ⟨w.heap.size, 0, none⟩ = some (.int .i64 p) := by rw [(bcell hb1).1 _ _ (by simp)]; simp [go_sem]
  have hr1 : w1.cell? ⟨w.heap.size, 1, none⟩ = some (.slice a n cap) := by rw [(bcell hb1).1 _ _ (by simp)]; simp [go_sem]
  have HB1 := Lib.hid (bt (ba w _) hb1)
  clear hb1
  go_wp2_with fail
  (with_reducible refine (encode_any _ [p, (n : Int)] _ (IntS.two (by simp) (by simp [go_sem]) (by simp [go_sem])) HF1.out).mono ?_)
  rintro e w2 ⟨rfl, hb2⟩
  have HI2 : Hid (Lib.IsBuilder 121 5 w1.heap.size w1.heap.size (Lib.byteCells (encs [])) w2) := Lib.hid (builder_below (by exact (builder_below (Lib.fresh_isBuilder 121 5 w1) (ba _ _))) hb2)
  have hlt2 : w1.heap.size + 1 < w2.heap.size := by have := hb2.size; simp only [World.size_alloc] at this; omega
  have hr12 : w2.cell? ⟨w.heap.size, 1, none⟩ = some (.slice a n cap) := by
    rw [(bcell hb2).1 _ _ (by simp; omega)]; simp [go_sem, hlt1, hr1]
  have HB12 : Hid (Below w1.heap.size w1 w2) := Lib.hid (bt (bt (ba _ _) (ba _ _)) hb2)
  clear hb2
  have hs1 := encStr_size [p, (n : Int)]
  simp only [List.length_cons, List.length_nil] at hs1
  go_wp2_with fail
  (with_reducible refine (Tryd.Builder_WriteString _ _ _ _ _ HI2.out (by rw [byteCells_len, encs_nil]; simp only [List.length_nil]; omega) (by omega)).mono ?_)
  rintro e w3 ⟨rfl, hI3, hb3⟩
  have HI3 : Hid (Lib.IsBuilder 121 5 w1.heap.size w1.heap.size (Lib.byteCells (encs ([p, (n : Int)] ++ tokChs (L.take 0)))) w3) := Lib.hid (by
    rw [encs_append, byteCells_app]
    exact .inr (by simpa [tokChs, encs_nil, Lib.byteCells, strCells_encStr] using hI3))
  have hlt3 : w1.heap.size < w3.heap.size := by have := hb3.size; omega
  have hr13 : w3.cell? ⟨w.heap.size, 1, none⟩ = some (.slice a n cap) := by
    rw [hb3.cell (p := ⟨w.heap.size, 1, none⟩) hlt1]; exact hr12
  have HB13 : Hid (Below w1.heap.size w1 w3) := Lib.hid (HB12.out.trans hb3)
  clear hI3 hb3 hs1 hr0 hr1 hr12
  go_wp2_with fail
  go_loopw [21, 6] (fun i _ wr => ∃ k : Nat, k ≤ n ∧ i = .int .i64 k ∧ Below w1.heap.size w3 wr ∧ Hid (Lib.IsBuilder 121 5 w1.heap.size w1.heap.size (Lib.byteCells (encs ([p, (n : Int)] ++ tokChs (L.take k)))) wr)) (fun i _ _ => n - (intOf i).toNat)
  case atStart => exact ⟨0, by omega, rfl, Below.refl _ _, HI3⟩
  case round =>
    obtain ⟨k, hk, rfl, HB, HI⟩ := hrel
    have HBw : Hid (Below w.heap.size w wr) := Lib.hid (bt HB1.out (HB13.out.trans HB))
    have hsz : w1.heap.size < wr.heap.size := by have := HB.size; omega
    have HLen : Hid ((encs ([p, (n : Int)] ++ tokChs (L.take k))).length ≤ 9000) := Lib.hid (by
      have h1 := encs_len ([p, (n : Int)] ++ tokChs (L.take k))
      have h2 := tokChs_len (L.take k)
      have h3 : (L.take k).length ≤ k := List.length_take_le _ _
      simp only [List.length_append, List.length_cons, List.length_nil] at h1
      omega)
    by_cases hlt : k < n
    · obtain ⟨b, o, rfl, hb, hx⟩ := HC.out (by omega)
      have HA := (hx k hlt).below hb HBw.out
      clear hx
      have HT := Lib.hid (tok_take_succ L k (by rw [← HN.out]; exact hlt))
      have HFk : Hid (FitCh (L.getD k chZ)) := Lib.hid ((HV.out.2.2 k (by rw [← HN.out]; exact hlt)).1.fit)
      obtain ⟨x, HX⟩ : ∃ x, Hid (L.getD k chZ = x) := ⟨_, Lib.hid rfl⟩
      rw [HX.out] at HA HT HFk
      have HCl := Lib.hid (tokCh_len x)
      obtain ⟨t, kk, had, ⟨oa, ob, oc⟩, has, ⟨na, nb, nc⟩⟩ := x
      obtain ⟨d0, d1, d2, d3, d4, d5, d6, d7, d8, d9⟩ := HA.cells
      go_wp2_with fail
      (with_reducible refine (encodeChange_any _ _ HFk.out).mono ?_)
      rintro e w4 ⟨rfl, hb4⟩
      have HI4 := Lib.hid (builder_below (builder_below HI.out (ba _ _)) hb4)
      have HB4 : Hid (Below w1.heap.size w3 w4) := Lib.hid (HB.trans ((bt (ba _ _) hb4).mono (Nat.le_of_lt hsz)))
      have hsz4 : w1.heap.size ≤ w4.heap.size := Nat.le_trans (Nat.le_of_lt hlt3) HB4.out.size
      clear hb4 d0 d1 d2 d3 d4 d5 d6 d7 d8 d9
      go_wp2_with fail
      (with_reducible refine (Tryd.Builder_WriteString _ _ _ _ _ HI4.out (by rw [byteCells_len]; have := HLen.out; have := encStr_size (tokCh ⟨t, kk, had, ⟨oa, ob, oc⟩, has, ⟨na, nb, nc⟩⟩); have := HCl.out; omega) hsz4).mono ?_)
      rintro e w5 ⟨rfl, hI5, hb5⟩
      have HI5 : Hid (Lib.IsBuilder 121 5 w1.heap.size w1.heap.size (Lib.byteCells (encs ([p, (n : Int)] ++ tokChs (L.take (k + 1))))) w5) := Lib.hid (by
        rw [HT.out, ← List.append_assoc, encs_append, byteCells_app]
        exact .inr (by simpa [strCells_encStr] using hI5))
      have HB5 := Lib.hid (HB4.out.trans hb5)
      clear hI5 hb5
      go_wp2_with fail
      exact ⟨⟨k + 1, by omega, by go_num, HB5.out, HI5⟩, by simp [intOf]; omega⟩
    · have HT : Hid (p :: (n : Int) :: tokChs (L.take k) = tokRec ⟨p, L⟩) := Lib.hid (by
        rw [List.take_of_length_le (by rw [← HN.out]; omega), HN.out]; rfl)
      go_wp2_with fail
      (with_reducible refine (Tryd.Builder_String_any _ _ _ _ HI.out (Nat.le_of_lt hsz)).mono ?_)
      rintro e w6 ⟨rfl, hb6⟩
      go_wp2_with fail
      go_ret2
      exact ⟨by rw [HT.out]; rfl, bt HB1.out ((HB13.out.trans HB).trans hb6)⟩
end Go.Proofs.YtpapfegbodolgaaDoor
end
