/- PLAIN: heads of a log, their encodings, what follows what. No walk stands in it. -/
import Derived.Test.YtpapfegbodolgaaDoorP2
import Derived.Test.YtpapfegbodolgaaDoorDT8
set_option linter.unusedSimpArgs false
set_option linter.unusedVariables false
namespace Go.Proofs.YtpapfegbodolgaaDoor
open Go.RowKit

/-- A head: its position, chain and state. -/
structure MHead where
  p : Int
  c : ByteArray
  s : ByteArray
deriving DecidableEq
def Hok (h : MHead) : Prop := (0 ≤ h.p ∧ h.p ≤ 10000) ∧ h.c.size = 32 ∧ h.s.size = 32
instance (h : MHead) : Decidable (Hok h) := by unfold Hok; infer_instance
def hok (h : MHead) : Bool := decide (Hok h)
abbrev headV (h : MHead) : Value := .agg #[.int .i64 h.p, .string h.c, .string h.s]
abbrev headC (h : MHead) : Array Value := #[.int .i64 h.p, .string h.c, .string h.s]
def hdZ : MHead := ⟨0, ⟨#[]⟩, ⟨#[]⟩⟩
def encH (h : MHead) : ByteArray := encI h.p ++ h.c ++ h.s

/-- A record may follow a head. -/
def NxOk (h : MHead) (p : Int) (L : List MCh) (st : ByteArray) : Prop := VRec p L ∧ Hok h ∧ p = h.p + 1 ∧ st.size = 32
instance (h : MHead) (p : Int) (L : List MCh) (st : ByteArray) : Decidable (NxOk h p L st) := by unfold NxOk; infer_instance
def nxH (h : MHead) (p : Int) (L : List MCh) (st : ByteArray) : MHead := ⟨p, dg.chain h.c (encRecS p L), st⟩
theorem chain_size (a b : ByteArray) : (dg.chain a b).size = 32 := dg.size _
theorem nx_ok {h : MHead} {p : Int} {L : List MCh} {st : ByteArray} (k : NxOk h p L st) : Hok (nxH h p L st) := by
  obtain ⟨⟨⟨h1, h2⟩, _⟩, h3, h4, h5⟩ := k
  exact ⟨⟨by show 0 ≤ p; omega, h2⟩, chain_size _ _, h5⟩

/-- The head that records lead to. -/
def folR (s : ByteArray) : MHead → List MRec → Option MHead
  | a, [] => some a
  | a, r :: rs => if NxOk a r.pos r.chs s then folR s (nxH a r.pos r.chs s) rs else none
def flw (a : MHead) (R : List MRec) (b : MHead) : Bool := decide (Hok a ∧ Hok b ∧ folR b.s a R = some b)
theorem folR_pos {s : ByteArray} : ∀ {R : List MRec} {a b : MHead}, folR s a R = some b → b.p = a.p + R.length
  | [], a, b, h => by simp only [folR, Option.some.injEq] at h; subst h; simp
  | r :: rs, a, b, h => by
    simp only [folR] at h
    split at h
    · next k =>
      have := folR_pos h
      have h2 : r.pos = a.p + 1 := k.2.2.1
      simp only [nxH] at this
      rw [this, h2, List.length_cons]; omega
    · cases h
theorem folR_append (s : ByteArray) (a : MHead) (R S : List MRec) : folR s a (R ++ S) = (folR s a R).bind fun b => folR s b S := by
  induction R generalizing a with
  | nil => rfl
  | cons r R ih =>
    simp only [List.cons_append, folR]
    split
    · exact ih _
    · rfl

theorem encI_small {n : Int} (h0 : 0 ≤ n) (h1 : n ≤ 10000) : 1 ≤ (encInt n).length ∧ (encInt n).length ≤ 9 := by
  have hf : Fit n := ⟨by omega, by omega⟩
  refine ⟨?_, ?_⟩
  · have := encs_pos (l := [n]) (by simp)
    simpa [encs] using this
  · have := encs_len [n]
    simpa [encs] using this
theorem encH_size {h : MHead} (k : Hok h) : (encH h).size ≤ 100 := by
  obtain ⟨⟨h0, h1⟩, h2, h3⟩ := k
  have := (encI_small h0 h1).2
  have e : (encI h.p).size = (encInt h.p).length := rfl
  simp only [encH, ByteArray.size_append]
  omega
theorem dig_nil : (⟨#[]⟩ : ByteArray).size = 0 := rfl
end Go.Proofs.YtpapfegbodolgaaDoor
