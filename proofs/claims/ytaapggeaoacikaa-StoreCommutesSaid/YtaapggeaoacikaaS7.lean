/- TWO CHANGES of different rows that three integers each determine (plain). -/
import Derived.Test.YtaapggeaoacikaaS5
import Derived.Test.YtaapggeaoacikaaL1
set_option linter.unusedVariables false
set_option linter.unusedSimpArgs false
namespace Go.Proofs.Ytaapggeaoacikaa
open Go.RowKit

/-- What is known of the rows of a log. -/
def LogRows (L : List MRow) : Prop := Srt L ∧ (∀ r ∈ L, VRow r) ∧ InS L ∧ (∀ r ∈ L, 0 ≤ r.v.a ∧ r.v.a ≤ 9)
theorem inA_step {L : List MRow} (h : ∀ r ∈ L, 0 ≤ r.v.a ∧ r.v.a ≤ 9) {c : MCh} (hc : Small c) : ∀ r ∈ stepC L c, 0 ≤ r.v.a ∧ r.v.a ≤ 9 := fun r hr => by
  rcases mem_step.1 hr with ⟨h1, _⟩ | ⟨_, rfl⟩
  · exact h r h1
  · exact ⟨hc.2.2.2.2.1, hc.2.2.2.2.2⟩
theorem inA_all {cs : List MCh} : ∀ {L : List MRow}, (∀ r ∈ L, 0 ≤ r.v.a ∧ r.v.a ≤ 9) → (∀ c ∈ cs, Small c) → ∀ r ∈ stepAll L cs, 0 ≤ r.v.a ∧ r.v.a ≤ 9 := by
  induction cs with
  | nil => intro L h _; exact h
  | cons c cs ih => intro L h hc; exact ih (inA_step h (hc c (by simp))) (fun d hd => hc d (by simp [hd]))
theorem inA_rows {R : List MRec} (h : ∀ r ∈ R, ∀ c ∈ r.chs, Small c) : ∀ r ∈ rowsOf R, 0 ≤ r.v.a ∧ r.v.a ≤ 9 := by
  have key : ∀ (R : List MRec) (L : List MRow), (∀ r ∈ L, 0 ≤ r.v.a ∧ r.v.a ≤ 9) → (∀ r ∈ R, ∀ c ∈ r.chs, Small c) → ∀ r ∈ R.foldl (fun L r => stepAll L r.chs) L, 0 ≤ r.v.a ∧ r.v.a ≤ 9 := by
    intro R
    induction R with
    | nil => intro L hL _; exact hL
    | cons r R ih => intro L hL hR; exact ih _ (inA_all hL (hR r (by simp))) (fun q hq => hR q (by simp [hq]))
  exact key R [] (fun r hr => by simp at hr) h
theorem cntk_up {L : List MRow} (h : Srt L) (t : Int) : ∀ j : Nat, cntk L t (1 + j) ≤ cntk L t 1 + j := by
  intro j
  induction j with
  | zero => simp
  | succ j ih =>
    have := cntk_next h t (1 + j)
    rw [show (1 : Int) + ((j + 1 : Nat) : Int) = 1 + (j : Int) + 1 by omega, this]
    split <;> omega
theorem len27 {L : List MRow} (h : Srt L) (hi : InS L) : L.length ≤ 27 := by
  have a0 := cntk_first hi
  have b0 := cntk_up h 0 9
  have a1 := cntk_table hi 0
  have b1 := cntk_up h 1 9
  have a2 := cntk_table hi 1
  have b2 := cntk_up h 2 9
  have a3 := cntk_table hi 2
  have a4 := cntk_last hi
  simp at b0 b1 b2 a1 a2 a3
  omega
/-- The change. -/
def mkC (L : List MRow) (x : V3) : MCh :=
  let t := pk x.a 3
  let k := 1 + pk x.b 9
  let had := (look L t k).isSome
  let o := ((look L t k).getD rowZ).v
  let has := !had || decide (0 < pk x.c 3)
  ⟨t, k, had, o, has, if has then ⟨o.a + 1, pk x.c 50, 1⟩ else ⟨0, 0, 0⟩⟩
theorem mkC_fit (L : List MRow) (h : Srt L) (x : V3) : fitC L (mkC L x) := by
  unfold fitC mkC
  simp only
  cases e : look L (pk x.a 3) (1 + pk x.b 9) with
  | none => simp
  | some r =>
    obtain ⟨_, h1, h2⟩ := (look_some h).1 e
    obtain ⟨rt, rk, rv⟩ := r
    simp only at h1 h2
    subst h1 h2
    simp
theorem mkC_old {L : List MRow} (h : LogRows L) (x : V3) : -1000 ≤ (mkC L x).o.a ∧ (mkC L x).o.a ≤ 9 ∧ ((mkC L x).had = true → VRow ⟨(mkC L x).t, (mkC L x).k, (mkC L x).o⟩) ∧ ((mkC L x).had = false → (mkC L x).o = V3.zero) := by
  unfold mkC
  simp only
  cases e : look L (pk x.a 3) (1 + pk x.b 9) with
  | none =>
    refine ⟨by simp [rowZ, V3.zero], by simp [rowZ, V3.zero], fun h => by simp at h, fun _ => rfl⟩
  | some r =>
    obtain ⟨hm, h1, h2⟩ := (look_some h.1).1 e
    have ha := h.2.2.2 r hm
    have hv := h.2.1 r hm
    obtain ⟨rt, rk, rv⟩ := r
    simp only at h1 h2 ha
    subst h1 h2
    exact ⟨by simp; omega, by simp; omega, fun _ => hv, fun h => by simp at h⟩
theorem mkC_v {L : List MRow} (h : LogRows L) (x : V3) : VCh (mkC L x) := by
  obtain ⟨o1, o2, o3, o4⟩ := mkC_old h x
  have p1 := pk_range x.a (n := 3) (by omega)
  have p2 := pk_range x.b (n := 9) (by omega)
  have p3 := pk_range x.c (n := 50) (by omega)
  have hn : (mkC L x).has = true → (mkC L x).n = ⟨(mkC L x).o.a + 1, pk x.c 50, 1⟩ := fun e => by
    have e' := e
    unfold mkC at e' ⊢
    simp only at e' ⊢
    rw [if_pos e']
  have hn2 : (mkC L x).has = false → (mkC L x).n = V3.zero := fun e => by
    have e' := e
    unfold mkC at e' ⊢
    simp only at e' ⊢
    rw [if_neg (by rw [e']; simp)]
    rfl
  have ht : (mkC L x).t = pk x.a 3 := rfl
  have hk : (mkC L x).k = 1 + pk x.b 9 := rfl
  have hhs : (mkC L x).has = (!(mkC L x).had || decide (0 < pk x.c 3)) := rfl
  refine ⟨?_, fun ⟨_, e2, e3⟩ => ?_, ⟨o3, o4⟩, fun e => ?_, hn2⟩
  · cases e : (mkC L x).had
    · right; rw [hhs, e]; rfl
    · left; rfl
  · rw [hn e2] at e3
    have := congrArg V3.a e3
    simp at this
    omega
  · rw [hn e, ht, hk]
    refine ⟨⟨by simp; omega, by simp; omega⟩, ⟨by simp; omega, by simp; omega⟩, ⟨by simp; omega, by simp; omega⟩, ⟨by simp; omega, by simp; omega⟩, by simp, by simp⟩
theorem one_okay {L : List MRow} {c : MCh} {p : Int} (hv : VCh c) (hf : fitC L c) (hl : L.length ≤ 100) (hp : 0 ≤ p ∧ p ≤ 1000) : Okay L p (p + 1) [c] := by
  refine ⟨⟨by omega, by simp, fun k hk => ?_⟩, rfl, fun d hd => ?_, ?_⟩
  · obtain rfl : k = 0 := by simpa using hk
    exact ⟨hv, fun h => by omega⟩
  · rw [List.mem_singleton.1 hd]; exact hf
  · rw [cnt_cons]
    have h2 : dlt c ≤ 1 := by unfold dlt; split <;> split <;> omega
    simp [cnt]
    omega
theorem step_len {L : List MRow} (h : Srt L) (c : MCh) : (stepC L c).length ≤ L.length + 1 := by
  have := length_step h c
  split at this <;> omega
theorem two_fit {L : List MRow} (h : Srt L) {c d : MCh} (hne : ¬ (d.t = c.t ∧ d.k = c.k)) (hd : fitC L d) : fitC (stepC L c) d := by
  unfold fitC at *
  rw [look_step_other h c hne]
  exact hd
end Go.Proofs.Ytaapggeaoacikaa
