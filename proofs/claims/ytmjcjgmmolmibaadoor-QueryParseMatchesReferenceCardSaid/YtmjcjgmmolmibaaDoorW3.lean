/- WALKS: read's closures; spell over whatever closures. -/
import Derived.Test.YtmjcjgmmolmibaaDoorW2
set_option linter.unusedVariables false
set_option linter.unusedSimpArgs false
namespace Go.Proofs.YtmjcjgmmolmibaaDoor
open Go.RowKit

/-- How a step of spell ends: on, or by the panic. -/
def SpOut (I : World → SpS → Prop) (J : World → Prop) (a : Addr) (r : Option SpS) (e : Ending) (w' : World) : Prop :=
  match r with
  | some s => e = .returned (.tuple #[]) ∧ I w' s
  | none => e = pan a ∧ J w'
theorem SpOut.ok {I : World → SpS → Prop} {J : World → Prop} {a : Addr} {r : Option SpS} {s : SpS} {e : Ending} {w' : World} (hr : Hid (r = some s)) (h1 : e = .returned (.tuple #[])) (h2 : I w' s) : SpOut I J a r e w' := by
  rw [hr.out]; exact ⟨h1, h2⟩
theorem SpOut.no {I : World → SpS → Prop} {J : World → Prop} {a : Addr} {r : Option SpS} {e : Ending} {w' : World} (hr : Hid (r = none)) (h1 : e = pan a) (h2 : J w') : SpOut I J a r e w' := by
  rw [hr.out]; exact ⟨h1, h2⟩

theorem set_cell {w : World} {b : Nat} {q : MQ} (h : QAt w b q) (j : Nat) (hj : 1 ≤ j ∧ j ≤ 6) (n : Int) : QAt (w.setCell ⟨b, j, none⟩ (.int .i64 n)) b (q.set j n) := by
  obtain ⟨h0, h1, h2, h3, h4, h5, h6⟩ := h
  have e : ∀ o, o ≠ j → (w.setCell ⟨b, j, none⟩ (.int .i64 n)).cell? ⟨b, o, none⟩ = w.cell? ⟨b, o, none⟩ := fun o ho => World.cell?_setCell_other _ _ _ _ (fun k => ho (congrArg Addr.off k).symm)
  rcases (by omega : j = 1 ∨ j = 2 ∨ j = 3 ∨ j = 4 ∨ j = 5 ∨ j = 6) with rfl | rfl | rfl | rfl | rfl | rfl
  · exact ⟨(e 0 (by decide)).trans h0, World.cell?_setCell_same _ _ _ h1, (e 2 (by decide)).trans h2, (e 3 (by decide)).trans h3, (e 4 (by decide)).trans h4, (e 5 (by decide)).trans h5, (e 6 (by decide)).trans h6⟩
  · exact ⟨(e 0 (by decide)).trans h0, (e 1 (by decide)).trans h1, World.cell?_setCell_same _ _ _ h2, (e 3 (by decide)).trans h3, (e 4 (by decide)).trans h4, (e 5 (by decide)).trans h5, (e 6 (by decide)).trans h6⟩
  · exact ⟨(e 0 (by decide)).trans h0, (e 1 (by decide)).trans h1, (e 2 (by decide)).trans h2, World.cell?_setCell_same _ _ _ h3, (e 4 (by decide)).trans h4, (e 5 (by decide)).trans h5, (e 6 (by decide)).trans h6⟩
  · exact ⟨(e 0 (by decide)).trans h0, (e 1 (by decide)).trans h1, (e 2 (by decide)).trans h2, (e 3 (by decide)).trans h3, World.cell?_setCell_same _ _ _ h4, (e 5 (by decide)).trans h5, (e 6 (by decide)).trans h6⟩
  · exact ⟨(e 0 (by decide)).trans h0, (e 1 (by decide)).trans h1, (e 2 (by decide)).trans h2, (e 3 (by decide)).trans h3, (e 4 (by decide)).trans h4, World.cell?_setCell_same _ _ _ h5, (e 6 (by decide)).trans h6⟩
  · exact ⟨(e 0 (by decide)).trans h0, (e 1 (by decide)).trans h1, (e 2 (by decide)).trans h2, (e 3 (by decide)).trans h3, (e 4 (by decide)).trans h4, (e 5 (by decide)).trans h5, World.cell?_setCell_same _ _ _ h6⟩
theorem QAt.cellOf {w : World} {b : Nat} {q : MQ} (h : QAt w b q) (j : Nat) (hj : 1 ≤ j ∧ j ≤ 6) : w.cell? ⟨b, j, none⟩ = some (.int .i64 (q.get j)) := by
  obtain ⟨h0, h1, h2, h3, h4, h5, h6⟩ := h
  rcases (by omega : j = 1 ∨ j = 2 ∨ j = 3 ∨ j = 4 ∨ j = 5 ∨ j = 6) with rfl | rfl | rfl | rfl | rfl | rfl <;> assumption
theorem RdI.set {B : World} {r m nb qb : Nat} {w : World} {s : SpS} (h : RdI B r m nb qb w s) (j : Nat) (hj : 1 ≤ j ∧ j ≤ 6) (n : Int) : RdI B r m nb qb (w.setCell ⟨qb, j, none⟩ (.int .i64 n)) { s with q := s.q.set j n } := by
  obtain ⟨c0, c1, f0, f1, nx, q, fq, cl, ln, b, gr, gm, gq⟩ := h
  have n4 : r ≠ qb := block_ne c0 q.c0 (by simp)
  have n5 : m ≠ qb := block_ne c1 q.c0 (by simp)
  have n6 : nb ≠ qb := block_ne nx q.c0 (by simp)
  exact ⟨(World.cell?_setCell_other _ _ _ _ (ne_addr n4.symm)).trans c0, (World.cell?_setCell_other _ _ _ _ (ne_addr n5.symm)).trans c1, by simp only [World.frozen?_setCell]; exact f0, by simp only [World.frozen?_setCell]; exact f1,
    (World.cell?_setCell_other _ _ _ _ (ne_addr n6.symm)).trans nx, set_cell q j hj n, fun j => by simp only [World.frozen?_setCell]; exact fq j, cl, ln, below_setCell b gq _, gr, gm, gq⟩

abbrev RdJ (B : World) (w : World) : Prop := Below B.heap.size B w

set_option maxRecDepth 100000 in
set_option maxHeartbeats 1000000 in
theorem readW_any {a : Addr} {B : World} {r m nb qb : Nat} {w : World} {s : SpS} (hL : Lw a B) (h : RdI B r m nb qb w s) (x : List UInt8) :
    Calls Tryd.prog 43 #[.string (bstr x), .pointer (some ⟨nb, 0, none⟩)] w (SpOut (RdI B r m nb qb) (RdJ B) a (rw_ s x)) := by
  have HL := Lib.hid hL
  have HC := Lib.hid (next_any hL h)
  have c0 := h.nx
  clear h hL
  by_cases hx : hdw s.ws = x
  · have HR : Hid (rw_ s x = some { s with ws := s.ws.tail }) := Lib.hid (by unfold rw_; rw [if_pos hx])
    have hs : ((bstr (hdw s.ws)).toList == (bstr x).toList) = true := str_eq (by rw [hx])
    clear hx
    go_enter Tryd.func43, Tryd.ntmps43
    go_wp2_with fail
    (with_reducible refine HC.out.mono ?_)
    rintro e w1 ⟨rfl, h1⟩
    have H1 := Lib.hid h1
    clear h1 c0
    go_wp2_with fail
    (with_reducible refine (expect_t _).mono ?_)
    rintro e w3 ⟨rfl, rfl⟩
    go_wp2_with fail
    go_end0
    exact SpOut.ok HR rfl H1.out
  · have HR : Hid (rw_ s x = none) := Lib.hid (by unfold rw_; rw [if_neg hx])
    have hs : ((bstr (hdw s.ws)).toList == (bstr x).toList) = false := str_ne (fun e => hx (bstr_inj e))
    clear hx
    go_enter Tryd.func43, Tryd.ntmps43
    go_wp2_with fail
    (with_reducible refine HC.out.mono ?_)
    rintro e w1 ⟨rfl, h1⟩
    have H1 := Lib.hid h1
    clear h1 c0
    go_wp2_with fail
    (with_reducible refine (expect_f a _ (HL.out.below H1.out.b).er).mono ?_)
    rintro e w3 ⟨rfl, rfl⟩
    go_wp2_with fail
    exact ⟨rfl, SpOut.no HR rfl H1.out.b⟩

set_option maxRecDepth 100000 in
set_option maxHeartbeats 1000000 in
theorem readN_any {a : Addr} {B : World} {r m nb qb : Nat} {w : World} {s : SpS} (hL : Lw a B) (h : RdI B r m nb qb w s) (j : Nat) (hj : 1 ≤ j ∧ j ≤ 6) :
    Calls Tryd.prog 45 #[.pointer (some ⟨qb, j, none⟩), .pointer (some ⟨nb, 0, none⟩)] w (SpOut (RdI B r m nb qb) (RdJ B) a (rn s j)) := by
  have HL := Lib.hid hL
  have HC := Lib.hid (next_any hL h)
  have HLn := Lib.hid (tail_len h.ln).2
  have HJ := Lib.hid hj
  have c0 := h.nx
  clear h hL hj
  cases hn : num (hdw s.ws) with
  | some n =>
    have HR : Hid (rn s j = some ⟨s.ws.tail, s.q.set j n⟩) := Lib.hid (by unfold rn; rw [hn])
    have HN := Lib.hid hn
    clear hn
    go_enter Tryd.func45, Tryd.ntmps45
    go_wp2_with fail
    (with_reducible refine HC.out.mono ?_)
    rintro e w1 ⟨rfl, h1⟩
    have H1 := Lib.hid h1
    have HM := Lib.hid (numberOf_any a (hdw s.ws) w1 (HL.out.below h1.b) HLn.out)
    rw [HN.out] at HM
    clear h1 c0
    go_wp2_with fail
    (with_reducible refine HM.out.mono ?_)
    rintro e w2 ⟨rfl, hb2⟩
    have H2 := Lib.hid (H1.out.below hb2)
    have d0 := H2.out.q.cellOf j HJ.out
    have g0 := H2.out.fq j
    clear hb2
    go_wp2_with fail
    go_end0
    exact SpOut.ok HR rfl (H2.out.set j HJ.out n)
  | none =>
    have HR : Hid (rn s j = none) := Lib.hid (by unfold rn; rw [hn])
    have HN := Lib.hid hn
    clear hn
    go_enter Tryd.func45, Tryd.ntmps45
    go_wp2_with fail
    (with_reducible refine HC.out.mono ?_)
    rintro e w1 ⟨rfl, h1⟩
    have H1 := Lib.hid h1
    have HM := Lib.hid (numberOf_any a (hdw s.ws) w1 (HL.out.below h1.b) HLn.out)
    rw [HN.out] at HM
    clear h1 c0
    go_wp2_with fail
    (with_reducible refine HM.out.mono ?_)
    rintro e w2 ⟨rfl, hb2⟩
    have HB2 := Lib.hid (bt H1.out.b hb2)
    clear hb2
    go_wp2_with fail
    exact ⟨rfl, SpOut.no HR rfl HB2.out⟩
end Go.Proofs.YtmjcjgmmolmibaaDoor
