/- WALKS: Print's closures. -/
import Derived.Test.YtmjcjgmmolmibaaDoorW3
import Derived.Deep.RegionHeld3
import Derived.Deep.RegionLaw
import Derived.Deep.AppendLies
import Derived.Deep.QuietTactic
import Derived.BigQuiet
import Derived.StillTailTactics
set_option linter.unusedVariables false
set_option linter.unusedSimpArgs false
namespace Go.Proofs.YtmjcjgmmolmibaaDoor
open Go.RowKit

theorem Tryd.info9 : (Tryd.prog.info? 9).map (fun i => (i.zero, i.size, i.bytes)) = some (some (.string ⟨#[]⟩), 1, 16) := by kernel_rfl
def strs (ws : List (List UInt8)) : List Value := ws.map fun l => .string (bstr l)
theorem strs_len (ws : List (List UInt8)) : (strs ws).length = ws.length := by simp [strs]
/-- A slice of the call's own that holds words. -/
def OwnS (w : World) (base : Nat) (v : Value) (ws : List (List UInt8)) : Prop := w.ownsRow base 9 1 v ws.length (strs ws)
theorem OwnS.form {w : World} {base : Nat} {v : Value} {ws : List (List UInt8)} (h : OwnS w base v ws) : ∃ a n c, v = .slice a n c := by
  rcases h.2 with ⟨rfl, _⟩ | ⟨g, cap, cur, rfl, _⟩
  · exact ⟨_, _, _, rfl⟩
  · exact ⟨_, _, _, rfl⟩
theorem OwnS.block {w : World} {base : Nat} {v : Value} {ws : List (List UInt8)} (h : OwnS w base v ws) {g : Nat} (hg : v.ownBlock = some g) : base ≤ g ∧ g < w.heap.size := World.ownsRow.lt h g hg
theorem OwnS.keep {w w' : World} {base : Nat} {v : Value} {ws : List (List UInt8)} (h : OwnS w base v ws) (k : ∀ g, v.ownBlock = some g → w'.heap[g]? = w.heap[g]?) : OwnS w' base v ws := by
  obtain ⟨hl, h⟩ := h
  exact ⟨hl, h.imp id fun ⟨g, cap, cur, e, hg, hb, r⟩ => ⟨g, cap, cur, e, hg, (k g (by rw [e]; rfl)).trans hb, r⟩⟩
theorem OwnS.below {w w' : World} {base : Nat} {v : Value} {ws : List (List UInt8)} (h : OwnS w base v ws) (k : Below w.heap.size w w') : OwnS w' base v ws := h.keep fun g hg => k.block g (h.block hg).2
theorem strs_snoc (ws : List (List UInt8)) (x : List UInt8) : strs (ws ++ [x]) = strs ws ++ [.string (bstr x)] := by simp [strs]
theorem OwnS.cells {w : World} {base g n c : Nat} {ws : List (List UInt8)} (h : OwnS w base (.slice (some ⟨g, 0, none⟩) n c) ws) : n = ws.length ∧ n ≤ c ∧ g < w.heap.size ∧ ∀ j x, ws[j]? = some x → w.cell? ⟨g, j, none⟩ = some (.string (bstr x)) := by
  have hlt := (h.block (g := g) rfl).2
  rcases h.2 with ⟨e, _⟩ | ⟨g', cap, cur, e, _, hb, h1, h2, h3, h4⟩
  · cases e
  · simp at e
    obtain ⟨rfl, rfl, rfl⟩ := e
    refine ⟨rfl, h1, hlt, fun j x hj => ?_⟩
    have h5 : (strs ws)[j]? = some (.string (bstr x)) := by unfold strs; rw [List.getElem?_map, hj]; rfl
    have hjl := (List.getElem?_eq_some_iff.1 hj).1
    rw [← h4, List.getElem?_take_of_lt (by omega), Array.getElem?_toList] at h5
    simp [World.cell?, hb, h5]

theorem setCell_heap {w : World} {b : Nat} {cur : Array Value} {t : TypeId} {fr : Nat × Nat} (h : w.heap[b]? = some (.cells cur t fr)) (j : Nat) (u : Value) : (w.setCell ⟨b, j, none⟩ u).heap[b]? = some (.cells (cur.setIfInBounds j u) t fr) := by
  have hlt := lt_of_heap h
  have h' : w.heap[b] = .cells cur t fr := by simpa [Array.getElem?_eq_getElem hlt] using h
  show (w.heap.modify b _)[b]? = _
  rw [Array.getElem?_eq_getElem (by simpa using hlt), Array.getElem_modify_self, h']
  rfl
/-- A row of words is no block of another type. -/
theorem OwnS.ne {w : World} {base : Nat} {v : Value} {ws : List (List UInt8)} (h : OwnS w base v ws) {lb : Nat} {c : Array Value} (hb : w.heap[lb]? = some (.cells c 35 (0, 0))) : v.ownBlock ≠ some lb := by
  intro e
  rcases h.2 with ⟨rfl, _⟩ | ⟨g, cap, cur, rfl, _, hg, _⟩
  · cases e
  · simp [Value.ownBlock] at e
    subst e
    rw [hb] at hg
    simp at hg

/-- What Print has come to. -/
structure PrI (B : World) (lb qb : Nat) (w : World) (s : SpS) : Prop where
  v : ∃ v, w.heap[lb]? = some (.cells #[v] 35 (0, 0)) ∧ OwnS w (qb + 1) v s.ws
  q : QAt w qb s.q
  fq : ∀ j, w.frozen? ⟨qb, j, none⟩ = false
  b : Below B.heap.size B w
  gl : B.heap.size ≤ lb
  gq : B.heap.size ≤ qb
  ne : qb ≠ lb
theorem PrI.below {B : World} {lb qb : Nat} {w w' : World} {s : SpS} (h : PrI B lb qb w s) (k : Below w.heap.size w w') : PrI B lb qb w' s := by
  obtain ⟨⟨v, hv, ho⟩, q, fq, b, gl, gq, lt⟩ := h
  have lq := World.block_lt_of_cell? w _ q.c0
  exact ⟨⟨v, (k.block lb (lt_of_heap hv)).trans hv, ho.below k⟩, q.below k, fun j => (k.frozen (p := ⟨qb, j, none⟩) lq).trans (fq j), bt b k, gl, gq, lt⟩
theorem one_cell {w : World} {lb : Nat} {v : Value} (h : w.heap[lb]? = some (.cells #[v] 35 (0, 0))) : w.cell? ⟨lb, 0, none⟩ = some v ∧ w.frozen? ⟨lb, 0, none⟩ = false := by
  constructor <;> simp [World.cell?, World.frozen?, h]
theorem QAt.keep {w w' : World} {b : Nat} {q : MQ} (h : QAt w b q) (k : w'.heap[b]? = w.heap[b]?) : QAt w' b q := by
  obtain ⟨h0, h1, h2, h3, h4, h5, h6⟩ := h
  have e : ∀ o, w'.cell? ⟨b, o, none⟩ = w.cell? ⟨b, o, none⟩ := fun o => World.cell?_of_block (a := ⟨b, o, none⟩) k
  exact ⟨(e 0).trans h0, (e 1).trans h1, (e 2).trans h2, (e 3).trans h3, (e 4).trans h4, (e 5).trans h5, (e 6).trans h6⟩
/-- A word more. -/
theorem PrI.push {B : World} {lb qb : Nat} {w w4 : World} {s : SpS} {v v4 : Value} {x : List UInt8} (h : PrI B lb qb w s) (hv : w.heap[lb]? = some (.cells #[v] 35 (0, 0))) (ho : OwnS w (qb + 1) v s.ws) (hg : w.grownBy w4 v.ownBlock) (hown : OwnS w4 (qb + 1) v4 (s.ws ++ [x])) :
    PrI B lb qb (w4.setCell ⟨lb, 0, none⟩ v4) { s with ws := s.ws ++ [x] } := by
  obtain ⟨_, q, fq, b, gl, gq, lt⟩ := h
  have lq := World.block_lt_of_cell? w _ q.c0
  have nq : some qb ≠ v.ownBlock := fun e => by have := (ho.block e.symm).1; omega
  have kl := hg.block lb (lt_of_heap hv) (fun e => ho.ne hv e.symm)
  have kq := hg.block qb lq nq
  have hb4 : Below B.heap.size B w4 := b.grown hg b.size (fun k hk => by have := (ho.block hk).1; omega)
  have hv4 := kl.trans hv
  refine ⟨⟨v4, setCell_heap hv4 0 v4, hown.keep fun g hg4 => Below.heap_setCell w4 ⟨lb, 0, none⟩ v4 g (fun e => hown.ne hv4 (by rw [hg4, e]))⟩, (q.keep kq).setOther (Ne.symm lt) _ _, fun j => ?_, below_setCell hb4 gl _, gl, gq, lt⟩
  rw [World.frozen?_setCell]; exact (World.frozen?_of_block (a := ⟨qb, j, none⟩) kq).trans (fq j)
theorem grown_of_below {w w1 w2 : World} {row : Option Nat} (h : Below w.heap.size w w1) (k : w1.grownBy w2 row) : w.grownBy w2 row :=
  ⟨k.os.trans h.os, k.tape.trans h.tape, k.output.trans h.output, Nat.le_trans h.size k.size, fun i hi hne => (k.block i (Nat.lt_of_lt_of_le hi h.size) hne).trans (h.block i hi)⟩
theorem strOne (x : ByteArray) : ∀ u ∈ [Value.string x], u.oneCell' = true := by
  intro u hu
  simp at hu
  subst hu
  rfl

set_option maxRecDepth 100000 in
set_option maxHeartbeats 1000000 in
theorem printW_any (a : Addr) {B : World} {lb qb : Nat} {w : World} {s : SpS} (h : PrI B lb qb w s) (hl : s.ws.length ≤ 100) (x : List UInt8) :
    Calls Tryd.prog 19 #[.string (bstr x), .pointer (some ⟨lb, 0, none⟩)] w (SpOut (PrI B lb qb) (fun _ => False) a (pw s x)) := by
  obtain ⟨i0, hI, hZ0, hZ1, hZ2⟩ := info_parts Tryd.info9
  have HI := Lib.hid h
  obtain ⟨v, hv, ho⟩ := h.v
  have HO := Lib.hid ho
  have HV := Lib.hid hv
  obtain ⟨va, vn, vc, rfl⟩ := ho.form
  have ll : lb < w.heap.size := lt_of_heap hv
  have lln : ¬ lb = w.heap.size := by omega
  have hqb : qb < w.heap.size := World.block_lt_of_cell? w _ h.q.c0
  obtain ⟨c1, fl⟩ := one_cell hv
  have HLn := Lib.hid hl
  clear h ho hv
  go_enter Tryd.func19, Tryd.ntmps19
  go_wp2_with (at_builtin; (refine wpList_append_own _ rfl (.tmp 3) (.tmp 5) 35 rfl (qb + 1) 9 i0 (.string ⟨#[]⟩) 1 16 Tryd.underlying35 hI hZ0 hZ1 hZ2 rfl (by decide) _ _ _ rfl (HO.out.alloc _) ⟨w.heap.size, 0, none⟩ 1 1 [.string (bstr x)] rfl rfl (World.news_of_block (heap_alloc_new w _)) (strOne _) (by unfold maxLen; omega) (by omega) (by simp; omega) ?_; intro v' w5 hown' hgrow _; have HOn : Hid (OwnS w5 (qb + 1) v' (s.ws ++ [x])) := (Lib.hid (by unfold OwnS; rw [List.length_append, strs_snoc]; exact hown')); have HG := Lib.hid (grown_of_below (ba w _) hgrow); obtain ⟨va', vn', vc', rfl⟩ := HOn.out.form; obtain ⟨k1, kf⟩ := one_cell ((HG.out.block lb ll (fun e => HO.out.ne HV.out e.symm)).trans HV.out); clear hown' hgrow))
  go_end0
  exact ⟨rfl, HI.out.push HV.out HO.out HG.out HOn.out⟩
end Go.Proofs.YtmjcjgmmolmibaaDoor
