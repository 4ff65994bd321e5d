/- LH, EM3, LOA, LB, LC -/
import Derived.Test.YtgbnjjgnihjfgaaProg
import Derived.WalkKit
import Derived.Below
import Derived.Lib.Hide
import Derived.Laws.StructEq
import Derived.Lib.QuietBelow
import Derived.Deep.RegionHeld3
import Derived.Deep.RegionWith
import Derived.IntWalk
import Derived.BigQuiet
import Derived.Maps.RangeWalk
import Derived.DeepKeys4
import Derived.OneCell
import Derived.StillTail
import Derived.Deep.CutRange
import Derived.Outline
import Derived.WalkSpells
import Derived.Carry
import Derived.Shelf.SlGeneric
import Derived.Shelf.SlSortCmp.WholeK
import Derived.Shelf.SlicesG.Cmp
import Derived.Ground.SlsfProg
import Derived.Ground.SlgcProg
import Derived.Sort.OwnSorted
import Derived.Deep.AppendLies
import Derived.Shelf.SlSortCmp.NoneTotal
import Derived.Deep.QuietTactic
import Derived.Laws.AppendOwnNone
import Derived.Laws.EntriesVeiled
import Derived.Lib.SliceRun
import Derived.Deep.Cut
import Derived.Laws.ResultCell
import Derived.ArgAppend
import Derived.Laws.Rows
import Derived.Great.BuildSlice
import Derived.Great.Frames
import Derived.Deep.DeepCutAuto
import Derived.Lib.AppendZeros
import Derived.Lib.Overlaps
import Derived.Laws.CopyRow
import Derived.Laws.AppendOwn
import Derived.Laws.Externs
import Derived.Deep.RegionLawGrows
import Derived.Test.YtgbnjjgnihjfgaaWOAM
import Derived.Test.YtgbnjjgnihjfgaaWOAO
import Derived.Test.YtgbnjjgnihjfgaaWOAD
import Derived.Test.YtgbnjjgnihjfgaaWOAK
import Derived.Test.YtgbnjjgnihjfgaaWOAI
import Derived.Test.YtgbnjjgnihjfgaaWOAF
import Derived.Test.YtgbnjjgnihjfgaaWOAH
import Derived.Test.YtgbnjjgnihjfgaaWOAP
import Derived.Test.YtgbnjjgnihjfgaaWOAL
import Derived.Test.YtgbnjjgnihjfgaaWOAN
import Derived.Test.YtgbnjjgnihjfgaaWOAA
import Derived.Test.YtgbnjjgnihjfgaaWOAG
import Derived.Test.YtgbnjjgnihjfgaaWOAB
import Derived.Test.YtgbnjjgnihjfgaaWOAJ
import Derived.Test.YtgbnjjgnihjfgaaWOAE
import Derived.Test.YtgbnjjgnihjfgaaWOAC
section
set_option linter.unusedVariables false
set_option linter.unusedSimpArgs false
namespace Go.Proofs.Ytgbnjjgnihjfgaa
open Go.RowKit Go.Sort Go.ChangeMaps Go.MapKept

/-- The state of a law behind k records: made behind w0, in memory of its own. -/
def SInv (w0 w : World) (sb : Nat) (R : List MRec) (k : Nat) (m : Option Nat) : Prop := StAt w sb m (rowsOf (R.take k)) k ∧ Own w0.heap.size sb m ∧ Below w0.heap.size w0 w
section
variable {w0 w w' : World} {sb : Nat} {R : List MRec} {k : Nat} {m : Option Nat}
theorem SInv.below (h : SInv w0 w sb R k m) (hb : Below w.heap.size w w') : SInv w0 w' sb R k m := ⟨h.1.below hb, h.2.1, bt h.2.2 hb⟩
theorem SInv.foot_lt (h : SInv w0 w sb R k m) : ∀ i, foot sb m i → i < w.heap.size := fun i f => by
  rcases f with rfl | f
  · exact h.1.lt
  · exact h.1.mlt f
theorem SInv.new (w0 : World) (R : List MRec) (t : World) (ht : t = w0.alloc (.cells #[.map none, .int .i64 0] 114)) : SInv w0 t w0.heap.size R 0 none := by
  subst ht
  exact ⟨by simpa [rowsOf] using stAt_new w0, ⟨Nat.le_refl _, fun i e => by cases e⟩, ba _ _⟩
/-- The next record of the log goes in. -/
theorem SInv.apply (h : SInv w0 w sb R k m) (hR : Chn R) (hk : k < R.length) {v : Value} (hv : ChS w v (R.getD k recZ).chs) :
    Calls Try.prog 63 #[.pointer (some ⟨sb, 0, none⟩), .agg #[.int .i64 ((k : Int) + 1), v]] w fun e w' => e = .returned (.int .i64 0) ∧ ∃ m', SInv w0 w' sb R (k + 1) m' ∧ Kept (foot sb m) w w' := by
  have ho := hR k hk
  have hp : (R.getD k recZ).pos = (k : Int) + 1 := ho.2.1
  rw [hp] at ho
  refine (apply_ok h.1 hv ho).mono ?_
  rintro e w' ⟨rfl, m', hst, hkt, hm⟩
  refine ⟨rfl, m', ⟨by rw [rowsOf_succ hk, Int.natCast_add]; exact hst, ⟨h.2.1.1, fun x hx => ?_⟩, ?_⟩, hkt⟩
  · rcases hm with rfl | ⟨y, rfl, hy⟩
    · exact h.2.1.2 x hx
    · cases hx
      have := h.2.2.size
      omega
  · exact ((Kept.of_below (F := foot sb m) h.2.2).trans hkt (fun _ _ f => f)).below (Nat.le_refl _) (fun x f => by
      rcases f with rfl | f
      · exact h.2.1.1
      · exact h.2.1.2 x f)
theorem SInv.own (h : SInv w0 w sb R k m) {w1 w2 : World} {base : Nat} {u : Value} {M : List MRow} (hk : Kept (foot sb m) w1 w2) (ho : OwnR w1 base u M) (hb : w.heap.size ≤ base) : OwnR w2 base u M :=
  ho.kept hk (fun i hi f => by have := h.foot_lt i f; omega)
end
/-- A record of a log, cell by cell. -/
theorem rec_at {w : World} {a : Option Addr} {n cap : Nat} {R : List MRec} (h : RecS w (.slice a n cap) R) (hR : Chn R) {k : Nat} (hk : k < R.length) :
    ∃ b o va vn vc, a = some ⟨b, o, none⟩ ∧ n = R.length ∧ w.cell? ⟨b, o + k * 2, none⟩ = some (.int .i64 ((k : Int) + 1)) ∧ w.cell? ⟨b, o + k * 2 + 1, none⟩ = some (.slice va vn vc) ∧ ChS w (.slice va vn vc) (R.getD k recZ).chs ∧ vn = (R.getD k recZ).chs.length ∧ b < w.heap.size := by
  obtain ⟨_, _, _, er, hrn, _, _, hrc⟩ := h
  simp at er
  obtain ⟨rfl, rfl, rfl⟩ := er
  obtain ⟨rb, ro, rfl, hrb, hcs⟩ := hrc (by omega)
  obtain ⟨q0, vs, q1, hvs⟩ := hcs k (by omega)
  have hp : (R.getD k recZ).pos = (k : Int) + 1 := (hR k hk).2.1
  rw [hp] at q0
  obtain ⟨va, vn, vcap, e, hvn, hrest⟩ := id hvs
  subst e
  exact ⟨rb, ro, va, vn, vcap, rfl, hrn, q0, q1, hvs, hvn, hrb⟩
/-- A cell of the world's stays in worlds that a region draws. -/
theorem re_cell {w : World} {b o : Nat} {v : Value} (hb : b < w.heap.size) (h : w.cell? ⟨b, o, none⟩ = some v) : ∀ w0, BW w w0 → ∀ d' os, (grow (redrawn w0 d') os).cell? ⟨b, o, none⟩ = some v := fun w0 hw d' os => ((show Below w.heap.size w (grow (redrawn w0 d') os) from bt hw (below_regrown w0 d' os)).cell (p := ⟨b, o, none⟩) hb).trans h
end Go.Proofs.Ytgbnjjgnihjfgaa
end

section
set_option linter.unusedVariables false
set_option linter.unusedSimpArgs false
namespace Go.Proofs.Ytgbnjjgnihjfgaa
open Go.RowKit Go.Sort Go.ChangeMaps Go.MapKept

theorem RowX.below {w w' : World} {u : Value} {N : List MRow} (h : RowX w u N) (hk : ∀ i, u.ownBlock = some i → i < w.heap.size) (k : Below w.heap.size w w') : RowX w' u N :=
  h.kept (F := fun _ => False) (Kept.of_below k) (fun i hi => ⟨id, hk i hi⟩)
end Go.Proofs.Ytgbnjjgnihjfgaa
end

section
set_option linter.unusedVariables false
set_option linter.unusedSimpArgs false
namespace Go.Proofs.Ytgbnjjgnihjfgaa
open Go.RowKit Go.Sort Go.ChangeMaps Go.MapKept

theorem newsC {w : World} {b : Nat} {c : MCh} (h : w.heap[b]? = some (.cells (chCells c) 35 (0, 0))) : ∀ j u, (flatC [c])[j]? = some u → w.cell? ((⟨b, 0, none⟩ : Addr).add j) = some u := by
  intro j u hj
  have e : flatC [c] = (chCells c).toList := by simp [flatC, ccl]
  rw [e, Array.getElem?_toList] at hj
  have e2 : ((⟨b, 0, none⟩ : Addr).add j) = ⟨b, j, none⟩ := by
    unfold Addr.add
    split
    · next h0 => subst h0; rfl
    · simp
  rw [e2]
  simp [World.cell?, h, hj]
theorem step_append_C {w : World} {ops : Array Oper} {o : Oper} {a : Act} {K : Act → World → Prop} {Q : Exit → Act → World → Prop} {E : Prop} (hgd : o.guard = none) (s x : Operand)
    (ho : o.op = .call { callee := .builtin .append, args := #[s, x], argTypes := #[36, 36] })
    (base : Nat) (v : Value) (M : List MCh) (c : MCh) (b : Nat) (hs : a.eval s = v) (hx : a.eval x = .slice (some ⟨b, 0, none⟩) 1 1) (hown : OwnC w base v M) (hN : w.heap[b]? = some (.cells (chCells c) 35 (0, 0))) (hlen : M.length + 1 ≤ 100000) (hbase : base ≤ w.heap.size)
    (h : ∀ v' w', OwnC w' base v' (M ++ [c]) → w.grownBy w' v.ownBlock → K (a.put o.dst v') w') : if Region.wanted o (yielded ops a.tmps) = true then Oper.wp Try.prog o a w K Q else E := by
  have hwt : Region.wanted o (yielded ops a.tmps) = true := by simp [Region.wanted, hgd]
  rw [if_pos hwt]
  obtain ⟨i0, hI, hZ0, hZ1, hZ2⟩ := info_parts Try.info57c
  refine wp_append_own w s x 36 ho base 35 i0 _ 10 80 Try.underlying36 hI hZ0 hZ1 hZ2 rfl (by decide) v M.length (flatC M) hs hown ⟨b, 0, none⟩ 1 1 (flatC [c]) hx (flatC_len [c]) (newsC hN) (flatC_one [c]) (by unfold maxLen; omega) (by omega) hbase ?_
  intro v' w' hown' hg _
  refine h v' w' ?_ hg
  unfold OwnC
  rw [List.length_append, flatC_app]
  exact hown'
/-- A change of a list, cell by cell. -/
theorem ch_at {w : World} {a : Option Addr} {n c : Nat} {cs : List MCh} (h : ChS w (.slice a n c) cs) {j : Nat} (hj : j < cs.length) : ∃ b o, a = some ⟨b, o, none⟩ ∧ b < w.heap.size ∧ ChAt w b (o + j * 10) (cs.getD j chZ) := by
  obtain ⟨_, _, _, e, hn, _, _, hc⟩ := h
  simp only [Value.slice.injEq] at e
  obtain ⟨rfl, rfl, rfl⟩ := e
  obtain ⟨b, o, rfl, hb, hcs⟩ := hc (by omega)
  exact ⟨b, o, rfl, hb, hcs j (by omega)⟩
end Go.Proofs.Ytgbnjjgnihjfgaa
end

section
set_option linter.unusedVariables false
set_option linter.unusedSimpArgs false
namespace Go.Proofs.Ytgbnjjgnihjfgaa
open Go.RowKit Go.Sort Go.ChangeMaps Go.MapKept

/-- A value that is not far from 0. -/
def nearV (v : Int) : Int := min (max v (-1000000000000000000)) 1000000000000000000
set_option maxRecDepth 100000 in
set_option maxHeartbeats 4000000 in
theorem near_any {W : World} {u : Value} {r : MRes} (h : RowS W u r.rows) : Calls Try.prog 22 #[.agg (resC u r.val r.fnd)] W fun e w' => ∃ u', e = .returned (.agg (resC u' (nearV r.val) r.fnd)) ∧ RowS w' u' (r.rows.take 20) ∧ Below W.heap.size W w' := by
  obtain ⟨rows, v, f⟩ := r
  simp only at h ⊢
  have hb0 : Below W.heap.size W ((W.alloc (.cells #[u, .int .i64 v, .bool f] 46)).alloc (.cells #[.slice none 0 0, .int .i64 0, .bool false] 46)) := bt (ba W _) (ba _ _)
  have HB := Lib.hid hb0
  have HR0 := Lib.hid h
  obtain ⟨a, n, cap, rfl, hn, h1, h2, h3⟩ := id h
  obtain ⟨m, Hm⟩ : ∃ m : Nat, Hid (min n 20 = m) := ⟨_, Lib.hid rfl⟩
  have hmn : m ≤ n := by have := Hm.out; omega
  have HT : Hid (∀ w, RowS w (.slice a n cap) rows → RowS w (.slice a m cap) (rows.take 20)) := Lib.hid (fun w ⟨a', n', cap', e, hn', k1, k2, k3⟩ => by
    simp only [Value.slice.injEq] at e
    obtain ⟨rfl, rfl, rfl⟩ := e
    have hl : m = (rows.take 20).length := by rw [List.length_take, ← hn', ← Hm.out]; omega
    refine ⟨_, _, _, rfl, hl, by omega, k2, fun hm1 => ?_⟩
    obtain ⟨b, o, e, hb, hc⟩ := k3 (by omega)
    refine ⟨b, o, e, hb, fun i hi => ?_⟩
    have hg : (rows.take 20).getD i rowZ = rows.getD i rowZ := by
      rw [List.getD_eq_getElem?_getD, List.getD_eq_getElem?_getD, List.getElem?_take_of_lt (by have := Hm.out; omega)]
    rw [hg]
    exact hc i (by omega))
  obtain ⟨nv, HNv⟩ : ∃ z, Hid (nearV v = z) := ⟨_, Lib.hid rfl⟩
  rw [HNv.out]
  clear h hn h2 h3 hb0
  go_enter Try.func22, Try.ntmps22
  go_upto_region 1 with fail
  have HX : Hid (((W.alloc (.cells #[.slice a n cap, .int .i64 v, .bool f] 46)).alloc (.cells #[.slice none 0 0, .int .i64 0, .bool false] 46)).heap[W.heap.size]? = some (.cells #[.slice a n cap, .int .i64 v, .bool f] 46 (0, 0))) := Lib.hid (((ba (W.alloc _) _).block _ (by simp)).trans (heap_alloc_new W _))
  have HY : Hid (((W.alloc (.cells #[.slice a n cap, .int .i64 v, .bool f] 46)).alloc (.cells #[.slice none 0 0, .int .i64 0, .bool false] 46)).heap[W.heap.size + 1]? = some (.cells #[.slice none 0 0, .int .i64 0, .bool false] 46 (0, 0))) := Lib.hid (by
    have h := heap_alloc_new (W.alloc (.cells #[.slice a n cap, .int .i64 v, .bool f] 46)) (.cells #[.slice none 0 0, .int .i64 0, .bool false] 46)
    rw [World.size_alloc] at h
    exact h)
  generalize (W.alloc (.cells #[.slice a n cap, .int .i64 v, .bool f] 46)).alloc (.cells #[.slice none 0 0, .int .i64 0, .bool false] 46) = w0 at *
  have x0 : w0.cell? ⟨W.heap.size, 0, none⟩ = some (.slice a n cap) := by simp [World.cell?, HX.out]
  have x1 : w0.cell? ⟨W.heap.size, 1, none⟩ = some (.int .i64 v) := by simp [World.cell?, HX.out]
  have fz : ∀ j, w0.frozen? ⟨W.heap.size, j, none⟩ = false := fun j => by simp [World.frozen?, HX.out]
  have q1 : (0 : Int) ≤ (m : Int) := by omega
  have q2 : (m : Int) ≤ (cap : Int) := by omega
  have q3 : (m : Int).toNat = m := by omega
  go_upto_region 2 with fail
  have hm : (min (n : Int) 20).toNat = m := by have := Hm.out; omega
  simp only [hm]
  have HX1 : Hid ((w0.setCell ⟨W.heap.size, 0, none⟩ (.slice a m cap)).heap[W.heap.size]? = some (.cells #[.slice a m cap, .int .i64 v, .bool f] 46 (0, 0))) := Lib.hid (setC_heap HX.out 0 _)
  have HY1 : Hid ((w0.setCell ⟨W.heap.size, 0, none⟩ (.slice a m cap)).heap[W.heap.size + 1]? = some (.cells #[.slice none 0 0, .int .i64 0, .bool false] 46 (0, 0))) := Lib.hid (by rw [Below.heap_setCell _ _ _ _ (by show ¬ W.heap.size + 1 = W.heap.size; omega)]; exact HY.out)
  have HB1 : Hid (Below W.heap.size W (w0.setCell ⟨W.heap.size, 0, none⟩ (.slice a m cap))) := Lib.hid (below_setCell HB.out (by show W.heap.size ≤ W.heap.size; omega) _)
  generalize w0.setCell ⟨W.heap.size, 0, none⟩ (.slice a m cap) = w1 at *
  clear x0 x1 fz
  have x1 : w1.cell? ⟨W.heap.size, 1, none⟩ = some (.int .i64 v) := by simp [World.cell?, HX1.out]
  have fz : ∀ j, w1.frozen? ⟨W.heap.size, j, none⟩ = false := fun j => by simp [World.frozen?, HX1.out]
  go_upto_region 3 with fail
  have hnv : min (max v (-1000000000000000000)) 1000000000000000000 = nv := HNv.out
  simp only [hnv]
  have HX2 : Hid ((w1.setCell ⟨W.heap.size, 1, none⟩ (.int .i64 nv)).heap[W.heap.size]? = some (.cells #[.slice a m cap, .int .i64 nv, .bool f] 46 (0, 0))) := Lib.hid (setC_heap HX1.out 1 _)
  have HY2 : Hid ((w1.setCell ⟨W.heap.size, 1, none⟩ (.int .i64 nv)).heap[W.heap.size + 1]? = some (.cells #[.slice none 0 0, .int .i64 0, .bool false] 46 (0, 0))) := Lib.hid (by rw [Below.heap_setCell _ _ _ _ (by show ¬ W.heap.size + 1 = W.heap.size; omega)]; exact HY1.out)
  have HB2 : Hid (Below W.heap.size W (w1.setCell ⟨W.heap.size, 1, none⟩ (.int .i64 nv))) := Lib.hid (below_setCell HB1.out (by show W.heap.size ≤ W.heap.size; omega) _)
  generalize w1.setCell ⟨W.heap.size, 1, none⟩ (.int .i64 nv) = w2 at *
  clear x1 fz
  go_wp2_with (first
    | refine wpList_load_row rfl 46 _ rfl W.heap.size rfl 46 _ _ _ HX2.out Try.underlying46 rfl (by kernel_rfl) ?_
    | refine wpList_store_row rfl 46 _ _ rfl (W.heap.size + 1) #[.slice a m cap, .int .i64 nv, .bool f] rfl rfl 46 _ HY2.out (by kernel_rfl) rfl (by simp [Value.oneCell']) ?_)
  refine bodyPost_ret (v := .agg #[.slice a m cap, .int .i64 nv, .bool f]) (results_cell_row rfl _ _ (W.heap.size + 1) 46 _ (0, 0) _ rfl (setRow_heap _ _ _ _ _ _ HY2.out) Try.underlying46 rfl (by kernel_rfl)) rfl ?_
  have hb3 : Below W.heap.size W (w2.setRow (W.heap.size + 1) #[.slice a m cap, .int .i64 nv, .bool f]) := below_row HB2.out (by omega) _
  exact ⟨_, rfl, HT.out _ (HR0.out.below hb3), hb3⟩
end Go.Proofs.Ytgbnjjgnihjfgaa
end

section
set_option linter.unusedVariables false
set_option linter.unusedSimpArgs false
namespace Go.Proofs.Ytgbnjjgnihjfgaa
open Go.RowKit Go.Sort Go.ChangeMaps Go.MapKept

def sQ : MQ := ⟨5, 0, 1, 10, 19, 2, 0⟩
def sC : MQ := ⟨3, 0, 1, 10, 19, 0, 0⟩
def sR : MQ := ⟨1, 0, 0, 5, 5, 0, 0⟩
def cAdd : MCh := ⟨0, 5, false, ⟨0, 0, 0⟩, true, ⟨12, 3, 0⟩⟩
def cFar : MCh := ⟨0, 5, false, ⟨0, 0, 0⟩, true, ⟨25, 3, 0⟩⟩
def cGone : MCh := ⟨0, 6, true, ⟨12, 7, 0⟩, false, ⟨0, 0, 0⟩⟩
def cLess : MCh := ⟨0, 6, true, ⟨12, 7, 0⟩, true, ⟨12, 5, 0⟩⟩
def cMoved : MCh := ⟨0, 6, true, ⟨12, 9, 1⟩, true, ⟨13, 9, 1⟩⟩
def rS : MRes := ⟨[], 7, true⟩
def rC : MRes := ⟨[], 4, false⟩
theorem pAdd : patchF sQ rS cAdd = some ⟨[], 3, true⟩ := by decide +kernel
theorem pFar : patchF sQ rS cFar = some ⟨[], 7, true⟩ := by decide +kernel
theorem pGone : patchF sQ rS cGone = none := by decide +kernel
theorem pLess : patchF sQ rS cLess = some ⟨[], 5, true⟩ := by decide +kernel
theorem aC : applyM sC rC [cAdd, cGone] = (some ⟨[], 4, false⟩, true) := by decide +kernel
theorem aR : applyM sR resZ [cAdd] = (some ⟨[⟨0, 5, ⟨12, 3, 0⟩⟩], 0, false⟩, true) := by decide +kernel
theorem tAdd : touchB sQ cAdd = true := by decide +kernel
theorem tFar : touchB sQ cFar = false := by decide +kernel
theorem tGone : touchB sQ cGone = true := by decide +kernel
theorem tMoved : touchB sQ cMoved = false := by decide +kernel
theorem ChS_mk {w : World} {g : Nat} {L : List MCh} {cs : Array Value} {t : TypeId} {fr : Nat × Nat} (hb : w.heap[g]? = some (.cells cs t fr)) (h : ∀ i, i < L.length → ∀ j : Nat, j < 10 → cs[i * 10 + j]? = (chCells (L.getD i chZ))[j]?) (hl : L.length ≤ 100) : ChS w (.slice (some ⟨g, 0, none⟩) L.length L.length) L :=
  ⟨_, _, _, rfl, rfl, Nat.le_refl _, by omega, fun _ => ⟨g, 0, rfl, lt_of_block hb, fun i hi j hj => by
    simp only [World.cell?, Nat.zero_add]
    rw [hb]
    exact h i hi j hj⟩⟩
theorem sp1 (w : World) : Calls Try.prog 25 #[.agg #[.int .i64 5, .int .i64 0, .int .i64 1, .int .i64 10, .int .i64 19, .int .i64 2, .int .i64 0], .agg #[.slice none 0 0, .int .i64 7, .bool true], .agg #[.int .i64 0, .int .i64 5, .bool false, .int .i64 0, .int .i64 0, .int .i64 0, .bool true, .int .i64 12, .int .i64 3, .int .i64 0]] w fun e w' => ∃ a n c, e = .returned (.tuple #[.agg #[.slice a n c, .int .i64 3, .bool true], .bool true]) ∧ Hid (Below w.heap.size w w') :=
  (Patch_any (q := sQ) (c := cAdd) (r := rS) (u := .slice none 0 0) (rowS_nil w) (by decide)).mono fun e w' ⟨u, h1, h2, h3⟩ => by
    obtain ⟨a, n, c, rfl⟩ := h2.form
    rw [pAdd] at h1
    exact ⟨a, n, c, h1, Lib.hid h3⟩
theorem sp2 (w : World) : Calls Try.prog 25 #[.agg #[.int .i64 5, .int .i64 0, .int .i64 1, .int .i64 10, .int .i64 19, .int .i64 2, .int .i64 0], .agg #[.slice none 0 0, .int .i64 7, .bool true], .agg #[.int .i64 0, .int .i64 5, .bool false, .int .i64 0, .int .i64 0, .int .i64 0, .bool true, .int .i64 25, .int .i64 3, .int .i64 0]] w fun e w' => ∃ a n c, e = .returned (.tuple #[.agg #[.slice a n c, .int .i64 7, .bool true], .bool true]) ∧ Hid (Below w.heap.size w w') :=
  (Patch_any (q := sQ) (c := cFar) (r := rS) (u := .slice none 0 0) (rowS_nil w) (by decide)).mono fun e w' ⟨u, h1, h2, h3⟩ => by
    obtain ⟨a, n, c, rfl⟩ := h2.form
    rw [pFar] at h1
    exact ⟨a, n, c, h1, Lib.hid h3⟩
theorem sp4 (w : World) : Calls Try.prog 25 #[.agg #[.int .i64 5, .int .i64 0, .int .i64 1, .int .i64 10, .int .i64 19, .int .i64 2, .int .i64 0], .agg #[.slice none 0 0, .int .i64 7, .bool true], .agg #[.int .i64 0, .int .i64 6, .bool true, .int .i64 12, .int .i64 7, .int .i64 0, .bool true, .int .i64 12, .int .i64 5, .int .i64 0]] w fun e w' => ∃ a n c, e = .returned (.tuple #[.agg #[.slice a n c, .int .i64 5, .bool true], .bool true]) ∧ Hid (Below w.heap.size w w') :=
  (Patch_any (q := sQ) (c := cLess) (r := rS) (u := .slice none 0 0) (rowS_nil w) (by decide)).mono fun e w' ⟨u, h1, h2, h3⟩ => by
    obtain ⟨a, n, c, rfl⟩ := h2.form
    rw [pLess] at h1
    exact ⟨a, n, c, h1, Lib.hid h3⟩
theorem sp3 (w : World) : Calls Try.prog 25 #[.agg #[.int .i64 5, .int .i64 0, .int .i64 1, .int .i64 10, .int .i64 19, .int .i64 2, .int .i64 0], .agg #[.slice none 0 0, .int .i64 7, .bool true], .agg #[.int .i64 0, .int .i64 6, .bool true, .int .i64 12, .int .i64 7, .int .i64 0, .bool false, .int .i64 0, .int .i64 0, .int .i64 0]] w fun e w' => ∃ a n c, e = .returned (.tuple #[.agg #[.slice a n c, .int .i64 0, .bool false], .bool false]) ∧ Hid (Below w.heap.size w w') :=
  (Patch_any (q := sQ) (c := cGone) (r := rS) (u := .slice none 0 0) (rowS_nil w) (by decide)).mono fun e w' ⟨u, h1, h2, h3⟩ => by
    obtain ⟨a, n, c, rfl⟩ := h2.form
    rw [pGone] at h1
    exact ⟨a, n, c, h1, Lib.hid h3⟩
theorem stAdd (w : World) : Calls Try.prog 27 #[.agg #[.int .i64 5, .int .i64 0, .int .i64 1, .int .i64 10, .int .i64 19, .int .i64 2, .int .i64 0], .agg #[.int .i64 0, .int .i64 5, .bool false, .int .i64 0, .int .i64 0, .int .i64 0, .bool true, .int .i64 12, .int .i64 3, .int .i64 0]] w fun e w' => e = .returned (.bool true) ∧ Hid (Below w.heap.size w w') :=
  (touches_any sQ cAdd w).mono fun e w' ⟨h1, h2⟩ => ⟨by rw [tAdd] at h1; exact h1, Lib.hid h2⟩
theorem stFar (w : World) : Calls Try.prog 27 #[.agg #[.int .i64 5, .int .i64 0, .int .i64 1, .int .i64 10, .int .i64 19, .int .i64 2, .int .i64 0], .agg #[.int .i64 0, .int .i64 5, .bool false, .int .i64 0, .int .i64 0, .int .i64 0, .bool true, .int .i64 25, .int .i64 3, .int .i64 0]] w fun e w' => e = .returned (.bool false) ∧ Hid (Below w.heap.size w w') :=
  (touches_any sQ cFar w).mono fun e w' ⟨h1, h2⟩ => ⟨by rw [tFar] at h1; exact h1, Lib.hid h2⟩
theorem stGone (w : World) : Calls Try.prog 27 #[.agg #[.int .i64 5, .int .i64 0, .int .i64 1, .int .i64 10, .int .i64 19, .int .i64 2, .int .i64 0], .agg #[.int .i64 0, .int .i64 6, .bool true, .int .i64 12, .int .i64 7, .int .i64 0, .bool false, .int .i64 0, .int .i64 0, .int .i64 0]] w fun e w' => e = .returned (.bool true) ∧ Hid (Below w.heap.size w w') :=
  (touches_any sQ cGone w).mono fun e w' ⟨h1, h2⟩ => ⟨by rw [tGone] at h1; exact h1, Lib.hid h2⟩
theorem stMoved (w : World) : Calls Try.prog 27 #[.agg #[.int .i64 5, .int .i64 0, .int .i64 1, .int .i64 10, .int .i64 19, .int .i64 2, .int .i64 0], .agg #[.int .i64 0, .int .i64 6, .bool true, .int .i64 12, .int .i64 9, .int .i64 1, .bool true, .int .i64 13, .int .i64 9, .int .i64 1]] w fun e w' => e = .returned (.bool false) ∧ Hid (Below w.heap.size w w') :=
  (touches_any sQ cMoved w).mono fun e w' ⟨h1, h2⟩ => ⟨by rw [tMoved] at h1; exact h1, Lib.hid h2⟩
theorem saC {w : World} {cv : Value} (h : ChS w cv [cAdd, cGone]) : Calls Try.prog 32 #[.agg #[.int .i64 3, .int .i64 0, .int .i64 1, .int .i64 10, .int .i64 19, .int .i64 0, .int .i64 0], .agg #[.slice none 0 0, .int .i64 4, .bool false], .agg #[.int .i64 1, cv]] w fun e w' => ∃ a n c, e = .returned (.tuple #[.agg #[.slice a n c, .int .i64 4, .bool false], .bool true, .bool true]) ∧ Hid (Below w.heap.size w w') :=
  (Apply_any (q := sC) (r := rC) (u := .slice none 0 0) (pos := 1) (rowS_nil w) (by decide) h).mono fun e w' ⟨u, h1, h2, h3⟩ => by
    obtain ⟨a, n, c, rfl⟩ := h2.form
    rw [aC] at h1
    exact ⟨a, n, c, h1, Lib.hid h3⟩
theorem saR {w : World} {cv : Value} (h : ChS w cv [cAdd]) : Calls Try.prog 32 #[.agg #[.int .i64 1, .int .i64 0, .int .i64 0, .int .i64 5, .int .i64 5, .int .i64 0, .int .i64 0], .agg #[.slice none 0 0, .int .i64 0, .bool false], .agg #[.int .i64 1, cv]] w fun e w' => ∃ g f c, e = .returned (.tuple #[.agg #[.slice (some ⟨g, f, none⟩) 1 c, .int .i64 0, .bool false], .bool true, .bool true]) ∧ Hid (w'.cell? ⟨g, f + 3, none⟩ = some (.int .i64 3) ∧ g < w'.heap.size) ∧ Hid (1 ≤ c) ∧ Hid (Below w.heap.size w w') :=
  (Apply_any (q := sR) (r := resZ) (u := .slice none 0 0) (pos := 1) (rowS_nil w) (by decide) h).mono fun e w' ⟨u, h1, h2, h3⟩ => by
    rw [aR] at h1 h2
    have h4 := h2.rowS
    obtain ⟨a, n, c, rfl, hn, hc, _, hr⟩ := h4
    simp at hn
    subst hn
    obtain ⟨g, f, rfl, hg, hcs⟩ := hr (by omega)
    have h5 := (hcs 0 (by omega)).cells
    simp at h5
    exact ⟨g, f, c, h1, Lib.hid ⟨h5.2.2.2.1, hg⟩, Lib.hid hc, Lib.hid h3⟩
end Go.Proofs.Ytgbnjjgnihjfgaa
end
