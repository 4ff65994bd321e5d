/- PG, PA, PB, PC -/
import Derived.Test.YtgbnjjgnihjfgaaGreatProg
import Derived.WalkKit
import Derived.Below
import Derived.Lib.Hide
import Derived.Laws.StructEq
import Derived.Lib.QuietBelow
import Derived.Deep.RegionHeld3
import Derived.Deep.RegionWith
import Derived.IntWalk
import Derived.BigQuiet
import Derived.Maps.RangeWalk
import Derived.DeepKeys4
import Derived.OneCell
import Derived.StillTail
import Derived.Deep.CutRange
import Derived.Outline
import Derived.WalkSpells
import Derived.Carry
import Derived.Shelf.SlGeneric
import Derived.Shelf.SlSortCmp.WholeK
import Derived.Shelf.SlicesG.Cmp
import Derived.Ground.SlsfProg
import Derived.Ground.SlgcProg
import Derived.Sort.OwnSorted
import Derived.Deep.AppendLies
import Derived.Shelf.SlSortCmp.NoneTotal
import Derived.Deep.QuietTactic
import Derived.Laws.AppendOwnNone
import Derived.Laws.EntriesVeiled
import Derived.Lib.SliceRun
import Derived.Deep.Cut
import Derived.Laws.ResultCell
import Derived.ArgAppend
import Derived.Laws.Rows
import Derived.Great.BuildSlice
import Derived.Great.Frames
import Derived.Deep.DeepCutAuto
import Derived.Test.YtgbnjjgnihjfgaaGreatBAH
import Derived.Test.YtgbnjjgnihjfgaaGreatBAG
import Derived.Test.YtgbnjjgnihjfgaaGreatBAE
import Derived.Test.YtgbnjjgnihjfgaaGreatBAB
import Derived.Test.YtgbnjjgnihjfgaaGreatBAA
import Derived.Test.YtgbnjjgnihjfgaaGreatBAC
import Derived.Test.YtgbnjjgnihjfgaaGreatBAD
import Derived.Test.YtgbnjjgnihjfgaaGreatBAF
import Derived.Test.YtgbnjjgnihjfgaaGreatBAI
section
set_option linter.unusedVariables false
set_option linter.unusedSimpArgs false
namespace Go.Proofs.YtgbnjjgnihjfgaaGreat
open Go.RowKit Go.Sort Go.ChangeMaps Go.MapKept

def lookG (F : List (Int × Value)) (k : Int) : Option Value := (F.find? fun p => decide (p.1 = k)).map (·.2)
theorem lookG_none {F : List (Int × Value)} {k : Int} : lookG F k = none ↔ ∀ p ∈ F, ¬ p.1 = k := by
  unfold lookG
  rw [Option.map_eq_none_iff, List.find?_eq_none]
  simp
def EntG (es : List MapEntry) (F : List (Int × Value)) : Prop := (es.map fun e => (e.key, e.val)).Perm (F.map fun p => (Value.int .i64 p.1, p.2))
/-- Block b is a map with these entries. -/
def GMap (W : World) (b : Nat) (F : List (Int × Value)) : Prop := ∃ es clock, W.heap[b]? = some (.map es clock) ∧ Stamped es clock ∧ EntG es.toList F ∧ ∀ p ∈ F, I64 p.1
theorem GMap.lt {W : World} {b : Nat} {F : List (Int × Value)} (h : GMap W b F) : b < W.heap.size := by
  obtain ⟨es, clock, hb, _⟩ := h
  exact (Array.getElem?_eq_some_iff.1 hb).1
theorem GMap.of_block {W W' : World} {b : Nat} {F : List (Int × Value)} (h : GMap W b F) (e : W'.heap[b]? = W.heap[b]?) : GMap W' b F := by
  obtain ⟨es, clock, hb, r⟩ := h
  exact ⟨es, clock, e.trans hb, r⟩
theorem GMap.below {W W' : World} {b : Nat} {F : List (Int × Value)} (h : GMap W b F) (k : Below W.heap.size W W') : GMap W' b F := h.of_block (k.block b h.lt)
theorem entG_keys {es : List MapEntry} {F : List (Int × Value)} (h : EntG es F) (hw : ∀ p ∈ F, I64 p.1) : ∀ e ∈ es, ∃ l, keyOf Tryz.prog 3 e.key = some l := by
  intro e he
  have hm := h.mem_iff.1 (List.mem_map.2 ⟨e, he, rfl⟩)
  obtain ⟨r, hr, hre⟩ := List.mem_map.1 hm
  simp only [Prod.mk.injEq] at hre
  rw [← hre.1]
  exact ⟨_, key_ofK (hw r hr)⟩
theorem entG_nodup {es : List MapEntry} {F : List (Int × Value)} (h : EntG es F) (hp : es.Pairwise fun x y => x.key ≠ y.key) : F.Pairwise fun r s => ¬ r.1 = s.1 := by
  have h1 : (es.map fun e => (e.key, e.val)).Pairwise fun p q => p.1 ≠ q.1 := by rw [List.pairwise_map]; exact hp
  have h2 := (h.pairwise_iff (fun {a b} (hab : a.1 ≠ b.1) => hab.symm)).1 h1
  rw [List.pairwise_map] at h2
  exact h2.imp fun {a b} hab e => hab (by simp [e])
theorem lookG_mem {F : List (Int × Value)} (hp : F.Pairwise fun r s => ¬ r.1 = s.1) {r : Int × Value} (hr : r ∈ F) : lookG F r.1 = some r.2 := by
  induction F with
  | nil => simp at hr
  | cons a F ih =>
    obtain ⟨h1, h2⟩ := List.pairwise_cons.1 hp
    unfold lookG
    rcases List.mem_cons.1 hr with e | hr
    · subst e
      rw [List.find?_cons_of_pos (by simp)]
      rfl
    · rw [List.find?_cons_of_neg (by simp only [decide_eq_true_eq]; exact h1 r hr)]
      exact ih h2 hr
/-- 'm[key]', of a key that is there; a map of type t with elements of type e. -/
theorem GMap.look {W : World} {b : Nat} {F : List (Int × Value)} (h : GMap W b F) {t e : TypeId} (ht : Tryz.prog.underlying t = some (.map 3 e)) {k : Int} (hk : I64 k) {v : Value} (hv : lookG F k = some v) :
    (Instr.lookup t (.map (some b)) (.int .i64 k) false).run Tryz.prog W = .ok v W := by
  obtain ⟨es, clock, hb, hs, he, hw⟩ := h
  have hl := key_ofK hk
  rcases lawK.find W hl es.toList (entG_keys he hw) with ⟨h1, h2⟩ | ⟨j, e0, h1, h2, h3⟩
  · exfalso
    have : lookG F k = none := lookG_none.2 fun r hr e => by
      have hm := he.mem_iff.2 (List.mem_map.2 ⟨r, hr, rfl⟩)
      obtain ⟨x, hx, hxe⟩ := List.mem_map.1 hm
      simp only [Prod.mk.injEq] at hxe
      exact h2 x hx (by rw [hxe.1, e])
    rw [this] at hv
    cases hv
  · have hm0 : e0 ∈ es.toList := List.mem_of_getElem? h2
    have hm := he.mem_iff.1 (List.mem_map.2 ⟨e0, hm0, rfl⟩)
    obtain ⟨r, hr, hre⟩ := List.mem_map.1 hm
    simp only [Prod.mk.injEq] at hre
    rw [h3] at hre
    have e1 : r.1 = k := by simpa using hre.1
    have hlk := lookG_mem (entG_nodup he ((stamped_iff es clock).1 hs).2.2) hr
    rw [e1, hv] at hlk
    have e2 : v = r.2 := by simpa using hlk
    rw [e2, hre.2]
    simp [Instr.lookup, run_underlying ht, MapKept.run_getObj_map hb, lawK.check W _ hl, h1, Result.andThen]
/-- 'm[key] = v', of a key that is not there. -/
theorem GMap.add {W : World} {b : Nat} {F : List (Int × Value)} (h : GMap W b F) {t e : TypeId} (ht : Tryz.prog.underlying t = some (.map 3 e)) (k : Int) (v : Value) (hk : I64 k) (hn : lookG F k = none) :
    ∃ W', (Instr.mapUpdate t (.map (some b)) (.int .i64 k) v).run Tryz.prog W = .ok () W' ∧ GMap W' b ((k, v) :: F) ∧ Turned W W' b := by
  obtain ⟨es, clock, hb, hs, he, hw⟩ := h
  have hn' := lookG_none.1 hn
  have hl := key_ofK hk
  rcases lawK.find W hl es.toList (entG_keys he hw) with ⟨h1, h2⟩ | ⟨j, e0, h1, h2, h3⟩
  · refine ⟨setBlock W b (.map (es.push ⟨.int .i64 k, v, clock⟩) (clock + 1)), ?_, ⟨_, _, heap_setBlock_same hb _, stamped_push hs h2, ?_, ?_⟩, ⟨es, clock, _, _, hb, rfl⟩⟩
    · simp [Instr.mapUpdate, run_underlying ht, MapKept.run_getObj_map hb, lawK.check W false hl, h1, MapKept.run_setObj_map _ hb, Result.andThen, setBlock]
    · unfold EntG
      rw [Array.toList_push, List.map_append, List.map_singleton, List.map_cons]
      exact (List.perm_append_singleton _ _).trans (List.Perm.cons _ he)
    · intro s hs
      rcases List.mem_cons.1 hs with e | hs
      · subst e; exact hk
      · exact hw s hs
  · exfalso
    have hm0 : e0 ∈ es.toList := List.mem_of_getElem? h2
    have hm := he.mem_iff.1 (List.mem_map.2 ⟨e0, hm0, rfl⟩)
    obtain ⟨s, hs, hse⟩ := List.mem_map.1 hm
    simp only [Prod.mk.injEq] at hse
    rw [h3] at hse
    have e1 : s.1 = k := by simpa using hse.1
    exact hn' s hs e1
theorem gMap_new (W : World) : GMap (W.alloc (.map #[] 0)) W.heap.size [] := ⟨#[], 0, (MapKept.heap_alloc W _).1, (stamped_iff _ _).2 ⟨by simp, by simp, by simp⟩, List.Perm.refl _, by simp⟩
section
variable {w : World} {ops : Array Oper} {rest : List Oper} {o : Oper} {a : Act} {Q : Exit → Act → World → Prop}
theorem wpList_insG (hg : o.guard = none) (t e : TypeId) (ht : Tryz.prog.underlying t = some (.map 3 e)) (m x v : Operand) (hop : o.op = Op.insert t m x v) (b : Nat) (F : List (Int × Value)) (k : Int) (u : Value)
    (hm : a.eval m = .map (some b)) (hx : a.eval x = .int .i64 k) (hv : a.eval v = u) (hs : GMap w b F) (hk : I64 k) (hn : lookG F k = none)
    (hK : ∀ w', GMap w' b ((k, u) :: F) → Turned w w' b → wpList Tryz.prog ops Q rest (a.put o.dst undef) w') : wpList Tryz.prog ops Q (o :: rest) a w := by
  refine wpList_plain hg fun K' hK' => ?_
  obtain ⟨w', hrun, r1, r2⟩ := hs.add ht k u hk hn
  unfold Oper.wp
  simp [execOp, hop, hm, hx, hv, hrun, Result.andThen]
  exact hK' _ _ (hK w' r1 r2)
end
end Go.Proofs.YtgbnjjgnihjfgaaGreat
end

section
set_option linter.unusedVariables false
set_option linter.unusedSimpArgs false
namespace Go.Proofs.YtgbnjjgnihjfgaaGreat
open Go.RowKit Go.Sort Go.ChangeMaps Go.MapKept

/-- A side of a change: its row, whether there is one, whether it is in the scan, its measure. -/
structure MSide where
  row : MRow
  ex : Bool
  inn : Bool
  ms : Int
def sideQ (q : MQ) (r : MRow) (ex : Bool) : MSide := ⟨r, ex, inQ q r ex, msQ q r (inQ q r ex)⟩
abbrev sideC (s : MSide) : Array Value := #[.int .i64 s.row.t, .int .i64 s.row.k, .int .i64 s.row.v.a, .int .i64 s.row.v.b, .int .i64 s.row.v.c, .bool s.ex, .bool s.inn, .int .i64 s.ms]
abbrev sideV (s : MSide) : Value := .agg (sideC s)

set_option maxRecDepth 100000 in
set_option maxHeartbeats 4000000 in
theorem side_no (k t c l h y o rt rk ra rb rc v m : Int) {qb : Nat} (W : World) (HQ0 : W.heap[qb]? = some (.cells (qC ⟨k, t, c, l, h, y, o⟩) 28 (0, 0)))
    (HV0 : ∀ w, Calls Tryz.prog 70 #[.agg #[.int .i64 rt, .int .i64 rk, .int .i64 ra, .int .i64 rb, .int .i64 rc], .int .i64 c] w fun e w' => e = .returned (.int .i64 v) ∧ Below w.heap.size w w')
    (HY0 : ∀ w, Calls Tryz.prog 70 #[.agg #[.int .i64 rt, .int .i64 rk, .int .i64 ra, .int .i64 rb, .int .i64 rc], .int .i64 y] w fun e w' => e = .returned (.int .i64 m) ∧ Below w.heap.size w w') :
    Calls Tryz.prog 89 #[.agg #[.int .i64 rt, .int .i64 rk, .int .i64 ra, .int .i64 rb, .int .i64 rc], .bool false, ptr qb] W fun e w' => e = .returned (.agg #[.int .i64 rt, .int .i64 rk, .int .i64 ra, .int .i64 rb, .int .i64 rc, .bool false, .bool false, .int .i64 0]) ∧ Below W.heap.size W w' := by
  have HV := Lib.hid HV0
  have HY := Lib.hid HY0
  have HQ := Lib.hid HQ0
  clear HV0 HY0 HQ0
  go_enter Tryz.func89, Tryz.ntmps89
  go_upto_region 1 with fail
  generalize hw0 : (W.alloc (.cells #[.int .i64 rt, .int .i64 rk, .int .i64 ra, .int .i64 rb, .int .i64 rc] 57)).alloc _ = w0
  have HB0 : Hid (Below W.heap.size W w0) := Lib.hid (by rw [← hw0]; exact bt (ba W _) (ba _ _))
  have HR0 : Hid (w0.heap[W.heap.size]? = some (.cells #[.int .i64 rt, .int .i64 rk, .int .i64 ra, .int .i64 rb, .int .i64 rc] 57 (0, 0))) := Lib.hid (by
    rw [← hw0]
    exact ((ba (W.alloc _) _).block _ (by simp)).trans (heap_alloc_new W _))
  have HS0 : Hid (w0.heap[W.heap.size + 1]? = some (.cells #[.int .i64 0, .int .i64 0, .int .i64 0, .int .i64 0, .int .i64 0, .bool false, .bool false, .int .i64 0] 95 (0, 0))) := Lib.hid (by
    rw [← hw0]
    have h := heap_alloc_new (W.alloc (.cells #[.int .i64 rt, .int .i64 rk, .int .i64 ra, .int .i64 rb, .int .i64 rc] 57)) (.cells #[.int .i64 0, .int .i64 0, .int .i64 0, .int .i64 0, .int .i64 0, .bool false, .bool false, .int .i64 0] 95)
    rw [World.size_alloc] at h
    exact h)
  have HQ1 := Lib.hid ((HB0.out.block _ (lt_of_block HQ.out)).trans HQ.out)
  clear hw0
  have q2 : w0.cell? ⟨qb, 2, none⟩ = some (.int .i64 c) := by simp [World.cell?, qC, HQ1.out]
  have r0 : w0.cell? ⟨W.heap.size, 0, none⟩ = some (.int .i64 rt) := by simp [World.cell?, HR0.out]
  have r1 : w0.cell? ⟨W.heap.size, 1, none⟩ = some (.int .i64 rk) := by simp [World.cell?, HR0.out]
  have r2 : w0.cell? ⟨W.heap.size, 2, none⟩ = some (.int .i64 ra) := by simp [World.cell?, HR0.out]
  have r3 : w0.cell? ⟨W.heap.size, 3, none⟩ = some (.int .i64 rb) := by simp [World.cell?, HR0.out]
  have r4 : w0.cell? ⟨W.heap.size, 4, none⟩ = some (.int .i64 rc) := by simp [World.cell?, HR0.out]
  go_wp2_with fail
  (with_reducible refine (HV.out _).mono ?_)
  rintro e w1 ⟨rfl, hb⟩
  have HB1 := Lib.hid (bt HB0.out hb)
  have HR1 := Lib.hid ((hb.block _ (lt_of_block HR0.out)).trans HR0.out)
  have HS1 := Lib.hid ((hb.block _ (lt_of_block HS0.out)).trans HS0.out)
  have HQ2 := Lib.hid ((hb.block _ (lt_of_block HQ1.out)).trans HQ1.out)
  clear hb q2 r0 r1 r2 r3 r4
  have q1 : w1.cell? ⟨qb, 1, none⟩ = some (.int .i64 t) := by simp [World.cell?, qC, HQ2.out]
  have q3 : w1.cell? ⟨qb, 3, none⟩ = some (.int .i64 l) := by simp [World.cell?, qC, HQ2.out]
  have q4 : w1.cell? ⟨qb, 4, none⟩ = some (.int .i64 h) := by simp [World.cell?, qC, HQ2.out]
  have q5 : w1.cell? ⟨qb, 5, none⟩ = some (.int .i64 y) := by simp [World.cell?, qC, HQ2.out]
  have r0 : w1.cell? ⟨W.heap.size, 0, none⟩ = some (.int .i64 rt) := by simp [World.cell?, HR1.out]
  have r1 : w1.cell? ⟨W.heap.size, 1, none⟩ = some (.int .i64 rk) := by simp [World.cell?, HR1.out]
  have r2 : w1.cell? ⟨W.heap.size, 2, none⟩ = some (.int .i64 ra) := by simp [World.cell?, HR1.out]
  have r3 : w1.cell? ⟨W.heap.size, 3, none⟩ = some (.int .i64 rb) := by simp [World.cell?, HR1.out]
  have r4 : w1.cell? ⟨W.heap.size, 4, none⟩ = some (.int .i64 rc) := by simp [World.cell?, HR1.out]
  go_wp2_with (refine wpList_store_row rfl 95 _ _ rfl (W.heap.size + 1) #[.int .i64 rt, .int .i64 rk, .int .i64 ra, .int .i64 rb, .int .i64 rc, .bool false, .bool false, .int .i64 0] rfl rfl 95 _ HS1.out (by kernel_rfl) rfl (by simp [Value.oneCell']) ?_)
  refine bodyPost_ret (v := .agg #[.int .i64 rt, .int .i64 rk, .int .i64 ra, .int .i64 rb, .int .i64 rc, .bool false, .bool false, .int .i64 0]) (results_cell_row rfl _ _ (W.heap.size + 1) 95 _ (0, 0) _ rfl (setRow_heap _ _ _ _ _ _ HS1.out) Tryz.underlying95 rfl (by kernel_rfl)) rfl ⟨rfl, below_row HB1.out (by omega) _⟩
set_option maxRecDepth 100000 in
set_option maxHeartbeats 4000000 in
theorem side_table (k t c l h y o rt rk ra rb rc v m : Int) {qb : Nat} (W : World) (HQ0 : W.heap[qb]? = some (.cells (qC ⟨k, t, c, l, h, y, o⟩) 28 (0, 0)))
    (HV0 : ∀ w, Calls Tryz.prog 70 #[.agg #[.int .i64 rt, .int .i64 rk, .int .i64 ra, .int .i64 rb, .int .i64 rc], .int .i64 c] w fun e w' => e = .returned (.int .i64 v) ∧ Below w.heap.size w w')
    (HY0 : ∀ w, Calls Tryz.prog 70 #[.agg #[.int .i64 rt, .int .i64 rk, .int .i64 ra, .int .i64 rb, .int .i64 rc], .int .i64 y] w fun e w' => e = .returned (.int .i64 m) ∧ Below w.heap.size w w') (h1 : ¬ rt = t) :
    Calls Tryz.prog 89 #[.agg #[.int .i64 rt, .int .i64 rk, .int .i64 ra, .int .i64 rb, .int .i64 rc], .bool true, ptr qb] W fun e w' => e = .returned (.agg #[.int .i64 rt, .int .i64 rk, .int .i64 ra, .int .i64 rb, .int .i64 rc, .bool true, .bool false, .int .i64 0]) ∧ Below W.heap.size W w' := by
  have HV := Lib.hid HV0
  have HY := Lib.hid HY0
  have HQ := Lib.hid HQ0
  have HG : Hid (True ∧ (¬ rt = t)) := Lib.hid ⟨trivial, h1⟩
  clear HV0 HY0 HQ0 h1
  go_enter Tryz.func89, Tryz.ntmps89
  go_upto_region 1 with fail
  generalize hw0 : (W.alloc (.cells #[.int .i64 rt, .int .i64 rk, .int .i64 ra, .int .i64 rb, .int .i64 rc] 57)).alloc _ = w0
  have HB0 : Hid (Below W.heap.size W w0) := Lib.hid (by rw [← hw0]; exact bt (ba W _) (ba _ _))
  have HR0 : Hid (w0.heap[W.heap.size]? = some (.cells #[.int .i64 rt, .int .i64 rk, .int .i64 ra, .int .i64 rb, .int .i64 rc] 57 (0, 0))) := Lib.hid (by
    rw [← hw0]
    exact ((ba (W.alloc _) _).block _ (by simp)).trans (heap_alloc_new W _))
  have HS0 : Hid (w0.heap[W.heap.size + 1]? = some (.cells #[.int .i64 0, .int .i64 0, .int .i64 0, .int .i64 0, .int .i64 0, .bool false, .bool false, .int .i64 0] 95 (0, 0))) := Lib.hid (by
    rw [← hw0]
    have h := heap_alloc_new (W.alloc (.cells #[.int .i64 rt, .int .i64 rk, .int .i64 ra, .int .i64 rb, .int .i64 rc] 57)) (.cells #[.int .i64 0, .int .i64 0, .int .i64 0, .int .i64 0, .int .i64 0, .bool false, .bool false, .int .i64 0] 95)
    rw [World.size_alloc] at h
    exact h)
  have HQ1 := Lib.hid ((HB0.out.block _ (lt_of_block HQ.out)).trans HQ.out)
  clear hw0
  have q2 : w0.cell? ⟨qb, 2, none⟩ = some (.int .i64 c) := by simp [World.cell?, qC, HQ1.out]
  have r0 : w0.cell? ⟨W.heap.size, 0, none⟩ = some (.int .i64 rt) := by simp [World.cell?, HR0.out]
  have r1 : w0.cell? ⟨W.heap.size, 1, none⟩ = some (.int .i64 rk) := by simp [World.cell?, HR0.out]
  have r2 : w0.cell? ⟨W.heap.size, 2, none⟩ = some (.int .i64 ra) := by simp [World.cell?, HR0.out]
  have r3 : w0.cell? ⟨W.heap.size, 3, none⟩ = some (.int .i64 rb) := by simp [World.cell?, HR0.out]
  have r4 : w0.cell? ⟨W.heap.size, 4, none⟩ = some (.int .i64 rc) := by simp [World.cell?, HR0.out]
  go_wp2_with fail
  (with_reducible refine (HV.out _).mono ?_)
  rintro e w1 ⟨rfl, hb⟩
  have HB1 := Lib.hid (bt HB0.out hb)
  have HR1 := Lib.hid ((hb.block _ (lt_of_block HR0.out)).trans HR0.out)
  have HS1 := Lib.hid ((hb.block _ (lt_of_block HS0.out)).trans HS0.out)
  have HQ2 := Lib.hid ((hb.block _ (lt_of_block HQ1.out)).trans HQ1.out)
  clear hb q2 r0 r1 r2 r3 r4
  have q1 : w1.cell? ⟨qb, 1, none⟩ = some (.int .i64 t) := by simp [World.cell?, qC, HQ2.out]
  have q3 : w1.cell? ⟨qb, 3, none⟩ = some (.int .i64 l) := by simp [World.cell?, qC, HQ2.out]
  have q4 : w1.cell? ⟨qb, 4, none⟩ = some (.int .i64 h) := by simp [World.cell?, qC, HQ2.out]
  have q5 : w1.cell? ⟨qb, 5, none⟩ = some (.int .i64 y) := by simp [World.cell?, qC, HQ2.out]
  have r0 : w1.cell? ⟨W.heap.size, 0, none⟩ = some (.int .i64 rt) := by simp [World.cell?, HR1.out]
  have r1 : w1.cell? ⟨W.heap.size, 1, none⟩ = some (.int .i64 rk) := by simp [World.cell?, HR1.out]
  have r2 : w1.cell? ⟨W.heap.size, 2, none⟩ = some (.int .i64 ra) := by simp [World.cell?, HR1.out]
  have r3 : w1.cell? ⟨W.heap.size, 3, none⟩ = some (.int .i64 rb) := by simp [World.cell?, HR1.out]
  have r4 : w1.cell? ⟨W.heap.size, 4, none⟩ = some (.int .i64 rc) := by simp [World.cell?, HR1.out]
  have d1 : (rt != t) = true := by simp [HG.out.2]
  go_wp2_with (refine wpList_store_row rfl 95 _ _ rfl (W.heap.size + 1) #[.int .i64 rt, .int .i64 rk, .int .i64 ra, .int .i64 rb, .int .i64 rc, .bool true, .bool false, .int .i64 0] rfl rfl 95 _ HS1.out (by kernel_rfl) rfl (by simp [Value.oneCell']) ?_)
  refine bodyPost_ret (v := .agg #[.int .i64 rt, .int .i64 rk, .int .i64 ra, .int .i64 rb, .int .i64 rc, .bool true, .bool false, .int .i64 0]) (results_cell_row rfl _ _ (W.heap.size + 1) 95 _ (0, 0) _ rfl (setRow_heap _ _ _ _ _ _ HS1.out) Tryz.underlying95 rfl (by kernel_rfl)) rfl ⟨rfl, below_row HB1.out (by omega) _⟩
set_option maxRecDepth 100000 in
set_option maxHeartbeats 4000000 in
theorem side_low (k t c l h y o rt rk ra rb rc v m : Int) {qb : Nat} (W : World) (HQ0 : W.heap[qb]? = some (.cells (qC ⟨k, t, c, l, h, y, o⟩) 28 (0, 0)))
    (HV0 : ∀ w, Calls Tryz.prog 70 #[.agg #[.int .i64 rt, .int .i64 rk, .int .i64 ra, .int .i64 rb, .int .i64 rc], .int .i64 c] w fun e w' => e = .returned (.int .i64 v) ∧ Below w.heap.size w w')
    (HY0 : ∀ w, Calls Tryz.prog 70 #[.agg #[.int .i64 rt, .int .i64 rk, .int .i64 ra, .int .i64 rb, .int .i64 rc], .int .i64 y] w fun e w' => e = .returned (.int .i64 m) ∧ Below w.heap.size w w') (h1 : rt = t) (h2 : v < l) :
    Calls Tryz.prog 89 #[.agg #[.int .i64 rt, .int .i64 rk, .int .i64 ra, .int .i64 rb, .int .i64 rc], .bool true, ptr qb] W fun e w' => e = .returned (.agg #[.int .i64 rt, .int .i64 rk, .int .i64 ra, .int .i64 rb, .int .i64 rc, .bool true, .bool false, .int .i64 0]) ∧ Below W.heap.size W w' := by
  have HV := Lib.hid HV0
  have HY := Lib.hid HY0
  have HQ := Lib.hid HQ0
  have HG : Hid (True ∧ (rt = t) ∧ (v < l)) := Lib.hid ⟨trivial, h1, h2⟩
  clear HV0 HY0 HQ0 h1 h2
  go_enter Tryz.func89, Tryz.ntmps89
  go_upto_region 1 with fail
  generalize hw0 : (W.alloc (.cells #[.int .i64 rt, .int .i64 rk, .int .i64 ra, .int .i64 rb, .int .i64 rc] 57)).alloc _ = w0
  have HB0 : Hid (Below W.heap.size W w0) := Lib.hid (by rw [← hw0]; exact bt (ba W _) (ba _ _))
  have HR0 : Hid (w0.heap[W.heap.size]? = some (.cells #[.int .i64 rt, .int .i64 rk, .int .i64 ra, .int .i64 rb, .int .i64 rc] 57 (0, 0))) := Lib.hid (by
    rw [← hw0]
    exact ((ba (W.alloc _) _).block _ (by simp)).trans (heap_alloc_new W _))
  have HS0 : Hid (w0.heap[W.heap.size + 1]? = some (.cells #[.int .i64 0, .int .i64 0, .int .i64 0, .int .i64 0, .int .i64 0, .bool false, .bool false, .int .i64 0] 95 (0, 0))) := Lib.hid (by
    rw [← hw0]
    have h := heap_alloc_new (W.alloc (.cells #[.int .i64 rt, .int .i64 rk, .int .i64 ra, .int .i64 rb, .int .i64 rc] 57)) (.cells #[.int .i64 0, .int .i64 0, .int .i64 0, .int .i64 0, .int .i64 0, .bool false, .bool false, .int .i64 0] 95)
    rw [World.size_alloc] at h
    exact h)
  have HQ1 := Lib.hid ((HB0.out.block _ (lt_of_block HQ.out)).trans HQ.out)
  clear hw0
  have q2 : w0.cell? ⟨qb, 2, none⟩ = some (.int .i64 c) := by simp [World.cell?, qC, HQ1.out]
  have r0 : w0.cell? ⟨W.heap.size, 0, none⟩ = some (.int .i64 rt) := by simp [World.cell?, HR0.out]
  have r1 : w0.cell? ⟨W.heap.size, 1, none⟩ = some (.int .i64 rk) := by simp [World.cell?, HR0.out]
  have r2 : w0.cell? ⟨W.heap.size, 2, none⟩ = some (.int .i64 ra) := by simp [World.cell?, HR0.out]
  have r3 : w0.cell? ⟨W.heap.size, 3, none⟩ = some (.int .i64 rb) := by simp [World.cell?, HR0.out]
  have r4 : w0.cell? ⟨W.heap.size, 4, none⟩ = some (.int .i64 rc) := by simp [World.cell?, HR0.out]
  go_wp2_with fail
  (with_reducible refine (HV.out _).mono ?_)
  rintro e w1 ⟨rfl, hb⟩
  have HB1 := Lib.hid (bt HB0.out hb)
  have HR1 := Lib.hid ((hb.block _ (lt_of_block HR0.out)).trans HR0.out)
  have HS1 := Lib.hid ((hb.block _ (lt_of_block HS0.out)).trans HS0.out)
  have HQ2 := Lib.hid ((hb.block _ (lt_of_block HQ1.out)).trans HQ1.out)
  clear hb q2 r0 r1 r2 r3 r4
  have q1 : w1.cell? ⟨qb, 1, none⟩ = some (.int .i64 t) := by simp [World.cell?, qC, HQ2.out]
  have q3 : w1.cell? ⟨qb, 3, none⟩ = some (.int .i64 l) := by simp [World.cell?, qC, HQ2.out]
  have q4 : w1.cell? ⟨qb, 4, none⟩ = some (.int .i64 h) := by simp [World.cell?, qC, HQ2.out]
  have q5 : w1.cell? ⟨qb, 5, none⟩ = some (.int .i64 y) := by simp [World.cell?, qC, HQ2.out]
  have r0 : w1.cell? ⟨W.heap.size, 0, none⟩ = some (.int .i64 rt) := by simp [World.cell?, HR1.out]
  have r1 : w1.cell? ⟨W.heap.size, 1, none⟩ = some (.int .i64 rk) := by simp [World.cell?, HR1.out]
  have r2 : w1.cell? ⟨W.heap.size, 2, none⟩ = some (.int .i64 ra) := by simp [World.cell?, HR1.out]
  have r3 : w1.cell? ⟨W.heap.size, 3, none⟩ = some (.int .i64 rb) := by simp [World.cell?, HR1.out]
  have r4 : w1.cell? ⟨W.heap.size, 4, none⟩ = some (.int .i64 rc) := by simp [World.cell?, HR1.out]
  have d1 : (rt != t) = false := by simp [HG.out.2.1]
  have d2 : decide (v < l) = true := decide_eq_true (by have := HG.out; omega)
  go_wp2_with (refine wpList_store_row rfl 95 _ _ rfl (W.heap.size + 1) #[.int .i64 rt, .int .i64 rk, .int .i64 ra, .int .i64 rb, .int .i64 rc, .bool true, .bool false, .int .i64 0] rfl rfl 95 _ HS1.out (by kernel_rfl) rfl (by simp [Value.oneCell']) ?_)
  refine bodyPost_ret (v := .agg #[.int .i64 rt, .int .i64 rk, .int .i64 ra, .int .i64 rb, .int .i64 rc, .bool true, .bool false, .int .i64 0]) (results_cell_row rfl _ _ (W.heap.size + 1) 95 _ (0, 0) _ rfl (setRow_heap _ _ _ _ _ _ HS1.out) Tryz.underlying95 rfl (by kernel_rfl)) rfl ⟨rfl, below_row HB1.out (by omega) _⟩
set_option maxRecDepth 100000 in
set_option maxHeartbeats 4000000 in
theorem side_high (k t c l h y o rt rk ra rb rc v m : Int) {qb : Nat} (W : World) (HQ0 : W.heap[qb]? = some (.cells (qC ⟨k, t, c, l, h, y, o⟩) 28 (0, 0)))
    (HV0 : ∀ w, Calls Tryz.prog 70 #[.agg #[.int .i64 rt, .int .i64 rk, .int .i64 ra, .int .i64 rb, .int .i64 rc], .int .i64 c] w fun e w' => e = .returned (.int .i64 v) ∧ Below w.heap.size w w')
    (HY0 : ∀ w, Calls Tryz.prog 70 #[.agg #[.int .i64 rt, .int .i64 rk, .int .i64 ra, .int .i64 rb, .int .i64 rc], .int .i64 y] w fun e w' => e = .returned (.int .i64 m) ∧ Below w.heap.size w w') (h1 : rt = t) (h2 : ¬ v < l) (h3 : h < v) :
    Calls Tryz.prog 89 #[.agg #[.int .i64 rt, .int .i64 rk, .int .i64 ra, .int .i64 rb, .int .i64 rc], .bool true, ptr qb] W fun e w' => e = .returned (.agg #[.int .i64 rt, .int .i64 rk, .int .i64 ra, .int .i64 rb, .int .i64 rc, .bool true, .bool false, .int .i64 0]) ∧ Below W.heap.size W w' := by
  have HV := Lib.hid HV0
  have HY := Lib.hid HY0
  have HQ := Lib.hid HQ0
  have HG : Hid (True ∧ (rt = t) ∧ (¬ v < l) ∧ (h < v)) := Lib.hid ⟨trivial, h1, h2, h3⟩
  clear HV0 HY0 HQ0 h1 h2 h3
  go_enter Tryz.func89, Tryz.ntmps89
  go_upto_region 1 with fail
  generalize hw0 : (W.alloc (.cells #[.int .i64 rt, .int .i64 rk, .int .i64 ra, .int .i64 rb, .int .i64 rc] 57)).alloc _ = w0
  have HB0 : Hid (Below W.heap.size W w0) := Lib.hid (by rw [← hw0]; exact bt (ba W _) (ba _ _))
  have HR0 : Hid (w0.heap[W.heap.size]? = some (.cells #[.int .i64 rt, .int .i64 rk, .int .i64 ra, .int .i64 rb, .int .i64 rc] 57 (0, 0))) := Lib.hid (by
    rw [← hw0]
    exact ((ba (W.alloc _) _).block _ (by simp)).trans (heap_alloc_new W _))
  have HS0 : Hid (w0.heap[W.heap.size + 1]? = some (.cells #[.int .i64 0, .int .i64 0, .int .i64 0, .int .i64 0, .int .i64 0, .bool false, .bool false, .int .i64 0] 95 (0, 0))) := Lib.hid (by
    rw [← hw0]
    have h := heap_alloc_new (W.alloc (.cells #[.int .i64 rt, .int .i64 rk, .int .i64 ra, .int .i64 rb, .int .i64 rc] 57)) (.cells #[.int .i64 0, .int .i64 0, .int .i64 0, .int .i64 0, .int .i64 0, .bool false, .bool false, .int .i64 0] 95)
    rw [World.size_alloc] at h
    exact h)
  have HQ1 := Lib.hid ((HB0.out.block _ (lt_of_block HQ.out)).trans HQ.out)
  clear hw0
  have q2 : w0.cell? ⟨qb, 2, none⟩ = some (.int .i64 c) := by simp [World.cell?, qC, HQ1.out]
  have r0 : w0.cell? ⟨W.heap.size, 0, none⟩ = some (.int .i64 rt) := by simp [World.cell?, HR0.out]
  have r1 : w0.cell? ⟨W.heap.size, 1, none⟩ = some (.int .i64 rk) := by simp [World.cell?, HR0.out]
  have r2 : w0.cell? ⟨W.heap.size, 2, none⟩ = some (.int .i64 ra) := by simp [World.cell?, HR0.out]
  have r3 : w0.cell? ⟨W.heap.size, 3, none⟩ = some (.int .i64 rb) := by simp [World.cell?, HR0.out]
  have r4 : w0.cell? ⟨W.heap.size, 4, none⟩ = some (.int .i64 rc) := by simp [World.cell?, HR0.out]
  go_wp2_with fail
  (with_reducible refine (HV.out _).mono ?_)
  rintro e w1 ⟨rfl, hb⟩
  have HB1 := Lib.hid (bt HB0.out hb)
  have HR1 := Lib.hid ((hb.block _ (lt_of_block HR0.out)).trans HR0.out)
  have HS1 := Lib.hid ((hb.block _ (lt_of_block HS0.out)).trans HS0.out)
  have HQ2 := Lib.hid ((hb.block _ (lt_of_block HQ1.out)).trans HQ1.out)
  clear hb q2 r0 r1 r2 r3 r4
  have q1 : w1.cell? ⟨qb, 1, none⟩ = some (.int .i64 t) := by simp [World.cell?, qC, HQ2.out]
  have q3 : w1.cell? ⟨qb, 3, none⟩ = some (.int .i64 l) := by simp [World.cell?, qC, HQ2.out]
  have q4 : w1.cell? ⟨qb, 4, none⟩ = some (.int .i64 h) := by simp [World.cell?, qC, HQ2.out]
  have q5 : w1.cell? ⟨qb, 5, none⟩ = some (.int .i64 y) := by simp [World.cell?, qC, HQ2.out]
  have r0 : w1.cell? ⟨W.heap.size, 0, none⟩ = some (.int .i64 rt) := by simp [World.cell?, HR1.out]
  have r1 : w1.cell? ⟨W.heap.size, 1, none⟩ = some (.int .i64 rk) := by simp [World.cell?, HR1.out]
  have r2 : w1.cell? ⟨W.heap.size, 2, none⟩ = some (.int .i64 ra) := by simp [World.cell?, HR1.out]
  have r3 : w1.cell? ⟨W.heap.size, 3, none⟩ = some (.int .i64 rb) := by simp [World.cell?, HR1.out]
  have r4 : w1.cell? ⟨W.heap.size, 4, none⟩ = some (.int .i64 rc) := by simp [World.cell?, HR1.out]
  have d1 : (rt != t) = false := by simp [HG.out.2.1]
  have d2 : decide (v < l) = false := decide_eq_false (by have := HG.out; omega)
  have d3 : decide (h < v) = true := decide_eq_true (by have := HG.out; omega)
  go_wp2_with (refine wpList_store_row rfl 95 _ _ rfl (W.heap.size + 1) #[.int .i64 rt, .int .i64 rk, .int .i64 ra, .int .i64 rb, .int .i64 rc, .bool true, .bool false, .int .i64 0] rfl rfl 95 _ HS1.out (by kernel_rfl) rfl (by simp [Value.oneCell']) ?_)
  refine bodyPost_ret (v := .agg #[.int .i64 rt, .int .i64 rk, .int .i64 ra, .int .i64 rb, .int .i64 rc, .bool true, .bool false, .int .i64 0]) (results_cell_row rfl _ _ (W.heap.size + 1) 95 _ (0, 0) _ rfl (setRow_heap _ _ _ _ _ _ HS1.out) Tryz.underlying95 rfl (by kernel_rfl)) rfl ⟨rfl, below_row HB1.out (by omega) _⟩
set_option maxRecDepth 100000 in
set_option maxHeartbeats 4000000 in
theorem side_in (k t c l h y o rt rk ra rb rc v m : Int) {qb : Nat} (W : World) (HQ0 : W.heap[qb]? = some (.cells (qC ⟨k, t, c, l, h, y, o⟩) 28 (0, 0)))
    (HV0 : ∀ w, Calls Tryz.prog 70 #[.agg #[.int .i64 rt, .int .i64 rk, .int .i64 ra, .int .i64 rb, .int .i64 rc], .int .i64 c] w fun e w' => e = .returned (.int .i64 v) ∧ Below w.heap.size w w')
    (HY0 : ∀ w, Calls Tryz.prog 70 #[.agg #[.int .i64 rt, .int .i64 rk, .int .i64 ra, .int .i64 rb, .int .i64 rc], .int .i64 y] w fun e w' => e = .returned (.int .i64 m) ∧ Below w.heap.size w w') (h1 : rt = t) (h2 : ¬ v < l) (h3 : ¬ h < v) :
    Calls Tryz.prog 89 #[.agg #[.int .i64 rt, .int .i64 rk, .int .i64 ra, .int .i64 rb, .int .i64 rc], .bool true, ptr qb] W fun e w' => e = .returned (.agg #[.int .i64 rt, .int .i64 rk, .int .i64 ra, .int .i64 rb, .int .i64 rc, .bool true, .bool true, .int .i64 m]) ∧ Below W.heap.size W w' := by
  have HV := Lib.hid HV0
  have HY := Lib.hid HY0
  have HQ := Lib.hid HQ0
  have HG : Hid (True ∧ (rt = t) ∧ (¬ v < l) ∧ (¬ h < v)) := Lib.hid ⟨trivial, h1, h2, h3⟩
  clear HV0 HY0 HQ0 h1 h2 h3
  go_enter Tryz.func89, Tryz.ntmps89
  go_upto_region 1 with fail
  generalize hw0 : (W.alloc (.cells #[.int .i64 rt, .int .i64 rk, .int .i64 ra, .int .i64 rb, .int .i64 rc] 57)).alloc _ = w0
  have HB0 : Hid (Below W.heap.size W w0) := Lib.hid (by rw [← hw0]; exact bt (ba W _) (ba _ _))
  have HR0 : Hid (w0.heap[W.heap.size]? = some (.cells #[.int .i64 rt, .int .i64 rk, .int .i64 ra, .int .i64 rb, .int .i64 rc] 57 (0, 0))) := Lib.hid (by
    rw [← hw0]
    exact ((ba (W.alloc _) _).block _ (by simp)).trans (heap_alloc_new W _))
  have HS0 : Hid (w0.heap[W.heap.size + 1]? = some (.cells #[.int .i64 0, .int .i64 0, .int .i64 0, .int .i64 0, .int .i64 0, .bool false, .bool false, .int .i64 0] 95 (0, 0))) := Lib.hid (by
    rw [← hw0]
    have h := heap_alloc_new (W.alloc (.cells #[.int .i64 rt, .int .i64 rk, .int .i64 ra, .int .i64 rb, .int .i64 rc] 57)) (.cells #[.int .i64 0, .int .i64 0, .int .i64 0, .int .i64 0, .int .i64 0, .bool false, .bool false, .int .i64 0] 95)
    rw [World.size_alloc] at h
    exact h)
  have HQ1 := Lib.hid ((HB0.out.block _ (lt_of_block HQ.out)).trans HQ.out)
  clear hw0
  have q2 : w0.cell? ⟨qb, 2, none⟩ = some (.int .i64 c) := by simp [World.cell?, qC, HQ1.out]
  have r0 : w0.cell? ⟨W.heap.size, 0, none⟩ = some (.int .i64 rt) := by simp [World.cell?, HR0.out]
  have r1 : w0.cell? ⟨W.heap.size, 1, none⟩ = some (.int .i64 rk) := by simp [World.cell?, HR0.out]
  have r2 : w0.cell? ⟨W.heap.size, 2, none⟩ = some (.int .i64 ra) := by simp [World.cell?, HR0.out]
  have r3 : w0.cell? ⟨W.heap.size, 3, none⟩ = some (.int .i64 rb) := by simp [World.cell?, HR0.out]
  have r4 : w0.cell? ⟨W.heap.size, 4, none⟩ = some (.int .i64 rc) := by simp [World.cell?, HR0.out]
  go_wp2_with fail
  (with_reducible refine (HV.out _).mono ?_)
  rintro e w1 ⟨rfl, hb⟩
  have HB1 := Lib.hid (bt HB0.out hb)
  have HR1 := Lib.hid ((hb.block _ (lt_of_block HR0.out)).trans HR0.out)
  have HS1 := Lib.hid ((hb.block _ (lt_of_block HS0.out)).trans HS0.out)
  have HQ2 := Lib.hid ((hb.block _ (lt_of_block HQ1.out)).trans HQ1.out)
  clear hb q2 r0 r1 r2 r3 r4
  have q1 : w1.cell? ⟨qb, 1, none⟩ = some (.int .i64 t) := by simp [World.cell?, qC, HQ2.out]
  have q3 : w1.cell? ⟨qb, 3, none⟩ = some (.int .i64 l) := by simp [World.cell?, qC, HQ2.out]
  have q4 : w1.cell? ⟨qb, 4, none⟩ = some (.int .i64 h) := by simp [World.cell?, qC, HQ2.out]
  have q5 : w1.cell? ⟨qb, 5, none⟩ = some (.int .i64 y) := by simp [World.cell?, qC, HQ2.out]
  have r0 : w1.cell? ⟨W.heap.size, 0, none⟩ = some (.int .i64 rt) := by simp [World.cell?, HR1.out]
  have r1 : w1.cell? ⟨W.heap.size, 1, none⟩ = some (.int .i64 rk) := by simp [World.cell?, HR1.out]
  have r2 : w1.cell? ⟨W.heap.size, 2, none⟩ = some (.int .i64 ra) := by simp [World.cell?, HR1.out]
  have r3 : w1.cell? ⟨W.heap.size, 3, none⟩ = some (.int .i64 rb) := by simp [World.cell?, HR1.out]
  have r4 : w1.cell? ⟨W.heap.size, 4, none⟩ = some (.int .i64 rc) := by simp [World.cell?, HR1.out]
  have d1 : (rt != t) = false := by simp [HG.out.2.1]
  have d2 : decide (v < l) = false := decide_eq_false (by have := HG.out; omega)
  have d3 : decide (h < v) = false := decide_eq_false (by have := HG.out; omega)
  go_upto_region 4 with fail
  clear d1 d2 d3 q1 q3 q4 q5 r0 r1 r2 r3 r4 HG
  have HGr : Hid (∀ w0, BW w1 w0 → ∀ d' os, (grow (redrawn w0 d') os).heap[W.heap.size]? = some (.cells #[.int .i64 rt, .int .i64 rk, .int .i64 ra, .int .i64 rb, .int .i64 rc] 57 (0, 0))) := Lib.hid (fun w0 h d' os => ((show Below w1.heap.size w1 (grow (redrawn w0 d') os) from bt h (below_regrown w0 d' os)).block _ (lt_of_block HR1.out)).trans HR1.out)
  have HGq : Hid (∀ w0, BW w1 w0 → ∀ d' os, (grow (redrawn w0 d') os).heap[qb]? = some (.cells (qC ⟨k, t, c, l, h, y, o⟩) 28 (0, 0))) := Lib.hid (fun w0 h d' os => ((show Below w1.heap.size w1 (grow (redrawn w0 d') os) from bt h (below_regrown w0 d' os)).block _ (lt_of_block HQ2.out)).trans HQ2.out)
  have g5 : ∀ w0, BW w1 w0 → ∀ d' os, (grow (redrawn w0 d') os).cell? ⟨qb, 5, none⟩ = some (.int .i64 y) := fun w0 h d' os => by simp [World.cell?, qC, HGq.out w0 h d' os]
  have r0 : ∀ w0, BW w1 w0 → ∀ d' os, (grow (redrawn w0 d') os).cell? ⟨W.heap.size, 0, none⟩ = some (.int .i64 rt) := fun w0 h d' os => by simp [World.cell?, HGr.out w0 h d' os]
  have r1 : ∀ w0, BW w1 w0 → ∀ d' os, (grow (redrawn w0 d') os).cell? ⟨W.heap.size, 1, none⟩ = some (.int .i64 rk) := fun w0 h d' os => by simp [World.cell?, HGr.out w0 h d' os]
  have r2 : ∀ w0, BW w1 w0 → ∀ d' os, (grow (redrawn w0 d') os).cell? ⟨W.heap.size, 2, none⟩ = some (.int .i64 ra) := fun w0 h d' os => by simp [World.cell?, HGr.out w0 h d' os]
  have r3 : ∀ w0, BW w1 w0 → ∀ d' os, (grow (redrawn w0 d') os).cell? ⟨W.heap.size, 3, none⟩ = some (.int .i64 rb) := fun w0 h d' os => by simp [World.cell?, HGr.out w0 h d' os]
  have r4 : ∀ w0, BW w1 w0 → ∀ d' os, (grow (redrawn w0 d') os).cell? ⟨W.heap.size, 4, none⟩ = some (.int .i64 rc) := fun w0 h d' os => by simp [World.cell?, HGr.out w0 h d' os]
  refine wp_region_calm 6 99 [0, 1, 2, 3, 4, 5] (by kernel_rfl) (by kernel_rfl) (by intro oz h; simp at h) (by intro oz h; simp at h) (by rfl) ?_
  simp only [List.take_succ_cons, List.take_zero]
  iterate 4
    apply wpCalm_want
    · rfl
    · exact bc_refl
    · exact ⟨_, Below.refl _ _⟩
    · intro w00 hC0 K hK
      go_big_quiet_op
      exact hK
  apply wpCalm_want
  · rfl
  · exact bc_refl
  · exact ⟨_, Below.refl _ _⟩
  · intro w00 hC0 K hK
    go_big_quiet_op
    apply Exists.intro
    refine ⟨fun p => ?_, ?_⟩
    · exact Calls.regrown_of (HY.out _)
    · exact hK
  apply wpCalm_want
  · rfl
  · exact bc_refl
  · exact ⟨_, Below.refl _ _⟩
  · intro w00 hC0 K hK
    go_big_quiet_op
    exact hK
  refine wpCalm_nil ?_
  intro w2 hbq
  try simp only [List.drop_succ_cons, List.drop_zero]
  have HB2 := Lib.hid (bt HB1.out hbq)
  have HS2 := Lib.hid ((hbq.block _ (lt_of_block HS1.out)).trans HS1.out)
  clear g5 r0 r1 r2 r3 r4 hbq
  go_wp2_with (refine wpList_store_row rfl 95 _ _ rfl (W.heap.size + 1) #[.int .i64 rt, .int .i64 rk, .int .i64 ra, .int .i64 rb, .int .i64 rc, .bool true, .bool true, .int .i64 m] rfl rfl 95 _ HS2.out (by kernel_rfl) rfl (by simp [Value.oneCell']) ?_)
  refine bodyPost_ret (v := .agg #[.int .i64 rt, .int .i64 rk, .int .i64 ra, .int .i64 rb, .int .i64 rc, .bool true, .bool true, .int .i64 m]) (results_cell_row rfl _ _ (W.heap.size + 1) 95 _ (0, 0) _ rfl (setRow_heap _ _ _ _ _ _ HS2.out) Tryz.underlying95 rfl (by kernel_rfl)) rfl ⟨rfl, below_row HB2.out (by omega) _⟩
end Go.Proofs.YtgbnjjgnihjfgaaGreat
end

section
set_option linter.unusedVariables false
set_option linter.unusedSimpArgs false
namespace Go.Proofs.YtgbnjjgnihjfgaaGreat
open Go.RowKit Go.Sort Go.ChangeMaps Go.MapKept

/-- The 33 cells of an effect. -/
def effC (q : MQ) (c : MCh) : Array Value := #[.int .i64 q.kind, .int .i64 q.table, .int .i64 q.column, .int .i64 q.low, .int .i64 q.high, .int .i64 q.by_, .int .i64 q.other,
  .int .i64 c.t, .int .i64 c.k, .bool c.had, .int .i64 c.o.a, .int .i64 c.o.b, .int .i64 c.o.c, .bool c.has, .int .i64 c.n.a, .int .i64 c.n.b, .int .i64 c.n.c,
  .int .i64 (befR c).t, .int .i64 (befR c).k, .int .i64 (befR c).v.a, .int .i64 (befR c).v.b, .int .i64 (befR c).v.c, .bool c.had, .bool (inB q c), .int .i64 (msB q c),
  .int .i64 (aftR c).t, .int .i64 (aftR c).k, .int .i64 (aftR c).v.a, .int .i64 (aftR c).v.b, .int .i64 (aftR c).v.c, .bool c.has, .bool (inA q c), .int .i64 (msA q c)]
def EffAt (w : World) (b : Nat) (q : MQ) (c : MCh) : Prop := w.heap[b]? = some (.cells (effC q c) 97 (0, 0))
theorem EffAt.below {w w' : World} {b : Nat} {q : MQ} {c : MCh} (h : EffAt w b q c) (k : Below w.heap.size w w') : EffAt w' b q c := (k.block _ (lt_of_block h)).trans h
theorem EffAt.new (w : World) (q : MQ) (c : MCh) : EffAt (w.alloc (.cells (effC q c) 97)) w.heap.size q c := heap_alloc_new w _
theorem EffAt.cell {w : World} {b : Nat} {q : MQ} {c : MCh} (h : EffAt w b q c) (j : Nat) : w.cell? ⟨b, j, none⟩ = (effC q c)[j]? := by
  unfold EffAt at h
  simp [World.cell?, h]
set_option maxRecDepth 100000 in
set_option maxHeartbeats 4000000 in
theorem reaches_any (q : MQ) (c : MCh) (W : World) : Calls Tryz.prog 83 #[.agg (effC q c)] W fun e w' => e = .returned (.bool (inB q c || inA q c)) ∧ Below W.heap.size W w' := by
  have HE : Hid (EffAt (W.alloc (.cells (effC q c) 97)) W.heap.size q c) := Lib.hid (EffAt.new W q c)
  have HB : Hid (Below W.heap.size W (W.alloc (.cells (effC q c) 97))) := Lib.hid (ba W _)
  obtain ⟨x, Hx⟩ : ∃ x, Hid (inB q c = x) := ⟨_, Lib.hid rfl⟩
  obtain ⟨y, Hy⟩ : ∃ y, Hid (inA q c = y) := ⟨_, Lib.hid rfl⟩
  have c1 : (W.alloc (.cells (effC q c) 97)).cell? ⟨W.heap.size, 23, none⟩ = some (.bool x) := by rw [HE.out.cell]; rw [← Hx.out]; rfl
  have c2 : (W.alloc (.cells (effC q c) 97)).cell? ⟨W.heap.size, 31, none⟩ = some (.bool y) := by rw [HE.out.cell]; rw [← Hy.out]; rfl
  rw [Hx.out, Hy.out]
  clear Hx Hy
  generalize effC q c = E at *
  go_enter Tryz.func83, Tryz.ntmps83
  go_upto_region 1 with fail
  generalize W.alloc (.cells E 97) = w0 at *
  cases x
  · go_wp2_with fail
    go_ret
    exact ⟨rfl, HB.out⟩
  · go_wp2_with fail
    go_ret
    exact ⟨rfl, HB.out⟩
set_option maxRecDepth 100000 in
set_option maxHeartbeats 4000000 in
theorem crosses_any (q : MQ) (c : MCh) (W : World) : Calls Tryz.prog 84 #[.agg (effC q c)] W fun e w' => e = .returned (.bool (inB q c != inA q c)) ∧ Below W.heap.size W w' := by
  have HE : Hid (EffAt (W.alloc (.cells (effC q c) 97)) W.heap.size q c) := Lib.hid (EffAt.new W q c)
  have HB : Hid (Below W.heap.size W (W.alloc (.cells (effC q c) 97))) := Lib.hid (ba W _)
  obtain ⟨x, Hx⟩ : ∃ x, Hid (inB q c = x) := ⟨_, Lib.hid rfl⟩
  obtain ⟨y, Hy⟩ : ∃ y, Hid (inA q c = y) := ⟨_, Lib.hid rfl⟩
  have c1 : (W.alloc (.cells (effC q c) 97)).cell? ⟨W.heap.size, 23, none⟩ = some (.bool x) := by rw [HE.out.cell]; rw [← Hx.out]; rfl
  have c2 : (W.alloc (.cells (effC q c) 97)).cell? ⟨W.heap.size, 31, none⟩ = some (.bool y) := by rw [HE.out.cell]; rw [← Hy.out]; rfl
  rw [Hx.out, Hy.out]
  clear Hx Hy
  generalize effC q c = E at *
  go_enter Tryz.func84, Tryz.ntmps84
  go_upto_region 1 with fail
  generalize W.alloc (.cells E 97) = w0 at *
  cases x <;> cases y
  all_goals
    go_wp2_with fail
    go_ret
    exact ⟨rfl, HB.out⟩
set_option maxRecDepth 100000 in
set_option maxHeartbeats 4000000 in
theorem weighs_any (q : MQ) (c : MCh) (W : World) : Calls Tryz.prog 85 #[.agg (effC q c)] W fun e w' => e = .returned (.bool (msB q c != msA q c)) ∧ Below W.heap.size W w' := by
  have HE : Hid (EffAt (W.alloc (.cells (effC q c) 97)) W.heap.size q c) := Lib.hid (EffAt.new W q c)
  have HB : Hid (Below W.heap.size W (W.alloc (.cells (effC q c) 97))) := Lib.hid (ba W _)
  obtain ⟨x, Hx⟩ : ∃ x, Hid (msB q c = x) := ⟨_, Lib.hid rfl⟩
  obtain ⟨y, Hy⟩ : ∃ y, Hid (msA q c = y) := ⟨_, Lib.hid rfl⟩
  have c1 : (W.alloc (.cells (effC q c) 97)).cell? ⟨W.heap.size, 24, none⟩ = some (.int .i64 x) := by rw [HE.out.cell]; rw [← Hx.out]; rfl
  have c2 : (W.alloc (.cells (effC q c) 97)).cell? ⟨W.heap.size, 32, none⟩ = some (.int .i64 y) := by rw [HE.out.cell]; rw [← Hy.out]; rfl
  rw [Hx.out, Hy.out]
  clear Hx Hy
  generalize effC q c = E at *
  go_enter Tryz.func85, Tryz.ntmps85
  go_upto_region 1 with fail
  generalize W.alloc (.cells E 97) = w0 at *
  obtain ⟨d, Hd⟩ : ∃ d, Hid ((x != y) = d) := ⟨_, Lib.hid rfl⟩
  have hd := Hd.out
  go_wp2_with fail
  go_ret
  exact ⟨by first | rfl | (rw [hd]; rfl), HB.out⟩
end Go.Proofs.YtgbnjjgnihjfgaaGreat
end

section
set_option linter.unusedVariables false
set_option linter.unusedSimpArgs false
namespace Go.Proofs.YtgbnjjgnihjfgaaGreat
open Go.RowKit Go.Sort Go.ChangeMaps Go.MapKept

def touchersL : List (Int × Value) := [(7, fnV 88 #[]), (6, fnV 87 #[]), (5, fnV 86 #[]), (4, fnV 85 #[]), (3, fnV 84 #[]), (2, fnV 83 #[]), (1, fnV 83 #[])]
set_option maxRecDepth 100000 in
set_option maxHeartbeats 4000000 in
theorem touchers_any (W : World) : Calls Tryz.prog 43 #[] W fun e w' => ∃ mb, e = .returned (.map (some mb)) ∧ GMap w' mb touchersL ∧ Below W.heap.size W w' := by
  have hmk := fun w => run_makeMap (P := Tryz.prog) 92 w
  go_enter Tryz.func43, Tryz.ntmps43
  have H0 := Lib.hid (gMap_new W)
  have K0 : Hid (Kept (fun k => k = W.heap.size) W (W.alloc (.map #[] 0))) := Lib.hid (Kept.of_below (ba W _))
  go_wp2_with (first
    | (refine wpList_insG rfl 92 _ Tryz.underlying92 _ _ _ rfl W.heap.size _ 1 _ rfl rfl rfl H0.out (by unfold I64; omega) (by rfl) ?_; intro w1 h1 t1; have H1 := Lib.hid h1; have K1 : Hid (Kept (fun k => k = W.heap.size) W w1) := Lib.hid (K0.out.trans t1.kept (fun _ _ f => f)); clear h1 t1 H0 K0)
    | (refine wpList_insG rfl 92 _ Tryz.underlying92 _ _ _ rfl W.heap.size _ 2 _ rfl rfl rfl H1.out (by unfold I64; omega) (by rfl) ?_; intro w2 h2 t2; have H2 := Lib.hid h2; have K2 : Hid (Kept (fun k => k = W.heap.size) W w2) := Lib.hid (K1.out.trans t2.kept (fun _ _ f => f)); clear h2 t2 H1 K1)
    | (refine wpList_insG rfl 92 _ Tryz.underlying92 _ _ _ rfl W.heap.size _ 3 _ rfl rfl rfl H2.out (by unfold I64; omega) (by rfl) ?_; intro w3 h3 t3; have H3 := Lib.hid h3; have K3 : Hid (Kept (fun k => k = W.heap.size) W w3) := Lib.hid (K2.out.trans t3.kept (fun _ _ f => f)); clear h3 t3 H2 K2)
    | (refine wpList_insG rfl 92 _ Tryz.underlying92 _ _ _ rfl W.heap.size _ 4 _ rfl rfl rfl H3.out (by unfold I64; omega) (by rfl) ?_; intro w4 h4 t4; have H4 := Lib.hid h4; have K4 : Hid (Kept (fun k => k = W.heap.size) W w4) := Lib.hid (K3.out.trans t4.kept (fun _ _ f => f)); clear h4 t4 H3 K3)
    | (refine wpList_insG rfl 92 _ Tryz.underlying92 _ _ _ rfl W.heap.size _ 5 _ rfl rfl rfl H4.out (by unfold I64; omega) (by rfl) ?_; intro w5 h5 t5; have H5 := Lib.hid h5; have K5 : Hid (Kept (fun k => k = W.heap.size) W w5) := Lib.hid (K4.out.trans t5.kept (fun _ _ f => f)); clear h5 t5 H4 K4)
    | (refine wpList_insG rfl 92 _ Tryz.underlying92 _ _ _ rfl W.heap.size _ 6 _ rfl rfl rfl H5.out (by unfold I64; omega) (by rfl) ?_; intro w6 h6 t6; have H6 := Lib.hid h6; have K6 : Hid (Kept (fun k => k = W.heap.size) W w6) := Lib.hid (K5.out.trans t6.kept (fun _ _ f => f)); clear h6 t6 H5 K5)
    | (refine wpList_insG rfl 92 _ Tryz.underlying92 _ _ _ rfl W.heap.size _ 7 _ rfl rfl rfl H6.out (by unfold I64; omega) (by rfl) ?_; intro w7 h7 t7; have H7 := Lib.hid h7; have K7 : Hid (Kept (fun k => k = W.heap.size) W w7) := Lib.hid (K6.out.trans t7.kept (fun _ _ f => f)); clear h7 t7 H6 K6))
  go_ret
  exact ⟨_, rfl, H7.out, K7.out.below (Nat.le_refl _) (fun k e => by omega)⟩
def patchersL : List (Int × Value) := [(7, fnV 123 #[]), (6, fnV 121 #[]), (5, fnV 119 #[]), (4, fnV 118 #[]), (3, fnV 117 #[]), (2, fnV 116 #[]), (1, fnV 116 #[])]
set_option maxRecDepth 100000 in
set_option maxHeartbeats 4000000 in
theorem patchers_any (W : World) : Calls Tryz.prog 91 #[] W fun e w' => ∃ mb, e = .returned (.map (some mb)) ∧ GMap w' mb patchersL ∧ Below W.heap.size W w' := by
  have hmk := fun w => run_makeMap (P := Tryz.prog) 137 w
  go_enter Tryz.func91, Tryz.ntmps91
  have H0 := Lib.hid (gMap_new W)
  have K0 : Hid (Kept (fun k => k = W.heap.size) W (W.alloc (.map #[] 0))) := Lib.hid (Kept.of_below (ba W _))
  go_wp2_with (first
    | (refine wpList_insG rfl 137 _ Tryz.underlying137 _ _ _ rfl W.heap.size _ 1 _ rfl rfl rfl H0.out (by unfold I64; omega) (by rfl) ?_; intro w1 h1 t1; have H1 := Lib.hid h1; have K1 : Hid (Kept (fun k => k = W.heap.size) W w1) := Lib.hid (K0.out.trans t1.kept (fun _ _ f => f)); clear h1 t1 H0 K0)
    | (refine wpList_insG rfl 137 _ Tryz.underlying137 _ _ _ rfl W.heap.size _ 2 _ rfl rfl rfl H1.out (by unfold I64; omega) (by rfl) ?_; intro w2 h2 t2; have H2 := Lib.hid h2; have K2 : Hid (Kept (fun k => k = W.heap.size) W w2) := Lib.hid (K1.out.trans t2.kept (fun _ _ f => f)); clear h2 t2 H1 K1)
    | (refine wpList_insG rfl 137 _ Tryz.underlying137 _ _ _ rfl W.heap.size _ 3 _ rfl rfl rfl H2.out (by unfold I64; omega) (by rfl) ?_; intro w3 h3 t3; have H3 := Lib.hid h3; have K3 : Hid (Kept (fun k => k = W.heap.size) W w3) := Lib.hid (K2.out.trans t3.kept (fun _ _ f => f)); clear h3 t3 H2 K2)
    | (refine wpList_insG rfl 137 _ Tryz.underlying137 _ _ _ rfl W.heap.size _ 4 _ rfl rfl rfl H3.out (by unfold I64; omega) (by rfl) ?_; intro w4 h4 t4; have H4 := Lib.hid h4; have K4 : Hid (Kept (fun k => k = W.heap.size) W w4) := Lib.hid (K3.out.trans t4.kept (fun _ _ f => f)); clear h4 t4 H3 K3)
    | (refine wpList_insG rfl 137 _ Tryz.underlying137 _ _ _ rfl W.heap.size _ 5 _ rfl rfl rfl H4.out (by unfold I64; omega) (by rfl) ?_; intro w5 h5 t5; have H5 := Lib.hid h5; have K5 : Hid (Kept (fun k => k = W.heap.size) W w5) := Lib.hid (K4.out.trans t5.kept (fun _ _ f => f)); clear h5 t5 H4 K4)
    | (refine wpList_insG rfl 137 _ Tryz.underlying137 _ _ _ rfl W.heap.size _ 6 _ rfl rfl rfl H5.out (by unfold I64; omega) (by rfl) ?_; intro w6 h6 t6; have H6 := Lib.hid h6; have K6 : Hid (Kept (fun k => k = W.heap.size) W w6) := Lib.hid (K5.out.trans t6.kept (fun _ _ f => f)); clear h6 t6 H5 K5)
    | (refine wpList_insG rfl 137 _ Tryz.underlying137 _ _ _ rfl W.heap.size _ 7 _ rfl rfl rfl H6.out (by unfold I64; omega) (by rfl) ?_; intro w7 h7 t7; have H7 := Lib.hid h7; have K7 : Hid (Kept (fun k => k = W.heap.size) W w7) := Lib.hid (K6.out.trans t7.kept (fun _ _ f => f)); clear h7 t7 H6 K6))
  go_ret
  exact ⟨_, rfl, H7.out, K7.out.below (Nat.le_refl _) (fun k e => by omega)⟩
end Go.Proofs.YtgbnjjgnihjfgaaGreat
end
