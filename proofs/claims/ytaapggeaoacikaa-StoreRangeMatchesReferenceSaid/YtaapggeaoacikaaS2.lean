/- A MAP FROM PLACES TO ROWS IN MEMORY: a block whose entries are a list's rows, in whatever order: looked up, struck, stored to, counted. -/
import Derived.Test.YtaapggeaoacikaaN3
import Derived.Test.YtaapggeaoacikaaS1
import Derived.Maps.RangeWalk
import Derived.DeepKeys4
set_option linter.unusedVariables false
set_option linter.unusedSimpArgs false
namespace Go.Proofs.Ytaapggeaoacikaa
open Go.RowKit Go.Sort Go.ChangeMaps Go.MapKept

theorem laidOut : laidOutB Try.prog = true := by kernel_rfl
theorem row78 : (78 : TypeId) < Try.prog.types.size := of_decide_eq_true (by kernel_rfl)
theorem cells78 : Try.prog.cellsOf 78 = 2 := by kernel_rfl
theorem wide78 : (match Try.prog.underlying 78 with | some (.array _ _) | some (.struct _) => true | _ => false) = true := by kernel_rfl
set_option maxRecDepth 100000 in
theorem law78 : Maps.Keyed Try.prog 78 := Maps.Keyed.of_law (deep_law_laid laidOut (m := 2) (by omega) row78 (by kernel_rfl) wide78)
abbrev plV (t k : Int) : Value := .agg #[.int .i64 t, .int .i64 k]
abbrev rowZ : MRow := ⟨0, 0, ⟨0, 0, 0⟩⟩
theorem i64_wf {n : Int} (h : I64 n) : (Lit.int .i64 n).wf = true := by
  unfold I64 at h
  exact WalkArith.wf_i64 (by omega)
theorem is78 : ∃ fs, Try.prog.underlying 78 = some (.struct fs) ∧ (fs.all fun f => f.name != "_") = true ∧ fs.toList.map (fun f => (f.type, f.offset)) = [(3, 0), (3, 1)] := ⟨_, Try.underlying78, by kernel_rfl, by kernel_rfl⟩
theorem c3' : Try.prog.cellsOf 3 = 1 := by kernel_rfl
theorem key_of {t k : Int} (ht : I64 t) (hk : I64 k) : ∃ l, keyOf Try.prog 78 (plV t k) = some l := by
  obtain ⟨fs, hu, hn, hf⟩ := is78
  have hkt : Try.prog.keyType 78 = true := by kernel_rfl
  have hfm : (plV t k).formed Try.prog 78 = true := by simp [Value.formed, hu, cells78]
  have e3 : ∀ (d : Nat) (n : Int), I64 n → Try.prog.keyLits (d + 1) 3 [.int .i64 n] = some [.int .i64 n] := fun d n h => by
    simp [Program.keyLits, Try.underlying3, i64_wf h]
  have hl : ∃ ls, Try.prog.keyLits (Try.prog.types.size + 1) 78 (plV t k).cells.toList = some ls := by
    have hs : ∃ m, Try.prog.types.size = m + 1 := ⟨Try.prog.types.size - 1, by have : 0 < Try.prog.types.size := Nat.lt_of_le_of_lt (Nat.zero_le _) row78; omega⟩
    obtain ⟨m, hm⟩ := hs
    rw [hm]
    unfold Program.keyLits
    rw [hu]
    have hlen : (plV t k).cells.toList.length = Try.prog.cellsOf 78 := by rw [cells78]; rfl
    suffices h : ∃ ls, ((fs.toList.mapM fun f => Try.prog.keyLits (m + 1) f.type ((List.drop f.offset (plV t k).cells.toList).take (Try.prog.cellsOf f.type))).map List.flatten) = some ls from by
      obtain ⟨ls, h⟩ := h
      exact ⟨ls, (if_pos ⟨hlen, hn⟩).trans h⟩
    have hmm : (fs.toList.mapM fun f => Try.prog.keyLits (m + 1) f.type ((List.drop f.offset (plV t k).cells.toList).take (Try.prog.cellsOf f.type))) = ((fs.toList.map fun f => (f.type, f.offset)).mapM fun q => Try.prog.keyLits (m + 1) q.1 ((List.drop q.2 (plV t k).cells.toList).take (Try.prog.cellsOf q.1))) := by
      rw [List.mapM_map]
      simp only [Function.comp_def]
    rw [hmm, hf]
    simp [List.mapM_cons, Value.cells, c3', e3 m _ ht, e3 m _ hk]
  obtain ⟨ls, hl⟩ := hl
  refine ⟨.string (keyBytes ls), ?_⟩
  unfold keyOf
  rw [hu]
  exact (if_pos (by rw [hkt, hfm]; rfl)).trans (by rw [hl]; rfl)

/-! ### The block -/
def Ent (es : List MapEntry) (L : List MRow) : Prop := (es.map fun e => (e.key, e.val)).Perm (L.map fun r => (plV r.t r.k, rowV r))
def Wd (L : List MRow) : Prop := ∀ r ∈ L, I64 r.t ∧ I64 r.k
/-- Block b is a map whose entries are the rows of L. -/
def StMap (W : World) (b : Nat) (L : List MRow) : Prop := ∃ es clock, W.heap[b]? = some (.map es clock) ∧ Stamped es clock ∧ Ent es.toList L ∧ Wd L

theorem StMap.lt {W : World} {b : Nat} {L : List MRow} (h : StMap W b L) : b < W.heap.size := by
  obtain ⟨es, clock, hb, _⟩ := h
  exact (Array.getElem?_eq_some_iff.1 hb).1
theorem StMap.of_block {W W' : World} {b : Nat} {L : List MRow} (h : StMap W b L) (e : W'.heap[b]? = W.heap[b]?) : StMap W' b L := by
  obtain ⟨es, clock, hb, r⟩ := h
  exact ⟨es, clock, e.trans hb, r⟩
theorem StMap.perm {W : World} {b : Nat} {L M : List MRow} (h : StMap W b L) (hp : L.Perm M) : StMap W b M := by
  obtain ⟨es, clock, hb, hs, he, hw⟩ := h
  exact ⟨es, clock, hb, hs, List.Perm.trans he (hp.map _), fun r hr => hw r (hp.mem_iff.2 hr)⟩

theorem ent_keys {es : List MapEntry} {L : List MRow} (h : Ent es L) (hw : Wd L) : ∀ e ∈ es, ∃ l, keyOf Try.prog 78 e.key = some l := by
  intro e he
  have hm := h.mem_iff.1 (List.mem_map.2 ⟨e, he, rfl⟩)
  obtain ⟨r, hr, hre⟩ := List.mem_map.1 hm
  simp only [Prod.mk.injEq] at hre
  rw [← hre.1]
  exact key_of (hw r hr).1 (hw r hr).2
theorem plV_inj {t k t' k' : Int} (h : plV t k = plV t' k') : t = t' ∧ k = k' := by simpa [plV] using h
theorem ent_nodup {es : List MapEntry} {L : List MRow} (h : Ent es L) (hp : es.Pairwise fun x y => x.key ≠ y.key) : L.Pairwise fun r s => ¬ (r.t = s.t ∧ r.k = s.k) := by
  have h1 : (es.map fun e => (e.key, e.val)).Pairwise fun p q => p.1 ≠ q.1 := by rw [List.pairwise_map]; exact hp
  have h2 := (h.pairwise_iff (fun {a b} (hab : a.1 ≠ b.1) => hab.symm)).1 h1
  rw [List.pairwise_map] at h2
  exact h2.imp fun {a b} hab e => hab (by simp [e.1, e.2])
theorem look_perm {L : List MRow} (hp : L.Pairwise fun r s => ¬ (r.t = s.t ∧ r.k = s.k)) {r : MRow} (hr : r ∈ L) : look L r.t r.k = some r := by
  induction L with
  | nil => simp at hr
  | cons a L ih =>
    obtain ⟨h1, h2⟩ := List.pairwise_cons.1 hp
    unfold look
    rcases List.mem_cons.1 hr with e | hr
    · subst e
      rw [List.find?_cons_of_pos (by simp [atk])]
    · rw [List.find?_cons_of_neg (by simp only [atk, decide_eq_true_eq]; exact h1 r hr)]
      exact ih h2 hr

/-- 'v, ok := m[place]'. -/
theorem StMap.look {W : World} {b : Nat} {L : List MRow} (h : StMap W b L) {t k : Int} (ht : I64 t) (hk : I64 k) :
    (Instr.lookup 69 (.map (some b)) (plV t k) true).run Try.prog W = .ok (.tuple #[rowV ((Ytaapggeaoacikaa.look L t k).getD rowZ), .bool (Ytaapggeaoacikaa.look L t k).isSome]) W := by
  obtain ⟨es, clock, hb, hs, he, hw⟩ := h
  obtain ⟨l, hl⟩ := key_of ht hk
  have hz : (zeroValue 50).run Try.prog W = .ok (rowV rowZ) W := by kernel_rfl
  rcases law78.find W hl es.toList (ent_keys he hw) with ⟨h1, h2⟩ | ⟨j, e0, h1, h2, h3⟩
  · have hn : Ytaapggeaoacikaa.look L t k = none := look_none.2 fun r hr e => by
      have hm := he.mem_iff.2 (List.mem_map.2 ⟨r, hr, rfl⟩)
      obtain ⟨x, hx, hxe⟩ := List.mem_map.1 hm
      simp only [Prod.mk.injEq] at hxe
      exact h2 x hx (by rw [hxe.1, e.1, e.2])
    rw [hn]
    simp [Instr.lookup, run_underlying Try.underlying69, MapKept.run_getObj_map hb, law78.check W _ hl, h1, hz, Result.andThen]
  · have hm0 : e0 ∈ es.toList := List.mem_of_getElem? h2
    have hm := he.mem_iff.1 (List.mem_map.2 ⟨e0, hm0, rfl⟩)
    obtain ⟨r, hr, hre⟩ := List.mem_map.1 hm
    simp only [Prod.mk.injEq] at hre
    rw [h3] at hre
    obtain ⟨e1, e2⟩ := plV_inj hre.1
    have hlk := look_perm (ent_nodup he ((stamped_iff es clock).1 hs).2.2) hr
    rw [e1, e2] at hlk
    rw [hlk]
    simp only [Option.getD_some, Option.isSome_some]
    rw [hre.2]
    simp [Instr.lookup, run_underlying Try.underlying69, MapKept.run_getObj_map hb, law78.check W _ hl, h1, Result.andThen]
theorem look_nilmap (W : World) {t k : Int} (ht : I64 t) (hk : I64 k) : (Instr.lookup 69 (.map none) (plV t k) true).run Try.prog W = .ok (.tuple #[rowV rowZ, .bool false]) W := by
  obtain ⟨l, hl⟩ := key_of ht hk
  have hz : (zeroValue 50).run Try.prog W = .ok (rowV rowZ) W := by kernel_rfl
  have := Maps.look_nil true law78 Try.underlying69 hz hl
  simpa using this

/-- 'len(m)'. -/
theorem StMap.len {W : World} {b : Nat} {L : List MRow} (h : StMap W b L) (ty : TypeId) : (Builtin.len_ #[69] ty #[.map (some b)]).run Try.prog W = .ok (.int .i64 L.length) W := by
  obtain ⟨es, clock, hb, hs, he, hw⟩ := h
  have hl : es.size = L.length := by have := he.length_eq; simpa using this
  simp [Builtin.len_, run_underlying Try.underlying69, MapKept.run_getObj_map hb, goInt, Result.andThen, hl]

/-- W' is W but for the entries of the map in block b. -/
def Turned (W W' : World) (b : Nat) : Prop := ∃ es clock es' clock', W.heap[b]? = some (.map es clock) ∧ W' = setBlock W b (.map es' clock')

/-- 'delete(m, place)'. -/
theorem StMap.del {W : World} {b : Nat} {L : List MRow} (h : StMap W b L) {t k : Int} (ht : I64 t) (hk : I64 k) (ty : TypeId) :
    ∃ W', (Builtin.delete_ #[69, 78] ty #[.map (some b), plV t k]).run Try.prog W = .ok (.tuple #[]) W' ∧ StMap W' b (L.filter fun r => !atk t k r) ∧ Turned W W' b := by
  obtain ⟨es, clock, hb, hs, he, hw⟩ := h
  obtain ⟨l, hl⟩ := key_of ht hk
  have hw' : Wd (L.filter fun r => !atk t k r) := fun r hr => hw r (List.mem_filter.1 hr).1
  have hapart := ((stamped_iff es clock).1 hs).2.2
  rcases law78.find W hl es.toList (ent_keys he hw) with ⟨h1, h2⟩ | ⟨j, e0, h1, h2, h3⟩
  · refine ⟨setBlock W b (.map es clock), ?_, ⟨es, clock, heap_setBlock_same hb _, hs, ?_, hw'⟩, ⟨es, clock, es, clock, hb, rfl⟩⟩
    · simp [Builtin.delete_, run_underlying Try.underlying69, MapKept.run_getObj_map hb, law78.check W _ hl, h1, MapKept.run_setObj_map _ hb, Result.andThen, setBlock]
    · rw [List.filter_eq_self.2 fun r hr => by
        have hm := he.mem_iff.2 (List.mem_map.2 ⟨r, hr, rfl⟩)
        obtain ⟨x, hx, hxe⟩ := List.mem_map.1 hm
        simp only [Prod.mk.injEq] at hxe
        have := h2 x hx
        rw [hxe.1] at this
        simp only [atk, Bool.not_eq_true', decide_eq_false_iff_not]
        exact fun e => this (by rw [e.1, e.2])]
      exact he
  · have hjl : j < es.toList.length := (List.getElem?_eq_some_iff.1 h2).1
    have hjs : j < es.size := by simpa using hjl
    have hsub : (es.eraseIdxIfInBounds j).toList = es.toList.eraseIdx j := by
      unfold Array.eraseIdxIfInBounds
      rw [dif_pos hjs]
      simp
    refine ⟨setBlock W b (.map (es.eraseIdxIfInBounds j) clock), ?_, ⟨_, clock, heap_setBlock_same hb _, stamped_erase hs j, ?_, hw'⟩, ⟨es, clock, _, clock, hb, rfl⟩⟩
    · simp [Builtin.delete_, run_underlying Try.underlying69, MapKept.run_getObj_map hb, law78.check W _ hl, h1, MapKept.run_setObj_map _ hb, Result.andThen, setBlock]
    · have hm0 : e0 ∈ es.toList := List.mem_of_getElem? h2
      have hm := he.mem_iff.1 (List.mem_map.2 ⟨e0, hm0, rfl⟩)
      obtain ⟨r, hr, hre⟩ := List.mem_map.1 hm
      simp only [Prod.mk.injEq] at hre
      rw [h3] at hre
      obtain ⟨e1, e2⟩ := plV_inj hre.1
      have hnd := ent_nodup he hapart
      -- L is r and the rest
      have hLp : L.Perm (r :: L.filter fun s => !atk t k s) := by
        clear he h1 h2 hs hw hw' hm hre hsub
        induction L with
        | nil => simp at hr
        | cons a L ih =>
          obtain ⟨n1, n2⟩ := List.pairwise_cons.1 hnd
          rcases List.mem_cons.1 hr with e | hr
          · subst e
            rw [List.filter_cons_of_neg (by simp [atk, e1, e2]), List.filter_eq_self.2]
            intro s hs
            have := n1 s hs
            simp only [atk, Bool.not_eq_true', decide_eq_false_iff_not]
            exact fun e => this ⟨by omega, by omega⟩
          · have hne : ¬ (a.t = t ∧ a.k = k) := fun e => n1 r hr ⟨by omega, by omega⟩
            rw [List.filter_cons_of_pos (by simp [atk]; omega)]
            exact ((ih hr n2).cons a).trans (List.Perm.swap _ _ _)
      have hEp : es.toList.Perm (e0 :: es.toList.eraseIdx j) := by
        have e5 : es.toList[j] = e0 := by have := List.getElem?_eq_getElem hjl; rw [h2] at this; exact (Option.some.inj this).symm
        have e6 : es.toList = es.toList.take j ++ e0 :: es.toList.drop (j + 1) := by
          rw [← e5, List.getElem_cons_drop, List.take_append_drop]
        rw [List.eraseIdx_eq_take_drop_succ]
        exact (List.Perm.of_eq e6).trans List.perm_middle
      have hA : ((e0 :: es.toList.eraseIdx j).map fun e => (e.key, e.val)).Perm ((r :: L.filter fun s => !atk t k s).map fun r => (plV r.t r.k, rowV r)) := (hEp.map _).symm.trans (List.Perm.trans he (hLp.map _))
      rw [List.map_cons, List.map_cons] at hA
      have hh : (e0.key, e0.val) = (plV r.t r.k, rowV r) := by rw [h3, hre.1, hre.2]
      rw [hh] at hA
      unfold Ent
      rw [hsub]
      exact hA.cons_inv
theorem del_nilmap (W : World) {t k : Int} (ht : I64 t) (hk : I64 k) (ty : TypeId) : (Builtin.delete_ #[69, 78] ty #[.map none, plV t k]).run Try.prog W = .ok (.tuple #[]) W := by
  obtain ⟨l, hl⟩ := key_of ht hk
  exact Maps.drop_nil law78 Try.underlying69 hl ty

/-- 'm[place] = row', of a place that is not there. -/
theorem StMap.add {W : World} {b : Nat} {L : List MRow} (h : StMap W b L) (r : MRow) (ht : I64 r.t) (hk : I64 r.k) (hn : ∀ s ∈ L, ¬ (s.t = r.t ∧ s.k = r.k)) :
    ∃ W', (Instr.mapUpdate 69 (.map (some b)) (plV r.t r.k) (rowV r)).run Try.prog W = .ok () W' ∧ StMap W' b (r :: L) ∧ Turned W W' b := by
  obtain ⟨es, clock, hb, hs, he, hw⟩ := h
  obtain ⟨l, hl⟩ := key_of ht hk
  rcases law78.find W hl es.toList (ent_keys he hw) with ⟨h1, h2⟩ | ⟨j, e0, h1, h2, h3⟩
  · refine ⟨setBlock W b (.map (es.push ⟨plV r.t r.k, rowV r, clock⟩) (clock + 1)), ?_, ⟨_, _, heap_setBlock_same hb _, stamped_push hs h2, ?_, ?_⟩, ⟨es, clock, _, _, hb, rfl⟩⟩
    · simp [Instr.mapUpdate, run_underlying Try.underlying69, MapKept.run_getObj_map hb, law78.check W false hl, h1, MapKept.run_setObj_map _ hb, Result.andThen, setBlock]
    · unfold Ent
      rw [Array.toList_push, List.map_append, List.map_singleton, List.map_cons]
      exact (List.perm_append_singleton _ _).trans (List.Perm.cons _ he)
    · intro s hs
      rcases List.mem_cons.1 hs with e | hs
      · subst e; exact ⟨ht, hk⟩
      · exact hw s hs
  · exfalso
    have hm0 : e0 ∈ es.toList := List.mem_of_getElem? h2
    have hm := he.mem_iff.1 (List.mem_map.2 ⟨e0, hm0, rfl⟩)
    obtain ⟨s, hs, hse⟩ := List.mem_map.1 hm
    simp only [Prod.mk.injEq] at hse
    rw [h3] at hse
    obtain ⟨e1, e2⟩ := plV_inj hse.1
    exact hn s hs ⟨e1, e2⟩
end Go.Proofs.Ytaapggeaoacikaa
