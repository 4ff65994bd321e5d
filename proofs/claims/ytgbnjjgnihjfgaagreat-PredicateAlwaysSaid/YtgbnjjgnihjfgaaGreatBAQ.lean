/- PU, QF, QFL, QFR, QH -/
import Derived.Test.YtgbnjjgnihjfgaaGreatProg
import Derived.WalkKit
import Derived.Below
import Derived.Lib.Hide
import Derived.Laws.StructEq
import Derived.Lib.QuietBelow
import Derived.Deep.RegionHeld3
import Derived.Deep.RegionWith
import Derived.IntWalk
import Derived.BigQuiet
import Derived.Maps.RangeWalk
import Derived.DeepKeys4
import Derived.OneCell
import Derived.StillTail
import Derived.Deep.CutRange
import Derived.Outline
import Derived.WalkSpells
import Derived.Carry
import Derived.Shelf.SlGeneric
import Derived.Shelf.SlSortCmp.WholeK
import Derived.Shelf.SlicesG.Cmp
import Derived.Ground.SlsfProg
import Derived.Ground.SlgcProg
import Derived.Sort.OwnSorted
import Derived.Deep.AppendLies
import Derived.Shelf.SlSortCmp.NoneTotal
import Derived.Deep.QuietTactic
import Derived.Laws.AppendOwnNone
import Derived.Laws.EntriesVeiled
import Derived.Lib.SliceRun
import Derived.Deep.Cut
import Derived.Laws.ResultCell
import Derived.ArgAppend
import Derived.Laws.Rows
import Derived.Great.BuildSlice
import Derived.Great.Frames
import Derived.Deep.DeepCutAuto
import Derived.Test.YtgbnjjgnihjfgaaGreatBAG
import Derived.Test.YtgbnjjgnihjfgaaGreatBAJ
import Derived.Test.YtgbnjjgnihjfgaaGreatBAH
import Derived.Test.YtgbnjjgnihjfgaaGreatBAP
import Derived.Test.YtgbnjjgnihjfgaaGreatBAK
import Derived.Test.YtgbnjjgnihjfgaaGreatBAE
import Derived.Test.YtgbnjjgnihjfgaaGreatBAB
import Derived.Test.YtgbnjjgnihjfgaaGreatBAA
import Derived.Test.YtgbnjjgnihjfgaaGreatBAI
import Derived.Test.YtgbnjjgnihjfgaaGreatBAC
import Derived.Test.YtgbnjjgnihjfgaaGreatBAD
import Derived.Test.YtgbnjjgnihjfgaaGreatBAF
import Derived.Lib.AppendZeros
import Derived.Lib.Overlaps
import Derived.Laws.CopyRow
import Derived.Laws.AppendOwn
import Derived.Laws.Externs
import Derived.Deep.RegionLawGrows
import Derived.Test.YtgbnjjgnihjfgaaGreatBAM
import Derived.Test.YtgbnjjgnihjfgaaGreatBAO
import Derived.Test.YtgbnjjgnihjfgaaGreatBAN
import Derived.Test.YtgbnjjgnihjfgaaGreatBAL
section
set_option linter.unusedVariables false
set_option linter.unusedSimpArgs false
namespace Go.Proofs.YtgbnjjgnihjfgaaGreat
open Go.RowKit Go.Sort Go.ChangeMaps Go.MapKept

theorem below_drew (w : World) : Below w.heap.size w w.drew := ⟨rfl, rfl, rfl, Nat.le_refl _, fun _ _ => rfl⟩
set_option maxRecDepth 100000 in
set_option maxHeartbeats 8000000 in
theorem touch_at {q : MQ} {c : MCh} (hv : validB q = true) (hc : vc c = true) {g : FuncId} {b : Bool} (eg : ∀ args w, (callFunc g args).run Tryz.prog w = .ok (.enter g args) w) (hl : lookG touchersL q.kind = some (fnV g #[]))
    (hg : ∀ w, Calls Tryz.prog g #[.agg (effC q c)] w fun e w' => e = .returned (.bool b) ∧ Below w.heap.size w w') (W : World) : Calls Tryz.prog 16 #[qV q, chV c] W fun e w' => e = .returned (.bool b) ∧ Below W.heap.size W w' := by
  have hk := valid_ok hv
  have HV := Lib.hid (fun w => qvalid_any q w)
  have HX := Lib.hid (fun w => validChange_any c w)
  rw [hv] at HV
  rw [hc] at HX
  have HF := Lib.hid (fun w => effectOf_any q c w hk.1.2.2.1 hk.1.2.2.2.2.2.1)
  have HG := Lib.hid hg
  have HL := Lib.hid (fun (w : World) (mb : Nat) (h : GMap w mb touchersL) => h.look Tryz.underlying92 (k := q.kind) hk.1.1 hl)
  obtain ⟨E, HEE⟩ : ∃ E, Hid (effC q c = E) := ⟨_, Lib.hid rfl⟩
  rw [HEE.out] at HF HG
  clear hk hv hc hg HEE hl
  obtain ⟨t, k, had, ⟨oa, ob, oc⟩, has, ⟨na, nb, nc⟩⟩ := c
  obtain ⟨qk, qt, qc, ql, qh, qy, qo⟩ := q
  unfold qV chV at *
  simp only at *
  unfold fnV at *
  go_enter Tryz.func16, Tryz.ntmps16
  go_upto_region 1 with fail
  generalize hw0 : (W.alloc (.cells #[.int .i64 qk, .int .i64 qt, .int .i64 qc, .int .i64 ql, .int .i64 qh, .int .i64 qy, .int .i64 qo] 28)).alloc (.cells #[.int .i64 t, .int .i64 k, .bool had, .int .i64 oa, .int .i64 ob, .int .i64 oc, .bool has, .int .i64 na, .int .i64 nb, .int .i64 nc] 45) = w0
  have HB0 : Hid (Below W.heap.size W w0) := Lib.hid (by rw [← hw0]; exact bt (ba W _) (ba _ _))
  have HQ0 : Hid (w0.heap[W.heap.size]? = some (.cells #[.int .i64 qk, .int .i64 qt, .int .i64 qc, .int .i64 ql, .int .i64 qh, .int .i64 qy, .int .i64 qo] 28 (0, 0))) := Lib.hid (by
    rw [← hw0]
    exact ((ba (W.alloc _) _).block _ (by simp)).trans (heap_alloc_new W _))
  have HC0 : Hid (w0.heap[W.heap.size + 1]? = some (.cells #[.int .i64 t, .int .i64 k, .bool had, .int .i64 oa, .int .i64 ob, .int .i64 oc, .bool has, .int .i64 na, .int .i64 nb, .int .i64 nc] 45 (0, 0))) := Lib.hid (by
    rw [← hw0]
    have h := heap_alloc_new (W.alloc (.cells #[.int .i64 qk, .int .i64 qt, .int .i64 qc, .int .i64 ql, .int .i64 qh, .int .i64 qy, .int .i64 qo] 28)) (.cells #[.int .i64 t, .int .i64 k, .bool had, .int .i64 oa, .int .i64 ob, .int .i64 oc, .bool has, .int .i64 na, .int .i64 nb, .int .i64 nc] 45)
    rw [World.size_alloc] at h
    exact h)
  clear hw0
  have HBd : Hid (Below w0.heap.size w0 w0.drew) := Lib.hid (below_drew _)
  have HK : Hid (∀ w, Below w0.heap.size w0 w → w.cell? ⟨W.heap.size, 0, none⟩ = some (.int .i64 qk) ∧ w.cell? ⟨W.heap.size, 1, none⟩ = some (.int .i64 qt) ∧ w.cell? ⟨W.heap.size, 2, none⟩ = some (.int .i64 qc) ∧ w.cell? ⟨W.heap.size, 3, none⟩ = some (.int .i64 ql) ∧ w.cell? ⟨W.heap.size, 4, none⟩ = some (.int .i64 qh) ∧ w.cell? ⟨W.heap.size, 5, none⟩ = some (.int .i64 qy) ∧ w.cell? ⟨W.heap.size, 6, none⟩ = some (.int .i64 qo) ∧ w.cell? ⟨W.heap.size + 1, 0, none⟩ = some (.int .i64 t) ∧ w.cell? ⟨W.heap.size + 1, 1, none⟩ = some (.int .i64 k) ∧ w.cell? ⟨W.heap.size + 1, 2, none⟩ = some (.bool had) ∧ w.cell? ⟨W.heap.size + 1, 3, none⟩ = some (.int .i64 oa) ∧ w.cell? ⟨W.heap.size + 1, 4, none⟩ = some (.int .i64 ob) ∧ w.cell? ⟨W.heap.size + 1, 5, none⟩ = some (.int .i64 oc) ∧ w.cell? ⟨W.heap.size + 1, 6, none⟩ = some (.bool has) ∧ w.cell? ⟨W.heap.size + 1, 7, none⟩ = some (.int .i64 na) ∧ w.cell? ⟨W.heap.size + 1, 8, none⟩ = some (.int .i64 nb) ∧ w.cell? ⟨W.heap.size + 1, 9, none⟩ = some (.int .i64 nc)) := Lib.hid (fun w hb => by
    have h1 := (hb.block _ (lt_of_block HQ0.out)).trans HQ0.out
    have h2 := (hb.block _ (lt_of_block HC0.out)).trans HC0.out
    refine ⟨?_, ?_, ?_, ?_, ?_, ?_, ?_, ?_, ?_, ?_, ?_, ?_, ?_, ?_, ?_, ?_, ?_⟩ <;> simp [World.cell?, h1, h2])
  have H56 : Hid (∀ w, Hid (Below w0.heap.size w0 w) → Calls Tryz.prog 34 #[.agg #[.int .i64 qk, .int .i64 qt, .int .i64 qc, .int .i64 ql, .int .i64 qh, .int .i64 qy, .int .i64 qo]] w fun e w' => e = .returned (.bool true) ∧ Hid (Below w0.heap.size w0 w')) := Lib.hid (fun w hb => (HV.out w).mono fun e w' hw => ⟨hw.1, Lib.hid (bt hb.out hw.2)⟩)
  have H55 : Hid (∀ w, Hid (Below w0.heap.size w0 w) → Calls Tryz.prog 42 #[.agg #[.int .i64 t, .int .i64 k, .bool had, .int .i64 oa, .int .i64 ob, .int .i64 oc, .bool has, .int .i64 na, .int .i64 nb, .int .i64 nc]] w fun e w' => e = .returned (.bool true) ∧ Hid (Below w0.heap.size w0 w')) := Lib.hid (fun w hb => (HX.out w).mono fun e w' hw => ⟨hw.1, Lib.hid (bt hb.out hw.2)⟩)
  have H77 : Hid (∀ w, Hid (Below w0.heap.size w0 w) → Calls Tryz.prog 43 #[] w fun e w' => ∃ mb, e = .returned (.map (some mb)) ∧ Hid (GMap w' mb touchersL) ∧ Hid (Below w0.heap.size w0 w')) := Lib.hid (fun w hb => (touchers_any w).mono fun e w' ⟨mb, h1, h2, h3⟩ => ⟨mb, h1, Lib.hid h2, Lib.hid (bt hb.out h3)⟩)
  have H78 : Hid (∀ w, Hid (Below w0.heap.size w0 w) → Calls Tryz.prog 44 #[.agg #[.int .i64 qk, .int .i64 qt, .int .i64 qc, .int .i64 ql, .int .i64 qh, .int .i64 qy, .int .i64 qo], .agg #[.int .i64 t, .int .i64 k, .bool had, .int .i64 oa, .int .i64 ob, .int .i64 oc, .bool has, .int .i64 na, .int .i64 nb, .int .i64 nc]] w fun e w' => e = .returned (.agg E) ∧ Hid (Below w.heap.size w w') ∧ Hid (Below w0.heap.size w0 w')) := Lib.hid (fun w hb => (HF.out w).mono fun e w' hw => ⟨hw.1, Lib.hid hw.2, Lib.hid (bt hb.out hw.2)⟩)
  have Hg : Hid (∀ w, Hid (Below w0.heap.size w0 w) → Calls Tryz.prog g #[.agg E] w fun e w' => e = .returned (.bool b) ∧ Hid (Below w0.heap.size w0 w')) := Lib.hid (fun w hb => (HG.out w).mono fun e w' hw => ⟨hw.1, Lib.hid (bt hb.out hw.2)⟩)
  clear HV HX HF HG
  go_region_held3 (fun w => w.cell? ⟨W.heap.size, 0, none⟩ = some (.int .i64 qk) ∧ w.cell? ⟨W.heap.size, 1, none⟩ = some (.int .i64 qt) ∧ w.cell? ⟨W.heap.size, 2, none⟩ = some (.int .i64 qc) ∧ w.cell? ⟨W.heap.size, 3, none⟩ = some (.int .i64 ql) ∧ w.cell? ⟨W.heap.size, 4, none⟩ = some (.int .i64 qh) ∧ w.cell? ⟨W.heap.size, 5, none⟩ = some (.int .i64 qy) ∧ w.cell? ⟨W.heap.size, 6, none⟩ = some (.int .i64 qo) ∧ w.cell? ⟨W.heap.size + 1, 0, none⟩ = some (.int .i64 t) ∧ w.cell? ⟨W.heap.size + 1, 1, none⟩ = some (.int .i64 k) ∧ w.cell? ⟨W.heap.size + 1, 2, none⟩ = some (.bool had) ∧ w.cell? ⟨W.heap.size + 1, 3, none⟩ = some (.int .i64 oa) ∧ w.cell? ⟨W.heap.size + 1, 4, none⟩ = some (.int .i64 ob) ∧ w.cell? ⟨W.heap.size + 1, 5, none⟩ = some (.int .i64 oc) ∧ w.cell? ⟨W.heap.size + 1, 6, none⟩ = some (.bool has) ∧ w.cell? ⟨W.heap.size + 1, 7, none⟩ = some (.int .i64 na) ∧ w.cell? ⟨W.heap.size + 1, 8, none⟩ = some (.int .i64 nb) ∧ w.cell? ⟨W.heap.size + 1, 9, none⟩ = some (.int .i64 nc))
    (first | exact HK.out _ HBd.out | exact HK.out _ HB1.out | exact HK.out _ HB2.out | exact HK.out _ HB3.out | exact HK.out _ HB4.out | exact HK.out _ HB5.out)
    (first
      | (go_at_call 34; (with_reducible refine (H56.out _ HBd).mono ?_); rintro e w1 ⟨rfl, HB1⟩)
      | (go_at_call 42; (with_reducible refine (H55.out _ HB1).mono ?_); rintro e w2 ⟨rfl, HB2⟩)
      | (go_at_call 43; (with_reducible refine (H77.out _ HB2).mono ?_); rintro e w3 ⟨mb, rfl, HM, HB3⟩; have l3 := HL.out _ _ HM.out)
      | (go_at_call 44; (with_reducible refine (H78.out _ HB3).mono ?_); rintro e w4 ⟨rfl, HB34, HB4⟩; have l4 := HL.out _ _ (HM.out.below HB34.out))
      | ((with_reducible refine (Hg.out _ HB4).mono ?_); rintro e w5 ⟨rfl, HB5⟩))
  all_goals
    go_wp2_with fail
    go_ret
    exact ⟨rfl, bt HB0.out HB5.out⟩

/-- **Touches.** -/
theorem touches_any (q : MQ) (c : MCh) (W : World) : Calls Tryz.prog 16 #[qV q, chV c] W fun e w' => e = .returned (.bool (touchB q c)) ∧ Below W.heap.size W w' := by
  cases hv : validB q
  · have e : touchB q c = false := by unfold touchB; rw [hv]; rfl
    rw [e]
    exact touch_q q c W hv
  cases hc : vc c
  · have e : touchB q c = false := by unfold touchB; rw [hv, hc]; rfl
    rw [e]
    exact touch_c q c W hv hc
  have e : touchB q c = touchK q c := by unfold touchB; rw [hv, hc]; rfl
  rw [e]
  have hk := (valid_ok hv).2
  unfold touchK
  have hl : ∀ (k : Int) (v : Value), q.kind = k → lookG touchersL k = some v → lookG touchersL q.kind = some v := fun k v h h' => by rw [h]; exact h'
  obtain h | h | h | h | h | h | h : q.kind = 1 ∨ q.kind = 2 ∨ q.kind = 3 ∨ q.kind = 4 ∨ q.kind = 5 ∨ q.kind = 6 ∨ q.kind = 7 := by omega
  · rw [if_pos (by omega)]
    exact touch_at hv hc (enters_of Tryz.func83 (by kernel_rfl) rfl) (hl _ _ h rfl) (reaches_any q c) W
  · rw [if_pos (by omega)]
    exact touch_at hv hc (enters_of Tryz.func83 (by kernel_rfl) rfl) (hl _ _ h rfl) (reaches_any q c) W
  · rw [if_neg (by omega), if_pos (by omega)]
    exact touch_at hv hc (enters_of Tryz.func84 (by kernel_rfl) rfl) (hl _ _ h rfl) (crosses_any q c) W
  · rw [if_neg (by omega), if_neg (by omega), if_pos (by omega)]
    exact touch_at hv hc (enters_of Tryz.func85 (by kernel_rfl) rfl) (hl _ _ h rfl) (weighs_any q c) W
  · rw [if_neg (by omega), if_neg (by omega), if_neg (by omega), if_pos (by omega)]
    exact touch_at hv hc (enters_of Tryz.func86 (by kernel_rfl) rfl) (hl _ _ h rfl) (test1_any q c) W
  · rw [if_neg (by omega), if_neg (by omega), if_neg (by omega), if_pos (by omega)]
    exact touch_at hv hc (enters_of Tryz.func87 (by kernel_rfl) rfl) (hl _ _ h rfl) (test2_any q c) W
  · rw [if_neg (by omega), if_neg (by omega), if_neg (by omega), if_neg (by omega)]
    exact touch_at hv hc (enters_of Tryz.func88 (by kernel_rfl) rfl) (hl _ _ h rfl) (test3_any q c) W
end Go.Proofs.YtgbnjjgnihjfgaaGreat
end

section
set_option linter.unusedVariables false
set_option linter.unusedSimpArgs false
namespace Go.Proofs.YtgbnjjgnihjfgaaGreat
open Go.RowKit Go.Sort Go.ChangeMaps Go.MapKept

theorem yields_row {P : Program} {ops : Array Oper} {S : World → Prop} {o : Oper} {a : Act} (ty : TypeId) (x : Operand) (ho : o.op = .load ty x) (hwt : Region.wanted o (yielded ops a.tmps) = true) (g : Nat) (hx : a.eval x = .pointer (some ⟨g, 0, none⟩)) (t : TypeId) (cs : Array Value) (fr : Nat × Nat) (d : TypeDesc)
    (hg : ∀ w, S w → w.heap[g]? = some (.cells cs t fr)) (hu : P.underlying ty = some d) (hd : (match d with | .struct _ | .array _ _ => true | _ => false) = true) (hi : (P.info? ty).map (·.size) = some cs.size) : YieldsIf P ops S o (.agg cs) a :=
  Or.inl ⟨hwt, fun w hw => by
    unfold execOp
    simp only [ho, hx, Instr.loadAt, Instr.sureAddr, Sem.run_bind, Sem.run_pure, Result.andThen_ok, run_loadVar_row w g t ty cs fr d (hg w hw) hu hd hi]⟩
/-- What a patch of pairs leaves. -/
def PairsOut (base : Nat) (RP : Option (List PR)) (w : World) (e : Ending) (w' : World) : Prop := ∃ v' b, e = .returned (.tuple #[v', .bool b]) ∧ b = RP.isSome ∧ (∃ r, PrS w' v' r ∧ r.length ≤ 40000 ∧ ∀ s, RP = some s → r = s) ∧ Below base w w'
theorem left_out {q : MQ} {c : MCh} (hq : I64 q.column) {W : World} {base : Nat} {v : Value} {ps : List PR} (hO : OwnP W base v ps) (hb : base ≤ W.heap.size) (hl : ps.length ≤ 39999) : Calls Tryz.prog 138 #[v, .agg (effC q c)] W (PairsOut base (leftP q ps c) W) :=
  (patchLeft_any hO hb hl hq).mono fun e w' ⟨v', he, h1, ⟨r, h2, h3⟩, h4⟩ => by
    refine ⟨v', _, he, rfl, ?_, h4.mono hb⟩
    cases hp : leftP q ps c with
    | none => exact ⟨r, h2, h3, fun s hs => by cases hs⟩
    | some s =>
      have h5 := (h1 s hp).prS
      obtain ⟨_, _, _, e1, -⟩ := h2
      refine ⟨s, h5, ?_, fun s' hs => by cases hs; rfl⟩
      have h6 : s.length ≤ ps.length + 1 := by
        unfold leftP at hp
        have hf : ∀ p : PR → Bool, (ps.filter p).length ≤ ps.length := fun p => List.length_filter_le p ps
        split at hp
        · cases hp
          exact Nat.le_trans (hf _) (by omega)
        · split at hp
          · split at hp
            · cases hp
              exact Nat.le_trans (hf _) (by omega)
            · cases hp
          · cases hp
            refine Nat.le_trans (Nat.le_of_eq (ins_perm _ _ _).length_eq) ?_
            rw [List.length_cons]
            exact Nat.succ_le_succ (hf _)
      omega
theorem right_out {q : MQ} {c : MCh} {W : World} {base : Nat} {v : Value} {ps : List PR} (hO : OwnP W base v ps) (hb : base ≤ W.heap.size) (hl : ps.length ≤ 39999) : Calls Tryz.prog 139 #[v, .agg (effC q c)] W (PairsOut base (rightP ps c) W) :=
  (patchRight_any hO hb (by omega)).mono fun e w' ⟨v', he, h1, h2⟩ => by
    refine ⟨v', _, he, rfl, ⟨_, h1.prS, ?_, fun s hs => by rw [hs]; rfl⟩, h2.below hb (fun k hk => OwnP.own_ge hO hk)⟩
    cases hp : rightP ps c with
    | none => simp
    | some s =>
      unfold rightP at hp
      have hf : ∀ p : PR → Bool, (ps.filter p).length ≤ ps.length := fun p => List.length_filter_le p ps
      split at hp
      · cases hp
      · split at hp
        · cases hp
          simp only [Option.getD_some]
          exact Nat.le_trans (hf _) (by omega)
        · cases hp
          simp only [Option.getD_some, List.length_map]
          omega
end Go.Proofs.YtgbnjjgnihjfgaaGreat
end

section
set_option linter.unusedVariables false
set_option linter.unusedSimpArgs false
namespace Go.Proofs.YtgbnjjgnihjfgaaGreat
open Go.RowKit Go.Sort Go.ChangeMaps Go.MapKept

set_option maxRecDepth 100000 in
set_option maxHeartbeats 8000000 in
theorem patchJoin_left {q : MQ} {c : MCh} {rb base : Nat} {r : MRes} {W : World} (hR : ResAt W rb base r) (hb : base ≤ W.heap.size) (hq : I64 q.column) (hl : r.rows.length ≤ 39999) (hne : ¬ q.table = q.other) (hc : ¬ c.t = q.other) : Calls Tryz.prog 123 #[ptr rb, .agg (effC q c)] W (PatchOut W rb base ((leftP q (prs r.rows) c).map fun ps => ⟨unprs ps, r.val, r.fnd⟩)) := by
  obtain ⟨rows, val, fnd⟩ := r
  obtain ⟨u, hu, hO⟩ := hR
  have HU := Lib.hid hu
  have HO := Lib.hid hO
  have HL : Hid (rows.length ≤ 39999) := Lib.hid hl
  have HBs : Hid (base ≤ W.heap.size) := Lib.hid hb
  have HE : Hid (EffAt (W.alloc (.cells (effC q c) 97)) W.heap.size q c) := Lib.hid (EffAt.new W q c)
  have HB : Hid (Below W.heap.size W (W.alloc (.cells (effC q c) 97))) := Lib.hid (ba W _)
  have hlt := lt_of_block hu
  have hrz : ¬ rb = W.heap.size := by omega
  have hrz2 : ¬ W.heap.size = rb := by omega
  simp only at HU HO HL hu hO hl ⊢
  obtain ⟨ua, un, uc, rfl⟩ := hO.form
  have HG := Lib.hid (fun (w : World) (b : Nat) (v : Value) (h : OwnP w b v (prs rows)) (h2 : b ≤ w.heap.size) => left_out (q := q) (c := c) hq h h2 (by have := prs_len rows; omega))
  have HR := Lib.hid (HO.out.below HB.out).rowS
  obtain ⟨RP, HRP⟩ : ∃ RP, Hid (leftP q (prs rows) c = RP) := ⟨_, Lib.hid rfl⟩
  rw [HRP.out] at HG ⊢
  clear HRP hu hO hl hb hq
  unfold EffAt at HE
  have HS : Hid ((effC q c).size = 33) := Lib.hid rfl
  have HA : Hid ((effC q c)[1]? = some (.int .i64 q.table) ∧ (effC q c)[6]? = some (.int .i64 q.other) ∧ (effC q c)[7]? = some (.int .i64 c.t)) := Lib.hid ⟨rfl, rfl, rfl⟩
  generalize q.table = qt at *
  generalize q.other = qo at *
  generalize c.t = ct at *
  generalize effC q c = E at *
  have d1 : (qt == qo) = false := by simp [hne]
  have d2 : (ct == qo) = false := by simp [hc]
  clear hne hc
  unfold ptr
  go_enter Tryz.func123, Tryz.ntmps123
  go_upto_region 1 with fail
  have HK0 : Hid (Kept (fun k => k = rb) W (W.alloc (.cells E 97))) := Lib.hid (Kept.of_below HB.out)
  have HU0 := Lib.hid ((HB.out.block _ (lt_of_block HU.out)).trans HU.out)
  generalize W.alloc (.cells E 97) = w0 at *
  have c1 : w0.cell? ⟨W.heap.size, 1, none⟩ = some (.int .i64 qt) := by simp [World.cell?, HE.out, HA.out]
  have c6 : w0.cell? ⟨W.heap.size, 6, none⟩ = some (.int .i64 qo) := by simp [World.cell?, HE.out, HA.out]
  have c7 : w0.cell? ⟨W.heap.size, 7, none⟩ = some (.int .i64 ct) := by simp [World.cell?, HE.out, HA.out]
  go_upto_region 6 with fail
  clear c1 c6 c7
  have HBd : Hid (Below w0.heap.size w0 w0.drew) := Lib.hid (below_drew _)
  have H173 : Hid (∀ w, Hid (Below w0.heap.size w0 w) → Calls Tryz.prog 140 #[.slice ua un uc] w fun e w' => ∃ v, e = .returned v ∧ Hid (OwnP w' w.heap.size v (prs rows) ∧ w0.heap.size ≤ w.heap.size) ∧ Hid (Below w0.heap.size w0 w')) := Lib.hid (fun w hb => (pairsOf_any (HR.out.below hb.out) (by have := HL.out; omega)).mono fun e w' ⟨v, h1, h2, h3⟩ => ⟨v, h1, Lib.hid ⟨h2, hb.out.size⟩, Lib.hid (bt hb.out h3)⟩)
  have Hg : Hid (∀ (w : World) (b : Nat) (v : Value), Hid (Below w0.heap.size w0 w) → Hid (OwnP w b v (prs rows) ∧ w0.heap.size ≤ b) → Calls Tryz.prog 138 #[v, .agg E] w fun e w' => ∃ v' bb, e = .returned (.tuple #[v', .bool bb]) ∧ Hid (bb = RP.isSome) ∧ Hid (∃ r, PrS w' v' r ∧ r.length ≤ 40000 ∧ ∀ s, RP = some s → r = s) ∧ Hid (Below w0.heap.size w0 w')) := Lib.hid (fun w b v hb ho => (HG.out w w0.heap.size v (ho.out.1.mono ho.out.2) hb.out.size).mono fun e w' ⟨v', bb, h1, h2, h3, h4⟩ => ⟨v', bb, h1, Lib.hid h2, Lib.hid h3, Lib.hid (hb.out.trans h4)⟩)
  clear HG HR
  refine wp_region_held_drew (S := fun w => Below w0.heap.size w0 w) (by kernel_rfl) (HBd.out) (fun hHeld => ?_)
  refine wpAnyH_take (i := 0) (v := .func (.func 138) #[] #[]) rfl (by kernel_rfl) (by kernel_rfl) (by kernel_rfl) (fun _ _ _ h => h) (Or.inl ⟨by rfl, ?_⟩) hHeld ?_
  · intro w hSw
    go_simp
  try simp only [Act.put, List.setIfInBounds_toArray, List.set_cons_zero, List.set_cons_succ]
  refine wpAnyH_take (i := 1) (v := .pointer (some ⟨rb, 0, none⟩)) rfl (by kernel_rfl) (by kernel_rfl) (by kernel_rfl) (fun _ _ _ h => h) (Or.inl ⟨by rfl, ?_⟩) hHeld ?_
  · intro w hSw
    go_simp
  try simp only [Act.put, List.setIfInBounds_toArray, List.set_cons_zero, List.set_cons_succ]
  refine wpAnyH_take (i := 2) (v := .pointer (some ⟨rb, 0, none⟩)) rfl (by kernel_rfl) (by kernel_rfl) (by kernel_rfl) (fun _ _ _ h => h) (Or.inl ⟨by rfl, ?_⟩) hHeld ?_
  · intro w hSw
    go_simp
  try simp only [Act.put, List.setIfInBounds_toArray, List.set_cons_zero, List.set_cons_succ]
  refine wpAnyH_take (i := 3) (v := .pointer (some ⟨rb, 0, none⟩)) rfl (by kernel_rfl) (by kernel_rfl) (by kernel_rfl) (fun _ _ _ h => h) (Or.inl ⟨by rfl, ?_⟩) hHeld ?_
  · intro w hSw
    go_simp
  try simp only [Act.put, List.setIfInBounds_toArray, List.set_cons_zero, List.set_cons_succ]
  refine wpAnyH_take (i := 4) (v := .slice ua un uc) rfl (by kernel_rfl) (by kernel_rfl) (by kernel_rfl) (fun _ _ _ h => h) (Or.inl ⟨by rfl, ?_⟩) hHeld ?_
  · intro w hSw
    have r0 : w.cell? ⟨rb, 0, none⟩ = some (.slice ua un uc) := by simp only [World.cell?, (hSw.block _ (lt_of_block HU0.out)).trans HU0.out]; rfl
    go_simp
  try simp only [Act.put, List.setIfInBounds_toArray, List.set_cons_zero, List.set_cons_succ]
  refine wpAnyH_take (i := 6) rfl (by kernel_rfl) (by kernel_rfl) (by kernel_rfl) (fun _ _ _ h => h) (yields_row 97 _ rfl (by rfl) W.heap.size rfl 97 E (0, 0) _ (fun w hSw => (hSw.block _ (lt_of_block HE.out)).trans HE.out) Tryz.underlying97 rfl (by rw [HS.out]; kernel_rfl)) hHeld ?_
  try simp only [Act.put, List.setIfInBounds_toArray, List.set_cons_zero, List.set_cons_succ]
  refine wpAnyH_ready (rs := [5]) (by kernel_rfl) (by simp) ?_
  refine AllReadyH.cons rfl (fun K hK => ?_) AllReadyH.nil
  go_simp
  go_at_call 140
  (with_reducible refine (H173.out _ HBd).mono ?_)
  rintro e w1 ⟨v1, rfl, HO1, HB1⟩
  refine hK.out _ _ HB1.out (fun hHeld => ?_)
  clear hK K
  try simp only [Act.put, List.setIfInBounds_toArray, List.set_cons_zero, List.set_cons_succ]
  refine wpAnyH_ready (rs := [7]) (by kernel_rfl) (by simp) ?_
  refine AllReadyH.cons rfl (fun K hK => ?_) AllReadyH.nil
  go_simp
  go_at_call 138
  (with_reducible refine (Hg.out _ _ _ HB1 (Lib.hid ⟨HO1.out.1, HO1.out.2⟩)).mono ?_)
  rintro e w2 ⟨v2, bb, rfl, HBB, HPr, HB2⟩
  refine hK.out _ _ HB2.out (fun hHeld => ?_)
  clear hK K
  try simp only [Act.put, List.setIfInBounds_toArray, List.set_cons_zero, List.set_cons_succ]
  refine wpAnyH_take (i := 8) (v := .tuple #[v2, .bool bb]) rfl (by kernel_rfl) (by kernel_rfl) (by kernel_rfl) (fun _ _ _ h => h) (Or.inl ⟨by rfl, ?_⟩) hHeld ?_
  · intro w hSw
    go_simp
  try simp only [Act.put, List.setIfInBounds_toArray, List.set_cons_zero, List.set_cons_succ]
  refine wpAnyH_take (i := 9) (v := v2) rfl (by kernel_rfl) (by kernel_rfl) (by kernel_rfl) (fun _ _ _ h => h) (Or.inl ⟨by rfl, ?_⟩) hHeld ?_
  · intro w hSw
    go_simp
  try simp only [Act.put, List.setIfInBounds_toArray, List.set_cons_zero, List.set_cons_succ]
  refine wpAnyH_take (i := 10) (v := .bool bb) rfl (by kernel_rfl) (by kernel_rfl) (by kernel_rfl) (fun _ _ _ h => h) (Or.inl ⟨by rfl, ?_⟩) hHeld ?_
  · intro w hSw
    go_simp
  try simp only [Act.put, List.setIfInBounds_toArray, List.set_cons_zero, List.set_cons_succ]
  refine wpAnyH_take (i := 11) (v := v2) rfl (by kernel_rfl) (by kernel_rfl) (by kernel_rfl) (fun _ _ _ h => h) (Or.inl ⟨by rfl, ?_⟩) hHeld ?_
  · intro w hSw
    go_simp
  try simp only [Act.put, List.setIfInBounds_toArray, List.set_cons_zero, List.set_cons_succ]
  refine wpAnyH_take (i := 12) (v := .bool bb) rfl (by kernel_rfl) (by kernel_rfl) (by kernel_rfl) (fun _ _ _ h => h) (Or.inl ⟨by rfl, ?_⟩) hHeld ?_
  · intro w hSw
    go_simp
  try simp only [Act.put, List.setIfInBounds_toArray, List.set_cons_zero, List.set_cons_succ]
  refine wpAnyH_done (by kernel_rfl) ?_ _
  obtain ⟨PR0, hps, hpl, hpe⟩ := HPr.out
  have HRw := Lib.hid (rowsOf_any hps hpl)
  have HPe := Lib.hid hpe
  clear hps hpl hpe
  have HU2 := Lib.hid ((HB2.out.block _ (lt_of_block HU0.out)).trans HU0.out)
  have HK2 : Hid (Kept (fun k => k = rb) W w2) := Lib.hid (HK0.out.then HB2.out)
  go_wp2_with fail
  (with_reducible refine HRw.out.mono ?_)
  rintro e w3 ⟨v3, rfl, hO3, hB3⟩
  obtain ⟨ya, yn, yc, rfl⟩ := hO3.form
  have HU3 := Lib.hid ((hB3.block _ (lt_of_block HU2.out)).trans HU2.out)
  have HK3 : Hid (Kept (fun k => k = rb) W w3) := Lib.hid (HK2.out.then hB3)
  have HRf : Hid (ResAt (w3.setCell ⟨rb, 0, none⟩ (.slice ya yn yc)) rb base ⟨unprs PR0, val, fnd⟩ ∧ Kept (fun k => k = rb) W (w3.setCell ⟨rb, 0, none⟩ (.slice ya yn yc))) := Lib.hid ⟨⟨.slice ya yn yc, setC_heap HU3.out 0 _, (own_setc hO3 HU3.out).mono (by have := HBs.out; have := HB.out.size; have := HB2.out.size; omega)⟩, Kept.setCell (F := fun i => i = rb) (p := ⟨rb, 0, none⟩) HK3.out (.inl rfl) _⟩
  have r0 : w3.cell? ⟨rb, 0, none⟩ = some (.slice ua un uc) := by simp only [World.cell?, HU3.out]; rfl
  have rf : w3.frozen? ⟨rb, 0, none⟩ = false := by simp [World.frozen?, HU3.out]
  clear hO3 hB3 HU2 HU3 HK2
  go_wp2_with fail
  refine bodyPost_ret (v := .bool bb) (by simp [results, Tryz.results123, go_sem]) rfl ?_
  exact ⟨by rw [HBB.out, Option.isSome_map], fun r' h => by
    obtain ⟨s, h1, rfl⟩ := Option.map_eq_some_iff.1 h
    rw [← HPe.out s h1]
    exact HRf.out.1, HRf.out.2⟩
end Go.Proofs.YtgbnjjgnihjfgaaGreat
end

section
set_option linter.unusedVariables false
set_option linter.unusedSimpArgs false
namespace Go.Proofs.YtgbnjjgnihjfgaaGreat
open Go.RowKit Go.Sort Go.ChangeMaps Go.MapKept

set_option maxRecDepth 100000 in
set_option maxHeartbeats 8000000 in
theorem patchJoin_right {q : MQ} {c : MCh} {rb base : Nat} {r : MRes} {W : World} (hR : ResAt W rb base r) (hb : base ≤ W.heap.size) (hq : I64 q.column) (hl : r.rows.length ≤ 39999) (hne : ¬ q.table = q.other) (hc : c.t = q.other) : Calls Tryz.prog 123 #[ptr rb, .agg (effC q c)] W (PatchOut W rb base ((rightP (prs r.rows) c).map fun ps => ⟨unprs ps, r.val, r.fnd⟩)) := by
  obtain ⟨rows, val, fnd⟩ := r
  obtain ⟨u, hu, hO⟩ := hR
  have HU := Lib.hid hu
  have HO := Lib.hid hO
  have HL : Hid (rows.length ≤ 39999) := Lib.hid hl
  have HBs : Hid (base ≤ W.heap.size) := Lib.hid hb
  have HE : Hid (EffAt (W.alloc (.cells (effC q c) 97)) W.heap.size q c) := Lib.hid (EffAt.new W q c)
  have HB : Hid (Below W.heap.size W (W.alloc (.cells (effC q c) 97))) := Lib.hid (ba W _)
  have hlt := lt_of_block hu
  have hrz : ¬ rb = W.heap.size := by omega
  have hrz2 : ¬ W.heap.size = rb := by omega
  simp only at HU HO HL hu hO hl ⊢
  obtain ⟨ua, un, uc, rfl⟩ := hO.form
  have HG := Lib.hid (fun (w : World) (b : Nat) (v : Value) (h : OwnP w b v (prs rows)) (h2 : b ≤ w.heap.size) => right_out (q := q) (c := c)  h h2 (by have := prs_len rows; omega))
  have HR := Lib.hid (HO.out.below HB.out).rowS
  obtain ⟨RP, HRP⟩ : ∃ RP, Hid (rightP (prs rows) c = RP) := ⟨_, Lib.hid rfl⟩
  rw [HRP.out] at HG ⊢
  clear HRP hu hO hl hb hq
  unfold EffAt at HE
  have HS : Hid ((effC q c).size = 33) := Lib.hid rfl
  have HA : Hid ((effC q c)[1]? = some (.int .i64 q.table) ∧ (effC q c)[6]? = some (.int .i64 q.other) ∧ (effC q c)[7]? = some (.int .i64 c.t)) := Lib.hid ⟨rfl, rfl, rfl⟩
  generalize q.table = qt at *
  generalize q.other = qo at *
  generalize c.t = ct at *
  generalize effC q c = E at *
  have d1 : (qt == qo) = false := by simp [hne]
  have d2 : (ct == qo) = true := by simp [hc]
  clear hne hc
  unfold ptr
  go_enter Tryz.func123, Tryz.ntmps123
  go_upto_region 1 with fail
  have HK0 : Hid (Kept (fun k => k = rb) W (W.alloc (.cells E 97))) := Lib.hid (Kept.of_below HB.out)
  have HU0 := Lib.hid ((HB.out.block _ (lt_of_block HU.out)).trans HU.out)
  generalize W.alloc (.cells E 97) = w0 at *
  have c1 : w0.cell? ⟨W.heap.size, 1, none⟩ = some (.int .i64 qt) := by simp [World.cell?, HE.out, HA.out]
  have c6 : w0.cell? ⟨W.heap.size, 6, none⟩ = some (.int .i64 qo) := by simp [World.cell?, HE.out, HA.out]
  have c7 : w0.cell? ⟨W.heap.size, 7, none⟩ = some (.int .i64 ct) := by simp [World.cell?, HE.out, HA.out]
  go_upto_region 6 with fail
  clear c1 c6 c7
  have HBd : Hid (Below w0.heap.size w0 w0.drew) := Lib.hid (below_drew _)
  have H173 : Hid (∀ w, Hid (Below w0.heap.size w0 w) → Calls Tryz.prog 140 #[.slice ua un uc] w fun e w' => ∃ v, e = .returned v ∧ Hid (OwnP w' w.heap.size v (prs rows) ∧ w0.heap.size ≤ w.heap.size) ∧ Hid (Below w0.heap.size w0 w')) := Lib.hid (fun w hb => (pairsOf_any (HR.out.below hb.out) (by have := HL.out; omega)).mono fun e w' ⟨v, h1, h2, h3⟩ => ⟨v, h1, Lib.hid ⟨h2, hb.out.size⟩, Lib.hid (bt hb.out h3)⟩)
  have Hg : Hid (∀ (w : World) (b : Nat) (v : Value), Hid (Below w0.heap.size w0 w) → Hid (OwnP w b v (prs rows) ∧ w0.heap.size ≤ b) → Calls Tryz.prog 139 #[v, .agg E] w fun e w' => ∃ v' bb, e = .returned (.tuple #[v', .bool bb]) ∧ Hid (bb = RP.isSome) ∧ Hid (∃ r, PrS w' v' r ∧ r.length ≤ 40000 ∧ ∀ s, RP = some s → r = s) ∧ Hid (Below w0.heap.size w0 w')) := Lib.hid (fun w b v hb ho => (HG.out w w0.heap.size v (ho.out.1.mono ho.out.2) hb.out.size).mono fun e w' ⟨v', bb, h1, h2, h3, h4⟩ => ⟨v', bb, h1, Lib.hid h2, Lib.hid h3, Lib.hid (hb.out.trans h4)⟩)
  clear HG HR
  refine wp_region_held_drew (S := fun w => Below w0.heap.size w0 w) (by kernel_rfl) (HBd.out) (fun hHeld => ?_)
  refine wpAnyH_take (i := 0) (v := .func (.func 139) #[] #[]) rfl (by kernel_rfl) (by kernel_rfl) (by kernel_rfl) (fun _ _ _ h => h) (Or.inl ⟨by rfl, ?_⟩) hHeld ?_
  · intro w hSw
    go_simp
  try simp only [Act.put, List.setIfInBounds_toArray, List.set_cons_zero, List.set_cons_succ]
  refine wpAnyH_take (i := 1) (v := .pointer (some ⟨rb, 0, none⟩)) rfl (by kernel_rfl) (by kernel_rfl) (by kernel_rfl) (fun _ _ _ h => h) (Or.inl ⟨by rfl, ?_⟩) hHeld ?_
  · intro w hSw
    go_simp
  try simp only [Act.put, List.setIfInBounds_toArray, List.set_cons_zero, List.set_cons_succ]
  refine wpAnyH_take (i := 2) (v := .pointer (some ⟨rb, 0, none⟩)) rfl (by kernel_rfl) (by kernel_rfl) (by kernel_rfl) (fun _ _ _ h => h) (Or.inl ⟨by rfl, ?_⟩) hHeld ?_
  · intro w hSw
    go_simp
  try simp only [Act.put, List.setIfInBounds_toArray, List.set_cons_zero, List.set_cons_succ]
  refine wpAnyH_take (i := 3) (v := .pointer (some ⟨rb, 0, none⟩)) rfl (by kernel_rfl) (by kernel_rfl) (by kernel_rfl) (fun _ _ _ h => h) (Or.inl ⟨by rfl, ?_⟩) hHeld ?_
  · intro w hSw
    go_simp
  try simp only [Act.put, List.setIfInBounds_toArray, List.set_cons_zero, List.set_cons_succ]
  refine wpAnyH_take (i := 4) (v := .slice ua un uc) rfl (by kernel_rfl) (by kernel_rfl) (by kernel_rfl) (fun _ _ _ h => h) (Or.inl ⟨by rfl, ?_⟩) hHeld ?_
  · intro w hSw
    have r0 : w.cell? ⟨rb, 0, none⟩ = some (.slice ua un uc) := by simp only [World.cell?, (hSw.block _ (lt_of_block HU0.out)).trans HU0.out]; rfl
    go_simp
  try simp only [Act.put, List.setIfInBounds_toArray, List.set_cons_zero, List.set_cons_succ]
  refine wpAnyH_take (i := 6) rfl (by kernel_rfl) (by kernel_rfl) (by kernel_rfl) (fun _ _ _ h => h) (yields_row 97 _ rfl (by rfl) W.heap.size rfl 97 E (0, 0) _ (fun w hSw => (hSw.block _ (lt_of_block HE.out)).trans HE.out) Tryz.underlying97 rfl (by rw [HS.out]; kernel_rfl)) hHeld ?_
  try simp only [Act.put, List.setIfInBounds_toArray, List.set_cons_zero, List.set_cons_succ]
  refine wpAnyH_ready (rs := [5]) (by kernel_rfl) (by simp) ?_
  refine AllReadyH.cons rfl (fun K hK => ?_) AllReadyH.nil
  go_simp
  go_at_call 140
  (with_reducible refine (H173.out _ HBd).mono ?_)
  rintro e w1 ⟨v1, rfl, HO1, HB1⟩
  refine hK.out _ _ HB1.out (fun hHeld => ?_)
  clear hK K
  try simp only [Act.put, List.setIfInBounds_toArray, List.set_cons_zero, List.set_cons_succ]
  refine wpAnyH_ready (rs := [7]) (by kernel_rfl) (by simp) ?_
  refine AllReadyH.cons rfl (fun K hK => ?_) AllReadyH.nil
  go_simp
  go_at_call 139
  (with_reducible refine (Hg.out _ _ _ HB1 (Lib.hid ⟨HO1.out.1, HO1.out.2⟩)).mono ?_)
  rintro e w2 ⟨v2, bb, rfl, HBB, HPr, HB2⟩
  refine hK.out _ _ HB2.out (fun hHeld => ?_)
  clear hK K
  try simp only [Act.put, List.setIfInBounds_toArray, List.set_cons_zero, List.set_cons_succ]
  refine wpAnyH_take (i := 8) (v := .tuple #[v2, .bool bb]) rfl (by kernel_rfl) (by kernel_rfl) (by kernel_rfl) (fun _ _ _ h => h) (Or.inl ⟨by rfl, ?_⟩) hHeld ?_
  · intro w hSw
    go_simp
  try simp only [Act.put, List.setIfInBounds_toArray, List.set_cons_zero, List.set_cons_succ]
  refine wpAnyH_take (i := 9) (v := v2) rfl (by kernel_rfl) (by kernel_rfl) (by kernel_rfl) (fun _ _ _ h => h) (Or.inl ⟨by rfl, ?_⟩) hHeld ?_
  · intro w hSw
    go_simp
  try simp only [Act.put, List.setIfInBounds_toArray, List.set_cons_zero, List.set_cons_succ]
  refine wpAnyH_take (i := 10) (v := .bool bb) rfl (by kernel_rfl) (by kernel_rfl) (by kernel_rfl) (fun _ _ _ h => h) (Or.inl ⟨by rfl, ?_⟩) hHeld ?_
  · intro w hSw
    go_simp
  try simp only [Act.put, List.setIfInBounds_toArray, List.set_cons_zero, List.set_cons_succ]
  refine wpAnyH_take (i := 11) (v := v2) rfl (by kernel_rfl) (by kernel_rfl) (by kernel_rfl) (fun _ _ _ h => h) (Or.inl ⟨by rfl, ?_⟩) hHeld ?_
  · intro w hSw
    go_simp
  try simp only [Act.put, List.setIfInBounds_toArray, List.set_cons_zero, List.set_cons_succ]
  refine wpAnyH_take (i := 12) (v := .bool bb) rfl (by kernel_rfl) (by kernel_rfl) (by kernel_rfl) (fun _ _ _ h => h) (Or.inl ⟨by rfl, ?_⟩) hHeld ?_
  · intro w hSw
    go_simp
  try simp only [Act.put, List.setIfInBounds_toArray, List.set_cons_zero, List.set_cons_succ]
  refine wpAnyH_done (by kernel_rfl) ?_ _
  obtain ⟨PR0, hps, hpl, hpe⟩ := HPr.out
  have HRw := Lib.hid (rowsOf_any hps hpl)
  have HPe := Lib.hid hpe
  clear hps hpl hpe
  have HU2 := Lib.hid ((HB2.out.block _ (lt_of_block HU0.out)).trans HU0.out)
  have HK2 : Hid (Kept (fun k => k = rb) W w2) := Lib.hid (HK0.out.then HB2.out)
  go_wp2_with fail
  (with_reducible refine HRw.out.mono ?_)
  rintro e w3 ⟨v3, rfl, hO3, hB3⟩
  obtain ⟨ya, yn, yc, rfl⟩ := hO3.form
  have HU3 := Lib.hid ((hB3.block _ (lt_of_block HU2.out)).trans HU2.out)
  have HK3 : Hid (Kept (fun k => k = rb) W w3) := Lib.hid (HK2.out.then hB3)
  have HRf : Hid (ResAt (w3.setCell ⟨rb, 0, none⟩ (.slice ya yn yc)) rb base ⟨unprs PR0, val, fnd⟩ ∧ Kept (fun k => k = rb) W (w3.setCell ⟨rb, 0, none⟩ (.slice ya yn yc))) := Lib.hid ⟨⟨.slice ya yn yc, setC_heap HU3.out 0 _, (own_setc hO3 HU3.out).mono (by have := HBs.out; have := HB.out.size; have := HB2.out.size; omega)⟩, Kept.setCell (F := fun i => i = rb) (p := ⟨rb, 0, none⟩) HK3.out (.inl rfl) _⟩
  have r0 : w3.cell? ⟨rb, 0, none⟩ = some (.slice ua un uc) := by simp only [World.cell?, HU3.out]; rfl
  have rf : w3.frozen? ⟨rb, 0, none⟩ = false := by simp [World.frozen?, HU3.out]
  clear hO3 hB3 HU2 HU3 HK2
  go_wp2_with fail
  refine bodyPost_ret (v := .bool bb) (by simp [results, Tryz.results123, go_sem]) rfl ?_
  exact ⟨by rw [HBB.out, Option.isSome_map], fun r' h => by
    obtain ⟨s, h1, rfl⟩ := Option.map_eq_some_iff.1 h
    rw [← HPe.out s h1]
    exact HRf.out.1, HRf.out.2⟩
end Go.Proofs.YtgbnjjgnihjfgaaGreat
end

section
set_option linter.unusedVariables false
set_option linter.unusedSimpArgs false
namespace Go.Proofs.YtgbnjjgnihjfgaaGreat
open Go.RowKit Go.Sort Go.ChangeMaps Go.MapKept

theorem four (W : World) (a b c d : Obj) : Below W.heap.size W ((((W.alloc a).alloc b).alloc c).alloc d) ∧ ((((W.alloc a).alloc b).alloc c).alloc d).heap[W.heap.size]? = some a ∧ ((((W.alloc a).alloc b).alloc c).alloc d).heap[W.heap.size + 1]? = some b ∧ ((((W.alloc a).alloc b).alloc c).alloc d).heap[W.heap.size + 1 + 1]? = some c ∧ ((((W.alloc a).alloc b).alloc c).alloc d).heap[W.heap.size + 1 + 1 + 1]? = some d := by
  have e1 := World.size_alloc W a
  have e2 := World.size_alloc (W.alloc a) b
  have e3 := World.size_alloc ((W.alloc a).alloc b) c
  have h1 := heap_alloc_new W a
  have h2 := heap_alloc_new (W.alloc a) b
  have h3 := heap_alloc_new ((W.alloc a).alloc b) c
  have h4 := heap_alloc_new (((W.alloc a).alloc b).alloc c) d
  rw [e1] at h2
  rw [e2, e1] at h3
  rw [e3, e2, e1] at h4
  exact ⟨bt (bt (bt (ba W _) (ba _ _)) (ba _ _)) (ba _ _), ((ba _ d).block _ (by omega)).trans (((ba _ c).block _ (by omega)).trans (((ba _ b).block _ (by omega)).trans h1)), ((ba _ d).block _ (by omega)).trans (((ba _ c).block _ (by omega)).trans h2), ((ba _ d).block _ (by omega)).trans h3, h4⟩
/-- A zero result. -/
def resZ : MRes := ⟨[], 0, false⟩
/-- What patch, Patch and Apply return. -/
def PatchRes (W : World) (base : Nat) (r : Option MRes) (e : Ending) (w' : World) : Prop := ∃ u, e = .returned (.tuple #[.agg (resC u (r.getD resZ).val (r.getD resZ).fnd), .bool r.isSome]) ∧ OwnR w' base u (r.getD resZ).rows ∧ Below W.heap.size W w'
set_option maxRecDepth 100000 in
set_option maxHeartbeats 8000000 in
theorem patch_at {q : MQ} {c : MCh} {r : MRes} {u : Value} {W : World} {base : Nat} {RP : Option MRes} {g : FuncId} (hv : validB q = true) (hO : OwnR W base u r.rows) (hb : base ≤ W.heap.size) (eg : ∀ args w, (callFunc g args).run Tryz.prog w = .ok (.enter g args) w) (hl : lookG patchersL q.kind = some (fnV g #[]))
    (hg : ∀ w rb, ResAt w rb base r → base ≤ w.heap.size → Calls Tryz.prog g #[ptr rb, .agg (effC q c)] w (PatchOut w rb base RP)) : Calls Tryz.prog 47 #[qV q, .agg (resC u r.val r.fnd), chV c] W (PatchRes W base RP) := by
  have hk := valid_ok hv
  have HBs : Hid (base ≤ W.heap.size) := Lib.hid hb
  have HF := Lib.hid (fun w => effectOf_any q c w hk.1.2.2.1 hk.1.2.2.2.2.2.1)
  have HG := Lib.hid hg
  have HO := Lib.hid hO
  have HL := Lib.hid (fun (w : World) (mb : Nat) (h : GMap w mb patchersL) => h.look Tryz.underlying137 (k := q.kind) hk.1.1 hl)
  obtain ⟨E, HEE⟩ : ∃ E, Hid (effC q c = E) := ⟨_, Lib.hid rfl⟩
  rw [HEE.out] at HF HG
  obtain ⟨ua, un, uc, rfl⟩ := hO.form
  clear hk hv hg HEE hl hO hb
  obtain ⟨rows, val, fnd⟩ := r
  simp only at HO ⊢
  obtain ⟨t, k, had, ⟨oa, ob, oc⟩, has, ⟨na, nb, nc⟩⟩ := c
  obtain ⟨qk, qt, qc, ql, qh, qy, qo⟩ := q
  unfold qV chV fnV at *
  simp only at *
  go_enter Tryz.func47, Tryz.ntmps47
  go_upto_region 1 with fail
  obtain ⟨w0, Hw0⟩ : ∃ w0, Hid ((((W.alloc (.cells #[.int .i64 qk, .int .i64 qt, .int .i64 qc, .int .i64 ql, .int .i64 qh, .int .i64 qy, .int .i64 qo] 28)).alloc (.cells #[.slice ua un uc, .int .i64 val, .bool fnd] 34)).alloc (.cells #[.int .i64 t, .int .i64 k, .bool had, .int .i64 oa, .int .i64 ob, .int .i64 oc, .bool has, .int .i64 na, .int .i64 nb, .int .i64 nc] 45)).alloc (.cells #[.slice none 0 0, .int .i64 0, .bool false] 34) = w0) := ⟨_, Lib.hid rfl⟩
  obtain ⟨hB0, hQ0, hR0, hC0, hZ0⟩ := four W (.cells #[.int .i64 qk, .int .i64 qt, .int .i64 qc, .int .i64 ql, .int .i64 qh, .int .i64 qy, .int .i64 qo] 28) (.cells #[.slice ua un uc, .int .i64 val, .bool fnd] 34) (.cells #[.int .i64 t, .int .i64 k, .bool had, .int .i64 oa, .int .i64 ob, .int .i64 oc, .bool has, .int .i64 na, .int .i64 nb, .int .i64 nc] 45) (.cells #[.slice none 0 0, .int .i64 0, .bool false] 34)
  rw [Hw0.out] at hB0 hQ0 hR0 hC0 hZ0 ⊢
  clear Hw0
  have HB0 := Lib.hid hB0
  have HQ0 := Lib.hid hQ0
  have HR0 := Lib.hid hR0
  have HC0 := Lib.hid hC0
  have HZ0 := Lib.hid hZ0
  clear hB0 hQ0 hR0 hC0 hZ0
  have HBd : Hid (Below w0.heap.size w0 w0.drew) := Lib.hid (below_drew _)
  have HK : Hid (∀ w : World, w.heap[W.heap.size]? = some (.cells #[.int .i64 qk, .int .i64 qt, .int .i64 qc, .int .i64 ql, .int .i64 qh, .int .i64 qy, .int .i64 qo] 28 (0, 0)) → w.heap[W.heap.size + 1 + 1]? = some (.cells #[.int .i64 t, .int .i64 k, .bool had, .int .i64 oa, .int .i64 ob, .int .i64 oc, .bool has, .int .i64 na, .int .i64 nb, .int .i64 nc] 45 (0, 0)) → w.cell? ⟨W.heap.size, 0, none⟩ = some (.int .i64 qk) ∧ w.cell? ⟨W.heap.size, 1, none⟩ = some (.int .i64 qt) ∧ w.cell? ⟨W.heap.size, 2, none⟩ = some (.int .i64 qc) ∧ w.cell? ⟨W.heap.size, 3, none⟩ = some (.int .i64 ql) ∧ w.cell? ⟨W.heap.size, 4, none⟩ = some (.int .i64 qh) ∧ w.cell? ⟨W.heap.size, 5, none⟩ = some (.int .i64 qy) ∧ w.cell? ⟨W.heap.size, 6, none⟩ = some (.int .i64 qo) ∧ w.cell? ⟨W.heap.size + 1 + 1, 0, none⟩ = some (.int .i64 t) ∧ w.cell? ⟨W.heap.size + 1 + 1, 1, none⟩ = some (.int .i64 k) ∧ w.cell? ⟨W.heap.size + 1 + 1, 2, none⟩ = some (.bool had) ∧ w.cell? ⟨W.heap.size + 1 + 1, 3, none⟩ = some (.int .i64 oa) ∧ w.cell? ⟨W.heap.size + 1 + 1, 4, none⟩ = some (.int .i64 ob) ∧ w.cell? ⟨W.heap.size + 1 + 1, 5, none⟩ = some (.int .i64 oc) ∧ w.cell? ⟨W.heap.size + 1 + 1, 6, none⟩ = some (.bool has) ∧ w.cell? ⟨W.heap.size + 1 + 1, 7, none⟩ = some (.int .i64 na) ∧ w.cell? ⟨W.heap.size + 1 + 1, 8, none⟩ = some (.int .i64 nb) ∧ w.cell? ⟨W.heap.size + 1 + 1, 9, none⟩ = some (.int .i64 nc)) := Lib.hid (fun w h1 h2 => by
    refine ⟨?_, ?_, ?_, ?_, ?_, ?_, ?_, ?_, ?_, ?_, ?_, ?_, ?_, ?_, ?_, ?_, ?_⟩ <;> simp [World.cell?, h1, h2])
  have HKb := Lib.hid (fun (w : World) (h : Hid (Below w0.heap.size w0 w)) => HK.out w ((h.out.block _ (lt_of_block HQ0.out)).trans HQ0.out) ((h.out.block _ (lt_of_block HC0.out)).trans HC0.out))
  have HKk := Lib.hid (fun (w w' : World) (h : Hid (Below w0.heap.size w0 w)) (k : Hid (Kept (fun i => i = W.heap.size + 1) w w')) => HK.out w' ((k.out.block _ (Nat.lt_of_lt_of_le (lt_of_block HQ0.out) h.out.size) (by omega)).trans ((h.out.block _ (lt_of_block HQ0.out)).trans HQ0.out)) ((k.out.block _ (Nat.lt_of_lt_of_le (lt_of_block HC0.out) h.out.size) (by omega)).trans ((h.out.block _ (lt_of_block HC0.out)).trans HC0.out)))
  have H117 : Hid (∀ w, Hid (Below w0.heap.size w0 w) → Calls Tryz.prog 91 #[] w fun e w' => ∃ mb, e = .returned (.map (some mb)) ∧ Hid (GMap w' mb patchersL) ∧ Hid (Below w0.heap.size w0 w')) := Lib.hid (fun w hb => (patchers_any w).mono fun e w' ⟨mb, h1, h2, h3⟩ => ⟨mb, h1, Lib.hid h2, Lib.hid (bt hb.out h3)⟩)
  have H78 : Hid (∀ w, Hid (Below w0.heap.size w0 w) → Calls Tryz.prog 44 #[.agg #[.int .i64 qk, .int .i64 qt, .int .i64 qc, .int .i64 ql, .int .i64 qh, .int .i64 qy, .int .i64 qo], .agg #[.int .i64 t, .int .i64 k, .bool had, .int .i64 oa, .int .i64 ob, .int .i64 oc, .bool has, .int .i64 na, .int .i64 nb, .int .i64 nc]] w fun e w' => e = .returned (.agg E) ∧ Hid (Below w.heap.size w w') ∧ Hid (Below w0.heap.size w0 w')) := Lib.hid (fun w hb => (HF.out w).mono fun e w' hw => ⟨hw.1, Lib.hid hw.2, Lib.hid (bt hb.out hw.2)⟩)
  have Hg : Hid (∀ w, Hid (Below w0.heap.size w0 w) → Calls Tryz.prog g #[.pointer (some ⟨W.heap.size + 1, 0, none⟩), .agg E] w fun e w' => ∃ bb, e = .returned (.bool bb) ∧ Hid (bb = RP.isSome) ∧ Hid (∀ r', RP = some r' → ResAt w' (W.heap.size + 1) base r') ∧ Hid (Kept (fun i => i = W.heap.size + 1) w w')) := Lib.hid (fun w hb => (HG.out w (W.heap.size + 1) ⟨_, (hb.out.block _ (lt_of_block HR0.out)).trans HR0.out, HO.out.below (bt HB0.out hb.out)⟩ (by have := HBs.out; have := HB0.out.size; have := hb.out.size; omega)).mono fun e w' ⟨h1, h2, h3⟩ => ⟨_, h1, Lib.hid rfl, Lib.hid h2, Lib.hid h3⟩)
  clear HF HG HK
  go_region_held3 (fun w => w.cell? ⟨W.heap.size, 0, none⟩ = some (.int .i64 qk) ∧ w.cell? ⟨W.heap.size, 1, none⟩ = some (.int .i64 qt) ∧ w.cell? ⟨W.heap.size, 2, none⟩ = some (.int .i64 qc) ∧ w.cell? ⟨W.heap.size, 3, none⟩ = some (.int .i64 ql) ∧ w.cell? ⟨W.heap.size, 4, none⟩ = some (.int .i64 qh) ∧ w.cell? ⟨W.heap.size, 5, none⟩ = some (.int .i64 qy) ∧ w.cell? ⟨W.heap.size, 6, none⟩ = some (.int .i64 qo) ∧ w.cell? ⟨W.heap.size + 1 + 1, 0, none⟩ = some (.int .i64 t) ∧ w.cell? ⟨W.heap.size + 1 + 1, 1, none⟩ = some (.int .i64 k) ∧ w.cell? ⟨W.heap.size + 1 + 1, 2, none⟩ = some (.bool had) ∧ w.cell? ⟨W.heap.size + 1 + 1, 3, none⟩ = some (.int .i64 oa) ∧ w.cell? ⟨W.heap.size + 1 + 1, 4, none⟩ = some (.int .i64 ob) ∧ w.cell? ⟨W.heap.size + 1 + 1, 5, none⟩ = some (.int .i64 oc) ∧ w.cell? ⟨W.heap.size + 1 + 1, 6, none⟩ = some (.bool has) ∧ w.cell? ⟨W.heap.size + 1 + 1, 7, none⟩ = some (.int .i64 na) ∧ w.cell? ⟨W.heap.size + 1 + 1, 8, none⟩ = some (.int .i64 nb) ∧ w.cell? ⟨W.heap.size + 1 + 1, 9, none⟩ = some (.int .i64 nc))
    (first | exact HKb.out _ HBd | exact HKb.out _ HB3 | exact HKb.out _ HB4 | exact HKk.out _ _ HB4 HK5)
    (first
      | (go_at_call 91; (with_reducible refine (H117.out _ HBd).mono ?_); rintro e w3 ⟨mb, rfl, HM, HB3⟩; have l3 := HL.out _ _ HM.out)
      | (go_at_call 44; (with_reducible refine (H78.out _ HB3).mono ?_); rintro e w4 ⟨rfl, HB34, HB4⟩; have l4 := HL.out _ _ (HM.out.below HB34.out))
      | ((with_reducible refine (Hg.out _ HB4).mono ?_); rintro e w5 ⟨bb, rfl, HBB, HPr, HK5⟩))
  all_goals
    have HB5 : Hid (Below W.heap.size W w5) := Lib.hid ((bt HB0.out HB4.out).trans (HK5.out.below (n := W.heap.size) (by have := HB0.out.size; have := HB4.out.size; omega) (fun k e => by omega)))
    have HZ5 : Hid (w5.heap[W.heap.size + 1 + 1 + 1]? = some (.cells #[.slice none 0 0, .int .i64 0, .bool false] 34 (0, 0))) := Lib.hid ((HK5.out.block _ (Nat.lt_of_lt_of_le (lt_of_block HZ0.out) HB4.out.size) (by omega)).trans ((HB4.out.block _ (lt_of_block HZ0.out)).trans HZ0.out))
    have HP5 := HPr
    have HBb := HBB
    clear HL H117 H78 Hg HKb HKk HPr HBB l3 HM HB3 HK5 HB4 HB0
    cases RP with
    | none =>
      obtain rfl : bb = false := HBb.out.trans rfl
      clear HP5 HBb
      go_wp2_with (refine wpList_store_row rfl 34 _ _ rfl (W.heap.size + 1 + 1 + 1) #[.slice none 0 0, .int .i64 0, .bool false] rfl rfl 34 _ HZ5.out (by kernel_rfl) rfl (by simp [Value.oneCell']) ?_)
      generalize hw6 : w5.setRow _ _ = w6
      have HZ6 : Hid (w6.heap[W.heap.size + 1 + 1 + 1]? = some (.cells #[.slice none 0 0, .int .i64 0, .bool false] 34 (0, 0))) := Lib.hid (by rw [← hw6]; exact setRow_heap _ _ _ _ _ _ HZ5.out)
      have HB6 : Hid (Below W.heap.size W w6) := Lib.hid (by rw [← hw6]; exact below_row HB5.out (by omega) _)
      refine bodyPost_ret (v := .tuple #[.agg #[.slice none 0 0, .int .i64 0, .bool false], .bool false]) (by simp [results, Tryz.results47, go_sem, World.cell?, HZ6.out]) rfl ?_
      exact ⟨_, rfl, OwnR.nil _ _, HB6.out⟩
    | some r' =>
      obtain rfl : bb = true := HBb.out.trans rfl
      obtain ⟨u', hu', hO'⟩ := HP5.out r' rfl
      obtain ⟨ya, yn, yc, rfl⟩ := hO'.form
      have HU5 := Lib.hid hu'
      have HO5 := Lib.hid hO'
      clear HP5 HBb hu' hO'
      obtain ⟨rows', val', fnd'⟩ := r'
      simp only at HU5 HO5
      go_wp2_with (first
        | refine wpList_load_row rfl 34 _ rfl (W.heap.size + 1) rfl 34 #[.slice ya yn yc, .int .i64 val', .bool fnd'] _ _ HU5.out Tryz.underlying34 rfl (by kernel_rfl) ?_
        | refine wpList_store_row rfl 34 _ _ rfl (W.heap.size + 1 + 1 + 1) #[.slice ya yn yc, .int .i64 val', .bool fnd'] rfl rfl 34 _ HZ5.out (by kernel_rfl) rfl (by simp [Value.oneCell']) ?_)
      generalize hw6 : w5.setRow _ _ = w6
      have HZ6 : Hid (w6.heap[W.heap.size + 1 + 1 + 1]? = some (.cells #[.slice ya yn yc, .int .i64 val', .bool fnd'] 34 (0, 0))) := Lib.hid (by rw [← hw6]; exact setRow_heap _ _ _ _ _ _ HZ5.out)
      have HB6 : Hid (Below W.heap.size W w6) := Lib.hid (by rw [← hw6]; exact below_row HB5.out (by omega) _)
      have HO6 : Hid (OwnR w6 base (.slice ya yn yc) rows') := Lib.hid (by
        rw [← hw6]
        exact HO5.out.kept' (F := fun k => k = W.heap.size + 1 + 1 + 1) (kept_row (F := fun k => k = W.heap.size + 1 + 1 + 1) (Kept.of_below (Below.refl _ _)) (.inl rfl) _) (fun i hi e => own_ne HO5.out HZ5.out (by decide) i hi e))
      refine bodyPost_ret (v := .tuple #[.agg #[.slice ya yn yc, .int .i64 val', .bool fnd'], .bool true]) (by simp [results, Tryz.results47, go_sem, World.cell?, HZ6.out]) rfl ?_
      exact ⟨_, rfl, HO6.out, HB6.out⟩
end Go.Proofs.YtgbnjjgnihjfgaaGreat
end
