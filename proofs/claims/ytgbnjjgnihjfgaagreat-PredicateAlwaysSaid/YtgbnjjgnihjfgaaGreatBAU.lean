/- X9, FA, FR, FX, FY -/
import Derived.Test.YtgbnjjgnihjfgaaGreatProg
import Derived.WalkKit
import Derived.Below
import Derived.Lib.Hide
import Derived.Laws.StructEq
import Derived.Lib.QuietBelow
import Derived.Deep.RegionHeld3
import Derived.Deep.RegionWith
import Derived.IntWalk
import Derived.BigQuiet
import Derived.Maps.RangeWalk
import Derived.DeepKeys4
import Derived.OneCell
import Derived.StillTail
import Derived.Deep.CutRange
import Derived.Outline
import Derived.WalkSpells
import Derived.Carry
import Derived.Shelf.SlGeneric
import Derived.Shelf.SlSortCmp.WholeK
import Derived.Shelf.SlicesG.Cmp
import Derived.Ground.SlsfProg
import Derived.Ground.SlgcProg
import Derived.Sort.OwnSorted
import Derived.Deep.AppendLies
import Derived.Shelf.SlSortCmp.NoneTotal
import Derived.Deep.QuietTactic
import Derived.Laws.AppendOwnNone
import Derived.ArgAppend
import Derived.Laws.Rows
import Derived.Great.BuildSlice
import Derived.Great.Frames
import Derived.Laws.EntriesVeiled
import Derived.Lib.SliceRun
import Derived.Deep.Cut
import Derived.Laws.ResultCell
import Derived.Deep.RegionLawGrows
import Derived.Deep.DeepCutAuto
import Derived.Test.YtgbnjjgnihjfgaaGreatBAM
import Derived.Test.YtgbnjjgnihjfgaaGreatBAE
import Derived.Test.YtgbnjjgnihjfgaaGreatBAB
import Derived.Test.YtgbnjjgnihjfgaaGreatBAT
import Derived.Test.YtgbnjjgnihjfgaaGreatBAA
import Derived.Test.YtgbnjjgnihjfgaaGreatBAC
import Derived.Test.YtgbnjjgnihjfgaaGreatBAD
import Derived.Test.YtgbnjjgnihjfgaaGreatBAF
import Derived.Test.YtgbnjjgnihjfgaaGreatBAG
import Derived.Test.YtgbnjjgnihjfgaaGreatRows
import Derived.ProofKit
import Derived.OpenShut
import Derived.Deep.Strs
import Derived.Deep.Slices
import Derived.Test.YtgbnjjgnihjfgaaGreatBAS
section
set_option linter.unusedVariables false
set_option linter.unusedSimpArgs false
namespace Go.Proofs.YtgbnjjgnihjfgaaGreat
open Go.RowKit Go.Sort Go.ChangeMaps Go.MapKept

/-- The outer loop's state. -/
def LogSt (W wr : World) (b : Nat) (vo : Value) (n : Nat) : Prop :=
  ∃ Q vs, RfAt wr b vs (rowsOf (Q.map Prod.fst)) Q.length ∧ OwnQ wr W.heap.size vo Q ∧ (∀ q ∈ Q, OwnC wr W.heap.size q.2 q.1.chs) ∧ Chn (Q.map Prod.fst) ∧ (∀ q ∈ Q, ∀ c ∈ q.1.chs, Small c) ∧ Q.length ≤ n ∧ Below W.heap.size W wr
/-- The inner loop's state. -/
def ChgSt (W wr : World) (vl : Value) (n : Nat) : Prop := ∃ cs, OwnC wr W.heap.size vl cs ∧ (∀ c ∈ cs, Small c) ∧ cs.length ≤ n ∧ Below W.heap.size W wr

set_option maxRecDepth 100000 in
set_option maxHeartbeats 16000000 in
theorem log_walk {W : World} {v : Value} {n : Nat} (h : XS W v n) (hn : n ≤ 1000) : Calls Tryz.prog 11 #[v] W (LogOut W n) := by
  obtain ⟨a, cap, rfl, hc1, hc2, hcell⟩ := h
  have HX : Hid (1 ≤ n → ∃ b o, a = some ⟨b, o, none⟩ ∧ b < W.heap.size ∧ ∀ i j, i < n → j < 6 → ∃ z, I64 z ∧ W.cell? ⟨b, o + i * 6 + j, none⟩ = some (.int .i64 z)) := Lib.hid hcell
  have HNew := Lib.hid (newR_any W)
  clear hcell
  go_enter Tryz.func11, Tryz.ntmps11
  go_wp2_with fail
  (with_reducible refine HNew.out.mono ?_)
  rintro e w1 ⟨rfl, hw1⟩
  have HL1 : Hid (LogSt W w1 W.heap.size (.slice none 0 0) 0) := Lib.hid ⟨[], _, by rw [hw1]; exact rfAt_new W, OwnQ.nil _ _, fun q hq => by simp at hq, Chn.nil, fun q hq => by simp at hq, Nat.le_refl _, by rw [hw1]; exact ba _ _⟩
  clear hw1
  go_wp2_with fail
  go_loopw [3, 5] (fun vo i wr => ∃ k : Nat, k ≤ n ∧ i = .int .i64 k ∧ Hid (LogSt W wr W.heap.size vo k)) (fun _ i _ => n - (intOf i).toNat)
  case atStart => exact ⟨0, by omega, rfl, HL1⟩
  case round => as_aux_lemma =>
    obtain ⟨k, hk, rfl, HL⟩ := hrel
    obtain ⟨vo, hvo⟩ : ∃ v, v = u3 := ⟨_, rfl⟩
    subst hvo
    clear HL1
    by_cases hlt : k < n
    · obtain ⟨vb, xo, rfl, hvb, hxs⟩ := HX.out (by omega)
      have hxk : Hid (∀ j, j < 6 → ∃ z, I64 z ∧ W.cell? ⟨vb, xo + k * 6 + j, none⟩ = some (.int .i64 z)) := Lib.hid (fun j hj => hxs k j hlt hj)
      clear hxs
      go_wp2_with fail
      obtain ⟨wo, hwo⟩ : ∃ wo, wo = wr := ⟨_, rfl⟩
      subst hwo
      have HC0 : Hid (ChgSt wo wo (.slice none 0 0) 0) := Lib.hid ⟨[], OwnC.nil _ _, fun c hc => by simp at hc, Nat.le_refl _, Below.refl _ _⟩
      go_loopw [6, 7] (fun vl i wx => ∃ j : Nat, j ≤ 3 ∧ i = .int .i64 j ∧ Hid (ChgSt wo wx vl j)) (fun _ i _ => 3 - (intOf i).toNat)
      case atStart => exact ⟨0, by omega, rfl, HC0⟩
      case round => as_aux_lemma =>
        obtain ⟨j, hj, rfl, HC⟩ := hrel
        clear HC0
        by_cases hj3 : j < 3
        · have dj : decide ((j : Int) < 3) = true := decide_eq_true (by omega)
          have HBo : Hid (Below W.heap.size W wr) := Lib.hid (by
            obtain ⟨Q, vs, _, _, _, _, _, _, h1⟩ := HL.out
            obtain ⟨cs, _, _, _, h2⟩ := HC.out
            exact bt h1 h2)
          obtain ⟨z0, hz0, x0⟩ := hxk.out (2 * j) (by omega)
          obtain ⟨z1, hz1, x1⟩ := hxk.out (2 * j + 1) (by omega)
          replace x0 := (HBo.out.cell (p := ⟨vb, xo + k * 6 + 2 * j, none⟩) hvb).trans x0
          replace x1 := (HBo.out.cell (p := ⟨vb, xo + k * 6 + (2 * j + 1), none⟩) hvb).trans x1
          unfold I64 at hz0 hz1
          go_upto_if 37 with fail
          go_cut [8] (fun s8 wc => (∃ N : Int, s8 = .int .i64 N ∧ 0 ≤ N ∧ N ≤ 9223372036854775807) ∧ wc = wr)
          case first => as_aux_lemma =>
            by_cases hz : z0 < 0
            · go_wp2_with fail
              go_meet
              exact ⟨⟨_, rfl, by omega, by omega⟩, rfl⟩
            · go_wp2_with fail
              go_meet
              exact ⟨⟨_, rfl, by omega, by omega⟩, rfl⟩
          case rest => as_aux_lemma =>
            obtain ⟨⟨N, rfl, hN0, hN1⟩, rfl⟩ := hcut
            go_upto_if 50 with fail
            go_cut [9] (fun s9 wy => (∃ N : Int, s9 = .int .i64 N ∧ 0 ≤ N ∧ N ≤ 9223372036854775807) ∧ wy = wc)
            case first => as_aux_lemma =>
              by_cases hz : z1 < 0
              · go_wp2_with fail
                go_meet
                exact ⟨⟨_, rfl, by omega, by omega⟩, rfl⟩
              · go_wp2_with fail
                go_meet
                exact ⟨⟨_, rfl, by omega, by omega⟩, rfl⟩
            case rest => as_aux_lemma =>
              obtain ⟨⟨M, rfl, hM0, hM1⟩, rfl⟩ := hcut
              clear x0 x1 hz0 hz1 z0 z1
              obtain ⟨Q, vs, HF0, HO0, HCs0, HCh0, HSm0, hQl, hBw⟩ := HL.out
              obtain ⟨cs, hcs1, hcs2, hcs3, hcs4⟩ := HC.out
              obtain ⟨t, Ht⟩ : ∃ t, Hid (N % 3 = t ∧ 0 ≤ t ∧ t ≤ 2) := ⟨_, Lib.hid ⟨rfl, by omega, by omega⟩⟩
              obtain ⟨kk, Hk⟩ : ∃ kk, Hid (1 + N / 3 % 9 = kk ∧ 1 ≤ kk ∧ kk ≤ 9) := ⟨_, Lib.hid ⟨rfl, by omega, by omega⟩⟩
              have HRw := Lib.hid (HF0.below hcs4)
              have HCw := Lib.hid (show ChgSt wo wc u6 j from ⟨cs, hcs1, hcs2, hcs3, hcs4⟩)
              clear HF0 HO0 HCs0 HCh0 HSm0 hBw hcs1 hcs2 hcs3 hcs4
              go_wp2_with fail
              rw [Ht.out.1, Hk.out.1]
              refine (getR_any (HRw.out.below (ba wc _)) t kk).mono ?_
              rintro e w3 ⟨rfl, hb3⟩
              obtain ⟨⟨t', k', ⟨a', b', c'⟩⟩, Hr⟩ : ∃ r, Hid ((look (rowsOf (Q.map Prod.fst)) t kk).getD rowZ = r) := ⟨_, Lib.hid rfl⟩
              obtain ⟨ok, Ho⟩ : ∃ ok, Hid ((look (rowsOf (Q.map Prod.fst)) t kk).isSome = ok) := ⟨_, Lib.hid rfl⟩
              rw [Hr.out, Ho.out]
              unfold rowV
              have HB3 := Lib.hid (bt (ba wc _) hb3)
              have HC3 : Hid (w3.heap[wc.heap.size]? = some (.cells (chCells ⟨t, kk, false, ⟨0, 0, 0⟩, false, ⟨0, 0, 0⟩⟩) 45 (0, 0))) := Lib.hid ((hb3.block _ (by simp)).trans (MapKept.heap_alloc wc _).1)
              have hz3 : wc.heap.size < w3.heap.size := lt_of_block HC3.out
              have hwne : ¬ wc.heap.size = w3.heap.size := by omega
              have e0 : w3.cell? ⟨wc.heap.size, 0, none⟩ = some (.int .i64 t) := by simp [World.cell?, HC3.out, chCells]
              have e1 : w3.cell? ⟨wc.heap.size, 1, none⟩ = some (.int .i64 kk) := by simp [World.cell?, HC3.out, chCells]
              have e2 : w3.cell? ⟨wc.heap.size, 2, none⟩ = some (.bool false) := by simp [World.cell?, HC3.out, chCells]
              have e3 : w3.cell? ⟨wc.heap.size, 3, none⟩ = some (.int .i64 0) := by simp [World.cell?, HC3.out, chCells]
              have e4 : w3.cell? ⟨wc.heap.size, 4, none⟩ = some (.int .i64 0) := by simp [World.cell?, HC3.out, chCells]
              have e5 : w3.cell? ⟨wc.heap.size, 5, none⟩ = some (.int .i64 0) := by simp [World.cell?, HC3.out, chCells]
              have e6 : w3.cell? ⟨wc.heap.size, 6, none⟩ = some (.bool false) := by simp [World.cell?, HC3.out, chCells]
              have e7 : w3.cell? ⟨wc.heap.size, 7, none⟩ = some (.int .i64 0) := by simp [World.cell?, HC3.out, chCells]
              have e8 : w3.cell? ⟨wc.heap.size, 8, none⟩ = some (.int .i64 0) := by simp [World.cell?, HC3.out, chCells]
              have e9 : w3.cell? ⟨wc.heap.size, 9, none⟩ = some (.int .i64 0) := by simp [World.cell?, HC3.out, chCells]
              have f0 : ∀ j, w3.frozen? ⟨wc.heap.size, j, none⟩ = false := fun j => by simp [World.frozen?, HC3.out]
              clear hb3
              go_upto_region 20 with fail
              go_cut [] (fun wy => ∃ has : Bool, Hid (CBk wc.heap.size w3 wy ⟨t, kk, ok, ⟨a', b', c'⟩, has, ⟨0, 0, 0⟩⟩))
              case first => as_aux_lemma =>
                cases ok
                · go_wp2_with fail
                  go_meet
                  exact ⟨true, Lib.hid ((cbk_had HC3.out).alloc _)⟩
                · by_cases hm : 0 < M % 4
                  · go_wp2_with fail
                    go_meet
                    exact ⟨true, Lib.hid ((cbk_had HC3.out).alloc _)⟩
                  · go_wp2_with fail
                    go_meet
                    exact ⟨false, Lib.hid ((cbk_had HC3.out).alloc _)⟩
              case rest => as_aux_lemma =>
                obtain ⟨has, HK1⟩ := hcut
                clear e0 e1 e2 e3 e4 e5 e6 e7 e8 e9 f0
                rename World => wy
                obtain ⟨⟨e0, e1, e2, e3, e4, e5, e6, e7, e8, e9⟩, f0⟩ := HK1.out.cells
                go_upto_if 84 with fail
                go_cut [] (fun wz => ∃ c : MCh, Hid (CBk wc.heap.size w3 wz c) ∧ Hid (Small c))
                case first => as_aux_lemma =>
                  have h4 := Ht.out
                  have h5 := Hk.out
                  cases has
                  · go_wp2_with fail
                    go_meet
                    exact ⟨_, HK1, Lib.hid ⟨h4.2.1, h4.2.2, h5.2.1, h5.2.2, by simp, by simp⟩⟩
                  · go_wp2_with fail
                    go_meet
                    refine ⟨_, Lib.hid (cbk_new HK1.out), Lib.hid ?_⟩
                    have hM4 : 0 ≤ M / 4 % 10 ∧ M / 4 % 10 ≤ 9 := by omega
                    exact ⟨h4.2.1, h4.2.2, h5.2.1, h5.2.2, hM4.1, hM4.2⟩
                case rest => as_aux_lemma =>
                  obtain ⟨⟨ct, ck, chad, ⟨coa, cob, coc⟩, chas, ⟨cna, cnb, cnc⟩⟩, HK2, HSm⟩ := hcut
                  clear e0 e1 e2 e3 e4 e5 e6 e7 e8 e9 f0 HK1
                  rename World => wz
                  obtain ⟨cs, hcs1, hcs2, hcs3, hcs4⟩ := HCw.out
                  have HBz : Hid (Below wc.heap.size wc wz) := Lib.hid (((Kept.of_below (F := fun i => i = wc.heap.size) HB3.out).trans HK2.out.2 (fun _ _ f => f)).below (Nat.le_refl _) (fun i f => by omega))
                  have HOz : Hid (OwnC wz wo.heap.size u6 cs) := Lib.hid (hcs1.below HBz.out)
                  have HBo2 : Hid (Below wo.heap.size wo wz) := Lib.hid (bt hcs4 HBz.out)
                  have HCsm : Hid (∀ c ∈ cs, Small c) := Lib.hid hcs2
                  have hcl : cs.length ≤ 3 := by omega
                  have HCj : Hid (cs.length ≤ j) := Lib.hid hcs3
                  obtain ⟨ul, un, ucap, rfl, hun, hu1, hu2, hu3⟩ := HOz.out.chS
                  subst hun
                  have HU : Hid (1 ≤ cs.length → ∃ b o, ul = some ⟨b, o, none⟩ ∧ b < wz.heap.size ∧ ∀ i, i < cs.length → ChAt wz b (o + i * 10) (cs.getD i chZ)) := Lib.hid hu3
                  clear hcs1 hcs2 hcs3 hcs4 hu3
                  go_wp2_with fail
                  go_loopw [13, 14] (fun kn i wq => ∃ (bk : Bool) (m : Nat), kn = .bool bk ∧ m ≤ cs.length ∧ i = .int .i64 m ∧ Hid (Below wz.heap.size wz wq)) (fun _ i _ => cs.length - (intOf i).toNat)
                  case atStart => exact ⟨false, 0, rfl, by omega, rfl, Lib.hid (Below.refl _ _)⟩
                  case round => as_aux_lemma =>
                    obtain ⟨bk, m, rfl, hm, rfl, HBq⟩ := hrel
                    rename World => wq
                    by_cases hml : m < cs.length
                    · obtain ⟨lb, lo, rfl, hlb, hla⟩ := HU.out (by omega)
                      have HCm := (hla m hml).below hlb HBq.out
                      clear hla
                      obtain ⟨⟨lt, lk, lhad, ⟨loa, lob, loc⟩, lhas, ⟨lna, lnb, lnc⟩⟩, Hlc⟩ : ∃ c, Hid (cs.getD m chZ = c) := ⟨_, Lib.hid rfl⟩
                      rw [Hlc.out] at HCm
                      obtain ⟨d0, d1, d2', d3, d4, d5, d6, d7, d8, d9⟩ := HCm.cells
                      obtain ⟨⟨e0, e1, e2, e3, e4, e5, e6, e7, e8, e9⟩, f0⟩ := (HK2.out.below HBq.out).cells
                      clear HCm d2' d3 d4 d5 d6 d7 d8 d9 e2 e3 e4 e5 e6 e7 e8 e9
                      have hmi : (m : Int) < cs.length := by omega
                      cases bk
                      · by_cases g : lt = ct
                        · have dg : (lt == ct) = true := by simp [g]
                          clear g
                          go_wp2_with fail
                          go_quiet (fail)
                          have HB2 := Lib.hid (bt HBq.out (below_drewN wq nq))
                          go_wp2_with fail
                          exact ⟨⟨_, m + 1, rfl, by omega, by go_num, HB2⟩, by simp [intOf]; omega⟩
                        · have dg : (lt == ct) = false := by simp [g]
                          clear g
                          go_wp2_with fail
                          go_quiet (fail)
                          have HB2 := Lib.hid (bt HBq.out (below_drewN wq nq))
                          go_wp2_with fail
                          exact ⟨⟨_, m + 1, rfl, by omega, by go_num, HB2⟩, by simp [intOf]; omega⟩
                      · go_wp2_with fail
                        go_quiet (fail)
                        have HB2 := Lib.hid (bt HBq.out (below_drewN wq nq))
                        go_wp2_with fail
                        exact ⟨⟨_, m + 1, rfl, by omega, by go_num, HB2⟩, by simp [intOf]; omega⟩
                    · obtain rfl : m = cs.length := by omega
                      have HK3 := Lib.hid (HK2.out.below HBq.out)
                      obtain ⟨⟨e0, e1, e2, e3, e4, e5, e6, e7, e8, e9⟩, f0⟩ := HK3.out.cells
                      have heq := fun w => eql3 coa cob coc cna cnb cnc w
                      go_upto_region 28 with fail
                      go_cut [149] (fun s149 wy => (∃ x : Bool, s149 = .bool x) ∧ wy = wq)
                      case first => as_aux_lemma =>
                        obtain ⟨ve, Hve⟩ : ∃ ve, Hid (v3e ⟨coa, cob, coc⟩ ⟨cna, cnb, cnc⟩ = ve) := ⟨_, Lib.hid rfl⟩
                        simp only [Hve.out] at heq
                        cases bk
                        · cases chad
                          · by_cases hj0 : 0 < j
                            · have dj0 : decide ((0 : Int) < (j : Int)) = true := decide_eq_true (by omega)
                              go_wp2_with fail
                              go_meet
                              exact ⟨⟨_, rfl⟩, rfl⟩
                            · have dj0 : decide ((0 : Int) < (j : Int)) = false := decide_eq_false (by omega)
                              go_wp2_with fail
                              go_meet
                              exact ⟨⟨_, rfl⟩, rfl⟩
                          · cases chas
                            · by_cases hj0 : 0 < j
                              · have dj0 : decide ((0 : Int) < (j : Int)) = true := decide_eq_true (by omega)
                                go_wp2_with fail
                                go_meet
                                exact ⟨⟨_, rfl⟩, rfl⟩
                              · have dj0 : decide ((0 : Int) < (j : Int)) = false := decide_eq_false (by omega)
                                go_wp2_with fail
                                go_meet
                                exact ⟨⟨_, rfl⟩, rfl⟩
                            · cases ve
                              · by_cases hj0 : 0 < j
                                · have dj0 : decide ((0 : Int) < (j : Int)) = true := decide_eq_true (by omega)
                                  go_wp2_with fail
                                  go_meet
                                  exact ⟨⟨_, rfl⟩, rfl⟩
                                · have dj0 : decide ((0 : Int) < (j : Int)) = false := decide_eq_false (by omega)
                                  go_wp2_with fail
                                  go_meet
                                  exact ⟨⟨_, rfl⟩, rfl⟩
                              · go_wp2_with fail
                                go_meet
                                exact ⟨⟨_, rfl⟩, rfl⟩
                        · go_wp2_with fail
                          go_meet
                          exact ⟨⟨_, rfl⟩, rfl⟩
                      case rest => as_aux_lemma =>
                        obtain ⟨⟨x, rfl⟩, rfl⟩ := hcut
                        rename World => wq
                        cases x
                        · as_aux_lemma =>
                            have HOq := Lib.hid (HOz.out.below HBq.out)
                            have HBoq := Lib.hid (bt HBo2.out HBq.out)
                            clear e0 e1 e2 e3 e4 e5 e6 e7 e8 e9 f0 heq
                            go_wp2_with fail
                            go_loopw [15] (fun s wx => ∃ q : Nat, q ≤ cs.length ∧ s = .int .i64 q ∧ Hid (Below wq.heap.size wq wx)) (fun s _ => (intOf s).toNat)
                            case atStart => exact ⟨cs.length, Nat.le_refl _, rfl, Lib.hid (Below.refl _ _)⟩
                            case round => as_aux_lemma =>
                              obtain ⟨q, hq, rfl, HBr⟩ := hrel
                              rename World => wr
                              go_upto_region 30 with fail
                              go_cut [186] (fun s wy => (∃ b : Bool, s = .bool b ∧ Hid (b = true → 0 < q)) ∧ Hid (Below wr.heap.size wr wy))
                              case first => as_aux_lemma =>
                                have HK4 := Lib.hid (HK3.out.below HBr.out)
                                obtain ⟨⟨e0, e1, e2, e3, e4, e5, e6, e7, e8, e9⟩, f0⟩ := HK4.out.cells
                                clear e2 e3 e4 e5 e6 e7 e8 e9 f0
                                by_cases hq0 : 0 < q
                                · obtain ⟨x, rfl⟩ : ∃ x, q = x + 1 := ⟨q - 1, by omega⟩
                                  obtain ⟨lb, lo, rfl, hlb, hla⟩ := HU.out (by omega)
                                  have HCm := ((hla x (by omega)).below hlb HBq.out).below (Nat.lt_of_lt_of_le hlb HBq.out.size) HBr.out
                                  clear hla
                                  obtain ⟨⟨lt, lk, lhad, ⟨loa, lob, loc⟩, lhas, ⟨lna, lnb, lnc⟩⟩, Hlc⟩ : ∃ c, Hid (cs.getD x chZ = c) := ⟨_, Lib.hid rfl⟩
                                  rw [Hlc.out] at HCm
                                  obtain ⟨d0, d1, d2', d3, d4, d5, d6, d7, d8, d9⟩ := HCm.cells
                                  clear HCm d2' d3 d4 d5 d6 d7 d8 d9
                                  have g0 : decide ((0 : Int) < (x : Int) + 1) = true := decide_eq_true (by omega)
                                  have gw : IntKind.i64.wrap ((x : Int) + 1 - 1) = (x : Int) := by rw [IntKind.wrap_i64]; omega
                                  have hxi : (x : Int) < cs.length := by omega
                                  by_cases c1 : ct < lt
                                  · have g1 : decide (ct < lt) = true := decide_eq_true c1
                                    clear c1
                                    go_quiet (fail)
                                    have HB2 := Lib.hid (below_drewN wr nq)
                                    go_wp2_with fail
                                    go_meet
                                    exact ⟨⟨_, rfl, Lib.hid (fun _ => hq0)⟩, HB2⟩
                                  · have g1 : decide (ct < lt) = false := decide_eq_false c1
                                    clear c1
                                    by_cases c2 : lt = ct
                                    · have g2 : (lt == ct) = true := by simp [c2]
                                      clear c2
                                      go_quiet (fail)
                                      have HB2 := Lib.hid (below_drewN wr nq)
                                      go_wp2_with fail
                                      go_meet
                                      exact ⟨⟨_, rfl, Lib.hid (fun _ => hq0)⟩, HB2⟩
                                    · have g2 : (lt == ct) = false := by simp [c2]
                                      clear c2
                                      go_quiet (fail)
                                      have HB2 := Lib.hid (below_drewN wr nq)
                                      go_wp2_with fail
                                      go_meet
                                      exact ⟨⟨_, rfl, Lib.hid (fun _ => hq0)⟩, HB2⟩
                                · obtain rfl : q = 0 := by omega
                                  go_quiet (fail)
                                  have HB2 := Lib.hid (below_drewN wr nq)
                                  go_wp2_with fail
                                  go_meet
                                  exact ⟨⟨_, rfl, Lib.hid (fun h => by simp at h)⟩, HB2⟩
                              case rest => as_aux_lemma =>
                                obtain ⟨⟨b, rfl, Hb⟩, HBy0⟩ := hcut
                                rename World => wy
                                have HBy := Lib.hid (bt HBr.out HBy0.out)
                                have HK5 := Lib.hid (HK3.out.below HBy.out)
                                have HOy := Lib.hid (HOq.out.below HBy.out)
                                cases b
                                · obtain ⟨⟨e0, e1, e2, e3, e4, e5, e6, e7, e8, e9⟩, f0⟩ := HK5.out.cells
                                  obtain ⟨_, hcap1, hcap2, hform⟩ := ownC_cases HOy.out
                                  rcases hform with ⟨rfl, rfl, rfl⟩ | ⟨g, rfl, hglt⟩
                                  · obtain rfl : q = 0 := by simpa using hq

                                    have HT : Hid (∀ w, Below wy.heap.size wy w → RdX w 10 (.slice none 0 0) 0 (flatC (([] : List MCh).take 0))) := Lib.hid (fun w hB => ⟨rfl, .inl ⟨rfl, rfl⟩⟩)
                                    have HD : Hid (∀ w, Below wy.heap.size wy w → RdX w 10 (.slice none 0 0) 0 (flatC (([] : List MCh).drop 0))) := Lib.hid (fun w hB => ⟨rfl, .inl ⟨rfl, rfl⟩⟩)
                                    go_upto_region 32 with fail
                                    refine wp_region_front [0, 1, 2, 3, 6, 7, 8] [4, 5, 9, 10, 11] Tryz.follows (by kernel_rfl) ?_
                                    intro wz2 hbz
                                    have HBz2 := Lib.hid hbz
                                    have HKz := Lib.hid (HK5.out.below hbz)
                                    clear e0 e1 e2 e3 e4 e5 e6 e7 e8 e9 f0 hbz
                                    obtain ⟨⟨e0, e1, e2, e3, e4, e5, e6, e7, e8, e9⟩, f0⟩ := HKz.out.cells
                                    simp only [pickO, List.filterMap_cons, List.filterMap_nil, List.getElem?_cons_zero, List.getElem?_cons_succ]
                                    iterate 7
                                      apply wpFront_want
                                      · rfl
                                      · intro K hK
                                        go_big_quiet_op
                                        exact hK
                                    refine wpFront_nil ?_
                                    refine insert_C 10 193 194 192 197 198 199 6 rfl rfl rfl rfl rfl rfl rfl rfl rfl rfl rfl rfl rfl rfl rfl (by simp) (by decide) wc.heap.size ⟨ct, ck, chad, ⟨coa, cob, coc⟩, chas, ⟨cna, cnb, cnc⟩⟩ HKz.out.1 rfl none 0 (([] : List MCh).take 0) rfl (.slice none 0 0) 0 (([] : List MCh).drop 0) rfl (fun w' hB => HT.out w' (bt HBz2.out hB)) (fun w' hB => HD.out w' (bt HBz2.out hB)) (by omega) (by omega) ?_
                                    intro v9 v10 w10 ho10 hb10
                                    have HO10 := Lib.hid ho10
                                    have HB10 : Hid (Below wy.heap.size wy w10) := Lib.hid (bt HBz2.out hb10)
                                    clear ho10 hb10
                                    refine NoPanic.normal ?_
                                    have HCn : Hid (ChgSt wo w10 v10 (j + 1)) := Lib.hid ⟨_, HO10.out.mono (Nat.le_trans HBoq.out.size (Nat.le_trans HBy.out.size HBz2.out.size)), fun d hd => by
                                      rcases List.mem_append.1 hd with hd | hd
                                      · exact HCsm.out _ (List.mem_of_mem_take hd)
                                      · rcases List.mem_cons.1 hd with rfl | hd
                                        · exact HSm.out
                                        · exact HCsm.out _ (List.mem_of_mem_drop hd), by have := HCj.out; simp only [List.length_append, List.length_cons, List.length_take, List.length_drop]; omega, bt HBoq.out (bt HBy.out HB10.out)⟩
                                    go_wp2_with fail
                                    exact ⟨⟨j + 1, by omega, by go_num, HCn⟩, by simp [intOf]; omega⟩
                                  · have hq1000 : q ≤ 1000 := by omega
                                    by_cases hqc : ucap = q
                                    · subst hqc
                                      have HT : Hid (∀ w, Below wy.heap.size wy w → RdX w 10 (.slice (some ⟨g, 0, none⟩) ucap ucap) ucap (flatC (cs.take ucap))) := Lib.hid (fun w hB => rdxC_take HOy.out hB ucap ucap hq)
                                      have HD : Hid (∀ w, Below wy.heap.size wy w → RdX w 10 (.slice (some ⟨g, 0, none⟩) 0 0) 0 (flatC (cs.drop ucap))) := Lib.hid (fun w hB => rdxC_drop HOy.out hB ucap 0 0 0 (by omega) (fun h => by omega))
                                      go_upto_region 32 with fail
                                      refine wp_region_front [0, 1, 2, 3, 6, 7, 8] [4, 5, 9, 10, 11] Tryz.follows (by kernel_rfl) ?_
                                      intro wz2 hbz
                                      have HBz2 := Lib.hid hbz
                                      have HKz := Lib.hid (HK5.out.below hbz)
                                      clear e0 e1 e2 e3 e4 e5 e6 e7 e8 e9 f0 hbz
                                      obtain ⟨⟨e0, e1, e2, e3, e4, e5, e6, e7, e8, e9⟩, f0⟩ := HKz.out.cells
                                      simp only [pickO, List.filterMap_cons, List.filterMap_nil, List.getElem?_cons_zero, List.getElem?_cons_succ]
                                      iterate 7
                                        apply wpFront_want
                                        · rfl
                                        · intro K hK
                                          go_big_quiet_op
                                          exact hK
                                      refine wpFront_nil ?_
                                      refine insert_C 10 193 194 192 197 198 199 6 rfl rfl rfl rfl rfl rfl rfl rfl rfl rfl rfl rfl rfl rfl rfl (by simp) (by decide) wc.heap.size ⟨ct, ck, chad, ⟨coa, cob, coc⟩, chas, ⟨cna, cnb, cnc⟩⟩ HKz.out.1 rfl (some ⟨g, 0, none⟩) ucap (cs.take ucap) rfl (.slice (some ⟨g, 0, none⟩) 0 0) 0 (cs.drop ucap) rfl (fun w' hB => HT.out w' (bt HBz2.out hB)) (fun w' hB => HD.out w' (bt HBz2.out hB)) (by omega) (by omega) ?_
                                      intro v9 v10 w10 ho10 hb10
                                      have HO10 := Lib.hid ho10
                                      have HB10 : Hid (Below wy.heap.size wy w10) := Lib.hid (bt HBz2.out hb10)
                                      clear ho10 hb10
                                      refine NoPanic.normal ?_
                                      have HCn : Hid (ChgSt wo w10 v10 (j + 1)) := Lib.hid ⟨_, HO10.out.mono (Nat.le_trans HBoq.out.size (Nat.le_trans HBy.out.size HBz2.out.size)), fun d hd => by
                                        rcases List.mem_append.1 hd with hd | hd
                                        · exact HCsm.out _ (List.mem_of_mem_take hd)
                                        · rcases List.mem_cons.1 hd with rfl | hd
                                          · exact HSm.out
                                          · exact HCsm.out _ (List.mem_of_mem_drop hd), by have := HCj.out; simp only [List.length_append, List.length_cons, List.length_take, List.length_drop]; omega, bt HBoq.out (bt HBy.out HB10.out)⟩
                                      go_wp2_with fail
                                      exact ⟨⟨j + 1, by omega, by go_num, HCn⟩, by simp [intOf]; omega⟩
                                    · have hqc2 : q < ucap := by omega
                                      have HT : Hid (∀ w, Below wy.heap.size wy w → RdX w 10 (.slice (some ⟨g, 0, none⟩) q q) q (flatC (cs.take q))) := Lib.hid (fun w hB => rdxC_take HOy.out hB q q hq)
                                      have HD : Hid (∀ w, Below wy.heap.size wy w → RdX w 10 (.slice (some ⟨g, q * 10, none⟩) (cs.length - q) (ucap - q)) (cs.length - q) (flatC (cs.drop q))) := Lib.hid (fun w hB => rdxC_drop HOy.out hB q _ _ _ rfl (fun _ => rfl))
                                      go_upto_region 32 with fail
                                      refine wp_region_front [0, 1, 2, 3, 6, 7, 8] [4, 5, 9, 10, 11] Tryz.follows (by kernel_rfl) ?_
                                      intro wz2 hbz
                                      have HBz2 := Lib.hid hbz
                                      have HKz := Lib.hid (HK5.out.below hbz)
                                      clear e0 e1 e2 e3 e4 e5 e6 e7 e8 e9 f0 hbz
                                      obtain ⟨⟨e0, e1, e2, e3, e4, e5, e6, e7, e8, e9⟩, f0⟩ := HKz.out.cells
                                      simp only [pickO, List.filterMap_cons, List.filterMap_nil, List.getElem?_cons_zero, List.getElem?_cons_succ]
                                      iterate 7
                                        apply wpFront_want
                                        · rfl
                                        · intro K hK
                                          go_big_quiet_op
                                          exact hK
                                      refine wpFront_nil ?_
                                      refine insert_C 10 193 194 192 197 198 199 6 rfl rfl rfl rfl rfl rfl rfl rfl rfl rfl rfl rfl rfl rfl rfl (by simp) (by decide) wc.heap.size ⟨ct, ck, chad, ⟨coa, cob, coc⟩, chas, ⟨cna, cnb, cnc⟩⟩ HKz.out.1 rfl (some ⟨g, 0, none⟩) q (cs.take q) rfl (.slice (some ⟨g, q * 10, none⟩) (cs.length - q) (ucap - q)) (cs.length - q) (cs.drop q) rfl (fun w' hB => HT.out w' (bt HBz2.out hB)) (fun w' hB => HD.out w' (bt HBz2.out hB)) (by omega) (by omega) ?_
                                      intro v9 v10 w10 ho10 hb10
                                      have HO10 := Lib.hid ho10
                                      have HB10 : Hid (Below wy.heap.size wy w10) := Lib.hid (bt HBz2.out hb10)
                                      clear ho10 hb10
                                      refine NoPanic.normal ?_
                                      have HCn : Hid (ChgSt wo w10 v10 (j + 1)) := Lib.hid ⟨_, HO10.out.mono (Nat.le_trans HBoq.out.size (Nat.le_trans HBy.out.size HBz2.out.size)), fun d hd => by
                                        rcases List.mem_append.1 hd with hd | hd
                                        · exact HCsm.out _ (List.mem_of_mem_take hd)
                                        · rcases List.mem_cons.1 hd with rfl | hd
                                          · exact HSm.out
                                          · exact HCsm.out _ (List.mem_of_mem_drop hd), by have := HCj.out; simp only [List.length_append, List.length_cons, List.length_take, List.length_drop]; omega, bt HBoq.out (bt HBy.out HB10.out)⟩
                                      go_wp2_with fail
                                      exact ⟨⟨j + 1, by omega, by go_num, HCn⟩, by simp [intOf]; omega⟩
                                · obtain ⟨x, rfl⟩ : ∃ x, q = x + 1 := ⟨q - 1, by have := Hb.out rfl; omega⟩
                                  go_wp2_with fail
                                  exact ⟨⟨x, by omega, by go_num, HBy⟩, by simp [intOf]⟩
                        · have HCn : Hid (ChgSt wo wq (.slice ul cs.length ucap) (j + 1)) := Lib.hid ⟨cs, HOz.out.below HBq.out, HCsm.out, by have := HCj.out; omega, bt HBo2.out HBq.out⟩
                          clear e0 e1 e2 e3 e4 e5 e6 e7 e8 e9 f0 heq
                          go_wp2_with fail
                          exact ⟨⟨j + 1, by omega, by go_num, HCn⟩, by simp [intOf]; omega⟩
        · as_aux_lemma =>
            obtain rfl : j = 3 := by omega
            obtain ⟨Q, vs, HF0, HO0, HCs0, HCh0, HSm0, hQl, hBw⟩ := HL.out
            obtain ⟨cs, hcs1, hcs2, hcs3, hcs4⟩ := HC.out
            have HRf := Lib.hid (HF0.below hcs4)
            have HOQ := Lib.hid (HO0.below hcs4)
            have HCsQ : Hid (∀ q ∈ Q, OwnC wr W.heap.size q.2 q.1.chs) := Lib.hid (fun q hq => (HCs0 q hq).below hcs4)
            have HChQ := Lib.hid HCh0
            have HSmQ := Lib.hid HSm0
            have HSmC := Lib.hid hcs2
            have HOc : Hid (OwnC wr W.heap.size u6 cs) := Lib.hid (hcs1.mono hBw.size)
            have HBr : Hid (Below W.heap.size W wr) := Lib.hid (bt hBw hcs4)
            obtain ⟨ul, un, ucap, rfl⟩ := ownC_form2 hcs1
            obtain ⟨c0, c1, _, _⟩ := HRf.out.cells
            have hbl := HRf.out.lt
            have hbn : ¬ W.heap.size = wr.heap.size := by omega
            have hQ1 : Q.length ≤ 1000 := by omega
            have HQk : Hid (Q.length ≤ k) := Lib.hid hQl
            clear HF0 HO0 HCs0 HCh0 HSm0 hQl hBw hcs1 hcs2 hcs3 hcs4 HC HL
            go_wp2_with fail
            refine (applyR_any (HRf.out.below (ba wr _)) (HOc.out.chS.below (ba wr _))).mono ?_
            rintro e w3 hap
            rcases hap with ⟨hok, rfl, v', hrf, hkp, hown⟩ | ⟨hno, rfl, hb⟩
            · have HOk := Lib.hid hok
              have HRf3 := Lib.hid hrf
              have HK3 : Hid (Kept (fun i => i = W.heap.size) (wr.alloc (.cells #[.int .i64 ((Q.length : Int) + 1), .slice ul un ucap] 41)) w3) := Lib.hid hkp
              have HR3 : Hid (w3.heap[wr.heap.size]? = some (.cells #[.int .i64 ((Q.length : Int) + 1), .slice ul un ucap] 41 (0, 0))) := Lib.hid ((HK3.out.block _ (by simp) (fun e => hbn e.symm)).trans (heap_alloc_new wr _))
              have HB3 : Hid (Below W.heap.size W w3) := Lib.hid ((Kept.of_below (F := fun i => i = W.heap.size) HBr.out |>.trans ((Kept.of_below (F := fun i => i = W.heap.size) (ba wr _)).trans HK3.out (fun _ _ f => f)) (fun _ _ f => f)).below (Nat.le_refl _) (fun i e => by omega))
              have HOQ3 : Hid (OwnQ w3 W.heap.size vo Q) := Lib.hid ((HOQ.out.below (ba wr _)).kept HK3.out (fun i hi e => by
                obtain ⟨_, cur, h1⟩ := own_type HOQ.out hi
                exact type_ne h1 HRf.out.blk (by decide) e))
              have HCs3 : Hid (∀ q ∈ Q, OwnC w3 W.heap.size q.2 q.1.chs) := Lib.hid (fun q hq => ((HCsQ.out q hq).below (ba wr _)).kept HK3.out (fun i hi e => by
                obtain ⟨_, cur, h1⟩ := own_type (HCsQ.out q hq) hi
                exact type_ne h1 HRf.out.blk (by decide) e))
              have HCn3 : Hid (OwnC w3 W.heap.size (.slice ul un ucap) cs) := Lib.hid ((HOc.out.below (ba wr _)).kept HK3.out (fun i hi e => by
                obtain ⟨_, cur, h1⟩ := own_type HOc.out hi
                exact type_ne h1 HRf.out.blk (by decide) e))
              clear hok hrf hkp hown c0 c1
              obtain ⟨i0, hI, hZ0, hZ1, hZ2⟩ := info_parts Tryz.info41
              have r0 : w3.cell? ⟨wr.heap.size, 0, none⟩ = some (.int .i64 ((Q.length : Int) + 1)) := by simp [World.cell?, HR3.out]
              have r1 : w3.cell? ⟨wr.heap.size, 1, none⟩ = some (.slice ul un ucap) := by simp [World.cell?, HR3.out]
              have hr3 : wr.heap.size < w3.heap.size := lt_of_block HR3.out
              have hr3n : ¬ wr.heap.size = w3.heap.size := by omega
              go_wp2_with (at_builtin; (refine wpList_append_own _ rfl (.tmp 212) (.tmp 214) 25 rfl W.heap.size 41 i0 _ 2 32 Tryz.underlying25 hI hZ0 hZ1 hZ2 rfl (by decide) vo Q.length (flatQ Q) rfl (HOQ3.out.below (ba w3 (.cells #[.int .i64 ((Q.length : Int) + 1), .slice ul un ucap] 41))) ⟨w3.heap.size, 0, none⟩ 1 1 [.int .i64 ((Q.length : Int) + 1), .slice ul un ucap] rfl rfl (World.news_of_block (cs := #[.int .i64 ((Q.length : Int) + 1), .slice ul un ucap]) (t := 41) (fr := (0, 0)) (heap_alloc_new w3 _)) (by simp [Value.oneCell']) (by unfold maxLen; omega) (by omega) (by have := HB3.out.size; simp; omega) ?_; intro v5 w5 hown5 hgrow5 _; have HG5 : Hid ((w3.alloc (.cells #[.int .i64 ((Q.length : Int) + 1), .slice ul un ucap] 41)).grownBy w5 vo.ownBlock) := Lib.hid hgrow5; have HO5 := Lib.hid hown5; clear hown5 hgrow5))
              have HG : Hid (∀ (g : Nat) (cur : Array Value) (e : TypeId) (fr : Nat × Nat), w3.heap[g]? = some (Obj.cells cur e fr) → e ≠ 41 → w5.heap[g]? = w3.heap[g]?) := Lib.hid (fun g cur e fr hg he => by
                have h1 := lt_of_block hg
                rw [HG5.out.block g (by simp; omega) (fun e2 => by
                  obtain ⟨_, cur2, h2⟩ := own_type HOQ3.out e2.symm
                  exact type_ne hg h2 he rfl)]
                exact (ba w3 _).block g h1)
              have HLn : Hid (LogSt W w5 W.heap.size v5 (k + 1)) := Lib.hid ⟨Q ++ [(⟨(Q.length : Int) + 1, cs⟩, .slice ul un ucap)], v', by
                  have e1 : rowsOf ((Q ++ [((⟨(Q.length : Int) + 1, cs⟩ : MRec), Value.slice ul un ucap)]).map Prod.fst) = stepAll (rowsOf (Q.map Prod.fst)) cs := by rw [List.map_append, List.map_singleton, rowsOf_snoc]
                  have e2 : (((Q ++ [((⟨(Q.length : Int) + 1, cs⟩ : MRec), Value.slice ul un ucap)]).length : Nat) : Int) = (Q.length : Int) + 1 := by simp
                  rw [e1, e2]
                  exact ⟨(HG.out _ _ _ _ HRf3.out.blk (by decide)).trans HRf3.out.blk, own_same HRf3.out.own (fun g cur hg => HG.out _ _ _ _ hg (by decide)), HRf3.out.good, HRf3.out.pos⟩,
                by
                  unfold OwnQ
                  rw [List.length_append, flatQ_app]
                  exact HO5.out,
                fun q hq => by
                  rcases List.mem_append.1 hq with hq | hq
                  · exact own_sameC (HCs3.out q hq) (fun g cur hg => HG.out _ _ _ _ hg (by decide))
                  · rw [List.mem_singleton.1 hq]
                    exact own_sameC HCn3.out (fun g cur hg => HG.out _ _ _ _ hg (by decide)),
                by
                  rw [List.map_append, List.map_singleton]
                  exact HChQ.out.snoc (by rw [List.length_map]; exact HOk.out),
                fun q hq => by
                  rcases List.mem_append.1 hq with hq | hq
                  · exact HSmQ.out q hq
                  · rw [List.mem_singleton.1 hq]
                    exact HSmC.out,
                by have := HQk.out; simp; omega,
                (HB3.out.trans ((ba w3 _).mono HB3.out.size)).grown HG5.out (Nat.le_trans HB3.out.size (ba w3 _).size) (fun g hg => (own_type HOQ3.out hg).1)⟩
              exact ⟨⟨k + 1, by omega, by go_num, HLn⟩, by simp [intOf]; omega⟩
            · have HB3 : Hid (Below wr.heap.size wr w3) := Lib.hid (bt (ba wr _) hb)
              have HLn : Hid (LogSt W w3 W.heap.size vo (k + 1)) := Lib.hid ⟨Q, vs, HRf.out.below HB3.out, HOQ.out.below HB3.out, fun q hq => (HCsQ.out q hq).below HB3.out, HChQ.out, HSmQ.out, by have := HQk.out; omega, bt HBr.out HB3.out⟩
              clear hno hb
              go_wp2_with fail
              exact ⟨⟨k + 1, by omega, by go_num, HLn⟩, by simp [intOf]; omega⟩
    · as_aux_lemma =>
        obtain rfl : k = n := by omega
        obtain ⟨Q, vs, HF0, HO0, HCs0, HCh0, HSm0, hQl, hBw⟩ := HL.out
        have HOut : Hid (LogOut W k (.returned vo) wr) := Lib.hid ⟨Q.map Prod.fst, vo, rfl, HO0.recS (fun q hq => ⟨_, HCs0 q hq⟩), HCh0, by rw [List.length_map]; exact hQl, fun r hr c hc => by
          obtain ⟨q, hq, rfl⟩ := List.mem_map.1 hr
          exact HSm0 q hq c hc, hBw⟩
        clear HF0 HO0 HCs0 HCh0 HSm0 hQl hBw
        go_wp2_with fail
        go_ret
        exact HOut.out
end Go.Proofs.YtgbnjjgnihjfgaaGreat
end

section
set_option linter.unusedVariables false
set_option linter.unusedSimpArgs false
set_option maxRecDepth 100000
namespace Go.Proofs.YtgbnjjgnihjfgaaGreat
open Go.ChangeShapes Go.WideShapes Go.ChangeAt Go.RowKit

theorem own : ownKnob Tryz.prog.godebug = none := by kernel_rfl
theorem trodAll_below {H : Type} {enc : TypeId × Value → H} {P : Program} (hl : laidOutB P = true) {W W' : World} (hb : Below W.heap.size W W') :
    ∀ {ts : List TypeId} {vs : List Value} {ds : List (DataW H)} {ps : List MemPlace}, ts.all (fun t => P.readableRec t && decide (t < P.types.size)) = true →
      DataW.TrodAll enc P W 0 (fun _ => true) true ts vs ds ps → (∀ x ∈ ps, x.block < W.heap.size) → DataW.TrodAll enc P W' 0 (fun b => decide (b < W.heap.size)) true ts vs ds ps
  | [], vs, ds, ps, _, h, _ => by
    obtain ⟨rfl, rfl, rfl⟩ := trodAll_nil h
    exact trodAll_mk0
  | t :: ts, vs, ds, ps, hr, h, hlt => by
    obtain ⟨v, vs', d, ds', p, q, rfl, rfl, rfl, h0, h1⟩ := trodAll_cons h
    simp only [List.all_cons, Bool.and_eq_true, decide_eq_true_eq] at hr
    exact trodAll_cons_mk (Below.trod hl hr.1.1 hr.1.2 h0 hb (fun x hx => hlt x (by simp [hx]))) (trodAll_below hl hb hr.2 h1 (fun x hx => hlt x (by simp [hx])))
theorem trodAll_length {H : Type} {enc : TypeId × Value → H} {P : Program} {W : World} {base : Nat} {sp : Nat → Bool} {held : Bool} :
    ∀ {ts : List TypeId} {vs : List Value} {ds : List (DataW H)} {ps : List MemPlace}, DataW.TrodAll enc P W base sp held ts vs ds ps → ds.length = ts.length
  | [], vs, ds, ps, h => by obtain ⟨rfl, rfl, rfl⟩ := trodAll_nil h; rfl
  | t :: ts, vs, ds, ps, h => by
    obtain ⟨v, vs', d, ds', p, q, rfl, rfl, rfl, h0, h1⟩ := trodAll_cons h
    simp [trodAll_length h1]
/-- What a law's specification says, at readings of its parameters. -/
def LawSpec (s : ChangeSpec) (n : Nat) : Prop := s.vars = [] ∧ ∀ (H : Type) (ds : List (DataW H)), ds.length = n → s.fn H (ds ++ []) = { results := [.lit (.bool true)], args := ds }

theorem law_post {H : Type} {enc : TypeId × Value → H} {P : Program} {fn : Func} {s : ChangeSpec} {W W' : World} {args : Array Value} {ds gs : List (DataW H)} {before : List MemPlace} (tb : TypeId)
    (hl : laidOutB P = true) (hs : LawSpec s fn.params.toList.length) (hr : fn.params.toList.all (fun t => P.readableRec t && decide (t < P.types.size)) = true) (hres : fn.resultTypes = #[tb]) (htb : P.underlying tb = some .bool)
    (hW : DataW.Whole enc P fn.params.toList s.vars false W args.toList ds gs before) (hb : Below W.heap.size W W') : s.post enc P fn false true false false W args (.bool true) W' := by
  have hW' := hW
  obtain ⟨p, q, hA, hV, rfl, _, _⟩ := hW
  rw [hs.1] at hV
  obtain ⟨rfl, rfl⟩ := trodVars_none hV
  have hlt : ∀ x ∈ p, x.block < W.heap.size := fun x hx => by
    have := hW'.lt x (by simp [hx])
    simpa using this
  refine ⟨ds, [], p ++ [], [], p, [], hW', ?_, ?_, ?_, hb.frame _, fun h => by cases h⟩
  · rw [hs.2 H ds (trodAll_length hA), hres]
    exact trodAll_mk1 (shut_bool htb _)
  · rw [hs.2 H ds (trodAll_length hA)]
    exact trodAll_below hl hb hr hA hlt
  · rw [hs.2 H ds (trodAll_length hA), hs.1]; rfl

theorem len2 {α : Type} {l : List α} (h : l.length = 2) : ∃ a b, l = [a, b] := match l, h with | [a, b], _ => ⟨a, b, rfl⟩
theorem len3 {α : Type} {l : List α} (h : l.length = 3) : ∃ a b c, l = [a, b, c] := match l, h with | [a, b, c], _ => ⟨a, b, c, rfl⟩
theorem len4 {α : Type} {l : List α} (h : l.length = 4) : ∃ a b c d, l = [a, b, c, d] := match l, h with | [a, b, c, d], _ => ⟨a, b, c, d, rfl⟩
theorem c3 : Tryz.prog.cellsOf 3 = 1 := by kernel_rfl
theorem int_of {H : Type} {enc : TypeId × Value → H} {w : World} {base : Nat} {sp : Nat → Bool} {held : Bool} {fuel : Nat} {c : Value} {x : DataW H × List MemPlace} (h : DataW.trod enc Tryz.prog w base sp held fuel 3 [c] = some x) : ∃ n, c = .int .i64 n ∧ I64 n := by
  obtain ⟨n, e, _, hw⟩ := DataW.trod_int Tryz.underlying3 h
  exact ⟨n, by simpa using e, bounds_i64 hw⟩
theorem c29 : Tryz.prog.cellsOf 43 = 3 := by kernel_rfl
end Go.Proofs.YtgbnjjgnihjfgaaGreat
end

section
set_option linter.unusedVariables false
set_option linter.unusedSimpArgs false
set_option maxRecDepth 100000
namespace Go.Proofs.YtgbnjjgnihjfgaaGreat
open Go.ChangeShapes Go.WideShapes Go.ChangeAt Go.RowKit

theorem c4 : Tryz.prog.cellsOf 4 = 1 := by kernel_rfl
def V3.wd (v : V3) : Prop := I64 v.a ∧ I64 v.b ∧ I64 v.c
def MRow.wd (r : MRow) : Prop := I64 r.t ∧ I64 r.k ∧ r.v.wd

section
variable {H : Type} {enc : TypeId × Value → H} {w : World} {base : Nat} {sp : Nat → Bool} {held : Bool}
theorem bool_of {fuel : Nat} {c : Value} {x : DataW H × List MemPlace} (h : DataW.trod enc Tryz.prog w base sp held fuel 4 [c] = some x) : ∃ b, c = .bool b := by
  obtain ⟨n, e, _⟩ := DataW.trod_bool Tryz.underlying4 h
  exact ⟨n, by simpa using e⟩
theorem v3_of {fuel : Nat} {c0 c1 c2 : Value} {x : DataW H × List MemPlace} (h : DataW.trod enc Tryz.prog w base sp held fuel 43 [c0, c1, c2] = some x) : ∃ v : V3, c0 = .int .i64 v.a ∧ c1 = .int .i64 v.b ∧ c2 = .int .i64 v.c ∧ v.wd := by
  obtain ⟨xs, m, rfl, _, _, hn, hel⟩ := DataW.trod_array Tryz.underlying43 h
  have h0 := hel 0 (by omega)
  have h1 := hel 1 (by omega)
  have h2 := hel 2 (by omega)
  rw [List.getElem?_eq_getElem (by omega), c3] at h0 h1 h2
  obtain ⟨a, rfl, ha⟩ := int_of (c := c0) (by simpa using h0)
  obtain ⟨b, rfl, hb⟩ := int_of (c := c1) (by simpa using h1)
  obtain ⟨c, rfl, hc⟩ := int_of (c := c2) (by simpa using h2)
  exact ⟨⟨a, b, c⟩, rfl, rfl, rfl, ha, hb, hc⟩
end

end Go.Proofs.YtgbnjjgnihjfgaaGreat
end

section
set_option linter.unusedVariables false
set_option linter.unusedSimpArgs false
namespace Go.Proofs.YtgbnjjgnihjfgaaGreat
open Go.ChangeShapes Go.WideShapes Go.ChangeAt Go.RowKit

theorem c52 : Tryz.prog.cellsOf 23 = 5 := by kernel_rfl
theorem c35 : Tryz.prog.cellsOf 45 = 10 := by kernel_rfl
set_option maxRecDepth 100000 in
theorem open_arr5 {H : Type} {enc : TypeId × Value → H} {w : World} {base : Nat} {sp : Nat → Bool} {held : Bool} {r : Reach} {b0 : Nat} {v : Value} {d : DataW H} {p : List MemPlace}
    (hval : Value.okWide Tryz.prog w r b0 23 v) (hd : DataW.Trod enc Tryz.prog w base sp held 23 v d p) : ∃ x : X5, v = x5V x ∧ x.Ok := by
  obtain ⟨cs, rfl, hsz, _⟩ : ∃ cs, v = .agg cs ∧ cs.size = Tryz.prog.cellsOf 23 ∧ Row.okWide Tryz.prog w r b0 23 cs := by
    simpa [Value.okWide, Tryz.underlying23] using hval
  rw [c52] at hsz
  obtain ⟨l⟩ := cs
  obtain ⟨q0, q1, q2, q3, q4, rfl⟩ : ∃ a b c d e, l = [a, b, c, d, e] := match l, hsz with | [a, b, c, d, e], _ => ⟨a, b, c, d, e, rfl⟩
  obtain ⟨fuel, hf⟩ := hd
  obtain ⟨xs, m, rfl, _, _, hn, hel⟩ := DataW.trod_array Tryz.underlying23 hf
  have h0 := hel 0 (by omega)
  have h1 := hel 1 (by omega)
  have h2 := hel 2 (by omega)
  have h3 := hel 3 (by omega)
  have h4 := hel 4 (by omega)
  rw [List.getElem?_eq_getElem (by omega), c3] at h0 h1 h2 h3 h4
  obtain ⟨z0, rfl, i0⟩ := int_of (c := q0) (by simpa [Value.cells] using h0)
  obtain ⟨z1, rfl, i1⟩ := int_of (c := q1) (by simpa [Value.cells] using h1)
  obtain ⟨z2, rfl, i2⟩ := int_of (c := q2) (by simpa [Value.cells] using h2)
  obtain ⟨z3, rfl, i3⟩ := int_of (c := q3) (by simpa [Value.cells] using h3)
  obtain ⟨z4, rfl, i4⟩ := int_of (c := q4) (by simpa [Value.cells] using h4)
  exact ⟨⟨z0, z1, z2, z3, z4⟩, rfl, i0, i1, i2, i3, i4⟩
/-- The numbers of a change are ints. -/
def MCh.wd (c : MCh) : Prop := I64 c.t ∧ I64 c.k ∧ c.o.wd ∧ c.n.wd
set_option maxRecDepth 100000 in
theorem open_chg {H : Type} {enc : TypeId × Value → H} {w : World} {base : Nat} {sp : Nat → Bool} {held : Bool} {r : Reach} {b0 : Nat} {v : Value} {d : DataW H} {p : List MemPlace}
    (hval : Value.okWide Tryz.prog w r b0 45 v) (hd : DataW.Trod enc Tryz.prog w base sp held 45 v d p) : ∃ c : MCh, v = chV c ∧ c.wd := by
  obtain ⟨cs, rfl, hsz, _⟩ : ∃ cs, v = .agg cs ∧ cs.size = Tryz.prog.cellsOf 45 ∧ Row.okWide Tryz.prog w r b0 45 cs := by
    simpa [Value.okWide, Tryz.underlying45] using hval
  rw [c35] at hsz
  obtain ⟨l⟩ := cs
  obtain ⟨q0, q1, q2, q3, q4, q5, q6, q7, q8, q9, rfl⟩ : ∃ a b c d e f g h i j, l = [a, b, c, d, e, f, g, h, i, j] := match l, hsz with | [a, b, c, d, e, f, g, h, i, j], _ => ⟨a, b, c, d, e, f, g, h, i, j, rfl⟩
  obtain ⟨fuel, hf⟩ := hd
  change DataW.trod enc Tryz.prog w base sp held fuel 45 _ = _ at hf
  obtain ⟨xs, m, rfl, _, _, hn, hel⟩ := DataW.trod_struct Tryz.underlying45 hf
  have h0 := hel 0 _ rfl
  have h1 := hel 1 _ rfl
  have h2 := hel 2 _ rfl
  have h3 := hel 3 _ rfl
  have h4 := hel 4 _ rfl
  have h5 := hel 5 _ rfl
  rw [List.getElem?_eq_getElem (by rw [hn]; decide)] at h0 h1 h2 h3 h4 h5
  change DataW.trod enc Tryz.prog w base sp held m 3 (List.take (Tryz.prog.cellsOf 3) (List.drop 0 _)) = _ at h0
  change DataW.trod enc Tryz.prog w base sp held m 3 (List.take (Tryz.prog.cellsOf 3) (List.drop 1 _)) = _ at h1
  change DataW.trod enc Tryz.prog w base sp held m 4 (List.take (Tryz.prog.cellsOf 4) (List.drop 2 _)) = _ at h2
  change DataW.trod enc Tryz.prog w base sp held m 43 (List.take (Tryz.prog.cellsOf 43) (List.drop 3 _)) = _ at h3
  change DataW.trod enc Tryz.prog w base sp held m 4 (List.take (Tryz.prog.cellsOf 4) (List.drop 6 _)) = _ at h4
  change DataW.trod enc Tryz.prog w base sp held m 43 (List.take (Tryz.prog.cellsOf 43) (List.drop 7 _)) = _ at h5
  simp only [c3, c4, c29] at h0 h1 h2 h3 h4 h5
  obtain ⟨t, rfl, it⟩ := int_of (c := q0) (by simpa [Value.cells] using h0)
  obtain ⟨k, rfl, ik⟩ := int_of (c := q1) (by simpa [Value.cells] using h1)
  obtain ⟨x, rfl⟩ := bool_of (c := q2) (by simpa [Value.cells] using h2)
  obtain ⟨vo, rfl, rfl, rfl, ho⟩ := v3_of (c0 := q3) (c1 := q4) (c2 := q5) (by simpa [Value.cells] using h3)
  obtain ⟨y, rfl⟩ := bool_of (c := q6) (by simpa [Value.cells] using h4)
  obtain ⟨vn, rfl, rfl, rfl, hn'⟩ := v3_of (c0 := q7) (c1 := q8) (c2 := q9) (by simpa [Value.cells] using h5)
  exact ⟨⟨t, k, x, vo, y, vn⟩, rfl, it, ik, ho, hn'⟩
end Go.Proofs.YtgbnjjgnihjfgaaGreat
end

section
set_option linter.unusedVariables false
set_option linter.unusedSimpArgs false
set_option maxRecDepth 100000
namespace Go.Proofs.YtgbnjjgnihjfgaaGreat
open Go.ChangeShapes Go.WideShapes Go.ChangeAt Go.RowKit

theorem c6x : Tryz.prog.cellsOf 72 = 6 := by kernel_rfl
theorem six_of {H : Type} {enc : TypeId × Value → H} {w : World} {base : Nat} {sp : Nat → Bool} {held : Bool} {fuel : Nat} {cs : List Value} {x : DataW H × List MemPlace} (hl : cs.length = 6) (h : DataW.trod enc Tryz.prog w base sp held fuel 72 cs = some x) : ∀ j, j < 6 → ∃ z, I64 z ∧ cs[j]? = some (.int .i64 z) := by
  obtain ⟨xs, m, rfl, _, _, hn, hel⟩ := DataW.trod_array Tryz.underlying72 h
  intro j hj
  have h0 := hel j (by omega)
  rw [List.getElem?_eq_getElem (by omega), c3] at h0
  have hd : (cs.drop (j * 1)).take 1 = [cs[j]] := by
    rw [Nat.mul_one, List.drop_eq_getElem_cons (by omega)]
    rfl
  rw [hd] at h0
  obtain ⟨z, e, hz⟩ := int_of h0
  exact ⟨z, hz, by rw [List.getElem?_eq_getElem (by omega), e]⟩
/-- **A list of lists of six integers.** -/
theorem open_xs6 {H : Type} {enc : TypeId × Value → H} {w : World} {r : Reach} {b0 : Nat} {v : Value} {d : DataW H} {p : List MemPlace}
    (hval : Value.okWide Tryz.prog w r b0 22 v) (hd : DataW.Trod enc Tryz.prog w 0 (fun _ => true) true 22 v d p) : ∃ n, XS w v n := by
  obtain ⟨a0, len0, cap0, rfl⟩ := okWide_slice Tryz.underlying22 hval
  obtain ⟨fuel, h⟩ := hd
  rcases Go.Deep.open_slice Tryz.underlying22 h with ⟨e, _⟩ | ⟨a, len, cap, m, n, D, Pl, e, _, hl, hm, hm2, _, hel⟩
  · simp [Value.cells] at e
    obtain ⟨rfl, rfl, rfl⟩ := e
    exact ⟨0, none, 0, rfl, Nat.le_refl _, by omega, fun h => by omega⟩
  · simp [Value.cells] at e
    obtain ⟨rfl, rfl, rfl⟩ := e
    rw [if_pos rfl] at hm2
    subst hm2
    rw [c6x] at hel
    have hch : ∀ i j, i < len0 → j < 6 → ∃ z, I64 z ∧ w.cell? ((a.add (i * 6)).add j) = some (.int .i64 z) := fun i j hi hj => by
      obtain ⟨cs, hcs, ht⟩ := hel i (by omega)
      obtain ⟨_, hlen, hc⟩ := World.cells?_some hcs
      obtain ⟨z, hz, e⟩ := six_of (by simpa using hlen) ht j hj
      exact ⟨z, hz, by rw [hc j hj]; simpa using e⟩
    refine ⟨len0, some a, _, rfl, hl, by unfold maxLen at hm; omega, fun h1 => ?_⟩
    obtain ⟨b, off, spot⟩ := a
    obtain ⟨z0, _, h00⟩ := hch 0 0 (by omega) (by omega)
    have hspot : spot = none := by simpa [Addr.add] using World.cell?_spot h00
    subst hspot
    refine ⟨b, off, rfl, by simpa [Addr.add] using World.block_lt_of_cell? w _ h00, fun i j hi hj => ?_⟩
    obtain ⟨z, hz, hc⟩ := hch i j hi hj
    rw [show ((⟨b, off, none⟩ : Addr).add (i * 6)).add j = ⟨b, off + i * 6 + j, none⟩ from by rw [Addr.add_lit, Addr.add_lit]] at hc
    exact ⟨z, hz, hc⟩
end Go.Proofs.YtgbnjjgnihjfgaaGreat
end
