/- MERGED: Y1, X9r, Y2. -/
import Derived.Test.YtcffofjialihaaaA4
import Derived.Test.YtcffofjialihaaaA5
import Derived.ArgAppend
import Derived.Deep.RegionLawGrows
import Derived.Deep.DeepCutAuto
import Derived.Deep.Cut
import Derived.Deep.CutRange
section
set_option linter.unusedVariables false
set_option linter.unusedSimpArgs false
namespace Go.Proofs.Ytcffofjialihaaa
open Go.RowKit Go.Sort Go.ChangeMaps Go.MapKept

theorem rle_le {col : Int} {x y : MRow} (h : rle col x y) : vget x col ≤ vget y col := by unfold rle at h; omega
theorem sort_insert {L : List MRow} (hL : Srt L) {sel : MRow → Bool} {t : Int} (ht : ∀ r, sel r = true → r.t = t) {col : Int} {k : Nat} (hk : k < L.length) {r : MRow} (hr : L.getD k rowZ = r) (hs : sel r = true)
    {M : List MRow} (h : SortOf (L.take k) sel col M) {j : Nat} (hj : j ≤ M.length) (h1 : ∀ x ∈ M.drop j, vget r col < vget x col) (h2 : j = 0 ∨ vget (M.getD (j - 1) rowZ) col ≤ vget r col) :
    SortOf (L.take (k + 1)) sel col (M.take j ++ (r :: M.drop j)) := by
  have htk : L.take (k + 1) = L.take k ++ [r] := by rw [← hr]; exact take_snoc' hk
  refine ⟨?_, ?_⟩
  · have e1 : (M.take j ++ (r :: M.drop j)).Perm (r :: M) := by
      refine List.perm_middle.trans ?_
      rw [List.take_append_drop]
    rw [htk, List.filter_append, List.filter_cons_of_pos hs, List.filter_nil]
    exact e1.trans ((h.1.cons r).trans (List.perm_append_comm (l₁ := [r])))
  · have hM := h.2
    have hsp : M.take j ++ M.drop j = M := List.take_append_drop _ _
    rw [← hsp, List.pairwise_append] at hM
    obtain ⟨p1, p2, p3⟩ := hM
    have hbefore : ∀ x ∈ M.take j, rle col x r := by
      intro x hx
      have hxm : x ∈ M := List.mem_of_mem_take hx
      obtain ⟨x1, x2⟩ := List.mem_filter.1 (h.1.mem_iff.1 hxm)
      have hrlt : rlt x r := by
        have := hL
        rw [← List.take_append_drop k L, Srt, List.pairwise_append] at this
        refine this.2.2 x x1 r ?_
        rw [List.getD_eq_getElem?_getD, List.getElem?_eq_getElem hk, Option.getD_some] at hr
        rw [List.drop_eq_getElem_cons hk, ← hr]
        exact List.mem_cons_self
      have hxt := ht x x2
      have hrt := ht r hs
      have hle : vget x col ≤ vget r col := by
        rcases h2 with h2 | h2
        · rw [h2] at hx; simp at hx
        · refine Int.le_trans ?_ h2
          obtain ⟨i, hi, e⟩ := List.getElem_of_mem hx
          rw [List.length_take] at hi
          have e2 : M[i]'(by omega) = x := by rw [← e, List.getElem_take]
          have e3 : M.getD (j - 1) rowZ = M[j - 1]'(by omega) := by rw [List.getD_eq_getElem?_getD, List.getElem?_eq_getElem (by omega), Option.getD_some]
          rw [e3, ← e2]
          rcases Nat.lt_or_ge i (j - 1) with hlt | hge
          · exact rle_le (List.pairwise_iff_getElem.1 h.2 i (j - 1) (by omega) (by omega) hlt)
          · have : i = j - 1 := by omega
            subst this
            exact Int.le_refl _
      unfold rlt at hrlt
      unfold rle
      omega
    rw [List.pairwise_append]
    refine ⟨p1, List.pairwise_cons.2 ⟨fun x hx => .inl (h1 x hx), p2⟩, fun x hx y hy => ?_⟩
    rcases List.mem_cons.1 hy with rfl | hy
    · exact hbefore x hx
    · exact p3 x hx y hy
theorem sort_skip {L : List MRow} {sel : MRow → Bool} {col : Int} {k : Nat} (hk : k < L.length) {r : MRow} (hr : L.getD k rowZ = r) (hs : sel r = false) {M : List MRow} (h : SortOf (L.take k) sel col M) : SortOf (L.take (k + 1)) sel col M := by
  have htk : L.take (k + 1) = L.take k ++ [r] := by rw [← hr]; exact take_snoc' hk
  unfold SortOf
  rw [htk, List.filter_append, List.filter_cons_of_neg (by rw [hs]; exact Bool.false_ne_true), List.filter_nil, List.append_nil]
  exact h
end Go.Proofs.Ytcffofjialihaaa
end

section
set_option linter.unusedVariables false
set_option linter.unusedSimpArgs false
namespace Go.Proofs.Ytcffofjialihaaa
open Go.RowKit Go.Sort Go.ChangeMaps Go.MapKept

theorem flat_cons (r : MRow) (M : List MRow) : flat (r :: M) = rcl r ++ flat M := rfl
theorem flat_take (M : List MRow) : ∀ q : Nat, (flat M).take (q * 5) = flat (M.take q) := by
  induction M with
  | nil => intro q; simp [flat]
  | cons r M ih =>
    intro q
    cases q with
    | zero => simp [flat]
    | succ q =>
      rw [flat_cons, List.take_succ_cons, flat_cons, ← ih, show (q + 1) * 5 = (rcl r).length + q * 5 by rw [rcl_len]; omega, List.take_length_add_append]
theorem flat_drop (M : List MRow) : ∀ q : Nat, (flat M).drop (q * 5) = flat (M.drop q) := by
  induction M with
  | nil => intro q; simp [flat]
  | cons r M ih =>
    intro q
    cases q with
    | zero => simp
    | succ q =>
      rw [flat_cons, List.drop_succ_cons, ← ih, show (q + 1) * 5 = (rcl r).length + q * 5 by rw [rcl_len]; omega, List.drop_length_add_append]
theorem ownR_cases {w : World} {B : Nat} {a : Option Addr} {n cap : Nat} {M : List MRow} (h : OwnR w B (.slice a n cap) M) : n = M.length ∧ n ≤ cap ∧ cap ≤ 9223372036854775807 ∧ ((a = none ∧ cap = 0 ∧ M = []) ∨ ∃ g, a = some ⟨g, 0, none⟩ ∧ g < w.heap.size) := by
  rcases h.2 with ⟨e, h0⟩ | ⟨g, cap', cur, e, _, hb, h1, h2, _⟩
  · simp at e
    obtain ⟨rfl, rfl, rfl⟩ := e
    exact ⟨h0.symm, Nat.le_refl _, by omega, .inl ⟨rfl, rfl, List.eq_nil_of_length_eq_zero h0⟩⟩
  · simp at e
    obtain ⟨rfl, rfl, rfl⟩ := e
    exact ⟨rfl, h1, by unfold maxLen at h2; omega, .inr ⟨g, rfl, lt_of_block hb⟩⟩
def rowAr (r : MRow) : Array Value := #[.int .i64 r.t, .int .i64 r.k, .int .i64 r.v.a, .int .i64 r.v.b, .int .i64 r.v.c]
theorem fillR (r : MRow) : Instr.fill (fun i => some (i * 5, 5)) ((Array.range (1 * 5)).map ((Value.agg #[.int .i64 0, .int .i64 0, .int .i64 0, .int .i64 0, .int .i64 0]).cells[· % (Value.agg #[.int .i64 0, .int .i64 0, .int .i64 0, .int .i64 0, .int .i64 0]).cells.size]!)) [(0, Value.agg (rowAr r))] = some (rowAr r) := by
  kernel_rfl
theorem insert_R {ops : Array Oper} {Q : Exit → Act → World → Prop} {a : Act} {w : World} {o4 o5 o9 o10 o11 : Oper} (sb d4 d5 s3 s8 d9 d10 d11 : Nat)
    (g4 : o4.guard = none) (p4 : o4.op = .load 31 (.tmp sb)) (t4 : o4.dst = some d4) (g5 : o5.guard = none) (p5 : o5.op = .buildSlice 25 1 #[(0, .tmp d4)]) (t5 : o5.dst = some d5)
    (g9 : o9.guard = none) (p9 : o9.op = .call { callee := .builtin .append, args := #[.tmp d5, .tmp s8], argTypes := #[25, 25] }) (t9 : o9.dst = some d9)
    (g10 : o10.guard = none) (p10 : o10.op = .call { callee := .builtin .append, args := #[.tmp s3, .tmp d9], argTypes := #[25, 25] }) (t10 : o10.dst = some d10)
    (g11 : o11.guard = none) (p11 : o11.op = .assign (.tmp d10)) (t11 : o11.dst = some d11)
    (hsz : d4 < a.tmps.size ∧ d5 < a.tmps.size ∧ d9 < a.tmps.size ∧ d10 < a.tmps.size) (hne : d4 ≠ s8 ∧ d5 ≠ s8 ∧ d4 ≠ s3 ∧ d5 ≠ s3 ∧ d9 ≠ s3)
    (cb : Nat) (r : MRow) (hcb : w.heap[cb]? = some (.cells (rowAr r) 31 (0, 0)))
    (hsb : a.eval (.tmp sb) = .pointer (some ⟨cb, 0, none⟩)) (ao : Option Addr) (q : Nat) (M : List MRow) (h3 : a.eval (.tmp s3) = .slice ao q q) (u : Value) (m : Nat) (N : List MRow) (h8 : a.eval (.tmp s8) = u)
    (HT : ∀ w', Below w.heap.size w w' → RdX w' 5 (.slice ao q q) q (flat M)) (HD : ∀ w', Below w.heap.size w w' → RdX w' 5 u m (flat N)) (hq : q ≤ 100000) (hm : m ≤ 100000)
    (h : ∀ v9 v10 w10, OwnR w10 w.heap.size v10 (M ++ r :: N) → Below w.heap.size w w10 →
      Q .normal (((((a.put (some d4) (.agg (rowAr r))).put (some d5) (.slice (some ⟨w.heap.size, 0, none⟩) 1 1)).put (some d9) v9).put (some d10) v10).put (some d11) v10) w10) :
    wpList Try.prog ops Q [o4, o5, o9, o10, o11] a w := by
  obtain ⟨i0, hI, hZ0, hZ1, hZ2⟩ := info_parts Try.info31
  have l1 := (HT w (Below.refl _ _)).1
  have l2 := (HD w (Below.refl _ _)).1
  rw [flat_len] at l1 l2
  refine insert_tail sb d4 d5 s3 s8 d9 d10 d11 25 31 g4 p4 t4 g5 p5 t5 g9 p9 t9 g10 p10 t10 g11 p11 t11 hsz hne i0 _ 5 40 Try.underlying25 hI hZ0 hZ1 hZ2 rfl (by decide) (by decide) _ und50 rfl cb (rowAr r) rfl hcb (rcl_one r) (fillR r) hsb ao q (flat M) h3 u m (flat N) h8 HT HD (flat_one N) (by unfold maxLen; omega) (by omega) ?_
  intro v9 v10 w10 ho hb
  refine h v9 v10 w10 ?_ hb
  unfold OwnR
  rw [List.length_append, List.length_cons, flat_app, flat_cons, show M.length + (N.length + 1) = q + (1 + m) by omega]
  exact ho
theorem rdxR_take {w wz : World} {B g n cap : Nat} {M : List MRow} (h : OwnR w B (.slice (some ⟨g, 0, none⟩) n cap) M) (hB : Below w.heap.size w wz) (q cap' : Nat) (hq : q ≤ M.length) : RdX wz 5 (.slice (some ⟨g, 0, none⟩) q cap') q (flat (M.take q)) := by
  obtain rfl := (ownR_cases h).1
  rw [← flat_take]
  exact rdx_take h hB q cap' hq
theorem rdxR_drop {w wz : World} {B g n cap : Nat} {M : List MRow} (h : OwnR w B (.slice (some ⟨g, 0, none⟩) n cap) M) (hB : Below w.heap.size w wz) (q l cap' o : Nat) (hl : l = M.length - q) (ho : q < M.length → o = q * 5) : RdX wz 5 (.slice (some ⟨g, o, none⟩) l cap') l (flat (M.drop q)) := by
  obtain rfl := (ownR_cases h).1
  rw [← flat_drop]
  exact rdx_drop h hB q l cap' o hl ho
end Go.Proofs.Ytcffofjialihaaa
end

section
set_option linter.unusedVariables false
set_option linter.unusedSimpArgs false
namespace Go.Proofs.Ytcffofjialihaaa
open Go.RowKit Go.Sort Go.ChangeMaps Go.MapKept

theorem rangeR_col (W : World) (p : Value) (t col lo hi : Int) (hc : ¬ (0 ≤ col ∧ col ≤ 3)) : Calls Try.prog 74 #[p, .int .i64 t, .int .i64 col, .int .i64 lo, .int .i64 hi] W fun e w' => e = .returned (.slice none 0 0) ∧ W = w' := by
  by_cases h1 : col < 0
  · have d1 : decide (col < 0) = true := decide_eq_true h1
    clear hc
    go_enter Try.func74, Try.ntmps74
    go_wp2_with fail
    go_ret
    exact ⟨rfl, rfl⟩
  · have d1 : decide (col < 0) = false := decide_eq_false h1
    have d2 : decide (4 ≤ col) = true := decide_eq_true (by omega)
    clear hc
    go_enter Try.func74, Try.ntmps74
    go_wp2_with fail
    go_ret
    exact ⟨rfl, rfl⟩

set_option maxRecDepth 100000 in
set_option maxHeartbeats 32000000 in
theorem rangeR_any {W : World} {b : Nat} {v : Value} {L : List MRow} {p : Int} (h : RfAt W b v L p) (t col lo hi : Int) (h1 : 0 ≤ col) (h2 : col ≤ 3) :
    Calls Try.prog 74 #[.pointer (some ⟨b, 0, none⟩), .int .i64 t, .int .i64 col, .int .i64 lo, .int .i64 hi] W (SOut W L (selR t col lo hi) col) := by
  have HF := Lib.hid h
  have HR : Hid (RowS W v L) := Lib.hid h.own.rowS
  have hlen := h.good.2.2
  obtain ⟨a, n, cap, rfl, hn, hc1, hc2, hcell⟩ := HR.out
  have HN := Lib.hid hn
  have hn2 : n ≤ 2000 := by omega
  have HC := Lib.hid hcell
  have HCol : Hid (0 ≤ col ∧ col ≤ 3) := Lib.hid ⟨h1, h2⟩
  have d1 : decide (col < 0) = false := decide_eq_false (by omega)
  have d2 : decide (4 ≤ col) = false := decide_eq_false (by omega)
  have HV : Hid (∀ r w, Calls Try.prog 54 #[rowV r, .int .i64 col] w fun e w' => e = .returned (.int .i64 (vget r col)) ∧ Below w.heap.size w w') := Lib.hid (fun r w => by
    obtain ⟨rt, rk, ⟨ra, rb, rc⟩⟩ := r
    exact refValue_any rt rk ra rb rc col w (by omega) (by omega))
  have hbl := h.lt
  clear h hcell hn hlen h1 h2
  go_enter Try.func74, Try.ntmps74
  go_wp2_with fail
  go_loopw [11, 12] (fun o i wr => ∃ k : Nat, k ≤ n ∧ i = .int .i64 k ∧ ∃ M, Hid (OwnR wr W.heap.size o M) ∧ Hid (SortOf (L.take k) (selR t col lo hi) col M) ∧ Hid (Below W.heap.size W wr)) (fun _ i _ => n - (intOf i).toNat)
  case atStart => exact ⟨0, by omega, rfl, [], Lib.hid (OwnR.nil _ _), Lib.hid ⟨List.Perm.refl _, List.Pairwise.nil⟩, Lib.hid (Below.refl _ _)⟩
  case round =>
    obtain ⟨k, hk, rfl, M, HO, HS, HB⟩ := hrel
    obtain ⟨vo, hvo⟩ : ∃ v, v = u11 := ⟨_, rfl⟩
    subst hvo
    obtain ⟨c0, c1, _, _⟩ := (HF.out.below HB.out).cells
    have hbr : b < wr.heap.size := Nat.lt_of_lt_of_le hbl HB.out.size
    have hbn : ¬ b = wr.heap.size := by omega
    by_cases hlt : k < n
    · obtain ⟨vb, xo, rfl, hvb, hcs⟩ := HC.out (by omega)
      have hvr : vb < wr.heap.size := Nat.lt_of_lt_of_le hvb HB.out.size
      have hvn : ¬ vb = wr.heap.size := by omega
      have HRm := (hcs k hlt).below hvb HB.out
      have HkL : Hid (k < L.length) := Lib.hid (by rw [← HN.out]; exact hlt)
      clear hcs
      obtain ⟨⟨rt, rk, ⟨ra, rb, rc⟩⟩, Hr⟩ : ∃ r, Hid (L.getD k rowZ = r) := ⟨_, Lib.hid rfl⟩
      rw [Hr.out] at HRm
      obtain ⟨y0, y1, y2, y3, y4⟩ := HRm.cells
      simp only at y0 y1 y2 y3 y4
      clear HRm
      go_wp2_with fail
      refine (HV.out ⟨rt, rk, ⟨ra, rb, rc⟩⟩ _).mono ?_
      rintro e w2 ⟨rfl, hb2⟩
      obtain ⟨z, Hz⟩ : ∃ z, Hid (vget ⟨rt, rk, ⟨ra, rb, rc⟩⟩ col = z) := ⟨_, Lib.hid rfl⟩
      rw [Hz.out]
      have HR2 : Hid (w2.heap[wr.heap.size]? = some (.cells #[.int .i64 rt, .int .i64 rk, .int .i64 ra, .int .i64 rb, .int .i64 rc] 31 (0, 0))) := Lib.hid ((hb2.block _ (by simp)).trans (MapKept.heap_alloc wr _).1)
      have HBw : Hid (Below wr.heap.size wr w2) := Lib.hid (bt (ba wr _) hb2)
      have HB2 := Lib.hid (bt HB.out HBw.out)
      obtain ⟨x0, x1, x2, x3, x4⟩ := rowAt_of (r := ⟨rt, rk, ⟨ra, rb, rc⟩⟩) HR2.out
      simp only at x0 x1 x2 x3 x4
      have HO2 := Lib.hid (HO.out.below HBw.out)
      clear hb2 y0 y1 y2 y3 y4 c0 c1
      have HSel : Hid (selR t col lo hi ⟨rt, rk, ⟨ra, rb, rc⟩⟩ = decide (rt = t ∧ lo ≤ z ∧ z ≤ hi)) := Lib.hid (by unfold selR; rw [Hz.out])
      by_cases g1 : rt = t
      · have e1 : (rt != t) = false := by simp [g1]
        by_cases g2 : lo ≤ z
        · have e2 : decide (z < lo) = false := decide_eq_false (by omega)
          by_cases g3 : z ≤ hi
          · have e3 : decide (hi < z) = false := decide_eq_false (by omega)
            have HSt : Hid (selR t col lo hi ⟨rt, rk, ⟨ra, rb, rc⟩⟩ = true) := Lib.hid (by rw [HSel.out]; simp [g1, g2, g3])
            obtain ⟨oa, on, ocap, rfl⟩ := own_form HO2.out
            have hon : on = M.length := by
              have := HO2.out.rowS
              obtain ⟨a', n', cap', e, hn', _⟩ := this
              simp at e
              rw [e.2.1, hn']
            subst hon
            have hMl : M.length ≤ 2000 := by
              have q1 := HS.out.1.length_eq
              have q2 := List.length_filter_le (selR t col lo hi) (L.take k)
              rw [List.length_take] at q2
              omega
            clear g1 g2 g3
            go_wp2_with fail
            go_loopw [15] (fun s wx => ∃ j : Nat, j ≤ M.length ∧ s = .int .i64 j ∧ Hid (∀ x ∈ M.drop j, z < vget x col) ∧ Hid (Below w2.heap.size w2 wx)) (fun s _ => (intOf s).toNat)
            case atStart => exact ⟨M.length, Nat.le_refl _, rfl, Lib.hid (by simp), Lib.hid (Below.refl _ _)⟩
            case round =>
              obtain ⟨j, hj, rfl, HD, HBj⟩ := hrel
              rename World => wq
              have HOq := Lib.hid (HO2.out.below HBj.out)
              have HRq : Hid (wq.heap[wr.heap.size]? = some (.cells #[.int .i64 rt, .int .i64 rk, .int .i64 ra, .int .i64 rb, .int .i64 rc] 31 (0, 0))) := Lib.hid ((HBj.out.block _ (lt_of_block HR2.out)).trans HR2.out)
              go_upto_region 11 with fail
              go_cut [69] (fun s wy => (∃ b : Bool, s = .bool b ∧ Hid (b = true → 0 < j ∧ ∀ x ∈ M.drop (j - 1), z < vget x col) ∧ Hid (b = false → j = 0 ∨ vget (M.getD (j - 1) rowZ) col ≤ z)) ∧ Hid (Below wq.heap.size wq wy))
              case first =>
                by_cases hj0 : 0 < j
                · obtain ⟨x, rfl⟩ : ∃ x, j = x + 1 := ⟨j - 1, by omega⟩
                  obtain ⟨g, rfl⟩ : ∃ g, oa = some ⟨g, 0, none⟩ := by
                    rcases HOq.out.2 with ⟨e, h0⟩ | ⟨g, cap', cur, e, _⟩
                    · omega
                    · simp at e; exact ⟨g, e.1⟩
                  obtain ⟨_, hcx, hgq⟩ := own_cells HOq.out
                  have hrx := hcx x (by omega)
                  clear hcx
                  have hMx : Hid (M.drop x = M.getD x rowZ :: M.drop (x + 1)) := Lib.hid (by rw [List.drop_eq_getElem_cons (by omega), List.getD_eq_getElem?_getD, List.getElem?_eq_getElem (by omega), Option.getD_some])
                  obtain ⟨⟨st, sk, ⟨sa, sb, sc⟩⟩, Hs⟩ : ∃ r, Hid (M.getD x rowZ = r) := ⟨_, Lib.hid rfl⟩
                  rw [Hs.out] at hrx hMx
                  obtain ⟨y0, y1, y2, y3, y4⟩ := hrx.cells
                  simp only at y0 y1 y2 y3 y4
                  have hgt : decide ((0 : Int) < (x : Int) + 1) = true := decide_eq_true (by omega)
                  clear hrx
                  go_wp2_with fail
                  refine (HV.out ⟨st, sk, ⟨sa, sb, sc⟩⟩ _).mono ?_
                  rintro e w4 ⟨rfl, hb4⟩
                  obtain ⟨zz, Hzz⟩ : ∃ zz, Hid (vget ⟨st, sk, ⟨sa, sb, sc⟩⟩ col = zz) := ⟨_, Lib.hid rfl⟩
                  rw [Hzz.out]
                  have HB4 := Lib.hid hb4
                  clear hb4 y0 y1 y2 y3 y4
                  have HDn : Hid (z < zz → 0 < x + 1 ∧ ∀ y ∈ M.drop (x + 1 - 1), z < vget y col) := Lib.hid (fun hzz => ⟨by omega, fun y hy => by
                    rw [Nat.add_sub_cancel, hMx.out] at hy
                    rcases List.mem_cons.1 hy with rfl | hy
                    · rw [Hzz.out]; exact hzz
                    · exact HD.out y hy⟩)
                  have HLe : Hid (¬ z < zz → x + 1 = 0 ∨ vget (M.getD (x + 1 - 1) rowZ) col ≤ z) := Lib.hid (fun h => .inr (by rw [Nat.add_sub_cancel, Hs.out, Hzz.out]; omega))
                  by_cases hzz : z < zz
                  · have dz : decide (z < zz) = true := decide_eq_true hzz
                    have HDm := Lib.hid (HDn.out hzz)
                    clear hzz
                    go_wp2_with fail
                    go_meet
                    exact ⟨⟨true, rfl, Lib.hid (fun _ => HDm.out), Lib.hid (fun h => by cases h)⟩, HB4⟩
                  · have dz : decide (z < zz) = false := decide_eq_false hzz
                    have HLm := Lib.hid (HLe.out hzz)
                    clear hzz
                    go_wp2_with fail
                    go_meet
                    exact ⟨⟨false, rfl, Lib.hid (fun h => by cases h), Lib.hid (fun _ => HLm.out)⟩, HB4⟩
                · obtain rfl : j = 0 := by omega
                  clear hj0
                  go_wp2_with fail
                  go_meet
                  exact ⟨⟨false, rfl, Lib.hid (fun h => by cases h), Lib.hid (fun _ => by first | exact trivial | exact .inl trivial | exact .inl rfl)⟩, Lib.hid (Below.refl _ _)⟩
              case rest =>
                obtain ⟨⟨b', rfl, Hbt, Hbf⟩, HBy0⟩ := hcut
                rename World => wy
                have HBy := Lib.hid (bt HBj.out HBy0.out)
                have HOy := Lib.hid (HO2.out.below HBy.out)
                have HRy : Hid (wy.heap[wr.heap.size]? = some (.cells (rowAr ⟨rt, rk, ⟨ra, rb, rc⟩⟩) 31 (0, 0))) := Lib.hid ((HBy.out.block _ (lt_of_block HR2.out)).trans HR2.out)
                cases b'
                · have HLe := Lib.hid (Hbf.out rfl)
                  obtain ⟨_, hcap1, hcap2, hform⟩ := ownR_cases HOy.out
                  rcases hform with ⟨rfl, rfl, rfl⟩ | ⟨g, rfl, hglt⟩
                  · obtain rfl : j = 0 := by simpa using hj

                    have HT : Hid (∀ w, Below wy.heap.size wy w → RdX w 5 (.slice none 0 0) 0 (flat (([] : List MRow).take 0))) := Lib.hid (fun w hB => ⟨rfl, .inl ⟨rfl, rfl⟩⟩)
                    have HDr : Hid (∀ w, Below wy.heap.size wy w → RdX w 5 (.slice none 0 0) 0 (flat (([] : List MRow).drop 0))) := Lib.hid (fun w hB => ⟨rfl, .inl ⟨rfl, rfl⟩⟩)
                    have HIns : Hid (SortOf (L.take (k + 1)) (selR t col lo hi) col (([] : List MRow).take 0 ++ (⟨rt, rk, ⟨ra, rb, rc⟩⟩ :: ([] : List MRow).drop 0))) := Lib.hid (sort_insert HF.out.good.1 selR_t HkL.out Hr.out HSt.out HS.out hj (fun x hx => by rw [Hz.out]; exact HD.out x hx) (by rw [Hz.out]; exact HLe.out))
                    go_upto_region 13 with fail
                    refine wp_region_front [0, 1, 2, 3, 6, 7, 8] [4, 5, 9, 10, 11] Try.follows (by kernel_rfl) ?_
                    intro wz2 hbz
                    have HBz2 := Lib.hid hbz
                    have HRz : Hid (wz2.heap[wr.heap.size]? = some (.cells (rowAr ⟨rt, rk, ⟨ra, rb, rc⟩⟩) 31 (0, 0))) := Lib.hid ((hbz.block _ (lt_of_block HRy.out)).trans HRy.out)
                    clear hbz
                    simp only [pickO, List.filterMap_cons, List.filterMap_nil, List.getElem?_cons_zero, List.getElem?_cons_succ]
                    iterate 7
                      apply wpFront_want
                      · rfl
                      · intro K hK
                        go_big_quiet_op
                        exact hK
                    refine wpFront_nil ?_
                    refine insert_R 13 76 77 75 80 81 82 11 rfl rfl rfl rfl rfl rfl rfl rfl rfl rfl rfl rfl rfl rfl rfl (by simp) (by decide) wr.heap.size ⟨rt, rk, ⟨ra, rb, rc⟩⟩ HRz.out rfl none 0 (([] : List MRow).take 0) rfl (.slice none 0 0) 0 (([] : List MRow).drop 0) rfl (fun w' hB => HT.out w' (bt HBz2.out hB)) (fun w' hB => HDr.out w' (bt HBz2.out hB)) (by omega) (by omega) ?_
                    intro v9 v10 w10 ho10 hb10
                    have HOn : Hid (OwnR w10 W.heap.size v10 (([] : List MRow).take 0 ++ (⟨rt, rk, ⟨ra, rb, rc⟩⟩ :: ([] : List MRow).drop 0))) := Lib.hid (ho10.mono (Nat.le_trans HB2.out.size (Nat.le_trans HBy.out.size HBz2.out.size)))
                    have HBn := Lib.hid (bt HB2.out (bt HBy.out (bt HBz2.out hb10)))
                    clear ho10 hb10
                    refine NoPanic.normal ?_
                    go_wp2_with fail
                    exact ⟨⟨k + 1, by omega, by go_num, _, HOn, HIns, HBn⟩, by simp [intOf]; omega⟩

                  · by_cases hqc : ocap = j
                    · subst hqc

                      have HT : Hid (∀ w, Below wy.heap.size wy w → RdX w 5 (.slice (some ⟨g, 0, none⟩) ocap ocap) ocap (flat (M.take ocap))) := Lib.hid (fun w hB => rdxR_take HOy.out hB ocap ocap hj)
                      have HDr : Hid (∀ w, Below wy.heap.size wy w → RdX w 5 (.slice (some ⟨g, 0, none⟩) 0 0) 0 (flat (M.drop ocap))) := Lib.hid (fun w hB => rdxR_drop HOy.out hB ocap 0 0 0 (by omega) (fun h => by omega))
                      have HIns : Hid (SortOf (L.take (k + 1)) (selR t col lo hi) col (M.take ocap ++ (⟨rt, rk, ⟨ra, rb, rc⟩⟩ :: M.drop ocap))) := Lib.hid (sort_insert HF.out.good.1 selR_t HkL.out Hr.out HSt.out HS.out hj (fun x hx => by rw [Hz.out]; exact HD.out x hx) (by rw [Hz.out]; exact HLe.out))
                      go_upto_region 13 with fail
                      refine wp_region_front [0, 1, 2, 3, 6, 7, 8] [4, 5, 9, 10, 11] Try.follows (by kernel_rfl) ?_
                      intro wz2 hbz
                      have HBz2 := Lib.hid hbz
                      have HRz : Hid (wz2.heap[wr.heap.size]? = some (.cells (rowAr ⟨rt, rk, ⟨ra, rb, rc⟩⟩) 31 (0, 0))) := Lib.hid ((hbz.block _ (lt_of_block HRy.out)).trans HRy.out)
                      clear hbz
                      simp only [pickO, List.filterMap_cons, List.filterMap_nil, List.getElem?_cons_zero, List.getElem?_cons_succ]
                      iterate 7
                        apply wpFront_want
                        · rfl
                        · intro K hK
                          go_big_quiet_op
                          exact hK
                      refine wpFront_nil ?_
                      refine insert_R 13 76 77 75 80 81 82 11 rfl rfl rfl rfl rfl rfl rfl rfl rfl rfl rfl rfl rfl rfl rfl (by simp) (by decide) wr.heap.size ⟨rt, rk, ⟨ra, rb, rc⟩⟩ HRz.out rfl (some ⟨g, 0, none⟩) ocap (M.take ocap) rfl (.slice (some ⟨g, 0, none⟩) 0 0) 0 (M.drop ocap) rfl (fun w' hB => HT.out w' (bt HBz2.out hB)) (fun w' hB => HDr.out w' (bt HBz2.out hB)) (by omega) (by omega) ?_
                      intro v9 v10 w10 ho10 hb10
                      have HOn : Hid (OwnR w10 W.heap.size v10 (M.take ocap ++ (⟨rt, rk, ⟨ra, rb, rc⟩⟩ :: M.drop ocap))) := Lib.hid (ho10.mono (Nat.le_trans HB2.out.size (Nat.le_trans HBy.out.size HBz2.out.size)))
                      have HBn := Lib.hid (bt HB2.out (bt HBy.out (bt HBz2.out hb10)))
                      clear ho10 hb10
                      refine NoPanic.normal ?_
                      go_wp2_with fail
                      exact ⟨⟨k + 1, by omega, by go_num, _, HOn, HIns, HBn⟩, by simp [intOf]; omega⟩

                    · have hqc2 : j < ocap := by omega

                      have HT : Hid (∀ w, Below wy.heap.size wy w → RdX w 5 (.slice (some ⟨g, 0, none⟩) j j) j (flat (M.take j))) := Lib.hid (fun w hB => rdxR_take HOy.out hB j j hj)
                      have HDr : Hid (∀ w, Below wy.heap.size wy w → RdX w 5 (.slice (some ⟨g, j * 5, none⟩) (M.length - j) (ocap - j)) (M.length - j) (flat (M.drop j))) := Lib.hid (fun w hB => rdxR_drop HOy.out hB j _ _ _ rfl (fun _ => rfl))
                      have HIns : Hid (SortOf (L.take (k + 1)) (selR t col lo hi) col (M.take j ++ (⟨rt, rk, ⟨ra, rb, rc⟩⟩ :: M.drop j))) := Lib.hid (sort_insert HF.out.good.1 selR_t HkL.out Hr.out HSt.out HS.out hj (fun x hx => by rw [Hz.out]; exact HD.out x hx) (by rw [Hz.out]; exact HLe.out))
                      go_upto_region 13 with fail
                      refine wp_region_front [0, 1, 2, 3, 6, 7, 8] [4, 5, 9, 10, 11] Try.follows (by kernel_rfl) ?_
                      intro wz2 hbz
                      have HBz2 := Lib.hid hbz
                      have HRz : Hid (wz2.heap[wr.heap.size]? = some (.cells (rowAr ⟨rt, rk, ⟨ra, rb, rc⟩⟩) 31 (0, 0))) := Lib.hid ((hbz.block _ (lt_of_block HRy.out)).trans HRy.out)
                      clear hbz
                      simp only [pickO, List.filterMap_cons, List.filterMap_nil, List.getElem?_cons_zero, List.getElem?_cons_succ]
                      iterate 7
                        apply wpFront_want
                        · rfl
                        · intro K hK
                          go_big_quiet_op
                          exact hK
                      refine wpFront_nil ?_
                      refine insert_R 13 76 77 75 80 81 82 11 rfl rfl rfl rfl rfl rfl rfl rfl rfl rfl rfl rfl rfl rfl rfl (by simp) (by decide) wr.heap.size ⟨rt, rk, ⟨ra, rb, rc⟩⟩ HRz.out rfl (some ⟨g, 0, none⟩) j (M.take j) rfl (.slice (some ⟨g, j * 5, none⟩) (M.length - j) (ocap - j)) (M.length - j) (M.drop j) rfl (fun w' hB => HT.out w' (bt HBz2.out hB)) (fun w' hB => HDr.out w' (bt HBz2.out hB)) (by omega) (by omega) ?_
                      intro v9 v10 w10 ho10 hb10
                      have HOn : Hid (OwnR w10 W.heap.size v10 (M.take j ++ (⟨rt, rk, ⟨ra, rb, rc⟩⟩ :: M.drop j))) := Lib.hid (ho10.mono (Nat.le_trans HB2.out.size (Nat.le_trans HBy.out.size HBz2.out.size)))
                      have HBn := Lib.hid (bt HB2.out (bt HBy.out (bt HBz2.out hb10)))
                      clear ho10 hb10
                      refine NoPanic.normal ?_
                      go_wp2_with fail
                      exact ⟨⟨k + 1, by omega, by go_num, _, HOn, HIns, HBn⟩, by simp [intOf]; omega⟩

                · obtain ⟨x, rfl⟩ : ∃ x, j = x + 1 := ⟨j - 1, by have := (Hbt.out rfl).1; omega⟩
                  have HDn : Hid (∀ y ∈ M.drop x, z < vget y col) := Lib.hid (Hbt.out rfl).2
                  go_wp2_with fail
                  exact ⟨⟨x, by omega, by go_num, HDn, HBy⟩, by simp [intOf]⟩
          · have e3 : decide (hi < z) = true := decide_eq_true (by omega)
            have HSt : Hid (selR t col lo hi ⟨rt, rk, ⟨ra, rb, rc⟩⟩ = false) := Lib.hid (by rw [HSel.out]; simp [g3])
            clear g1 g2 g3
            go_wp2_with fail
            exact ⟨⟨k + 1, by omega, by go_num, M, HO2, Lib.hid (sort_skip HkL.out Hr.out HSt.out HS.out), HB2⟩, by simp [intOf]; omega⟩
        · have e2 : decide (z < lo) = true := decide_eq_true (by omega)
          have HSt : Hid (selR t col lo hi ⟨rt, rk, ⟨ra, rb, rc⟩⟩ = false) := Lib.hid (by rw [HSel.out]; simp [g2])
          clear g1 g2
          go_wp2_with fail
          exact ⟨⟨k + 1, by omega, by go_num, M, HO2, Lib.hid (sort_skip HkL.out Hr.out HSt.out HS.out), HB2⟩, by simp [intOf]; omega⟩
      · have e1 : (rt != t) = true := by simp [g1]
        have HSt : Hid (selR t col lo hi ⟨rt, rk, ⟨ra, rb, rc⟩⟩ = false) := Lib.hid (by rw [HSel.out]; simp [g1])
        clear g1
        go_wp2_with fail
        exact ⟨⟨k + 1, by omega, by go_num, M, HO2, Lib.hid (sort_skip HkL.out Hr.out HSt.out HS.out), HB2⟩, by simp [intOf]; omega⟩
    · obtain rfl : k = n := by omega
      have HSn : Hid (SortOf L (selR t col lo hi) col M) := Lib.hid (by have := HS.out; rwa [HN.out, List.take_length] at this)
      go_wp2_with fail
      go_ret
      exact ⟨vo, M, rfl, HO.out, HSn.out, HB.out⟩
end Go.Proofs.Ytcffofjialihaaa
end
