/- APPENDING ROWS that lie anywhere. -/
import Derived.Test.YtaapggeaoacikaaX5
import Derived.Laws.AppendOwnNone
set_option linter.unusedVariables false
set_option linter.unusedSimpArgs false
namespace Go.Proofs.Ytaapggeaoacikaa
open Go.RowKit Go.Sort Go.ChangeMaps Go.MapKept

/-- A slice, nil or with an address, that reads as the rows N. -/
def RowX (w : World) (u : Value) (N : List MRow) : Prop :=
  (u = .slice none 0 0 ∧ N = []) ∨ ∃ b o n cap, u = .slice (some ⟨b, o, none⟩) n cap ∧ n = N.length ∧ ∀ i, i < n → RwO w b (o + i * 5) (N.getD i rowZ)
theorem rowX_news {w : World} {b o : Nat} {N : List MRow} (h : ∀ i, i < N.length → RwO w b (o + i * 5) (N.getD i rowZ)) : ∀ j u, (flat N)[j]? = some u → w.cell? ((⟨b, o, none⟩ : Addr).add j) = some u := by
  intro j u hj
  have hlt := (List.getElem?_eq_some_iff.1 hj).1
  rw [flat_len] at hlt
  have h1 := flat_get N (j / 5) (j % 5) (by omega) (by omega)
  rw [show j / 5 * 5 + j % 5 = j by omega, hj] at h1
  have h2 := h (j / 5) (by omega) (j % 5) (by omega)
  rw [← h1] at h2
  rw [← h2]
  congr 1
  unfold Addr.add
  split
  · next h0 => subst h0; simp
  · simp only [Addr.mk.injEq, true_and, and_true]
    omega
theorem flat_one (N : List MRow) : ∀ u ∈ flat N, u.oneCell' = true := by
  intro u hu
  obtain ⟨r, _, hr⟩ := List.mem_flatMap.1 hu
  exact rcl_one r u hr
theorem RowX.kept {F : Nat → Prop} {w w' : World} {u : Value} {N : List MRow} (h : RowX w u N) (k : Kept F w w') (hF : ∀ i, u.ownBlock = some i → ¬ F i ∧ i < w.heap.size) : RowX w' u N := by
  rcases h with h | ⟨b, o, n, cap, rfl, hn, hc⟩
  · exact .inl h
  · obtain ⟨h1, h2⟩ := hF b rfl
    exact .inr ⟨b, o, n, cap, rfl, hn, fun i hi => (hc i hi).kept k h2 h1⟩

theorem wpList_append_rows {w : World} {ops : Array Oper} {rest : List Oper} {o : Oper} {a : Act} {Q : Exit → Act → World → Prop} (hgd : o.guard = none) (s x : Operand)
    (ho : o.op = .call { callee := .builtin .append, args := #[s, x], argTypes := #[36, 36] })
    (base : Nat) (v u : Value) (M N : List MRow) (hs : a.eval s = v) (hx : a.eval x = u) (hown : OwnR w base v M) (hN : RowX w u N) (hlen : M.length + N.length ≤ 100000) (hbase : base ≤ w.heap.size)
    (h : ∀ v' w', OwnR w' base v' (M ++ N) → w.grownBy w' v.ownBlock → wpList Try.prog ops Q rest (a.put o.dst v') w') : wpList Try.prog ops Q (o :: rest) a w := by
  obtain ⟨i0, hI, hZ0, hZ1, hZ2⟩ := info_parts Try.info50
  rcases hN with ⟨rfl, rfl⟩ | ⟨b, p, n, cap, rfl, rfl, hc⟩
  · refine wpList_append_own_none hgd s x 36 ho base 50 i0 5 Try.underlying36 hI v M.length (flat M) hs hown hx (h _ _ ?_ ⟨rfl, rfl, rfl, Nat.le_refl _, fun _ _ _ => rfl⟩)
    rw [List.append_nil]
    exact hown
  · refine wpList_append_own w hgd s x 36 ho base 50 i0 (.agg #[.int .i64 0, .int .i64 0, .int .i64 0, .int .i64 0, .int .i64 0]) 5 40 Try.underlying36 hI hZ0 hZ1 hZ2 rfl (by decide) v M.length (flat M) hs hown ⟨b, p, none⟩ N.length cap (flat N) hx (flat_len N) (rowX_news hc) (flat_one N) (by unfold maxLen; omega) (by omega) hbase ?_
    intro v' w' hown' hg _
    refine h v' w' ?_ hg
    unfold OwnR
    rw [List.length_append, flat_app]
    exact hown'
theorem below_grow {a w w' : World} {v : Value} {M : List MRow} (hB : Below a.heap.size a w) (ho : OwnR w a.heap.size v M) (hg : w.grownBy w' v.ownBlock) : Below a.heap.size a w' :=
  hB.grown hg hB.size (fun k hk => OwnR.own_ge ho hk)
theorem own_form {w : World} {base : Nat} {v : Value} {M : List MRow} (h : OwnR w base v M) : ∃ a n cap, v = .slice a n cap := by
  rcases h.2 with ⟨rfl, _⟩ | ⟨g, cap, cur, rfl, _⟩
  · exact ⟨_, _, _, rfl⟩
  · exact ⟨_, _, _, rfl⟩
theorem own_cells {w : World} {base g n cap : Nat} {M : List MRow} (h : OwnR w base (.slice (some ⟨g, 0, none⟩) n cap) M) : n = M.length ∧ (∀ i, i < M.length → RwO w g (i * 5) (M.getD i rowZ)) ∧ g < w.heap.size := by
  have hlt : g < w.heap.size := by
    rcases h.2 with ⟨e, _⟩ | ⟨g', cap', cur, e, _, hb, _⟩
    · cases e
    · simp at e
      rw [e.1]
      exact lt_of_block hb
  obtain ⟨a, n', cap', e, hn, _, _, hc⟩ := h.rowS
  simp at e
  obtain ⟨rfl, rfl, rfl⟩ := e
  refine ⟨hn, fun i hi => ?_, hlt⟩
  obtain ⟨b, o, e2, _, hc2⟩ := hc (by omega)
  simp at e2
  obtain ⟨rfl, rfl⟩ := e2
  have := hc2 i (by omega)
  rwa [Nat.zero_add] at this
theorem rowX_take {w wz : World} {base g n cap : Nat} {M : List MRow} (h : OwnR w base (.slice (some ⟨g, 0, none⟩) n cap) M) (q cap' : Nat) (hq : q ≤ M.length) (hB : Below w.heap.size w wz) : RowX wz (.slice (some ⟨g, 0, none⟩) q cap') (M.take q) := by
  obtain ⟨_, hc, hlt⟩ := own_cells h
  refine .inr ⟨g, 0, q, cap', rfl, by rw [List.length_take]; omega, fun i hi => ?_⟩
  have := (hc i (by omega)).below hlt hB
  rw [Nat.zero_add, List.getD_eq_getElem?_getD, List.getElem?_take_of_lt hi, ← List.getD_eq_getElem?_getD]
  exact this
theorem rowX_drop {w wz : World} {base g n cap : Nat} {M : List MRow} (h : OwnR w base (.slice (some ⟨g, 0, none⟩) n cap) M) (q l cap' o : Nat) (ho : o = q * 5) (hl : l = M.length - q) (hB : Below w.heap.size w wz) : RowX wz (.slice (some ⟨g, o, none⟩) l cap') (M.drop q) := by
  obtain ⟨_, hc, hlt⟩ := own_cells h
  refine .inr ⟨g, o, l, cap', rfl, by rw [List.length_drop]; omega, fun i hi => ?_⟩
  have := (hc (q + i) (by omega)).below hlt hB
  rw [ho, List.getD_eq_getElem?_getD, List.getElem?_drop, ← List.getD_eq_getElem?_getD, show q * 5 + i * 5 = (q + i) * 5 by omega]
  exact this
theorem rowX_none {wz : World} {g o l cap' : Nat} {M : List MRow} {q : Nat} (hq : M.length ≤ q) (hl : l = 0) : RowX wz (.slice (some ⟨g, o, none⟩) l cap') (M.drop q) := by
  rw [List.drop_eq_nil_of_le hq]
  exact .inr ⟨g, o, l, cap', rfl, hl, fun i hi => by omega⟩
theorem rowX_one {w : World} {g : Nat} {t k a b c : Int} (h : w.heap[g]? = some (.cells #[.int .i64 t, .int .i64 k, .int .i64 a, .int .i64 b, .int .i64 c] 50 (0, 0))) : RowX w (.slice (some ⟨g, 0, none⟩) 1 1) [⟨t, k, ⟨a, b, c⟩⟩] := by
  refine .inr ⟨g, 0, 1, 1, rfl, rfl, fun i hi => ?_⟩
  obtain rfl : i = 0 := by omega
  intro j hj
  match j, hj with
  | 0, _ => simp [World.cell?, h, rcl]
  | 1, _ => simp [World.cell?, h, rcl]
  | 2, _ => simp [World.cell?, h, rcl]
  | 3, _ => simp [World.cell?, h, rcl]
  | 4, _ => simp [World.cell?, h, rcl]

theorem rf_step {W wx w8 : World} {b : Nat} {vj v3 : Value} {M N : List MRow} {p : Int} {g : Nat} {rec : Obj} (HI : RfIn wx b vj M p) (HK : Kept (fun i => i = b) W wx) (HW : Below wx.heap.size wx w8) (HO : OwnR w8 wx.heap.size v3 N) (hs : Srt N) (hl : N.length ≤ 4000)
    (hrec : wx.heap[g]? = some rec) (hgb : g ≠ b) :
    RfIn (w8.setCell ⟨b, 0, none⟩ v3) b v3 N p ∧ Kept (fun i => i = b) W (w8.setCell ⟨b, 0, none⟩ v3) ∧ (w8.setCell ⟨b, 0, none⟩ v3).heap[g]? = some rec ∧ ∀ i, v3.ownBlock = some i → W.heap.size ≤ i := by
  have hblt := HI.lt
  have hk1 : Kept (fun i => i = b) w8 (w8.setCell ⟨b, 0, none⟩ v3) := Kept.setCell (F := fun i => i = b) (p := ⟨b, 0, none⟩) (Kept.refl _ _) (.inl rfl) _
  have hge : ∀ i, v3.ownBlock = some i → wx.heap.size ≤ i := fun i e => OwnR.own_ge HO e
  have hglt : g < wx.heap.size := by
    rcases Nat.lt_or_ge g wx.heap.size with h | h
    · exact h
    · rw [Array.getElem?_eq_none h] at hrec; cases hrec
  refine ⟨⟨two_setCell0 (HI.below HW).blk, (HO.mono (Nat.zero_le _)).kept' hk1 (fun i e f => ?_), hs, hl⟩, (HK.then HW).trans hk1 (fun _ _ f => f), ?_, fun i e => Nat.le_trans HK.size (hge i e)⟩
  · have := hge i e
    omega
  · rw [hk1.block g (Nat.lt_of_lt_of_le hglt HW.size) hgb, HW.block g hglt]
    exact hrec
theorem cnt_le (cs : List MCh) : ∀ n : Int, cnt n cs ≤ n + cs.length := by
  induction cs with
  | nil => intro n; simp [cnt]
  | cons c cs ih =>
    intro n
    rw [cnt_cons]
    have h := ih (n + dlt c)
    have h2 : dlt c ≤ 1 := by unfold dlt; split <;> split <;> omega
    rw [List.length_cons]
    omega
theorem fits_tk {L : List MRow} {cs : List MCh} (h : Fits L cs) (j : Nat) : Fits L (cs.take j) := fun c hc => h c (List.mem_of_mem_take hc)
theorem len_tk {L : List MRow} {cs : List MCh} (hs : Srt L) (ha : Apart cs) (hf : Fits L cs) (hl : L.length ≤ 2000) (h8 : cs.length ≤ 8) (j : Nat) : (stepAll L (cs.take j)).length ≤ 4000 := by
  have h1 := length_all hs (cs := cs.take j) (List.Pairwise.sublist (List.take_sublist _ _) ha) (fits_tk hf j)
  have h2 := cnt_le (cs.take j) L.length
  have h3 : (cs.take j).length ≤ 8 := by rw [List.length_take]; omega
  omega
end Go.Proofs.Ytaapggeaoacikaa
