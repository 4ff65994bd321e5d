/- WALKS: path and Proof of the code. -/
import Derived.Test.YtkmiodlehmocnaaDoorT10
import Derived.Deep.AppendLies
set_option linter.unusedVariables false
namespace Go.Proofs.YtkmiodlehmocnaaDoor
open Go.RowKit

theorem Tryd.info9 : (Tryd.prog.info? 9).map (fun i => (i.zero, i.size, i.bytes)) = some (some (.string ⟨#[]⟩), 1, 16) := by kernel_rfl
theorem own_mono {w : World} {B B' : Nat} {e : TypeId} {v : Value} {n : Nat} {xs : List Value} (h : w.ownsRow B e 1 v n xs) (hB : B' ≤ B) : w.ownsRow B' e 1 v n xs := by
  obtain ⟨hl, h⟩ := h
  refine ⟨hl, ?_⟩
  rcases h with h | ⟨g, cap, cur, hv, hg, r⟩
  · exact .inl h
  · exact .inr ⟨g, cap, cur, hv, Nat.le_trans hB hg, r⟩
theorem own_below {w w' : World} {B : Nat} {e : TypeId} {v : Value} {n : Nat} {xs : List Value} (h : w.ownsRow B e 1 v n xs) (hb : Below w.heap.size w w') : w'.ownsRow B e 1 v n xs := by
  obtain ⟨hl, h⟩ := h
  refine ⟨hl, ?_⟩
  rcases h with h | ⟨g, cap, cur, hv, hg, hc, r⟩
  · exact .inl h
  · exact .inr ⟨g, cap, cur, hv, hg, (hb.block g (Array.getElem?_eq_some_iff.1 hc).1).trans hc, r⟩
theorem below_app {B : Nat} {a w w1 : World} {l : List Value} {n : Nat} {v : Value} {e : TypeId} {o : Obj} (hB : Below B a w) (hown : w.ownsRow B e 1 v n l) (hs : B ≤ w.heap.size)
    (hg : (w.alloc o).grownBy w1 v.ownBlock) : Below B a w1 := by
  refine (hB.alloc hs o).grown hg (by simp; omega) ?_
  intro k hk
  rcases hown.2 with ⟨rfl, _⟩ | ⟨g, cap, cur, rfl, _, hgb, _⟩
  · simp [Value.ownBlock] at hk
  · simp [Value.ownBlock] at hk
    omega
theorem Dig.path_len (D : Dig) (l : List BA) (i : Nat) : (D.path l i).length ≤ l.length := by
  induction h : l.length using Nat.strongRecOn generalizing l i with
  | ind n ih =>
    subst h
    by_cases h1 : l.length ≤ 1
    · rw [D.path_one h1]; simp
    · have hlt := spl_lt (n := l.length) (by omega)
      have hp := spl_pos l.length
      by_cases hi : i < spl l.length
      · rw [D.path_lt (by omega) hi]
        have := ih (l.take (spl l.length)).length (by simp; omega) (l.take (spl l.length)) i rfl
        simp at this ⊢; omega
      · rw [D.path_ge (by omega) (by omega)]
        have := ih (l.drop (spl l.length)).length (by simp; omega) (l.drop (spl l.length)) (i - spl l.length) rfl
        simp at this ⊢; omega

theorem strOne (r : ByteArray) : ∀ u ∈ [Value.string r], u.oneCell' = true := by simp [Value.oneCell']
/-- The texts as cells. -/
def strV (L : List ByteArray) : List Value := L.map Value.string
theorem strV_snoc (L : List ByteArray) (x : ByteArray) : strV (L ++ [x]) = strV L ++ [.string x] := by simp [strV]
/-- A slice of one's own that holds the texts. -/
def OwnS (w : World) (B : Nat) (v : Value) (L : List ByteArray) : Prop := w.ownsRow B 9 1 v L.length (strV L)
theorem OwnS.nil (w : World) (B : Nat) : OwnS w B (.slice none 0 0) [] := World.ownsRow_nil _ _ _ _
theorem OwnS.strs {w : World} {B : Nat} {v : Value} {L : List ByteArray} (h : OwnS w B v L) : Strs w v L := Strs.own h

set_option maxRecDepth 100000 in
set_option maxHeartbeats 2000000 in
theorem path_c (N : Nat) : ∀ (L : List ByteArray) (v : Value) (i : Nat) (w : World), L.length ≤ N → L.length ≤ 1000000 → i < L.length → Strs w v L → Short L → Tab w →
    Calls Tryd.prog 39 #[v, .int .i64 i] w fun e w' => ∃ v', e = .returned v' ∧ OwnS w' w.heap.size v' (dg.path L i) ∧ Below w.heap.size w w' := by
  induction N with
  | zero => intro L v i w hN hL hi; omega
  | succ N ih =>
    intro L v i w hN hL hi hS hsh hT
    have HT := Lib.hid hT
    have HSh := Lib.hid hsh
    clear hT hsh
    by_cases h1 : L.length = 1
    · have HE := Lib.hid (dg.path_one (l := L) (i := i) (by omega))
      obtain ⟨a, cap, rfl, hc, hm⟩ := hS.open0
      rw [HE.out, h1]
      clear hS hi h1 hc
      go_enter Tryd.func39, Tryd.ntmps39
      go_wp2_with fail
      go_ret
      exact ⟨_, rfl, OwnS.nil _ _, Below.refl _ _⟩
    · obtain ⟨i0, hi0, hz0, hz1, hz2⟩ := info_parts Tryd.info9
      obtain ⟨k, HK⟩ : ∃ k, Hid (spl L.length = k) := ⟨_, Lib.hid rfl⟩
      have hk1 : 1 ≤ k := by rw [← HK.out]; exact spl_pos _
      have hk2 : k < L.length := by rw [← HK.out]; exact spl_lt (by omega)
      have HSp := Lib.hid (fun w' => split_c L.length w' (by omega) (by omega))
      rw [HK.out] at HSp
      obtain ⟨b, o, cap, rfl, hc, hm, hb, hcell⟩ := hS.open1 (by omega)
      have HA := Lib.hid (fun (w' : World) (hw : Below w.heap.size w w') => (Strs.take hc hm hb hcell (k := k) (by omega)).below hw)
      have HB := Lib.hid (fun (w' : World) (hw : Below w.heap.size w w') => (Strs.drop hc hm hb hcell (k := k) (by omega)).below hw)
      have hk0 : 0 ≤ (k : Int) := by omega
      unfold maxLen at hm
      by_cases hik : i < k
      · have HE := Lib.hid (dg.path_lt (l := L) (i := i) (by omega) (by rw [HK.out]; exact hik))
        rw [HK.out] at HE
        have HC1 := Lib.hid (fun (w' : World) (hw : Below w.heap.size w w') => ih (L.take k) _ i w' (by simp; omega) (by simp; omega) (by simp; omega) (HA.out w' hw) (HSh.out.take k) (HT.out.below hw))
        have HC2 := Lib.hid (fun (w' : World) (hw : Below w.heap.size w w') => root_c N (L.drop k) _ w' (by simp; omega) (HB.out w' hw) (HSh.out.drop k) (HT.out.below hw))
        obtain ⟨n, HN⟩ : ∃ n, Hid (L.length = n) := ⟨_, Lib.hid rfl⟩
        obtain ⟨r, R1⟩ : ∃ r, Hid (dg.root (L.drop k) = r) := ⟨_, Lib.hid rfl⟩
        obtain ⟨P, HP⟩ : ∃ P, Hid (dg.path (L.take k) i = P) := ⟨_, Lib.hid rfl⟩
        have hPl : P.length ≤ 1000000 := by rw [← HP.out]; exact Nat.le_trans (dg.path_len _ _) (by simp; omega)
        rw [HE.out, R1.out, HP.out]
        rw [R1.out] at HC2
        rw [HP.out] at HC1
        rw [HN.out] at hc hk2 HC2 HSp hN h1 hL hi ⊢
        clear hcell hS ih HE R1 HP HA HB
        have hck : ¬ cap = k := by omega
        have hb63 : P.length + 1 ≤ maxLen := by unfold maxLen; omega
        have hb16 : (P.length + 1) * 16 ≤ 140737488355328 := by omega
        have hkn : (k : Int) ≤ (n : Int) := by omega
        have hkc : (k : Int) ≤ (cap : Int) := by omega
        have hnc : (n : Int) ≤ (cap : Int) := by omega
        have hikI : (i : Int) < (k : Int) := by omega
        go_enter Tryd.func39, Tryd.ntmps39
        go_wp2_with fail
        refine (HSp.out _).mono ?_
        rintro e w1 ⟨rfl, rfl⟩
        go_wp2_with fail
        go_region_held3 (fun w' => Below w1.heap.size w1 w')
          (first | assumption | exact (Below.refl _ _).drew | exact bt (by assumption) (by assumption) | exact Below.alloc (by assumption) (Below.size (by assumption)) _ | exact below_app hb13 hown hb13.size hgrow)
          (first | (refine step_append_lies _ (by rfl) _ _ _ (by rfl) w1.heap.size 9 i0 (.string ⟨#[]⟩) 1 16 Tryd.underlying26 hi0 hz0 hz1 hz2 (by rfl) (by decide) v1 P.length (strV P) (by rfl) (World.ownsRow.alloc (show w3.ownsRow w1.heap.size 9 1 v1 P.length (strV P) from hown) _) ⟨w3.heap.size, 0, none⟩ 1 1 [.string r] (by rfl) (by rfl) (World.news_of_block (heap_alloc_new w3 _)) (strOne r) (by decide) hb63 hb16 (Nat.le_trans hz3 (by rw [World.size_alloc]; exact Nat.le_succ _)) (w3.heap.size + 1) (by rw [World.size_alloc]) ?_; intro g cp w4 hown4 hgrow hat hgl) | (go_at_call 39; refine (HC1.out _ (by first | assumption | exact (Below.refl _ _).drew)).mono ?_; rintro e1 w2 ⟨v1, rfl, hown, hb2⟩) | (go_at_call 25; refine (HC2.out _ (by first | assumption | exact (Below.refl _ _).drew | exact bt (by assumption) (by assumption))).mono ?_; rintro e1 w3 ⟨rfl, hb3⟩; replace hown := own_below hown hb3; have hb13 : Below w1.heap.size w1 w3 := bt (bt (Below.refl _ w1).drew hb2) hb3; have hz3 := hb13.size))
        have hb14 : Below w1.heap.size w1 w4 := below_app hb13 hown hb13.size hgrow
        go_wp2_with fail
        go_ret
        exact ⟨_, rfl, by unfold OwnS; rw [strV_snoc, List.length_append]; exact hown4, hb14⟩
      · have HE := Lib.hid (dg.path_ge (l := L) (i := i) (by omega) (by rw [HK.out]; omega))
        rw [HK.out] at HE
        have HC1 := Lib.hid (fun (w' : World) (hw : Below w.heap.size w w') => ih (L.drop k) _ (i - k) w' (by simp; omega) (by simp; omega) (by simp; omega) (HB.out w' hw) (HSh.out.drop k) (HT.out.below hw))
        have HC2 := Lib.hid (fun (w' : World) (hw : Below w.heap.size w w') => root_c N (L.take k) _ w' (by simp; omega) (HA.out w' hw) (HSh.out.take k) (HT.out.below hw))
        obtain ⟨n, HN⟩ : ∃ n, Hid (L.length = n) := ⟨_, Lib.hid rfl⟩
        obtain ⟨r, R1⟩ : ∃ r, Hid (dg.root (L.take k) = r) := ⟨_, Lib.hid rfl⟩
        obtain ⟨P, HP⟩ : ∃ P, Hid (dg.path (L.drop k) (i - k) = P) := ⟨_, Lib.hid rfl⟩
        have hPl : P.length ≤ 1000000 := by rw [← HP.out]; exact Nat.le_trans (dg.path_len _ _) (by simp; omega)
        rw [HE.out, R1.out, HP.out]
        rw [R1.out] at HC2
        rw [HP.out] at HC1
        have e1 : ((i - k : Nat) : Int) = (i : Int) - (k : Int) := by omega
        rw [e1] at HC1
        clear e1
        rw [HN.out] at hc hk2 HC1 HSp hN h1 hL hi ⊢
        clear hcell hS ih HE R1 HP HA HB
        have hck : ¬ cap = k := by omega
        have hb63 : P.length + 1 ≤ maxLen := by unfold maxLen; omega
        have hb16 : (P.length + 1) * 16 ≤ 140737488355328 := by omega
        have hkn : (k : Int) ≤ (n : Int) := by omega
        have hkc : (k : Int) ≤ (cap : Int) := by omega
        have hnc : (n : Int) ≤ (cap : Int) := by omega
        have hikI : ¬ (i : Int) < (k : Int) := by omega
        have hd : decide ((i : Int) < (k : Int)) = false := by simp; omega
        have hwr : IntKind.i64.wrap ((i : Int) - (k : Int)) = (i : Int) - (k : Int) := by rw [IntKind.wrap_i64]; omega
        go_enter Tryd.func39, Tryd.ntmps39
        go_wp2_with fail
        refine (HSp.out _).mono ?_
        rintro e w1 ⟨rfl, rfl⟩
        go_wp2_with fail
        go_region_held3 (fun w' => Below w1.heap.size w1 w')
          (first | assumption | exact (Below.refl _ _).drew | exact bt (by assumption) (by assumption) | exact Below.alloc (by assumption) (Below.size (by assumption)) _ | exact below_app hb13 hown hb13.size hgrow)
          (first | (refine step_append_lies _ (by rfl) _ _ _ (by rfl) w1.heap.size 9 i0 (.string ⟨#[]⟩) 1 16 Tryd.underlying26 hi0 hz0 hz1 hz2 (by rfl) (by decide) v1 P.length (strV P) (by rfl) (World.ownsRow.alloc (show w3.ownsRow w1.heap.size 9 1 v1 P.length (strV P) from hown) _) ⟨w3.heap.size, 0, none⟩ 1 1 [.string r] (by rfl) (by rfl) (World.news_of_block (heap_alloc_new w3 _)) (strOne r) (by decide) hb63 hb16 (Nat.le_trans hz3 (by rw [World.size_alloc]; exact Nat.le_succ _)) (w3.heap.size + 1) (by rw [World.size_alloc]) ?_; intro g cp w4 hown4 hgrow hat hgl) | (go_at_call 39; refine (HC1.out _ (by first | assumption | exact (Below.refl _ _).drew)).mono ?_; rintro e1 w2 ⟨v1, rfl, hown, hb2⟩) | (go_at_call 25; refine (HC2.out _ (by first | assumption | exact (Below.refl _ _).drew | exact bt (by assumption) (by assumption))).mono ?_; rintro e1 w3 ⟨rfl, hb3⟩; replace hown := own_below hown hb3; have hb13 : Below w1.heap.size w1 w3 := bt (bt (Below.refl _ w1).drew hb2) hb3; have hz3 := hb13.size))
        have hb14 : Below w1.heap.size w1 w4 := below_app hb13 hown hb13.size hgrow
        go_wp2_with fail
        go_ret
        exact ⟨_, rfl, by unfold OwnS; rw [strV_snoc, List.length_append]; exact hown4, hb14⟩

set_option maxRecDepth 100000 in
set_option maxHeartbeats 400000 in
theorem proof_c (L : List ByteArray) (v : Value) (i : Nat) (w : World) (hL : L.length ≤ 1000000) (hi : i < L.length) (hS : Strs w v L) (hsh : Short L) (hT : Tab w) :
    Calls Tryd.prog 20 #[v, .int .i64 i] w fun e w' => ∃ v', e = .returned (.tuple #[v', .int .i64 0]) ∧ OwnS w' w.heap.size v' (dg.path L i) ∧ Below w.heap.size w w' := by
  have HC := Lib.hid (path_c L.length L v i w (Nat.le_refl _) hL hi hS hsh hT)
  obtain ⟨a, cap, rfl, hc, hm⟩ := hS.open0
  obtain ⟨n, HN⟩ : ∃ n, Hid (L.length = n) := ⟨_, Lib.hid rfl⟩
  rw [HN.out] at HC hi hL hc ⊢
  clear hT hsh hS
  have h0 : ¬ (i : Int) < 0 := by omega
  have h0' : decide ((i : Int) < 0) = false := by simp
  have h1' : decide ((n : Int) ≤ (i : Int)) = false := by simp; omega
  go_enter Tryd.func20, Tryd.ntmps20
  go_wp2_with fail
  refine HC.out.mono ?_
  rintro e w1 ⟨v', rfl, hown, hb⟩
  go_wp2_with fail
  go_ret2
  exact ⟨_, rfl, hown, hb⟩

set_option maxRecDepth 100000 in
set_option maxHeartbeats 400000 in
theorem proof_bad (L : List ByteArray) (v : Value) (i : Int) (w : World) (hL : L.length ≤ 1000000) (hi : i < 0 ∨ (L.length : Int) ≤ i) (hS : Strs w v L) :
    Calls Tryd.prog 20 #[v, .int .i64 i] w fun e w' => e = .returned (.tuple #[.slice none 0 0, .int .i64 2]) ∧ w' = w := by
  obtain ⟨a, cap, rfl, hc, hm⟩ := hS.open0
  obtain ⟨n, HN⟩ : ∃ n, Hid (L.length = n) := ⟨_, Lib.hid rfl⟩
  rw [HN.out] at hi ⊢
  clear hS hc
  by_cases h0 : i < 0
  · have h0' : decide (i < 0) = true := by simp; omega
    go_enter Tryd.func20, Tryd.ntmps20
    go_wp2_with fail
    go_ret2
    exact ⟨rfl, rfl⟩
  · have h0' : decide (i < 0) = false := by simp; omega
    have h1' : decide ((n : Int) ≤ i) = true := by simp; omega
    have h1 : (n : Int) ≤ i := by omega
    go_enter Tryd.func20, Tryd.ntmps20
    go_wp2_with fail
    go_ret2
    exact ⟨rfl, rfl⟩
end Go.Proofs.YtkmiodlehmocnaaDoor
