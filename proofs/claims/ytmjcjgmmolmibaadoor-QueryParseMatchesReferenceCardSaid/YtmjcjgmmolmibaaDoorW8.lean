/- WALKS: kinds, the map of the words. -/
import Derived.Test.YtmjcjgmmolmibaaDoorW3
import Derived.Maps.Own
import Derived.Maps.OwnOps
import Derived.Maps.Views
set_option linter.unusedVariables false
set_option linter.unusedSimpArgs false
namespace Go.Proofs.YtmjcjgmmolmibaaDoor
open Go.RowKit Go.ChangeShapes Go.WideShapes Go.WideMaps Go.Maps Go.ChangeMaps

theorem mlaw : Keyed Tryd.prog 9 := string_keyed Tryd.underlying9
theorem zero3 (w : World) : (zeroValue 3).run Tryd.prog w = .ok (.int .i64 0) w := by kernel_rfl
/-- The map behind k rounds. -/
def KD : Nat → DataW Unit
  | 0 => .map []
  | k + 1 => (KD k).put (.string (wordOf k)) (.lit (.int .i64 k))
/-- What a key finds there. -/
theorem kd_at (l : List UInt8) : (KD 8).atKey (.string l) (.lit (.int .i64 0)) = .lit (.int .i64 (kindOf l)) := by
  have e : KD 8 = .map [(.string [], .lit (.int .i64 0)), (.string wCount, .lit (.int .i64 3)), (.string wJoin, .lit (.int .i64 7)), (.string wMax, .lit (.int .i64 6)), (.string wMin, .lit (.int .i64 5)), (.string wRow, .lit (.int .i64 1)), (.string wRows, .lit (.int .i64 2)), (.string wSum, .lit (.int .i64 4))] := by rfl
  rw [e]
  have c1 : ∀ a b : List UInt8, (a == b) = decide (a = b) := fun a b => by rw [Bool.eq_iff_iff]; simp
  unfold DataW.atKey kindOf
  simp only [List.find?_cons, Lit.sameKey, List.find?_nil, c1]
  by_cases h0 : l = []
  · subst h0; rfl
  by_cases h1 : l = wRow
  · subst h1; rfl
  by_cases h2 : l = wRows
  · subst h2; rfl
  by_cases h3 : l = wCount
  · subst h3; rfl
  by_cases h4 : l = wSum
  · subst h4; rfl
  by_cases h5 : l = wMin
  · subst h5; rfl
  by_cases h6 : l = wMax
  · subst h6; rfl
  by_cases h7 : l = wJoin
  · subst h7; rfl
  simp [h1, h2, h3, h4, h5, h6, h7, Ne.symm h0, Ne.symm h1, Ne.symm h2, Ne.symm h3, Ne.symm h4, Ne.symm h5, Ne.symm h6, Ne.symm h7, eq_comm]

abbrev wordArr : Array Value := #[.string ⟨#[]⟩, .string ⟨#[114, 111, 119]⟩, .string ⟨#[114, 111, 119, 115]⟩, .string ⟨#[99, 111, 117, 110, 116]⟩, .string ⟨#[115, 117, 109]⟩, .string ⟨#[109, 105, 110]⟩, .string ⟨#[109, 97, 120]⟩, .string ⟨#[106, 111, 105, 110]⟩]
theorem wordArr_eq : (wordTab.map fun l => Value.string (bstr l)).toArray = wordArr := rfl
theorem word_index (k : Nat) (hk : k < 8) (w : World) : (Instr.index 36 (.agg wordArr) (.int .i64 (k : Int))).run Tryd.prog w = .ok (.string (bstr (wordOf k))) w := by
  rcases (by omega : k = 0 ∨ k = 1 ∨ k = 2 ∨ k = 3 ∨ k = 4 ∨ k = 5 ∨ k = 6 ∨ k = 7) with rfl | rfl | rfl | rfl | rfl | rfl | rfl | rfl <;> kernel_rfl
theorem word_len (k : Int) : (wordOf k).length ≤ 5 := by
  unfold wordOf
  repeat' split
  all_goals decide

set_option maxRecDepth 100000 in
set_option maxHeartbeats 1000000 in
theorem kinds_any (a : Addr) (w : World) (hL : Lw a w) : Calls Tryd.prog 42 #[] w fun e w' => e = .returned (.map (some w.heap.size)) ∧ w'.ownsMap Tryd.prog 9 (plainElem Tryd.prog 3) w.heap.size 8 (KD 8) ∧ Below w.heap.size w w' := by
  have hmm := @run_makeMap Tryd.prog
  obtain ⟨tt, fr, hg⟩ := hL.wd
  rw [wordArr_eq] at hg
  have HG : Hid (∀ o, (w.alloc o).heap[0]? = some (.cells wordArr tt fr)) := Lib.hid fun o => ((ba w o).block 0 (lt_of_heap hg)).trans hg
  have hlt := lt_of_heap hg
  clear hg hL
  go_enter Tryd.func42, Tryd.ntmps42
  go_wp2_with (refine wpList_load_row rfl 36 _ rfl 0 rfl tt _ fr _ (HG.out _) Tryd.underlying36 rfl (by kernel_rfl) ?_)
  go_loopw [6] (fun i wr => ∃ k : Nat, k ≤ 8 ∧ i = .int .i64 k ∧ wr.ownsMap Tryd.prog 9 (plainElem (H := Unit) Tryd.prog 3) w.heap.size k (KD k) ∧ Below w.heap.size w wr) (fun i _ => 8 - (intOf i).toNat)
  case atStart => exact ⟨0, Nat.zero_le _, rfl, World.ownsMap_made _ _ _ _, (Below.refl _ _).alloc (Nat.le_refl _) _⟩
  case round =>
    obtain ⟨k, hk, rfl, hown, hnx⟩ := hrel
    by_cases hlt : k < 8
    · have hix := word_index k hlt
      have hkl : k < 9223372036854775807 := by omega
      have hkey : keyOf Tryd.prog 9 (.string (bstr (wordOf k))) = some (.string (wordOf k)) := by
        have := keyOf_string_mk (P := Tryd.prog) (k := 9) Tryd.underlying9 (s := bstr (wordOf k)) (by rw [bstr_size]; have := word_len k; unfold maxLen; omega)
        rwa [bstr_list] at this
      obtain ⟨x, Hx⟩ : ∃ x, Hid (bstr (wordOf k) = x) := ⟨_, Lib.hid rfl⟩
      rw [Hx.out] at hkey
      simp only [Hx.out] at hix
      go_wp2_with (at_mapUpdate; refine wpList_mapUpdate_own _ rfl _ _ _ 65 rfl 9 3 mlaw Tryd.underlying65 _ w.heap.size k _ rfl hown (by unfold maxLen; omega) _ _ _ rfl rfl hkey _ [] (plainElem_int Tryd.underlying3 (WalkArith.wf_i64 (by omega))) ?_)
      intro w1 hown1 hgrow1
      have R2 := hnx.grown hgrow1 hnx.size (fun j hj => by cases hj; exact Nat.le_refl _)
      have R1 : w1.ownsMap Tryd.prog 9 (plainElem (H := Unit) Tryd.prog 3) w.heap.size (k + 1) (KD (k + 1)) := hown1
      clear hown1 hgrow1 hown hix
      go_wp2_with fail
      go_roundw
      case rel => exact ⟨k + 1, by omega, by go_num, R1, R2⟩
      case measure => simp [intOf]; omega
    · obtain rfl : k = 8 := by omega
      go_wp2_with fail
      go_ret
      exact ⟨rfl, hown, hnx⟩
end Go.Proofs.YtmjcjgmmolmibaaDoor
