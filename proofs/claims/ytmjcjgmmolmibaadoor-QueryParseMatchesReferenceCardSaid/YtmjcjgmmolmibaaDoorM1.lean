/- WHAT THE LISTED VARIABLES GIVE; the library's functions in these words. -/
import Derived.Test.YtmjcjgmmolmibaaDoorE1
import Derived.Test.YtmjcjgmmolmibaaDoorShelf
import Derived.WalkSmall
import Derived.Lib.AppendIntMem
set_option linter.unusedVariables false
set_option linter.unusedSimpArgs false
namespace Go.Proofs.YtmjcjgmmolmibaaDoor
open Go.RowKit

/-- A text out of its bytes. -/
def bstr (l : List UInt8) : ByteArray := ⟨l.toArray⟩
theorem bstr_list (l : List UInt8) : (bstr l).data.toList = l := by simp [bstr]
theorem bstr_of (s : ByteArray) : bstr s.data.toList = s := by cases s; simp [bstr]
theorem bstr_size (l : List UInt8) : (bstr l).size = l.length := by simp [bstr, ByteArray.size]
theorem bstr_inj {l m : List UInt8} (h : bstr l = bstr m) : l = m := by
  have := congrArg (fun s : ByteArray => s.data.toList) h
  simpa [bstr] using this

abbrev errV (a : Addr) : Value := .iface 122 (.pointer (some a))
abbrev pan (a : Addr) : Ending := .panicked [{ v := errV a, recovered := false }]
def wordTab : List (List UInt8) := [[], wRow, wRows, wCount, wSum, wMin, wMax, wJoin]
theorem wordTab_get {k : Int} (h : 0 ≤ k ∧ k ≤ 7) : wordTab[k.toNat]? = some (wordOf k) := by
  rcases (by omega : k = 0 ∨ k = 1 ∨ k = 2 ∨ k = 3 ∨ k = 4 ∨ k = 5 ∨ k = 6 ∨ k = 7) with rfl | rfl | rfl | rfl | rfl | rfl | rfl | rfl <;> rfl

/-- The package's variables, and the library's. -/
structure Lw (a : Addr) (w : World) : Prop where
  wd : ∃ t f, w.heap[0]? = some (.cells (wordTab.map fun l => Value.string (bstr l)).toArray t f)
  er : w.cell? ⟨1, 0, none⟩ = some (errV a)
  ea : ∃ c t, w.heap[a.block]? = some (.cells c t (0, 0))
  mx : ∃ m, w.cell? ⟨3, 0, none⟩ = some (.int .i64 m)
  sy : ∃ t p, w.cell? ⟨4, 0, none⟩ = some (.iface t p)
  ra : ∃ t p, w.cell? ⟨5, 0, none⟩ = some (.iface t p)
  pw : Lib.TabIs Tryd.prog w "internal/strconv.uint64pow10" .u64 Lib.pow10Tab
theorem gPow : Tryd.prog.globalNamed "internal/strconv.uint64pow10" = some 2 := by kernel_rfl
theorem lt_of_heap {w : World} {b : Nat} {o : Obj} (h : w.heap[b]? = some o) : b < w.heap.size := (Array.getElem?_eq_some_iff.1 h).1
theorem Lw.below {a : Addr} {w w' : World} (h : Lw a w) (k : Below w.heap.size w w') : Lw a w' := by
  obtain ⟨⟨t, f, h0⟩, h1, ⟨c, t2, h2⟩, ⟨m, h3⟩, ⟨t4, p4, h4⟩, ⟨t5, p5, h5⟩, h6⟩ := h
  have l3 := World.block_lt_of_cell? w _ h3
  have e : ∀ b o v, w.cell? ⟨b, o, none⟩ = some v → w'.cell? ⟨b, o, none⟩ = some v := fun b o v hv => (k.cell (p := ⟨b, o, none⟩) (World.block_lt_of_cell? w _ hv)).trans hv
  exact ⟨⟨t, f, (k.block _ (lt_of_heap h0)).trans h0⟩, e _ _ _ h1, ⟨c, t2, (k.block _ (lt_of_heap h2)).trans h2⟩, ⟨m, e _ _ _ h3⟩, ⟨t4, p4, e _ _ _ h4⟩, ⟨t5, p5, e _ _ _ h5⟩, var?_below k gPow (by simp only at l3; omega) h6⟩
theorem Lw.word {a : Addr} {w : World} (h : Lw a w) {k : Int} (hk : 0 ≤ k ∧ k ≤ 7) : w.cell? ⟨0, k.toNat, none⟩ = some (.string (bstr (wordOf k))) := by
  obtain ⟨t, f, h0⟩ := h.wd
  simp [World.cell?, h0, wordTab_get hk]

theorem itoa_any (a : Addr) (n : Int) (w : World) (hL : Lw a w) (hn : I64 n) : Calls Tryd.prog 21 #[.int .i64 n] w fun e w' => e = .returned (.string (bstr (Lib.itoa n))) ∧ Below w.heap.size w w' :=
  (Tryd.strconv_Itoa n hn.1 hn.2 w hL.pw).mono fun e w' ⟨he, k, os, hw⟩ => ⟨he, by rw [hw]; exact Lib.below_grow _ w (Nat.le_refl _) k os⟩
theorem below_bytes (w : World) (t : ByteArray) : Below w.heap.size w (Lib.bytesWorld w 5 t) :=
  ⟨rfl, rfl, rfl, by rw [Lib.bytesWorld_size]; omega, fun k hk => Lib.bytesWorld_at_old w 5 t k hk⟩
theorem atoi_ok (s : ByteArray) (n : Int) (w : World) (hs : s.size ≤ 1000) (h : Lib.atoiAll s.data.toList = .ok n) : Calls Tryd.prog 53 #[.string s] w fun e w' => e = .returned (.tuple #[.int .i64 n, .nilIface]) ∧ Below w.heap.size w w' :=
  (Tryd.strconv_Atoi_ok s (by omega) n h w).mono fun e w' ⟨he, hw⟩ => ⟨he, by
    rcases hw with rfl | ⟨t, rfl⟩
    · exact Below.refl _ _
    · exact below_bytes w t⟩
theorem atoi_no (a : Addr) (s : ByteArray) (w : World) (hL : Lw a w) (hs : s.size ≤ 1000) (h : ∀ n, Lib.atoiAll s.data.toList ≠ .ok n) : Calls Tryd.prog 53 #[.string s] w fun e w' => ∃ z N, e = .returned (.tuple #[.int .i64 z, .iface 107 (.pointer (some ⟨N, 0, none⟩))]) ∧ Below w.heap.size w w' := by
  cases hr : Lib.atoiAll s.data.toList with
  | ok n => exact absurd hr (h n)
  | «syntax» =>
    obtain ⟨t, p, hv⟩ := hL.sy
    exact (Tryd.strconv_Atoi_syntax s (by omega) hr _ w hv (.inr ⟨t, p, rfl⟩)).mono fun e w' ⟨N, he, _, _, hb⟩ => ⟨0, N, he, hb⟩
  | range =>
    obtain ⟨t, p, hv⟩ := hL.ra
    exact (Tryd.strconv_Atoi_range s (by omega) hr _ w hv (.inr ⟨t, p, rfl⟩)).mono fun e w' ⟨N, he, _, _, hb⟩ => ⟨_, N, he, hb⟩

/-! ### Cut at a space -/
theorem index_sp (c : UInt8) (r : List UInt8) : Lib.index (c :: r) [32] = if c = 32 then 0 else if Lib.index r [32] = -1 then -1 else Lib.index r [32] + 1 := by
  rw [Lib.index]
  by_cases h : c = 32
  · subst h
    simp [List.isPrefixOf]
  · have h2 : ([32] : List UInt8).isPrefixOf (c :: r) = false := by simp [List.isPrefixOf, Ne.symm h]
    simp [h2, h]
theorem index_sp_ge (l : List UInt8) : Lib.index l [32] = -1 ∨ 0 ≤ Lib.index l [32] := by
  have := Lib.index_ge l [32]
  omega
/-- What Cut leaves, by the words. -/
theorem cut_spl (l : List UInt8) : ∃ w ws, spl l = w :: ws ∧ Lib.cut l [32] = (w, Lib.join ws [32], !ws.isEmpty) := by
  induction l with
  | nil => exact ⟨[], [], rfl, by simp [Lib.cut, Lib.index, Lib.join_nil]⟩
  | cons c r ih =>
    obtain ⟨w, ws, h1, h2⟩ := ih
    by_cases hc : c = 32
    · subst hc
      refine ⟨[], spl r, by rw [spl, if_pos rfl], ?_⟩
      have hi := index_sp 32 r
      rw [if_pos rfl] at hi
      rw [join_spl]
      simp [Lib.cut, hi, h1]
    · refine ⟨c :: w, ws, by rw [spl, if_neg hc, h1], ?_⟩
      have hi := index_sp c r
      rw [if_neg hc] at hi
      unfold Lib.cut at h2 ⊢
      rcases index_sp_ge r with h3 | h3
      · rw [if_pos h3] at hi
        rw [if_neg (by omega)] at h2 ⊢
        simp only [Prod.mk.injEq] at h2 ⊢
        obtain ⟨a1, a2, a3⟩ := h2
        exact ⟨by rw [a1], a2, a3⟩
      · rw [if_neg (by omega)] at hi
        rw [if_pos h3] at h2
        rw [if_pos (by omega), hi]
        simp only [Prod.mk.injEq] at h2 ⊢
        obtain ⟨a1, a2, a3⟩ := h2
        have e : (Lib.index r [32] + 1).toNat = (Lib.index r [32]).toNat + 1 := by omega
        rw [e]
        refine ⟨by rw [List.take_succ_cons, a1], ?_, a3⟩
        rw [← a2]
        rw [show (Lib.index r [32]).toNat + 1 + [(32 : UInt8)].length = (Lib.index r [32]).toNat + [(32 : UInt8)].length + 1 by simp, List.drop_succ_cons]

/-- What is left to read: the words, and the string that holds them. -/
def restOf (ws : List (List UInt8)) : ByteArray := bstr (Lib.join ws [32])
theorem join_len (w : List UInt8) (ws : List (List UInt8)) : (Lib.join ws [32]).length ≤ (Lib.join (w :: ws) [32]).length ∧ w.length ≤ (Lib.join (w :: ws) [32]).length := by
  cases ws with
  | nil => simp [Lib.join_nil, Lib.join_one]
  | cons v vs => rw [join_cons2]; simp; omega
/-- A list of words without spaces. -/
def Clean (ws : List (List UInt8)) : Prop := ∀ w ∈ ws, ∀ c ∈ w, c ≠ 32
theorem cut_words (a : Addr) (ws : List (List UInt8)) (w : World) (hL : Lw a w) (hc : Clean ws) (hl : (Lib.join ws [32]).length ≤ 1000) :
    Calls Tryd.prog 41 #[.string (restOf ws), .string ⟨#[32]⟩] w fun e w' => e = .returned (.tuple #[.string (bstr (hdw ws)), .string (restOf ws.tail), .bool (!ws.tail.isEmpty)]) ∧ Below w.heap.size w w' := by
  obtain ⟨m, hm⟩ := hL.mx
  refine (Tryd.strings_Cut (restOf ws) ⟨#[32]⟩ m w (by rw [restOf, bstr_size]; omega) hm).mono fun e w' ⟨he, n, hw⟩ => ⟨?_, by rw [hw]; exact below_drewN (Below.refl _ _) n⟩
  rw [he]
  have e0 : (restOf ws).data.toList = Lib.join ws [32] := bstr_list _
  have e1 : (⟨#[32]⟩ : ByteArray).data.toList = [32] := rfl
  rw [e0, e1]
  obtain ⟨x, xs, h1, h2⟩ := cut_spl (Lib.join ws [32])
  cases ws with
  | nil =>
    have : spl (Lib.join [] [32]) = [[]] := rfl
    rw [this] at h1
    simp only [List.cons.injEq] at h1
    obtain ⟨rfl, rfl⟩ := h1
    rw [h2]
    rfl
  | cons v vs =>
    rw [spl_join (by simp) hc] at h1
    simp only [List.cons.injEq] at h1
    obtain ⟨rfl, rfl⟩ := h1
    rw [h2]
    rfl
/-- Join with spaces. -/
theorem join_any (bk c : Nat) (ws : List (List UInt8)) (w : World) (hcell : ∀ j x, ws[j]? = some x → w.cell? ⟨bk, j, none⟩ = some (.string (bstr x))) (hbk : bk < w.heap.size) (hcap : ws.length ≤ c) (hN : ws.length ≤ 1000) (hlen : (Lib.join ws [32]).length ≤ 1000) :
    Calls Tryd.prog 22 #[.slice (some ⟨bk, 0, none⟩) ws.length c, .string ⟨#[32]⟩] w fun e w' => e = .returned (.string (bstr (Lib.join ws [32]))) ∧ Below w.heap.size w w' := by
  have e0 : (ws.map bstr).map (fun s : ByteArray => s.data.toList) = ws := by
    rw [List.map_map]
    conv => rhs; rw [← List.map_id ws]
    exact List.map_congr_left fun x _ => bstr_list x
  have h := Tryd.strings_Join bk 0 c (ws.map bstr) ⟨#[32]⟩ w (fun j x hx => by
    rw [List.getElem?_map] at hx
    obtain ⟨y, hy, rfl⟩ := Option.map_eq_some_iff.1 hx
    rw [Nat.zero_add]
    exact hcell j y hy) hbk (by rw [List.length_map]; omega) (by rw [List.length_map]; exact hcap) (by rw [e0]; show (Lib.join ws [32]).length ≤ _; omega)
  rw [List.length_map, e0] at h
  exact h
end Go.Proofs.YtmjcjgmmolmibaaDoor
