/- THE WALK OF DigestChainBinding. -/
import Derived.Test.YtkmiodlehmocnaaDoorB5
import Derived.Laws.AppendOwnNone
set_option linter.unusedVariables false
set_option linter.unusedSimpArgs false
namespace Go.Proofs.YtkmiodlehmocnaaDoor
open Go.RowKit

def zc : Array Value := (bytesV (List.replicate 32 0)).toArray
theorem zero32 (w : World) : Sem.run Tryd.prog (Instr.makeSlice 42 (.int .i64 32) (.int .i64 32)) w = .ok (.slice (some ⟨w.heap.size, 0, none⟩) 32 32) (w.alloc (.cells zc 5)) := by
  obtain ⟨i0, hi0, hz0, hz1, hz2⟩ := info_parts Tryd.info5
  have h := run_makeSlice (P := Tryd.prog) w 42 5 i0 (.int .u8 0) Tryd.underlying42 hi0 hz0 .i64 .i64 32 32 (by decide) (by decide) (by rw [hz1]; decide) (by rw [hz2]; decide) (by decide)
  rw [hz1, show madeCells (Value.int IntKind.u8 0).cells (Int.toNat 32 * 1) = zc by kernel_rfl] at h
  exact h
theorem conv32 (w w' : World) (h : w'.heap[w.heap.size]? = some (.cells zc 5 (0, 0))) : Sem.run Tryd.prog (convert 42 9 (.slice (some ⟨w.heap.size, 0, none⟩) 32 32)) w' = .ok (.string z32) w' :=
  bytes_text (w := w') (B := w.heap.size) (n := 32) (l := List.replicate 32 0) (T := 5) h rfl 32

set_option maxRecDepth 100000 in
set_option maxHeartbeats 2000000 in
theorem heads_c (L : List ByteArray) (v : Value) (w : World) (hL : L.length ≤ 20) (hs : ∀ x ∈ L, x.size ≤ 60) (hS : Strs w v L) (hT : Tab w) :
    Calls Tryd.prog 32 #[v] w fun e w' => ∃ v', e = .returned (.tuple #[v', .string (hds L).2]) ∧ Strs w' v' (hds L).1 ∧ Below w.heap.size w w' := by
  obtain ⟨a1, n, c1, rfl, hn, hc, hm, hcell⟩ := hS
  have HN := Lib.hid hn
  have HC := Lib.hid hcell
  have HT := Lib.hid hT
  have HSz := Lib.hid hs
  have hn20 : n ≤ 20 := by omega
  clear hn hcell hT hs hL
  unfold maxLen at hm
  obtain ⟨PP, hh, HPL⟩ : ∃ PP hh, Hid (hds L = (PP, hh)) := ⟨_, _, Lib.hid rfl⟩
  rw [HPL.out]
  dsimp only
  obtain ⟨i0, hi0, hz0, hz1, hz2⟩ := info_parts Tryd.info9
  go_enter Tryd.func32, Tryd.ntmps32
  go_wp2_with fail
  rw [zero32]
  go_wp2_with fail
  rw [conv32 w _ (heap_alloc_new w _)]
  have HB0 := Lib.hid ((Below.refl _ w).alloc (Nat.le_refl _) (.cells zc 5))
  generalize w.alloc (.cells zc 5) = w0 at HB0 ⊢
  go_wp2_with fail
  go_loopw [4, 5, 6] (fun h out i wr => ∃ (k : Nat) (P : List ByteArray) (hd : ByteArray), k ≤ n ∧ i = .int .i64 k ∧ h = .string hd ∧ hd.size = 32 ∧ Hid (hds (L.take k) = (P, hd)) ∧ Hid (P.length = k) ∧ OwnS wr w.heap.size out P ∧ Hid (k = 0 → out = .slice none 0 0) ∧ Hid (Below w.heap.size w wr)) (fun _ _ i _ => n - (intOf i).toNat)
  case atStart => exact ⟨0, [], z32, by omega, rfl, rfl, z32_size, Lib.hid rfl, Lib.hid rfl, OwnS.nil _ _, Lib.hid (fun _ => rfl), HB0⟩
  case round =>
    obtain ⟨k, P, hd, hk, rfl, rfl, hhd, HP, HPl, hown, HNil, HB⟩ := hrel
    by_cases hlt : k < n
    · obtain ⟨b1', o1, rfl, hb1, hcell1⟩ := HC.out (by omega)
      obtain ⟨x, HX⟩ : ∃ x, Hid (L.getD k ⟨#[]⟩ = x) := ⟨_, Lib.hid rfl⟩
      have hx := hcell1 k hlt
      rw [HX.out] at hx
      have hxs : x.size ≤ 60 := HSz.out x (by rw [← HX.out, List.getD_eq_getElem?_getD, List.getElem?_eq_getElem (by rw [← HN.out]; exact hlt)]; exact List.getElem_mem _)
      have HK := Lib.hid (fun (w' : World) (hw : Below w.heap.size w w') => (hw.cell (p := ⟨b1', o1 + k, none⟩) hb1).trans hx)
      have hxr := HK.out wr HB.out
      obtain ⟨y, HY⟩ : ∃ y, Hid ((⟨#[2]⟩ : ByteArray) ++ hd ++ x = y) := ⟨_, Lib.hid rfl⟩
      obtain ⟨hd', HD⟩ : ∃ y, Hid (dg.chain hd x = y) := ⟨_, Lib.hid rfl⟩
      have hhd' : hd'.size = 32 := by rw [← HD.out]; exact dg.size _
      have HNext : Hid (hds (L.take (k + 1)) = (y :: P, hd')) := Lib.hid (by
        rw [List.take_add_one, List.getElem?_eq_getElem (by rw [← HN.out]; exact hlt)]
        have hxx : L[k]'(by rw [← HN.out]; exact hlt) = x := by rw [← HX.out, List.getD_eq_getElem?_getD, List.getElem?_eq_getElem (by rw [← HN.out]; exact hlt)]; rfl
        rw [hxx]
        show hds (L.take k ++ [x]) = _
        rw [hds_snoc, HP.out, ← HY.out, ← HD.out]; rfl)
      have d1 : decide ((k : Int) < (n : Int)) = true := by simp; omega
      have HH := Lib.hid (fun (w' : World) (hw : Below w.heap.size w w') => chain_c hd x w' (by omega) (by omega) (HT.out.below hw))
      rw [HD.out] at HH
      clear hcell1 hx HX HP HD
      by_cases h0 : k = 0
      · subst h0
        obtain rfl : P = [] := List.length_eq_zero_iff.1 HPl.out
        have hv0 := HNil.out rfl
        subst hv0
        have hB1 : Below w.heap.size w (wr.alloc (.cells #[.string y] 9)) := HB.out.alloc HB.out.size _
        have hO1 := own_one wr w.heap.size y HB.out.size
        have HO1 := Lib.hid hO1
        have HB1 := Lib.hid hB1
        have hxr1 := HK.out _ hB1
        clear hO1 hB1 hown HNil
        rw [Nat.add_zero] at hxr hxr1
        have hy : y = (⟨#[2]⟩ : ByteArray) ++ hd ++ x := HY.out.symm
        subst hy
        rw [show ((0 : Nat) : Int) = 0 from rfl] at d1 ⊢
        go_wp2_with (at_builtin; refine wpList_append_own_none _ (.tmp 22) (.tmp 23) 26 rfl w.heap.size 9 i0 1 Tryd.underlying26 hi0 _ 1 _ rfl HO1.out rfl ?_)
        refine (HH.out _ HB1.out).mono ?_
        rintro e w4 ⟨rfl, hb4⟩
        have HB4 := Lib.hid (bt HB1.out hb4)
        go_wp2_with fail
        exact ⟨⟨0 + 1, _, hd', by omega, by go_num, rfl, hhd', HNext, Lib.hid rfl, own_below HO1.out hb4, Lib.hid (fun h => by omega), HB4⟩, by simp [intOf]; omega⟩
      · obtain ⟨g2, p2, rfl, hg2, hl2⟩ := hown.form (by intro h; rw [h] at HPl; exact h0 HPl.out.symm)
        clear HNil
        rw [HPl.out] at hown ⊢
        have hB1 : Below w.heap.size w (wr.alloc (.cells #[.string y] 9)) := HB.out.alloc HB.out.size _
        have hO1 := own_one wr w.heap.size y HB.out.size
        have hVl : (strV P).length = k * 1 := by rw [strV_length, HPl.out, Nat.mul_one]
        have hCs : ∀ j u, (strV P)[j]? = some u → (wr.alloc (.cells #[.string y] 9)).cell? ((⟨g2, 0, none⟩ : Addr).add j) = some u := fun j u h => (((Below.refl _ wr).alloc (Nat.le_refl _) (.cells #[.string y] 9)).cell (p := (⟨g2, 0, none⟩ : Addr).add j) (by unfold Addr.add; split <;> exact hl2)).trans (OwnS.cells hown j u h)
        have HO1 := Lib.hid hO1
        have HVl := Lib.hid hVl
        have HCs := Lib.hid hCs
        have HB1 := Lib.hid hB1
        have hb63 : 1 + k ≤ maxLen := by unfold maxLen; omega
        have hb16 : (1 + k) * 16 ≤ 140737488355328 := by omega
        clear hO1 hVl hCs hB1 hown
        have hy : y = (⟨#[2]⟩ : ByteArray) ++ hd ++ x := HY.out.symm
        subst hy
        go_wp2_with (at_builtin; refine wpList_append_own _ rfl (.tmp 22) (.tmp 23) 26 rfl w.heap.size 9 i0 (.string ⟨#[]⟩) 1 16 Tryd.underlying26 hi0 hz0 hz1 hz2 rfl (by decide) _ 1 _ rfl HO1.out ⟨g2, 0, none⟩ k p2 (strV P) rfl HVl.out HCs.out (strV_one P) hb63 hb16 HB1.out.size ?_; intro v3 w3 hown3 hgrow3 _; have HB3 := Lib.hid (below_app2 HB1.out HO1.out HB1.out.size hgrow3); have hxr3 := HK.out w3 HB3.out; clear hgrow3)
        have HM3 := Lib.hid (show OwnS w3 w.heap.size v3 (((⟨#[2]⟩ : ByteArray) ++ hd ++ x) :: P) from by
          unfold OwnS
          rw [List.length_cons, HPl.out, Nat.add_comm]
          exact hown3)
        clear hown3
        refine (HH.out w3 HB3.out).mono ?_
        rintro e w4 ⟨rfl, hb4⟩
        have HB4 := Lib.hid (bt HB3.out hb4)
        go_wp2_with fail
        exact ⟨⟨k + 1, _, hd', by omega, by go_num, rfl, hhd', HNext, Lib.hid (by rw [List.length_cons, HPl.out]), own_below HM3.out hb4, Lib.hid (fun h => by omega), HB4⟩, by simp [intOf]; omega⟩
    · obtain rfl : k = n := by omega
      have d1 : decide ((k : Int) < (k : Int)) = false := by simp
      have HF : Hid (hds L = (P, hd)) := Lib.hid (by rw [← HP.out, HN.out, List.take_length])
      obtain ⟨rfl, rfl⟩ : P = PP ∧ hd = hh := Prod.mk.inj (HF.out.symm.trans HPL.out)
      have HSt := Lib.hid hown.strs
      clear hown
      go_wp2_with fail
      go_ret2
      exact ⟨_, rfl, HSt.out, HB.out⟩
end Go.Proofs.YtkmiodlehmocnaaDoor
