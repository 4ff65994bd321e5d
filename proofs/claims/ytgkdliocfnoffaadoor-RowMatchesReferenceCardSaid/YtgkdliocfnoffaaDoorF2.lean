/- WALKS: the reference: get, Decode. -/
import Derived.Test.YtgkdliocfnoffaaDoorF1
import Derived.Test.YtgkdliocfnoffaaDoorQ3
set_option linter.unusedVariables false
set_option linter.unusedSimpArgs false
namespace Go.Proofs.YtgkdliocfnoffaaDoor
open Go.RowKit Go.Sort

/-- Reading n numbers, from an offset. -/
def getN : Nat → List UInt8 → Nat → Option (List Int × Nat)
  | 0, _, k => some ([], k)
  | n + 1, L, k => match decInt (L.drop k) with
    | none => none
    | some (x, m) => (getN n L (k + m)).map fun q => (x :: q.1, q.2)
theorem getN_len : ∀ (n : Nat) (L : List UInt8) (k : Nat) {l : List Int} {k' : Nat}, getN n L k = some (l, k') → l.length = n
  | 0, _, _, l, _, h => by simp [getN] at h; simp [← h.1]
  | n + 1, L, k, l, k', h => by
    simp only [getN] at h
    cases hd : decInt (L.drop k) with
    | none => simp [hd] at h
    | some p =>
      obtain ⟨x, m⟩ := p
      simp only [hd] at h
      cases hg : getN n L (k + m) with
      | none => simp [hg] at h
      | some q =>
        obtain ⟨l', k2⟩ := q
        simp only [hg, Option.map_some, Option.some.injEq, Prod.mk.injEq] at h
        rw [← h.1, List.length_cons, getN_len n L (k + m) hg]
def pre (acc : List Int) (r : Option (List Int × Nat)) : Option (List Int × Nat) := r.map fun q => (acc ++ q.1, q.2)
theorem pre_nil (r : Option (List Int × Nat)) : pre [] r = r := by cases r <;> simp [pre]
theorem getN_none {n : Nat} {L : List UInt8} {k : Nat} (acc : List Int) (h : decInt (L.drop k) = none) : pre acc (getN (n + 1) L k) = none := by simp [getN, h, pre]
theorem getN_some {n : Nat} {L : List UInt8} {k m : Nat} {x : Int} (acc : List Int) (h : decInt (L.drop k) = some (x, m)) : pre acc (getN (n + 1) L k) = pre (acc ++ [x]) (getN n L (k + m)) := by
  simp only [getN, h, pre]
  cases getN n L (k + m) with
  | none => rfl
  | some q => simp
theorem refInt_no (s : ByteArray) (k : Nat) (w : World) (hs : s.size ≤ maxLen) (hk : k ≤ s.size) (h : decInt (s.data.toList.drop k) = none) :
    Calls Tryd.prog 61 #[.string s, .int .i64 k] w fun e w' => e = .returned (.tuple #[.int .i64 0, .int .i64 0, .int .i64 10]) ∧ Below w.heap.size w w' :=
  (refInt_any s k w hs hk).mono fun e w' hw => by rw [intOut_none h] at hw; exact hw
theorem refInt_ok (s : ByteArray) (k : Nat) (w : World) (hs : s.size ≤ maxLen) (hk : k ≤ s.size) {n : Int} {m : Nat} (h : decInt (s.data.toList.drop k) = some (n, m)) :
    Calls Tryd.prog 61 #[.string s, .int .i64 k] w fun e w' => e = .returned (.tuple #[.int .i64 n, .int .i64 ((k + m : Nat) : Int), .int .i64 0]) ∧ Below w.heap.size w w' :=
  (refInt_any s k w hs hk).mono fun e w' hw => by rw [intOut_some h] at hw; exact hw
theorem Tryd.info3 : (Tryd.prog.info? 3).map (fun i => (i.zero, i.size, i.bytes)) = some (some (.int .i64 0), 1, 8) := by kernel_rfl
def intV (x : Int) : Value := .int .i64 x
/-- What get hands back. -/
def GetOut (w : World) (r : Option (List Int × Nat)) (e : Ending) (w' : World) : Prop :=
  Below w.heap.size w w' ∧ match r with
  | none => e = .returned (.tuple #[.slice none 0 0, .int .i64 0, .bool false])
  | some (l, k) => ∃ v, e = .returned (.tuple #[v, .int .i64 (k : Int), .bool true]) ∧ w'.ownsRow w.heap.size 3 1 v l.length (l.map intV)
theorem GetOut.no {w w' : World} {e : Ending} {r : Option (List Int × Nat)} (h : Hid (r = none)) (he : e = .returned (.tuple #[.slice none 0 0, .int .i64 0, .bool false])) (hb : Below w.heap.size w w') : GetOut w r e w' := by rw [h.out]; exact ⟨hb, he⟩
theorem GetOut.ok {w w' : World} {e : Ending} {r : Option (List Int × Nat)} {l : List Int} {k : Nat} {v : Value} (h : Hid (r = some (l, k))) (he : e = .returned (.tuple #[v, .int .i64 (k : Int), .bool true])) (ho : w'.ownsRow w.heap.size 3 1 v l.length (l.map intV)) (hb : Below w.heap.size w w') : GetOut w r e w' := by rw [h.out]; exact ⟨hb, v, he, ho⟩
set_option maxRecDepth 100000 in
set_option maxHeartbeats 4000000 in
theorem get_any (s : ByteArray) (k n : Nat) (w : World) (hs : s.size ≤ maxLen) (hk : k ≤ s.size) (hn : n ≤ 100) :
    Calls Tryd.prog 44 #[.string s, .int .i64 k, .int .i64 n] w (GetOut w (getN n s.data.toList k)) := by
  obtain ⟨i0, hi, hz0, hz1, hz2⟩ := info_parts Tryd.info3
  go_enter Tryd.func44, Tryd.ntmps44
  go_wp2_with fail
  go_loopw [1, 9, 10, 11, 12, 13] (fun at_ out i _ _ _ wr => ∃ (j k' : Nat) (acc : List Int), j ≤ n ∧ i = .int .i64 j ∧ at_ = .int .i64 k' ∧ k' ≤ s.size ∧ Hid (acc.length = j) ∧ Hid (getN n s.data.toList k = pre acc (getN (n - j) s.data.toList k')) ∧ wr.ownsRow w.heap.size 3 1 out j (acc.map intV) ∧ Below w.heap.size w wr) (fun _ _ i _ _ _ _ => n - (intOf i).toNat)
  case atStart => exact ⟨0, k, [], by omega, rfl, rfl, hk, Lib.hid rfl, Lib.hid (pre_nil _).symm, World.ownsRow_nil _ _ _ _, Below.refl _ _⟩
  case round =>
    obtain ⟨j, k', acc, hj, rfl, rfl, hk', HL, HR, hown, hB⟩ := hrel
    by_cases hlt : j < n
    · obtain ⟨q, HQ, HQ1⟩ : ∃ q, Hid (n - j = q + 1) ∧ Hid (n - (j + 1) = q) := ⟨n - j - 1, Lib.hid (by omega), Lib.hid (by omega)⟩
      rw [HQ.out] at HR
      cases h : decInt (s.data.toList.drop k') with
      | none =>
        have H := Lib.hid h
        have HX : Hid (getN n s.data.toList k = none) := Lib.hid (HR.out.trans (getN_none acc h))
        clear h
        go_wp2_with fail
        (with_reducible refine (refInt_no s k' _ hs hk' H.out).mono ?_)
        rintro e w1 ⟨rfl, hb1⟩
        go_wp2_with fail
        exact bodyPost_ret (v := .tuple #[.slice none 0 0, .int .i64 0, .bool false]) (by simp [results, Tryd.results44, go_sem]) rfl (GetOut.no HX rfl (bt hB hb1))
      | some p =>
        obtain ⟨x, m⟩ := p
        have H := Lib.hid h
        have hk2 := dec_le hk' h
        have HX : Hid (getN n s.data.toList k = pre (acc ++ [x]) (getN (n - (j + 1)) s.data.toList (k' + m))) := Lib.hid (by rw [HQ1.out]; exact HR.out.trans (getN_some acc h))
        have HL2 : Hid ((acc ++ [x]).length = j + 1) := Lib.hid (by rw [List.length_append, HL.out]; rfl)
        clear h
        go_wp2_with fail
        (with_reducible refine (refInt_ok s k' _ hs hk' H.out).mono ?_)
        rintro e w1 ⟨rfl, hb1⟩
        have hown1 := ownsRow_below hown hb1
        have hB1 := bt hB hb1
        clear hown hB hb1
        go_wp2_with (at_builtin; refine wpList_append_own _ rfl _ _ 55 rfl w.heap.size 3 i0 (.int .i64 0) 1 8 Tryd.underlying55 hi hz0 hz1 hz2 rfl (by decide) _ _ _ rfl (hown1.alloc _) ⟨w1.heap.size, 0, none⟩ 1 1 [.int .i64 x] rfl rfl (cell_one_new _ _ _) (by simp [Value.oneCell']) (by unfold maxLen; omega) (by omega) (by have := hB1.size; simp; omega) ?_; intro v' w2 hown2 hgrow _)
        have hcast : ((k' : Int) + (m : Int)) = ((k' + m : Nat) : Int) := by omega
        refine ⟨⟨j + 1, k' + m, acc ++ [x], by omega, by go_num, by simp, hk2, HL2, HX, ?_, below_of_append hB1 hown1 hB1.size hgrow⟩, by simp [intOf]; omega⟩
        rw [List.map_append, List.map_singleton]
        exact hown2
    · obtain rfl : j = n := by omega
      have HX : Hid (getN j s.data.toList k = some (acc, k')) := Lib.hid (by rw [HR.out, Nat.sub_self]; simp [getN, pre])
      go_wp2_with fail
      refine bodyPost_ret (by simp [results, Tryd.results44, go_sem]; rfl) rfl (GetOut.ok HX rfl (by rw [HL.out]; exact hown) hB)
end Go.Proofs.YtgkdliocfnoffaaDoor
