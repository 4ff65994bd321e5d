/- THE WALK OF WireSumAffine. -/
import Derived.Test.YtdbjnojalfkaaaaDoorA10
import Derived.RegionTactic
import Derived.ChangeAlike
import Derived.BigRegion
import Derived.Deep.QuietTactic
import Derived.BigQuiet
import Derived.StillTailTactics
import Derived.WalkSmall
set_option linter.unusedVariables false
namespace Go.Proofs.YtdbjnojalfkaaaaDoor
open Go.RowKit

theorem Tryd.info5' : (Tryd.prog.info? 5).map (fun i => (i.zero, i.size, i.bytes)) = some (some (.int .u8 0), 1, 1) := by kernel_rfl

/-- make([]byte, n). -/
theorem make_bytes (n : Nat) (hn : n ≤ 140737488351232) : ∀ W : World, (Instr.makeSlice 38 (.int .i64 (n : Int)) (.int .i64 (n : Int))).run Tryd.prog W = .ok (.slice (some ⟨W.heap.size, 0, none⟩) n n) (W.alloc (.cells (madeCells (Value.int .u8 0).cells n) 5)) := fun W => by
  obtain ⟨i0, hi, hz0, hz1, hz2⟩ := info_parts Tryd.info5'
  have h := run_make (P := Tryd.prog) W 38 5 i0 (.int .u8 0) Tryd.underlying38 hi hz0 .i64 .i64 (n : Int) (n : Int) (by omega) (by omega) (by rw [hz2]; omega) (by omega)
  rw [hz1] at h
  simpa using h

theorem run_min_int4 {P : Program} {w : World} (ts : Array TypeId) (t : TypeId) (k k' k'' k''' : IntKind) (x y z u : Int) (m : Int) (h : m = min (min (min x y) z) u) :
    (Builtin.min_ ts t #[.int k x, .int k' y, .int k'' z, .int k''' u]).run P w = .ok (.int k m) w := by
  simp [Builtin.min_, Builtin.min2]
  subst h
  repeat' split
  all_goals omega

/-- What x holds behind k rounds. -/
def xorTo (a b c : List Nat) (n k : Nat) : List Nat := (List.range n).map fun j => if j < k then a.getD j 0 ^^^ b.getD j 0 ^^^ c.getD j 0 else 0
theorem xorTo_len (a b c : List Nat) (n k : Nat) : (xorTo a b c n k).length = n := by simp [xorTo]
theorem xorTo_zero (a b c : List Nat) (n : Nat) : xorTo a b c n 0 = List.replicate n 0 := by
  apply List.ext_getElem
  · simp [xorTo]
  · intro i h1 h2; simp [xorTo]
theorem xorTo_succ (a b c : List Nat) (n k : Nat) : (xorTo a b c n k).set k (a.getD k 0 ^^^ b.getD k 0 ^^^ c.getD k 0) = xorTo a b c n (k + 1) := by
  apply List.ext_getElem
  · simp [xorTo]
  · intro i h1 h2
    rw [List.getElem_set]
    by_cases h : k = i
    · subst h; simp [xorTo]
    · simp only [h, if_false]
      simp only [xorTo, List.getElem_map, List.getElem_range]
      by_cases h3 : i < k
      · rw [if_pos h3, if_pos (by omega)]
      · rw [if_neg h3, if_neg (by omega)]
theorem xorTo_lt {a b c : List Nat} (ha : ∀ x ∈ a, x < 256) (hb : ∀ x ∈ b, x < 256) (hc : ∀ x ∈ c, x < 256) (n k : Nat) : ∀ x ∈ xorTo a b c n k, x < 256 := by
  have g : ∀ (l : List Nat), (∀ x ∈ l, x < 256) → ∀ j, l.getD j 0 < 256 := fun l hl j => by
    rw [List.getD_eq_getElem?_getD]
    by_cases h : j < l.length
    · rw [List.getElem?_eq_getElem h]; exact hl _ (List.getElem_mem h)
    · rw [List.getElem?_eq_none (by omega)]; decide
  intro x hx
  obtain ⟨j, _, rfl⟩ := List.mem_map.1 hx
  split
  · exact Nat.xor_lt_two_pow (n := 8) (Nat.xor_lt_two_pow (n := 8) (g a ha j) (g b hb j)) (g c hc j)
  · decide
theorem num_xor : ∀ (n : Nat) (a b c x : List Nat), a.length = n → b.length = n → c.length = n → x.length = n → (∀ y ∈ a, y < 256) → (∀ y ∈ b, y < 256) → (∀ y ∈ c, y < 256) → (∀ y ∈ x, y < 256) →
    (∀ j, j < n → x.getD j 0 = a.getD j 0 ^^^ b.getD j 0 ^^^ c.getD j 0) → num x = num a ^^^ num b ^^^ num c
  | 0, a, b, c, x, ea, eb, ec, ex, _, _, _, _, _ => by
    rw [List.length_eq_zero_iff.1 ea, List.length_eq_zero_iff.1 eb, List.length_eq_zero_iff.1 ec, List.length_eq_zero_iff.1 ex]; rfl
  | n + 1, y :: a, z :: b, u :: c, v :: x, ea, eb, ec, ex, ha, hb, hc, hx, h => by
    have h0 := h 0 (by omega)
    have ih := num_xor n a b c x (by simpa using ea) (by simpa using eb) (by simpa using ec) (by simpa using ex) (fun i hi => ha i (by simp [hi])) (fun i hi => hb i (by simp [hi])) (fun i hi => hc i (by simp [hi])) (fun i hi => hx i (by simp [hi]))
      (fun j hj => by have := h (j + 1) (by omega); simpa using this)
    simp at h0
    simp only [num]
    have hy := ha y (by simp)
    have hz := hb z (by simp)
    have hu := hc u (by simp)
    have hv := hx v (by simp)
    rw [Nat.mul_comm 256, Nat.mul_comm 256, Nat.mul_comm 256, Nat.mul_comm 256, show (256 : Nat) = 2 ^ 8 from rfl, ← add_eq_xor (show y < 2 ^ 8 from hy), ← add_eq_xor (show z < 2 ^ 8 from hz), ← add_eq_xor (show u < 2 ^ 8 from hu), ← add_eq_xor (show v < 2 ^ 8 from hv), ih, xor_mul, xor_mul, h0]
    ac_rfl

theorem nums_getD (s : ByteArray) (k : Nat) (h : k < s.size) : (nums s).getD k 0 = s[k].toNat := by
  unfold nums
  rw [List.getD_eq_getElem?_getD, List.getElem?_map, List.getElem?_eq_getElem (show k < s.data.toList.length from h)]
  rfl

theorem nums_extract (s : ByteArray) (k : Nat) : nums (s.extract 0 k) = (nums s).take k := by
  unfold nums; rw [take0_list, List.map_take]
theorem sum_affine (a b c : ByteArray) (k : Nat) (ha : k ≤ a.size) (hb : k ≤ b.size) (hc : k ≤ c.size) :
    sumOf (strOf' (xorTo (nums a) (nums b) (nums c) k k)) = sumOf (a.extract 0 k) ^^^ sumOf (b.extract 0 k) ^^^ sumOf (c.extract 0 k) := by
  have hlt := xorTo_lt (nums_lt a) (nums_lt b) (nums_lt c) k k
  have la : ((nums a).take k).length = k := by rw [List.length_take, nums_len]; omega
  have lb : ((nums b).take k).length = k := by rw [List.length_take, nums_len]; omega
  have lc : ((nums c).take k).length = k := by rw [List.length_take, nums_len]; omega
  have mt : ∀ (l : List Nat), (∀ x ∈ l, x < 256) → ∀ x ∈ l.take k, x < 256 := fun l h x hx => h x (List.mem_of_mem_take hx)
  have hn := num_xor k _ _ _ _ la lb lc (xorTo_len (nums a) (nums b) (nums c) k k) (mt _ (nums_lt a)) (mt _ (nums_lt b)) (mt _ (nums_lt c)) hlt
    (fun j hj => by
      have e : (xorTo (nums a) (nums b) (nums c) k k).getD j 0 = (nums a).getD j 0 ^^^ (nums b).getD j 0 ^^^ (nums c).getD j 0 := by
        rw [List.getD_eq_getElem?_getD, List.getElem?_eq_getElem (by rw [xorTo_len]; exact hj)]
        simp [xorTo, hj]
      rw [e]
      simp only [List.getD_eq_getElem?_getD, List.getElem?_take, hj, if_true])
  have haf := cCrc_affine (r := 4294967295) (mt _ (nums_lt a)) (mt _ (nums_lt b)) (mt _ (nums_lt c)) hlt (lb.trans la.symm) (lc.trans la.symm) ((xorTo_len _ _ _ _ _).trans la.symm) hn
  unfold sumOf
  rw [strOf'_nums hlt, haf, nums_extract, nums_extract, nums_extract]
  generalize cCrc 4294967295 ((nums a).take k) = x
  generalize cCrc 4294967295 ((nums b).take k) = y
  generalize cCrc 4294967295 ((nums c).take k) = z
  rw [show x ^^^ 4294967295 ^^^ (y ^^^ 4294967295) ^^^ (z ^^^ 4294967295) = x ^^^ y ^^^ z ^^^ ((4294967295 ^^^ 4294967295) ^^^ 4294967295) from by ac_rfl]
  simp

set_option maxRecDepth 100000 in
set_option maxHeartbeats 1000000 in
theorem sumAffine_walk (a b c : ByteArray) (w : World) (ha : a.size ≤ maxLen) (hb : b.size ≤ maxLen) (hc : c.size ≤ maxLen) (hN : Nib w) :
    Calls Tryd.prog 9 #[.string a, .string b, .string c] w fun e W' => e = .returned (.bool true) ∧ Below w.heap.size w W' := by
  unfold maxLen at ha hb hc
  have HN := Lib.hid hN
  clear hN
  go_enter Tryd.func9, Tryd.ntmps9
  go_wp2_with fail
  refine (sane_any _ HN.out).mono ?_
  rintro e w1 ⟨rfl, hb1⟩
  obtain ⟨n, Hn⟩ : ∃ n : Nat, Hid ((n : Int) = min (min (min (a.size : Int) b.size) c.size) 200) := ⟨(min (min (min (a.size : Int) b.size) c.size) 200).toNat, Lib.hid (by omega)⟩
  have hna : n ≤ a.size := by have := Hn.out; omega
  have hnb : n ≤ b.size := by have := Hn.out; omega
  have hnc : n ≤ c.size := by have := Hn.out; omega
  have hn2 : n ≤ 200 := by have := Hn.out; omega
  have hmin : ∀ W : World, (Builtin.min_ #[3, 3, 3, 3] 3 #[.int .i64 (a.size : Int), .int .i64 (b.size : Int), .int .i64 (c.size : Int), .int .i64 200]).run Tryd.prog W = .ok (.int .i64 (n : Int)) W := fun W => run_min_int4 _ _ _ _ _ _ _ _ _ _ _ Hn.out
  have hmk := make_bytes n (by omega)
  go_wp2_with fail
  clear hmin hmk
  have hB0 := (bt hb1 (ba w1 (.cells (madeCells #[.int .u8 0] n) 5)))
  have hBuf0 : Buf (w1.alloc (.cells (madeCells #[.int .u8 0] n) 5)) w1.heap.size (xorTo (nums a) (nums b) (nums c) n 0) := by rw [xorTo_zero]; exact Buf.made w1 n
  obtain ⟨B, HBe⟩ : ∃ B, Hid (w1.heap.size = B) := ⟨_, Lib.hid rfl⟩
  have hwB : w.heap.size ≤ B := by rw [← HBe.out]; exact hb1.size
  rw [HBe.out] at hBuf0 ⊢
  generalize w1.alloc (.cells (madeCells #[.int .u8 0] n) 5) = w2 at hB0 hBuf0 ⊢
  go_loopw [10] (fun i wr => ∃ k : Nat, k ≤ n ∧ i = .int .i64 k ∧ Buf wr B (xorTo (nums a) (nums b) (nums c) n k) ∧ Below w.heap.size w wr) (fun i _ => n - (intOf i).toNat)
  case atStart => exact ⟨0, by omega, rfl, hBuf0, hB0⟩
  case round =>
    obtain ⟨k, hk, rfl, hBuf, hB⟩ := hrel
    by_cases hlt : k < n
    · have hc1 := hBuf.cell (j := k) (by rw [xorTo_len]; exact hlt)
      have hf1 := hBuf.frozen (j := k) (by rw [xorTo_len]; exact hlt)
      have hka : k < a.size := by omega
      have hkb : k < b.size := by omega
      have hkc : k < c.size := by omega
      have ea : (nums a).getD k 0 = a[k].toNat := nums_getD a k hka
      have eb : (nums b).getD k 0 = b[k].toNat := nums_getD b k hkb
      have ec : (nums c).getD k 0 = c[k].toNat := nums_getD c k hkc
      have hS := xorTo_succ (nums a) (nums b) (nums c) n k
      rw [ea, eb, ec] at hS
      have la := a[k].toNat_lt
      have lb := b[k].toNat_lt
      have lc := c[k].toNat_lt
      obtain ⟨v, Hv⟩ : ∃ v, Hid (a[k].toNat ^^^ b[k].toNat ^^^ c[k].toNat = v) := ⟨_, Lib.hid rfl⟩
      have hx : bits .xor .u8 (bits .xor .u8 (a[k].toNat : Int) (b[k].toNat : Int)) (c[k].toNat : Int) = (v : Int) := by
        rw [u8_xor_nat _ _ la lb, u8_xor_nat _ _ (Nat.xor_lt_two_pow (n := 8) la lb) lc, Hv.out]
      rw [Hv.out] at hS
      have HS := Lib.hid hS
      clear hS ea eb ec la lb lc
      go_wp2
      go_region
      go_wp2
      refine ⟨⟨k + 1, by omega, by go_num, by rw [← HS.out]; exact (hBuf.set (j := k) (by rw [xorTo_len]; exact hlt) v).drew, (hB.setCell (p := ⟨B, k, none⟩) hwB _).drew⟩, by simp [intOf]; omega⟩
    · obtain rfl : k = n := by omega
      have hl := xorTo_len (nums a) (nums b) (nums c) k k
      obtain ⟨L, HL⟩ : ∃ L, Hid (xorTo (nums a) (nums b) (nums c) k k = L) := ⟨_, Lib.hid rfl⟩
      rw [HL.out] at hBuf hl
      have hNr : ∀ m, Nib (wr.drewN m) := fun m => (HN.out.below hB).drewN m
      have hconv : ∀ m, (convert 38 9 (.slice (some ⟨B, 0, none⟩) k k)).run Tryd.prog (wr.drewN m) = .ok (.string (strOf' L)) (wr.drewN m) := fun m => by
        have := run_bytes_str (hBuf.drewN m) k
        rw [hl] at this
        exact this
      have HNr := Lib.hid hNr
      clear hNr
      have z0 : (strOf' L).size ≤ maxLen := by rw [strOf'_size, hl]; unfold maxLen; omega
      have z1 : (a.extract 0 k).size ≤ maxLen := by rw [ByteArray.size_extract]; unfold maxLen; omega
      have z2 : (b.extract 0 k).size ≤ maxLen := by rw [ByteArray.size_extract]; unfold maxLen; omega
      have z3 : (c.extract 0 k).size ≤ maxLen := by rw [ByteArray.size_extract]; unfold maxLen; omega
      have hE : ((sumOf (strOf' L) : Int) == bits .xor .i64 (bits .xor .i64 (sumOf (a.extract 0 k) : Int) (sumOf (b.extract 0 k) : Int)) (sumOf (c.extract 0 k) : Int)) = true := by
        have l1 := sumOf_lt (a.extract 0 k)
        have l2 := sumOf_lt (b.extract 0 k)
        have l3 := sumOf_lt (c.extract 0 k)
        have l12 := Nat.xor_lt_two_pow (n := 32) (show sumOf (a.extract 0 k) < 2 ^ 32 by omega) (show sumOf (b.extract 0 k) < 2 ^ 32 by omega)
        rw [i64_xor_nat _ _ (by omega) (by omega), i64_xor_nat _ _ (by omega) (by omega), beq_iff_eq, ← HL.out, sum_affine a b c k hna hnb hnc]
      go_wp2
      go_quiet ((go_at_call 21; exact Calls.quiet_of_same (sum_any _ _ (by assumption) (HNr.out _))))
      go_wp2
      go_ret
      exact ⟨rfl, below_drewN hB _⟩
end Go.Proofs.YtdbjnojalfkaaaaDoor
