/- WALKS: sane. -/
import Derived.Test.YtpapfegbodolgaaDoorS2b
import Derived.Test.YtpapfegbodolgaaDoorP8
set_option linter.unusedVariables false
set_option linter.unnecessarySimpa false
set_option linter.unusedSimpArgs false
namespace Go.Proofs.YtpapfegbodolgaaDoor
open Go.RowKit Go.Sort

/-- What the slots of the law's first drawn region hold. -/
def F5 (b : Nat) (r0 s1 E0 : ByteArray) (i : Nat) (v : Value) (w : World) : Prop :=
  match i with
  | 0 => v = .pointer (some ⟨b, 0, none⟩)
  | 1 => v = .string r0
  | 2 => ∃ g, v = .slice (some ⟨g, 0, none⟩) 32 32 ∧ Blk w g (bytesV (List.replicate 32 0)) 5
  | 3 => v = .string zr32
  | 4 => v = .string (⟨#[0]⟩ ++ zr32)
  | 5 => v = .string s1
  | 6 => v = .string E0
  | 7 => ∃ g, v = .slice (some ⟨g, 0, none⟩) 1 1 ∧ Strs w v [E0]
  | 8 => v = .string r0
  | _ => v = .bool true
theorem F5_below (b : Nat) (r0 s1 E0 : ByteArray) : ∀ (i : Nat) (v : Value) (w w' : World), F5 b r0 s1 E0 i v w → Below w.heap.size w w' → F5 b r0 s1 E0 i v w' := fun i v w w' h k => by
  match i, h with
  | 0, h => exact h
  | 1, h => exact h
  | 2, ⟨g, e, hb⟩ => exact ⟨g, e, hb.below k⟩
  | 3, h => exact h
  | 4, h => exact h
  | 5, h => exact h
  | 6, h => exact h
  | 7, ⟨g, e, hb⟩ => exact ⟨g, e, hb.below k⟩
  | 8, h => exact h
  | _ + 9, h => exact h
/-- What the slots of the law's last region hold. -/
def F17 (b g kb : Nat) (zr s1 s2 c1 E1 r1 : ByteArray) (vp : Value) (va : Option Addr) (vcap : Nat) (c7 : MCh) (i : Nat) (v : Value) (w : World) : Prop :=
  bif i == 71 then (∃ k, v = .slice (some ⟨k, 0, none⟩) 1 1 ∧ RecS w v [⟨1, [c7]⟩]) else v = ([.bool true, .bool true, .int .i64 0, .bool true, .bool true, .bool true, .int .i64 90, .bool true, .bool true, .bool true, .bool true, .bool true, .bool true, .pointer (some ⟨kb, 2, none⟩), .string s2, .string s2, .bool true, .bool true, .bool true, .pointer (some ⟨kb, 0, none⟩), .int .i64 1, .bool true, .bool true, .bool true, .int .i64 0, .bool true, .bool true, .bool true, .int .i64 0, .bool true, .bool true, .bool true, .agg #[.int .i64 1, .string c1, .string s2], .agg #[.int .i64 1, .string c1, .string s2], .bool true, .bool true, .bool true, .string E1, .int .i64 65, .bool true, .bool true, .bool true, .int .i64 0, .bool true, .bool true, .bool true, .pointer (some ⟨b, 0, none⟩), .string r1, .agg #[.int .i64 1, .string c1, .string s2], vp, .bool true, .bool true, .bool true, .pointer (some ⟨b, 0, none⟩), .string r1, .agg #[.int .i64 0, .string zr, .string s1], vp, .bool false, .bool true, .bool true, .bool true, .int .i64 2, .bool true, .bool true, .bool true, .int .i64 2, .bool true, .bool true, .bool true, .agg #[.int .i64 0, .string zr, .string s1], .agg #[.int .i64 1, .slice (some ⟨g, 0, none⟩) 1 1], undef, .agg #[.int .i64 1, .string c1, .string s2], .bool true, .bool true, .bool true, .agg #[.int .i64 0, .string zr, .string s1], .agg #[.int .i64 1, .string c1, .string s2], .bool false, .bool true, .bool true, .bool true, .bool true, .bool true, .bool true, .agg #[.int .i64 1, .slice (some ⟨g, 0, none⟩) 1 1], .agg #[.int .i64 1, .slice va 1 vcap], .bool true, .bool true, .bool true, .pointer (some ⟨b, 0, none⟩), .int .i64 1, .bool true, .bool true, .bool true] : List Value).getD i undef
theorem F17_below (b g kb : Nat) (zr s1 s2 c1 E1 r1 : ByteArray) (vp : Value) (va : Option Addr) (vcap : Nat) (c7 : MCh) : ∀ (i : Nat) (v : Value) (w w' : World), F17 b g kb zr s1 s2 c1 E1 r1 vp va vcap c7 i v w → Below w.heap.size w w' → F17 b g kb zr s1 s2 c1 E1 r1 vp va vcap c7 i v w' := fun i v w w' h k => by
  unfold F17 at *
  cases hi : i == 71 with
  | true =>
    rw [hi] at h
    obtain ⟨j, e, hr⟩ := h
    exact ⟨j, e, hr.below k⟩
  | false => rw [hi] at h; exact h
theorem strs_one1 (w : World) (a : ByteArray) : Strs (w.alloc (.cells #[.string a] 9)) (.slice (some ⟨w.heap.size, 0, none⟩) 1 1) [a] :=
  (own_one w w.heap.size a (Nat.le_refl _)).strs
theorem fill32 (w : World) : (Instr.makeSlice 67 (.int .i64 32) (.int .i64 32)).run Tryd.prog w = .ok (.slice (some ⟨w.heap.size, 0, none⟩) 32 32) (w.alloc (.cells (bytesV (List.replicate 32 0)).toArray 5)) := by kernel_rfl
set_option maxRecDepth 100000 in
set_option maxHeartbeats 4000000 in
theorem sane_any (w : World) (hT : Tab w) : Calls Tryd.prog 7 #[] w fun e w' => e = .returned (.bool true) ∧ Below w.heap.size w w' := by
  have HT := Lib.hid hT
  clear hT
  obtain ⟨s1, HS1⟩ : ∃ s, Hid (stS 1 = s) := ⟨_, Lib.hid rfl⟩
  have HC1 : Hid (∀ W, Calls Tryd.prog 27 #[.int .i64 1] W fun e w' => e = .returned (.string s1) ∧ Below W.heap.size W w') := Lib.hid fun W => by rw [← HS1.out]; exact state_any 1 W (by decide) (by decide)
  have HN1 := Lib.hid (show ∀ W, Calls Tryd.prog 29 #[.string s1] W (NewOut W s1) from fun W => new_ok s1 W (by rw [← HS1.out]; exact stS_size 1))
  obtain ⟨E0, HE0⟩ : ∃ s, Hid (⟨#[0]⟩ ++ zr32 ++ s1 = s) := ⟨_, Lib.hid rfl⟩
  obtain ⟨r0, HR1⟩ : ∃ s, Hid (dg.root [E0] = s) := ⟨_, Lib.hid rfl⟩
  have HEn : Hid (encH ⟨0, zr32, s1⟩ = E0) := Lib.hid (by rw [← HE0.out, ← HS1.out]; exact empty_x.symm)
  have HR0 : Hid (dg.root (encHs [⟨0, zr32, s1⟩]) = r0) := Lib.hid (by rw [← HR1.out, ← HEn.out]; rfl)
  have HE1 : Hid (Short [E0]) := Lib.hid (fun x hx => by
    obtain rfl := List.mem_singleton.1 hx
    rw [← HE0.out, ByteArray.size_append, ByteArray.size_append, ← HS1.out, stS_size, zr32_size]; decide)
  have HS1z : Hid (s1.size = 32) := Lib.hid (by rw [← HS1.out]; exact stS_size 1)
  obtain ⟨c7, HC7⟩ : ∃ c, Hid (chg 7 = c) := ⟨_, Lib.hid rfl⟩
  have HCg : Hid (∀ W, Calls Tryd.prog 31 #[.int .i64 7] W fun e w' => e = .returned (chV c7) ∧ Below W.heap.size W w') := Lib.hid fun W => by rw [← HC7.out]; exact change_any 7 W (by unfold I64; decide)
  obtain ⟨s2, HS2⟩ : ∃ s, Hid (stS 2 = s) := ⟨_, Lib.hid rfl⟩
  have HC2 : Hid (∀ W, Calls Tryd.prog 27 #[.int .i64 2] W fun e w' => e = .returned (.string s2) ∧ Below W.heap.size W w') := Lib.hid fun W => by rw [← HS2.out]; exact state_any 2 W (by decide) (by decide)
  have HX0 : Hid (hX0 = ⟨0, zr32, s1⟩) := Lib.hid (by rw [← HS1.out]; rfl)
  obtain ⟨c1, Hc1⟩ : ∃ c, Hid (dg.chain zr32 (encRecS 1 [c7]) = c) := ⟨_, Lib.hid rfl⟩
  have HX1 : Hid (hX1 = ⟨1, c1, s2⟩) := Lib.hid (by rw [← Hc1.out, ← HS2.out, ← HC7.out]; rfl)
  have HNX : Hid (NxOk ((([⟨0, zr32, s1⟩] : List MHead)).getD ([] : List MRec).length hdZ) 1 [c7] s2) := Lib.hid (by rw [← HS2.out, ← HC7.out, ← HX0.out]; exact nx_x)
  have HNX1 : Hid (nxH ((([⟨0, zr32, s1⟩] : List MHead)).getD ([] : List MRec).length hdZ) 1 [c7] s2 = ⟨1, c1, s2⟩) := Lib.hid (by rw [← Hc1.out]; rfl)
  have HNN : Hid (¬ NxOk ((([⟨0, zr32, s1⟩, ⟨1, c1, s2⟩] : List MHead)).getD ([⟨1, [c7]⟩] : List MRec).length hdZ) 1 [c7] s2) := Lib.hid (by rw [← HC7.out, ← HX1.out]; exact nx_no s2)
  have HS2z : Hid (s2.size = 32) := Lib.hid (by rw [← HS2.out]; exact stS_size 2)
  obtain ⟨E1, HE1x⟩ : ∃ s, Hid (encH ⟨1, c1, s2⟩ = s) := ⟨_, Lib.hid rfl⟩
  have HE1z : Hid (E1.size = 65) := Lib.hid (by rw [← HE1x.out, ← HX1.out]; exact encx_size)
  have HO1 : Hid (Hok ⟨1, c1, s2⟩) := Lib.hid (by rw [← HX1.out]; exact hok_x1)
  have HO0 : Hid (Hok ⟨0, zr32, s1⟩) := Lib.hid (by rw [← HX0.out]; exact hok_x0)
  have HD1 : Hid (decH E1 = (⟨1, c1, s2⟩, 0)) := Lib.hid (by rw [← HE1x.out, ← HX1.out]; exact decH_x)
  obtain ⟨P1, HP1⟩ : ∃ p, Hid (dg.path [E0, E1] 1 = p) := ⟨_, Lib.hid rfl⟩
  obtain ⟨r1, HR2⟩ : ∃ r, Hid (dg.root [E0, E1] = r) := ⟨_, Lib.hid rfl⟩
  have HPs : Hid (Short P1) := Lib.hid (by rw [← HP1.out]; exact path_short _ _)
  have HV1 : Hid (verH r1 1 ⟨1, c1, s2⟩ P1 = true) := Lib.hid (by rw [← HR2.out, ← HP1.out, ← HEn.out, ← HE1x.out, ← HX0.out, ← HX1.out]; exact ver_x1)
  have HV0 : Hid (verH r1 1 ⟨0, zr32, s1⟩ P1 = false) := Lib.hid (by rw [← HR2.out, ← HP1.out, ← HEn.out, ← HE1x.out, ← HX0.out, ← HX1.out]; exact ver_x0)
  have HW1 : Hid (flw ⟨0, zr32, s1⟩ [⟨1, [c7]⟩] ⟨1, c1, s2⟩ = true) := Lib.hid (by rw [← HX0.out, ← HX1.out, ← HC7.out]; exact flw_x1)
  have HW0 : Hid (flw ⟨0, zr32, s1⟩ [] ⟨1, c1, s2⟩ = false) := Lib.hid (by rw [← HX0.out, ← HX1.out]; exact flw_x0)
  have Hz : Hid (zr32.size ≤ maxLen ∧ s1.size ≤ maxLen ∧ c1.size ≤ maxLen ∧ s2.size ≤ maxLen ∧ E1.size ≤ maxLen) := Lib.hid (by rw [HS1z.out, HS2z.out, HE1z.out, zr32_size, HO1.out.2.1]; unfold maxLen; omega)
  clear Hc1
  have HHa : Hid (∀ b W F, LgAt W F b [⟨1, [c7]⟩] [⟨0, zr32, s1⟩, ⟨1, c1, s2⟩] → Calls Tryd.prog 13 #[.pointer (some ⟨b, 0, none⟩), .int .i64 0] W fun e w' => e = .returned (.tuple #[.agg #[.int .i64 0, .string zr32, .string s1], .bool true]) ∧ Below W.heap.size W w') := Lib.hid fun _ _ _ h => head_two0 h
  have HEc : Hid (∀ W, Calls Tryd.prog 8 #[.agg #[.int .i64 1, .string c1, .string s2]] W fun e w' => e = .returned (.tuple #[.string E1, .int .i64 0]) ∧ Below W.heap.size W w') := Lib.hid fun W => by
    have := encodeH_any ⟨1, c1, s2⟩ W Hz.out.2.2.1 Hz.out.2.2.2.1
    rw [encOutH, if_pos HO1.out, HE1x.out] at this
    exact this
  have HDc : Hid (∀ W, Calls Tryd.prog 9 #[.string E1] W fun e w' => e = .returned (.tuple #[.agg #[.int .i64 1, .string c1, .string s2], .int .i64 0]) ∧ Below W.heap.size W w') := Lib.hid fun W => by
    have := decodeH_any E1 W Hz.out.2.2.2.2
    rw [decOut, HD1.out] at this
    exact this
  have HPc : Hid (∀ b W F, LgAt W F b [⟨1, [c7]⟩] [⟨0, zr32, s1⟩, ⟨1, c1, s2⟩] → Tab W → Calls Tryd.prog 14 #[.pointer (some ⟨b, 0, none⟩), .int .i64 1] W (PathOut W P1)) := Lib.hid fun _ _ _ h ht => by
    have := prove_two h ht
    rw [HEn.out, HE1x.out, HP1.out] at this
    exact this
  have HHb : Hid (∀ b W F, LgAt W F b [⟨1, [c7]⟩] [⟨0, zr32, s1⟩, ⟨1, c1, s2⟩] → Calls Tryd.prog 13 #[.pointer (some ⟨b, 0, none⟩), .int .i64 1] W fun e w' => e = .returned (.tuple #[.agg #[.int .i64 1, .string c1, .string s2], .bool true]) ∧ Below W.heap.size W w') := Lib.hid fun _ _ _ h => head_two1 h
  go_enter Tryd.func7, Tryd.ntmps7
  go_wp2_with fail
  (with_reducible refine (HC1.out _).mono ?_)
  rintro e w1 ⟨rfl, hb1⟩
  have HB1 := Lib.hid hb1
  clear hb1
  go_wp2_with fail
  (with_reducible refine (HN1.out _).mono ?_)
  rintro e w2 ⟨b, rfl, hl, hb2⟩
  have HB2 := Lib.hid (bt HB1.out hb2)
  have HL2 := Lib.hid (hl.tight.mono (G := FL w.heap.size w2.heap.size 0 0) fun k hk => .inl ⟨Nat.le_trans HB1.out.size hk.1, hk.2⟩)
  clear hl hb2 HB1
  go_wp2_with fail
  (with_reducible refine (new_bad ⟨#[120]⟩ _ (by unfold maxLen; decide) (by decide)).mono ?_)
  rintro e wx ⟨rfl, rfl⟩
  go_upto_region 5 with fail
  have HRt : Hid (∀ W, Below w2.heap.size w2 W → Calls Tryd.prog 16 #[.pointer (some ⟨b, 0, none⟩)] W fun e w' => e = .returned (.string r0) ∧ Below W.heap.size W w') := Lib.hid fun W hb => by
    have := rootL_any (HL2.out.below hb) (HT.out.below (bt HB2.out hb))
    rw [HR0.out] at this
    exact this
  have HDg : Hid (∀ W v, Below w2.heap.size w2 W → Strs W v [E0] → Calls Tryd.prog 30 #[v] W fun e w' => e = .returned (.string r0) ∧ Below W.heap.size W w') := Lib.hid fun W v hb hs => by
    have := root_c 1 [E0] v W (by simp) hs HE1.out (HT.out.below (bt HB2.out hb))
    rw [HR1.out] at this
    exact this
  refine wp_region_factsE (F5 b r0 s1 E0) (by kernel_rfl) (by kernel_rfl) (by kernel_rfl) (F5_below b r0 s1 E0) ⟨?_, ?_, ?_, ?_, ?_, ?_, ?_, ?_, ?_, ?_, ?_, trivial⟩ ?_
  · refine plain rfl ?_
    intro listed a w' hf hr
    exact wp_move (.inl rfl) (hf.out 1 (by kernel_rfl)) ⟨_, rfl, rfl, Below.refl _ _⟩
  · refine plain rfl ?_
    intro listed a w' hf hr
    refine wp_call1 (vs := #[.pointer (some ⟨b, 0, none⟩)]) rfl (by kernel_rfl) ?_ ((HRt.out _ hf.below).mono fun e w'' ⟨he, hb⟩ => ⟨_, he, _, rfl, rfl, hb⟩)
    have e := hf.dep hr 0 44 rfl rfl (by kernel_rfl)
    simp only [List.map_toArray, List.map_cons, List.map_nil, Act.eval]
    rw [show a.tmps.getD 44 undef = _ from e]
  · refine plain rfl ?_
    intro listed a w' hf hr
    refine wp_value (v := .slice (some ⟨w'.heap.size, 0, none⟩) 32 32) (w' := w'.alloc (.cells (bytesV (List.replicate 32 0)).toArray 5)) ?_ ⟨_, rfl, ⟨_, rfl, Blk.new _ _ _⟩, ba w' _⟩
    simp [execOp, Act.eval, fill32, go_sem]
  · refine plain rfl ?_
    intro listed a w' hf hr
    obtain ⟨g, e, hb⟩ := hf.dep hr 2 46 rfl rfl (by kernel_rfl)
    have hcv := bytes_text hb (n := 32) (by simp) 32
    rw [zr_of] at hcv
    refine wp_value (w' := w') (v := .string zr32) ?_ ⟨_, rfl, rfl, Below.refl _ _⟩
    simp [execOp, Act.eval, e, hcv, go_sem]
  · refine plain rfl ?_
    intro listed a w' hf hr
    have e : a.tmps.getD 47 undef = .string zr32 := hf.dep hr 3 47 rfl rfl (by kernel_rfl)
    refine wp_value (w' := w') (v := .string ((⟨#[0]⟩ : ByteArray) ++ zr32)) ?_ ⟨_, rfl, rfl, Below.refl _ _⟩
    simp [execOp, Act.eval, e, go_sem]
    rw [zr32_size]; decide
  · refine plain rfl ?_
    intro listed a w' hf hr
    refine wp_call1 (vs := #[.int .i64 1]) rfl (by kernel_rfl) (by simp [Act.eval]) ((HC1.out _).mono fun e w'' ⟨he, hb⟩ => ⟨_, he, _, rfl, rfl, hb⟩)
  · refine plain rfl ?_
    intro listed a w' hf hr
    have e : a.tmps.getD 48 undef = .string ((⟨#[0]⟩ : ByteArray) ++ zr32) := hf.dep hr 4 48 rfl rfl (by kernel_rfl)
    have e2 : a.tmps.getD 49 undef = .string s1 := hf.dep hr 5 49 rfl rfl (by kernel_rfl)
    refine wp_value (w' := w') (v := .string E0) ?_ ⟨_, rfl, rfl, Below.refl _ _⟩
    rw [← HE0.out]
    simp [execOp, Act.eval, e, e2, go_sem]
    rw [zr32_size, HS1z.out]; decide
  · refine plain rfl ?_
    intro listed a w' hf hr
    have e : a.tmps.getD 50 undef = .string E0 := hf.dep hr 6 50 rfl rfl (by kernel_rfl)
    refine wp_value (v := .slice (some ⟨w'.heap.size, 0, none⟩) 1 1) (w' := w'.alloc (.cells #[.string E0] 9)) ?_ ⟨_, rfl, ⟨_, rfl, strs_one1 _ _⟩, ba w' _⟩
    simp only [Array.getD_eq_getD_getElem?] at e
    simp [execOp, Act.eval, e, go_sem]
  · refine plain rfl ?_
    intro listed a w' hf hr
    obtain ⟨g, e, hs⟩ := hf.dep hr 7 51 rfl rfl (by kernel_rfl)
    refine wp_call1 (vs := #[.slice (some ⟨g, 0, none⟩) 1 1]) rfl (by kernel_rfl) ?_ ((HDg.out _ _ hf.below (e ▸ hs)).mono fun e w'' ⟨he, hb⟩ => ⟨_, he, _, rfl, rfl, hb⟩)
    simp only [List.map_toArray, List.map_cons, List.map_nil, Act.eval]
    rw [e]
  · refine plain rfl ?_
    intro listed a w' hf hr
    have e : a.tmps.getD 45 undef = .string r0 := hf.dep hr 1 45 rfl rfl (by kernel_rfl)
    have e2 : a.tmps.getD 52 undef = .string r0 := hf.dep hr 8 52 rfl rfl (by kernel_rfl)
    refine wp_value (w' := w') (v := .bool true) ?_ ⟨_, rfl, rfl, Below.refl _ _⟩
    simp [execOp, Act.eval, e, e2, go_sem]
  · refine plain rfl ?_
    intro listed a w' hf hr
    exact wp_move (.inr rfl) (hf.dep hr 9 53 rfl rfl (by kernel_rfl)) ⟨_, rfl, rfl, Below.refl _ _⟩
  intro w3 hb3 v44 h44 v45 h45 v46 h46 v47 h47 v48 h48 v49 h49 v50 h50 v51 h51 v52 h52 v53 h53 v5 h5
  obtain rfl : v5 = .bool true := h5
  obtain rfl : v45 = .string r0 := h45
  have HB3 := Lib.hid (bt HB2.out hb3)
  have HL3 := Lib.hid (HL2.out.below hb3)
  have HZ3 : Hid (w2.heap.size ≤ w3.heap.size) := Lib.hid hb3.size
  have HW2 : Hid (w.heap.size ≤ w2.heap.size) := Lib.hid HB2.out.size
  clear h44 h46 h47 h48 h49 h50 h51 h52 h53 hb3 HRt HDg HL2 HB2
  simp only [FactEnd, Exit.then]
  go_frame
  go_wp2_with fail
  (with_reducible refine (HCg.out _).mono ?_)
  rintro e w4 ⟨rfl, hb4⟩
  have HB4 := Lib.hid (bt HB3.out hb4)
  have HL4 := Lib.hid (HL3.out.below hb4)
  have HZ4 : Hid (w2.heap.size ≤ w4.heap.size) := Lib.hid (Nat.le_trans HZ3.out hb4.size)
  clear hb4 HB3 HL3
  obtain ⟨g, HG⟩ : ∃ g, Hid (w4.heap.size = g) := ⟨_, Lib.hid rfl⟩
  go_upto_region 7 with fail
  have hy5 := lay2 w4 (.cells (chCells c7) 57) (.cells #[.int .i64 1, .slice (some ⟨w4.heap.size, 0, none⟩) 1 1] 51)
  obtain ⟨w5, Hw5⟩ : ∃ w5, Hid ((w4.alloc (.cells (chCells c7) 57)).alloc (.cells #[.int .i64 1, .slice (some ⟨w4.heap.size, 0, none⟩) 1 1] 51) = w5) := ⟨_, Lib.hid rfl⟩
  rw [Hw5.out] at hy5
  unfold chCells at Hw5
  rw [Hw5.out]
  have HB5 := Lib.hid (bt HB4.out hy5.1)
  have HL5 := Lib.hid (HL4.out.below hy5.1)
  have HS5 := Lib.hid (chS_one c7 hy5.2.1)
  have HG5 := Lib.hid hy5.2.2
  have HQ5 := Lib.hid hy5.2.1
  have HSZ : Hid (w2.heap.size ≤ w4.heap.size) := Lib.hid HZ4.out
  clear hy5 Hw5 HB4 HL4
  rw [HG.out] at HG5 HS5 HQ5 HSZ ⊢
  have gr : ∀ w0, BW w5 w0 → ∀ w2, BC w0 w2 → w2.heap[g + 1]? = some (.cells #[.int .i64 1, .slice (some ⟨g, 0, none⟩) 1 1] 51 (0, 0)) := fun w0 h w2 k => gone (bt h (bc_below k)) HG5.out
  refine wp_region_calm 3 99 [0, 1, 2] (by kernel_rfl) (by kernel_rfl) (by intro oz h; simp at h) (by intro oz h; simp at h) (by rfl) ?_
  simp only [List.take_succ_cons, List.take_zero]
  apply wpCalm_want
  · rfl
  · exact bc_refl
  · exact ⟨_, Below.refl _ _⟩
  · intro w00 hC0 K hK
    go_big_quiet_op
    exact hK
  apply wpCalm_want
  · rfl
  · exact bc_refl
  · exact ⟨_, Below.refl _ _⟩
  · intro w00 hC0 K hK
    refine quiet_load_row 51 _ rfl (g + 1) rfl 51 _ _ _ (gr _ hC0) Tryd.underlying51 rfl (by kernel_rfl) ?_
    exact hK
  go_frame
  apply wpCalm_want
  · rfl
  · exact bc_refl
  · exact ⟨_, Below.refl _ _⟩
  · intro w00 hC0 K hK
    go_big_quiet_op
    apply Exists.intro
    refine ⟨fun p => ?_, ?_⟩
    · exact Calls.regrown_of (HC2.out _)
    · exact hK
  refine wpCalm_nil ?_
  intro w6 hbq
  try simp only [List.drop_succ_cons, List.drop_zero]
  have HB6 := Lib.hid (bt HB5.out hbq)
  have HL6 := Lib.hid (HL5.out.below hbq)
  have HS6 := Lib.hid (HS5.out.below hbq)
  have HG6 := Lib.hid (gone hbq HG5.out)
  have HQ6 := Lib.hid (gone hbq HQ5.out)
  clear hbq HB5 HL5 HS5 HG5 HQ5
  clear gr
  try go_frame
  go_wp2_with fail
  (with_reducible refine (append_ok HL6.out HS6.out (HT.out.below HB6.out) HNX.out).mono ?_)
  rintro e w7 ⟨rfl, hl7, hk7⟩
  rw [HNX1.out] at hl7
  have h6g : g + 1 < w6.heap.size := lt_of_block HG6.out
  have h2w : w.heap.size ≤ w2.heap.size := HW2.out
  have hnf : ∀ k, k = g ∨ k = g + 1 → ¬ FL w.heap.size w2.heap.size 0 0 k := fun k hk hf => by
    have := HSZ.out
    unfold FL at hf
    omega
  have HL7 : Hid (LgAt w7 (FL w.heap.size w2.heap.size w6.heap.size w7.heap.size) b [⟨1, [c7]⟩] [⟨0, zr32, s1⟩, ⟨1, c1, s2⟩]) := Lib.hid (hl7.tight.mono fun k hk => by
    unfold FL at hk ⊢
    omega)
  have HB7 : Hid (Below w.heap.size w w7) := Lib.hid (HB6.out.trans (hk7.below HB6.out.size fun k hf => by
    unfold FL at hf
    omega))
  have HG7 : Hid (w7.heap[g + 1]? = some (.cells #[.int .i64 1, .slice (some ⟨g, 0, none⟩) 1 1] 51 (0, 0))) := Lib.hid ((hk7.block _ h6g (hnf _ (.inr rfl))).trans HG6.out)
  have HQ7 : Hid (w7.heap[g]? = some (.cells (chCells c7) 57 (0, 0))) := Lib.hid ((hk7.block _ (by omega) (hnf _ (.inl rfl))).trans HQ6.out)
  have HS7 := Lib.hid (chS_one c7 HQ7.out)
  clear hl7 hk7 hnf h6g h2w HL6 HB6 HG6 HQ6 HS6
  go_wp2_with fail
  go_upto_region 8 with fail
  have gr : ∀ w0, BW w7 w0 → ∀ w2, BC w0 w2 → w2.heap[g + 1]? = some (.cells #[.int .i64 1, .slice (some ⟨g, 0, none⟩) 1 1] 51 (0, 0)) := fun w0 h w2 k => gone (bt h (bc_below k)) HG7.out
  refine wp_region_calm 3 99 [0, 1, 2] (by kernel_rfl) (by kernel_rfl) (by intro oz h; simp at h) (by intro oz h; simp at h) (by rfl) ?_
  simp only [List.take_succ_cons, List.take_zero]
  apply wpCalm_want
  · rfl
  · exact bc_refl
  · exact ⟨_, Below.refl _ _⟩
  · intro w00 hC0 K hK
    go_big_quiet_op
    exact hK
  apply wpCalm_want
  · rfl
  · exact bc_refl
  · exact ⟨_, Below.refl _ _⟩
  · intro w00 hC0 K hK
    refine quiet_load_row 51 _ rfl (g + 1) rfl 51 _ _ _ (gr _ hC0) Tryd.underlying51 rfl (by kernel_rfl) ?_
    exact hK
  go_frame
  apply wpCalm_want
  · rfl
  · exact bc_refl
  · exact ⟨_, Below.refl _ _⟩
  · intro w00 hC0 K hK
    go_big_quiet_op
    apply Exists.intro
    refine ⟨fun p => ?_, ?_⟩
    · exact Calls.regrown_of (HC2.out _)
    · exact hK
  refine wpCalm_nil ?_
  intro w8 hbq
  try simp only [List.drop_succ_cons, List.drop_zero]
  have HB8 := Lib.hid (bt HB7.out hbq)
  have HL8 := Lib.hid (HL7.out.below hbq)
  have HS8 := Lib.hid (HS7.out.below hbq)
  have HG8 := Lib.hid (gone hbq HG7.out)
  have HQ8 := Lib.hid (gone hbq HQ7.out)
  clear hbq HB7 HL7 HS7 HG7 HQ7
  clear gr
  try go_frame
  go_wp2_with fail
  (with_reducible refine (append_bad HL8.out HS8.out (HT.out.below HB8.out) (by unfold maxLen; rw [HS2z.out]; decide) HNN.out).mono ?_)
  rintro e w9 ⟨rfl, hb9⟩
  have HB9 := Lib.hid (bt HB8.out hb9)
  have HL9 := Lib.hid (HL8.out.below hb9)
  have HS9 := Lib.hid (HS8.out.below hb9)
  have HG9 := Lib.hid (gone hb9 HG8.out)
  have HQ9 := Lib.hid (gone hb9 HQ8.out)
  clear hb9 HB8 HL8 HS8 HG8 HQ8
  go_wp2_with fail
  (with_reducible refine (HHa.out b _ _ HL9.out).mono ?_)
  rintro e w10 ⟨rfl, hb10⟩
  have HB10 := Lib.hid (bt HB9.out hb10)
  have HL10 := Lib.hid (HL9.out.below hb10)
  have HS10 := Lib.hid (HS9.out.below hb10)
  have HG10 := Lib.hid (gone hb10 HG9.out)
  have HQ10 := Lib.hid (gone hb10 HQ9.out)
  clear hb10 HB9 HL9 HS9 HG9 HQ9
  go_wp2_with fail
  have hyw11 := ba w10 (.cells #[.int .i64 0, .string zr32, .string s1] 23)
  have hzw11 := heap_alloc_new w10 (.cells #[.int .i64 0, .string zr32, .string s1] 23)
  obtain ⟨w11, Hww11⟩ : ∃ x, Hid (w10.alloc (.cells #[.int .i64 0, .string zr32, .string s1] 23) = x) := ⟨_, Lib.hid rfl⟩
  rw [Hww11.out] at hyw11 hzw11 ⊢
  obtain ⟨ka, HKw11⟩ : ∃ k, Hid (w10.heap.size = k) := ⟨_, Lib.hid rfl⟩
  rw [HKw11.out] at hzw11 ⊢
  have HKA11 := Lib.hid hzw11
  clear Hww11 hzw11
  have HB11 := Lib.hid (bt HB10.out hyw11)
  have HL11 := Lib.hid (HL10.out.below hyw11)
  have HS11 := Lib.hid (HS10.out.below hyw11)
  have HG11 := Lib.hid (gone hyw11 HG10.out)
  have HQ11 := Lib.hid (gone hyw11 HQ10.out)
  clear hyw11 HB10 HL10 HS10 HG10 HQ10
  (with_reducible refine (HHb.out b _ _ HL11.out).mono ?_)
  rintro e w12 ⟨rfl, hb12⟩
  have HB12 := Lib.hid (bt HB11.out hb12)
  have HL12 := Lib.hid (HL11.out.below hb12)
  have HS12 := Lib.hid (HS11.out.below hb12)
  have HG12 := Lib.hid (gone hb12 HG11.out)
  have HQ12 := Lib.hid (gone hb12 HQ11.out)
  have HKA12 := Lib.hid (gone hb12 HKA11.out)
  clear hb12 HB11 HL11 HS11 HG11 HQ11 HKA11
  go_wp2_with fail
  have hyw13 := ba w12 (.cells #[.int .i64 1, .string c1, .string s2] 23)
  have hzw13 := heap_alloc_new w12 (.cells #[.int .i64 1, .string c1, .string s2] 23)
  obtain ⟨w13, Hww13⟩ : ∃ x, Hid (w12.alloc (.cells #[.int .i64 1, .string c1, .string s2] 23) = x) := ⟨_, Lib.hid rfl⟩
  rw [Hww13.out] at hyw13 hzw13 ⊢
  obtain ⟨kb, HKw13⟩ : ∃ k, Hid (w12.heap.size = k) := ⟨_, Lib.hid rfl⟩
  rw [HKw13.out] at hzw13 ⊢
  have HKB13 := Lib.hid hzw13
  clear Hww13 hzw13
  have HB13 := Lib.hid (bt HB12.out hyw13)
  have HL13 := Lib.hid (HL12.out.below hyw13)
  have HS13 := Lib.hid (HS12.out.below hyw13)
  have HG13 := Lib.hid (gone hyw13 HG12.out)
  have HQ13 := Lib.hid (gone hyw13 HQ12.out)
  have HKA13 := Lib.hid (gone hyw13 HKA12.out)
  clear hyw13 HB12 HL12 HS12 HG12 HQ12 HKA12
  go_wp2_with fail
  (with_reducible refine (HEc.out _).mono ?_)
  rintro e w14 ⟨rfl, hb14⟩
  have HB14 := Lib.hid (bt HB13.out hb14)
  have HL14 := Lib.hid (HL13.out.below hb14)
  have HS14 := Lib.hid (HS13.out.below hb14)
  have HG14 := Lib.hid (gone hb14 HG13.out)
  have HQ14 := Lib.hid (gone hb14 HQ13.out)
  have HKA14 := Lib.hid (gone hb14 HKA13.out)
  have HKB14 := Lib.hid (gone hb14 HKB13.out)
  clear hb14 HB13 HL13 HS13 HG13 HQ13 HKA13 HKB13
  go_wp2_with fail
  (with_reducible refine (HDc.out _).mono ?_)
  rintro e w15 ⟨rfl, hb15⟩
  have HB15 := Lib.hid (bt HB14.out hb15)
  have HL15 := Lib.hid (HL14.out.below hb15)
  have HS15 := Lib.hid (HS14.out.below hb15)
  have HG15 := Lib.hid (gone hb15 HG14.out)
  have HQ15 := Lib.hid (gone hb15 HQ14.out)
  have HKA15 := Lib.hid (gone hb15 HKA14.out)
  have HKB15 := Lib.hid (gone hb15 HKB14.out)
  clear hb15 HB14 HL14 HS14 HG14 HQ14 HKA14 HKB14
  go_wp2_with fail
  have hyw16 := ba w15 (.cells #[.int .i64 1, .string c1, .string s2] 23)
  have hzw16 := heap_alloc_new w15 (.cells #[.int .i64 1, .string c1, .string s2] 23)
  obtain ⟨w16, Hww16⟩ : ∃ x, Hid (w15.alloc (.cells #[.int .i64 1, .string c1, .string s2] 23) = x) := ⟨_, Lib.hid rfl⟩
  rw [Hww16.out] at hyw16 hzw16 ⊢
  obtain ⟨kc, HKw16⟩ : ∃ k, Hid (w15.heap.size = k) := ⟨_, Lib.hid rfl⟩
  rw [HKw16.out] at hzw16 ⊢
  have HKC16 := Lib.hid hzw16
  clear Hww16 hzw16
  have HB16 := Lib.hid (bt HB15.out hyw16)
  have HL16 := Lib.hid (HL15.out.below hyw16)
  have HS16 := Lib.hid (HS15.out.below hyw16)
  have HG16 := Lib.hid (gone hyw16 HG15.out)
  have HQ16 := Lib.hid (gone hyw16 HQ15.out)
  have HKA16 := Lib.hid (gone hyw16 HKA15.out)
  have HKB16 := Lib.hid (gone hyw16 HKB15.out)
  clear hyw16 HB15 HL15 HS15 HG15 HQ15 HKA15 HKB15
  go_wp2_with fail
  (with_reducible refine (HPc.out b _ _ HL16.out (HT.out.below HB16.out)).mono ?_)
  rintro e w17 ⟨vp, rfl, ho17, hb17⟩
  have HV17 := Lib.hid ho17.strs
  clear ho17
  have HB17 := Lib.hid (bt HB16.out hb17)
  have HL17 := Lib.hid (HL16.out.below hb17)
  have HS17 := Lib.hid (HS16.out.below hb17)
  have HG17 := Lib.hid (gone hb17 HG16.out)
  have HQ17 := Lib.hid (gone hb17 HQ16.out)
  have HKA17 := Lib.hid (gone hb17 HKA16.out)
  have HKB17 := Lib.hid (gone hb17 HKB16.out)
  have HKC17 := Lib.hid (gone hb17 HKC16.out)
  clear hb17 HB16 HL16 HS16 HG16 HQ16 HKA16 HKB16 HKC16
  go_wp2_with fail
  (with_reducible refine (prove_two2 HL17.out).mono ?_)
  rintro e w18 ⟨rfl, hb18⟩
  have HB18 := Lib.hid (bt HB17.out hb18)
  have HL18 := Lib.hid (HL17.out.below hb18)
  have HS18 := Lib.hid (HS17.out.below hb18)
  have HG18 := Lib.hid (gone hb18 HG17.out)
  have HQ18 := Lib.hid (gone hb18 HQ17.out)
  have HKA18 := Lib.hid (gone hb18 HKA17.out)
  have HKB18 := Lib.hid (gone hb18 HKB17.out)
  have HKC18 := Lib.hid (gone hb18 HKC17.out)
  have HV18 := Lib.hid (HV17.out.below hb18)
  clear hb18 HB17 HL17 HS17 HG17 HQ17 HKA17 HKB17 HKC17 HV17
  go_wp2_with fail
  (with_reducible refine (ext_two2 HL18.out).mono ?_)
  rintro e wx ⟨rfl, rfl⟩
  go_wp2_with fail
  (with_reducible refine (record_two HL18.out).mono ?_)
  rintro e w19 ⟨vy, rfl, hy, hb19⟩
  obtain ⟨va, vcap, rfl, -⟩ := ownsRow_form hy
  have HY19 := Lib.hid hy.chS
  clear hy
  have HB19 := Lib.hid (bt HB18.out hb19)
  have HL19 := Lib.hid (HL18.out.below hb19)
  have HS19 := Lib.hid (HS18.out.below hb19)
  have HG19 := Lib.hid (gone hb19 HG18.out)
  have HQ19 := Lib.hid (gone hb19 HQ18.out)
  have HKA19 := Lib.hid (gone hb19 HKA18.out)
  have HKB19 := Lib.hid (gone hb19 HKB18.out)
  have HKC19 := Lib.hid (gone hb19 HKC18.out)
  have HV19 := Lib.hid (HV18.out.below hb19)
  clear hb19 HB18 HL18 HS18 HG18 HQ18 HKA18 HKB18 HKC18 HV18
  go_wp2_with fail
  have hyw20 := ba w19 (.cells #[.int .i64 1, .slice va 1 vcap] 51)
  have hzw20 := heap_alloc_new w19 (.cells #[.int .i64 1, .slice va 1 vcap] 51)
  obtain ⟨w20, Hww20⟩ : ∃ x, Hid (w19.alloc (.cells #[.int .i64 1, .slice va 1 vcap] 51) = x) := ⟨_, Lib.hid rfl⟩
  rw [Hww20.out] at hyw20 hzw20 ⊢
  obtain ⟨kr, HKw20⟩ : ∃ k, Hid (w19.heap.size = k) := ⟨_, Lib.hid rfl⟩
  rw [HKw20.out] at hzw20 ⊢
  have HKR20 := Lib.hid hzw20
  clear Hww20 hzw20
  have HB20 := Lib.hid (bt HB19.out hyw20)
  have HL20 := Lib.hid (HL19.out.below hyw20)
  have HS20 := Lib.hid (HS19.out.below hyw20)
  have HG20 := Lib.hid (gone hyw20 HG19.out)
  have HQ20 := Lib.hid (gone hyw20 HQ19.out)
  have HKA20 := Lib.hid (gone hyw20 HKA19.out)
  have HKB20 := Lib.hid (gone hyw20 HKB19.out)
  have HKC20 := Lib.hid (gone hyw20 HKC19.out)
  have HV20 := Lib.hid (HV19.out.below hyw20)
  have HY20 := Lib.hid (HY19.out.below hyw20)
  clear hyw20 HB19 HL19 HS19 HG19 HQ19 HKA19 HKB19 HKC19 HV19 HY19
  have HYc := Lib.hid HY20.out
  have HRr : Hid (∀ W, Below w20.heap.size w20 W → Calls Tryd.prog 16 #[.pointer (some ⟨b, 0, none⟩)] W fun e w' => e = .returned (.string r1) ∧ Below W.heap.size W w') := Lib.hid fun W hb => by
    have := root_two (HL20.out.below hb) (HT.out.below (bt HB20.out hb))
    rw [HEn.out, HE1x.out, HR2.out] at this
    exact this
  have HVb : Hid (∀ W, Below w20.heap.size w20 W → Calls Tryd.prog 15 #[.string r1, .int .i64 1, .agg #[.int .i64 1, .string c1, .string s2], vp] W fun e w' => e = .returned (.bool true) ∧ Below W.heap.size W w') := Lib.hid fun W hb => by
    have := verifyH_any r1 1 ⟨1, c1, s2⟩ vp P1 W (HT.out.below (bt HB20.out hb)) Hz.out.2.2.1 Hz.out.2.2.2.1 (HV20.out.below hb) HPs.out
    rw [HV1.out] at this
    exact this
  have HVa : Hid (∀ W, Below w20.heap.size w20 W → Calls Tryd.prog 15 #[.string r1, .int .i64 1, .agg #[.int .i64 0, .string zr32, .string s1], vp] W fun e w' => e = .returned (.bool false) ∧ Below W.heap.size W w') := Lib.hid fun W hb => by
    have := verifyH_any r1 1 ⟨0, zr32, s1⟩ vp P1 W (HT.out.below (bt HB20.out hb)) Hz.out.1 Hz.out.2.1 (HV20.out.below hb) HPs.out
    rw [HV0.out] at this
    exact this
  have HFa : Hid (∀ W v, Below w20.heap.size w20 W → RecS W v [⟨1, [c7]⟩] → Calls Tryd.prog 32 #[.agg #[.int .i64 0, .string zr32, .string s1], v, .agg #[.int .i64 1, .string c1, .string s2]] W fun e w' => e = .returned (.bool true) ∧ Below W.heap.size W w') := Lib.hid fun W v hb hs => by
    have := follows_any ⟨0, zr32, s1⟩ ⟨1, c1, s2⟩ v [⟨1, [c7]⟩] W hs (HT.out.below (bt HB20.out hb)) Hz.out.1 Hz.out.2.1 Hz.out.2.2.1 Hz.out.2.2.2.1
    rw [HW1.out] at this
    exact this
  have HFb : Hid (∀ W, Below w20.heap.size w20 W → Calls Tryd.prog 32 #[.agg #[.int .i64 0, .string zr32, .string s1], .slice none 0 0, .agg #[.int .i64 1, .string c1, .string s2]] W fun e w' => e = .returned (.bool false) ∧ Below W.heap.size W w') := Lib.hid fun W hb => by
    have := follows_any ⟨0, zr32, s1⟩ ⟨1, c1, s2⟩ _ [] W (RecS.nil W) (HT.out.below (bt HB20.out hb)) Hz.out.1 Hz.out.2.1 Hz.out.2.2.1 Hz.out.2.2.2.1
    rw [HW0.out] at this
    exact this
  have HSm : Hid (∀ W, Below w20.heap.size w20 W → Calls Tryd.prog 23 #[.agg #[.int .i64 1, .slice (some ⟨g, 0, none⟩) 1 1], .agg #[.int .i64 1, .slice va 1 vcap]] W fun e w' => e = .returned (.bool true) ∧ Below W.heap.size W w') := Lib.hid fun W hb => by
    have := refSame_any 1 1 _ _ [c7] [c7] W (HS20.out.below hb) (HY20.out.below hb)
    rwa [show sameE 1 1 [c7] [c7] = true from decide_eq_true ⟨rfl, rfl⟩] at this
  have HLn : Hid (∀ W, Below w20.heap.size w20 W → Calls Tryd.prog 28 #[.pointer (some ⟨b, 0, none⟩)] W fun e w' => e = .returned (.int .i64 1) ∧ Below W.heap.size W w') := Lib.hid fun W hb => (len_two (HL20.out.below hb)).mono fun e w' h => ⟨h.1, by rw [← h.2]; exact Below.refl _ _⟩
  refine wp_region_factsE (F17 b g kb zr32 s1 s2 c1 E1 r1 vp va vcap c7) (by kernel_rfl) (by kernel_rfl) (by kernel_rfl) (F17_below b g kb zr32 s1 s2 c1 E1 r1 vp va vcap c7) ⟨?_, ?_, ?_, ?_, ?_, ?_, ?_, ?_, ?_, ?_, ?_, ?_, ?_, ?_, ?_, ?_, ?_, ?_, ?_, ?_, ?_, ?_, ?_, ?_, ?_, ?_, ?_, ?_, ?_, ?_, ?_, ?_, ?_, ?_, ?_, ?_, ?_, ?_, ?_, ?_, ?_, ?_, ?_, ?_, ?_, ?_, ?_, ?_, ?_, ?_, ?_, ?_, ?_, ?_, ?_, ?_, ?_, ?_, ?_, ?_, ?_, ?_, ?_, ?_, ?_, ?_, ?_, ?_, ?_, ?_, ?_, ?_, ?_, ?_, ?_, ?_, ?_, ?_, ?_, ?_, ?_, ?_, ?_, ?_, ?_, ?_, ?_, ?_, ?_, ?_, ?_, ?_, ?_, ?_, ?_, trivial⟩ ?_
  · refine plain rfl ?_
    intro listed a w' hf hr
    exact wp_move (.inl rfl) (v := .bool true) (hf.out 5 (by kernel_rfl)) ⟨_, rfl, rfl, Below.refl _ _⟩
  · refine plain rfl ?_
    intro listed a w' hf hr
    exact wp_move (.inl rfl) (v := .bool true) (hf.dep hr 0 105 rfl rfl (by kernel_rfl)) ⟨_, rfl, rfl, Below.refl _ _⟩
  · refine guarded 1 106 rfl rfl rfl (by kernel_rfl) (fun v w h => h) ?_
    intro listed a w' hf hr
    exact wp_move (.inl rfl) (v := .int .i64 0) (hf.out 7 (by kernel_rfl)) ⟨_, rfl, rfl, Below.refl _ _⟩
  · refine guarded 1 106 rfl rfl rfl (by kernel_rfl) (fun v w h => h) ?_
    intro listed a w' hf hr
    have e0 : a.tmps.getD 107 undef = .int .i64 0 := hf.dep hr 2 107 rfl rfl (by kernel_rfl)
    refine wp_value (w' := w') (v := .bool true) ?_ ⟨_, rfl, rfl, Below.refl _ _⟩
    simp [execOp, Act.eval, e0, go_sem]
  · refine plain rfl ?_
    intro listed a w' hf hr
    have e0 : a.tmps.getD 106 undef = .bool true := hf.dep hr 1 106 rfl rfl (by kernel_rfl)
    have e1 : a.tmps.getD 108 undef = .bool true := hf.dep hr 3 108 rfl rfl (by kernel_rfl)
    refine wp_value (w' := w') (v := .bool true) ?_ ⟨_, rfl, rfl, Below.refl _ _⟩
    simp [execOp, Act.eval, e0, e1, go_sem]
  · refine plain rfl ?_
    intro listed a w' hf hr
    exact wp_move (.inl rfl) (v := .bool true) (hf.dep hr 4 109 rfl rfl (by kernel_rfl)) ⟨_, rfl, rfl, Below.refl _ _⟩
  · refine guarded 5 110 rfl rfl rfl (by kernel_rfl) (fun v w h => h) ?_
    intro listed a w' hf hr
    exact wp_move (.inl rfl) (v := .int .i64 90) (hf.out 8 (by kernel_rfl)) ⟨_, rfl, rfl, Below.refl _ _⟩
  · refine guarded 5 110 rfl rfl rfl (by kernel_rfl) (fun v w h => h) ?_
    intro listed a w' hf hr
    have e0 : a.tmps.getD 111 undef = .int .i64 90 := hf.dep hr 6 111 rfl rfl (by kernel_rfl)
    refine wp_value (w' := w') (v := .bool true) ?_ ⟨_, rfl, rfl, Below.refl _ _⟩
    simp [execOp, Act.eval, e0, go_sem]
  · refine plain rfl ?_
    intro listed a w' hf hr
    have e0 : a.tmps.getD 110 undef = .bool true := hf.dep hr 5 110 rfl rfl (by kernel_rfl)
    have e1 : a.tmps.getD 112 undef = .bool true := hf.dep hr 7 112 rfl rfl (by kernel_rfl)
    refine wp_value (w' := w') (v := .bool true) ?_ ⟨_, rfl, rfl, Below.refl _ _⟩
    simp [execOp, Act.eval, e0, e1, go_sem]
  · refine plain rfl ?_
    intro listed a w' hf hr
    exact wp_move (.inl rfl) (v := .bool true) (hf.dep hr 8 113 rfl rfl (by kernel_rfl)) ⟨_, rfl, rfl, Below.refl _ _⟩
  · refine guarded 9 114 rfl rfl rfl (by kernel_rfl) (fun v w h => h) ?_
    intro listed a w' hf hr
    exact wp_move (.inl rfl) (v := .bool true) (hf.out 12 (by kernel_rfl)) ⟨_, rfl, rfl, Below.refl _ _⟩
  · refine plain rfl ?_
    intro listed a w' hf hr
    have e0 : a.tmps.getD 114 undef = .bool true := hf.dep hr 9 114 rfl rfl (by kernel_rfl)
    have e1 : a.tmps.getD 115 undef = .bool true := hf.dep hr 10 115 rfl rfl (by kernel_rfl)
    refine wp_value (w' := w') (v := .bool true) ?_ ⟨_, rfl, rfl, Below.refl _ _⟩
    simp [execOp, Act.eval, e0, e1, go_sem]
  · refine plain rfl ?_
    intro listed a w' hf hr
    exact wp_move (.inl rfl) (v := .bool true) (hf.dep hr 11 116 rfl rfl (by kernel_rfl)) ⟨_, rfl, rfl, Below.refl _ _⟩
  · refine guarded 12 117 rfl rfl rfl (by kernel_rfl) (fun v w h => h) ?_
    intro listed a w' hf hr
    have e0 : a.tmps.getD 11 undef = .pointer (some ⟨kb, 0, none⟩) := hf.out 11 (by kernel_rfl)
    refine wp_value (w' := w') (v := .pointer (some ⟨kb, 2, none⟩)) ?_ ⟨_, rfl, rfl, Below.refl _ _⟩
    simp [execOp, Act.eval, e0, go_sem]
  · refine guarded 12 117 rfl rfl rfl (by kernel_rfl) (fun v w h => h) ?_
    intro listed a w' hf hr
    have e : a.tmps.getD 118 undef = .pointer (some ⟨kb, 2, none⟩) := hf.dep hr 13 118 rfl rfl (by kernel_rfl)
    have hc := cellOf (j := 2) (gone hf.below HKB20.out) rfl
    refine wp_value (w' := w') (v := .string s2) ?_ ⟨_, rfl, rfl, Below.refl _ _⟩
    simp [execOp, Act.eval, e, hc, go_sem]
  · refine guarded 12 117 rfl rfl rfl (by kernel_rfl) (fun v w h => h) ?_
    intro listed a w' hf hr
    refine wp_call1 (vs := #[.int .i64 2]) rfl (by kernel_rfl) ?_ ((HC2.out _).mono fun e w'' ⟨he, hb⟩ => ⟨_, he, _, rfl, rfl, hb⟩)
    simp [Act.eval]
  · refine guarded 12 117 rfl rfl rfl (by kernel_rfl) (fun v w h => h) ?_
    intro listed a w' hf hr
    have e0 : a.tmps.getD 119 undef = .string s2 := hf.dep hr 14 119 rfl rfl (by kernel_rfl)
    have e1 : a.tmps.getD 120 undef = .string s2 := hf.dep hr 15 120 rfl rfl (by kernel_rfl)
    refine wp_value (w' := w') (v := .bool true) ?_ ⟨_, rfl, rfl, Below.refl _ _⟩
    simp [execOp, Act.eval, e0, e1, go_sem]
  · refine plain rfl ?_
    intro listed a w' hf hr
    have e0 : a.tmps.getD 117 undef = .bool true := hf.dep hr 12 117 rfl rfl (by kernel_rfl)
    have e1 : a.tmps.getD 121 undef = .bool true := hf.dep hr 16 121 rfl rfl (by kernel_rfl)
    refine wp_value (w' := w') (v := .bool true) ?_ ⟨_, rfl, rfl, Below.refl _ _⟩
    simp [execOp, Act.eval, e0, e1, go_sem]
  · refine plain rfl ?_
    intro listed a w' hf hr
    exact wp_move (.inl rfl) (v := .bool true) (hf.dep hr 17 122 rfl rfl (by kernel_rfl)) ⟨_, rfl, rfl, Below.refl _ _⟩
  · refine guarded 18 123 rfl rfl rfl (by kernel_rfl) (fun v w h => h) ?_
    intro listed a w' hf hr
    have e0 : a.tmps.getD 11 undef = .pointer (some ⟨kb, 0, none⟩) := hf.out 11 (by kernel_rfl)
    refine wp_value (w' := w') (v := .pointer (some ⟨kb, 0, none⟩)) ?_ ⟨_, rfl, rfl, Below.refl _ _⟩
    simp [execOp, Act.eval, e0, go_sem]
  · refine guarded 18 123 rfl rfl rfl (by kernel_rfl) (fun v w h => h) ?_
    intro listed a w' hf hr
    have e : a.tmps.getD 124 undef = .pointer (some ⟨kb, 0, none⟩) := hf.dep hr 19 124 rfl rfl (by kernel_rfl)
    have hc := cellOf (j := 0) (gone hf.below HKB20.out) rfl
    refine wp_value (w' := w') (v := .int .i64 1) ?_ ⟨_, rfl, rfl, Below.refl _ _⟩
    simp [execOp, Act.eval, e, hc, go_sem]
  · refine guarded 18 123 rfl rfl rfl (by kernel_rfl) (fun v w h => h) ?_
    intro listed a w' hf hr
    have e0 : a.tmps.getD 125 undef = .int .i64 1 := hf.dep hr 20 125 rfl rfl (by kernel_rfl)
    refine wp_value (w' := w') (v := .bool true) ?_ ⟨_, rfl, rfl, Below.refl _ _⟩
    simp [execOp, Act.eval, e0, go_sem]
  · refine plain rfl ?_
    intro listed a w' hf hr
    have e0 : a.tmps.getD 123 undef = .bool true := hf.dep hr 18 123 rfl rfl (by kernel_rfl)
    have e1 : a.tmps.getD 126 undef = .bool true := hf.dep hr 21 126 rfl rfl (by kernel_rfl)
    refine wp_value (w' := w') (v := .bool true) ?_ ⟨_, rfl, rfl, Below.refl _ _⟩
    simp [execOp, Act.eval, e0, e1, go_sem]
  · refine plain rfl ?_
    intro listed a w' hf hr
    exact wp_move (.inl rfl) (v := .bool true) (hf.dep hr 22 127 rfl rfl (by kernel_rfl)) ⟨_, rfl, rfl, Below.refl _ _⟩
  · refine guarded 23 128 rfl rfl rfl (by kernel_rfl) (fun v w h => h) ?_
    intro listed a w' hf hr
    exact wp_move (.inl rfl) (v := .int .i64 0) (hf.out 14 (by kernel_rfl)) ⟨_, rfl, rfl, Below.refl _ _⟩
  · refine guarded 23 128 rfl rfl rfl (by kernel_rfl) (fun v w h => h) ?_
    intro listed a w' hf hr
    have e0 : a.tmps.getD 129 undef = .int .i64 0 := hf.dep hr 24 129 rfl rfl (by kernel_rfl)
    refine wp_value (w' := w') (v := .bool true) ?_ ⟨_, rfl, rfl, Below.refl _ _⟩
    simp [execOp, Act.eval, e0, go_sem]
  · refine plain rfl ?_
    intro listed a w' hf hr
    have e0 : a.tmps.getD 128 undef = .bool true := hf.dep hr 23 128 rfl rfl (by kernel_rfl)
    have e1 : a.tmps.getD 130 undef = .bool true := hf.dep hr 25 130 rfl rfl (by kernel_rfl)
    refine wp_value (w' := w') (v := .bool true) ?_ ⟨_, rfl, rfl, Below.refl _ _⟩
    simp [execOp, Act.eval, e0, e1, go_sem]
  · refine plain rfl ?_
    intro listed a w' hf hr
    exact wp_move (.inl rfl) (v := .bool true) (hf.dep hr 26 131 rfl rfl (by kernel_rfl)) ⟨_, rfl, rfl, Below.refl _ _⟩
  · refine guarded 27 132 rfl rfl rfl (by kernel_rfl) (fun v w h => h) ?_
    intro listed a w' hf hr
    exact wp_move (.inl rfl) (v := .int .i64 0) (hf.out 16 (by kernel_rfl)) ⟨_, rfl, rfl, Below.refl _ _⟩
  · refine guarded 27 132 rfl rfl rfl (by kernel_rfl) (fun v w h => h) ?_
    intro listed a w' hf hr
    have e0 : a.tmps.getD 133 undef = .int .i64 0 := hf.dep hr 28 133 rfl rfl (by kernel_rfl)
    refine wp_value (w' := w') (v := .bool true) ?_ ⟨_, rfl, rfl, Below.refl _ _⟩
    simp [execOp, Act.eval, e0, go_sem]
  · refine plain rfl ?_
    intro listed a w' hf hr
    have e0 : a.tmps.getD 132 undef = .bool true := hf.dep hr 27 132 rfl rfl (by kernel_rfl)
    have e1 : a.tmps.getD 134 undef = .bool true := hf.dep hr 29 134 rfl rfl (by kernel_rfl)
    refine wp_value (w' := w') (v := .bool true) ?_ ⟨_, rfl, rfl, Below.refl _ _⟩
    simp [execOp, Act.eval, e0, e1, go_sem]
  · refine plain rfl ?_
    intro listed a w' hf hr
    exact wp_move (.inl rfl) (v := .bool true) (hf.dep hr 30 135 rfl rfl (by kernel_rfl)) ⟨_, rfl, rfl, Below.refl _ _⟩
  · refine guarded 31 136 rfl rfl rfl (by kernel_rfl) (fun v w h => h) ?_
    intro listed a w' hf hr
    exact wp_load_row 23 (.tmp 11) rfl kb (hf.out 11 (by kernel_rfl)) 23 _ _ _ (gone hf.below HKB20.out) Tryd.underlying23 rfl (by kernel_rfl) ⟨_, rfl, rfl, Below.refl _ _⟩
  · refine guarded 31 136 rfl rfl rfl (by kernel_rfl) (fun v w h => h) ?_
    intro listed a w' hf hr
    exact wp_load_row 23 (.tmp 15) rfl kc (hf.out 15 (by kernel_rfl)) 23 _ _ _ (gone hf.below HKC20.out) Tryd.underlying23 rfl (by kernel_rfl) ⟨_, rfl, rfl, Below.refl _ _⟩
  · refine guarded 31 136 rfl rfl rfl (by kernel_rfl) (fun v w h => h) ?_
    intro listed a w' hf hr
    have e0 : a.tmps.getD 137 undef = .agg #[.int .i64 1, .string c1, .string s2] := hf.dep hr 32 137 rfl rfl (by kernel_rfl)
    have e1 : a.tmps.getD 138 undef = .agg #[.int .i64 1, .string c1, .string s2] := hf.dep hr 33 138 rfl rfl (by kernel_rfl)
    have hq := eqlHd ⟨1, c1, s2⟩ ⟨1, c1, s2⟩ w'
    rw [hdE_t rfl] at hq
    refine wp_value (w' := w') (v := .bool true) ?_ ⟨_, rfl, rfl, Below.refl _ _⟩
    simp [execOp, Act.eval, e0, e1, hq, go_sem]
  · refine plain rfl ?_
    intro listed a w' hf hr
    have e0 : a.tmps.getD 136 undef = .bool true := hf.dep hr 31 136 rfl rfl (by kernel_rfl)
    have e1 : a.tmps.getD 139 undef = .bool true := hf.dep hr 34 139 rfl rfl (by kernel_rfl)
    refine wp_value (w' := w') (v := .bool true) ?_ ⟨_, rfl, rfl, Below.refl _ _⟩
    simp [execOp, Act.eval, e0, e1, go_sem]
  · refine plain rfl ?_
    intro listed a w' hf hr
    exact wp_move (.inl rfl) (v := .bool true) (hf.dep hr 35 140 rfl rfl (by kernel_rfl)) ⟨_, rfl, rfl, Below.refl _ _⟩
  · refine guarded 36 141 rfl rfl rfl (by kernel_rfl) (fun v w h => h) ?_
    intro listed a w' hf hr
    exact wp_move (.inl rfl) (v := .string E1) (hf.out 13 (by kernel_rfl)) ⟨_, rfl, rfl, Below.refl _ _⟩
  · refine guarded 36 141 rfl rfl rfl (by kernel_rfl) (fun v w h => h) ?_
    intro listed a w' hf hr
    have e0 : a.tmps.getD 142 undef = .string E1 := hf.dep hr 37 142 rfl rfl (by kernel_rfl)
    refine wp_value (w' := w') (v := .int .i64 65) ?_ ⟨_, rfl, rfl, Below.refl _ _⟩
    simp [execOp, Act.eval, e0, HE1z.out, go_sem]
  · refine guarded 36 141 rfl rfl rfl (by kernel_rfl) (fun v w h => h) ?_
    intro listed a w' hf hr
    have e0 : a.tmps.getD 143 undef = .int .i64 65 := hf.dep hr 38 143 rfl rfl (by kernel_rfl)
    refine wp_value (w' := w') (v := .bool true) ?_ ⟨_, rfl, rfl, Below.refl _ _⟩
    simp [execOp, Act.eval, e0, go_sem]
  · refine plain rfl ?_
    intro listed a w' hf hr
    have e0 : a.tmps.getD 141 undef = .bool true := hf.dep hr 36 141 rfl rfl (by kernel_rfl)
    have e1 : a.tmps.getD 144 undef = .bool true := hf.dep hr 39 144 rfl rfl (by kernel_rfl)
    refine wp_value (w' := w') (v := .bool true) ?_ ⟨_, rfl, rfl, Below.refl _ _⟩
    simp [execOp, Act.eval, e0, e1, go_sem]
  · refine plain rfl ?_
    intro listed a w' hf hr
    exact wp_move (.inl rfl) (v := .bool true) (hf.dep hr 40 145 rfl rfl (by kernel_rfl)) ⟨_, rfl, rfl, Below.refl _ _⟩
  · refine guarded 41 146 rfl rfl rfl (by kernel_rfl) (fun v w h => h) ?_
    intro listed a w' hf hr
    exact wp_move (.inl rfl) (v := .int .i64 0) (hf.out 18 (by kernel_rfl)) ⟨_, rfl, rfl, Below.refl _ _⟩
  · refine guarded 41 146 rfl rfl rfl (by kernel_rfl) (fun v w h => h) ?_
    intro listed a w' hf hr
    have e0 : a.tmps.getD 147 undef = .int .i64 0 := hf.dep hr 42 147 rfl rfl (by kernel_rfl)
    refine wp_value (w' := w') (v := .bool true) ?_ ⟨_, rfl, rfl, Below.refl _ _⟩
    simp [execOp, Act.eval, e0, go_sem]
  · refine plain rfl ?_
    intro listed a w' hf hr
    have e0 : a.tmps.getD 146 undef = .bool true := hf.dep hr 41 146 rfl rfl (by kernel_rfl)
    have e1 : a.tmps.getD 148 undef = .bool true := hf.dep hr 43 148 rfl rfl (by kernel_rfl)
    refine wp_value (w' := w') (v := .bool true) ?_ ⟨_, rfl, rfl, Below.refl _ _⟩
    simp [execOp, Act.eval, e0, e1, go_sem]
  · refine plain rfl ?_
    intro listed a w' hf hr
    exact wp_move (.inl rfl) (v := .bool true) (hf.dep hr 44 149 rfl rfl (by kernel_rfl)) ⟨_, rfl, rfl, Below.refl _ _⟩
  · refine guarded 45 150 rfl rfl rfl (by kernel_rfl) (fun v w h => h) ?_
    intro listed a w' hf hr
    exact wp_move (.inl rfl) (v := .pointer (some ⟨b, 0, none⟩)) (hf.out 1 (by kernel_rfl)) ⟨_, rfl, rfl, Below.refl _ _⟩
  · refine guarded 45 150 rfl rfl rfl (by kernel_rfl) (fun v w h => h) ?_
    intro listed a w' hf hr
    have e0 : a.tmps.getD 151 undef = .pointer (some ⟨b, 0, none⟩) := hf.dep hr 46 151 rfl rfl (by kernel_rfl)
    refine wp_call1 (vs := #[.pointer (some ⟨b, 0, none⟩)]) rfl (by kernel_rfl) ?_ ((HRr.out _ hf.below).mono fun e w'' ⟨he, hb⟩ => ⟨_, he, _, rfl, rfl, hb⟩)
    simp only [List.map_toArray, List.map_cons, List.map_nil, Act.eval]
    rw [e0]
  · refine guarded 45 150 rfl rfl rfl (by kernel_rfl) (fun v w h => h) ?_
    intro listed a w' hf hr
    exact wp_load_row 23 (.tmp 11) rfl kb (hf.out 11 (by kernel_rfl)) 23 _ _ _ (gone hf.below HKB20.out) Tryd.underlying23 rfl (by kernel_rfl) ⟨_, rfl, rfl, Below.refl _ _⟩
  · refine guarded 45 150 rfl rfl rfl (by kernel_rfl) (fun v w h => h) ?_
    intro listed a w' hf hr
    exact wp_move (.inl rfl) (v := vp) (hf.out 17 (by kernel_rfl)) ⟨_, rfl, rfl, Below.refl _ _⟩
  · refine guarded 45 150 rfl rfl rfl (by kernel_rfl) (fun v w h => h) ?_
    intro listed a w' hf hr
    have e0 : a.tmps.getD 152 undef = .string r1 := hf.dep hr 47 152 rfl rfl (by kernel_rfl)
    have e1 : a.tmps.getD 153 undef = .agg #[.int .i64 1, .string c1, .string s2] := hf.dep hr 48 153 rfl rfl (by kernel_rfl)
    have e2 : a.tmps.getD 154 undef = vp := hf.dep hr 49 154 rfl rfl (by kernel_rfl)
    refine wp_call1 (vs := #[.string r1, .int .i64 1, .agg #[.int .i64 1, .string c1, .string s2], vp]) rfl (by kernel_rfl) ?_ ((HVb.out _ hf.below).mono fun e w'' ⟨he, hb⟩ => ⟨_, he, _, rfl, rfl, hb⟩)
    simp only [List.map_toArray, List.map_cons, List.map_nil, Act.eval]
    rw [e0, e1, e2]
  · refine plain rfl ?_
    intro listed a w' hf hr
    have e0 : a.tmps.getD 150 undef = .bool true := hf.dep hr 45 150 rfl rfl (by kernel_rfl)
    have e1 : a.tmps.getD 155 undef = .bool true := hf.dep hr 50 155 rfl rfl (by kernel_rfl)
    refine wp_value (w' := w') (v := .bool true) ?_ ⟨_, rfl, rfl, Below.refl _ _⟩
    simp [execOp, Act.eval, e0, e1, go_sem]
  · refine plain rfl ?_
    intro listed a w' hf hr
    exact wp_move (.inl rfl) (v := .bool true) (hf.dep hr 51 156 rfl rfl (by kernel_rfl)) ⟨_, rfl, rfl, Below.refl _ _⟩
  · refine guarded 52 157 rfl rfl rfl (by kernel_rfl) (fun v w h => h) ?_
    intro listed a w' hf hr
    exact wp_move (.inl rfl) (v := .pointer (some ⟨b, 0, none⟩)) (hf.out 1 (by kernel_rfl)) ⟨_, rfl, rfl, Below.refl _ _⟩
  · refine guarded 52 157 rfl rfl rfl (by kernel_rfl) (fun v w h => h) ?_
    intro listed a w' hf hr
    have e0 : a.tmps.getD 158 undef = .pointer (some ⟨b, 0, none⟩) := hf.dep hr 53 158 rfl rfl (by kernel_rfl)
    refine wp_call1 (vs := #[.pointer (some ⟨b, 0, none⟩)]) rfl (by kernel_rfl) ?_ ((HRr.out _ hf.below).mono fun e w'' ⟨he, hb⟩ => ⟨_, he, _, rfl, rfl, hb⟩)
    simp only [List.map_toArray, List.map_cons, List.map_nil, Act.eval]
    rw [e0]
  · refine guarded 52 157 rfl rfl rfl (by kernel_rfl) (fun v w h => h) ?_
    intro listed a w' hf hr
    exact wp_load_row 23 (.tmp 9) rfl ka (hf.out 9 (by kernel_rfl)) 23 _ _ _ (gone hf.below HKA20.out) Tryd.underlying23 rfl (by kernel_rfl) ⟨_, rfl, rfl, Below.refl _ _⟩
  · refine guarded 52 157 rfl rfl rfl (by kernel_rfl) (fun v w h => h) ?_
    intro listed a w' hf hr
    exact wp_move (.inl rfl) (v := vp) (hf.out 17 (by kernel_rfl)) ⟨_, rfl, rfl, Below.refl _ _⟩
  · refine guarded 52 157 rfl rfl rfl (by kernel_rfl) (fun v w h => h) ?_
    intro listed a w' hf hr
    have e0 : a.tmps.getD 159 undef = .string r1 := hf.dep hr 54 159 rfl rfl (by kernel_rfl)
    have e1 : a.tmps.getD 160 undef = .agg #[.int .i64 0, .string zr32, .string s1] := hf.dep hr 55 160 rfl rfl (by kernel_rfl)
    have e2 : a.tmps.getD 161 undef = vp := hf.dep hr 56 161 rfl rfl (by kernel_rfl)
    refine wp_call1 (vs := #[.string r1, .int .i64 1, .agg #[.int .i64 0, .string zr32, .string s1], vp]) rfl (by kernel_rfl) ?_ ((HVa.out _ hf.below).mono fun e w'' ⟨he, hb⟩ => ⟨_, he, _, rfl, rfl, hb⟩)
    simp only [List.map_toArray, List.map_cons, List.map_nil, Act.eval]
    rw [e0, e1, e2]
  · refine guarded 52 157 rfl rfl rfl (by kernel_rfl) (fun v w h => h) ?_
    intro listed a w' hf hr
    have e0 : a.tmps.getD 162 undef = .bool false := hf.dep hr 57 162 rfl rfl (by kernel_rfl)
    refine wp_value (w' := w') (v := .bool true) ?_ ⟨_, rfl, rfl, Below.refl _ _⟩
    simp [execOp, Act.eval, e0, go_sem]
  · refine plain rfl ?_
    intro listed a w' hf hr
    have e0 : a.tmps.getD 157 undef = .bool true := hf.dep hr 52 157 rfl rfl (by kernel_rfl)
    have e1 : a.tmps.getD 163 undef = .bool true := hf.dep hr 58 163 rfl rfl (by kernel_rfl)
    refine wp_value (w' := w') (v := .bool true) ?_ ⟨_, rfl, rfl, Below.refl _ _⟩
    simp [execOp, Act.eval, e0, e1, go_sem]
  · refine plain rfl ?_
    intro listed a w' hf hr
    exact wp_move (.inl rfl) (v := .bool true) (hf.dep hr 59 164 rfl rfl (by kernel_rfl)) ⟨_, rfl, rfl, Below.refl _ _⟩
  · refine guarded 60 165 rfl rfl rfl (by kernel_rfl) (fun v w h => h) ?_
    intro listed a w' hf hr
    exact wp_move (.inl rfl) (v := .int .i64 2) (hf.out 20 (by kernel_rfl)) ⟨_, rfl, rfl, Below.refl _ _⟩
  · refine guarded 60 165 rfl rfl rfl (by kernel_rfl) (fun v w h => h) ?_
    intro listed a w' hf hr
    have e0 : a.tmps.getD 166 undef = .int .i64 2 := hf.dep hr 61 166 rfl rfl (by kernel_rfl)
    refine wp_value (w' := w') (v := .bool true) ?_ ⟨_, rfl, rfl, Below.refl _ _⟩
    simp [execOp, Act.eval, e0, go_sem]
  · refine plain rfl ?_
    intro listed a w' hf hr
    have e0 : a.tmps.getD 165 undef = .bool true := hf.dep hr 60 165 rfl rfl (by kernel_rfl)
    have e1 : a.tmps.getD 167 undef = .bool true := hf.dep hr 62 167 rfl rfl (by kernel_rfl)
    refine wp_value (w' := w') (v := .bool true) ?_ ⟨_, rfl, rfl, Below.refl _ _⟩
    simp [execOp, Act.eval, e0, e1, go_sem]
  · refine plain rfl ?_
    intro listed a w' hf hr
    exact wp_move (.inl rfl) (v := .bool true) (hf.dep hr 63 168 rfl rfl (by kernel_rfl)) ⟨_, rfl, rfl, Below.refl _ _⟩
  · refine guarded 64 169 rfl rfl rfl (by kernel_rfl) (fun v w h => h) ?_
    intro listed a w' hf hr
    exact wp_move (.inl rfl) (v := .int .i64 2) (hf.out 22 (by kernel_rfl)) ⟨_, rfl, rfl, Below.refl _ _⟩
  · refine guarded 64 169 rfl rfl rfl (by kernel_rfl) (fun v w h => h) ?_
    intro listed a w' hf hr
    have e0 : a.tmps.getD 170 undef = .int .i64 2 := hf.dep hr 65 170 rfl rfl (by kernel_rfl)
    refine wp_value (w' := w') (v := .bool true) ?_ ⟨_, rfl, rfl, Below.refl _ _⟩
    simp [execOp, Act.eval, e0, go_sem]
  · refine plain rfl ?_
    intro listed a w' hf hr
    have e0 : a.tmps.getD 169 undef = .bool true := hf.dep hr 64 169 rfl rfl (by kernel_rfl)
    have e1 : a.tmps.getD 171 undef = .bool true := hf.dep hr 66 171 rfl rfl (by kernel_rfl)
    refine wp_value (w' := w') (v := .bool true) ?_ ⟨_, rfl, rfl, Below.refl _ _⟩
    simp [execOp, Act.eval, e0, e1, go_sem]
  · refine plain rfl ?_
    intro listed a w' hf hr
    exact wp_move (.inl rfl) (v := .bool true) (hf.dep hr 67 172 rfl rfl (by kernel_rfl)) ⟨_, rfl, rfl, Below.refl _ _⟩
  · refine guarded 68 173 rfl rfl rfl (by kernel_rfl) (fun v w h => h) ?_
    intro listed a w' hf hr
    exact wp_load_row 23 (.tmp 9) rfl ka (hf.out 9 (by kernel_rfl)) 23 _ _ _ (gone hf.below HKA20.out) Tryd.underlying23 rfl (by kernel_rfl) ⟨_, rfl, rfl, Below.refl _ _⟩
  · refine guarded 68 173 rfl rfl rfl (by kernel_rfl) (fun v w h => h) ?_
    intro listed a w' hf hr
    exact wp_load_row 51 (.tmp 6) rfl (g + 1) (hf.out 6 (by kernel_rfl)) 51 _ _ _ (gone hf.below HG20.out) Tryd.underlying51 rfl (by kernel_rfl) ⟨_, rfl, rfl, Below.refl _ _⟩
  · refine guarded 68 173 rfl rfl rfl (by kernel_rfl) (fun v w h => h) ?_
    intro listed a w' hf hr
    have e : a.tmps.getD 175 undef = .agg #[.int .i64 1, .slice (some ⟨g, 0, none⟩) 1 1] := hf.dep hr 70 175 rfl rfl (by kernel_rfl)
    refine wp_value (v := .slice (some ⟨w'.heap.size, 0, none⟩) 1 1) (w' := w'.alloc (.cells #[.int .i64 1, .slice (some ⟨g, 0, none⟩) 1 1] 51)) ?_ ⟨_, rfl, ⟨_, rfl, recS_one 1 _ [c7] (heap_alloc_new w' _) (HS20.out.below (bt hf.below (ba w' _)))⟩, ba w' _⟩
    simp only [Array.getD_eq_getD_getElem?] at e
    simp [execOp, Act.eval, e, go_sem]
  · refine guarded 68 173 rfl rfl rfl (by kernel_rfl) (fun v w h => h) ?_
    intro listed a w' hf hr
    exact wp_load_row 23 (.tmp 11) rfl kb (hf.out 11 (by kernel_rfl)) 23 _ _ _ (gone hf.below HKB20.out) Tryd.underlying23 rfl (by kernel_rfl) ⟨_, rfl, rfl, Below.refl _ _⟩
  · refine guarded 68 173 rfl rfl rfl (by kernel_rfl) (fun v w h => h) ?_
    intro listed a w' hf hr
    have e0 : a.tmps.getD 174 undef = .agg #[.int .i64 0, .string zr32, .string s1] := hf.dep hr 69 174 rfl rfl (by kernel_rfl)
    obtain ⟨k, e1, hs⟩ := hf.dep hr 71 176 rfl rfl (by kernel_rfl)
    have e2 : a.tmps.getD 177 undef = .agg #[.int .i64 1, .string c1, .string s2] := hf.dep hr 72 177 rfl rfl (by kernel_rfl)
    refine wp_call1 (vs := #[.agg #[.int .i64 0, .string zr32, .string s1], .slice (some ⟨k, 0, none⟩) 1 1, .agg #[.int .i64 1, .string c1, .string s2]]) rfl (by kernel_rfl) ?_ ((HFa.out _ _ hf.below (e1 ▸ hs)).mono fun e w'' ⟨he, hb⟩ => ⟨_, he, _, rfl, rfl, hb⟩)
    simp only [List.map_toArray, List.map_cons, List.map_nil, Act.eval]
    rw [e0, e1, e2]
  · refine plain rfl ?_
    intro listed a w' hf hr
    have e0 : a.tmps.getD 173 undef = .bool true := hf.dep hr 68 173 rfl rfl (by kernel_rfl)
    have e1 : a.tmps.getD 178 undef = .bool true := hf.dep hr 73 178 rfl rfl (by kernel_rfl)
    refine wp_value (w' := w') (v := .bool true) ?_ ⟨_, rfl, rfl, Below.refl _ _⟩
    simp [execOp, Act.eval, e0, e1, go_sem]
  · refine plain rfl ?_
    intro listed a w' hf hr
    exact wp_move (.inl rfl) (v := .bool true) (hf.dep hr 74 179 rfl rfl (by kernel_rfl)) ⟨_, rfl, rfl, Below.refl _ _⟩
  · refine guarded 75 180 rfl rfl rfl (by kernel_rfl) (fun v w h => h) ?_
    intro listed a w' hf hr
    exact wp_load_row 23 (.tmp 9) rfl ka (hf.out 9 (by kernel_rfl)) 23 _ _ _ (gone hf.below HKA20.out) Tryd.underlying23 rfl (by kernel_rfl) ⟨_, rfl, rfl, Below.refl _ _⟩
  · refine guarded 75 180 rfl rfl rfl (by kernel_rfl) (fun v w h => h) ?_
    intro listed a w' hf hr
    exact wp_load_row 23 (.tmp 11) rfl kb (hf.out 11 (by kernel_rfl)) 23 _ _ _ (gone hf.below HKB20.out) Tryd.underlying23 rfl (by kernel_rfl) ⟨_, rfl, rfl, Below.refl _ _⟩
  · refine guarded 75 180 rfl rfl rfl (by kernel_rfl) (fun v w h => h) ?_
    intro listed a w' hf hr
    have e0 : a.tmps.getD 181 undef = .agg #[.int .i64 0, .string zr32, .string s1] := hf.dep hr 76 181 rfl rfl (by kernel_rfl)
    have e1 : a.tmps.getD 182 undef = .agg #[.int .i64 1, .string c1, .string s2] := hf.dep hr 77 182 rfl rfl (by kernel_rfl)
    refine wp_call1 (vs := #[.agg #[.int .i64 0, .string zr32, .string s1], .slice none 0 0, .agg #[.int .i64 1, .string c1, .string s2]]) rfl (by kernel_rfl) ?_ ((HFb.out _ hf.below).mono fun e w'' ⟨he, hb⟩ => ⟨_, he, _, rfl, rfl, hb⟩)
    simp only [List.map_toArray, List.map_cons, List.map_nil, Act.eval]
    rw [e0, e1]
  · refine guarded 75 180 rfl rfl rfl (by kernel_rfl) (fun v w h => h) ?_
    intro listed a w' hf hr
    have e0 : a.tmps.getD 183 undef = .bool false := hf.dep hr 78 183 rfl rfl (by kernel_rfl)
    refine wp_value (w' := w') (v := .bool true) ?_ ⟨_, rfl, rfl, Below.refl _ _⟩
    simp [execOp, Act.eval, e0, go_sem]
  · refine plain rfl ?_
    intro listed a w' hf hr
    have e0 : a.tmps.getD 180 undef = .bool true := hf.dep hr 75 180 rfl rfl (by kernel_rfl)
    have e1 : a.tmps.getD 184 undef = .bool true := hf.dep hr 79 184 rfl rfl (by kernel_rfl)
    refine wp_value (w' := w') (v := .bool true) ?_ ⟨_, rfl, rfl, Below.refl _ _⟩
    simp [execOp, Act.eval, e0, e1, go_sem]
  · refine plain rfl ?_
    intro listed a w' hf hr
    exact wp_move (.inl rfl) (v := .bool true) (hf.dep hr 80 185 rfl rfl (by kernel_rfl)) ⟨_, rfl, rfl, Below.refl _ _⟩
  · refine guarded 81 186 rfl rfl rfl (by kernel_rfl) (fun v w h => h) ?_
    intro listed a w' hf hr
    exact wp_move (.inl rfl) (v := .bool true) (hf.out 24 (by kernel_rfl)) ⟨_, rfl, rfl, Below.refl _ _⟩
  · refine plain rfl ?_
    intro listed a w' hf hr
    have e0 : a.tmps.getD 186 undef = .bool true := hf.dep hr 81 186 rfl rfl (by kernel_rfl)
    have e1 : a.tmps.getD 187 undef = .bool true := hf.dep hr 82 187 rfl rfl (by kernel_rfl)
    refine wp_value (w' := w') (v := .bool true) ?_ ⟨_, rfl, rfl, Below.refl _ _⟩
    simp [execOp, Act.eval, e0, e1, go_sem]
  · refine plain rfl ?_
    intro listed a w' hf hr
    exact wp_move (.inl rfl) (v := .bool true) (hf.dep hr 83 188 rfl rfl (by kernel_rfl)) ⟨_, rfl, rfl, Below.refl _ _⟩
  · refine guarded 84 189 rfl rfl rfl (by kernel_rfl) (fun v w h => h) ?_
    intro listed a w' hf hr
    exact wp_load_row 51 (.tmp 6) rfl (g + 1) (hf.out 6 (by kernel_rfl)) 51 _ _ _ (gone hf.below HG20.out) Tryd.underlying51 rfl (by kernel_rfl) ⟨_, rfl, rfl, Below.refl _ _⟩
  · refine guarded 84 189 rfl rfl rfl (by kernel_rfl) (fun v w h => h) ?_
    intro listed a w' hf hr
    exact wp_load_row 51 (.tmp 23) rfl kr (hf.out 23 (by kernel_rfl)) 51 _ _ _ (gone hf.below HKR20.out) Tryd.underlying51 rfl (by kernel_rfl) ⟨_, rfl, rfl, Below.refl _ _⟩
  · refine guarded 84 189 rfl rfl rfl (by kernel_rfl) (fun v w h => h) ?_
    intro listed a w' hf hr
    have e0 : a.tmps.getD 190 undef = .agg #[.int .i64 1, .slice (some ⟨g, 0, none⟩) 1 1] := hf.dep hr 85 190 rfl rfl (by kernel_rfl)
    have e1 : a.tmps.getD 191 undef = .agg #[.int .i64 1, .slice va 1 vcap] := hf.dep hr 86 191 rfl rfl (by kernel_rfl)
    refine wp_call1 (vs := #[.agg #[.int .i64 1, .slice (some ⟨g, 0, none⟩) 1 1], .agg #[.int .i64 1, .slice va 1 vcap]]) rfl (by kernel_rfl) ?_ ((HSm.out _ hf.below).mono fun e w'' ⟨he, hb⟩ => ⟨_, he, _, rfl, rfl, hb⟩)
    simp only [List.map_toArray, List.map_cons, List.map_nil, Act.eval]
    rw [e0, e1]
  · refine plain rfl ?_
    intro listed a w' hf hr
    have e0 : a.tmps.getD 189 undef = .bool true := hf.dep hr 84 189 rfl rfl (by kernel_rfl)
    have e1 : a.tmps.getD 192 undef = .bool true := hf.dep hr 87 192 rfl rfl (by kernel_rfl)
    refine wp_value (w' := w') (v := .bool true) ?_ ⟨_, rfl, rfl, Below.refl _ _⟩
    simp [execOp, Act.eval, e0, e1, go_sem]
  · refine plain rfl ?_
    intro listed a w' hf hr
    exact wp_move (.inl rfl) (v := .bool true) (hf.dep hr 88 193 rfl rfl (by kernel_rfl)) ⟨_, rfl, rfl, Below.refl _ _⟩
  · refine guarded 89 194 rfl rfl rfl (by kernel_rfl) (fun v w h => h) ?_
    intro listed a w' hf hr
    exact wp_move (.inl rfl) (v := .pointer (some ⟨b, 0, none⟩)) (hf.out 1 (by kernel_rfl)) ⟨_, rfl, rfl, Below.refl _ _⟩
  · refine guarded 89 194 rfl rfl rfl (by kernel_rfl) (fun v w h => h) ?_
    intro listed a w' hf hr
    have e0 : a.tmps.getD 195 undef = .pointer (some ⟨b, 0, none⟩) := hf.dep hr 90 195 rfl rfl (by kernel_rfl)
    refine wp_call1 (vs := #[.pointer (some ⟨b, 0, none⟩)]) rfl (by kernel_rfl) ?_ ((HLn.out _ hf.below).mono fun e w'' ⟨he, hb⟩ => ⟨_, he, _, rfl, rfl, hb⟩)
    simp only [List.map_toArray, List.map_cons, List.map_nil, Act.eval]
    rw [e0]
  · refine guarded 89 194 rfl rfl rfl (by kernel_rfl) (fun v w h => h) ?_
    intro listed a w' hf hr
    have e0 : a.tmps.getD 196 undef = .int .i64 1 := hf.dep hr 91 196 rfl rfl (by kernel_rfl)
    refine wp_value (w' := w') (v := .bool true) ?_ ⟨_, rfl, rfl, Below.refl _ _⟩
    simp [execOp, Act.eval, e0, go_sem]
  · refine plain rfl ?_
    intro listed a w' hf hr
    have e0 : a.tmps.getD 194 undef = .bool true := hf.dep hr 89 194 rfl rfl (by kernel_rfl)
    have e1 : a.tmps.getD 197 undef = .bool true := hf.dep hr 92 197 rfl rfl (by kernel_rfl)
    refine wp_value (w' := w') (v := .bool true) ?_ ⟨_, rfl, rfl, Below.refl _ _⟩
    simp [execOp, Act.eval, e0, e1, go_sem]
  · refine plain rfl ?_
    intro listed a w' hf hr
    exact wp_move (.inr rfl) (v := .bool true) (hf.dep hr 93 198 rfl rfl (by kernel_rfl)) ⟨_, rfl, rfl, Below.refl _ _⟩
  intro w21 hb21 v105 h105 v106 h106 v107 h107 v108 h108 v109 h109 v110 h110 v111 h111 v112 h112 v113 h113 v114 h114 v115 h115 v116 h116 v117 h117 v118 h118 v119 h119 v120 h120 v121 h121 v122 h122 v123 h123 v124 h124 v125 h125 v126 h126 v127 h127 v128 h128 v129 h129 v130 h130 v131 h131 v132 h132 v133 h133 v134 h134 v135 h135 v136 h136 v137 h137 v138 h138 v139 h139 v140 h140 v141 h141 v142 h142 v143 h143 v144 h144 v145 h145 v146 h146 v147 h147 v148 h148 v149 h149 v150 h150 v151 h151 v152 h152 v153 h153 v154 h154 v155 h155 v156 h156 v157 h157 v158 h158 v159 h159 v160 h160 v161 h161 v162 h162 v163 h163 v164 h164 v165 h165 v166 h166 v167 h167 v168 h168 v169 h169 v170 h170 v171 h171 v172 h172 v173 h173 v174 h174 v175 h175 v176 h176 v177 h177 v178 h178 v179 h179 v180 h180 v181 h181 v182 h182 v183 h183 v184 h184 v185 h185 v186 h186 v187 h187 v188 h188 v189 h189 v190 h190 v191 h191 v192 h192 v193 h193 v194 h194 v195 h195 v196 h196 v197 h197 v198 h198 v0 h0
  obtain rfl : v0 = .bool true := h0
  have HB21 := Lib.hid (bt HB20.out hb21)
  simp only [FactEnd, Exit.then]
  go_frame
  go_wp2_with fail
  go_ret
  exact ⟨rfl, HB21.out⟩
end Go.Proofs.YtpapfegbodolgaaDoor
