/- WALKS: Root, Prove, Extension. -/
import Derived.Test.YtpapfegbodolgaaDoorLE
set_option linter.unusedVariables false
set_option linter.unnecessarySimpa false
set_option linter.unusedSimpArgs false
namespace Go.Proofs.YtpapfegbodolgaaDoor
open Go.RowKit Go.Sort

theorem encHs_short {H : List MHead} (hok : ∀ i, i < H.length → Hok (H.getD i hdZ)) : Short (encHs H) := fun x hx => by
  simp only [encHs, List.mem_map] at hx
  obtain ⟨h, hm, rfl⟩ := hx
  obtain ⟨i, hi, rfl⟩ := List.getElem_of_mem hm
  have := hok i hi
  rw [List.getD_eq_getElem?_getD, List.getElem?_eq_getElem hi, Option.getD_some] at this
  exact Nat.le_trans (encH_size this) (by omega)
theorem Lg.hok {R : List MRec} {H : List MHead} (h : Lg R H) : ∀ i, i < H.length → Hok (H.getD i hdZ) := fun i hi => (h.ok i hi).1
theorem Lg.hlen {R : List MRec} {H : List MHead} (h : Lg R H) : H.length ≤ 10001 := by have := h.small; have := h.len; omega
theorem leaves_any {W : World} {F : Nat → Prop} {b : Nat} {R : List MRec} {H : List MHead} (h : LgAt W F b R H) :
    Calls Tryd.prog 38 #[.pointer (some ⟨b, 0, none⟩)] W fun e w' => ∃ v, e = .returned v ∧ OwnS w' W.heap.size v (encHs H) ∧ Below W.heap.size W w' := by
  obtain ⟨vr, vh, hb, hr, hh⟩ := h.read
  exact leaves_c hb hh h.lg.hok (by have := h.lg.hlen; omega)

set_option maxRecDepth 100000 in
theorem rootL_nil (W : World) : Calls Tryd.prog 16 #[.pointer none] W fun e w' => e = .returned (.string ⟨#[]⟩) ∧ W = w' := by
  go_enter Tryd.func16, Tryd.ntmps16
  go_wp2_with fail
  go_ret
  exact ⟨rfl, rfl⟩
set_option maxRecDepth 100000 in
set_option maxHeartbeats 1000000 in
theorem rootL_any {W : World} {F : Nat → Prop} {b : Nat} {R : List MRec} {H : List MHead} (h : LgAt W F b R H) (hT : Tab W) :
    Calls Tryd.prog 16 #[.pointer (some ⟨b, 0, none⟩)] W fun e w' => e = .returned (.string (dg.root (encHs H))) ∧ Below W.heap.size W w' := by
  have HL := Lib.hid (leaves_any h)
  have HSh := Lib.hid (encHs_short h.lg.hok)
  have HT := Lib.hid hT
  clear h hT
  go_enter Tryd.func16, Tryd.ntmps16
  go_wp2_with fail
  (with_reducible refine HL.out.mono ?_)
  rintro e w1 ⟨v, rfl, ho, hb⟩
  have HR := Lib.hid (root_c _ (encHs H) v w1 (Nat.le_refl _) ho.strs HSh.out (HT.out.below hb))
  have HB := Lib.hid hb
  obtain ⟨va, vcap, rfl, -⟩ := ownsRow_form ho
  obtain ⟨r, Hr⟩ : ∃ r, Hid (dg.root (encHs H) = r) := ⟨_, Lib.hid rfl⟩
  rw [Hr.out] at HR
  clear hb ho HL
  go_wp2_with fail
  (with_reducible refine HR.out.mono ?_)
  rintro e w2 ⟨rfl, hb2⟩
  have HB2 := Lib.hid (bt HB.out hb2)
  clear hb2
  go_wp2_with fail
  go_ret
  exact ⟨by rw [Hr.out]; rfl, HB2.out⟩

set_option maxRecDepth 100000 in
theorem prove_nil (W : World) (p : Int) : Calls Tryd.prog 14 #[.pointer none, .int .i64 p] W fun e w' => e = .returned (.tuple #[.slice none 0 0, .int .i64 1]) ∧ W = w' := by
  go_enter Tryd.func14, Tryd.ntmps14
  go_wp2_with fail
  go_ret2
  exact ⟨rfl, rfl⟩
/-- What Prove and Extension leave. -/
def PathOut (W : World) (P : List ByteArray) (e : Ending) (w' : World) : Prop := ∃ v', e = .returned (.tuple #[v', .int .i64 0]) ∧ OwnS w' W.heap.size v' P ∧ Below W.heap.size W w'
theorem own_ge {w : World} {B B' : Nat} {v : Value} {L : List ByteArray} (h : OwnS w B v L) (hb : B' ≤ B) : OwnS w B' v L := by
  obtain ⟨h1, h2⟩ := h
  exact ⟨h1, h2.imp id fun ⟨g, cap, cur, e, hg, r⟩ => ⟨g, cap, cur, e, Nat.le_trans hb hg, r⟩⟩
set_option maxRecDepth 100000 in
set_option maxHeartbeats 1000000 in
theorem prove_ok {W : World} {F : Nat → Prop} {b : Nat} {R : List MRec} {H : List MHead} (h : LgAt W F b R H) (hT : Tab W) (p : Nat) (hp : p < H.length) :
    Calls Tryd.prog 14 #[.pointer (some ⟨b, 0, none⟩), .int .i64 p] W (PathOut W (dg.path (encHs H) p)) := by
  have HL := Lib.hid (leaves_any h)
  have HSh := Lib.hid (encHs_short h.lg.hok)
  have HT := Lib.hid hT
  have HP : Hid (p < (encHs H).length) := Lib.hid (by rw [encHs_len]; exact hp)
  have HN : Hid ((encHs H).length ≤ 1000000) := Lib.hid (by rw [encHs_len]; have := h.lg.hlen; omega)
  clear h hT hp
  go_enter Tryd.func14, Tryd.ntmps14
  go_wp2_with fail
  (with_reducible refine HL.out.mono ?_)
  rintro e w1 ⟨v, rfl, ho, hb⟩
  have HR := Lib.hid (proof_c (encHs H) v p w1 HN.out HP.out ho.strs HSh.out (HT.out.below hb))
  have HB := Lib.hid hb
  obtain ⟨va, vcap, rfl, -⟩ := ownsRow_form ho
  clear hb ho HL
  go_wp2_with fail
  (with_reducible refine HR.out.mono ?_)
  rintro e w2 ⟨v', rfl, ho2, hb2⟩
  have HO2 := Lib.hid ho2
  obtain ⟨xa, xcap, rfl, -⟩ := ownsRow_form ho2
  have HB2 := Lib.hid (bt HB.out hb2)
  have hz := HB.out.size
  clear hb2 ho2
  go_wp2_with fail
  go_ret2
  exact ⟨_, rfl, own_ge HO2.out hz, HB2.out⟩
set_option maxRecDepth 100000 in
set_option maxHeartbeats 1000000 in
theorem prove_bad {W : World} {F : Nat → Prop} {b : Nat} {R : List MRec} {H : List MHead} (h : LgAt W F b R H) (p : Int) (hp : p < 0 ∨ (H.length : Int) ≤ p) :
    Calls Tryd.prog 14 #[.pointer (some ⟨b, 0, none⟩), .int .i64 p] W fun e w' => e = .returned (.tuple #[.slice none 0 0, .int .i64 2]) ∧ Below W.heap.size W w' := by
  have HL := Lib.hid (leaves_any h)
  have HP : Hid (p < 0 ∨ ((encHs H).length : Int) ≤ p) := Lib.hid (by rw [encHs_len]; exact hp)
  have HN : Hid ((encHs H).length ≤ 1000000) := Lib.hid (by rw [encHs_len]; have := h.lg.hlen; omega)
  clear h hp
  go_enter Tryd.func14, Tryd.ntmps14
  go_wp2_with fail
  (with_reducible refine HL.out.mono ?_)
  rintro e w1 ⟨v, rfl, ho, hb⟩
  have HR : Hid (Calls Tryd.prog 37 #[v, .int .i64 p] w1 fun e w' => e = .returned (.tuple #[.slice none 0 0, .int .i64 2]) ∧ w1 = w') := Lib.hid ((proof_bad (encHs H) v p w1 HN.out HP.out ho.strs).mono fun e w' k => ⟨k.1, k.2.symm⟩)
  have HB := Lib.hid hb
  obtain ⟨va, vcap, rfl, -⟩ := ownsRow_form ho
  clear hb ho HL
  go_wp2_with fail
  (with_reducible refine HR.out.mono ?_)
  rintro e wx ⟨rfl, rfl⟩
  go_wp2_with fail
  go_ret2
  exact ⟨rfl, HB.out⟩

set_option maxRecDepth 100000 in
theorem extL_nil (W : World) (m : Int) : Calls Tryd.prog 20 #[.pointer none, .int .i64 m] W fun e w' => e = .returned (.tuple #[.slice none 0 0, .int .i64 1]) ∧ W = w' := by
  go_enter Tryd.func20, Tryd.ntmps20
  go_wp2_with fail
  go_ret2
  exact ⟨rfl, rfl⟩
set_option maxRecDepth 100000 in
set_option maxHeartbeats 1000000 in
theorem extL_bad {W : World} {F : Nat → Prop} {b : Nat} {R : List MRec} {H : List MHead} (h : LgAt W F b R H) (m : Int) (hm : m < 0 ∨ (R.length : Int) < m) :
    Calls Tryd.prog 20 #[.pointer (some ⟨b, 0, none⟩), .int .i64 m] W fun e w' => e = .returned (.tuple #[.slice none 0 0, .int .i64 2]) ∧ W = w' := by
  obtain ⟨vr, vh, hb, hr, hh⟩ := h.read
  by_cases h0 : m < 0
  · have d1 : decide (m < 0) = true := decide_eq_true h0
    clear h0 hm hb hr hh h
    go_enter Tryd.func20, Tryd.ntmps20
    go_wp2_with fail
    go_ret2
    exact ⟨rfl, rfl⟩
  · have HLn := Lib.hid (len_any hb hr)
    have d1 : decide (m < 0) = false := decide_eq_false h0
    have d2 : decide ((R.length : Int) < m) = true := decide_eq_true (by omega)
    clear h0 hm hb hr hh h
    go_enter Tryd.func20, Tryd.ntmps20
    go_wp2_with fail
    (with_reducible refine HLn.out.mono ?_)
    rintro e wx ⟨rfl, rfl⟩
    go_wp2_with fail
    go_ret2
    exact ⟨rfl, rfl⟩
set_option maxRecDepth 100000 in
set_option maxHeartbeats 1000000 in
theorem extL_ok {W : World} {F : Nat → Prop} {b : Nat} {R : List MRec} {H : List MHead} (h : LgAt W F b R H) (hT : Tab W) (m : Nat) (hm : m ≤ R.length) :
    Calls Tryd.prog 20 #[.pointer (some ⟨b, 0, none⟩), .int .i64 m] W (PathOut W (dg.beg (encHs H) (m + 1) true)) := by
  obtain ⟨vr, vh, hb, hr, hh⟩ := h.read
  have HLn := Lib.hid (len_any hb hr)
  have HL := Lib.hid (leaves_any h)
  have HSh := Lib.hid (encHs_short h.lg.hok)
  have HT := Lib.hid hT
  have hs := h.lg.small
  have hm4 : m ≤ 10000 := by omega
  have HP : Hid (m + 1 ≤ (encHs H).length) := Lib.hid (by rw [encHs_len, h.lg.len]; omega)
  have HN : Hid ((encHs H).length ≤ 1000000) := Lib.hid (by rw [encHs_len]; have := h.lg.hlen; omega)
  have d1 : decide ((m : Int) < 0) = false := decide_eq_false (by omega)
  have d2 : decide (R.length < m) = false := decide_eq_false (by omega)
  have d3 : decide ((R.length : Int) < (m : Int)) = false := decide_eq_false (by omega)
  have HC := Lib.hid (fun v w1 (ho : Strs w1 v (encHs H)) (hb : Below W.heap.size W w1) => ext_c (encHs H) v (m + 1) w1 HN.out (by omega) HP.out ho HSh.out (HT.out.below hb))
  rw [show (((m + 1 : Nat) : Int)) = (m : Int) + 1 by omega] at HC
  clear h hT hm hb hr hh hs
  go_enter Tryd.func20, Tryd.ntmps20
  go_wp2_with fail
  (with_reducible refine HLn.out.mono ?_)
  rintro e wx ⟨rfl, rfl⟩
  go_wp2_with fail
  (with_reducible refine HL.out.mono ?_)
  rintro e w1 ⟨v, rfl, ho, hb⟩
  have HR := Lib.hid (HC.out v w1 ho.strs hb)
  have HB := Lib.hid hb
  obtain ⟨va, vcap, rfl, -⟩ := ownsRow_form ho
  clear hb ho HL HC
  go_wp2_with fail
  (with_reducible refine HR.out.mono ?_)
  rintro e w2 ⟨v', rfl, ho2, hb2⟩
  have HO2 := Lib.hid ho2
  obtain ⟨xa, xcap, rfl, -⟩ := ownsRow_form ho2
  have HB2 := Lib.hid (bt HB.out hb2)
  have hz := HB.out.size
  clear hb2 ho2
  go_wp2_with fail
  go_ret2
  exact ⟨_, rfl, own_ge HO2.out hz, HB2.out⟩
end Go.Proofs.YtpapfegbodolgaaDoor
