/- WALKS: StoreCommutes, given what Log does. -/
import Derived.Test.YtaapggeaoacikaaS7
import Derived.Test.YtaapggeaoacikaaV1
import Derived.Test.YtaapggeaoacikaaX9a
import Derived.Deep.DeepCutAuto
import Derived.Deep.Cut
import Derived.Test.YtaapggeaoacikaaK2
import Derived.Test.YtaapggeaoacikaaS6
set_option linter.unusedVariables false
set_option linter.unusedSimpArgs false
namespace Go.Proofs.Ytaapggeaoacikaa
open Go.RowKit Go.Sort Go.ChangeMaps Go.MapKept

theorem pickG (c n : Int) (W : World) (hc : I64 c) (hn : 1 ≤ n) (hn2 : n ≤ 1000000) : Calls Try.prog 18 #[.int .i64 c, .int .i64 n] W fun e w' => e = .returned (.int .i64 (pk c n)) ∧ Below W.heap.size W w' :=
  (pick_any c n W hc hn hn2).mono fun e w' ⟨he, hw⟩ => ⟨he, by rw [← hw]; exact Below.refl _ _⟩
/-- The two triples. -/
def XA2 (a b : V3) : List V3 := [a, b]
/-- The loop's state. -/
def BothSt (w2 wr : World) (L : List MRow) (X : List V3) (v : Value) (i : Nat) : Prop := OwnC wr w2.heap.size v ((X.take i).map (mkC L)) ∧ Below w2.heap.size w2 wr

theorem alloc_at {w : World} {o : Obj} {s : Nat} (h : w.heap.size = s) : (w.alloc o).heap[s]? = some o := by
  subst h
  exact heap_alloc_new w o
theorem own_keepC {w w' : World} {b : Nat} {m : Option Nat} {L : List MRow} {p : Int} {base : Nat} {v : Value} {M : List MCh} (hs : StAt w b m L p) (h : OwnC w base v M) (k : Kept (foot b m) w w') : OwnC w' base v M :=
  own_sameC h (fun g cur hg => k.block g (lt_of_block hg) (fun f => by
    rcases f with rfl | rfl
    · exact type_ne hg hs.blk (by decide) rfl
    · obtain ⟨_, _, h1, _⟩ := hs.mp
      rw [hg] at h1
      cases h1))
/-- Two states that share nothing, each of a call's own. -/
def Two (B : Nat) (W w : World) (b1 : Nat) (m1 : Option Nat) (L1 : List MRow) (p1 : Int) (b2 : Nat) (m2 : Option Nat) (L2 : List MRow) (p2 : Int) : Prop :=
  StAt w b1 m1 L1 p1 ∧ StAt w b2 m2 L2 p2 ∧ (b1 ≠ b2 ∧ (∀ i, m2 = some i → i ≠ b1 ∧ m1 ≠ some i) ∧ (∀ i, m1 = some i → i ≠ b2)) ∧ (B ≤ b1 ∧ B ≤ b2 ∧ (∀ i, m1 = some i → B ≤ i) ∧ ∀ i, m2 = some i → B ≤ i) ∧ B ≤ W.heap.size ∧ Below B W w
theorem Two.symm {B : Nat} {W w : World} {b1 : Nat} {m1 : Option Nat} {L1 : List MRow} {p1 : Int} {b2 : Nat} {m2 : Option Nat} {L2 : List MRow} {p2 : Int} (h : Two B W w b1 m1 L1 p1 b2 m2 L2 p2) : Two B W w b2 m2 L2 p2 b1 m1 L1 p1 := by
  obtain ⟨h1, h2, ⟨h3, h4, h5⟩, ⟨h6, h7, h8, h9⟩, h10, h11⟩ := h
  exact ⟨h2, h1, ⟨fun e => h3 e.symm, fun i hi => ⟨h5 i hi, fun e => (h4 i e).2 hi⟩, fun i hi => (h4 i hi).1⟩, ⟨h7, h6, h9, h8⟩, h10, h11⟩
theorem Two.step {B : Nat} {W w w' : World} {b1 : Nat} {m1 m' : Option Nat} {L1 L' : List MRow} {p1 p' : Int} {b2 : Nat} {m2 : Option Nat} {L2 : List MRow} {p2 : Int} (h : Two B W w b1 m1 L1 p1 b2 m2 L2 p2) (hst : StAt w' b1 m' L' p') (hk : Kept (foot b1 m1) w w')
    (hm : m' = m1 ∨ ∃ x, m' = some x ∧ w.heap.size ≤ x) : Two B W w' b1 m' L' p' b2 m2 L2 p2 := by
  obtain ⟨h1, h2, ⟨h3, h4, h5⟩, ⟨h6, h7, h8, h9⟩, h10, h11⟩ := h
  have hw : B ≤ w.heap.size := Nat.le_trans h10 h11.size
  refine ⟨hst, h2.kept hk (fun i f1 f2 => ?_), ⟨h3, fun i hi => ⟨(h4 i hi).1, fun e => ?_⟩, fun i hi => ?_⟩, ⟨h6, h7, fun i hi => ?_, h9⟩, h10, ?_⟩
  · rcases f1 with rfl | f1
    · rcases f2 with f2 | f2
      · exact h3 f2.symm
      · exact h5 _ f2 rfl
    · rcases f2 with rfl | f2
      · exact (h4 _ f1).1 rfl
      · exact (h4 _ f1).2 f2
  · rcases hm with rfl | ⟨x, rfl, hx⟩
    · exact (h4 i hi).2 e
    · cases e
      have := h2.mlt hi
      omega
  · rcases hm with rfl | ⟨x, rfl, hx⟩
    · exact h5 i hi
    · cases hi
      have := h2.lt
      omega
  · rcases hm with rfl | ⟨x, rfl, hx⟩
    · exact h8 i hi
    · cases hi
      omega
  · exact h11.trans (hk.below hw (fun i f => by
      rcases f with rfl | f
      · exact h6
      · exact h8 i f))

theorem Two.below {B : Nat} {W w w' : World} {b1 : Nat} {m1 : Option Nat} {L1 : List MRow} {p1 : Int} {b2 : Nat} {m2 : Option Nat} {L2 : List MRow} {p2 : Int} (h : Two B W w b1 m1 L1 p1 b2 m2 L2 p2) (k : Below w.heap.size w w') : Two B W w' b1 m1 L1 p1 b2 m2 L2 p2 := by
  obtain ⟨h1, h2, h3, h4, h5, h6⟩ := h
  exact ⟨h1.below k, h2.below k, h3, h4, h5, h6.trans (k.mono (Nat.le_trans h5 h6.size))⟩
theorem chS_first {w : World} {B g cap : Nat} {c1 c2 : MCh} (h : OwnC w B (.slice (some ⟨g, 0, none⟩) 2 cap) [c1, c2]) : ChS w (.slice (some ⟨g, 0, none⟩) 1 cap) [c1] := by
  obtain ⟨_, h1, h2, h3⟩ := ownC_cases h
  have hc := call_own h (by simp)
  have hg : g < w.heap.size := by
    rcases h3 with ⟨e, _⟩ | ⟨g', e, h⟩
    · simp at e
    · simp at e; rw [e]; exact h
  refine ⟨_, _, _, rfl, rfl, by omega, h2, fun _ => ⟨g, 0, rfl, hg, fun i hi => ?_⟩⟩
  obtain rfl : i = 0 := by omega
  exact hc 0 (by simp)
theorem chS_second {w : World} {B g cap : Nat} {c1 c2 : MCh} (h : OwnC w B (.slice (some ⟨g, 0, none⟩) 2 cap) [c1, c2]) : ChS w (.slice (some ⟨g, 10, none⟩) 1 (cap - 1)) [c2] := by
  obtain ⟨_, h1, h2, h3⟩ := ownC_cases h
  have hc := call_own h (by simp)
  have hg : g < w.heap.size := by
    rcases h3 with ⟨e, _⟩ | ⟨g', e, h⟩
    · simp at e
    · simp at e; rw [e]; exact h
  refine ⟨_, _, _, rfl, rfl, by omega, by omega, fun _ => ⟨g, 10, rfl, hg, fun i hi => ?_⟩⟩
  obtain rfl : i = 0 := by omega
  exact hc 1 (by simp)

set_option maxRecDepth 100000 in
set_option maxHeartbeats 16000000 in
theorem commutes_of (H : LogWalked) {W : World} {v : Value} {n : Nat} {a b : V3} (h : XS W v n) (ha : I64 a.a ∧ I64 a.b ∧ I64 a.c) (hb : I64 b.a ∧ I64 b.b ∧ I64 b.c) : Calls Try.prog 10 #[v, v3V a, v3V b] W fun e w' => e = .returned (.bool true) ∧ Below W.heap.size W w' := by
  obtain ⟨xa, xb, xc⟩ := a
  obtain ⟨ya, yb, yc⟩ := b
  obtain ⟨m, hm⟩ : ∃ m : Nat, m = min n 20 := ⟨_, rfl⟩
  have hmn : m ≤ n := by omega
  have hm20 : m ≤ 20 := by omega
  have hmin : min (n : Int) 20 = (m : Int) := by omega
  obtain ⟨sa, cap, rfl, hx⟩ := h.take m hmn
  obtain ⟨_, _, e, hc1, hc2, _⟩ := h
  simp at e
  obtain ⟨rfl, rfl⟩ := e
  have HX := Lib.hid hx
  have HL := Lib.hid H
  have HIa := Lib.hid ha
  have HIb := Lib.hid hb
  clear hx H ha hb hm
  unfold v3V
  go_enter Try.func10, Try.ntmps10
  go_wp2_with fail
  generalize hwa : ((W.alloc (.cells #[.int .i64 xa, .int .i64 xb, .int .i64 xc] 48)).alloc (.cells #[.int .i64 ya, .int .i64 yb, .int .i64 yc] 48)) = wa
  have HBa : Hid (Below W.heap.size W wa) := Lib.hid (by rw [← hwa]; exact bt (ba W _) (ba _ _))
  have HAa : Hid (wa.heap[W.heap.size]? = some (.cells #[.int .i64 xa, .int .i64 xb, .int .i64 xc] 48 (0, 0))) := Lib.hid (by rw [← hwa]; exact ((ba (W.alloc _) _).block _ (by simp)).trans (heap_alloc_new W _))
  have HAb : Hid (wa.heap[W.heap.size + 1]? = some (.cells #[.int .i64 ya, .int .i64 yb, .int .i64 yc] 48 (0, 0))) := Lib.hid (by
    rw [← hwa]
    have := heap_alloc_new (W.alloc (.cells #[.int .i64 xa, .int .i64 xb, .int .i64 xc] 48)) (.cells #[.int .i64 ya, .int .i64 yb, .int .i64 yc] 48)
    rwa [World.size_alloc] at this)
  clear hwa
  refine (sane_any wa).mono ?_
  rintro e w1 ⟨rfl, hb1⟩
  have HB1 := Lib.hid (bt HBa.out hb1)
  have HA1 : Hid (w1.heap[W.heap.size]? = some (.cells #[.int .i64 xa, .int .i64 xb, .int .i64 xc] 48 (0, 0))) := Lib.hid ((hb1.block _ (lt_of_block HAa.out)).trans HAa.out)
  have HA2 : Hid (w1.heap[W.heap.size + 1]? = some (.cells #[.int .i64 ya, .int .i64 yb, .int .i64 yc] 48 (0, 0))) := Lib.hid ((hb1.block _ (lt_of_block HAb.out)).trans HAb.out)
  have HLog := Lib.hid (HL.out w1 (.slice sa m cap) m (HX.out.below HB1.out) (by omega))
  clear hb1 HAa HAb HBa
  go_wp2_with fail
  (with_reducible refine HLog.out.mono ?_)
  rintro e w0 ⟨R, u, rfl, hrs, hch, hl30, hsm, hb0⟩
  have HRS := Lib.hid hrs
  have HCh := Lib.hid hch
  have HB0 := Lib.hid (bt HB1.out hb0)
  have hR20 : R.length ≤ 20 := by omega
  have HLR : Hid (LogRows (rowsOf R)) := Lib.hid (by
    have hg := hch.good R.length (Nat.le_refl _)
    rw [List.take_length] at hg
    exact ⟨hg.1, hg.2.1, inS_rows hsm, inA_rows hsm⟩)
  have HA3 : Hid (w0.heap[W.heap.size]? = some (.cells #[.int .i64 xa, .int .i64 xb, .int .i64 xc] 48 (0, 0))) := Lib.hid ((hb0.block _ (lt_of_block HA1.out)).trans HA1.out)
  have HA4 : Hid (w0.heap[W.heap.size + 1]? = some (.cells #[.int .i64 ya, .int .i64 yb, .int .i64 yc] 48 (0, 0))) := Lib.hid ((hb0.block _ (lt_of_block HA2.out)).trans HA2.out)
  obtain ⟨ra, rn, rcap, rfl, hrn, hrest⟩ := hrs
  subst hrn
  clear hrest hch hsm hb0 HLog HX HA1 HA2 hl30
  go_wp2_with fail
  refine (at_any HRS.out HCh.out R.length (Nat.le_refl _)).mono ?_
  rintro e w2 ⟨b1, m1, rfl, hs1, ho1, hb2⟩
  have HS1 := Lib.hid hs1
  have HO1 := Lib.hid ho1
  have HB2 := Lib.hid hb2
  clear hs1 ho1 hb2
  go_wp2_with fail
  refine (at_any (HRS.out.below HB2.out) HCh.out R.length (Nat.le_refl _)).mono ?_
  rintro e w3 ⟨b2, m2, rfl, hs2, ho2, hb3⟩
  have HS13 := Lib.hid (HS1.out.below hb3)
  have HS23 := Lib.hid hs2
  have HO2 := Lib.hid ho2
  have HB3 := Lib.hid (bt HB2.out hb3)
  clear hs2 ho2 hb3
  obtain ⟨L, HLd⟩ : ∃ L, Hid (rowsOf R = L) := ⟨_, Lib.hid rfl⟩
  have HSL1 : Hid (StAt w3 b1 m1 L R.length) := Lib.hid (by have := HS13.out; rwa [List.take_length, HLd.out] at this)
  have HSL2 : Hid (StAt w3 b2 m2 L R.length) := Lib.hid (by have := HS23.out; rwa [List.take_length, HLd.out] at this)
  rw [HLd.out] at HLR
  have HOw2 : Hid (b2 ≠ b1 ∧ (∀ i, m2 = some i → i ≠ b1 ∧ m1 ≠ some i) ∧ (∀ i, m1 = some i → i ≠ b2)) := Lib.hid (by
    have q1 := HS1.out.lt
    have q2 := HO2.out.1
    refine ⟨by omega, fun i hi => ⟨?_, fun h => ?_⟩, fun i hi => ?_⟩
    · have := HO2.out.2 i hi; omega
    · have := HO2.out.2 i hi; have := HS1.out.mlt h; omega
    · have := HS1.out.mlt hi; omega)
  have a0 : w3.cell? ⟨W.heap.size, 0, none⟩ = some (.int .i64 xa) := (HB3.out.cell (p := ⟨W.heap.size, 0, none⟩) (lt_of_block HA3.out)).trans (by simp [World.cell?, HA3.out])
  have a1 : w3.cell? ⟨W.heap.size, 1, none⟩ = some (.int .i64 xb) := (HB3.out.cell (p := ⟨W.heap.size, 1, none⟩) (lt_of_block HA3.out)).trans (by simp [World.cell?, HA3.out])
  have a2 : w3.cell? ⟨W.heap.size, 2, none⟩ = some (.int .i64 xc) := (HB3.out.cell (p := ⟨W.heap.size, 2, none⟩) (lt_of_block HA3.out)).trans (by simp [World.cell?, HA3.out])
  have c0 : w3.cell? ⟨W.heap.size + 1, 0, none⟩ = some (.int .i64 ya) := (HB3.out.cell (p := ⟨W.heap.size + 1, 0, none⟩) (lt_of_block HA4.out)).trans (by simp [World.cell?, HA4.out])
  have c1 : w3.cell? ⟨W.heap.size + 1, 1, none⟩ = some (.int .i64 yb) := (HB3.out.cell (p := ⟨W.heap.size + 1, 1, none⟩) (lt_of_block HA4.out)).trans (by simp [World.cell?, HA4.out])
  have c2 : w3.cell? ⟨W.heap.size + 1, 2, none⟩ = some (.int .i64 yc) := (HB3.out.cell (p := ⟨W.heap.size + 1, 2, none⟩) (lt_of_block HA4.out)).trans (by simp [World.cell?, HA4.out])
  have hz1 : W.heap.size + 1 < w3.heap.size := Nat.lt_of_lt_of_le (lt_of_block HA4.out) HB3.out.size
  have hz0 : W.heap.size < w3.heap.size := by omega
  clear HS13 HS23 HS1
  go_wp2_with fail
  generalize hw4 : w3.alloc (.cells #[.int .i64 xa, .int .i64 xb, .int .i64 xc, .int .i64 ya, .int .i64 yb, .int .i64 yc] 48) = w4
  have HB34 : Hid (Below w3.heap.size w3 w4) := Lib.hid (by rw [← hw4]; exact ba w3 _)
  have HX4 : Hid (w4.heap[w3.heap.size]? = some (.cells #[.int .i64 xa, .int .i64 xb, .int .i64 xc, .int .i64 ya, .int .i64 yb, .int .i64 yc] 48 (0, 0))) := Lib.hid (by rw [← hw4]; exact heap_alloc_new w3 _)
  clear hw4 a0 a1 a2 c0 c1 c2
  have hz34 : w3.heap.size < w4.heap.size := lt_of_block HX4.out
  obtain ⟨X, HXd⟩ : ∃ X, Hid (([⟨xa, xb, xc⟩, ⟨ya, yb, yc⟩] : List V3) = X) := ⟨_, Lib.hid rfl⟩
  have HXl : Hid (X.length = 2) := Lib.hid (by rw [← HXd.out]; rfl)
  have HXc : Hid (∀ k, k < 2 → I64 (X.getD k V3.zero).a ∧ I64 (X.getD k V3.zero).b ∧ I64 (X.getD k V3.zero).c ∧ w4.cell? ⟨w3.heap.size, k * 3, none⟩ = some (.int .i64 (X.getD k V3.zero).a) ∧ w4.cell? ⟨w3.heap.size, k * 3 + 1, none⟩ = some (.int .i64 (X.getD k V3.zero).b) ∧ w4.cell? ⟨w3.heap.size, k * 3 + 2, none⟩ = some (.int .i64 (X.getD k V3.zero).c)) := Lib.hid (fun k hk => by
    rw [← HXd.out]
    obtain rfl | rfl : k = 0 ∨ k = 1 := by omega
    · exact ⟨HIa.out.1, HIa.out.2.1, HIa.out.2.2, by simp [World.cell?, HX4.out], by simp [World.cell?, HX4.out], by simp [World.cell?, HX4.out]⟩
    · exact ⟨HIb.out.1, HIb.out.2.1, HIb.out.2.2, by simp [World.cell?, HX4.out], by simp [World.cell?, HX4.out], by simp [World.cell?, HX4.out]⟩)
  clear HXd
  go_loopw [13, 55] (fun v i wr => ∃ k : Nat, k ≤ 2 ∧ i = .int .i64 k ∧ Hid (BothSt w4 wr L X v k)) (fun _ i _ => 2 - (intOf i).toNat)
  case atStart => exact ⟨0, by omega, rfl, Lib.hid ⟨OwnC.nil _ _, Below.refl _ _⟩⟩
  case round =>
    obtain ⟨k, hk, rfl, HSt⟩ := hrel
    rename World => wr
    obtain ⟨vo, hvo⟩ : ∃ v, v = u13 := ⟨_, rfl⟩
    subst hvo
    by_cases hk2 : k < 2
    · have hki : (k : Int) < 2 := by omega
      obtain ⟨i1, i2, i3, p0, p1, p2⟩ := HXc.out k hk2
      obtain ⟨⟨pa, pb, pc⟩, Hp⟩ : ∃ p, Hid (X.getD k V3.zero = p) := ⟨_, Lib.hid rfl⟩
      rw [Hp.out] at i1 i2 i3 p0 p1 p2
      simp only at i1 i2 i3 p0 p1 p2
      have HI1 := Lib.hid i1
      have HI2 := Lib.hid i2
      have HI3 := Lib.hid i3
      replace p0 := (HSt.out.2.cell (p := ⟨w3.heap.size, k * 3, none⟩) hz34).trans p0
      replace p1 := (HSt.out.2.cell (p := ⟨w3.heap.size, k * 3 + 1, none⟩) hz34).trans p1
      replace p2 := (HSt.out.2.cell (p := ⟨w3.heap.size, k * 3 + 2, none⟩) hz34).trans p2
      have hz3r : w3.heap.size < wr.heap.size := Nat.lt_of_lt_of_le hz34 HSt.out.2.size
      have pr1 := pk_range pa (n := 3) (by omega)
      have pr2 := pk_range pb (n := 9) (by omega)
      have pr3 := pk_range pc (n := 3) (by omega)
      have pr4 := pk_range pc (n := 50) (by omega)
      obtain ⟨t, Ht⟩ : ∃ t, Hid (pk pa 3 = t) := ⟨_, Lib.hid rfl⟩
      obtain ⟨q, Hq⟩ : ∃ q, Hid (pk pb 9 = q) := ⟨_, Lib.hid rfl⟩
      obtain ⟨z, Hz⟩ : ∃ z, Hid (pk pc 3 = z) := ⟨_, Lib.hid rfl⟩
      obtain ⟨y, Hy⟩ : ∃ y, Hid (pk pc 50 = y) := ⟨_, Lib.hid rfl⟩
      rw [Ht.out] at pr1
      rw [Hq.out] at pr2
      rw [Hz.out] at pr3
      rw [Hy.out] at pr4
      have P1 : Hid (∀ w, Calls Try.prog 18 #[.int .i64 pa, .int .i64 3] w fun e w' => e = .returned (.int .i64 t) ∧ Below w.heap.size w w') := Lib.hid (fun w => by rw [← Ht.out]; exact pickG pa 3 w HI1.out (by omega) (by omega))
      have P2 : Hid (∀ w, Calls Try.prog 18 #[.int .i64 pb, .int .i64 9] w fun e w' => e = .returned (.int .i64 q) ∧ Below w.heap.size w w') := Lib.hid (fun w => by rw [← Hq.out]; exact pickG pb 9 w HI2.out (by omega) (by omega))
      have P3 : Hid (∀ w, Calls Try.prog 18 #[.int .i64 pc, .int .i64 3] w fun e w' => e = .returned (.int .i64 z) ∧ w = w') := Lib.hid (fun w => by rw [← Hz.out]; exact pick_any pc 3 w HI3.out (by omega) (by omega))
      have P4 : Hid (∀ w, Calls Try.prog 18 #[.int .i64 pc, .int .i64 50] w fun e w' => e = .returned (.int .i64 y) ∧ Below w.heap.size w w') := Lib.hid (fun w => by rw [← Hy.out]; exact pickG pc 50 w HI3.out (by omega) (by omega))
      have hwq : IntKind.i64.wrap (1 + q) = 1 + q := by rw [IntKind.wrap_i64]; omega
      clear i1 i2 i3
      go_wp2_with fail
      generalize hw5 : wr.alloc (.cells #[.int .i64 pa, .int .i64 pb, .int .i64 pc] 48) = w5
      have HBr5 : Hid (Below wr.heap.size wr w5) := Lib.hid (by rw [← hw5]; exact ba wr _)
      have HP5 : Hid (w5.heap[wr.heap.size]? = some (.cells #[.int .i64 pa, .int .i64 pb, .int .i64 pc] 48 (0, 0))) := Lib.hid (by rw [← hw5]; exact heap_alloc_new wr _)
      clear hw5 p0 p1 p2
      have h5z := lt_of_block HP5.out
      have g0 : ∀ w0, BW w5 w0 → ∀ d os, (grow (redrawn w0 d) os).cell? ⟨wr.heap.size, 0, none⟩ = some (.int .i64 pa) := fun w0 h d os => by
        have k : Below w5.heap.size w5 (grow (redrawn w0 d) os) := bt h (below_regrown w0 d os)
        rw [k.cell (p := ⟨wr.heap.size, 0, none⟩) h5z]
        simp [World.cell?, HP5.out]
      have g1 : ∀ w0, BW w5 w0 → ∀ d os, (grow (redrawn w0 d) os).cell? ⟨wr.heap.size, 1, none⟩ = some (.int .i64 pb) := fun w0 h d os => by
        have k : Below w5.heap.size w5 (grow (redrawn w0 d) os) := bt h (below_regrown w0 d os)
        rw [k.cell (p := ⟨wr.heap.size, 1, none⟩) h5z]
        simp [World.cell?, HP5.out]
      refine wp_region_calm1 9 10 8 [0, 1, 2, 3, 4, 5, 6, 7] (obj := .cells (chCells ⟨0, 0, false, ⟨0, 0, 0⟩, false, ⟨0, 0, 0⟩⟩) 57 (0, 0)) (by kernel_rfl) (by kernel_rfl) (by intro oz h; simp at h) (by intro oz h; simp at h) (by rfl) (by rfl) (fun a w => by kernel_rfl) ?_
      simp only [List.take_succ_cons, List.take_zero, List.eraseIdx_cons_succ, List.eraseIdx_cons_zero]
      iterate 2
        apply wpCalm_want
        · rfl
        · exact bc_refl
        · exact ⟨_, Below.refl _ _⟩
        · intro w00 hC0 K hK
          go_big_quiet_op
          exact hK
      apply wpCalm_want
      · rfl
      · exact bc_refl
      · exact ⟨_, Below.refl _ _⟩
      · intro w00 hC0 K hK
        go_big_quiet_op
        apply Exists.intro
        refine ⟨fun p => ?_, ?_⟩
        · exact Calls.regrown_of (P1.out _)
        · exact hK
      iterate 2
        apply wpCalm_want
        · rfl
        · exact bc_refl
        · exact ⟨_, Below.refl _ _⟩
        · intro w00 hC0 K hK
          go_big_quiet_op
          exact hK
      apply wpCalm_want
      · rfl
      · exact bc_refl
      · exact ⟨_, Below.refl _ _⟩
      · intro w00 hC0 K hK
        go_big_quiet_op
        apply Exists.intro
        refine ⟨fun p => ?_, ?_⟩
        · exact Calls.regrown_of (P2.out _)
        · exact hK
      iterate 2
        apply wpCalm_want
        · rfl
        · exact bc_refl
        · exact ⟨_, Below.refl _ _⟩
        · intro w00 hC0 K hK
          go_big_quiet_op
          exact hK
      refine wpCalm_nil ?_
      intro cb wc0 hbc hcb hblk
      simp only [List.drop_succ_cons, List.drop_zero]
      go_frame
      refine wpList_store_row rfl 57 _ _ rfl cb (chCells ⟨t, 1 + q, false, ⟨0, 0, 0⟩, false, ⟨0, 0, 0⟩⟩) rfl rfl 57 _ hblk (by kernel_rfl) rfl (by simp [chCells, Value.oneCell']) ?_
      go_frame
      generalize hwc : wc0.setRow cb (chCells ⟨t, 1 + q, false, ⟨0, 0, 0⟩, false, ⟨0, 0, 0⟩⟩) = wc
      have HCc : Hid (wc.heap[cb]? = some (.cells (chCells ⟨t, 1 + q, false, ⟨0, 0, 0⟩, false, ⟨0, 0, 0⟩⟩) 57 (0, 0))) := Lib.hid (by rw [← hwc]; exact setRow_heap _ _ _ _ _ _ hblk)
      have HB5c : Hid (Below w5.heap.size w5 wc) := Lib.hid (by rw [← hwc]; exact below_row hbc hcb _)
      have HBrc : Hid (Below wr.heap.size wr wc) := Lib.hid (bt HBr5.out HB5c.out)
      have HPc : Hid (wc.heap[wr.heap.size]? = some (.cells #[.int .i64 pa, .int .i64 pb, .int .i64 pc] 48 (0, 0))) := Lib.hid ((HB5c.out.block _ h5z).trans HP5.out)
      have hcbr : wr.heap.size < cb := by omega
      clear hbc g0 g1 HP5 HBr5 h5z hcb hblk hwc HB5c hwq
      have HB3c : Hid (Below w3.heap.size w3 wc) := Lib.hid (bt HB34.out (bt HSt.out.2 HBrc.out))
      have hcbl := lt_of_block HCc.out
      have u0 : wc.cell? ⟨cb, 0, none⟩ = some (.int .i64 t) := by simp [World.cell?, HCc.out, chCells]
      have u1 : wc.cell? ⟨cb, 1, none⟩ = some (.int .i64 (1 + q)) := by simp [World.cell?, HCc.out, chCells]
      go_wp2_with fail
      refine (get_any (HSL1.out.below HB3c.out) (t := t) (k := 1 + q) ⟨by omega, by omega⟩ ⟨by omega, by omega⟩).mono ?_
      rintro e w6 ⟨rfl, hb6⟩
      obtain ⟨⟨t', k', ⟨a', b', c'⟩⟩, Hr⟩ : ∃ r, Hid ((look L t (1 + q)).getD rowZ = r) := ⟨_, Lib.hid rfl⟩
      obtain ⟨ok, Ho⟩ : ∃ ok, Hid ((look L t (1 + q)).isSome = ok) := ⟨_, Lib.hid rfl⟩
      rw [Hr.out, Ho.out]
      unfold rowV
      have HM : Hid (mkC L (X.getD k V3.zero) = ⟨t, 1 + q, ok, ⟨a', b', c'⟩, !ok || decide (0 < z), if (!ok || decide (0 < z)) then ⟨a' + 1, y, 1⟩ else ⟨0, 0, 0⟩⟩) := Lib.hid (by
        rw [Hp.out]
        unfold mkC
        simp only [Ht.out, Hq.out, Hz.out, Hy.out, Ho.out, Hr.out])
      have ha' : -1000 ≤ a' ∧ a' ≤ 9 := by
        have h1 := mkC_old HLR.out (X.getD k V3.zero)
        rw [HM.out] at h1
        exact ⟨h1.1, h1.2.1⟩
      have HBr6 : Hid (Below wr.heap.size wr w6) := Lib.hid (bt HBrc.out hb6)
      have HC6 : Hid (w6.heap[cb]? = some (.cells (chCells ⟨t, 1 + q, false, ⟨0, 0, 0⟩, false, ⟨0, 0, 0⟩⟩) 57 (0, 0))) := Lib.hid ((hb6.block _ hcbl).trans HCc.out)
      have HP6 : Hid (w6.heap[wr.heap.size]? = some (.cells #[.int .i64 pa, .int .i64 pb, .int .i64 pc] 48 (0, 0))) := Lib.hid ((hb6.block _ (lt_of_block HPc.out)).trans HPc.out)
      have hz6 : cb < w6.heap.size := lt_of_block HC6.out
      have hz6n : ¬ cb = w6.heap.size := by omega
      have hp6 : wr.heap.size < w6.heap.size := lt_of_block HP6.out
      have e0 : w6.cell? ⟨cb, 0, none⟩ = some (.int .i64 t) := by simp [World.cell?, HC6.out, chCells]
      have e1 : w6.cell? ⟨cb, 1, none⟩ = some (.int .i64 (1 + q)) := by simp [World.cell?, HC6.out, chCells]
      have e2 : w6.cell? ⟨cb, 2, none⟩ = some (.bool false) := by simp [World.cell?, HC6.out, chCells]
      have e3 : w6.cell? ⟨cb, 3, none⟩ = some (.int .i64 0) := by simp [World.cell?, HC6.out, chCells]
      have e4 : w6.cell? ⟨cb, 4, none⟩ = some (.int .i64 0) := by simp [World.cell?, HC6.out, chCells]
      have e5 : w6.cell? ⟨cb, 5, none⟩ = some (.int .i64 0) := by simp [World.cell?, HC6.out, chCells]
      have e6 : w6.cell? ⟨cb, 6, none⟩ = some (.bool false) := by simp [World.cell?, HC6.out, chCells]
      have f0 : ∀ j, w6.frozen? ⟨cb, j, none⟩ = false := fun j => by simp [World.frozen?, HC6.out]
      have r2 : w6.cell? ⟨wr.heap.size, 2, none⟩ = some (.int .i64 pc) := by simp [World.cell?, HP6.out]
      have hcbrn : ¬ cb = wr.heap.size := by omega
      clear hb6 u0 u1
      go_upto_region 15 with fail
      go_cut [] (fun wy => ∃ has : Bool, Hid (CBk cb w6 wy ⟨t, 1 + q, ok, ⟨a', b', c'⟩, has, ⟨0, 0, 0⟩⟩) ∧ Hid (has = (!ok || decide (0 < z))) ∧ Hid (wy.heap[w6.heap.size]? = some (.cells #[.int .i64 t', .int .i64 k', .int .i64 a', .int .i64 b', .int .i64 c'] 50 (0, 0))))
      case first =>
        cases ok
        · go_wp2_with fail
          go_meet
          exact ⟨true, Lib.hid ((cbk_had HC6.out).alloc _), Lib.hid rfl, Lib.hid (alloc_at (by simp))⟩
        · by_cases hz0 : 0 < z
          · have dz : decide (0 < z) = true := decide_eq_true hz0
            clear hz0
            go_wp2_with (first | (go_at_call 18; (with_reducible refine (P3.out _).mono ?_); rintro e wx ⟨rfl, rfl⟩))
            go_meet
            exact ⟨true, Lib.hid ((cbk_had HC6.out).alloc _), Lib.hid (by rw [dz]; rfl), Lib.hid (alloc_at (by simp))⟩
          · have dz : decide (0 < z) = false := decide_eq_false hz0
            clear hz0
            go_wp2_with (first | (go_at_call 18; (with_reducible refine (P3.out _).mono ?_); rintro e wx ⟨rfl, rfl⟩))
            go_meet
            exact ⟨false, Lib.hid ((cbk_had HC6.out).alloc _), Lib.hid (by rw [dz]; rfl), Lib.hid (alloc_at (by simp))⟩
      case rest =>
        obtain ⟨has, HK1, Hhas, HRow⟩ := hcut
        clear e0 e1 e2 e3 e4 e5 e6 f0 r2
        rename World => wy
        obtain ⟨⟨e0, e1, e2, e3, e4, e5, e6, e7, e8, e9⟩, f0⟩ := HK1.out.cells
        go_upto_if 91 with fail
        go_cut [] (fun wz => Hid (CBk cb w6 wz (mkC L (X.getD k V3.zero))))
        case first =>
          cases has
          · have HM' : Hid (mkC L (X.getD k V3.zero) = ⟨t, 1 + q, ok, ⟨a', b', c'⟩, false, ⟨0, 0, 0⟩⟩) := Lib.hid (by rw [HM.out, ← Hhas.out]; rfl)
            go_wp2_with fail
            go_meet
            exact Lib.hid (by rw [HM'.out]; exact HK1.out)
          · have HM' : Hid (mkC L (X.getD k V3.zero) = ⟨t, 1 + q, ok, ⟨a', b', c'⟩, true, ⟨a' + 1, y, 1⟩⟩) := Lib.hid (by rw [HM.out, ← Hhas.out]; rfl)
            go_wp2_with fail
            have hy6 : w6.heap.size < wy.heap.size := lt_of_block HRow.out
            have hpy : wr.heap.size < wy.heap.size := by omega
            have HPy : Hid (wy.heap[wr.heap.size]? = some (.cells #[.int .i64 pa, .int .i64 pb, .int .i64 pc] 48 (0, 0))) := Lib.hid ((HK1.out.2.block _ hp6 (fun e => hcbrn e.symm)).trans HP6.out)
            have hwa : IntKind.i64.wrap (a' + 1) = a' + 1 := by rw [IntKind.wrap_i64]; omega
            have g0 : ∀ w0, BW wy w0 → ∀ d os, (grow (redrawn w0 d) os).cell? ⟨w6.heap.size, 2, none⟩ = some (.int .i64 a') := fun w0 h d os => by
              have k : Below wy.heap.size wy (grow (redrawn w0 d) os) := bt h (below_regrown w0 d os)
              rw [k.cell (p := ⟨w6.heap.size, 2, none⟩) hy6]
              simp [World.cell?, HRow.out]
            have g1 : ∀ w0, BW wy w0 → ∀ d os, (grow (redrawn w0 d) os).cell? ⟨wr.heap.size, 2, none⟩ = some (.int .i64 pc) := fun w0 h d os => by
              have k : Below wy.heap.size wy (grow (redrawn w0 d) os) := bt h (below_regrown w0 d os)
              rw [k.cell (p := ⟨wr.heap.size, 2, none⟩) hpy]
              simp [World.cell?, HPy.out]
            refine wp_region_calm 9 10 [0, 1, 2, 3, 4, 5, 6, 7, 8] (by kernel_rfl) (by kernel_rfl) (by intro oz h; simp at h) (by intro oz h; simp at h) (by rfl) ?_
            simp only [List.take_succ_cons, List.take_zero]
            iterate 6
              apply wpCalm_want
              · rfl
              · exact bc_refl
              · exact ⟨_, Below.refl _ _⟩
              · intro w00 hC0 K hK
                go_big_quiet_op
                exact hK
            apply wpCalm_want
            · rfl
            · exact bc_refl
            · exact ⟨_, Below.refl _ _⟩
            · intro w00 hC0 K hK
              go_big_quiet_op
              apply Exists.intro
              refine ⟨fun p => ?_, ?_⟩
              · exact Calls.regrown_of (P4.out _)
              · exact hK
            iterate 2
              apply wpCalm_want
              · rfl
              · exact bc_refl
              · exact ⟨_, Below.refl _ _⟩
              · intro w00 hC0 K hK
                go_big_quiet_op
                exact hK
            refine wpCalm_nil ?_
            intro wq hbq
            simp only [List.drop_succ_cons, List.drop_zero]
            have HKq := Lib.hid (HK1.out.below hbq)
            clear e0 e1 e2 e3 e4 e5 e6 e7 e8 e9 f0 g0 g1 hwa hbq
            obtain ⟨⟨e0, e1, e2, e3, e4, e5, e6, e7, e8, e9⟩, f0⟩ := HKq.out.cells
            go_wp2_with fail
            go_meet
            exact Lib.hid (by rw [HM'.out]; exact cbk_new HKq.out)
        case rest =>
          have HK2 := hcut
          clear hcut e0 e1 e2 e3 e4 e5 e6 e7 e8 e9 f0 HK1 HRow
          rename World => wz
          obtain ⟨⟨ct, ck, chad, ⟨coa, cob, coc⟩, chas, ⟨cna, cnb, cnc⟩⟩, HMc⟩ : ∃ c, Hid (mkC L (X.getD k V3.zero) = c) := ⟨_, Lib.hid rfl⟩
          rw [HMc.out] at HK2
          obtain ⟨⟨e0, e1, e2, e3, e4, e5, e6, e7, e8, e9⟩, f0⟩ := HK2.out.cells
          have hzz : cb < wz.heap.size := lt_of_block HK2.out.1
          have hzzn : ¬ cb = wz.heap.size := by omega
          have HOz : Hid (OwnC wz w4.heap.size vo ((X.take k).map (mkC L))) := Lib.hid ((HSt.out.1.below HBr6.out).kept HK2.out.2 (fun i hi e => by
            obtain ⟨_, cur, h1⟩ := own_type HSt.out.1 hi
            have := lt_of_block h1
            omega))
          have HBz : Hid (Below w4.heap.size w4 wz) := Lib.hid ((bt HSt.out.2 HBr6.out).trans (HK2.out.2.below (Nat.le_trans HSt.out.2.size HBr6.out.size) (fun i e => by have := HSt.out.2.size; omega)))
          have hXk : ((X.take k).map (mkC L)).length ≤ 2 := by simp; omega
          obtain ⟨i0, hI, hZ0, hZ1, hZ2⟩ := info_parts Try.info57c
          go_wp2_with (at_builtin; (refine wpList_append_own _ rfl (.tmp 101) (.tmp 103) 30 rfl w4.heap.size 57 i0 _ 10 80 Try.underlying30 hI hZ0 hZ1 hZ2 rfl (by decide) vo _ (flatC ((X.take k).map (mkC L))) rfl (HOz.out.below (ba wz (.cells (chCells ⟨ct, ck, chad, ⟨coa, cob, coc⟩, chas, ⟨cna, cnb, cnc⟩⟩) 57))) ⟨wz.heap.size, 0, none⟩ 1 1 (ccl ⟨ct, ck, chad, ⟨coa, cob, coc⟩, chas, ⟨cna, cnb, cnc⟩⟩) rfl rfl (World.news_of_block (cs := chCells ⟨ct, ck, chad, ⟨coa, cob, coc⟩, chas, ⟨cna, cnb, cnc⟩⟩) (t := 57) (fr := (0, 0)) (heap_alloc_new wz _)) (ccl_one _) (by unfold maxLen; omega) (by omega) (by have := HBz.out.size; simp; omega) ?_; intro v8 w8 hown8 hgrow8 _; have HO8 := Lib.hid hown8; have HG8 := Lib.hid hgrow8; clear hown8 hgrow8))
          have HStn : Hid (BothSt w4 w8 L X v8 (k + 1)) := Lib.hid ⟨by
            rw [take_snoc' (d := V3.zero) (by rw [HXl.out]; exact hk2), List.map_append, List.map_singleton, HMc.out]
            unfold OwnC
            rw [List.length_append, flatC_app]
            exact HO8.out, (bt HBz.out (ba wz _)).grown HG8.out (Nat.le_trans HBz.out.size (ba wz _).size) (fun i hi => (own_type HOz.out hi).1)⟩
          exact ⟨⟨k + 1, by omega, by go_num, HStn⟩, by simp [intOf]; omega⟩
    · obtain rfl : k = 2 := by omega
      obtain ⟨c1, Hc1⟩ : ∃ c, Hid (mkC L (X.getD 0 V3.zero) = c) := ⟨_, Lib.hid rfl⟩
      obtain ⟨c2, Hc2⟩ : ∃ c, Hid (mkC L (X.getD 1 V3.zero) = c) := ⟨_, Lib.hid rfl⟩
      have HXe : Hid ((X.take 2).map (mkC L) = [c1, c2]) := Lib.hid (by
        have hl := HXl.out
        obtain ⟨x0, x1, rfl⟩ : ∃ a b, X = [a, b] := match X, hl with | [a, b], _ => ⟨a, b, rfl⟩
        rw [← Hc1.out, ← Hc2.out]
        rfl)
      have HOb : Hid (OwnC wr w4.heap.size vo [c1, c2]) := Lib.hid (by rw [← HXe.out]; exact HSt.out.1)
      have HBb : Hid (Below w3.heap.size w3 wr) := Lib.hid (bt HB34.out HSt.out.2)
      have HV1 : Hid (VCh c1 ∧ fitC L c1) := Lib.hid (by rw [← Hc1.out]; exact ⟨mkC_v HLR.out _, mkC_fit L HLR.out.1 _⟩)
      have HV2 : Hid (VCh c2 ∧ fitC L c2) := Lib.hid (by rw [← Hc2.out]; exact ⟨mkC_v HLR.out _, mkC_fit L HLR.out.1 _⟩)
      have HSr := Lib.hid HLR.out.1
      have hL27 : L.length ≤ 27 := len27 HLR.out.1 HLR.out.2.2.1
      have HTwo : Hid (Two W.heap.size W wr b1 m1 L R.length b2 m2 L R.length) := Lib.hid ⟨HSL1.out.below HBb.out, HSL2.out.below HBb.out, ⟨fun e => HOw2.out.1 e.symm, HOw2.out.2.1, HOw2.out.2.2⟩, ⟨by have := HO1.out.1; have := HB0.out.size; omega, by have := HO2.out.1; have := HB0.out.size; have := HB2.out.size; omega, fun i hi => by have := HO1.out.2 i hi; have := HB0.out.size; omega, fun i hi => by have := HO2.out.2 i hi; have := HB0.out.size; have := HB2.out.size; omega⟩, Nat.le_refl _, bt HB0.out (bt HB3.out HBb.out)⟩
      obtain ⟨va, vn, vcap, rfl⟩ := ownC_form2 HOb.out
      obtain ⟨hvn, hv1, hv2, hv3⟩ := ownC_cases HOb.out
      obtain rfl : vn = 2 := hvn
      obtain ⟨g, rfl, hgl⟩ : ∃ g, va = some ⟨g, 0, none⟩ ∧ g < wr.heap.size := by
        rcases hv3 with ⟨_, _, e⟩ | h
        · cases e
        · exact h
      have HCa := Lib.hid (call_own HOb.out (by simp))
      clear HSt HXe hv3
      have x0 : wr.cell? ⟨g, 0, none⟩ = some (.int .i64 c1.t) := HCa.out 0 (by simp) 0 (by omega)
      have x1 : wr.cell? ⟨g, 1, none⟩ = some (.int .i64 c1.k) := HCa.out 0 (by simp) 1 (by omega)
      have y0 : wr.cell? ⟨g, 10, none⟩ = some (.int .i64 c2.t) := HCa.out 1 (by simp) 0 (by omega)
      have y1 : wr.cell? ⟨g, 10 + 1, none⟩ = some (.int .i64 c2.k) := HCa.out 1 (by simp) 1 (by omega)
      by_cases h1 : c1.t = c2.t
      · have g1 : (c1.t == c2.t) = true := by simp [h1]
        by_cases h2 : c1.k = c2.k
        · have g2 : (c1.k == c2.k) = true := by simp [h2]
          have HBf := Lib.hid (bt HTwo.out.2.2.2.2.2 (below_drewN wr 0))
          clear h1 h2
          go_wp2_with fail
          go_quiet (fail)
          have HBg := Lib.hid (bt HTwo.out.2.2.2.2.2 (below_drewN wr nq))
          go_wp2_with fail
          go_ret
          exact ⟨rfl, HBg.out⟩
        · have g2 : (c1.k == c2.k) = false := by simp [h2]
          have Hh2 := Lib.hid h2
          clear h1 h2
          go_wp2_with fail
          go_quiet (fail)
          generalize hwd : wr.drewN nq = wd
          have HTd := Lib.hid (HTwo.out.below (show Below wr.heap.size wr wd by rw [← hwd]; exact below_drewN wr nq))
          have HOd := Lib.hid (HOb.out.below (show Below wr.heap.size wr wd by rw [← hwd]; exact below_drewN wr nq))
          have HNe : Hid (¬ (c2.t = c1.t ∧ c2.k = c1.k)) := Lib.hid (fun h => Hh2.out h.2.symm)
          have HNe2 : Hid (¬ (c1.t = c2.t ∧ c1.k = c2.k)) := Lib.hid (fun h => HNe.out ⟨h.1.symm, h.2.symm⟩)
          clear hwd x0 x1 y0 y1 HCa
          have hcap1 : ¬ vcap = 1 := by omega
          go_wp2_with fail
          refine (apply_ok HTd.out.1 (chS_first HOd.out) (one_okay HV1.out.1 HV1.out.2 (by omega) (by omega))).mono ?_
          rintro e wa1 ⟨rfl, n1, hst, hkt, hmm⟩
          have HT1 := Lib.hid (HTd.out.step hst hkt hmm)
          have HO1' := Lib.hid (own_keepC HTd.out.1 HOd.out hkt)
          clear hst hkt hmm
          go_wp2_with fail
          refine (apply_ok HT1.out.1 (chS_second HO1'.out) (by
            rw [show (R.length : Int) + 2 = (R.length : Int) + 1 + 1 by omega]
            exact one_okay HV2.out.1 (two_fit HSr.out HNe.out HV2.out.2) (Nat.le_trans (step_len HSr.out _) (by omega)) (by omega))).mono ?_
          rintro e wa2 ⟨rfl, n2, hst, hkt, hmm⟩
          have HT2 := Lib.hid (HT1.out.step hst hkt hmm).symm
          have HO2' := Lib.hid (own_keepC HT1.out.1 HO1'.out hkt)
          clear hst hkt hmm
          go_wp2_with fail
          refine (apply_ok HT2.out.1 (chS_second HO2'.out) (one_okay HV2.out.1 HV2.out.2 (by omega) (by omega))).mono ?_
          rintro e wa3 ⟨rfl, n3, hst, hkt, hmm⟩
          have HT3 := Lib.hid (HT2.out.step hst hkt hmm)
          have HO3' := Lib.hid (own_keepC HT2.out.1 HO2'.out hkt)
          clear hst hkt hmm
          go_wp2_with fail
          refine (apply_ok HT3.out.1 (chS_first HO3'.out) (by
            rw [show (R.length : Int) + 2 = (R.length : Int) + 1 + 1 by omega]
            exact one_okay HV1.out.1 (two_fit HSr.out HNe2.out HV1.out.2) (Nat.le_trans (step_len HSr.out _) (by omega)) (by omega))).mono ?_
          rintro e wa4 ⟨rfl, n4, hst, hkt, hmm⟩
          have HT4 := Lib.hid (HT3.out.step hst hkt hmm)
          clear hst hkt hmm
          have HSe1 : Hid (StAt wa4 b1 n2 (stepC (stepC L c1) c2) ((R.length : Int) + 2)) := Lib.hid HT4.out.2.1
          have HSe2 : Hid (StAt wa4 b2 n4 (stepC (stepC L c1) c2) ((R.length : Int) + 2)) := Lib.hid (by
            rw [step_comm HSr.out HNe2.out]
            exact HT4.out.1)
          have HBf := Lib.hid HT4.out.2.2.2.2.2
          go_wp2_with fail
          refine (equal_true HSe1.out HSe2.out).mono ?_
          rintro e wf ⟨rfl, hbf⟩
          have HSf1 := Lib.hid (HSe1.out.below hbf)
          have HSf2 := Lib.hid (HSe2.out.below hbf)
          have HBff : Hid (Below W.heap.size W wf) := Lib.hid (bt HBf.out hbf)
          clear hbf
          go_wp2_with fail
          (with_reducible refine (position_any HSf1.out).mono ?_)
          rintro e wx ⟨rfl, rfl⟩
          go_wp2_with fail
          (with_reducible refine (position_any HSf2.out).mono ?_)
          rintro e wx ⟨rfl, rfl⟩
          go_wp2_with fail
          go_ret
          exact ⟨rfl, HBff.out⟩
      · have g1 : (c1.t == c2.t) = false := by simp [h1]
        have Hh1 := Lib.hid h1
        clear h1
        go_wp2_with fail
        go_quiet (fail)
        generalize hwd : wr.drewN nq = wd
        have HTd := Lib.hid (HTwo.out.below (show Below wr.heap.size wr wd by rw [← hwd]; exact below_drewN wr nq))
        have HOd := Lib.hid (HOb.out.below (show Below wr.heap.size wr wd by rw [← hwd]; exact below_drewN wr nq))
        have HNe : Hid (¬ (c2.t = c1.t ∧ c2.k = c1.k)) := Lib.hid (fun h => Hh1.out h.1.symm)
        have HNe2 : Hid (¬ (c1.t = c2.t ∧ c1.k = c2.k)) := Lib.hid (fun h => HNe.out ⟨h.1.symm, h.2.symm⟩)
        clear hwd x0 x1 y0 y1 HCa
        have hcap1 : ¬ vcap = 1 := by omega
        go_wp2_with fail
        refine (apply_ok HTd.out.1 (chS_first HOd.out) (one_okay HV1.out.1 HV1.out.2 (by omega) (by omega))).mono ?_
        rintro e wa1 ⟨rfl, n1, hst, hkt, hmm⟩
        have HT1 := Lib.hid (HTd.out.step hst hkt hmm)
        have HO1' := Lib.hid (own_keepC HTd.out.1 HOd.out hkt)
        clear hst hkt hmm
        go_wp2_with fail
        refine (apply_ok HT1.out.1 (chS_second HO1'.out) (by
          rw [show (R.length : Int) + 2 = (R.length : Int) + 1 + 1 by omega]
          exact one_okay HV2.out.1 (two_fit HSr.out HNe.out HV2.out.2) (Nat.le_trans (step_len HSr.out _) (by omega)) (by omega))).mono ?_
        rintro e wa2 ⟨rfl, n2, hst, hkt, hmm⟩
        have HT2 := Lib.hid (HT1.out.step hst hkt hmm).symm
        have HO2' := Lib.hid (own_keepC HT1.out.1 HO1'.out hkt)
        clear hst hkt hmm
        go_wp2_with fail
        refine (apply_ok HT2.out.1 (chS_second HO2'.out) (one_okay HV2.out.1 HV2.out.2 (by omega) (by omega))).mono ?_
        rintro e wa3 ⟨rfl, n3, hst, hkt, hmm⟩
        have HT3 := Lib.hid (HT2.out.step hst hkt hmm)
        have HO3' := Lib.hid (own_keepC HT2.out.1 HO2'.out hkt)
        clear hst hkt hmm
        go_wp2_with fail
        refine (apply_ok HT3.out.1 (chS_first HO3'.out) (by
          rw [show (R.length : Int) + 2 = (R.length : Int) + 1 + 1 by omega]
          exact one_okay HV1.out.1 (two_fit HSr.out HNe2.out HV1.out.2) (Nat.le_trans (step_len HSr.out _) (by omega)) (by omega))).mono ?_
        rintro e wa4 ⟨rfl, n4, hst, hkt, hmm⟩
        have HT4 := Lib.hid (HT3.out.step hst hkt hmm)
        clear hst hkt hmm
        have HSe1 : Hid (StAt wa4 b1 n2 (stepC (stepC L c1) c2) ((R.length : Int) + 2)) := Lib.hid HT4.out.2.1
        have HSe2 : Hid (StAt wa4 b2 n4 (stepC (stepC L c1) c2) ((R.length : Int) + 2)) := Lib.hid (by
          rw [step_comm HSr.out HNe2.out]
          exact HT4.out.1)
        have HBf := Lib.hid HT4.out.2.2.2.2.2
        go_wp2_with fail
        refine (equal_true HSe1.out HSe2.out).mono ?_
        rintro e wf ⟨rfl, hbf⟩
        have HSf1 := Lib.hid (HSe1.out.below hbf)
        have HSf2 := Lib.hid (HSe2.out.below hbf)
        have HBff : Hid (Below W.heap.size W wf) := Lib.hid (bt HBf.out hbf)
        clear hbf
        go_wp2_with fail
        (with_reducible refine (position_any HSf1.out).mono ?_)
        rintro e wx ⟨rfl, rfl⟩
        go_wp2_with fail
        (with_reducible refine (position_any HSf2.out).mono ?_)
        rintro e wx ⟨rfl, rfl⟩
        go_wp2_with fail
        go_ret
        exact ⟨rfl, HBff.out⟩
end Go.Proofs.Ytaapggeaoacikaa
