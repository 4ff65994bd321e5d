/- WALKS: spell, over whatever two closures. -/
import Derived.Test.YtmjcjgmmolmibaaDoorW3
import Derived.Test.YtmjcjgmmolmibaaDoorV2
set_option linter.unusedVariables false
set_option linter.unusedSimpArgs false
namespace Go.Proofs.YtmjcjgmmolmibaaDoor
open Go.RowKit

theorem eOfR : bstr wOf = ⟨#[111, 102]⟩ := rfl
theorem eToR : bstr wTo = ⟨#[116, 111]⟩ := rfl
/-- What spell asks of its two closures. -/
structure SpCloR (I : World → SpS → Prop) (J : World → Prop) (a : Addr) (b : Nat) (pw' pn' : Addr) (sw : SpS → List UInt8 → Option SpS) (sn : SpS → Nat → Option SpS) : Prop where
  q : ∀ w s, I w s → QAt w b s.q ∧ ∀ j, w.frozen? ⟨b, j, none⟩ = false
  low : ∀ w s, I w s → I (w.setCell ⟨b, 4, none⟩ (.int .i64 s.q.low)) (low2 s)
  word : ∀ w s x, I w s → Calls Tryd.prog 43 #[.string (bstr x), .pointer (some pw')] w (SpOut I J a (sw s x))
  num : ∀ w s j, I w s → 1 ≤ j ∧ j ≤ 6 → Calls Tryd.prog 45 #[.pointer (some ⟨b, j, none⟩), .pointer (some pn')] w (SpOut I J a (sn s j))
  kw : ∀ s x s', sw s x = some s' → s'.q.kind = s.q.kind
  kn : ∀ s j s', 1 ≤ j ∧ j ≤ 6 → sn s j = some s' → s'.q.kind = s.q.kind


set_option maxRecDepth 100000 in
set_option maxHeartbeats 4000000 in
theorem spellR_1 {I : World → SpS → Prop} {J : World → Prop} {a : Addr} {b : Nat} {pw' pn' : Addr} {sw : SpS → List UInt8 → Option SpS} {sn : SpS → Nat → Option SpS} (H : SpCloR I J a b pw' pn' sw sn) (w : World) (s : SpS) (hI : I w s) (hk : s.q.kind = 1) :
    Calls Tryd.prog 18 #[.pointer (some ⟨b, 0, none⟩), .func (.func 43) #[] #[.pointer (some pw')], .func (.func 45) #[] #[.pointer (some pn')]] w (SpOut I J a (spellM sw sn s)) := by
  have HH := Lib.hid H
  clear H

  have HK := Lib.hid hk
  have HI0 := Lib.hid hI
  obtain ⟨HQ, _⟩ := HH.out.q w s hI
  have c0 := HQ.c0
  clear HQ hI
  rw [hk] at c0
  clear hk
  go_enter Tryd.func18, Tryd.ntmps18
  have HC1 := Lib.hid (HH.out.num _ _ 1 HI0.out (by decide))
  cases h1 : sn s 1 with
  | none =>
    have E1 := Lib.hid h1
    rw [E1.out] at HC1
    clear h1
    go_wp2_with fail
    (with_reducible refine HC1.out.mono ?_)
    rintro e w' ⟨rfl, hj⟩
    have HJ := Lib.hid hj
    clear hj
    go_wp2_with fail
    exact ⟨rfl, SpOut.no (Lib.hid (by simp [spellM, spell4, HK.out, E1.out])) rfl HJ.out⟩
  | some s1 =>
    have E1 := Lib.hid h1
    have K1 := Lib.hid ((HH.out.kn _ _ _ (by decide) h1))
    rw [E1.out] at HC1
    clear h1
    go_wp2_with fail
    (with_reducible refine HC1.out.mono ?_)
    rintro e w1 ⟨rfl, hi1⟩
    have HI1 := Lib.hid hi1
    clear hi1
    have HC2 := Lib.hid (HH.out.num _ _ 3 HI1.out (by decide))
    cases h2 : sn s1 3 with
    | none =>
      have E2 := Lib.hid h2
      rw [E2.out] at HC2
      clear h2
      go_wp2_with fail
      (with_reducible refine HC2.out.mono ?_)
      rintro e w' ⟨rfl, hj⟩
      have HJ := Lib.hid hj
      clear hj
      go_wp2_with fail
      exact ⟨rfl, SpOut.no (Lib.hid (by simp [spellM, spell4, HK.out, E1.out, E2.out])) rfl HJ.out⟩
    | some s2 =>
      have E2 := Lib.hid h2
      have K2 := Lib.hid ((HH.out.kn _ _ _ (by decide) h2).trans K1.out)
      rw [E2.out] at HC2
      clear h2
      go_wp2_with fail
      (with_reducible refine HC2.out.mono ?_)
      rintro e w2 ⟨rfl, hi2⟩
      have HI2 := Lib.hid hi2
      clear hi2
      obtain ⟨HQ2, HF2⟩ := HH.out.q _ _ HI2.out
      have d3 := HQ2.c3
      have d4 := HQ2.c4
      have g4 := HF2 4
      have HLo := Lib.hid (HH.out.low _ _ HI2.out)
      clear HQ2 HF2
      go_wp2_with fail
      go_end0
      exact SpOut.ok (Lib.hid (by simp [spellM, HK.out, E1.out, E2.out])) rfl HLo.out

set_option maxRecDepth 100000 in
set_option maxHeartbeats 4000000 in
theorem spellR_2 {I : World → SpS → Prop} {J : World → Prop} {a : Addr} {b : Nat} {pw' pn' : Addr} {sw : SpS → List UInt8 → Option SpS} {sn : SpS → Nat → Option SpS} (H : SpCloR I J a b pw' pn' sw sn) (w : World) (s : SpS) (hI : I w s) (hk : s.q.kind = 2) :
    Calls Tryd.prog 18 #[.pointer (some ⟨b, 0, none⟩), .func (.func 43) #[] #[.pointer (some pw')], .func (.func 45) #[] #[.pointer (some pn')]] w (SpOut I J a (spellM sw sn s)) := by
  have HH := Lib.hid H
  clear H

  have HK := Lib.hid hk
  have HI0 := Lib.hid hI
  obtain ⟨HQ, _⟩ := HH.out.q w s hI
  have c0 := HQ.c0
  clear HQ hI
  rw [hk] at c0
  clear hk
  go_enter Tryd.func18, Tryd.ntmps18
  have HC1 := Lib.hid (HH.out.num _ _ 1 HI0.out (by decide))
  cases h1 : sn s 1 with
  | none =>
    have E1 := Lib.hid h1
    rw [E1.out] at HC1
    clear h1
    go_wp2_with fail
    (with_reducible refine HC1.out.mono ?_)
    rintro e w' ⟨rfl, hj⟩
    have HJ := Lib.hid hj
    clear hj
    go_wp2_with fail
    exact ⟨rfl, SpOut.no (Lib.hid (by simp [spellM, spell4, HK.out, E1.out])) rfl HJ.out⟩
  | some s1 =>
    have E1 := Lib.hid h1
    have K1 := Lib.hid ((HH.out.kn _ _ _ (by decide) h1))
    rw [E1.out] at HC1
    clear h1
    go_wp2_with fail
    (with_reducible refine HC1.out.mono ?_)
    rintro e w1 ⟨rfl, hi1⟩
    have HI1 := Lib.hid hi1
    clear hi1
    have HC2 := Lib.hid (HH.out.num _ _ 2 HI1.out (by decide))
    cases h2 : sn s1 2 with
    | none =>
      have E2 := Lib.hid h2
      rw [E2.out] at HC2
      clear h2
      go_wp2_with fail
      (with_reducible refine HC2.out.mono ?_)
      rintro e w' ⟨rfl, hj⟩
      have HJ := Lib.hid hj
      clear hj
      go_wp2_with fail
      exact ⟨rfl, SpOut.no (Lib.hid (by simp [spellM, spell4, HK.out, E1.out, E2.out])) rfl HJ.out⟩
    | some s2 =>
      have E2 := Lib.hid h2
      have K2 := Lib.hid ((HH.out.kn _ _ _ (by decide) h2).trans K1.out)
      rw [E2.out] at HC2
      clear h2
      go_wp2_with fail
      (with_reducible refine HC2.out.mono ?_)
      rintro e w2 ⟨rfl, hi2⟩
      have HI2 := Lib.hid hi2
      clear hi2
      have HC3 := Lib.hid (HH.out.num _ _ 3 HI2.out (by decide))
      cases h3 : sn s2 3 with
      | none =>
        have E3 := Lib.hid h3
        rw [E3.out] at HC3
        clear h3
        go_wp2_with fail
        (with_reducible refine HC3.out.mono ?_)
        rintro e w' ⟨rfl, hj⟩
        have HJ := Lib.hid hj
        clear hj
        go_wp2_with fail
        exact ⟨rfl, SpOut.no (Lib.hid (by simp [spellM, spell4, HK.out, E1.out, E2.out, E3.out])) rfl HJ.out⟩
      | some s3 =>
        have E3 := Lib.hid h3
        have K3 := Lib.hid ((HH.out.kn _ _ _ (by decide) h3).trans K2.out)
        rw [E3.out] at HC3
        clear h3
        go_wp2_with fail
        (with_reducible refine HC3.out.mono ?_)
        rintro e w3 ⟨rfl, hi3⟩
        have HI3 := Lib.hid hi3
        clear hi3
        have HC4 := Lib.hid (HH.out.num _ _ 4 HI3.out (by decide))
        cases h4 : sn s3 4 with
        | none =>
          have E4 := Lib.hid h4
          rw [E4.out] at HC4
          clear h4
          go_wp2_with fail
          (with_reducible refine HC4.out.mono ?_)
          rintro e w' ⟨rfl, hj⟩
          have HJ := Lib.hid hj
          clear hj
          go_wp2_with fail
          exact ⟨rfl, SpOut.no (Lib.hid (by simp [spellM, spell4, HK.out, E1.out, E2.out, E3.out, E4.out])) rfl HJ.out⟩
        | some s4 =>
          have E4 := Lib.hid h4
          have K4 := Lib.hid ((HH.out.kn _ _ _ (by decide) h4).trans K3.out)
          rw [E4.out] at HC4
          clear h4
          go_wp2_with fail
          (with_reducible refine HC4.out.mono ?_)
          rintro e w4 ⟨rfl, hi4⟩
          have HI4 := Lib.hid hi4
          clear hi4
          go_wp2_with fail
          go_end0
          exact SpOut.ok (Lib.hid (by simp [spellM, spell4, HK.out, E1.out, E2.out, E3.out, E4.out])) rfl HI4.out

set_option maxRecDepth 100000 in
set_option maxHeartbeats 4000000 in
theorem spellR_3 {I : World → SpS → Prop} {J : World → Prop} {a : Addr} {b : Nat} {pw' pn' : Addr} {sw : SpS → List UInt8 → Option SpS} {sn : SpS → Nat → Option SpS} (H : SpCloR I J a b pw' pn' sw sn) (w : World) (s : SpS) (hI : I w s) (hk : s.q.kind = 3) :
    Calls Tryd.prog 18 #[.pointer (some ⟨b, 0, none⟩), .func (.func 43) #[] #[.pointer (some pw')], .func (.func 45) #[] #[.pointer (some pn')]] w (SpOut I J a (spellM sw sn s)) := by
  have HH := Lib.hid H
  clear H

  have HK := Lib.hid hk
  have HI0 := Lib.hid hI
  obtain ⟨HQ, _⟩ := HH.out.q w s hI
  have c0 := HQ.c0
  clear HQ hI
  rw [hk] at c0
  clear hk
  go_enter Tryd.func18, Tryd.ntmps18
  have HC1 := Lib.hid (HH.out.num _ _ 1 HI0.out (by decide))
  cases h1 : sn s 1 with
  | none =>
    have E1 := Lib.hid h1
    rw [E1.out] at HC1
    clear h1
    go_wp2_with fail
    (with_reducible refine HC1.out.mono ?_)
    rintro e w' ⟨rfl, hj⟩
    have HJ := Lib.hid hj
    clear hj
    go_wp2_with fail
    exact ⟨rfl, SpOut.no (Lib.hid (by simp [spellM, spell4, HK.out, E1.out])) rfl HJ.out⟩
  | some s1 =>
    have E1 := Lib.hid h1
    have K1 := Lib.hid ((HH.out.kn _ _ _ (by decide) h1))
    rw [E1.out] at HC1
    clear h1
    go_wp2_with fail
    (with_reducible refine HC1.out.mono ?_)
    rintro e w1 ⟨rfl, hi1⟩
    have HI1 := Lib.hid hi1
    clear hi1
    have HC2 := Lib.hid (HH.out.num _ _ 2 HI1.out (by decide))
    cases h2 : sn s1 2 with
    | none =>
      have E2 := Lib.hid h2
      rw [E2.out] at HC2
      clear h2
      go_wp2_with fail
      (with_reducible refine HC2.out.mono ?_)
      rintro e w' ⟨rfl, hj⟩
      have HJ := Lib.hid hj
      clear hj
      go_wp2_with fail
      exact ⟨rfl, SpOut.no (Lib.hid (by simp [spellM, spell4, HK.out, E1.out, E2.out])) rfl HJ.out⟩
    | some s2 =>
      have E2 := Lib.hid h2
      have K2 := Lib.hid ((HH.out.kn _ _ _ (by decide) h2).trans K1.out)
      rw [E2.out] at HC2
      clear h2
      go_wp2_with fail
      (with_reducible refine HC2.out.mono ?_)
      rintro e w2 ⟨rfl, hi2⟩
      have HI2 := Lib.hid hi2
      clear hi2
      have HC3 := Lib.hid (HH.out.num _ _ 3 HI2.out (by decide))
      cases h3 : sn s2 3 with
      | none =>
        have E3 := Lib.hid h3
        rw [E3.out] at HC3
        clear h3
        go_wp2_with fail
        (with_reducible refine HC3.out.mono ?_)
        rintro e w' ⟨rfl, hj⟩
        have HJ := Lib.hid hj
        clear hj
        go_wp2_with fail
        exact ⟨rfl, SpOut.no (Lib.hid (by simp [spellM, spell4, HK.out, E1.out, E2.out, E3.out])) rfl HJ.out⟩
      | some s3 =>
        have E3 := Lib.hid h3
        have K3 := Lib.hid ((HH.out.kn _ _ _ (by decide) h3).trans K2.out)
        rw [E3.out] at HC3
        clear h3
        go_wp2_with fail
        (with_reducible refine HC3.out.mono ?_)
        rintro e w3 ⟨rfl, hi3⟩
        have HI3 := Lib.hid hi3
        clear hi3
        have HC4 := Lib.hid (HH.out.num _ _ 4 HI3.out (by decide))
        cases h4 : sn s3 4 with
        | none =>
          have E4 := Lib.hid h4
          rw [E4.out] at HC4
          clear h4
          go_wp2_with fail
          (with_reducible refine HC4.out.mono ?_)
          rintro e w' ⟨rfl, hj⟩
          have HJ := Lib.hid hj
          clear hj
          go_wp2_with fail
          exact ⟨rfl, SpOut.no (Lib.hid (by simp [spellM, spell4, HK.out, E1.out, E2.out, E3.out, E4.out])) rfl HJ.out⟩
        | some s4 =>
          have E4 := Lib.hid h4
          have K4 := Lib.hid ((HH.out.kn _ _ _ (by decide) h4).trans K3.out)
          rw [E4.out] at HC4
          clear h4
          go_wp2_with fail
          (with_reducible refine HC4.out.mono ?_)
          rintro e w4 ⟨rfl, hi4⟩
          have HI4 := Lib.hid hi4
          clear hi4
          go_wp2_with fail
          go_end0
          exact SpOut.ok (Lib.hid (by simp [spellM, spell4, HK.out, E1.out, E2.out, E3.out, E4.out])) rfl HI4.out

set_option maxRecDepth 100000 in
set_option maxHeartbeats 4000000 in
theorem spellR_4 {I : World → SpS → Prop} {J : World → Prop} {a : Addr} {b : Nat} {pw' pn' : Addr} {sw : SpS → List UInt8 → Option SpS} {sn : SpS → Nat → Option SpS} (H : SpCloR I J a b pw' pn' sw sn) (w : World) (s : SpS) (hI : I w s) (hk : s.q.kind = 4) :
    Calls Tryd.prog 18 #[.pointer (some ⟨b, 0, none⟩), .func (.func 43) #[] #[.pointer (some pw')], .func (.func 45) #[] #[.pointer (some pn')]] w (SpOut I J a (spellM sw sn s)) := by
  have HH := Lib.hid H
  clear H

  have HK := Lib.hid hk
  have HI0 := Lib.hid hI
  obtain ⟨HQ, _⟩ := HH.out.q w s hI
  have c0 := HQ.c0
  clear HQ hI
  rw [hk] at c0
  clear hk
  go_enter Tryd.func18, Tryd.ntmps18
  have HC1 := Lib.hid (HH.out.num _ _ 5 HI0.out (by decide))
  cases h1 : sn s 5 with
  | none =>
    have E1 := Lib.hid h1
    rw [E1.out] at HC1
    clear h1
    go_wp2_with fail
    (with_reducible refine HC1.out.mono ?_)
    rintro e w' ⟨rfl, hj⟩
    have HJ := Lib.hid hj
    clear hj
    go_wp2_with fail
    exact ⟨rfl, SpOut.no (Lib.hid (by simp [spellM, spell4, HK.out, E1.out])) rfl HJ.out⟩
  | some s1 =>
    have E1 := Lib.hid h1
    have K1 := Lib.hid ((HH.out.kn _ _ _ (by decide) h1))
    rw [E1.out] at HC1
    clear h1
    go_wp2_with fail
    (with_reducible refine HC1.out.mono ?_)
    rintro e w1 ⟨rfl, hi1⟩
    have HI1 := Lib.hid hi1
    clear hi1
    obtain ⟨HQ1, _⟩ := HH.out.q _ _ HI1.out
    have c01 := HQ1.c0
    rw [K1.out, HK.out] at c01
    clear HQ1
    have HC2 := Lib.hid (HH.out.word _ _ wOf HI1.out)
    rw [eOfR] at HC2
    cases h2 : sw s1 wOf with
    | none =>
      have E2 := Lib.hid h2
      rw [E2.out] at HC2
      clear h2
      go_wp2_with fail
      (with_reducible refine HC2.out.mono ?_)
      rintro e w' ⟨rfl, hj⟩
      have HJ := Lib.hid hj
      clear hj
      go_wp2_with fail
      exact ⟨rfl, SpOut.no (Lib.hid (by simp [spellM, spell4, HK.out, E1.out, E2.out])) rfl HJ.out⟩
    | some s2 =>
      have E2 := Lib.hid h2
      have K2 := Lib.hid ((HH.out.kw _ _ _ h2).trans K1.out)
      rw [E2.out] at HC2
      clear h2
      go_wp2_with fail
      (with_reducible refine HC2.out.mono ?_)
      rintro e w2 ⟨rfl, hi2⟩
      have HI2 := Lib.hid hi2
      clear hi2
      have HC3 := Lib.hid (HH.out.num _ _ 1 HI2.out (by decide))
      cases h3 : sn s2 1 with
      | none =>
        have E3 := Lib.hid h3
        rw [E3.out] at HC3
        clear h3
        go_wp2_with fail
        (with_reducible refine HC3.out.mono ?_)
        rintro e w' ⟨rfl, hj⟩
        have HJ := Lib.hid hj
        clear hj
        go_wp2_with fail
        exact ⟨rfl, SpOut.no (Lib.hid (by simp [spellM, spell4, HK.out, E1.out, E2.out, E3.out])) rfl HJ.out⟩
      | some s3 =>
        have E3 := Lib.hid h3
        have K3 := Lib.hid ((HH.out.kn _ _ _ (by decide) h3).trans K2.out)
        rw [E3.out] at HC3
        clear h3
        go_wp2_with fail
        (with_reducible refine HC3.out.mono ?_)
        rintro e w3 ⟨rfl, hi3⟩
        have HI3 := Lib.hid hi3
        clear hi3
        have HC4 := Lib.hid (HH.out.num _ _ 2 HI3.out (by decide))
        cases h4 : sn s3 2 with
        | none =>
          have E4 := Lib.hid h4
          rw [E4.out] at HC4
          clear h4
          go_wp2_with fail
          (with_reducible refine HC4.out.mono ?_)
          rintro e w' ⟨rfl, hj⟩
          have HJ := Lib.hid hj
          clear hj
          go_wp2_with fail
          exact ⟨rfl, SpOut.no (Lib.hid (by simp [spellM, spell4, HK.out, E1.out, E2.out, E3.out, E4.out])) rfl HJ.out⟩
        | some s4 =>
          have E4 := Lib.hid h4
          have K4 := Lib.hid ((HH.out.kn _ _ _ (by decide) h4).trans K3.out)
          rw [E4.out] at HC4
          clear h4
          go_wp2_with fail
          (with_reducible refine HC4.out.mono ?_)
          rintro e w4 ⟨rfl, hi4⟩
          have HI4 := Lib.hid hi4
          clear hi4
          have HC5 := Lib.hid (HH.out.num _ _ 3 HI4.out (by decide))
          cases h5 : sn s4 3 with
          | none =>
            have E5 := Lib.hid h5
            rw [E5.out] at HC5
            clear h5
            go_wp2_with fail
            (with_reducible refine HC5.out.mono ?_)
            rintro e w' ⟨rfl, hj⟩
            have HJ := Lib.hid hj
            clear hj
            go_wp2_with fail
            exact ⟨rfl, SpOut.no (Lib.hid (by simp [spellM, spell4, HK.out, E1.out, E2.out, E3.out, E4.out, E5.out])) rfl HJ.out⟩
          | some s5 =>
            have E5 := Lib.hid h5
            have K5 := Lib.hid ((HH.out.kn _ _ _ (by decide) h5).trans K4.out)
            rw [E5.out] at HC5
            clear h5
            go_wp2_with fail
            (with_reducible refine HC5.out.mono ?_)
            rintro e w5 ⟨rfl, hi5⟩
            have HI5 := Lib.hid hi5
            clear hi5
            have HC6 := Lib.hid (HH.out.num _ _ 4 HI5.out (by decide))
            cases h6 : sn s5 4 with
            | none =>
              have E6 := Lib.hid h6
              rw [E6.out] at HC6
              clear h6
              go_wp2_with fail
              (with_reducible refine HC6.out.mono ?_)
              rintro e w' ⟨rfl, hj⟩
              have HJ := Lib.hid hj
              clear hj
              go_wp2_with fail
              exact ⟨rfl, SpOut.no (Lib.hid (by simp [spellM, spell4, HK.out, E1.out, E2.out, E3.out, E4.out, E5.out, E6.out])) rfl HJ.out⟩
            | some s6 =>
              have E6 := Lib.hid h6
              have K6 := Lib.hid ((HH.out.kn _ _ _ (by decide) h6).trans K5.out)
              rw [E6.out] at HC6
              clear h6
              go_wp2_with fail
              (with_reducible refine HC6.out.mono ?_)
              rintro e w6 ⟨rfl, hi6⟩
              have HI6 := Lib.hid hi6
              clear hi6
              go_wp2_with fail
              go_end0
              exact SpOut.ok (Lib.hid (by simp [spellM, spell4, HK.out, E1.out, E2.out, E3.out, E4.out, E5.out, E6.out])) rfl HI6.out

set_option maxRecDepth 100000 in
set_option maxHeartbeats 4000000 in
theorem spellR_5 {I : World → SpS → Prop} {J : World → Prop} {a : Addr} {b : Nat} {pw' pn' : Addr} {sw : SpS → List UInt8 → Option SpS} {sn : SpS → Nat → Option SpS} (H : SpCloR I J a b pw' pn' sw sn) (w : World) (s : SpS) (hI : I w s) (hk : s.q.kind = 5) :
    Calls Tryd.prog 18 #[.pointer (some ⟨b, 0, none⟩), .func (.func 43) #[] #[.pointer (some pw')], .func (.func 45) #[] #[.pointer (some pn')]] w (SpOut I J a (spellM sw sn s)) := by
  have HH := Lib.hid H
  clear H

  have HK := Lib.hid hk
  have HI0 := Lib.hid hI
  obtain ⟨HQ, _⟩ := HH.out.q w s hI
  have c0 := HQ.c0
  clear HQ hI
  rw [hk] at c0
  clear hk
  go_enter Tryd.func18, Tryd.ntmps18
  have HC1 := Lib.hid (HH.out.num _ _ 5 HI0.out (by decide))
  cases h1 : sn s 5 with
  | none =>
    have E1 := Lib.hid h1
    rw [E1.out] at HC1
    clear h1
    go_wp2_with fail
    (with_reducible refine HC1.out.mono ?_)
    rintro e w' ⟨rfl, hj⟩
    have HJ := Lib.hid hj
    clear hj
    go_wp2_with fail
    exact ⟨rfl, SpOut.no (Lib.hid (by simp [spellM, spell4, HK.out, E1.out])) rfl HJ.out⟩
  | some s1 =>
    have E1 := Lib.hid h1
    have K1 := Lib.hid ((HH.out.kn _ _ _ (by decide) h1))
    rw [E1.out] at HC1
    clear h1
    go_wp2_with fail
    (with_reducible refine HC1.out.mono ?_)
    rintro e w1 ⟨rfl, hi1⟩
    have HI1 := Lib.hid hi1
    clear hi1
    obtain ⟨HQ1, _⟩ := HH.out.q _ _ HI1.out
    have c01 := HQ1.c0
    rw [K1.out, HK.out] at c01
    clear HQ1
    have HC2 := Lib.hid (HH.out.word _ _ wOf HI1.out)
    rw [eOfR] at HC2
    cases h2 : sw s1 wOf with
    | none =>
      have E2 := Lib.hid h2
      rw [E2.out] at HC2
      clear h2
      go_wp2_with fail
      (with_reducible refine HC2.out.mono ?_)
      rintro e w' ⟨rfl, hj⟩
      have HJ := Lib.hid hj
      clear hj
      go_wp2_with fail
      exact ⟨rfl, SpOut.no (Lib.hid (by simp [spellM, spell4, HK.out, E1.out, E2.out])) rfl HJ.out⟩
    | some s2 =>
      have E2 := Lib.hid h2
      have K2 := Lib.hid ((HH.out.kw _ _ _ h2).trans K1.out)
      rw [E2.out] at HC2
      clear h2
      go_wp2_with fail
      (with_reducible refine HC2.out.mono ?_)
      rintro e w2 ⟨rfl, hi2⟩
      have HI2 := Lib.hid hi2
      clear hi2
      have HC3 := Lib.hid (HH.out.num _ _ 1 HI2.out (by decide))
      cases h3 : sn s2 1 with
      | none =>
        have E3 := Lib.hid h3
        rw [E3.out] at HC3
        clear h3
        go_wp2_with fail
        (with_reducible refine HC3.out.mono ?_)
        rintro e w' ⟨rfl, hj⟩
        have HJ := Lib.hid hj
        clear hj
        go_wp2_with fail
        exact ⟨rfl, SpOut.no (Lib.hid (by simp [spellM, spell4, HK.out, E1.out, E2.out, E3.out])) rfl HJ.out⟩
      | some s3 =>
        have E3 := Lib.hid h3
        have K3 := Lib.hid ((HH.out.kn _ _ _ (by decide) h3).trans K2.out)
        rw [E3.out] at HC3
        clear h3
        go_wp2_with fail
        (with_reducible refine HC3.out.mono ?_)
        rintro e w3 ⟨rfl, hi3⟩
        have HI3 := Lib.hid hi3
        clear hi3
        have HC4 := Lib.hid (HH.out.num _ _ 2 HI3.out (by decide))
        cases h4 : sn s3 2 with
        | none =>
          have E4 := Lib.hid h4
          rw [E4.out] at HC4
          clear h4
          go_wp2_with fail
          (with_reducible refine HC4.out.mono ?_)
          rintro e w' ⟨rfl, hj⟩
          have HJ := Lib.hid hj
          clear hj
          go_wp2_with fail
          exact ⟨rfl, SpOut.no (Lib.hid (by simp [spellM, spell4, HK.out, E1.out, E2.out, E3.out, E4.out])) rfl HJ.out⟩
        | some s4 =>
          have E4 := Lib.hid h4
          have K4 := Lib.hid ((HH.out.kn _ _ _ (by decide) h4).trans K3.out)
          rw [E4.out] at HC4
          clear h4
          go_wp2_with fail
          (with_reducible refine HC4.out.mono ?_)
          rintro e w4 ⟨rfl, hi4⟩
          have HI4 := Lib.hid hi4
          clear hi4
          have HC5 := Lib.hid (HH.out.num _ _ 3 HI4.out (by decide))
          cases h5 : sn s4 3 with
          | none =>
            have E5 := Lib.hid h5
            rw [E5.out] at HC5
            clear h5
            go_wp2_with fail
            (with_reducible refine HC5.out.mono ?_)
            rintro e w' ⟨rfl, hj⟩
            have HJ := Lib.hid hj
            clear hj
            go_wp2_with fail
            exact ⟨rfl, SpOut.no (Lib.hid (by simp [spellM, spell4, HK.out, E1.out, E2.out, E3.out, E4.out, E5.out])) rfl HJ.out⟩
          | some s5 =>
            have E5 := Lib.hid h5
            have K5 := Lib.hid ((HH.out.kn _ _ _ (by decide) h5).trans K4.out)
            rw [E5.out] at HC5
            clear h5
            go_wp2_with fail
            (with_reducible refine HC5.out.mono ?_)
            rintro e w5 ⟨rfl, hi5⟩
            have HI5 := Lib.hid hi5
            clear hi5
            have HC6 := Lib.hid (HH.out.num _ _ 4 HI5.out (by decide))
            cases h6 : sn s5 4 with
            | none =>
              have E6 := Lib.hid h6
              rw [E6.out] at HC6
              clear h6
              go_wp2_with fail
              (with_reducible refine HC6.out.mono ?_)
              rintro e w' ⟨rfl, hj⟩
              have HJ := Lib.hid hj
              clear hj
              go_wp2_with fail
              exact ⟨rfl, SpOut.no (Lib.hid (by simp [spellM, spell4, HK.out, E1.out, E2.out, E3.out, E4.out, E5.out, E6.out])) rfl HJ.out⟩
            | some s6 =>
              have E6 := Lib.hid h6
              have K6 := Lib.hid ((HH.out.kn _ _ _ (by decide) h6).trans K5.out)
              rw [E6.out] at HC6
              clear h6
              go_wp2_with fail
              (with_reducible refine HC6.out.mono ?_)
              rintro e w6 ⟨rfl, hi6⟩
              have HI6 := Lib.hid hi6
              clear hi6
              go_wp2_with fail
              go_end0
              exact SpOut.ok (Lib.hid (by simp [spellM, spell4, HK.out, E1.out, E2.out, E3.out, E4.out, E5.out, E6.out])) rfl HI6.out

set_option maxRecDepth 100000 in
set_option maxHeartbeats 4000000 in
theorem spellR_6 {I : World → SpS → Prop} {J : World → Prop} {a : Addr} {b : Nat} {pw' pn' : Addr} {sw : SpS → List UInt8 → Option SpS} {sn : SpS → Nat → Option SpS} (H : SpCloR I J a b pw' pn' sw sn) (w : World) (s : SpS) (hI : I w s) (hk : s.q.kind = 6) :
    Calls Tryd.prog 18 #[.pointer (some ⟨b, 0, none⟩), .func (.func 43) #[] #[.pointer (some pw')], .func (.func 45) #[] #[.pointer (some pn')]] w (SpOut I J a (spellM sw sn s)) := by
  have HH := Lib.hid H
  clear H

  have HK := Lib.hid hk
  have HI0 := Lib.hid hI
  obtain ⟨HQ, _⟩ := HH.out.q w s hI
  have c0 := HQ.c0
  clear HQ hI
  rw [hk] at c0
  clear hk
  go_enter Tryd.func18, Tryd.ntmps18
  have HC1 := Lib.hid (HH.out.num _ _ 5 HI0.out (by decide))
  cases h1 : sn s 5 with
  | none =>
    have E1 := Lib.hid h1
    rw [E1.out] at HC1
    clear h1
    go_wp2_with fail
    (with_reducible refine HC1.out.mono ?_)
    rintro e w' ⟨rfl, hj⟩
    have HJ := Lib.hid hj
    clear hj
    go_wp2_with fail
    exact ⟨rfl, SpOut.no (Lib.hid (by simp [spellM, spell4, HK.out, E1.out])) rfl HJ.out⟩
  | some s1 =>
    have E1 := Lib.hid h1
    have K1 := Lib.hid ((HH.out.kn _ _ _ (by decide) h1))
    rw [E1.out] at HC1
    clear h1
    go_wp2_with fail
    (with_reducible refine HC1.out.mono ?_)
    rintro e w1 ⟨rfl, hi1⟩
    have HI1 := Lib.hid hi1
    clear hi1
    obtain ⟨HQ1, _⟩ := HH.out.q _ _ HI1.out
    have c01 := HQ1.c0
    rw [K1.out, HK.out] at c01
    clear HQ1
    have HC2 := Lib.hid (HH.out.word _ _ wOf HI1.out)
    rw [eOfR] at HC2
    cases h2 : sw s1 wOf with
    | none =>
      have E2 := Lib.hid h2
      rw [E2.out] at HC2
      clear h2
      go_wp2_with fail
      (with_reducible refine HC2.out.mono ?_)
      rintro e w' ⟨rfl, hj⟩
      have HJ := Lib.hid hj
      clear hj
      go_wp2_with fail
      exact ⟨rfl, SpOut.no (Lib.hid (by simp [spellM, spell4, HK.out, E1.out, E2.out])) rfl HJ.out⟩
    | some s2 =>
      have E2 := Lib.hid h2
      have K2 := Lib.hid ((HH.out.kw _ _ _ h2).trans K1.out)
      rw [E2.out] at HC2
      clear h2
      go_wp2_with fail
      (with_reducible refine HC2.out.mono ?_)
      rintro e w2 ⟨rfl, hi2⟩
      have HI2 := Lib.hid hi2
      clear hi2
      have HC3 := Lib.hid (HH.out.num _ _ 1 HI2.out (by decide))
      cases h3 : sn s2 1 with
      | none =>
        have E3 := Lib.hid h3
        rw [E3.out] at HC3
        clear h3
        go_wp2_with fail
        (with_reducible refine HC3.out.mono ?_)
        rintro e w' ⟨rfl, hj⟩
        have HJ := Lib.hid hj
        clear hj
        go_wp2_with fail
        exact ⟨rfl, SpOut.no (Lib.hid (by simp [spellM, spell4, HK.out, E1.out, E2.out, E3.out])) rfl HJ.out⟩
      | some s3 =>
        have E3 := Lib.hid h3
        have K3 := Lib.hid ((HH.out.kn _ _ _ (by decide) h3).trans K2.out)
        rw [E3.out] at HC3
        clear h3
        go_wp2_with fail
        (with_reducible refine HC3.out.mono ?_)
        rintro e w3 ⟨rfl, hi3⟩
        have HI3 := Lib.hid hi3
        clear hi3
        have HC4 := Lib.hid (HH.out.num _ _ 2 HI3.out (by decide))
        cases h4 : sn s3 2 with
        | none =>
          have E4 := Lib.hid h4
          rw [E4.out] at HC4
          clear h4
          go_wp2_with fail
          (with_reducible refine HC4.out.mono ?_)
          rintro e w' ⟨rfl, hj⟩
          have HJ := Lib.hid hj
          clear hj
          go_wp2_with fail
          exact ⟨rfl, SpOut.no (Lib.hid (by simp [spellM, spell4, HK.out, E1.out, E2.out, E3.out, E4.out])) rfl HJ.out⟩
        | some s4 =>
          have E4 := Lib.hid h4
          have K4 := Lib.hid ((HH.out.kn _ _ _ (by decide) h4).trans K3.out)
          rw [E4.out] at HC4
          clear h4
          go_wp2_with fail
          (with_reducible refine HC4.out.mono ?_)
          rintro e w4 ⟨rfl, hi4⟩
          have HI4 := Lib.hid hi4
          clear hi4
          have HC5 := Lib.hid (HH.out.num _ _ 3 HI4.out (by decide))
          cases h5 : sn s4 3 with
          | none =>
            have E5 := Lib.hid h5
            rw [E5.out] at HC5
            clear h5
            go_wp2_with fail
            (with_reducible refine HC5.out.mono ?_)
            rintro e w' ⟨rfl, hj⟩
            have HJ := Lib.hid hj
            clear hj
            go_wp2_with fail
            exact ⟨rfl, SpOut.no (Lib.hid (by simp [spellM, spell4, HK.out, E1.out, E2.out, E3.out, E4.out, E5.out])) rfl HJ.out⟩
          | some s5 =>
            have E5 := Lib.hid h5
            have K5 := Lib.hid ((HH.out.kn _ _ _ (by decide) h5).trans K4.out)
            rw [E5.out] at HC5
            clear h5
            go_wp2_with fail
            (with_reducible refine HC5.out.mono ?_)
            rintro e w5 ⟨rfl, hi5⟩
            have HI5 := Lib.hid hi5
            clear hi5
            have HC6 := Lib.hid (HH.out.num _ _ 4 HI5.out (by decide))
            cases h6 : sn s5 4 with
            | none =>
              have E6 := Lib.hid h6
              rw [E6.out] at HC6
              clear h6
              go_wp2_with fail
              (with_reducible refine HC6.out.mono ?_)
              rintro e w' ⟨rfl, hj⟩
              have HJ := Lib.hid hj
              clear hj
              go_wp2_with fail
              exact ⟨rfl, SpOut.no (Lib.hid (by simp [spellM, spell4, HK.out, E1.out, E2.out, E3.out, E4.out, E5.out, E6.out])) rfl HJ.out⟩
            | some s6 =>
              have E6 := Lib.hid h6
              have K6 := Lib.hid ((HH.out.kn _ _ _ (by decide) h6).trans K5.out)
              rw [E6.out] at HC6
              clear h6
              go_wp2_with fail
              (with_reducible refine HC6.out.mono ?_)
              rintro e w6 ⟨rfl, hi6⟩
              have HI6 := Lib.hid hi6
              clear hi6
              go_wp2_with fail
              go_end0
              exact SpOut.ok (Lib.hid (by simp [spellM, spell4, HK.out, E1.out, E2.out, E3.out, E4.out, E5.out, E6.out])) rfl HI6.out

set_option maxRecDepth 100000 in
set_option maxHeartbeats 4000000 in
theorem spellR_7 {I : World → SpS → Prop} {J : World → Prop} {a : Addr} {b : Nat} {pw' pn' : Addr} {sw : SpS → List UInt8 → Option SpS} {sn : SpS → Nat → Option SpS} (H : SpCloR I J a b pw' pn' sw sn) (w : World) (s : SpS) (hI : I w s) (hk : s.q.kind = 7) :
    Calls Tryd.prog 18 #[.pointer (some ⟨b, 0, none⟩), .func (.func 43) #[] #[.pointer (some pw')], .func (.func 45) #[] #[.pointer (some pn')]] w (SpOut I J a (spellM sw sn s)) := by
  have HH := Lib.hid H
  clear H

  have HK := Lib.hid hk
  have HI0 := Lib.hid hI
  obtain ⟨HQ, _⟩ := HH.out.q w s hI
  have c0 := HQ.c0
  clear HQ hI
  rw [hk] at c0
  clear hk
  go_enter Tryd.func18, Tryd.ntmps18
  have HC1 := Lib.hid (HH.out.num _ _ 5 HI0.out (by decide))
  cases h1 : sn s 5 with
  | none =>
    have E1 := Lib.hid h1
    rw [E1.out] at HC1
    clear h1
    go_wp2_with fail
    (with_reducible refine HC1.out.mono ?_)
    rintro e w' ⟨rfl, hj⟩
    have HJ := Lib.hid hj
    clear hj
    go_wp2_with fail
    exact ⟨rfl, SpOut.no (Lib.hid (by simp [spellM, spell4, HK.out, E1.out])) rfl HJ.out⟩
  | some s1 =>
    have E1 := Lib.hid h1
    have K1 := Lib.hid ((HH.out.kn _ _ _ (by decide) h1))
    rw [E1.out] at HC1
    clear h1
    go_wp2_with fail
    (with_reducible refine HC1.out.mono ?_)
    rintro e w1 ⟨rfl, hi1⟩
    have HI1 := Lib.hid hi1
    clear hi1
    obtain ⟨HQ1, _⟩ := HH.out.q _ _ HI1.out
    have c01 := HQ1.c0
    rw [K1.out, HK.out] at c01
    clear HQ1
    have HC2 := Lib.hid (HH.out.word _ _ wTo HI1.out)
    rw [eToR] at HC2
    cases h2 : sw s1 wTo with
    | none =>
      have E2 := Lib.hid h2
      rw [E2.out] at HC2
      clear h2
      go_wp2_with fail
      (with_reducible refine HC2.out.mono ?_)
      rintro e w' ⟨rfl, hj⟩
      have HJ := Lib.hid hj
      clear hj
      go_wp2_with fail
      exact ⟨rfl, SpOut.no (Lib.hid (by simp [spellM, spell4, HK.out, E1.out, E2.out])) rfl HJ.out⟩
    | some s2 =>
      have E2 := Lib.hid h2
      have K2 := Lib.hid ((HH.out.kw _ _ _ h2).trans K1.out)
      rw [E2.out] at HC2
      clear h2
      go_wp2_with fail
      (with_reducible refine HC2.out.mono ?_)
      rintro e w2 ⟨rfl, hi2⟩
      have HI2 := Lib.hid hi2
      clear hi2
      have HC3 := Lib.hid (HH.out.num _ _ 6 HI2.out (by decide))
      cases h3 : sn s2 6 with
      | none =>
        have E3 := Lib.hid h3
        rw [E3.out] at HC3
        clear h3
        go_wp2_with fail
        (with_reducible refine HC3.out.mono ?_)
        rintro e w' ⟨rfl, hj⟩
        have HJ := Lib.hid hj
        clear hj
        go_wp2_with fail
        exact ⟨rfl, SpOut.no (Lib.hid (by simp [spellM, spell4, HK.out, E1.out, E2.out, E3.out])) rfl HJ.out⟩
      | some s3 =>
        have E3 := Lib.hid h3
        have K3 := Lib.hid ((HH.out.kn _ _ _ (by decide) h3).trans K2.out)
        rw [E3.out] at HC3
        clear h3
        go_wp2_with fail
        (with_reducible refine HC3.out.mono ?_)
        rintro e w3 ⟨rfl, hi3⟩
        have HI3 := Lib.hid hi3
        clear hi3
        have HC4 := Lib.hid (HH.out.word _ _ wOf HI3.out)
        rw [eOfR] at HC4
        cases h4 : sw s3 wOf with
        | none =>
          have E4 := Lib.hid h4
          rw [E4.out] at HC4
          clear h4
          go_wp2_with fail
          (with_reducible refine HC4.out.mono ?_)
          rintro e w' ⟨rfl, hj⟩
          have HJ := Lib.hid hj
          clear hj
          go_wp2_with fail
          exact ⟨rfl, SpOut.no (Lib.hid (by simp [spellM, spell4, HK.out, E1.out, E2.out, E3.out, E4.out])) rfl HJ.out⟩
        | some s4 =>
          have E4 := Lib.hid h4
          have K4 := Lib.hid ((HH.out.kw _ _ _ h4).trans K3.out)
          rw [E4.out] at HC4
          clear h4
          go_wp2_with fail
          (with_reducible refine HC4.out.mono ?_)
          rintro e w4 ⟨rfl, hi4⟩
          have HI4 := Lib.hid hi4
          clear hi4
          have HC5 := Lib.hid (HH.out.num _ _ 1 HI4.out (by decide))
          cases h5 : sn s4 1 with
          | none =>
            have E5 := Lib.hid h5
            rw [E5.out] at HC5
            clear h5
            go_wp2_with fail
            (with_reducible refine HC5.out.mono ?_)
            rintro e w' ⟨rfl, hj⟩
            have HJ := Lib.hid hj
            clear hj
            go_wp2_with fail
            exact ⟨rfl, SpOut.no (Lib.hid (by simp [spellM, spell4, HK.out, E1.out, E2.out, E3.out, E4.out, E5.out])) rfl HJ.out⟩
          | some s5 =>
            have E5 := Lib.hid h5
            have K5 := Lib.hid ((HH.out.kn _ _ _ (by decide) h5).trans K4.out)
            rw [E5.out] at HC5
            clear h5
            go_wp2_with fail
            (with_reducible refine HC5.out.mono ?_)
            rintro e w5 ⟨rfl, hi5⟩
            have HI5 := Lib.hid hi5
            clear hi5
            have HC6 := Lib.hid (HH.out.num _ _ 2 HI5.out (by decide))
            cases h6 : sn s5 2 with
            | none =>
              have E6 := Lib.hid h6
              rw [E6.out] at HC6
              clear h6
              go_wp2_with fail
              (with_reducible refine HC6.out.mono ?_)
              rintro e w' ⟨rfl, hj⟩
              have HJ := Lib.hid hj
              clear hj
              go_wp2_with fail
              exact ⟨rfl, SpOut.no (Lib.hid (by simp [spellM, spell4, HK.out, E1.out, E2.out, E3.out, E4.out, E5.out, E6.out])) rfl HJ.out⟩
            | some s6 =>
              have E6 := Lib.hid h6
              have K6 := Lib.hid ((HH.out.kn _ _ _ (by decide) h6).trans K5.out)
              rw [E6.out] at HC6
              clear h6
              go_wp2_with fail
              (with_reducible refine HC6.out.mono ?_)
              rintro e w6 ⟨rfl, hi6⟩
              have HI6 := Lib.hid hi6
              clear hi6
              have HC7 := Lib.hid (HH.out.num _ _ 3 HI6.out (by decide))
              cases h7 : sn s6 3 with
              | none =>
                have E7 := Lib.hid h7
                rw [E7.out] at HC7
                clear h7
                go_wp2_with fail
                (with_reducible refine HC7.out.mono ?_)
                rintro e w' ⟨rfl, hj⟩
                have HJ := Lib.hid hj
                clear hj
                go_wp2_with fail
                exact ⟨rfl, SpOut.no (Lib.hid (by simp [spellM, spell4, HK.out, E1.out, E2.out, E3.out, E4.out, E5.out, E6.out, E7.out])) rfl HJ.out⟩
              | some s7 =>
                have E7 := Lib.hid h7
                have K7 := Lib.hid ((HH.out.kn _ _ _ (by decide) h7).trans K6.out)
                rw [E7.out] at HC7
                clear h7
                go_wp2_with fail
                (with_reducible refine HC7.out.mono ?_)
                rintro e w7 ⟨rfl, hi7⟩
                have HI7 := Lib.hid hi7
                clear hi7
                have HC8 := Lib.hid (HH.out.num _ _ 4 HI7.out (by decide))
                cases h8 : sn s7 4 with
                | none =>
                  have E8 := Lib.hid h8
                  rw [E8.out] at HC8
                  clear h8
                  go_wp2_with fail
                  (with_reducible refine HC8.out.mono ?_)
                  rintro e w' ⟨rfl, hj⟩
                  have HJ := Lib.hid hj
                  clear hj
                  go_wp2_with fail
                  exact ⟨rfl, SpOut.no (Lib.hid (by simp [spellM, spell4, HK.out, E1.out, E2.out, E3.out, E4.out, E5.out, E6.out, E7.out, E8.out])) rfl HJ.out⟩
                | some s8 =>
                  have E8 := Lib.hid h8
                  have K8 := Lib.hid ((HH.out.kn _ _ _ (by decide) h8).trans K7.out)
                  rw [E8.out] at HC8
                  clear h8
                  go_wp2_with fail
                  (with_reducible refine HC8.out.mono ?_)
                  rintro e w8 ⟨rfl, hi8⟩
                  have HI8 := Lib.hid hi8
                  clear hi8
                  go_wp2_with fail
                  go_end0
                  exact SpOut.ok (Lib.hid (by simp [spellM, spell4, HK.out, E1.out, E2.out, E3.out, E4.out, E5.out, E6.out, E7.out, E8.out])) rfl HI8.out

set_option maxRecDepth 100000 in
set_option maxHeartbeats 4000000 in
theorem spellR_no {I : World → SpS → Prop} {J : World → Prop} {a : Addr} {b : Nat} {pw' pn' : Addr} {sw : SpS → List UInt8 → Option SpS} {sn : SpS → Nat → Option SpS} (H : SpCloR I J a b pw' pn' sw sn) (w : World) (s : SpS) (hI : I w s) (hk : ¬ (1 ≤ s.q.kind ∧ s.q.kind ≤ 7)) :
    Calls Tryd.prog 18 #[.pointer (some ⟨b, 0, none⟩), .func (.func 43) #[] #[.pointer (some pw')], .func (.func 45) #[] #[.pointer (some pn')]] w (SpOut I J a (spellM sw sn s)) := by
  have HH := Lib.hid H
  clear H

  have HK := Lib.hid hk
  have HI0 := Lib.hid hI
  obtain ⟨HQ, _⟩ := HH.out.q w s hI
  have c0 := HQ.c0
  clear HQ hI
  have HS : Hid (spellM sw sn s = some s) := Lib.hid (by
    have e1 : ¬ s.q.kind = 1 := by omega
    have e2 : ¬ (s.q.kind = 2 ∨ s.q.kind = 3) := by omega
    have e3 : ¬ (s.q.kind = 4 ∨ s.q.kind = 5 ∨ s.q.kind = 6) := by omega
    have e4 : ¬ s.q.kind = 7 := by omega
    simp [spellM, e1, e2, e3, e4])
  obtain ⟨k, Hk⟩ : ∃ k, Hid (s.q.kind = k) := ⟨_, Lib.hid rfl⟩
  rw [Hk.out] at c0 hk
  have k1 := ne_beq (show ¬ k = 1 by omega)
  have k2 := ne_beq (show ¬ k = 2 by omega)
  have k3 := ne_beq (show ¬ k = 3 by omega)
  have k4 := ne_beq (show ¬ k = 4 by omega)
  have k5 := ne_beq (show ¬ k = 5 by omega)
  have k6 := ne_beq (show ¬ k = 6 by omega)
  have k7 := ne_beq (show ¬ k = 7 by omega)
  clear hk
  go_enter Tryd.func18, Tryd.ntmps18
  go_wp2_with fail
  go_end0
  exact SpOut.ok HS rfl HI0.out

/-- **spell.** -/
theorem spellR_any {I : World → SpS → Prop} {J : World → Prop} {a : Addr} {b : Nat} {pw' pn' : Addr} {sw : SpS → List UInt8 → Option SpS} {sn : SpS → Nat → Option SpS} (H : SpCloR I J a b pw' pn' sw sn) (w : World) (s : SpS) (hI : I w s) :
    Calls Tryd.prog 18 #[.pointer (some ⟨b, 0, none⟩), .func (.func 43) #[] #[.pointer (some pw')], .func (.func 45) #[] #[.pointer (some pn')]] w (SpOut I J a (spellM sw sn s)) := by
  by_cases h : 1 ≤ s.q.kind ∧ s.q.kind ≤ 7
  · rcases (by omega : s.q.kind = 1 ∨ s.q.kind = 2 ∨ s.q.kind = 3 ∨ s.q.kind = 4 ∨ s.q.kind = 5 ∨ s.q.kind = 6 ∨ s.q.kind = 7) with h | h | h | h | h | h | h
    · exact spellR_1 H w s hI h
    · exact spellR_2 H w s hI h
    · exact spellR_3 H w s hI h
    · exact spellR_4 H w s hI h
    · exact spellR_5 H w s hI h
    · exact spellR_6 H w s hI h
    · exact spellR_7 H w s hI h
  · exact spellR_no H w s hI h
end Go.Proofs.YtmjcjgmmolmibaaDoor
