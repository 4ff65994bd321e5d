/- StoreMatchesReference: whatever the log and the records, the function answers true: the state agrees with the reference record by record, and it leaves its arguments as they were. -/
import Derived.Test.YtaapggeaoacikaaF0
import Derived.Test.YtaapggeaoacikaaT3
import Derived.Test.YtaapggeaoacikaaF3
import Derived.Test.YtaapggeaoacikaaXA
set_option linter.unusedVariables false
set_option linter.unusedSimpArgs false
namespace Go.Proofs.Ytaapggeaoacikaa
open Go.ChangeShapes Go.WideShapes Go.ChangeAt Go.RowKit

set_option maxRecDepth 100000 in
theorem storeMatchesReference_lifted (os : Os) (started : os.Started) (H : Type) (enc : TypeId × Value → H) :
    ReturnsInHanded {} Try.checked os 3 .any (Rows.storeMatchesReferenceSpec.pre6 enc Try.prog Try.f3 Rows.storeMatchesReferenceRow.domain false) (Rows.storeMatchesReferenceSpec.post enc Try.prog Try.f3 false true false false) := by
  refine returnsInHanded_of_change (C := Try.checked) own started (by kernel_rfl) Try.func3
    (ChangeSpec.witness6 (enc := enc) (C := Try.checked) false ⟨#[], #[.slice none 0 0, .slice none 0 0], []⟩ 8 (by kernel_rfl) (by kernel_rfl) (by kernel_rfl) (by kernel_rfl)) ?_
  intro W base args ds gs before hval0 hW hcnd _
  have hval : ∀ (j : Nat) t v, Try.f3.params[j]? = some t → args[j]? = some v → Value.okWide Try.prog W .any base t v := hval0
  have hW' := hW
  obtain ⟨p, q, hA0, hV, rfl, hfz, hnd⟩ := hW
  have hA : DataW.TrodAll enc Try.prog W 0 (fun _ => true) true Try.f3.params.toList args.toList ds p := hA0
  rw [Try.params3] at hA hval
  obtain ⟨v0, vs0, d0, ds0, p0, q0, hargs, rfl, rfl, h0, r0⟩ := trodAll_cons hA
  obtain ⟨v1, vs1, d1, ds1, p1, q1, rfl, rfl, rfl, h1, r1⟩ := trodAll_cons r0
  obtain ⟨rfl, rfl, rfl⟩ := trodAll_nil r1
  obtain rfl : args = #[v0, v1] := by cases args; simp_all
  obtain ⟨n0, x0⟩ := open_xs (hval 0 22 v0 rfl rfl) h0
  obtain ⟨R1, x1⟩ := open_recs (hval 1 23 v1 rfl rfl) h1
  refine (storeMatches_of logWalked x0 x1).mono fun e W' ⟨he, hb⟩ => ?_
  subst he
  exact ⟨_, rfl, law_post 4 (by kernel_rfl) ⟨rfl, fun H ds hd => by
    rw [Try.params3] at hd
    obtain ⟨e0, e1, rfl⟩ := len2 hd
    rfl⟩ (by kernel_rfl) (by kernel_rfl) Try.underlying4 hW' hb⟩
theorem storeMatchesReference_holds : Rows.StoreMatchesReferenceSaid :=
  OpenClaim.holds_of_wide 3 Try.f3 rfl rfl rfl rfl rfl rfl rfl ⟨rfl, rfl, rfl, rfl, rfl⟩ rfl rfl rfl rfl rfl (by kernel_rfl) Try.func3 (by kernel_rfl)
    (of_decide_eq_true (by kernel_rfl)) (by unfold Func.isWrapper; first | (rw [if_pos (by decide +kernel)]; kernel_rfl) | (rw [if_neg (by decide +kernel)]; exact ⟨rfl, rfl⟩))
    (fun os started H enc _ => storeMatchesReference_lifted os started H enc)
end Go.Proofs.Ytaapggeaoacikaa
