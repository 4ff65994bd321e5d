/- WALKS: readChange. -/
import Derived.Test.YtgkdliocfnoffaaDoorR3a
import Derived.Test.YtgkdliocfnoffaaDoorR3b
import Derived.Test.YtgkdliocfnoffaaDoorR3c
import Derived.Test.YtgkdliocfnoffaaDoorR3d
set_option linter.unusedVariables false
namespace Go.Proofs.YtgkdliocfnoffaaDoor
open Go.RowKit Go.Sort

theorem readChange_any (s : ByteArray) (rb k : Nat) (a0 a1 : Addr) (w : World) (hs : s.size ≤ maxLen) (hk : k ≤ s.size) (hr : RdAt w rb s k) (hg : w.cell? ⟨0, 0, none⟩ = some (errV a0)) (hg1 : w.cell? ⟨1, 0, none⟩ = some (errV a1)) (h0 : 1 < rb) :
    Calls Tryd.prog 64 #[nextV rb] w (ROut s rb a0 a1 w chV (rdCh.run s.data.toList k)) := by
  by_cases h : ∃ t m1 q m2 m m3, decInt (s.data.toList.drop k) = some (t, m1) ∧ decInt (s.data.toList.drop (k + m1)) = some (q, m2) ∧ decInt (s.data.toList.drop (k + m1 + m2)) = some (m, m3) ∧ ¬ (m < 1 ∨ 3 < m)
  · obtain ⟨t, m1, q, m2, m, m3, h1, h2, h3, hm⟩ := h
    have : m = 1 ∨ m = 2 ∨ m = 3 := by omega
    rcases this with rfl | rfl | rfl
    · exact readChange_1 s rb k a0 a1 w hs hk hr hg hg1 h0 h1 h2 h3
    · exact readChange_2 s rb k a0 a1 w hs hk hr hg hg1 h0 h1 h2 h3
    · exact readChange_3 s rb k a0 a1 w hs hk hr hg hg1 h0 h1 h2 h3
  · exact readChange_early s rb k a0 a1 w hs hk hr hg hg1 h0 (fun t m1 q m2 m m3 h1 h2 h3 => by
      by_cases hm : m < 1 ∨ 3 < m
      · exact hm
      · exact absurd ⟨t, m1, q, m2, m, m3, h1, h2, h3, hm⟩ h)
end Go.Proofs.YtgkdliocfnoffaaDoor
