/- WALKS: the law's log, given what the reference's Log does. -/
import Derived.Test.YtaapggeaoacikaaX8b
set_option linter.unusedVariables false
set_option linter.unusedSimpArgs false
namespace Go.Proofs.Ytaapggeaoacikaa
open Go.RowKit Go.Sort Go.ChangeMaps Go.MapKept

/-- A slice that reads as n lists of six integers. -/
def XS (w : World) (v : Value) (n : Nat) : Prop :=
  ∃ a cap, v = .slice a n cap ∧ n ≤ cap ∧ cap ≤ 9223372036854775807 ∧ (1 ≤ n → ∃ b o, a = some ⟨b, o, none⟩ ∧ b < w.heap.size ∧ ∀ i j, i < n → j < 6 → ∃ z, I64 z ∧ w.cell? ⟨b, o + i * 6 + j, none⟩ = some (.int .i64 z))
/-- The changes that Log makes. -/
def Small (c : MCh) : Prop := 0 ≤ c.t ∧ c.t ≤ 2 ∧ 1 ≤ c.k ∧ c.k ≤ 9 ∧ 0 ≤ c.n.a ∧ c.n.a ≤ 9
/-- What Log returns. -/
def LogOut (W : World) (n : Nat) (e : Ending) (w' : World) : Prop :=
  ∃ R u, e = .returned u ∧ RecS w' u R ∧ Chn R ∧ R.length ≤ n ∧ (∀ r ∈ R, ∀ c ∈ r.chs, Small c) ∧ Below W.heap.size W w'
/-- What is still to be walked: the reference's Log. -/
def LogWalked : Prop := ∀ (W : World) (v : Value) (n : Nat), XS W v n → n ≤ 1000 → Calls Try.prog 33 #[v] W (LogOut W n)
theorem XS.take {w : World} {v : Value} {n : Nat} (h : XS w v n) (m : Nat) (hm : m ≤ n) : ∃ a cap, v = .slice a n cap ∧ XS w (.slice a m cap) m := by
  obtain ⟨a, cap, e, h1, h2, h3⟩ := h
  refine ⟨a, cap, e, a, cap, rfl, by omega, h2, fun hh => ?_⟩
  obtain ⟨b, o, e1, hb, hc⟩ := h3 (by omega)
  exact ⟨b, o, e1, hb, fun i j hi hj => hc i j (by omega) hj⟩

set_option maxRecDepth 100000 in
theorem lawLog_of (H : LogWalked) {W : World} {v : Value} {n : Nat} (h : XS W v n) : Calls Try.prog 12 #[v] W (LogOut W 30) := by
  by_cases hn : n ≤ 30
  · have H1 := Lib.hid (H W v n h (by omega))
    obtain ⟨a, cap, rfl, h1, h2, _⟩ := h
    have hmin : min (n : Int) 30 = n := by omega
    go_enter Try.func12, Try.ntmps12
    go_wp2_with fail
    (with_reducible refine H1.out.mono ?_)
    rintro e w1 ⟨R, u, rfl, h3, h4, h5, h6, h7⟩
    have HO : Hid (LogOut W 30 (.returned u) w1) := Lib.hid ⟨R, u, rfl, h3, h4, by omega, h6, h7⟩
    clear h3 h4 h5 h6 h7
    go_wp2_with fail
    go_ret
    exact HO.out
  · obtain ⟨a, cap, rfl, hx⟩ := h.take 30 (by omega)
    have H1 := Lib.hid (H W _ 30 hx (by omega))
    obtain ⟨_, _, e, h1, h2, _⟩ := h
    have hmin : min (n : Int) 30 = 30 := by omega
    simp at e
    obtain ⟨rfl, rfl⟩ := e
    go_enter Try.func12, Try.ntmps12
    go_wp2_with fail
    (with_reducible refine H1.out.mono ?_)
    rintro e w1 ⟨R, u, rfl, h3, h4, h5, h6, h7⟩
    have HO : Hid (LogOut W 30 (.returned u) w1) := Lib.hid ⟨R, u, rfl, h3, h4, by omega, h6, h7⟩
    clear h3 h4 h5 h6 h7
    go_wp2_with fail
    go_ret
    exact HO.out
end Go.Proofs.Ytaapggeaoacikaa
