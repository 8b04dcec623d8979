import Derived.Test.YtkedbmpnhplmaaaDoorWnE
namespace Go.Proofs.YtkedbmpnhplmaaaDoor
open Go.RowKit Go.Shelf
set_option linter.unusedVariables false
set_option linter.unusedSimpArgs false
set_option maxRecDepth 100000
set_option maxHeartbeats 2000000

theorem rvalid_one (k s p : Int) (hk : k = 1 ∨ k = 3) (w : World) : Calls Tryd.prog 5 #[.agg #[.int .i64 k, .int .i64 s, .int .i64 p]] w fun e w' => e = .returned (.bool (validB k s p)) ∧ Below w.heap.size w w' := by
  have hv : Hid (validB k s p = ((decide (1 ≤ s) && decide (s ≤ 1048576)) && (p == 0))) := by unfold Hid validB; rw [if_pos hk]
  rcases hk with rfl | rfl <;>
  · cases h1 : decide (1 ≤ s) <;> cases h2 : decide (s ≤ 1048576) <;>
    · go_enter Tryd.func5, Tryd.ntmps5
      go_wp2
      go_ret
      exact ⟨by rw [hv.out, h1, h2]; rfl, xbel1 _ _⟩

theorem rvalid_two (s p : Int) (w : World) : Calls Tryd.prog 5 #[.agg #[.int .i64 2, .int .i64 s, .int .i64 p]] w fun e w' => e = .returned (.bool (validB 2 s p)) ∧ Below w.heap.size w w' := by
  have hv : Hid (validB 2 s p = (((decide (1 ≤ s) && decide (s ≤ 1048576)) && (decide (1 ≤ p) && decide (p ≤ s))) && decide (s.tdiv p ≤ 64))) := by unfold Hid validB; rw [if_neg (by decide), if_pos rfl]
  cases h1 : decide (1 ≤ p) with
  | false =>
    go_enter Tryd.func5, Tryd.ntmps5
    go_wp2
    go_ret
    exact ⟨by rw [hv.out, h1]; simp, xbel1 _ _⟩
  | true =>
    cases h2 : decide (p ≤ s) with
    | false =>
      go_enter Tryd.func5, Tryd.ntmps5
      go_wp2
      go_ret
      exact ⟨by rw [hv.out, h1, h2]; simp, xbel1 _ _⟩
    | true =>
      have g1 : 1 ≤ p := by simpa using h1
      have g2 : p ≤ s := by simpa using h2
      have g3 : Hid (decide (1 ≤ s) = true) := by unfold Hid; simp; omega
      cases h3 : decide (s ≤ 1048576) with
      | false =>
        go_enter Tryd.func5, Tryd.ntmps5
        go_wp2
        go_ret
        exact ⟨by rw [hv.out, h3]; simp, xbel1 _ _⟩
      | true =>
        have g4 : s ≤ 1048576 := by simpa using h3
        have hp : (p == 0) = false := by simp; omega
        have hq : wrap64 (s.tdiv p) = s.tdiv p := by
          have := Int.tdiv_le_self p (a := s) (by omega)
          have h0 := Int.tdiv_nonneg (a := s) (b := p) (by omega) (by omega)
          exact w64 (by omega) (by omega)
        go_enter Tryd.func5, Tryd.ntmps5
        go_wp2
        go_ret
        exact ⟨by rw [hv.out, h1, h2, h3, g3.out, Int.tdiv_eq_ediv_of_nonneg (by omega)]; rfl, xbel1 _ _⟩

theorem rvalid_other (k s p : Int) (hk : ¬ (k = 1 ∨ k = 3)) (hk2 : ¬ k = 2) (w : World) : Calls Tryd.prog 5 #[.agg #[.int .i64 k, .int .i64 s, .int .i64 p]] w fun e w' => e = .returned (.bool (validB k s p)) ∧ Below w.heap.size w w' := by
  have e1 : (k == 1) = false := by simp; omega
  have e3 : (k == 3) = false := by simp; omega
  have e2 : (k == 2) = false := by simp; omega
  by_cases h4 : k = 4
  · subst h4
    have hv : Hid (validB 4 s p = ((s == 0) && (p == 0))) := rfl
    cases hs : (s == 0) <;>
    · go_enter Tryd.func5, Tryd.ntmps5
      go_wp2
      go_ret
      exact ⟨by rw [hv.out, hs]; rfl, xbel1 _ _⟩
  · have e4 : (k == 4) = false := by simp; omega
    have hv : Hid (validB k s p = false) := by unfold Hid validB; rw [if_neg hk, if_neg hk2, if_neg h4]
    go_enter Tryd.func5, Tryd.ntmps5
    go_wp2
    go_ret
    exact ⟨by rw [hv.out]; rfl, xbel1 _ _⟩

theorem rvalid_any (k s p : Int) (w : World) : Calls Tryd.prog 5 #[.agg #[.int .i64 k, .int .i64 s, .int .i64 p]] w fun e w' => e = .returned (.bool (validB k s p)) ∧ Below w.heap.size w w' := by
  by_cases h1 : k = 1 ∨ k = 3
  · exact rvalid_one k s p h1 w
  by_cases h2 : k = 2
  · rw [h2]; exact rvalid_two s p w
  exact rvalid_other k s p h1 h2 w
end Go.Proofs.YtkedbmpnhplmaaaDoor
