import Derived.Test.YtkedbmpnhplmaaaDoorWnI
import Derived.Test.YtkedbmpnhplmaaaDoorTldB
namespace Go.Proofs.YtkedbmpnhplmaaaDoor
open Go.RowKit Go.Shelf
set_option linter.unusedVariables false
set_option linter.unusedSimpArgs false
set_option maxRecDepth 100000
set_option maxHeartbeats 4000000

theorem struct_later {w wx : World} {g : Nat} {k s p : Int} (hb : Below w.heap.size w wx) (h : w.cell? ⟨g, 0, none⟩ = some (.int .i64 k) ∧ w.cell? ⟨g, 1, none⟩ = some (.int .i64 s) ∧ w.cell? ⟨g, 2, none⟩ = some (.int .i64 p)) :
    wx.cell? ⟨g, 0, none⟩ = some (.int .i64 k) ∧ wx.cell? ⟨g, 1, none⟩ = some (.int .i64 s) ∧ wx.cell? ⟨g, 2, none⟩ = some (.int .i64 p) := ⟨xcell hb h.1, xcell hb h.2.1, xcell hb h.2.2⟩

theorem assigns_good (k s p t : Int) (hs : (Lit.int .i64 s).wf = true) (hv : validB k s p = true) (h0 : 0 ≤ t) (h1 : t ≤ 1099511627776) (W : World) :
    Calls Tryd.prog 3 #[.agg #[.int .i64 k, .int .i64 s, .int .i64 p], .int .i64 t] W fun e W' => e = .returned (.bool true) ∧ Below W.heap.size W W' := by
  have g0 : decide (t < 0) = false := by simp; omega
  have g1 : decide (t > 1099511627776) = false := by simp; omega
  have hl := inL_len hv h0 h1
  have HL : Hid ((inL k s p t).length ≤ 65 ∧ 1 ≤ (inL k s p t).length) := hl
  clear hl
  go_enter Tryd.func3, Tryd.ntmps3
  go_wp2_with (first
    | (go_at_call 4; refine (callsIn_wide.1 (assign_ok hs hv h0 h1 (by have := HL.out.1; omega) 3 (by omega) _)).mono ?_; rintro e w1 ⟨v1, rfl, r1, b1⟩; have q1 := struct_later b1 (g := W.heap.size) (k := k) (s := s) (p := p) ⟨by go_simp, by go_simp, by go_simp⟩; obtain ⟨a1, cap1, rfl, m1⟩ := RdW.own r1; have c10 := q1.1; have c11 := q1.2.1; have c12 := q1.2.2; have M1 : Hid (RdW w1 (.slice a1 (inL k s p t).length cap1) (inL k s p t)) := ⟨a1, cap1, rfl, m1⟩; clear m1 r1)
    | (go_at_call 5; refine (rvalid_any k s p _).mono ?_; rw [hv]; rintro e w2 ⟨rfl, b2⟩; have q2 := struct_later b2 q1; have c20 := q2.1; have c21 := q2.2.1; have c22 := q2.2.2)
    | (go_at_call 6; refine (valid_any k s p hs _).mono ?_; rw [hv]; rintro e w3 ⟨rfl, b3⟩; have q3 := struct_later b3 q2; have c30 := q3.1; have c31 := q3.2.1; have c32 := q3.2.2)
    | (go_at_call 7; refine (told_nil _).mono ?_; rintro e w4 ⟨rfl, rfl⟩)
    | (go_at_call 8; refine (refIn_any hv h0 h1 _).mono ?_; rintro e w5 ⟨v5, rfl, r5, b5⟩; have B35 : Below w1.heap.size w1 w5 := b2.trans ((b3.trans (b5.mono b3.size)).mono b2.size); obtain ⟨a5, cap5, rfl, m5⟩ := RdW.own r5; have M5 : Hid (RdW w5 (.slice a5 (inL k s p t).length cap5) (inL k s p t)) := ⟨a5, cap5, rfl, m5⟩; clear m5 r5)
    | (go_at_call 9; refine (same_true _ _ (inL k s p t) _ (by have := HL.out.1; omega) (M1.out.later B35) M5.out).mono ?_; rintro e w6 ⟨rfl, b6⟩))
  go_ret
  refine ⟨rfl, ?_⟩
  have := (xbel1 W (.cells #[.int .i64 k, .int .i64 s, .int .i64 p] 23)).trans ((b1.trans ((B35.trans (b6.mono B35.size)).mono b1.size)).mono (by simp))
  exact this

theorem assigns_bad (k s p t : Int) (hs : (Lit.int .i64 s).wf = true) (hbad : (!validB k s p || decide (t < 0) || decide (t > 1099511627776)) = true) (W : World) (hE : Ety W) :
    Calls Tryd.prog 3 #[.agg #[.int .i64 k, .int .i64 s, .int .i64 p], .int .i64 t] W fun e W' => e = .returned (.bool true) ∧ Below W.heap.size W W' := by
  have HE : Hid (Ety W) := hE
  have HBAD : Hid ((!validB k s p || decide (t < 0) || decide (t > 1099511627776)) = true) := hbad
  have key : validB k s p = false ∨ (validB k s p = true ∧ t < 0) ∨ (validB k s p = true ∧ ¬ t < 0 ∧ t > 1099511627776) := by
    cases h : validB k s p
    · exact .inl rfl
    · by_cases g : t < 0
      · exact .inr (.inl ⟨rfl, g⟩)
      · refine .inr (.inr ⟨rfl, g, ?_⟩)
        rw [h] at hbad
        simp [g] at hbad
        exact hbad
  clear hE hbad
  rcases key with hv | ⟨hv, ht⟩ | ⟨hv, ht, ht2⟩ <;>
  · go_enter Tryd.func3, Tryd.ntmps3
    go_wp2_with (first
      | (go_at_call 4; refine (callsIn_wide.1 (assign_bad hs HBAD.out 3 (by omega) _)).mono ?_; rintro e w1 ⟨rfl, b1⟩; have q1 := struct_later b1 (g := W.heap.size) (k := k) (s := s) (p := p) ⟨by go_simp, by go_simp, by go_simp⟩; have c10 := q1.1; have c11 := q1.2.1; have c12 := q1.2.2; have E1 : Hid (Ety w1) := (HE.out.later (xbel1 W (.cells #[.int .i64 k, .int .i64 s, .int .i64 p] 23))).later b1)
      | (go_at_call 5; refine (rvalid_any k s p _).mono ?_; rw [hv]; rintro e w2 ⟨rfl, b2⟩; have q2 := struct_later b2 q1; have c20 := q2.1; have c21 := q2.2.1; have c22 := q2.2.2; have E2 : Hid (Ety w2) := E1.out.later b2)
      | (go_at_call 6; refine (valid_any k s p hs _).mono ?_; rw [hv]; rintro e w3 ⟨rfl, b3⟩; have q3 := struct_later b3 q2; have c30 := q3.1; have c31 := q3.2.1; have c32 := q3.2.2; have E3 : Hid (Ety w3) := E2.out.later b3)
      | (go_at_call 7; refine (told_errno 4 _ E3.out).mono ?_; rintro e w4 ⟨rfl, b4⟩))
    go_ret
    refine ⟨rfl, ?_⟩
    exact (xbel1 W (.cells #[.int .i64 k, .int .i64 s, .int .i64 p] 23)).trans ((b1.trans ((b2.trans ((b3.trans (b4.mono b3.size)).mono b2.size)).mono b1.size)).mono (by simp))

theorem assigns_walk (k s p t : Int) (hs : (Lit.int .i64 s).wf = true) (W : World) (hE : Ety W) :
    Calls Tryd.prog 3 #[.agg #[.int .i64 k, .int .i64 s, .int .i64 p], .int .i64 t] W fun e W' => e = .returned (.bool true) ∧ Below W.heap.size W W' := by
  cases h : (!validB k s p || decide (t < 0) || decide (t > 1099511627776)) with
  | true => exact assigns_bad k s p t hs h W hE
  | false =>
    simp at h
    exact assigns_good k s p t hs h.1.1 (by omega) (by omega) W
end Go.Proofs.YtkedbmpnhplmaaaDoor
