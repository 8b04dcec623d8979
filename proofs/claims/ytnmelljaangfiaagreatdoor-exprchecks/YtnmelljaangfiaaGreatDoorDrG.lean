import Derived.Test.YtnmelljaangfiaaGreatDoorDrF
namespace Go.Proofs.YtnmelljaangfiaaGreatDoor.Dc
open Go.RowKit
set_option linter.unusedVariables false
set_option linter.unusedSimpArgs false
set_option maxRecDepth 100000

set_option maxHeartbeats 1000000 in
theorem climb_err (g E p : Nat) (tks : List Tk) (lev er bad least : Int) (w : World) (h : RS w g E tks p lev er bad) (he : er ≠ 0) :
    Calls Tryz.prog 21 #[.pointer (some ⟨g, 0, none⟩), .int .i64 least] w (EPost w g E tks p lev er bad) := by
  have HS : Hid (∀ W, Below w.heap.size w W → Calls Tryz.prog 46 #[.pointer (some ⟨g, 0, none⟩), .string bNot] W fun e w' => e = .returned (.bool false) ∧ Below W.heap.size W w') := fun W hW => by
    refine (sign_any g E p tks lev er bad bNot W (h.later hW)).mono ?_
    rintro e w' ⟨rfl, hb⟩
    exact ⟨by rw [decide_eq_false he]; rfl, hb⟩
  have HF : Hid (∀ W, Below w.heap.size w W → Calls Tryz.prog 48 #[.pointer (some ⟨g, 0, none⟩)] W (EPost W g E tks p lev er bad)) := fun W hW => first_err g E p tks lev er bad W (h.later hW) he
  have HR := hidMk h
  have q1 : (er == 0) = false := by simp [he]
  have hgl := h.lt
  clear h he
  unfold bNot at HS
  by_cases hl : least ≤ 3
  all_goals
    go_enter Tryz.func21, Tryz.ntmps21
    go_wp2_with fail
    refine (HS.out _ (by first | exact Below.refl _ _ | exact xbel1 _ _)).mono ?_
    rintro e w1 ⟨rfl, hb1⟩
    have HB1 : Hid (Below w.heap.size w w1) := by first | exact hb1 | exact (xbel1 _ _).trans (hb1.mono (by simp))
    clear hb1
    go_wp2_with fail
    refine (HF.out _ HB1.out).mono ?_
    rintro e w2 ⟨hb2, b, rfl⟩
    have HB2 : Hid (Below w.heap.size w w2) := HB1.out.trans (hb2.mono HB1.out.size)
    clear hb2
    obtain ⟨b', cap, hbg, hgl2, c0, c1, c2, c3, c4, d0, d1, d2, hl2⟩ := (HR.out.later HB2.out).hd
    clear d0 d1 d2 hl2
    unfold ptrE
    go_wp2_with fail
    refine wp_loop_rounds 1 ?_
    rw [rounds_succ]
    go_wp2
    go_ret
    exact ⟨HB2.out, _, rfl⟩

end Go.Proofs.YtnmelljaangfiaaGreatDoor.Dc
