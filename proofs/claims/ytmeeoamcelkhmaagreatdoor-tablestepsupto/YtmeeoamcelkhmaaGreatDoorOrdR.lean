import Derived.Test.YtmeeoamcelkhmaaGreatDoorOrdT
namespace Go.Proofs.YtmeeoamcelkhmaaGreatDoor
open Go.RowKit
set_option linter.unusedVariables false

def ltRow (s t : Int) (f g : Nat → V) (l1 l2 : Nat) : Bool := if (s != t) = true then decide (s < t) else ltFrom f g l1 l2 (min l1 l2) 0
def cmpRow (s t : Int) (f g : Nat → V) (l1 l2 : Nat) : Int := if s < t then -1 else if t < s then 1 else cmpFrom f g l1 l2 (min l1 l2) 0

theorem bel2 (w : World) (o1 o2 : Obj) : Below w.heap.size w ((w.alloc o1).alloc o2) := ((Below.refl _ _).alloc (Nat.le_refl _) _).alloc (by simp) _

set_option maxHeartbeats 400000 in
theorem rowBefore_any (s t : Int) (a1 : Option Addr) (l1 c1 : Nat) (a2 : Option Addr) (l2 c2 : Nat) (f g : Nat → V) (w : World) (h1 : Lies w a1 l1 f) (h2 : Lies w a2 l2 g) (m1 : l1 ≤ maxLen) (m2 : l2 ≤ maxLen) :
    Calls Tryz.prog 34 #[.agg #[.int .i64 s, .slice a1 l1 c1], .agg #[.int .i64 t, .slice a2 l2 c2]] w fun e w' => e = .returned (.bool (ltRow s t f g l1 l2)) ∧ Below w.heap.size w w' := by
  cases hs : (s != t) with
  | true =>
    have H : Hid (ltRow s t f g l1 l2 = decide (s < t)) := by unfold Hid ltRow; rw [if_pos hs]
    clear h1 h2
    go_enter Tryz.func34, Tryz.ntmps34
    go_wp2
    go_ret
    exact ⟨ret_bool H.out.symm, bel2 _ _ _⟩
  | false =>
    have H : Hid (ltRow s t f g l1 l2 = ltFrom f g l1 l2 (min l1 l2) 0) := by unfold Hid ltRow; rw [if_neg (by simp [hs])]
    have H1 : Hid (Lies w a1 l1 f) := h1
    have H2 : Hid (Lies w a2 l2 g) := h2
    clear h1 h2
    go_enter Tryz.func34, Tryz.ntmps34
    go_wp2_with (first | (go_at_call 51; refine (listBefore_any _ _ _ _ _ _ f g _ (H1.out.later (bel2 _ _ _)) (H2.out.later (bel2 _ _ _)) m1 m2).mono ?_; rintro e w' ⟨rfl, hbb⟩))
    go_ret
    exact ⟨ret_bool H.out.symm, (bel2 w _ _).trans (hbb.mono (by simp; omega))⟩

set_option maxHeartbeats 400000 in
theorem compareRows_1 (s t : Int) (a1 : Option Addr) (l1 c1 : Nat) (a2 : Option Addr) (l2 c2 : Nat) (w : World) (h : s < t) :
    Calls Tryz.prog 29 #[.agg #[.int .i64 s, .slice a1 l1 c1], .agg #[.int .i64 t, .slice a2 l2 c2]] w fun e w' => e = .returned (.int .i64 (-1)) ∧ Below w.heap.size w w' := by
  have hmf := hmf
  go_enter Tryz.func29, Tryz.ntmps29
  go_wp2
  refine wp_loop_rounds 3 ?_
  rw [rounds_succ]; go_wp2
  go_ret
  exact ⟨rfl, bel3 _ _ _ _⟩
set_option maxHeartbeats 400000 in
theorem compareRows_2 (s t : Int) (a1 : Option Addr) (l1 c1 : Nat) (a2 : Option Addr) (l2 c2 : Nat) (w : World) (h1 : ¬ s < t) (h2 : t < s) :
    Calls Tryz.prog 29 #[.agg #[.int .i64 s, .slice a1 l1 c1], .agg #[.int .i64 t, .slice a2 l2 c2]] w fun e w' => e = .returned (.int .i64 1) ∧ Below w.heap.size w w' := by
  have hmf := hmf
  go_enter Tryz.func29, Tryz.ntmps29
  go_wp2
  refine wp_loop_rounds 3 ?_
  rw [rounds_succ]; go_wp2
  go_ret
  exact ⟨rfl, bel3 _ _ _ _⟩

set_option maxHeartbeats 400000 in
theorem compareRows_3 (s t : Int) (a1 : Option Addr) (l1 c1 : Nat) (a2 : Option Addr) (l2 c2 : Nat) (f g : Nat → V) (w : World) (h1 : Lies w a1 l1 f) (h2 : Lies w a2 l2 g) (m1 : l1 ≤ maxLen) (m2 : l2 ≤ maxLen) (h3 : ¬ s < t) (h4 : ¬ t < s) :
    Calls Tryz.prog 29 #[.agg #[.int .i64 s, .slice a1 l1 c1], .agg #[.int .i64 t, .slice a2 l2 c2]] w fun e w' => e = .returned (.int .i64 (cmpFrom f g l1 l2 (min l1 l2) 0)) ∧ Below w.heap.size w w' := by
  have hmf := hmf
  have H1 : Hid (Lies w a1 l1 f) := h1
  have H2 : Hid (Lies w a2 l2 g) := h2
  clear h1 h2
  generalize hc : cmpFrom f g l1 l2 (min l1 l2) 0 = c
  have Hc : Hid (cmpFrom f g l1 l2 (min l1 l2) 0 = c) := hc
  clear hc
  cases hz : (c != 0) with
  | true =>
    go_enter Tryz.func29, Tryz.ntmps29
    go_wp2
    refine wp_loop_rounds 3 ?_
    rw [rounds_succ]; go_wp2
    rw [rounds_succ]
    go_wp2_with (first | (go_at_call 47; refine (compareLists_any _ _ _ _ _ _ f g _ (H1.out.later (bel3 _ _ _ _)) (H2.out.later (bel3 _ _ _ _)) m1 m2).mono ?_; rw [Hc.out]; rintro e w' ⟨rfl, hbb⟩) | go_in)
    go_ret
    exact ⟨rfl, (bel3 w _ _ _).trans (hbb.mono (by simp; omega))⟩
  | false =>
    have hc0 : Hid (c = 0) := by unfold Hid; simpa using hz
    go_enter Tryz.func29, Tryz.ntmps29
    go_wp2
    refine wp_loop_rounds 3 ?_
    rw [rounds_succ]; go_wp2
    rw [rounds_succ]
    go_wp2_with (first | (go_at_call 47; refine (compareLists_any _ _ _ _ _ _ f g _ (H1.out.later (bel3 _ _ _ _)) (H2.out.later (bel3 _ _ _ _)) m1 m2).mono ?_; rw [Hc.out]; rintro e w' ⟨rfl, hbb⟩) | go_in)
    rw [rounds_succ]; go_wp2
    go_ret
    exact ⟨ret_int hc0.out.symm, (bel3 w _ _ _).trans (hbb.mono (by simp; omega))⟩

theorem compareRows_any (s t : Int) (a1 : Option Addr) (l1 c1 : Nat) (a2 : Option Addr) (l2 c2 : Nat) (f g : Nat → V) (w : World) (h1 : Lies w a1 l1 f) (h2 : Lies w a2 l2 g) (m1 : l1 ≤ maxLen) (m2 : l2 ≤ maxLen) :
    Calls Tryz.prog 29 #[.agg #[.int .i64 s, .slice a1 l1 c1], .agg #[.int .i64 t, .slice a2 l2 c2]] w fun e w' => e = .returned (.int .i64 (cmpRow s t f g l1 l2)) ∧ Below w.heap.size w w' := by
  unfold cmpRow
  by_cases h3 : s < t
  · rw [if_pos h3]; exact compareRows_1 s t a1 l1 c1 a2 l2 c2 w h3
  rw [if_neg h3]
  by_cases h4 : t < s
  · rw [if_pos h4]; exact compareRows_2 s t a1 l1 c1 a2 l2 c2 w h3 h4
  rw [if_neg h4]
  exact compareRows_3 s t a1 l1 c1 a2 l2 c2 f g w h1 h2 m1 m2 h3 h4

def sg (l e : Bool) : Int := if e = true then 0 else if l = true then -1 else 1
end Go.Proofs.YtmeeoamcelkhmaaGreatDoor
