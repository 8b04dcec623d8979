import Derived.Test.YtdbboaebigpkoaaGreatDoorVcA
namespace Go.Proofs.YtdbboaebigpkoaaGreatDoor
open Go.RowKit
set_option linter.unusedVariables false

theorem compareG_1 (k1 n1 : Int) (s1 : ByteArray) (k2 n2 : Int) (s2 : ByteArray) (w : World) (h : k1 < k2) :
    Calls Tryz.prog 42 #[.agg #[.int .i64 k1, .int .i64 n1, .string s1], .agg #[.int .i64 k2, .int .i64 n2, .string s2]] w fun e w' => e = .returned (.int .i64 (-1)) ∧ Below w.heap.size w w' ∧ w.drawn ≤ w'.drawn := by
  have hmf := hmf
  go_enter Tryz.func42, Tryz.ntmps42
  go_wp2
  refine wp_loop_rounds 4 ?_
  rw [rounds_succ]; go_wp2
  go_ret
  exact ⟨rfl, bel3 _ _ _ _, Nat.le_refl _⟩

theorem compareG_2 (k1 n1 : Int) (s1 : ByteArray) (k2 n2 : Int) (s2 : ByteArray) (w : World) (h1 : ¬ k1 < k2) (h2 : k2 < k1) :
    Calls Tryz.prog 42 #[.agg #[.int .i64 k1, .int .i64 n1, .string s1], .agg #[.int .i64 k2, .int .i64 n2, .string s2]] w fun e w' => e = .returned (.int .i64 1) ∧ Below w.heap.size w w' ∧ w.drawn ≤ w'.drawn := by
  have hmf := hmf
  go_enter Tryz.func42, Tryz.ntmps42
  go_wp2
  refine wp_loop_rounds 4 ?_
  rw [rounds_succ]; go_wp2
  go_ret
  exact ⟨rfl, bel3 _ _ _ _, Nat.le_refl _⟩

theorem compareG_3 (k1 n1 : Int) (s1 : ByteArray) (k2 n2 : Int) (s2 : ByteArray) (w : World) (h1 : ¬ k1 < k2) (h2 : ¬ k2 < k1) (h3 : n1 < n2) :
    Calls Tryz.prog 42 #[.agg #[.int .i64 k1, .int .i64 n1, .string s1], .agg #[.int .i64 k2, .int .i64 n2, .string s2]] w fun e w' => e = .returned (.int .i64 (-1)) ∧ Below w.heap.size w w' ∧ w.drawn ≤ w'.drawn := by
  have hmf := hmf
  go_enter Tryz.func42, Tryz.ntmps42
  go_wp2
  refine wp_loop_rounds 4 ?_
  rw [rounds_succ]; go_wp2
  rw [rounds_succ]; go_wp2
  go_ret
  exact ⟨rfl, bel3 _ _ _ _, Nat.le_refl _⟩

theorem compareG_4 (k1 n1 : Int) (s1 : ByteArray) (k2 n2 : Int) (s2 : ByteArray) (w : World) (h1 : ¬ k1 < k2) (h2 : ¬ k2 < k1) (h3 : ¬ n1 < n2) (h4 : n2 < n1) :
    Calls Tryz.prog 42 #[.agg #[.int .i64 k1, .int .i64 n1, .string s1], .agg #[.int .i64 k2, .int .i64 n2, .string s2]] w fun e w' => e = .returned (.int .i64 1) ∧ Below w.heap.size w w' ∧ w.drawn ≤ w'.drawn := by
  have hmf := hmf
  go_enter Tryz.func42, Tryz.ntmps42
  go_wp2
  refine wp_loop_rounds 4 ?_
  rw [rounds_succ]; go_wp2
  rw [rounds_succ]; go_wp2
  go_ret
  exact ⟨rfl, bel3 _ _ _ _, Nat.le_refl _⟩

theorem compareG_5 (k1 n1 : Int) (s1 : ByteArray) (k2 n2 : Int) (s2 : ByteArray) (w : World) (h1 : ¬ k1 < k2) (h2 : ¬ k2 < k1) (h3 : ¬ n1 < n2) (h4 : ¬ n2 < n1) (h5 : Op.bytesLess s1.toList s2.toList = true) :
    Calls Tryz.prog 42 #[.agg #[.int .i64 k1, .int .i64 n1, .string s1], .agg #[.int .i64 k2, .int .i64 n2, .string s2]] w fun e w' => e = .returned (.int .i64 (-1)) ∧ Below w.heap.size w w' ∧ w.drawn ≤ w'.drawn := by
  have hmf := hmf
  go_enter Tryz.func42, Tryz.ntmps42
  go_wp2
  refine wp_loop_rounds 4 ?_
  rw [rounds_succ]; go_wp2
  rw [rounds_succ]; go_wp2
  rw [rounds_succ]; go_wp2
  go_ret
  exact ⟨rfl, bel3 _ _ _ _, Nat.le_refl _⟩

theorem compareG_6 (k1 n1 : Int) (s1 : ByteArray) (k2 n2 : Int) (s2 : ByteArray) (w : World) (h1 : ¬ k1 < k2) (h2 : ¬ k2 < k1) (h3 : ¬ n1 < n2) (h4 : ¬ n2 < n1) (h5 : Op.bytesLess s1.toList s2.toList = false) (h6 : (s1.toList == s2.toList) = false) :
    Calls Tryz.prog 42 #[.agg #[.int .i64 k1, .int .i64 n1, .string s1], .agg #[.int .i64 k2, .int .i64 n2, .string s2]] w fun e w' => e = .returned (.int .i64 1) ∧ Below w.heap.size w w' ∧ w.drawn ≤ w'.drawn := by
  have hmf := hmf
  go_enter Tryz.func42, Tryz.ntmps42
  go_wp2
  refine wp_loop_rounds 4 ?_
  rw [rounds_succ]; go_wp2
  rw [rounds_succ]; go_wp2
  rw [rounds_succ]; go_wp2
  go_ret
  exact ⟨rfl, bel3 _ _ _ _, Nat.le_refl _⟩

theorem compareG_7 (k1 n1 : Int) (s1 : ByteArray) (k2 n2 : Int) (s2 : ByteArray) (w : World) (h1 : ¬ k1 < k2) (h2 : ¬ k2 < k1) (h3 : ¬ n1 < n2) (h4 : ¬ n2 < n1) (h5 : Op.bytesLess s1.toList s2.toList = false) (h6 : (s1.toList == s2.toList) = true) :
    Calls Tryz.prog 42 #[.agg #[.int .i64 k1, .int .i64 n1, .string s1], .agg #[.int .i64 k2, .int .i64 n2, .string s2]] w fun e w' => e = .returned (.int .i64 0) ∧ Below w.heap.size w w' ∧ w.drawn ≤ w'.drawn := by
  have hmf := hmf
  go_enter Tryz.func42, Tryz.ntmps42
  go_wp2
  refine wp_loop_rounds 4 ?_
  rw [rounds_succ]; go_wp2
  rw [rounds_succ]; go_wp2
  rw [rounds_succ]; go_wp2
  rw [rounds_succ]; go_wp2
  go_ret
  exact ⟨rfl, bel3 _ _ _ _, Nat.le_refl _⟩

theorem compareG_any (k1 n1 : Int) (s1 : ByteArray) (k2 n2 : Int) (s2 : ByteArray) (w : World) :
    Calls Tryz.prog 42 #[.agg #[.int .i64 k1, .int .i64 n1, .string s1], .agg #[.int .i64 k2, .int .i64 n2, .string s2]] w fun e w' => e = .returned (.int .i64 (cmpV k1 n1 s1 k2 n2 s2)) ∧ Below w.heap.size w w' ∧ w.drawn ≤ w'.drawn := by
  unfold cmpV cmpS
  by_cases h1 : k1 < k2
  · rw [if_pos h1]; exact compareG_1 k1 n1 s1 k2 n2 s2 w h1
  rw [if_neg h1]
  by_cases h2 : k2 < k1
  · rw [if_pos h2]; exact compareG_2 k1 n1 s1 k2 n2 s2 w h1 h2
  rw [if_neg h2]
  by_cases h3 : n1 < n2
  · rw [if_pos h3]; exact compareG_3 k1 n1 s1 k2 n2 s2 w h1 h2 h3
  rw [if_neg h3]
  by_cases h4 : n2 < n1
  · rw [if_pos h4]; exact compareG_4 k1 n1 s1 k2 n2 s2 w h1 h2 h3 h4
  rw [if_neg h4]
  by_cases h5 : Op.bytesLess s1.toList s2.toList = true
  · rw [if_pos h5]; exact compareG_5 k1 n1 s1 k2 n2 s2 w h1 h2 h3 h4 h5
  rw [if_neg h5]
  by_cases h6 : (s1.toList == s2.toList) = true
  · rw [if_pos h6]; exact compareG_7 k1 n1 s1 k2 n2 s2 w h1 h2 h3 h4 (by simpa using h5) h6
  rw [if_neg h6]
  exact compareG_6 k1 n1 s1 k2 n2 s2 w h1 h2 h3 h4 (by simpa using h5) (by simpa using h6)
end Go.Proofs.YtdbboaebigpkoaaGreatDoor
