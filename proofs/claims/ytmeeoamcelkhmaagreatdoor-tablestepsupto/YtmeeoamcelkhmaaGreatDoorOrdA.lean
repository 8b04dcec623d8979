import Derived.Test.YtmeeoamcelkhmaaGreatDoorProg
import Derived.WalkKit
import Derived.Below
import Derived.LoopN
import Derived.Laws.StructEq
import Derived.Laws.Cover1
import Derived.Handy
namespace Go.Proofs.YtmeeoamcelkhmaaGreatDoor
open Go.RowKit
set_option linter.unusedVariables false

theorem ret_int {k : IntKind} {a b : Int} (h : a = b) : Ending.returned (.int k a) = .returned (.int k b) := by rw [h]
theorem ret_bool {a b : Bool} (h : a = b) : Ending.returned (.bool a) = .returned (.bool b) := by rw [h]

/-- Which of two values comes first, as a Bool. -/
def ltV (k1 n1 : Int) (s1 : ByteArray) (k2 n2 : Int) (s2 : ByteArray) : Bool :=
  if k1 != k2 then decide (k1 < k2) else if n1 != n2 then decide (n1 < n2) else Op.bytesLess s1.toList s2.toList

theorem before_any (k1 n1 : Int) (s1 : ByteArray) (k2 n2 : Int) (s2 : ByteArray) (w : World) :
    Calls Tryz.prog 68 #[.agg #[.int .i64 k1, .int .i64 n1, .string s1], .agg #[.int .i64 k2, .int .i64 n2, .string s2]] w fun e w' => e = .returned (.bool (ltV k1 n1 s1 k2 n2 s2)) ∧ Below w.heap.size w w' := by
  cases hk : (k1 != k2) with
  | true =>
    have H : Hid (ltV k1 n1 s1 k2 n2 s2 = decide (k1 < k2)) := by unfold Hid ltV; rw [hk]; rfl
    go_enter Tryz.func68, Tryz.ntmps68
    go_wp2
    go_ret
    exact ⟨ret_bool H.out.symm, ((Below.refl _ _).alloc (Nat.le_refl _) _).alloc (by simp) _⟩
  | false =>
    cases hn : (n1 != n2) with
    | true =>
      have H : Hid (ltV k1 n1 s1 k2 n2 s2 = decide (n1 < n2)) := by unfold Hid ltV; rw [hk, hn]; rfl
      go_enter Tryz.func68, Tryz.ntmps68
      go_wp2
      go_ret
      exact ⟨ret_bool H.out.symm, ((Below.refl _ _).alloc (Nat.le_refl _) _).alloc (by simp) _⟩
    | false =>
      have H : Hid (ltV k1 n1 s1 k2 n2 s2 = Op.bytesLess s1.toList s2.toList) := by unfold Hid ltV; rw [hk, hn]; rfl
      go_enter Tryz.func68, Tryz.ntmps68
      go_wp2
      go_ret
      exact ⟨ret_bool H.out.symm, ((Below.refl _ _).alloc (Nat.le_refl _) _).alloc (by simp) _⟩

def cmpI (a b : Int) : Int := if a < b then -1 else if b < a then 1 else 0
def cmpS (a b : ByteArray) : Int := if Op.bytesLess a.toList b.toList = true then -1 else if (a.toList == b.toList) = true then 0 else 1
def cmpV (k1 n1 : Int) (s1 : ByteArray) (k2 n2 : Int) (s2 : ByteArray) : Int :=
  if k1 < k2 then -1 else if k2 < k1 then 1 else if n1 < n2 then -1 else if n2 < n1 then 1 else cmpS s1 s2

theorem bel3 (w : World) (o1 o2 o3 : Obj) : Below w.heap.size w (((w.alloc o1).alloc o2).alloc o3) :=
  (((Below.refl _ _).alloc (Nat.le_refl _) _).alloc (by simp) _).alloc (by simp; omega) _

theorem hmf : ∀ (fn : Fn) (first cap : Array Value) (w : World), (Instr.makeFunc fn first cap).run Tryz.prog w = .ok (.func fn first cap) w := fun _ _ _ _ => rfl

theorem compare_1 (k1 n1 : Int) (s1 : ByteArray) (k2 n2 : Int) (s2 : ByteArray) (w : World) (h : k1 < k2) :
    Calls Tryz.prog 67 #[.agg #[.int .i64 k1, .int .i64 n1, .string s1], .agg #[.int .i64 k2, .int .i64 n2, .string s2]] w fun e w' => e = .returned (.int .i64 (-1)) ∧ Below w.heap.size w w' := by
  have hmf := hmf
  go_enter Tryz.func67, Tryz.ntmps67
  go_wp2
  refine wp_loop_rounds 4 ?_
  rw [rounds_succ]; go_wp2
  go_ret
  exact ⟨rfl, bel3 _ _ _ _⟩

theorem compare_2 (k1 n1 : Int) (s1 : ByteArray) (k2 n2 : Int) (s2 : ByteArray) (w : World) (h1 : ¬ k1 < k2) (h2 : k2 < k1) :
    Calls Tryz.prog 67 #[.agg #[.int .i64 k1, .int .i64 n1, .string s1], .agg #[.int .i64 k2, .int .i64 n2, .string s2]] w fun e w' => e = .returned (.int .i64 1) ∧ Below w.heap.size w w' := by
  have hmf := hmf
  go_enter Tryz.func67, Tryz.ntmps67
  go_wp2
  refine wp_loop_rounds 4 ?_
  rw [rounds_succ]; go_wp2
  go_ret
  exact ⟨rfl, bel3 _ _ _ _⟩

theorem compare_3 (k1 n1 : Int) (s1 : ByteArray) (k2 n2 : Int) (s2 : ByteArray) (w : World) (h1 : ¬ k1 < k2) (h2 : ¬ k2 < k1) (h3 : n1 < n2) :
    Calls Tryz.prog 67 #[.agg #[.int .i64 k1, .int .i64 n1, .string s1], .agg #[.int .i64 k2, .int .i64 n2, .string s2]] w fun e w' => e = .returned (.int .i64 (-1)) ∧ Below w.heap.size w w' := by
  have hmf := hmf
  go_enter Tryz.func67, Tryz.ntmps67
  go_wp2
  refine wp_loop_rounds 4 ?_
  rw [rounds_succ]; go_wp2
  rw [rounds_succ]; go_wp2
  go_ret
  exact ⟨rfl, bel3 _ _ _ _⟩

theorem compare_4 (k1 n1 : Int) (s1 : ByteArray) (k2 n2 : Int) (s2 : ByteArray) (w : World) (h1 : ¬ k1 < k2) (h2 : ¬ k2 < k1) (h3 : ¬ n1 < n2) (h4 : n2 < n1) :
    Calls Tryz.prog 67 #[.agg #[.int .i64 k1, .int .i64 n1, .string s1], .agg #[.int .i64 k2, .int .i64 n2, .string s2]] w fun e w' => e = .returned (.int .i64 1) ∧ Below w.heap.size w w' := by
  have hmf := hmf
  go_enter Tryz.func67, Tryz.ntmps67
  go_wp2
  refine wp_loop_rounds 4 ?_
  rw [rounds_succ]; go_wp2
  rw [rounds_succ]; go_wp2
  go_ret
  exact ⟨rfl, bel3 _ _ _ _⟩

theorem compare_5 (k1 n1 : Int) (s1 : ByteArray) (k2 n2 : Int) (s2 : ByteArray) (w : World) (h1 : ¬ k1 < k2) (h2 : ¬ k2 < k1) (h3 : ¬ n1 < n2) (h4 : ¬ n2 < n1) (h5 : Op.bytesLess s1.toList s2.toList = true) :
    Calls Tryz.prog 67 #[.agg #[.int .i64 k1, .int .i64 n1, .string s1], .agg #[.int .i64 k2, .int .i64 n2, .string s2]] w fun e w' => e = .returned (.int .i64 (-1)) ∧ Below w.heap.size w w' := by
  have hmf := hmf
  go_enter Tryz.func67, Tryz.ntmps67
  go_wp2
  refine wp_loop_rounds 4 ?_
  rw [rounds_succ]; go_wp2
  rw [rounds_succ]; go_wp2
  rw [rounds_succ]; go_wp2
  go_ret
  exact ⟨rfl, bel3 _ _ _ _⟩

theorem compare_6 (k1 n1 : Int) (s1 : ByteArray) (k2 n2 : Int) (s2 : ByteArray) (w : World) (h1 : ¬ k1 < k2) (h2 : ¬ k2 < k1) (h3 : ¬ n1 < n2) (h4 : ¬ n2 < n1) (h5 : Op.bytesLess s1.toList s2.toList = false) (h6 : (s1.toList == s2.toList) = false) :
    Calls Tryz.prog 67 #[.agg #[.int .i64 k1, .int .i64 n1, .string s1], .agg #[.int .i64 k2, .int .i64 n2, .string s2]] w fun e w' => e = .returned (.int .i64 1) ∧ Below w.heap.size w w' := by
  have hmf := hmf
  go_enter Tryz.func67, Tryz.ntmps67
  go_wp2
  refine wp_loop_rounds 4 ?_
  rw [rounds_succ]; go_wp2
  rw [rounds_succ]; go_wp2
  rw [rounds_succ]; go_wp2
  go_ret
  exact ⟨rfl, bel3 _ _ _ _⟩

theorem compare_7 (k1 n1 : Int) (s1 : ByteArray) (k2 n2 : Int) (s2 : ByteArray) (w : World) (h1 : ¬ k1 < k2) (h2 : ¬ k2 < k1) (h3 : ¬ n1 < n2) (h4 : ¬ n2 < n1) (h5 : Op.bytesLess s1.toList s2.toList = false) (h6 : (s1.toList == s2.toList) = true) :
    Calls Tryz.prog 67 #[.agg #[.int .i64 k1, .int .i64 n1, .string s1], .agg #[.int .i64 k2, .int .i64 n2, .string s2]] w fun e w' => e = .returned (.int .i64 0) ∧ Below w.heap.size w w' := by
  have hmf := hmf
  go_enter Tryz.func67, Tryz.ntmps67
  go_wp2
  refine wp_loop_rounds 4 ?_
  rw [rounds_succ]; go_wp2
  rw [rounds_succ]; go_wp2
  rw [rounds_succ]; go_wp2
  rw [rounds_succ]; go_wp2
  go_ret
  exact ⟨rfl, bel3 _ _ _ _⟩

theorem compare_any (k1 n1 : Int) (s1 : ByteArray) (k2 n2 : Int) (s2 : ByteArray) (w : World) :
    Calls Tryz.prog 67 #[.agg #[.int .i64 k1, .int .i64 n1, .string s1], .agg #[.int .i64 k2, .int .i64 n2, .string s2]] w fun e w' => e = .returned (.int .i64 (cmpV k1 n1 s1 k2 n2 s2)) ∧ Below w.heap.size w w' := by
  unfold cmpV cmpS
  by_cases h1 : k1 < k2
  · rw [if_pos h1]; exact compare_1 k1 n1 s1 k2 n2 s2 w h1
  rw [if_neg h1]
  by_cases h2 : k2 < k1
  · rw [if_pos h2]; exact compare_2 k1 n1 s1 k2 n2 s2 w h1 h2
  rw [if_neg h2]
  by_cases h3 : n1 < n2
  · rw [if_pos h3]; exact compare_3 k1 n1 s1 k2 n2 s2 w h1 h2 h3
  rw [if_neg h3]
  by_cases h4 : n2 < n1
  · rw [if_pos h4]; exact compare_4 k1 n1 s1 k2 n2 s2 w h1 h2 h3 h4
  rw [if_neg h4]
  by_cases h5 : Op.bytesLess s1.toList s2.toList = true
  · rw [if_pos h5]; exact compare_5 k1 n1 s1 k2 n2 s2 w h1 h2 h3 h4 h5
  rw [if_neg h5]
  by_cases h6 : (s1.toList == s2.toList) = true
  · rw [if_pos h6]; exact compare_7 k1 n1 s1 k2 n2 s2 w h1 h2 h3 h4 (by simpa using h5) h6
  rw [if_neg h6]
  exact compare_6 k1 n1 s1 k2 n2 s2 w h1 h2 h3 h4 (by simpa using h5) (by simpa using h6)
end Go.Proofs.YtmeeoamcelkhmaaGreatDoor
