import Derived.Test.YtodkekmfadfjkaaGreatDoorVShwA
namespace Go.Proofs.YtodkekmfadfjkaaGreatDoor.Vl
open Go.RowKit
set_option linter.unusedVariables false
attribute [local go_sem ↓] neq24 eql24
attribute [local go_sem] guard24

theorem beq_nil (l : List UInt8) : (l == []) = l.isEmpty := by cases l <;> rfl

theorem refValid_0 (n : Int) (s : ByteArray) (w : World) :
    Calls Tryz.prog 15 #[.agg #[.int .i64 0, .int .i64 n, .string s]] w fun e w' => e = .returned (.bool (validB 0 n s)) ∧ Below w.heap.size w w' := by
  cases hn : (n == 0) with
  | true =>
    have H : Hid (validB 0 n s = (s.toList == [])) := by unfold Hid validB; simp [hn]
    go_enter Tryz.func15, Tryz.ntmps15
    go_wp2
    go_ret
    exact ⟨ret_bool (by rw [H.out, beq_nil]), bel1 _ _⟩
  | false =>
    have H : Hid (validB 0 n s = false) := by unfold Hid validB; simp [hn]
    go_enter Tryz.func15, Tryz.ntmps15
    go_wp2
    go_ret
    exact ⟨ret_bool H.out.symm, bel1 _ _⟩
theorem refValid_1 (n : Int) (s : ByteArray) (w : World) :
    Calls Tryz.prog 15 #[.agg #[.int .i64 1, .int .i64 n, .string s]] w fun e w' => e = .returned (.bool (validB 1 n s)) ∧ Below w.heap.size w w' := by
  have H : Hid (validB 1 n s = (s.toList == [])) := by unfold Hid validB; simp
  go_enter Tryz.func15, Tryz.ntmps15
  go_wp2
  go_ret
  exact ⟨ret_bool (by rw [H.out, beq_nil]), bel1 _ _⟩
theorem refValid_2 (n : Int) (s : ByteArray) (w : World) :
    Calls Tryz.prog 15 #[.agg #[.int .i64 2, .int .i64 n, .string s]] w fun e w' => e = .returned (.bool (validB 2 n s)) ∧ Below w.heap.size w w' := by
  cases hs : (s.toList == []) with
  | true =>
    have hs' : s.toList.isEmpty = true := by rw [← beq_nil]; exact hs
    cases hn : (n == 0) with
    | true =>
      have H : Hid (validB 2 n s = true) := by unfold Hid validB; simp [hs, hn]
      clear hs
      go_enter Tryz.func15, Tryz.ntmps15
      go_wp2
      go_ret
      exact ⟨ret_bool H.out.symm, bel1 _ _⟩
    | false =>
      have H : Hid (validB 2 n s = (n == 1)) := by unfold Hid validB; simp [hs, hn]
      clear hs
      go_enter Tryz.func15, Tryz.ntmps15
      go_wp2
      go_ret
      exact ⟨ret_bool H.out.symm, bel1 _ _⟩
  | false =>
    have hs' : s.toList.isEmpty = false := by rw [← beq_nil]; exact hs
    have H : Hid (validB 2 n s = false) := by unfold Hid validB; simp [hs]
    clear hs
    go_enter Tryz.func15, Tryz.ntmps15
    go_wp2
    go_ret
    exact ⟨ret_bool H.out.symm, bel1 _ _⟩
theorem refValid_3 (n : Int) (s : ByteArray) (w : World) (hs : s.size ≤ maxLen) :
    Calls Tryz.prog 15 #[.agg #[.int .i64 3, .int .i64 n, .string s]] w fun e w' => e = .returned (.bool (validB 3 n s)) ∧ Below w.heap.size w w' := by
  unfold maxLen at hs
  cases hn : (n == 0) with
  | true =>
    have H : Hid (validB 3 n s = decide ((s.size : Int) ≤ 60)) := by unfold Hid validB; simp [hn]
    go_enter Tryz.func15, Tryz.ntmps15
    go_wp2
    go_ret
    exact ⟨ret_bool H.out.symm, bel1 _ _⟩
  | false =>
    have H : Hid (validB 3 n s = false) := by unfold Hid validB; simp [hn]
    go_enter Tryz.func15, Tryz.ntmps15
    go_wp2
    go_ret
    exact ⟨ret_bool H.out.symm, bel1 _ _⟩
theorem refValid_x (k n : Int) (s : ByteArray) (w : World) (h0 : k ≠ 0) (h1 : k ≠ 1) (h2 : k ≠ 2) (h3 : k ≠ 3) :
    Calls Tryz.prog 15 #[.agg #[.int .i64 k, .int .i64 n, .string s]] w fun e w' => e = .returned (.bool (validB k n s)) ∧ Below w.heap.size w w' := by
  have H : Hid (validB k n s = false) := by unfold Hid validB; rw [if_neg h0, if_neg h1, if_neg h2, if_neg h3]
  have g0 : (k == 0) = false := by simpa using h0
  have g1 : (k == 1) = false := by simpa using h1
  have g2 : (k == 2) = false := by simpa using h2
  have g3 : (k == 3) = false := by simpa using h3
  clear h0 h1 h2 h3
  go_enter Tryz.func15, Tryz.ntmps15
  go_wp2
  go_ret
  exact ⟨ret_bool H.out.symm, bel1 _ _⟩
theorem refValid_any (k n : Int) (s : ByteArray) (w : World) (hs : s.size ≤ maxLen) :
    Calls Tryz.prog 15 #[.agg #[.int .i64 k, .int .i64 n, .string s]] w fun e w' => e = .returned (.bool (validB k n s)) ∧ Below w.heap.size w w' := by
  by_cases h0 : k = 0
  · subst h0; exact refValid_0 n s w
  by_cases h1 : k = 1
  · subst h1; exact refValid_1 n s w
  by_cases h2 : k = 2
  · subst h2; exact refValid_2 n s w
  by_cases h3 : k = 3
  · subst h3; exact refValid_3 n s w hs
  exact refValid_x k n s w h0 h1 h2 h3

structure V where
  k : Int
  n : Int
  s : ByteArray

/-- 'len' values lie in memory where the slice 'a' begins. -/
def Lies (w : World) (a : Option Addr) (len : Nat) (f : Nat → V) : Prop :=
  ∀ i, i < len → ∃ b off, a = some ⟨b, off, none⟩ ∧ w.cell? ⟨b, off + i * 3, none⟩ = some (.int .i64 (f i).k) ∧ w.cell? ⟨b, off + i * 3 + 1, none⟩ = some (.int .i64 (f i).n) ∧ w.cell? ⟨b, off + i * 3 + 2, none⟩ = some (.string (f i).s) ∧ (f i).s.size ≤ maxLen ∧ -9223372036854775808 ≤ (f i).n ∧ (f i).n ≤ 9223372036854775807
theorem Lies.later {w wx : World} {a : Option Addr} {len : Nat} {f : Nat → V} (h : Lies w a len f) (hb : Below w.heap.size w wx) : Lies wx a len f := fun i hi => by
  obtain ⟨b, off, e, h1, h2, h3, h4⟩ := h i hi
  exact ⟨b, off, e, cell_later hb h1, cell_later hb h2, cell_later hb h3, h4⟩

def vv (v : V) : Bool := validB v.k v.n v.s
def allV (f : Nat → V) (len : Nat) : Bool := (List.range len).all fun i => vv (f i)
theorem allV_true (f : Nat → V) (len : Nat) (h : ∀ i, i < len → vv (f i) = true) : allV f len = true := by
  unfold allV; rw [List.all_eq_true]; intro i hi; exact h i (by simpa using hi)
theorem allV_false (f : Nat → V) (len k : Nat) (hk : k < len) (h : vv (f k) = false) : allV f len = false := by
  unfold allV; rw [List.all_eq_false]; exact ⟨k, by simpa using hk, by simp [h]⟩
def rowB (t : Int) (len : Nat) (f : Nat → V) : Bool := decide (0 ≤ t) && (decide (t ≤ 1099511627776) && (decide ((len : Int) ≤ 8) && allV f len))

end Go.Proofs.YtodkekmfadfjkaaGreatDoor.Vl
