import Derived.Test.YtobhccmnlmlapaaGreatDoorProg
import Derived.WalkKit
import Derived.Below
import Derived.WalkSmall
import Derived.LoopN
import Derived.Laws.StructEq
import Derived.Laws.Cover1
import Derived.Handy
import Derived.KernelRfl
import Derived.Deep.RegionHeld3
import Derived.Deep.DrawnRows
import Derived.Deep.RegionWith
import Derived.Deep.QuietTactic
import Derived.BigQuiet
import Derived.Lib.ItoaLen
import Derived.Deep.AppendLies
import Derived.Laws.OwnMore
import Derived.OwnWalk
import Derived.WideShapes
import Derived.Laws.IdiomStrings
namespace Go.Proofs.YtobhccmnlmlapaaGreatDoor.Vl
open Go.RowKit
set_option linter.unusedVariables false

theorem ret_int {k : IntKind} {a b : Int} (h : a = b) : Ending.returned (.int k a) = .returned (.int k b) := by rw [h]
theorem ret_bool {a b : Bool} (h : a = b) : Ending.returned (.bool a) = .returned (.bool b) := by rw [h]
theorem ret_str {a b : ByteArray} (h : a = b) : Ending.returned (.string a) = .returned (.string b) := by rw [h]
theorem cell_later {w wx : World} {a : Addr} {v : Value} (hb : Below w.heap.size w wx) (h : w.cell? a = some v) : wx.cell? a = some v := (hb.cell (World.block_lt_of_cell? _ _ h)).trans h
theorem bel1 (w : World) (o1 : Obj) : Below w.heap.size w (w.alloc o1) := (Below.refl _ _).alloc (Nat.le_refl _) _
theorem bel1t {w w1 : World} {o : Obj} (h : Below (w.alloc o).drew.heap.size (w.alloc o).drew w1) : Below w.heap.size w w1 := (bel1 w o).drew.trans (h.mono (by simp))

/-- '==' of two values. -/
def eqB (k1 n1 : Int) (s1 : ByteArray) (k2 n2 : Int) (s2 : ByteArray) : Bool := k1 == k2 && (n1 == n2 && s1.toList == s2.toList)

theorem eq24 (k1 n1 : Int) (s1 : ByteArray) (k2 n2 : Int) (s2 : ByteArray) (w : World) :
    (Op.equalIn 10000 48 (.agg #[.int .i64 k1, .int .i64 n1, .string s1]) (.agg #[.int .i64 k2, .int .i64 n2, .string s2])).run Tryz.prog w = .ok (eqB k1 n1 s1 k2 n2 s2) w := by
  have u24 := Tryz.underlying46
  have u2 := Tryz.underlying2
  have u9 := Tryz.underlying9
  have a24 := Tryz.isAgg46
  have z24 := Tryz.sizeOf46
  have a2 := Tryz.isAgg2
  have z2 := Tryz.sizeOf2
  have a9 := Tryz.isAgg9
  have z9 := Tryz.sizeOf9
  have hS : Tryz.prog.underlying 48 = some (.struct (Tryz.prog.fieldsOf 48)) := by kernel_rfl
  rw [show (10000 : Nat) = 9999 + 1 from rfl, run_equalIn_agg w 9999 48 _ _ hS (by kernel_rfl)]
  simp only [Program.fieldsOf, Tryz.underlying48]
  go_simp
  unfold eqB
  by_cases h1 : k1 = k2 <;> by_cases h2 : n1 = n2 <;> by_cases h3 : s1.toList = s2.toList <;> simp [h1, h2, h3]
theorem guard24 : Tryz.prog.eqGuardType Tryz.prog.depth 48 = false := by kernel_rfl
theorem neq24 (k1 n1 : Int) (s1 : ByteArray) (k2 n2 : Int) (s2 : ByteArray) (w : World) :
    (binOp .neq 48 (.agg #[.int .i64 k1, .int .i64 n1, .string s1]) (.agg #[.int .i64 k2, .int .i64 n2, .string s2])).run Tryz.prog w = .ok (.bool (!eqB k1 n1 s1 k2 n2 s2)) w := by
  rw [run_neq_struct, eq24]; rfl
theorem eql24 (k1 n1 : Int) (s1 : ByteArray) (k2 n2 : Int) (s2 : ByteArray) (w : World) :
    (binOp .eql 48 (.agg #[.int .i64 k1, .int .i64 n1, .string s1]) (.agg #[.int .i64 k2, .int .i64 n2, .string s2])).run Tryz.prog w = .ok (.bool (eqB k1 n1 s1 k2 n2 s2)) w := by
  rw [run_eql_struct, eq24]; rfl

attribute [local go_sem ↓] neq24 eql24
attribute [local go_sem] guard24

theorem of_any (n : Int) (w : World) : Calls Tryz.prog 140 #[.int .i64 n] w fun e w' => e = .returned (.agg #[.int .i64 1, .int .i64 n, .string ⟨#[]⟩]) ∧ Below w.heap.size w w' := by
  go_enter Tryz.func140, Tryz.ntmps140
  go_wp2
  exact bodyPost_ret (v := .agg #[.int .i64 1, .int .i64 n, .string ⟨#[]⟩]) (by simp [results, Tryz.results140, go_sem]) rfl ⟨rfl, bel1 _ _⟩
theorem words_any (s : ByteArray) (w : World) : Calls Tryz.prog 142 #[.string s] w fun e w' => e = .returned (.agg #[.int .i64 3, .int .i64 0, .string s]) ∧ Below w.heap.size w w' := by
  go_enter Tryz.func142, Tryz.ntmps142
  go_wp2
  exact bodyPost_ret (v := .agg #[.int .i64 3, .int .i64 0, .string s]) (by simp [results, Tryz.results142, go_sem]) rfl ⟨rfl, bel1 _ _⟩
theorem words_at (s : ByteArray) (w : World) : Calls Tryz.prog 142 #[.string s] w fun e w' => e = .returned (.agg #[.int .i64 3, .int .i64 0, .string s]) ∧ w' = w.alloc (.cells #[.int .i64 3, .int .i64 0, .string s] 48) := by
  go_enter Tryz.func142, Tryz.ntmps142
  go_wp2
  exact bodyPost_ret (v := .agg #[.int .i64 3, .int .i64 0, .string s]) (by simp [results, Tryz.results142, go_sem]) rfl ⟨rfl, rfl⟩
theorem truth_true (w : World) : Calls Tryz.prog 141 #[.bool true] w fun e w' => e = .returned (.agg #[.int .i64 2, .int .i64 1, .string ⟨#[]⟩]) ∧ Below w.heap.size w w' := by
  go_enter Tryz.func141, Tryz.ntmps141
  go_wp2
  exact bodyPost_ret (v := .agg #[.int .i64 2, .int .i64 1, .string ⟨#[]⟩]) (by simp [results, Tryz.results141, go_sem]) rfl ⟨rfl, bel1 _ _⟩
theorem truth_false (w : World) : Calls Tryz.prog 141 #[.bool false] w fun e w' => e = .returned (.agg #[.int .i64 2, .int .i64 0, .string ⟨#[]⟩]) ∧ Below w.heap.size w w' := by
  go_enter Tryz.func141, Tryz.ntmps141
  go_wp2
  exact bodyPost_ret (v := .agg #[.int .i64 2, .int .i64 0, .string ⟨#[]⟩]) (by simp [results, Tryz.results141, go_sem]) rfl ⟨rfl, bel1 _ _⟩

def validB (k n : Int) (s : ByteArray) : Bool :=
  if k = 0 then (n == 0 && s.toList == [])
  else if k = 1 then s.toList == []
  else if k = 2 then s.toList == [] && (n == 0 || n == 1)
  else if k = 3 then n == 0 && decide ((s.size : Int) ≤ 60)
  else false

theorem empty_list : (⟨#[]⟩ : ByteArray).toList = [] := by simp

theorem valid_0 (n : Int) (s : ByteArray) (w : World) :
    Calls Tryz.prog 120 #[.agg #[.int .i64 0, .int .i64 n, .string s]] w fun e w' => e = .returned (.bool (validB 0 n s)) ∧ Below w.heap.size w w' := by
  have H : Hid (validB 0 n s = eqB 0 n s 0 0 ⟨#[]⟩) := by unfold Hid validB eqB; simp
  go_enter Tryz.func120, Tryz.ntmps120
  go_wp2
  go_ret
  exact ⟨ret_bool H.out.symm, bel1 _ _⟩

theorem valid_1 (n : Int) (s : ByteArray) (w : World) :
    Calls Tryz.prog 120 #[.agg #[.int .i64 1, .int .i64 n, .string s]] w fun e w' => e = .returned (.bool (validB 1 n s)) ∧ Below w.heap.size w w' := by
  have H : Hid (validB 1 n s = eqB 1 n s 1 n ⟨#[]⟩) := by unfold Hid validB eqB; simp
  go_enter Tryz.func120, Tryz.ntmps120
  go_wp2
  go_region_held3 (fun w' => w'.cell? ⟨w.heap.size, 0, none⟩ = some (.int .i64 1) ∧ w'.cell? ⟨w.heap.size, 1, none⟩ = some (.int .i64 n) ∧ w'.cell? ⟨w.heap.size, 2, none⟩ = some (.string s))
    (first | go_keep | (go_split_ands; exact ⟨cell_later ‹_› ‹_›, cell_later ‹_› ‹_›, cell_later ‹_› ‹_›⟩))
    (first | (go_at_call 140; refine (of_any _ _).mono ?_; rintro e w1 ⟨rfl, hbb⟩))
  go_wp2
  go_ret
  exact ⟨ret_bool H.out.symm, bel1t hbb⟩

theorem valid_2 (n : Int) (s : ByteArray) (w : World) :
    Calls Tryz.prog 120 #[.agg #[.int .i64 2, .int .i64 n, .string s]] w fun e w' => e = .returned (.bool (validB 2 n s)) ∧ Below w.heap.size w w' := by
  cases hn : (n == 1) with
  | true =>
    have H : Hid (validB 2 n s = eqB 2 n s 2 1 ⟨#[]⟩) := by unfold Hid validB eqB; simp only [empty_list]; cases h : (s.toList == []) <;> simp [hn]
    go_enter Tryz.func120, Tryz.ntmps120
    go_wp2
    go_region_held3 (fun w' => w'.cell? ⟨w.heap.size, 0, none⟩ = some (.int .i64 2) ∧ w'.cell? ⟨w.heap.size, 1, none⟩ = some (.int .i64 n) ∧ w'.cell? ⟨w.heap.size, 2, none⟩ = some (.string s))
      (first | go_keep | (go_split_ands; exact ⟨cell_later ‹_› ‹_›, cell_later ‹_› ‹_›, cell_later ‹_› ‹_›⟩))
      (first | (go_at_call 141; refine (truth_true _).mono ?_; rintro e w1 ⟨rfl, hbb⟩))
    go_wp2
    go_ret
    exact ⟨ret_bool H.out.symm, bel1t hbb⟩
  | false =>
    have H : Hid (validB 2 n s = eqB 2 n s 2 0 ⟨#[]⟩) := by unfold Hid validB eqB; simp only [empty_list]; cases h : (s.toList == []) <;> simp [hn]
    go_enter Tryz.func120, Tryz.ntmps120
    go_wp2
    go_region_held3 (fun w' => w'.cell? ⟨w.heap.size, 0, none⟩ = some (.int .i64 2) ∧ w'.cell? ⟨w.heap.size, 1, none⟩ = some (.int .i64 n) ∧ w'.cell? ⟨w.heap.size, 2, none⟩ = some (.string s))
      (first | go_keep | (go_split_ands; exact ⟨cell_later ‹_› ‹_›, cell_later ‹_› ‹_›, cell_later ‹_› ‹_›⟩))
      (first | (go_at_call 141; refine (truth_false _).mono ?_; rintro e w1 ⟨rfl, hbb⟩))
    go_wp2
    go_ret
    exact ⟨ret_bool H.out.symm, bel1t hbb⟩

theorem valid_3 (n : Int) (s : ByteArray) (w : World) (hs : s.size ≤ maxLen) :
    Calls Tryz.prog 120 #[.agg #[.int .i64 3, .int .i64 n, .string s]] w fun e w' => e = .returned (.bool (validB 3 n s)) ∧ Below w.heap.size w w' := by
  unfold maxLen at hs
  cases hq : eqB 3 n s 3 0 s with
  | true =>
    have H : Hid (validB 3 n s = decide ((s.size : Int) ≤ 60)) := by
      unfold Hid validB; unfold eqB at hq; simp at hq; simp [hq]
    go_enter Tryz.func120, Tryz.ntmps120
    go_wp2
    go_region_held3 (fun w' => w'.cell? ⟨w.heap.size, 0, none⟩ = some (.int .i64 3) ∧ w'.cell? ⟨w.heap.size, 1, none⟩ = some (.int .i64 n) ∧ w'.cell? ⟨w.heap.size, 2, none⟩ = some (.string s))
      (first | go_keep | (go_split_ands; exact ⟨cell_later ‹_› ‹_›, cell_later ‹_› ‹_›, cell_later ‹_› ‹_›⟩))
      (first | (go_at_call 142; refine (words_any _ _).mono ?_; rintro e w1 ⟨rfl, hbb⟩))
    go_wp2
    go_ret
    exact ⟨ret_bool H.out.symm, bel1t hbb⟩
  | false =>
    have H : Hid (validB 3 n s = false) := by
      unfold Hid validB; unfold eqB at hq; simp at hq; simp [hq]
    go_enter Tryz.func120, Tryz.ntmps120
    go_wp2
    first | (go_region_with (first | (go_at_call 142; refine (words_at _ _).mono ?_; rintro e w1 ⟨rfl, rfl⟩))) | fail
    all_goals go_wp2
    all_goals go_ret
    all_goals exact ⟨ret_bool H.out.symm, by repeat (first | exact bel1 _ _ | apply Below.drew | refine Below.alloc ?_ (by simp) _)⟩

theorem valid_x (k n : Int) (s : ByteArray) (w : World) (h0 : k ≠ 0) (h1 : k ≠ 1) (h2 : k ≠ 2) (h3 : k ≠ 3) :
    Calls Tryz.prog 120 #[.agg #[.int .i64 k, .int .i64 n, .string s]] w fun e w' => e = .returned (.bool (validB k n s)) ∧ Below w.heap.size w w' := by
  have H : Hid (validB k n s = false) := by unfold Hid validB; rw [if_neg h0, if_neg h1, if_neg h2, if_neg h3]
  have g0 : (k == 0) = false := by simpa using h0
  have g1 : (k == 1) = false := by simpa using h1
  have g2 : (k == 2) = false := by simpa using h2
  have g3 : (k == 3) = false := by simpa using h3
  clear h0 h1 h2 h3
  go_enter Tryz.func120, Tryz.ntmps120
  go_wp2
  go_ret
  exact ⟨ret_bool H.out.symm, bel1 _ _⟩

theorem valid_any (k n : Int) (s : ByteArray) (w : World) (hs : s.size ≤ maxLen) :
    Calls Tryz.prog 120 #[.agg #[.int .i64 k, .int .i64 n, .string s]] w fun e w' => e = .returned (.bool (validB k n s)) ∧ Below w.heap.size w w' := by
  by_cases h0 : k = 0
  · subst h0; exact valid_0 n s w
  by_cases h1 : k = 1
  · subst h1; exact valid_1 n s w
  by_cases h2 : k = 2
  · subst h2; exact valid_2 n s w
  by_cases h3 : k = 3
  · subst h3; exact valid_3 n s w hs
  exact valid_x k n s w h0 h1 h2 h3
end Go.Proofs.YtobhccmnlmlapaaGreatDoor.Vl
namespace Go.Proofs.YtobhccmnlmlapaaGreatDoor.Vl
open Go.RowKit
set_option linter.unusedVariables false
attribute [local go_sem ↓] neq24 eql24
attribute [local go_sem] guard24

theorem beq_nil (l : List UInt8) : (l == []) = l.isEmpty := by cases l <;> rfl

theorem refValid_0 (n : Int) (s : ByteArray) (w : World) :
    Calls Tryz.prog 89 #[.agg #[.int .i64 0, .int .i64 n, .string s]] w fun e w' => e = .returned (.bool (validB 0 n s)) ∧ Below w.heap.size w w' := by
  cases hn : (n == 0) with
  | true =>
    have H : Hid (validB 0 n s = (s.toList == [])) := by unfold Hid validB; simp [hn]
    go_enter Tryz.func89, Tryz.ntmps89
    go_wp2
    go_ret
    exact ⟨ret_bool (by rw [H.out, beq_nil]), bel1 _ _⟩
  | false =>
    have H : Hid (validB 0 n s = false) := by unfold Hid validB; simp [hn]
    go_enter Tryz.func89, Tryz.ntmps89
    go_wp2
    go_ret
    exact ⟨ret_bool H.out.symm, bel1 _ _⟩
theorem refValid_1 (n : Int) (s : ByteArray) (w : World) :
    Calls Tryz.prog 89 #[.agg #[.int .i64 1, .int .i64 n, .string s]] w fun e w' => e = .returned (.bool (validB 1 n s)) ∧ Below w.heap.size w w' := by
  have H : Hid (validB 1 n s = (s.toList == [])) := by unfold Hid validB; simp
  go_enter Tryz.func89, Tryz.ntmps89
  go_wp2
  go_ret
  exact ⟨ret_bool (by rw [H.out, beq_nil]), bel1 _ _⟩
theorem refValid_2 (n : Int) (s : ByteArray) (w : World) :
    Calls Tryz.prog 89 #[.agg #[.int .i64 2, .int .i64 n, .string s]] w fun e w' => e = .returned (.bool (validB 2 n s)) ∧ Below w.heap.size w w' := by
  cases hs : (s.toList == []) with
  | true =>
    have hs' : s.toList.isEmpty = true := by rw [← beq_nil]; exact hs
    cases hn : (n == 0) with
    | true =>
      have H : Hid (validB 2 n s = true) := by unfold Hid validB; simp [hs, hn]
      clear hs
      go_enter Tryz.func89, Tryz.ntmps89
      go_wp2
      go_ret
      exact ⟨ret_bool H.out.symm, bel1 _ _⟩
    | false =>
      have H : Hid (validB 2 n s = (n == 1)) := by unfold Hid validB; simp [hs, hn]
      clear hs
      go_enter Tryz.func89, Tryz.ntmps89
      go_wp2
      go_ret
      exact ⟨ret_bool H.out.symm, bel1 _ _⟩
  | false =>
    have hs' : s.toList.isEmpty = false := by rw [← beq_nil]; exact hs
    have H : Hid (validB 2 n s = false) := by unfold Hid validB; simp [hs]
    clear hs
    go_enter Tryz.func89, Tryz.ntmps89
    go_wp2
    go_ret
    exact ⟨ret_bool H.out.symm, bel1 _ _⟩
theorem refValid_3 (n : Int) (s : ByteArray) (w : World) (hs : s.size ≤ maxLen) :
    Calls Tryz.prog 89 #[.agg #[.int .i64 3, .int .i64 n, .string s]] w fun e w' => e = .returned (.bool (validB 3 n s)) ∧ Below w.heap.size w w' := by
  unfold maxLen at hs
  cases hn : (n == 0) with
  | true =>
    have H : Hid (validB 3 n s = decide ((s.size : Int) ≤ 60)) := by unfold Hid validB; simp [hn]
    go_enter Tryz.func89, Tryz.ntmps89
    go_wp2
    go_ret
    exact ⟨ret_bool H.out.symm, bel1 _ _⟩
  | false =>
    have H : Hid (validB 3 n s = false) := by unfold Hid validB; simp [hn]
    go_enter Tryz.func89, Tryz.ntmps89
    go_wp2
    go_ret
    exact ⟨ret_bool H.out.symm, bel1 _ _⟩
theorem refValid_x (k n : Int) (s : ByteArray) (w : World) (h0 : k ≠ 0) (h1 : k ≠ 1) (h2 : k ≠ 2) (h3 : k ≠ 3) :
    Calls Tryz.prog 89 #[.agg #[.int .i64 k, .int .i64 n, .string s]] w fun e w' => e = .returned (.bool (validB k n s)) ∧ Below w.heap.size w w' := by
  have H : Hid (validB k n s = false) := by unfold Hid validB; rw [if_neg h0, if_neg h1, if_neg h2, if_neg h3]
  have g0 : (k == 0) = false := by simpa using h0
  have g1 : (k == 1) = false := by simpa using h1
  have g2 : (k == 2) = false := by simpa using h2
  have g3 : (k == 3) = false := by simpa using h3
  clear h0 h1 h2 h3
  go_enter Tryz.func89, Tryz.ntmps89
  go_wp2
  go_ret
  exact ⟨ret_bool H.out.symm, bel1 _ _⟩
theorem refValid_any (k n : Int) (s : ByteArray) (w : World) (hs : s.size ≤ maxLen) :
    Calls Tryz.prog 89 #[.agg #[.int .i64 k, .int .i64 n, .string s]] w fun e w' => e = .returned (.bool (validB k n s)) ∧ Below w.heap.size w w' := by
  by_cases h0 : k = 0
  · subst h0; exact refValid_0 n s w
  by_cases h1 : k = 1
  · subst h1; exact refValid_1 n s w
  by_cases h2 : k = 2
  · subst h2; exact refValid_2 n s w
  by_cases h3 : k = 3
  · subst h3; exact refValid_3 n s w hs
  exact refValid_x k n s w h0 h1 h2 h3

structure V where
  k : Int
  n : Int
  s : ByteArray

/-- 'len' values lie in memory where the slice 'a' begins. -/
def Lies (w : World) (a : Option Addr) (len : Nat) (f : Nat → V) : Prop :=
  ∀ i, i < len → ∃ b off, a = some ⟨b, off, none⟩ ∧ w.cell? ⟨b, off + i * 3, none⟩ = some (.int .i64 (f i).k) ∧ w.cell? ⟨b, off + i * 3 + 1, none⟩ = some (.int .i64 (f i).n) ∧ w.cell? ⟨b, off + i * 3 + 2, none⟩ = some (.string (f i).s) ∧ (f i).s.size ≤ maxLen ∧ -9223372036854775808 ≤ (f i).n ∧ (f i).n ≤ 9223372036854775807
theorem Lies.later {w wx : World} {a : Option Addr} {len : Nat} {f : Nat → V} (h : Lies w a len f) (hb : Below w.heap.size w wx) : Lies wx a len f := fun i hi => by
  obtain ⟨b, off, e, h1, h2, h3, h4⟩ := h i hi
  exact ⟨b, off, e, cell_later hb h1, cell_later hb h2, cell_later hb h3, h4⟩

def vv (v : V) : Bool := validB v.k v.n v.s
def allV (f : Nat → V) (len : Nat) : Bool := (List.range len).all fun i => vv (f i)
theorem allV_true (f : Nat → V) (len : Nat) (h : ∀ i, i < len → vv (f i) = true) : allV f len = true := by
  unfold allV; rw [List.all_eq_true]; intro i hi; exact h i (by simpa using hi)
theorem allV_false (f : Nat → V) (len k : Nat) (hk : k < len) (h : vv (f k) = false) : allV f len = false := by
  unfold allV; rw [List.all_eq_false]; exact ⟨k, by simpa using hk, by simp [h]⟩
def rowB (t : Int) (len : Nat) (f : Nat → V) : Bool := decide (0 ≤ t) && (decide (t ≤ 1099511627776) && (decide ((len : Int) ≤ 8) && allV f len))

end Go.Proofs.YtobhccmnlmlapaaGreatDoor.Vl
namespace Go.Proofs.YtobhccmnlmlapaaGreatDoor.Vl
open Go.RowKit
set_option linter.unusedVariables false

theorem ret_strD {a b : ByteArray} (h : a = b) : Ending.returned (.string a) = .returned (.string b) := by rw [h]

/-- The last digit of a number, as a letter. -/
def dgt (q : Nat) : UInt8 := UInt8.ofNat (48 + q % 10)

theorem slice_digit_nat (d : Nat) (h1 : d < 10) (w : World) :
    (Instr.slice 9 (.string ⟨#[48, 49, 50, 51, 52, 53, 54, 55, 56, 57]⟩) (some (.int .i64 (d : Int))) (some (.int .i64 ((d : Int) + 1))) none).run Tryz.prog w = .ok (.string ⟨#[dgt d]⟩) w := by
  have : d = 0 ∨ d = 1 ∨ d = 2 ∨ d = 3 ∨ d = 4 ∨ d = 5 ∨ d = 6 ∨ d = 7 ∨ d = 8 ∨ d = 9 := by omega
  rcases this with rfl | rfl | rfl | rfl | rfl | rfl | rfl | rfl | rfl | rfl
  all_goals (show Sem.run Tryz.prog _ w = _; kernel_rfl)
theorem slice_digit (q : Nat) (w : World) :
    (Instr.slice 9 (.string ⟨#[48, 49, 50, 51, 52, 53, 54, 55, 56, 57]⟩) (some (.int .i64 ((q : Int) % 10))) (some (.int .i64 ((q : Int) % 10 + 1))) none).run Tryz.prog w = .ok (.string ⟨#[dgt q]⟩) w := by
  have h := slice_digit_nat (q % 10) (by omega) w
  have e : dgt (q % 10) = dgt q := by unfold dgt; rw [Nat.mod_mod]
  rw [e] at h
  exact h

theorem dec_last (q : Nat) (h : q / 10 = 0) : Lib.decDigits q = [dgt q] := by
  have hq : q < 10 := by omega
  rw [Lib.decDigits_one hq]; unfold dgt; rw [Nat.mod_eq_of_lt hq]
theorem dec_more (q : Nat) (h : ¬ q / 10 = 0) : Lib.decDigits q = Lib.decDigits (q / 10) ++ [dgt q] := by
  have hq : ¬ q < 10 := by omega
  rw [Lib.decDigits, dif_neg hq]; rfl
theorem dec_len (n : Nat) (h : n ≤ 9223372036854775808) (q : Nat) (t : List UInt8) (e : Lib.decDigits n = Lib.decDigits q ++ t) : t.length ≤ 20 := by
  have h1 := congrArg List.length e
  rw [List.length_append, Lib.decDigits_length] at h1
  have := Lib.nDigits_le20 n (by omega)
  omega
theorem str_join (a : UInt8) (t : List UInt8) : ((⟨#[a]⟩ : ByteArray) ++ ⟨t.toArray⟩) = ⟨(a :: t).toArray⟩ := by
  apply ByteArray.ext
  simp

set_option maxRecDepth 100000 in
set_option maxHeartbeats 400000 in
theorem decimal_pos (n : Nat) (w : World) (h : n ≤ 9223372036854775807) :
    Calls Tryz.prog 113 #[.int .i64 n] w fun e w' => e = .returned (.string ⟨(Lib.itoa n).toArray⟩) ∧ w' = w := by
  have HI : Hid (Lib.itoa (n : Int) = Lib.decDigits n) := by unfold Hid Lib.itoa; rw [if_neg (by omega)]; simp
  have HN : Hid (n ≤ 9223372036854775807) := h
  have hn0 : ¬ ((n : Int) < 0) := by omega
  clear h
  go_enter Tryz.func113, Tryz.ntmps113
  go_wp2
  go_loop [3, 4] (fun s i => ∃ q : Nat, ∃ t : List UInt8, q ≤ n ∧ i = .int .i64 q ∧ s = .string ⟨t.toArray⟩ ∧ Lib.decDigits n = Lib.decDigits q ++ t) (fun _ i => (intOf i).toNat)
  case atStart => exact ⟨n, [], Nat.le_refl _, rfl, rfl, by simp⟩
  case round =>
    obtain ⟨q, t, hq, rfl, rfl, hd0⟩ := hrel
    have hl := dec_len n (by have := HN.out; omega) q t hd0
    have HD : Hid (Lib.decDigits n = Lib.decDigits q ++ t) := hd0
    have h0 : (0 : Int) ≤ (q : Int) := by omega
    have h1 : (q : Int) ≤ 9223372036854775807 := by have := HN.out; omega
    have hm : ¬ ((q : Int) % 10 < 0) := by omega
    have hs := slice_digit q
    clear hd0
    by_cases hz : q / 10 = 0
    · have hzb : ((q : Int) / 10 == 0) = true := by simp; omega
      have HF : Hid (Lib.itoa (n : Int) = dgt q :: t) := by unfold Hid; rw [HI.out, HD.out, dec_last q hz]; rfl
      clear hz
      go_wp2
      go_ret
      exact ⟨ret_strD (by rw [HF.out, str_join]), rfl⟩
    · have hzb : ((q : Int) / 10 == 0) = false := by simp; omega
      have HF : Hid (Lib.decDigits n = Lib.decDigits (q / 10) ++ (dgt q :: t)) := by unfold Hid; rw [HD.out, dec_more q hz]; simp
      have HZ : Hid (¬ q / 10 = 0) := hz
      clear hz
      go_wp2
      refine ⟨⟨q / 10, dgt q :: t, by omega, by go_num, by rw [str_join], HF.out⟩, ?_⟩
      have := HZ.out
      simp [intOf]
      omega

set_option maxRecDepth 100000 in
set_option maxHeartbeats 400000 in
theorem decimal_neg (n : Nat) (w : World) (h : n ≤ 9223372036854775808) (hp : 0 < n) :
    Calls Tryz.prog 113 #[.int .i64 (-(n : Int))] w fun e w' => e = .returned (.string ⟨(Lib.itoa (-(n : Int))).toArray⟩) ∧ w' = w := by
  have HI : Hid (Lib.itoa (-(n : Int)) = 45 :: Lib.decDigits n) := by unfold Hid Lib.itoa; rw [if_pos (by omega)]; simp
  have HN : Hid (n ≤ 9223372036854775808) := h
  have hn0 : (-(n : Int) < 0) := by omega
  clear h
  go_enter Tryz.func113, Tryz.ntmps113
  go_wp2
  go_loop [3, 4] (fun s i => ∃ q : Nat, ∃ t : List UInt8, 0 < q ∧ q ≤ n ∧ i = .int .i64 (-(q : Int)) ∧ s = .string ⟨t.toArray⟩ ∧ Lib.decDigits n = Lib.decDigits q ++ t) (fun _ i => (-(intOf i)).toNat)
  case atStart => exact ⟨n, [], hp, Nat.le_refl _, rfl, rfl, by simp⟩
  case round =>
    obtain ⟨q, t, hq0, hq, rfl, rfl, hd0⟩ := hrel
    have hl := dec_len n (by have := HN.out; omega) q t hd0
    have HD : Hid (Lib.decDigits n = Lib.decDigits q ++ t) := hd0
    have h0 : (0 : Int) ≤ (q : Int) := by omega
    have h1 : (q : Int) ≤ 9223372036854775808 := by have := HN.out; omega
    have et : (-(q : Int)).tmod 10 = -((q : Int) % 10) := by rw [Int.neg_tmod, Int.tmod_eq_emod_of_nonneg h0]
    have ed : (-(q : Int)).tdiv 10 = -((q : Int) / 10) := by rw [Int.neg_tdiv, Int.tdiv_eq_ediv_of_nonneg h0]
    have hs := slice_digit q
    clear hd0
    by_cases hm : (q : Int) % 10 = 0
    · have hm' : ¬ (-((q : Int) % 10) < 0) := by omega
      have HF : Hid (Lib.decDigits n = Lib.decDigits (q / 10) ++ (dgt q :: t)) := by unfold Hid; rw [HD.out, dec_more q (by omega)]; simp
      have HZ : Hid ((⟨#[48, 49, 50, 51, 52, 53, 54, 55, 56, 57]⟩ : ByteArray).extract 0 1 = ⟨#[dgt q]⟩) := by
        unfold Hid dgt; rw [show q % 10 = 0 by omega]; decide +kernel
      go_wp2
      refine ⟨⟨q / 10, dgt q :: t, by omega, by omega, by go_num, by rw [HZ.out, str_join], HF.out⟩, ?_⟩
      simp [intOf]
      omega
    · have hm' : (-((q : Int) % 10) < 0) := by omega
      by_cases hz : q / 10 = 0
      · have hzb : (-((q : Int) / 10) == 0) = true := by simp; omega
        have HF : Hid (Lib.itoa (-(n : Int)) = 45 :: dgt q :: t) := by unfold Hid; rw [HI.out, HD.out, dec_last q hz]; rfl
        clear hz
        go_wp2
        go_ret
        exact ⟨ret_strD (by rw [HF.out, str_join, str_join]), rfl⟩
      · have hzb : (-((q : Int) / 10) == 0) = false := by simp; omega
        have HF : Hid (Lib.decDigits n = Lib.decDigits (q / 10) ++ (dgt q :: t)) := by unfold Hid; rw [HD.out, dec_more q hz]; simp
        have HZ : Hid (¬ q / 10 = 0) := hz
        clear hz
        go_wp2
        refine ⟨⟨q / 10, dgt q :: t, by have := HZ.out; omega, by omega, by go_num, by rw [str_join], HF.out⟩, ?_⟩
        have := HZ.out
        simp [intOf]
        omega

theorem decimal_any (n : Int) (w : World) (h0 : -9223372036854775808 ≤ n) (h1 : n ≤ 9223372036854775807) :
    Calls Tryz.prog 113 #[.int .i64 n] w fun e w' => e = .returned (.string ⟨(Lib.itoa n).toArray⟩) ∧ w' = w := by
  by_cases hn : n < 0
  · obtain ⟨u, rfl⟩ : ∃ u : Nat, n = -(u : Int) := ⟨n.natAbs, by omega⟩
    exact decimal_neg u w (by omega) (by omega)
  · obtain ⟨u, rfl⟩ : ∃ u : Nat, n = (u : Int) := ⟨n.toNat, by omega⟩
    exact decimal_pos u w (by omega)
end Go.Proofs.YtobhccmnlmlapaaGreatDoor.Vl
namespace Go.Proofs.YtobhccmnlmlapaaGreatDoor.Vl
open Go.RowKit
set_option linter.unusedVariables false

def bareB (c : UInt8) : Bool := decide (32 ≤ c.toNat) && (decide (c.toNat ≤ 126) && (!(c.toNat == 39) && !(c.toNat == 92)))
def hexd (d : Nat) : UInt8 := if d < 10 then UInt8.ofNat (48 + d) else UInt8.ofNat (87 + d)
def esc (c : UInt8) : List UInt8 := if bareB c = true then [c] else [92, hexd (c.toNat / 16), hexd (c.toNat % 16)]
def escAll (l : List UInt8) : List UInt8 := l.flatMap esc
theorem escAll_snoc (l : List UInt8) (c : UInt8) : escAll (l ++ [c]) = escAll l ++ esc c := by unfold escAll; simp
theorem esc_len (c : UInt8) : (esc c).length ≤ 3 := by unfold esc; split <;> simp
theorem escAll_len : ∀ l : List UInt8, (escAll l).length ≤ 3 * l.length
  | [] => by simp [escAll]
  | c :: l => by
    have h1 := escAll_len l
    have h2 := esc_len c
    unfold escAll at *
    simp only [List.flatMap_cons, List.length_append, List.length_cons]
    omega


theorem slice_hex_nat (d : Nat) (h1 : d < 16) (w : World) :
    (Instr.slice 9 (.string ⟨#[48, 49, 50, 51, 52, 53, 54, 55, 56, 57, 97, 98, 99, 100, 101, 102]⟩) (some (.int .u8 (d : Int))) (some (.int .u8 ((d : Int) + 1))) none).run Tryz.prog w = .ok (.string ⟨#[hexd d]⟩) w := by
  have : d = 0 ∨ d = 1 ∨ d = 2 ∨ d = 3 ∨ d = 4 ∨ d = 5 ∨ d = 6 ∨ d = 7 ∨ d = 8 ∨ d = 9 ∨ d = 10 ∨ d = 11 ∨ d = 12 ∨ d = 13 ∨ d = 14 ∨ d = 15 := by omega
  rcases this with rfl | rfl | rfl | rfl | rfl | rfl | rfl | rfl | rfl | rfl | rfl | rfl | rfl | rfl | rfl | rfl
  all_goals (show Sem.run Tryz.prog _ w = _; kernel_rfl)
theorem slice_hex_hi (c : Nat) (h : c < 256) (w : World) :
    (Instr.slice 9 (.string ⟨#[48, 49, 50, 51, 52, 53, 54, 55, 56, 57, 97, 98, 99, 100, 101, 102]⟩) (some (.int .u8 ((c : Int) / 16))) (some (.int .u8 ((c : Int) / 16 + 1))) none).run Tryz.prog w = .ok (.string ⟨#[hexd (c / 16)]⟩) w :=
  slice_hex_nat (c / 16) (by omega) w
theorem slice_hex_lo (c : Nat) (w : World) :
    (Instr.slice 9 (.string ⟨#[48, 49, 50, 51, 52, 53, 54, 55, 56, 57, 97, 98, 99, 100, 101, 102]⟩) (some (.int .u8 ((c : Int) % 16))) (some (.int .u8 ((c : Int) % 16 + 1))) none).run Tryz.prog w = .ok (.string ⟨#[hexd (c % 16)]⟩) w :=
  slice_hex_nat (c % 16) (by omega) w

theorem slice_one (t : ByteArray) (k : Nat) (h : k < t.size) (w : World) :
    (Instr.slice 9 (.string t) (some (.int .i64 (k : Int))) (some (.int .i64 ((k : Int) + 1))) none).run Tryz.prog w = .ok (.string ⟨#[t[k]]⟩) w := by
  have e : t.extract k (k + 1) = ⟨#[t[k]]⟩ := by
    apply ByteArray.ext
    apply Array.ext
    · simp; omega
    · intro i h1 h2
      have hi : i = 0 := by simp at h2; omega
      subst hi
      simp
      rfl
  rw [run_slice_string w 9 t .i64 .i64 k ((k : Int) + 1) Tryz.underlying9 (by omega) (by omega) (by omega)]
  rw [show ((k : Int) + 1).toNat = k + 1 by omega, Int.toNat_natCast, e]

theorem take_snoc (s : ByteArray) (k : Nat) (h : k < s.size) : s.data.toList.take (k + 1) = s.data.toList.take k ++ [s[k]] := by
  rw [List.take_succ_eq_append_getElem (by simpa using h)]; rfl

/-- The four ways in which a letter is odd, or that it is not: the tests in the order of the text. -/
theorem bare_cases (c : UInt8) : (bareB c = true ∧ ¬ ((c.toNat : Int) < 32) ∧ ¬ (126 < (c.toNat : Int)) ∧ ((c.toNat : Int) == 39) = false ∧ ((c.toNat : Int) == 92) = false) ∨
    (bareB c = false ∧ (c.toNat : Int) < 32) ∨ (bareB c = false ∧ ¬ ((c.toNat : Int) < 32) ∧ 126 < (c.toNat : Int)) ∨
    (bareB c = false ∧ ¬ ((c.toNat : Int) < 32) ∧ ¬ (126 < (c.toNat : Int)) ∧ ((c.toNat : Int) == 39) = true) ∨
    (bareB c = false ∧ ¬ ((c.toNat : Int) < 32) ∧ ¬ (126 < (c.toNat : Int)) ∧ ((c.toNat : Int) == 39) = false ∧ ((c.toNat : Int) == 92) = true) := by
  unfold bareB
  by_cases h1 : c.toNat < 32
  · right; left; simp; omega
  by_cases h2 : 126 < c.toNat
  · right; right; left; simp; omega
  by_cases h3 : c.toNat = 39
  · right; right; right; left; simp [h3]
  by_cases h4 : c.toNat = 92
  · right; right; right; right; simp [h4]
  left; simp; omega

theorem str_join3 (X : List UInt8) (a b : UInt8) : ((((⟨(39 :: X).toArray⟩ : ByteArray) ++ ⟨#[92]⟩) ++ ⟨#[a]⟩) ++ ⟨#[b]⟩) = ⟨(39 :: (X ++ [92, a, b])).toArray⟩ := by
  apply ByteArray.ext
  simp
theorem str_join1 (X : List UInt8) (a : UInt8) : ((⟨(39 :: X).toArray⟩ : ByteArray) ++ ⟨#[a]⟩) = ⟨(39 :: (X ++ [a])).toArray⟩ := by
  apply ByteArray.ext
  simp
theorem str_end (X : List UInt8) : ((⟨(39 :: X).toArray⟩ : ByteArray) ++ ⟨#[39]⟩) = ⟨(39 :: (X ++ [39])).toArray⟩ := by
  apply ByteArray.ext
  simp
theorem ret_str' {a b : ByteArray} (h : a = b) : Ending.returned (.string a) = .returned (.string b) := by rw [h]

set_option maxRecDepth 100000 in
set_option maxHeartbeats 1000000 in
theorem quote_any (t : ByteArray) (w : World) (h : t.size ≤ 60) :
    Calls Tryz.prog 114 #[.string t] w fun e w' => e = .returned (.string ⟨(39 :: escAll t.data.toList ++ [39]).toArray⟩) ∧ ∃ n, w' = w.drewN n := by
  go_enter Tryz.func114, Tryz.ntmps114
  go_wp2
  go_loopw [3, 4] (fun s i w' => ∃ k : Nat, ∃ m : Nat, k ≤ t.size ∧ i = .int .i64 k ∧ s = .string ⟨(39 :: escAll (t.data.toList.take k)).toArray⟩ ∧ w' = w.drewN m) (fun _ i _ => t.size - (intOf i).toNat)
  case atStart => exact ⟨0, 0, Nat.zero_le _, rfl, rfl, rfl⟩
  case round =>
    obtain ⟨k, m, hk, rfl, rfl, rfl⟩ := hrel
    by_cases hlt : k < t.size
    · have hi : (k : Int) < (t.size : Int) := by omega
      have hl := escAll_len (t.data.toList.take k)
      have hll : (t.data.toList.take k).length ≤ k := List.length_take_le _ _
      have HX : (escAll (t.data.toList.take k)).length ≤ 180 := by omega
      have HE : Hid (escAll (t.data.toList.take (k + 1)) = escAll (t.data.toList.take k) ++ esc t[k]) := by unfold Hid; rw [take_snoc t k hlt, escAll_snoc]
      clear hl hll
      have s1 := slice_hex_hi t[k].toNat (UInt8.toNat_lt _)
      have s2 := slice_hex_lo t[k].toNat
      have hc := bare_cases t[k]
      generalize hXX : escAll (t.data.toList.take k) = X at *
      clear hXX
      have hsl := slice_one t k hlt
      have b1 : (9223372036854775807 < X.length + 1 + 1) = False := by simp; omega
      have b2 : (9223372036854775807 < X.length + 1 + 1 + 1) = False := by simp; omega
      have b3 : (9223372036854775807 < X.length + 1 + 1 + 1 + 1) = False := by simp; omega
      have t1 : (0 : Int) ≤ (t[k].toNat : Int) := by omega
      have t2 : (t[k].toNat : Int) ≤ 255 := by have := UInt8.toNat_lt t[k]; omega
      rcases hc with ⟨hb, c1, c2, c3, c4⟩ | hc
      · have HE' : Hid (escAll (t.data.toList.take (k + 1)) = X ++ [t[k]]) := by unfold Hid; rw [HE.out]; unfold esc; rw [if_pos hb]
        clear HE hb
        go_wp2
        go_roundw
        case rel => exact ⟨k + 1, _, by omega, by go_num, by rw [HE'.out, ← str_join1], rfl⟩
        case measure => simp [intOf]; omega
      · have hb : bareB t[k] = false := by rcases hc with h | h | h | h <;> exact h.1
        have HE' : Hid (escAll (t.data.toList.take (k + 1)) = X ++ [92, hexd (t[k].toNat / 16), hexd (t[k].toNat % 16)]) := by unfold Hid; rw [HE.out]; unfold esc; rw [if_neg (by simp [hb])]
        clear HE hb
        rcases hc with ⟨_, c1⟩ | ⟨_, c1, c2⟩ | ⟨_, c1, c2, c3⟩ | ⟨_, c1, c2, c3, c4⟩
        all_goals
          go_wp2
          go_quiet (fail)
          go_wp2
          go_roundw
          case rel => exact ⟨k + 1, _, by omega, by go_num, by rw [HE'.out, ← str_join3], rfl⟩
          case measure => simp [intOf]; omega
    · have hk' : k = t.size := by omega
      have HF : Hid (escAll (t.data.toList.take k) = escAll t.data.toList) := by unfold Hid; rw [List.take_of_length_le (by simp; omega)]
      have hl := escAll_len (t.data.toList.take k)
      have hll : (t.data.toList.take k).length ≤ k := List.length_take_le _ _
      have HX : (escAll (t.data.toList.take k)).length ≤ 180 := by omega
      clear hl hll hk'
      generalize hXX : escAll (t.data.toList.take k) = X at *
      clear hXX
      go_wp2
      go_ret
      exact ⟨ret_str' (by rw [← HF.out, ← str_end]), _, rfl⟩
end Go.Proofs.YtobhccmnlmlapaaGreatDoor.Vl
namespace Go.Proofs.YtobhccmnlmlapaaGreatDoor.Vl
open Go.RowKit
set_option linter.unusedVariables false
attribute [local go_sem ↓] Go.wp_at_zero Go.wp_at_succ

def u8v (c : UInt8) : Value := .int .u8 (c.toNat : Int)

theorem bare_any (c : UInt8) (w : World) : Calls Tryz.prog 159 #[.int .u8 (c.toNat : Int)] w fun e w' => e = .returned (.bool (bareB c)) ∧ w' = w := by
  have t1 : (0 : Int) ≤ (c.toNat : Int) := by omega
  have t2 : (c.toNat : Int) ≤ 255 := by have := UInt8.toNat_lt c; omega
  rcases bare_cases c with ⟨hb, c1, c2, c3, c4⟩ | ⟨hb, c1⟩ | ⟨hb, c1, c2⟩ | ⟨hb, c1, c2, c3⟩ | ⟨hb, c1, c2, c3, c4⟩
  · have HB : Hid (bareB c = true) := hb
    have d3 : ((c.toNat : Int) != 39) = true := by rw [bne, c3]; rfl
    have d4 : ((c.toNat : Int) != 92) = true := by rw [bne, c4]; rfl
    clear hb c3 c4
    go_enter Tryz.func159, Tryz.ntmps159
    go_wp2
    go_ret
    exact ⟨by rw [HB.out]; rfl, rfl⟩
  · have HB : Hid (bareB c = false) := hb
    clear hb
    go_enter Tryz.func159, Tryz.ntmps159
    go_wp2
    go_ret
    exact ⟨by rw [HB.out]; rfl, rfl⟩
  · have HB : Hid (bareB c = false) := hb
    clear hb
    go_enter Tryz.func159, Tryz.ntmps159
    go_wp2
    go_ret
    exact ⟨by rw [HB.out]; rfl, rfl⟩
  · have HB : Hid (bareB c = false) := hb
    have d3 : ((c.toNat : Int) != 39) = false := by rw [bne, c3]; rfl
    clear hb c3
    go_enter Tryz.func159, Tryz.ntmps159
    go_wp2
    go_ret
    exact ⟨by rw [HB.out]; rfl, rfl⟩
  · have HB : Hid (bareB c = false) := hb
    have d3 : ((c.toNat : Int) != 39) = true := by rw [bne, c3]; rfl
    have d4 : ((c.toNat : Int) != 92) = false := by rw [bne, c4]; rfl
    clear hb c3 c4
    go_enter Tryz.func159, Tryz.ntmps159
    go_wp2
    go_ret
    exact ⟨by rw [HB.out]; rfl, rfl⟩

theorem and15 (n : Nat) (h : n < 256) : bits .and .u8 (n : Int) 15 = (n : Int) % 16 := by
  revert n; decide +kernel
theorem index_nat (d : Nat) (h1 : d < 16) (w : World) :
    (Instr.index 9 (.string ⟨#[48, 49, 50, 51, 52, 53, 54, 55, 56, 57, 97, 98, 99, 100, 101, 102]⟩) (.int .u8 (d : Int))).run Tryz.prog w = .ok (u8v (hexd d)) w := by
  have : d = 0 ∨ d = 1 ∨ d = 2 ∨ d = 3 ∨ d = 4 ∨ d = 5 ∨ d = 6 ∨ d = 7 ∨ d = 8 ∨ d = 9 ∨ d = 10 ∨ d = 11 ∨ d = 12 ∨ d = 13 ∨ d = 14 ∨ d = 15 := by omega
  rcases this with rfl | rfl | rfl | rfl | rfl | rfl | rfl | rfl | rfl | rfl | rfl | rfl | rfl | rfl | rfl | rfl
  all_goals (show Sem.run Tryz.prog _ w = _; kernel_rfl)
theorem index_hi (c : UInt8) (w : World) :
    (Instr.index 9 (.string ⟨#[48, 49, 50, 51, 52, 53, 54, 55, 56, 57, 97, 98, 99, 100, 101, 102]⟩) (.int .u8 ((c.toNat : Int) / 16))).run Tryz.prog w = .ok (.int .u8 ((hexd (c.toNat / 16)).toNat : Int)) w :=
  index_nat (c.toNat / 16) (by have := UInt8.toNat_lt c; omega) w
theorem index_lo (c : UInt8) (w : World) :
    (Instr.index 9 (.string ⟨#[48, 49, 50, 51, 52, 53, 54, 55, 56, 57, 97, 98, 99, 100, 101, 102]⟩) (.int .u8 ((c.toNat : Int) % 16))).run Tryz.prog w = .ok (.int .u8 ((hexd (c.toNat % 16)).toNat : Int)) w :=
  index_nat (c.toNat % 16) (by omega) w
attribute [local go_sem ↓] index_hi index_lo

theorem info5 : (Tryz.prog.info? 5).map (fun i => (i.zero, i.size, i.bytes)) = some (some (.int .u8 0), 1, 1) := by kernel_rfl

theorem conv_own {w1 : World} {B g n cap : Nat} (l : List UInt8) (h : w1.ownsRow B 5 1 (.slice (some ⟨g, 0, none⟩) n cap) n (l.map u8v)) :
    (convert 39 9 (.slice (some ⟨g, 0, none⟩) n cap)).run Tryz.prog w1 = .ok (.string ⟨l.toArray⟩) w1 := by
  have hn : l.length = n := by have := h.1; simpa using this
  subst hn
  refine run_convert_bytes_back w1 39 9 5 ⟨g, 0, none⟩ cap l Tryz.underlying39 Tryz.underlying5 Tryz.underlying9 ?_
  intro j hj
  have := h.cellAt j (by omega)
  rw [Go.WideShapes.add_plain, Nat.zero_add, this]
  simp [hj, u8v]

set_option maxRecDepth 100000 in
set_option maxHeartbeats 1000000 in
theorem quoted_any (t : ByteArray) (w : World) (h : t.size ≤ 60) :
    Calls Tryz.prog 145 #[.string t] w fun e w' => e = .returned (.string ⟨(39 :: escAll t.data.toList ++ [39]).toArray⟩) ∧ Below w.heap.size w w' := by
  obtain ⟨i0, hi0, hz0, hz1, hz2⟩ := info_parts info5
  go_enter Tryz.func145, Tryz.ntmps145
  go_wp2
  go_loopw [3, 9] (fun v i w' => ∃ k : Nat, k ≤ t.size ∧ i = .int .i64 k ∧ w'.ownsRow w.heap.size 5 1 v (1 + (escAll (t.data.toList.take k)).length) ((39 :: escAll (t.data.toList.take k)).map u8v) ∧ Below w.heap.size w w') (fun _ i _ => t.size - (intOf i).toNat)
  case atStart => exact ⟨0, Nat.zero_le _, rfl, World.ownsRow_lit w #[.int .u8 39] 1 (Nat.le_refl _) (by decide) rfl, (Below.refl _ _).alloc (Nat.le_refl _) _⟩
  case round =>
    obtain ⟨k, hk, rfl, hown, hb⟩ := hrel
    have hbs := hb.size
    by_cases hlt : k < t.size
    · have hi : (k : Int) < (t.size : Int) := by omega
      have hl := escAll_len (t.data.toList.take k)
      have hll : (t.data.toList.take k).length ≤ k := List.length_take_le _ _
      have HX : (escAll (t.data.toList.take k)).length ≤ 180 := by omega
      have HE : Hid (escAll (t.data.toList.take (k + 1)) = escAll (t.data.toList.take k) ++ esc t[k]) := by unfold Hid; rw [take_snoc t k hlt, escAll_snoc]
      clear hl hll
      generalize hXX : escAll (t.data.toList.take k) = X at *
      clear hXX
      have t1 : (0 : Int) ≤ (t[k].toNat : Int) := by omega
      have t2 : (t[k].toNat : Int) ≤ 255 := by have := UInt8.toNat_lt t[k]; omega
      cases hbr : bareB t[k] with
      | true =>
        have HE' : Hid (escAll (t.data.toList.take (k + 1)) = X ++ [t[k]]) := by unfold Hid; rw [HE.out]; unfold esc; rw [if_pos hbr]
        have HO : Hid (wr.ownsRow w.heap.size 5 1 u3 (1 + X.length) ((39 :: X).map u8v)) := hown
        clear HE hown
        go_wp2_with (first
          | (go_at_call 159; refine (bare_any _ _).mono ?_; rw [hbr]; rintro e w2 ⟨rfl, hw2⟩; have hw3 := hw2.symm; subst hw3)
          | (at_builtin; refine wpList_append_own _ rfl _ _ 39 rfl w.heap.size 5 i0 (.int .u8 0) 1 1 Tryz.underlying39 hi0 hz0 hz1 hz2 rfl (by decide) _ _ _ rfl (HO.out.alloc _) ⟨wr.heap.size, 0, none⟩ 1 1 [u8v t[k]] rfl rfl ?c1 ?c2 ?c3 ?c4 ?c5 ?_))
        case c1 =>
          intro j u hj
          match j, hj with
          | 0, hj => simp at hj; subst hj; simp [Addr.add, u8v]
        case c2 => intro u hu; simp at hu; subst hu; rfl
        case c3 => unfold maxLen; omega
        case c4 => omega
        case c5 => simp; omega
        · intro v' w1 hown' hgrow _
          have hB : Below w.heap.size w w1 := (hb.alloc hbs _).grown hgrow (by simp; omega) (fun j hj => (HO.out.lt j hj).1)
          have HO' : Hid (w1.ownsRow w.heap.size 5 1 v' (1 + (X ++ [t[k]]).length) ((39 :: (X ++ [t[k]])).map u8v)) := by unfold Hid; simpa [Nat.add_assoc] using hown'
          clear hown' hgrow HO hb
          go_wp2
          go_roundw
          case rel => exact ⟨k + 1, by omega, by go_num, by rw [HE'.out]; exact HO'.out, hB⟩
          case measure => simp [intOf]; omega
      | false =>
        have HE' : Hid (escAll (t.data.toList.take (k + 1)) = X ++ [92, hexd (t[k].toNat / 16), hexd (t[k].toNat % 16)]) := by unfold Hid; rw [HE.out]; unfold esc; rw [if_neg (by simp [hbr])]
        have HO : Hid (wr.ownsRow w.heap.size 5 1 u3 (1 + X.length) ((39 :: X).map u8v)) := hown
        have ha := and15 t[k].toNat (UInt8.toNat_lt _)
        clear HE hown
        go_wp2_with (first | (go_at_call 159; refine (bare_any _ _).mono ?_; rw [hbr]; rintro e w2 ⟨rfl, hw2⟩; have hw3 := hw2.symm; subst hw3) | (at_builtin; fail))
        go_region_held3 (fun _ => True) (trivial) ((refine step_append_lies _ (by rfl) _ _ 39 (by rfl) w.heap.size 5 i0 (.int .u8 0) 1 1 Tryz.underlying39 hi0 hz0 hz1 hz2 rfl (by decide) u3 (1 + X.length) ((39 :: X).map u8v) (by rfl) (HO.out.drew.alloc _) ⟨wr.heap.size, 0, none⟩ 3 3 [u8v 92, u8v (hexd (t[k].toNat / 16)), u8v (hexd (t[k].toNat % 16))] (by rfl) (by rfl) (by intro j u hj; match j, hj with | 0, hj => (simp at hj; subst hj; simp [Addr.add, u8v]) | 1, hj => (simp at hj; subst hj; simp [Addr.add, u8v]) | 2, hj => (simp at hj; subst hj; simp [Addr.add, u8v])) (by intro u hu; simp at hu; rcases hu with rfl | rfl | rfl <;> rfl) (by decide) (by unfold maxLen; omega) (by omega) (by simp; omega) _ rfl ?_; intro g cap w1 hown' hgrow hat hlt1))
        all_goals
          have hB : Below w.heap.size w w1 := (hb.drew.alloc hbs _).grown hgrow (by simp; omega) (fun j hj => (HO.out.lt j hj).1)
          have HO' : Hid (w1.ownsRow w.heap.size 5 1 (Value.slice (some ⟨g, 0, none⟩) (1 + X.length + 3) cap) (1 + (X ++ [92, hexd (t[k].toNat / 16), hexd (t[k].toNat % 16)]).length) ((39 :: (X ++ [92, hexd (t[k].toNat / 16), hexd (t[k].toNat % 16)])).map u8v)) := by unfold Hid; simpa [Nat.add_assoc] using hown'
          clear hown' hgrow HO hb hat
          go_wp2
          go_roundw
          case rel => exact ⟨k + 1, by omega, by go_num, by rw [HE'.out]; exact HO'.out, hB⟩
          case measure => simp [intOf]; omega
    · have HF : Hid (escAll (t.data.toList.take k) = escAll t.data.toList) := by unfold Hid; rw [List.take_of_length_le (by simp; omega)]
      have hl := escAll_len (t.data.toList.take k)
      have hll : (t.data.toList.take k).length ≤ k := List.length_take_le _ _
      have HX : (escAll (t.data.toList.take k)).length ≤ 180 := by omega
      clear hl hll
      generalize hXX : escAll (t.data.toList.take k) = X at *
      clear hXX
      have HO : Hid (wr.ownsRow w.heap.size 5 1 u3 (1 + X.length) ((39 :: X).map u8v)) := hown
      clear hown
      go_wp2_with (first
          | (at_builtin; refine wpList_append_lies _ rfl _ _ 39 rfl w.heap.size 5 i0 (.int .u8 0) 1 1 Tryz.underlying39 hi0 hz0 hz1 hz2 rfl (by decide) u3 (1 + X.length) ((39 :: X).map u8v) rfl (HO.out.alloc _) ⟨wr.heap.size, 0, none⟩ 1 1 [u8v 39] rfl rfl (by intro j u hj; match j, hj with | 0, hj => (simp at hj; subst hj; simp [Addr.add, u8v])) (by intro u hu; simp at hu; subst hu; rfl) (by decide) (by unfold maxLen; omega) (by omega) (by simp; omega) _ rfl ?_; intro g cap w1 hown' hgrow hat hlt1; have hcv := conv_own (39 :: (X ++ [39])) (by simpa using hown')))
      have hB : Below w.heap.size w w1 := (hb.alloc hbs _).grown hgrow (by simp; omega) (fun j hj => (HO.out.lt j hj).1)
      go_ret
      exact ⟨ret_str' (by rw [← HF.out]), hB⟩
end Go.Proofs.YtobhccmnlmlapaaGreatDoor.Vl
