import Derived.Test.YtodkekmfadfjkaaGreatDoorProg
import Derived.WalkKit
import Derived.Below
import Derived.WalkSmall
import Derived.LoopN
import Derived.Laws.StructEq
import Derived.Laws.Cover1
import Derived.Handy
import Derived.KernelRfl
import Derived.Deep.RegionHeld3
import Derived.Deep.DrawnRows
import Derived.Deep.RegionWith
import Derived.Deep.QuietTactic
import Derived.BigQuiet
namespace Go.Proofs.YtodkekmfadfjkaaGreatDoor.Vl
open Go.RowKit
set_option linter.unusedVariables false

theorem ret_int {k : IntKind} {a b : Int} (h : a = b) : Ending.returned (.int k a) = .returned (.int k b) := by rw [h]
theorem ret_bool {a b : Bool} (h : a = b) : Ending.returned (.bool a) = .returned (.bool b) := by rw [h]
theorem ret_str {a b : ByteArray} (h : a = b) : Ending.returned (.string a) = .returned (.string b) := by rw [h]
theorem cell_later {w wx : World} {a : Addr} {v : Value} (hb : Below w.heap.size w wx) (h : w.cell? a = some v) : wx.cell? a = some v := (hb.cell (World.block_lt_of_cell? _ _ h)).trans h
theorem bel1 (w : World) (o1 : Obj) : Below w.heap.size w (w.alloc o1) := (Below.refl _ _).alloc (Nat.le_refl _) _
theorem bel1t {w w1 : World} {o : Obj} (h : Below (w.alloc o).drew.heap.size (w.alloc o).drew w1) : Below w.heap.size w w1 := (bel1 w o).drew.trans (h.mono (by simp))

/-- '==' of two values. -/
def eqB (k1 n1 : Int) (s1 : ByteArray) (k2 n2 : Int) (s2 : ByteArray) : Bool := k1 == k2 && (n1 == n2 && s1.toList == s2.toList)

theorem eq24 (k1 n1 : Int) (s1 : ByteArray) (k2 n2 : Int) (s2 : ByteArray) (w : World) :
    (Op.equalIn 10000 39 (.agg #[.int .i64 k1, .int .i64 n1, .string s1]) (.agg #[.int .i64 k2, .int .i64 n2, .string s2])).run Tryz.prog w = .ok (eqB k1 n1 s1 k2 n2 s2) w := by
  have u24 := Tryz.underlying37
  have u2 := Tryz.underlying2
  have u9 := Tryz.underlying9
  have a24 := Tryz.isAgg37
  have z24 := Tryz.sizeOf37
  have a2 := Tryz.isAgg2
  have z2 := Tryz.sizeOf2
  have a9 := Tryz.isAgg9
  have z9 := Tryz.sizeOf9
  have hS : Tryz.prog.underlying 39 = some (.struct (Tryz.prog.fieldsOf 39)) := by kernel_rfl
  rw [show (10000 : Nat) = 9999 + 1 from rfl, run_equalIn_agg w 9999 39 _ _ hS (by kernel_rfl)]
  simp only [Program.fieldsOf, Tryz.underlying39]
  go_simp
  unfold eqB
  by_cases h1 : k1 = k2 <;> by_cases h2 : n1 = n2 <;> by_cases h3 : s1.toList = s2.toList <;> simp [h1, h2, h3]
theorem guard24 : Tryz.prog.eqGuardType Tryz.prog.depth 39 = false := by kernel_rfl
theorem neq24 (k1 n1 : Int) (s1 : ByteArray) (k2 n2 : Int) (s2 : ByteArray) (w : World) :
    (binOp .neq 39 (.agg #[.int .i64 k1, .int .i64 n1, .string s1]) (.agg #[.int .i64 k2, .int .i64 n2, .string s2])).run Tryz.prog w = .ok (.bool (!eqB k1 n1 s1 k2 n2 s2)) w := by
  rw [run_neq_struct, eq24]; rfl
theorem eql24 (k1 n1 : Int) (s1 : ByteArray) (k2 n2 : Int) (s2 : ByteArray) (w : World) :
    (binOp .eql 39 (.agg #[.int .i64 k1, .int .i64 n1, .string s1]) (.agg #[.int .i64 k2, .int .i64 n2, .string s2])).run Tryz.prog w = .ok (.bool (eqB k1 n1 s1 k2 n2 s2)) w := by
  rw [run_eql_struct, eq24]; rfl

attribute [local go_sem ↓] neq24 eql24
attribute [local go_sem] guard24

theorem of_any (n : Int) (w : World) : Calls Tryz.prog 42 #[.int .i64 n] w fun e w' => e = .returned (.agg #[.int .i64 1, .int .i64 n, .string ⟨#[]⟩]) ∧ Below w.heap.size w w' := by
  go_enter Tryz.func42, Tryz.ntmps42
  go_wp2
  exact bodyPost_ret (v := .agg #[.int .i64 1, .int .i64 n, .string ⟨#[]⟩]) (by simp [results, Tryz.results42, go_sem]) rfl ⟨rfl, bel1 _ _⟩
theorem words_any (s : ByteArray) (w : World) : Calls Tryz.prog 44 #[.string s] w fun e w' => e = .returned (.agg #[.int .i64 3, .int .i64 0, .string s]) ∧ Below w.heap.size w w' := by
  go_enter Tryz.func44, Tryz.ntmps44
  go_wp2
  exact bodyPost_ret (v := .agg #[.int .i64 3, .int .i64 0, .string s]) (by simp [results, Tryz.results44, go_sem]) rfl ⟨rfl, bel1 _ _⟩
theorem words_at (s : ByteArray) (w : World) : Calls Tryz.prog 44 #[.string s] w fun e w' => e = .returned (.agg #[.int .i64 3, .int .i64 0, .string s]) ∧ w' = w.alloc (.cells #[.int .i64 3, .int .i64 0, .string s] 39) := by
  go_enter Tryz.func44, Tryz.ntmps44
  go_wp2
  exact bodyPost_ret (v := .agg #[.int .i64 3, .int .i64 0, .string s]) (by simp [results, Tryz.results44, go_sem]) rfl ⟨rfl, rfl⟩
theorem truth_true (w : World) : Calls Tryz.prog 43 #[.bool true] w fun e w' => e = .returned (.agg #[.int .i64 2, .int .i64 1, .string ⟨#[]⟩]) ∧ Below w.heap.size w w' := by
  go_enter Tryz.func43, Tryz.ntmps43
  go_wp2
  exact bodyPost_ret (v := .agg #[.int .i64 2, .int .i64 1, .string ⟨#[]⟩]) (by simp [results, Tryz.results43, go_sem]) rfl ⟨rfl, bel1 _ _⟩
theorem truth_false (w : World) : Calls Tryz.prog 43 #[.bool false] w fun e w' => e = .returned (.agg #[.int .i64 2, .int .i64 0, .string ⟨#[]⟩]) ∧ Below w.heap.size w w' := by
  go_enter Tryz.func43, Tryz.ntmps43
  go_wp2
  exact bodyPost_ret (v := .agg #[.int .i64 2, .int .i64 0, .string ⟨#[]⟩]) (by simp [results, Tryz.results43, go_sem]) rfl ⟨rfl, bel1 _ _⟩

def validB (k n : Int) (s : ByteArray) : Bool :=
  if k = 0 then (n == 0 && s.toList == [])
  else if k = 1 then s.toList == []
  else if k = 2 then s.toList == [] && (n == 0 || n == 1)
  else if k = 3 then n == 0 && decide ((s.size : Int) ≤ 60)
  else false

theorem empty_list : (⟨#[]⟩ : ByteArray).toList = [] := by simp

theorem valid_0 (n : Int) (s : ByteArray) (w : World) :
    Calls Tryz.prog 25 #[.agg #[.int .i64 0, .int .i64 n, .string s]] w fun e w' => e = .returned (.bool (validB 0 n s)) ∧ Below w.heap.size w w' := by
  have H : Hid (validB 0 n s = eqB 0 n s 0 0 ⟨#[]⟩) := by unfold Hid validB eqB; simp
  go_enter Tryz.func25, Tryz.ntmps25
  go_wp2
  go_ret
  exact ⟨ret_bool H.out.symm, bel1 _ _⟩

theorem valid_1 (n : Int) (s : ByteArray) (w : World) :
    Calls Tryz.prog 25 #[.agg #[.int .i64 1, .int .i64 n, .string s]] w fun e w' => e = .returned (.bool (validB 1 n s)) ∧ Below w.heap.size w w' := by
  have H : Hid (validB 1 n s = eqB 1 n s 1 n ⟨#[]⟩) := by unfold Hid validB eqB; simp
  go_enter Tryz.func25, Tryz.ntmps25
  go_wp2
  go_region_held3 (fun w' => w'.cell? ⟨w.heap.size, 0, none⟩ = some (.int .i64 1) ∧ w'.cell? ⟨w.heap.size, 1, none⟩ = some (.int .i64 n) ∧ w'.cell? ⟨w.heap.size, 2, none⟩ = some (.string s))
    (first | go_keep | (go_split_ands; exact ⟨cell_later ‹_› ‹_›, cell_later ‹_› ‹_›, cell_later ‹_› ‹_›⟩))
    (first | (go_at_call 42; refine (of_any _ _).mono ?_; rintro e w1 ⟨rfl, hbb⟩))
  go_wp2
  go_ret
  exact ⟨ret_bool H.out.symm, bel1t hbb⟩

theorem valid_2 (n : Int) (s : ByteArray) (w : World) :
    Calls Tryz.prog 25 #[.agg #[.int .i64 2, .int .i64 n, .string s]] w fun e w' => e = .returned (.bool (validB 2 n s)) ∧ Below w.heap.size w w' := by
  cases hn : (n == 1) with
  | true =>
    have H : Hid (validB 2 n s = eqB 2 n s 2 1 ⟨#[]⟩) := by unfold Hid validB eqB; simp only [empty_list]; cases h : (s.toList == []) <;> simp [hn]
    go_enter Tryz.func25, Tryz.ntmps25
    go_wp2
    go_region_held3 (fun w' => w'.cell? ⟨w.heap.size, 0, none⟩ = some (.int .i64 2) ∧ w'.cell? ⟨w.heap.size, 1, none⟩ = some (.int .i64 n) ∧ w'.cell? ⟨w.heap.size, 2, none⟩ = some (.string s))
      (first | go_keep | (go_split_ands; exact ⟨cell_later ‹_› ‹_›, cell_later ‹_› ‹_›, cell_later ‹_› ‹_›⟩))
      (first | (go_at_call 43; refine (truth_true _).mono ?_; rintro e w1 ⟨rfl, hbb⟩))
    go_wp2
    go_ret
    exact ⟨ret_bool H.out.symm, bel1t hbb⟩
  | false =>
    have H : Hid (validB 2 n s = eqB 2 n s 2 0 ⟨#[]⟩) := by unfold Hid validB eqB; simp only [empty_list]; cases h : (s.toList == []) <;> simp [hn]
    go_enter Tryz.func25, Tryz.ntmps25
    go_wp2
    go_region_held3 (fun w' => w'.cell? ⟨w.heap.size, 0, none⟩ = some (.int .i64 2) ∧ w'.cell? ⟨w.heap.size, 1, none⟩ = some (.int .i64 n) ∧ w'.cell? ⟨w.heap.size, 2, none⟩ = some (.string s))
      (first | go_keep | (go_split_ands; exact ⟨cell_later ‹_› ‹_›, cell_later ‹_› ‹_›, cell_later ‹_› ‹_›⟩))
      (first | (go_at_call 43; refine (truth_false _).mono ?_; rintro e w1 ⟨rfl, hbb⟩))
    go_wp2
    go_ret
    exact ⟨ret_bool H.out.symm, bel1t hbb⟩

theorem valid_3 (n : Int) (s : ByteArray) (w : World) (hs : s.size ≤ maxLen) :
    Calls Tryz.prog 25 #[.agg #[.int .i64 3, .int .i64 n, .string s]] w fun e w' => e = .returned (.bool (validB 3 n s)) ∧ Below w.heap.size w w' := by
  unfold maxLen at hs
  cases hq : eqB 3 n s 3 0 s with
  | true =>
    have H : Hid (validB 3 n s = decide ((s.size : Int) ≤ 60)) := by
      unfold Hid validB; unfold eqB at hq; simp at hq; simp [hq]
    go_enter Tryz.func25, Tryz.ntmps25
    go_wp2
    go_region_held3 (fun w' => w'.cell? ⟨w.heap.size, 0, none⟩ = some (.int .i64 3) ∧ w'.cell? ⟨w.heap.size, 1, none⟩ = some (.int .i64 n) ∧ w'.cell? ⟨w.heap.size, 2, none⟩ = some (.string s))
      (first | go_keep | (go_split_ands; exact ⟨cell_later ‹_› ‹_›, cell_later ‹_› ‹_›, cell_later ‹_› ‹_›⟩))
      (first | (go_at_call 44; refine (words_any _ _).mono ?_; rintro e w1 ⟨rfl, hbb⟩))
    go_wp2
    go_ret
    exact ⟨ret_bool H.out.symm, bel1t hbb⟩
  | false =>
    have H : Hid (validB 3 n s = false) := by
      unfold Hid validB; unfold eqB at hq; simp at hq; simp [hq]
    go_enter Tryz.func25, Tryz.ntmps25
    go_wp2
    first | (go_region_with (first | (go_at_call 44; refine (words_at _ _).mono ?_; rintro e w1 ⟨rfl, rfl⟩))) | fail
    all_goals go_wp2
    all_goals go_ret
    all_goals exact ⟨ret_bool H.out.symm, by repeat (first | exact bel1 _ _ | apply Below.drew | refine Below.alloc ?_ (by simp) _)⟩

theorem valid_x (k n : Int) (s : ByteArray) (w : World) (h0 : k ≠ 0) (h1 : k ≠ 1) (h2 : k ≠ 2) (h3 : k ≠ 3) :
    Calls Tryz.prog 25 #[.agg #[.int .i64 k, .int .i64 n, .string s]] w fun e w' => e = .returned (.bool (validB k n s)) ∧ Below w.heap.size w w' := by
  have H : Hid (validB k n s = false) := by unfold Hid validB; rw [if_neg h0, if_neg h1, if_neg h2, if_neg h3]
  have g0 : (k == 0) = false := by simpa using h0
  have g1 : (k == 1) = false := by simpa using h1
  have g2 : (k == 2) = false := by simpa using h2
  have g3 : (k == 3) = false := by simpa using h3
  clear h0 h1 h2 h3
  go_enter Tryz.func25, Tryz.ntmps25
  go_wp2
  go_ret
  exact ⟨ret_bool H.out.symm, bel1 _ _⟩

theorem valid_any (k n : Int) (s : ByteArray) (w : World) (hs : s.size ≤ maxLen) :
    Calls Tryz.prog 25 #[.agg #[.int .i64 k, .int .i64 n, .string s]] w fun e w' => e = .returned (.bool (validB k n s)) ∧ Below w.heap.size w w' := by
  by_cases h0 : k = 0
  · subst h0; exact valid_0 n s w
  by_cases h1 : k = 1
  · subst h1; exact valid_1 n s w
  by_cases h2 : k = 2
  · subst h2; exact valid_2 n s w
  by_cases h3 : k = 3
  · subst h3; exact valid_3 n s w hs
  exact valid_x k n s w h0 h1 h2 h3
end Go.Proofs.YtodkekmfadfjkaaGreatDoor.Vl
