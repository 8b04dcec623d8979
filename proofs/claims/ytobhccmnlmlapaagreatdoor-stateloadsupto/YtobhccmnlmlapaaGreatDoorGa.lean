import Derived.Test.YtobhccmnlmlapaaGreatDoorProg
import Derived.WalkKit
import Derived.Below
import Derived.Laws.StructEq
import Derived.Laws.Cover1
import Derived.KernelRfl
import Derived.LoopN
import Derived.Handy
import Derived.WalkSmall
import Derived.Deep.RegionHeld3
import Derived.Deep.DrawnRows
import Derived.Deep.QuietTactic
import Derived.BigQuiet
namespace Go.Proofs.YtobhccmnlmlapaaGreatDoor
set_option linter.unusedVariables false

/-- '==' of two values. -/
def eqB (k1 n1 : Int) (s1 : ByteArray) (k2 n2 : Int) (s2 : ByteArray) : Bool := k1 == k2 && (n1 == n2 && s1.toList == s2.toList)

theorem eq26 (k1 n1 : Int) (s1 : ByteArray) (k2 n2 : Int) (s2 : ByteArray) (w : World) :
    (Op.equalIn 10000 48 (.agg #[.int .i64 k1, .int .i64 n1, .string s1]) (.agg #[.int .i64 k2, .int .i64 n2, .string s2])).run Tryz.prog w = .ok (eqB k1 n1 s1 k2 n2 s2) w := by
  have u24 := Tryz.underlying46
  have u2 := Tryz.underlying2
  have u9 := Tryz.underlying9
  have a24 := Tryz.isAgg46
  have z24 := Tryz.sizeOf46
  have a2 := Tryz.isAgg2
  have z2 := Tryz.sizeOf2
  have a9 := Tryz.isAgg9
  have z9 := Tryz.sizeOf9
  have hS : Tryz.prog.underlying 48 = some (.struct (Tryz.prog.fieldsOf 48)) := by kernel_rfl
  rw [show (10000 : Nat) = 9999 + 1 from rfl, run_equalIn_agg w 9999 48 _ _ hS (by kernel_rfl)]
  simp only [Program.fieldsOf, Tryz.underlying48]
  go_simp
  unfold eqB
  by_cases h1 : k1 = k2 <;> by_cases h2 : n1 = n2 <;> by_cases h3 : s1.toList = s2.toList <;> simp [h1, h2, h3]
theorem guard26 : Tryz.prog.eqGuardType Tryz.prog.depth 48 = false := by kernel_rfl
theorem neq26 (k1 n1 : Int) (s1 : ByteArray) (k2 n2 : Int) (s2 : ByteArray) (w : World) :
    (binOp .neq 48 (.agg #[.int .i64 k1, .int .i64 n1, .string s1]) (.agg #[.int .i64 k2, .int .i64 n2, .string s2])).run Tryz.prog w = .ok (.bool (!eqB k1 n1 s1 k2 n2 s2)) w := by
  rw [run_neq_struct, eq26]; rfl
theorem eql26 (k1 n1 : Int) (s1 : ByteArray) (k2 n2 : Int) (s2 : ByteArray) (w : World) :
    (binOp .eql 48 (.agg #[.int .i64 k1, .int .i64 n1, .string s1]) (.agg #[.int .i64 k2, .int .i64 n2, .string s2])).run Tryz.prog w = .ok (.bool (eqB k1 n1 s1 k2 n2 s2)) w := by
  rw [run_eql_struct, eq26]; rfl
end Go.Proofs.YtobhccmnlmlapaaGreatDoor
namespace Go.Proofs.YtobhccmnlmlapaaGreatDoor
open Go.RowKit
set_option linter.unusedVariables false

theorem ret_int {k : IntKind} {a b : Int} (h : a = b) : Ending.returned (.int k a) = .returned (.int k b) := by rw [h]
theorem ret_bool {a b : Bool} (h : a = b) : Ending.returned (.bool a) = .returned (.bool b) := by rw [h]

/-- Which of two values comes first, as a Bool. -/
def ltV (k1 n1 : Int) (s1 : ByteArray) (k2 n2 : Int) (s2 : ByteArray) : Bool :=
  if k1 != k2 then decide (k1 < k2) else if n1 != n2 then decide (n1 < n2) else Op.bytesLess s1.toList s2.toList

theorem before_any (k1 n1 : Int) (s1 : ByteArray) (k2 n2 : Int) (s2 : ByteArray) (w : World) :
    Calls Tryz.prog 115 #[.agg #[.int .i64 k1, .int .i64 n1, .string s1], .agg #[.int .i64 k2, .int .i64 n2, .string s2]] w fun e w' => e = .returned (.bool (ltV k1 n1 s1 k2 n2 s2)) ∧ Below w.heap.size w w' := by
  cases hk : (k1 != k2) with
  | true =>
    have H : Hid (ltV k1 n1 s1 k2 n2 s2 = decide (k1 < k2)) := by unfold Hid ltV; rw [hk]; rfl
    go_enter Tryz.func115, Tryz.ntmps115
    go_wp2
    go_ret
    exact ⟨ret_bool H.out.symm, ((Below.refl _ _).alloc (Nat.le_refl _) _).alloc (by simp) _⟩
  | false =>
    cases hn : (n1 != n2) with
    | true =>
      have H : Hid (ltV k1 n1 s1 k2 n2 s2 = decide (n1 < n2)) := by unfold Hid ltV; rw [hk, hn]; rfl
      go_enter Tryz.func115, Tryz.ntmps115
      go_wp2
      go_ret
      exact ⟨ret_bool H.out.symm, ((Below.refl _ _).alloc (Nat.le_refl _) _).alloc (by simp) _⟩
    | false =>
      have H : Hid (ltV k1 n1 s1 k2 n2 s2 = Op.bytesLess s1.toList s2.toList) := by unfold Hid ltV; rw [hk, hn]; rfl
      go_enter Tryz.func115, Tryz.ntmps115
      go_wp2
      go_ret
      exact ⟨ret_bool H.out.symm, ((Below.refl _ _).alloc (Nat.le_refl _) _).alloc (by simp) _⟩

def cmpI (a b : Int) : Int := if a < b then -1 else if b < a then 1 else 0
def cmpS (a b : ByteArray) : Int := if Op.bytesLess a.toList b.toList = true then -1 else if (a.toList == b.toList) = true then 0 else 1
def cmpV (k1 n1 : Int) (s1 : ByteArray) (k2 n2 : Int) (s2 : ByteArray) : Int :=
  if k1 < k2 then -1 else if k2 < k1 then 1 else if n1 < n2 then -1 else if n2 < n1 then 1 else cmpS s1 s2

theorem bel3 (w : World) (o1 o2 o3 : Obj) : Below w.heap.size w (((w.alloc o1).alloc o2).alloc o3) :=
  (((Below.refl _ _).alloc (Nat.le_refl _) _).alloc (by simp) _).alloc (by simp; omega) _

theorem hmf : ∀ (fn : Fn) (first cap : Array Value) (w : World), (Instr.makeFunc fn first cap).run Tryz.prog w = .ok (.func fn first cap) w := fun _ _ _ _ => rfl

theorem compare_1 (k1 n1 : Int) (s1 : ByteArray) (k2 n2 : Int) (s2 : ByteArray) (w : World) (h : k1 < k2) :
    Calls Tryz.prog 129 #[.agg #[.int .i64 k1, .int .i64 n1, .string s1], .agg #[.int .i64 k2, .int .i64 n2, .string s2]] w fun e w' => e = .returned (.int .i64 (-1)) ∧ Below w.heap.size w w' := by
  have hmf := hmf
  go_enter Tryz.func129, Tryz.ntmps129
  go_wp2
  refine wp_loop_rounds 4 ?_
  rw [rounds_succ]; go_wp2
  go_ret
  exact ⟨rfl, bel3 _ _ _ _⟩

theorem compare_2 (k1 n1 : Int) (s1 : ByteArray) (k2 n2 : Int) (s2 : ByteArray) (w : World) (h1 : ¬ k1 < k2) (h2 : k2 < k1) :
    Calls Tryz.prog 129 #[.agg #[.int .i64 k1, .int .i64 n1, .string s1], .agg #[.int .i64 k2, .int .i64 n2, .string s2]] w fun e w' => e = .returned (.int .i64 1) ∧ Below w.heap.size w w' := by
  have hmf := hmf
  go_enter Tryz.func129, Tryz.ntmps129
  go_wp2
  refine wp_loop_rounds 4 ?_
  rw [rounds_succ]; go_wp2
  go_ret
  exact ⟨rfl, bel3 _ _ _ _⟩

theorem compare_3 (k1 n1 : Int) (s1 : ByteArray) (k2 n2 : Int) (s2 : ByteArray) (w : World) (h1 : ¬ k1 < k2) (h2 : ¬ k2 < k1) (h3 : n1 < n2) :
    Calls Tryz.prog 129 #[.agg #[.int .i64 k1, .int .i64 n1, .string s1], .agg #[.int .i64 k2, .int .i64 n2, .string s2]] w fun e w' => e = .returned (.int .i64 (-1)) ∧ Below w.heap.size w w' := by
  have hmf := hmf
  go_enter Tryz.func129, Tryz.ntmps129
  go_wp2
  refine wp_loop_rounds 4 ?_
  rw [rounds_succ]; go_wp2
  rw [rounds_succ]; go_wp2
  go_ret
  exact ⟨rfl, bel3 _ _ _ _⟩

theorem compare_4 (k1 n1 : Int) (s1 : ByteArray) (k2 n2 : Int) (s2 : ByteArray) (w : World) (h1 : ¬ k1 < k2) (h2 : ¬ k2 < k1) (h3 : ¬ n1 < n2) (h4 : n2 < n1) :
    Calls Tryz.prog 129 #[.agg #[.int .i64 k1, .int .i64 n1, .string s1], .agg #[.int .i64 k2, .int .i64 n2, .string s2]] w fun e w' => e = .returned (.int .i64 1) ∧ Below w.heap.size w w' := by
  have hmf := hmf
  go_enter Tryz.func129, Tryz.ntmps129
  go_wp2
  refine wp_loop_rounds 4 ?_
  rw [rounds_succ]; go_wp2
  rw [rounds_succ]; go_wp2
  go_ret
  exact ⟨rfl, bel3 _ _ _ _⟩

theorem compare_5 (k1 n1 : Int) (s1 : ByteArray) (k2 n2 : Int) (s2 : ByteArray) (w : World) (h1 : ¬ k1 < k2) (h2 : ¬ k2 < k1) (h3 : ¬ n1 < n2) (h4 : ¬ n2 < n1) (h5 : Op.bytesLess s1.toList s2.toList = true) :
    Calls Tryz.prog 129 #[.agg #[.int .i64 k1, .int .i64 n1, .string s1], .agg #[.int .i64 k2, .int .i64 n2, .string s2]] w fun e w' => e = .returned (.int .i64 (-1)) ∧ Below w.heap.size w w' := by
  have hmf := hmf
  go_enter Tryz.func129, Tryz.ntmps129
  go_wp2
  refine wp_loop_rounds 4 ?_
  rw [rounds_succ]; go_wp2
  rw [rounds_succ]; go_wp2
  rw [rounds_succ]; go_wp2
  go_ret
  exact ⟨rfl, bel3 _ _ _ _⟩

theorem compare_6 (k1 n1 : Int) (s1 : ByteArray) (k2 n2 : Int) (s2 : ByteArray) (w : World) (h1 : ¬ k1 < k2) (h2 : ¬ k2 < k1) (h3 : ¬ n1 < n2) (h4 : ¬ n2 < n1) (h5 : Op.bytesLess s1.toList s2.toList = false) (h6 : (s1.toList == s2.toList) = false) :
    Calls Tryz.prog 129 #[.agg #[.int .i64 k1, .int .i64 n1, .string s1], .agg #[.int .i64 k2, .int .i64 n2, .string s2]] w fun e w' => e = .returned (.int .i64 1) ∧ Below w.heap.size w w' := by
  have hmf := hmf
  go_enter Tryz.func129, Tryz.ntmps129
  go_wp2
  refine wp_loop_rounds 4 ?_
  rw [rounds_succ]; go_wp2
  rw [rounds_succ]; go_wp2
  rw [rounds_succ]; go_wp2
  go_ret
  exact ⟨rfl, bel3 _ _ _ _⟩

theorem compare_7 (k1 n1 : Int) (s1 : ByteArray) (k2 n2 : Int) (s2 : ByteArray) (w : World) (h1 : ¬ k1 < k2) (h2 : ¬ k2 < k1) (h3 : ¬ n1 < n2) (h4 : ¬ n2 < n1) (h5 : Op.bytesLess s1.toList s2.toList = false) (h6 : (s1.toList == s2.toList) = true) :
    Calls Tryz.prog 129 #[.agg #[.int .i64 k1, .int .i64 n1, .string s1], .agg #[.int .i64 k2, .int .i64 n2, .string s2]] w fun e w' => e = .returned (.int .i64 0) ∧ Below w.heap.size w w' := by
  have hmf := hmf
  go_enter Tryz.func129, Tryz.ntmps129
  go_wp2
  refine wp_loop_rounds 4 ?_
  rw [rounds_succ]; go_wp2
  rw [rounds_succ]; go_wp2
  rw [rounds_succ]; go_wp2
  rw [rounds_succ]; go_wp2
  go_ret
  exact ⟨rfl, bel3 _ _ _ _⟩

theorem compare_any (k1 n1 : Int) (s1 : ByteArray) (k2 n2 : Int) (s2 : ByteArray) (w : World) :
    Calls Tryz.prog 129 #[.agg #[.int .i64 k1, .int .i64 n1, .string s1], .agg #[.int .i64 k2, .int .i64 n2, .string s2]] w fun e w' => e = .returned (.int .i64 (cmpV k1 n1 s1 k2 n2 s2)) ∧ Below w.heap.size w w' := by
  unfold cmpV cmpS
  by_cases h1 : k1 < k2
  · rw [if_pos h1]; exact compare_1 k1 n1 s1 k2 n2 s2 w h1
  rw [if_neg h1]
  by_cases h2 : k2 < k1
  · rw [if_pos h2]; exact compare_2 k1 n1 s1 k2 n2 s2 w h1 h2
  rw [if_neg h2]
  by_cases h3 : n1 < n2
  · rw [if_pos h3]; exact compare_3 k1 n1 s1 k2 n2 s2 w h1 h2 h3
  rw [if_neg h3]
  by_cases h4 : n2 < n1
  · rw [if_pos h4]; exact compare_4 k1 n1 s1 k2 n2 s2 w h1 h2 h3 h4
  rw [if_neg h4]
  by_cases h5 : Op.bytesLess s1.toList s2.toList = true
  · rw [if_pos h5]; exact compare_5 k1 n1 s1 k2 n2 s2 w h1 h2 h3 h4 h5
  rw [if_neg h5]
  by_cases h6 : (s1.toList == s2.toList) = true
  · rw [if_pos h6]; exact compare_7 k1 n1 s1 k2 n2 s2 w h1 h2 h3 h4 (by simpa using h5) h6
  rw [if_neg h6]
  exact compare_6 k1 n1 s1 k2 n2 s2 w h1 h2 h3 h4 (by simpa using h5) (by simpa using h6)
end Go.Proofs.YtobhccmnlmlapaaGreatDoor
namespace Go.Proofs.YtobhccmnlmlapaaGreatDoor
open Go.RowKit
set_option linter.unusedVariables false
attribute [local go_sem ↓] neq26 eql26
attribute [local go_sem] guard26

structure V where
  k : Int
  n : Int
  s : ByteArray

/-- 'len' values lie in memory where the slice 'a' begins. -/
def Lies (w : World) (a : Option Addr) (len : Nat) (f : Nat → V) : Prop :=
  ∀ i, i < len → ∃ b off, a = some ⟨b, off, none⟩ ∧ w.cell? ⟨b, off + i * 3, none⟩ = some (.int .i64 (f i).k) ∧ w.cell? ⟨b, off + i * 3 + 1, none⟩ = some (.int .i64 (f i).n) ∧ w.cell? ⟨b, off + i * 3 + 2, none⟩ = some (.string (f i).s)

theorem cell_later {w wx : World} {a : Addr} {v : Value} (hb : Below w.heap.size w wx) (h : w.cell? a = some v) : wx.cell? a = some v := (hb.cell (World.block_lt_of_cell? _ _ h)).trans h
theorem Lies.later {w wx : World} {a : Option Addr} {len : Nat} {f : Nat → V} (h : Lies w a len f) (hb : Below w.heap.size w wx) : Lies wx a len f := fun i hi => by
  obtain ⟨b, off, e, h1, h2, h3⟩ := h i hi
  exact ⟨b, off, e, cell_later hb h1, cell_later hb h2, cell_later hb h3⟩

def ltFrom (f g : Nat → V) (l1 l2 : Nat) : Nat → Nat → Bool
  | 0, _ => decide (l1 < l2)
  | r + 1, k => if eqB (f k).k (f k).n (f k).s (g k).k (g k).n (g k).s = true then ltFrom f g l1 l2 r (k + 1) else ltV (f k).k (f k).n (f k).s (g k).k (g k).n (g k).s

set_option maxHeartbeats 400000 in
theorem listBefore_any (a1 : Option Addr) (l1 c1 : Nat) (a2 : Option Addr) (l2 c2 : Nat) (f g : Nat → V) (w : World) (h1 : Lies w a1 l1 f) (h2 : Lies w a2 l2 g) (m1 : l1 ≤ maxLen) (m2 : l2 ≤ maxLen) :
    Calls Tryz.prog 77 #[.slice a1 l1 c1, .slice a2 l2 c2] w fun e w' => e = .returned (.bool (ltFrom f g l1 l2 (min l1 l2) 0)) ∧ Below w.heap.size w w' := by
  unfold maxLen at m1 m2
  go_enter Tryz.func77, Tryz.ntmps77
  go_wp2
  go_loopw [5] (fun i w' => ∃ k : Nat, k ≤ l1 ∧ k ≤ l2 ∧ i = .int .i64 k ∧ Below w.heap.size w w' ∧ ltFrom f g l1 l2 (min l1 l2) 0 = ltFrom f g l1 l2 (min l1 l2 - k) k) (fun i _ => l1 - (intOf i).toNat)
  case atStart => exact ⟨0, Nat.zero_le _, Nat.zero_le _, rfl, Below.refl _ _, rfl⟩
  case round =>
    rename_i wr _
    obtain ⟨k, hk1, hk2, rfl, hb, hE0⟩ := hrel
    have HE : Hid (ltFrom f g l1 l2 (min l1 l2) 0 = ltFrom f g l1 l2 (min l1 l2 - k) k) := hE0
    clear hE0
    by_cases hlt : k < l1
    · by_cases hlt2 : k < l2
      · obtain ⟨b1, o1, rfl, ha1, ha2, ha3⟩ := h1.later hb k hlt
        obtain ⟨b2, o2, rfl, hb1, hb2, hb3⟩ := h2.later hb k hlt2
        have HS : Hid (ltFrom f g l1 l2 (min l1 l2 - k) k = if eqB (f k).k (f k).n (f k).s (g k).k (g k).n (g k).s = true then ltFrom f g l1 l2 (min l1 l2 - (k + 1)) (k + 1) else ltV (f k).k (f k).n (f k).s (g k).k (g k).n (g k).s) := by
          unfold Hid
          rw [show min l1 l2 - k = (min l1 l2 - (k + 1)) + 1 by omega]; rfl
        clear h1 h2
        cases hq : eqB (f k).k (f k).n (f k).s (g k).k (g k).n (g k).s with
        | true =>
          have HS' : Hid (ltFrom f g l1 l2 (min l1 l2) 0 = ltFrom f g l1 l2 (min l1 l2 - (k + 1)) (k + 1)) := by
            unfold Hid; rw [HE.out, HS.out, if_pos hq]
          go_wp2
          go_quiet (fail)
          go_wp2
          go_roundw
          case rel => exact ⟨k + 1, by omega, by omega, by go_num, below_drewN hb _, HS'.out⟩
          case measure => simp [intOf]; omega
        | false =>
          have HS' : Hid (ltFrom f g l1 l2 (min l1 l2) 0 = ltV (f k).k (f k).n (f k).s (g k).k (g k).n (g k).s) := by
            unfold Hid; rw [HE.out, HS.out, if_neg (by simp [hq])]
          go_wp2
          go_quiet (fail)
          go_wp2
          go_region_held3 (fun w' => w'.cell? ⟨b1, o1 + k * 3, none⟩ = some (.int .i64 (f k).k) ∧ w'.cell? ⟨b1, o1 + k * 3 + 1, none⟩ = some (.int .i64 (f k).n) ∧ w'.cell? ⟨b1, o1 + k * 3 + 2, none⟩ = some (.string (f k).s)
              ∧ w'.cell? ⟨b2, o2 + k * 3, none⟩ = some (.int .i64 (g k).k) ∧ w'.cell? ⟨b2, o2 + k * 3 + 1, none⟩ = some (.int .i64 (g k).n) ∧ w'.cell? ⟨b2, o2 + k * 3 + 2, none⟩ = some (.string (g k).s))
            (first | go_keep | (go_split_ands; exact ⟨cell_later ‹_› ‹_›, cell_later ‹_› ‹_›, cell_later ‹_› ‹_›, cell_later ‹_› ‹_›, cell_later ‹_› ‹_›, cell_later ‹_› ‹_›⟩))
            (first | (go_at_call 115; refine (before_any _ _ _ _ _ _ _).mono ?_; rintro e w' ⟨rfl, hbb⟩))
          go_wp2
          go_ret
          exact ⟨ret_bool HS'.out.symm, hb.trans (((below_drewN (Below.refl _ wr) _).trans hbb).mono hb.size)⟩
      · have e : min l1 l2 - k = 0 := by omega
        have HS' : Hid (ltFrom f g l1 l2 (min l1 l2) 0 = decide (l1 < l2)) := by unfold Hid; rw [HE.out, e]; rfl
        go_wp2
        go_ret
        exact ⟨ret_bool HS'.out.symm, hb⟩
    · have e : min l1 l2 - k = 0 := by omega
      have HS' : Hid (ltFrom f g l1 l2 (min l1 l2) 0 = decide (l1 < l2)) := by unfold Hid; rw [HE.out, e]; rfl
      go_wp2
      all_goals go_ret
      all_goals exact ⟨ret_bool HS'.out.symm, hb⟩

def cmpFrom (f g : Nat → V) (l1 l2 : Nat) : Nat → Nat → Int
  | 0, _ => cmpI l1 l2
  | r + 1, k => if eqB (f k).k (f k).n (f k).s (g k).k (g k).n (g k).s = true then cmpFrom f g l1 l2 r (k + 1) else cmpV (f k).k (f k).n (f k).s (g k).k (g k).n (g k).s

theorem cmpLen (a b : Int) (w : World) : Calls Tryz.prog 130 #[.int .i64 a, .int .i64 b] w fun e w' => e = .returned (.int .i64 (cmpI a b)) ∧ w' = w := by
  by_cases h1 : a < b
  · have H : Hid (cmpI a b = -1) := by unfold Hid cmpI; rw [if_pos h1]
    go_enter Tryz.func130, Tryz.ntmps130
    go_wp2
    all_goals go_ret
    all_goals exact ⟨ret_int H.out.symm, rfl⟩
  · by_cases h2 : b < a
    · have H : Hid (cmpI a b = 1) := by unfold Hid cmpI; rw [if_neg h1, if_pos h2]
      go_enter Tryz.func130, Tryz.ntmps130
      go_wp2
      all_goals go_ret
      all_goals exact ⟨ret_int H.out.symm, rfl⟩
    · have H : Hid (cmpI a b = 0) := by unfold Hid cmpI; rw [if_neg h1, if_neg h2]
      go_enter Tryz.func130, Tryz.ntmps130
      go_wp2
      all_goals go_ret
      all_goals exact ⟨ret_int H.out.symm, rfl⟩

set_option maxHeartbeats 400000 in
theorem compareLists_any (a1 : Option Addr) (l1 c1 : Nat) (a2 : Option Addr) (l2 c2 : Nat) (f g : Nat → V) (w : World) (h1 : Lies w a1 l1 f) (h2 : Lies w a2 l2 g) (m1 : l1 ≤ maxLen) (m2 : l2 ≤ maxLen) :
    Calls Tryz.prog 112 #[.slice a1 l1 c1, .slice a2 l2 c2] w fun e w' => e = .returned (.int .i64 (cmpFrom f g l1 l2 (min l1 l2) 0)) ∧ Below w.heap.size w w' := by
  unfold maxLen at m1 m2
  go_enter Tryz.func112, Tryz.ntmps112
  go_wp2
  all_goals
    go_loopw [11] (fun i w' => ∃ k : Nat, k ≤ l1 ∧ k ≤ l2 ∧ i = .int .i64 k ∧ Below w.heap.size w w' ∧ cmpFrom f g l1 l2 (min l1 l2) 0 = cmpFrom f g l1 l2 (min l1 l2 - k) k) (fun i _ => l1 - (intOf i).toNat)
    case atStart => exact ⟨0, Nat.zero_le _, Nat.zero_le _, rfl, Below.refl _ _, rfl⟩
    case round =>
      rename_i wr _
      obtain ⟨k, hk1, hk2, rfl, hb, hE0⟩ := hrel
      have HE : Hid (cmpFrom f g l1 l2 (min l1 l2) 0 = cmpFrom f g l1 l2 (min l1 l2 - k) k) := hE0
      clear hE0
      by_cases hlt : k < min l1 l2
      · have hlt1 : k < l1 := by omega
        have hlt2 : k < l2 := by omega
        have hi1 : (k : Int) < (l1 : Int) := by omega
        have hi2 : (k : Int) < (l2 : Int) := by omega
        obtain ⟨b1, o1, rfl, ha1, ha2, ha3⟩ := h1.later hb k hlt1
        obtain ⟨b2, o2, rfl, hb1, hb2, hb3⟩ := h2.later hb k hlt2
        have HS : Hid (cmpFrom f g l1 l2 (min l1 l2 - k) k = if eqB (f k).k (f k).n (f k).s (g k).k (g k).n (g k).s = true then cmpFrom f g l1 l2 (min l1 l2 - (k + 1)) (k + 1) else cmpV (f k).k (f k).n (f k).s (g k).k (g k).n (g k).s) := by
          unfold Hid
          rw [show min l1 l2 - k = (min l1 l2 - (k + 1)) + 1 by omega]; rfl
        clear h1 h2
        cases hq : eqB (f k).k (f k).n (f k).s (g k).k (g k).n (g k).s with
        | true =>
          have HS' : Hid (cmpFrom f g l1 l2 (min l1 l2) 0 = cmpFrom f g l1 l2 (min l1 l2 - (k + 1)) (k + 1)) := by
            unfold Hid; rw [HE.out, HS.out, if_pos hq]
          go_wp2
          go_quiet (fail)
          go_wp2
          go_roundw
          case rel => exact ⟨k + 1, by omega, by omega, by go_num, below_drewN hb _, HS'.out⟩
          case measure => simp [intOf]; omega
        | false =>
          have HS' : Hid (cmpFrom f g l1 l2 (min l1 l2) 0 = cmpV (f k).k (f k).n (f k).s (g k).k (g k).n (g k).s) := by
            unfold Hid; rw [HE.out, HS.out, if_neg (by simp [hq])]
          go_wp2
          go_quiet (fail)
          go_wp2
          go_region_held3 (fun w' => w'.cell? ⟨b1, o1 + k * 3, none⟩ = some (.int .i64 (f k).k) ∧ w'.cell? ⟨b1, o1 + k * 3 + 1, none⟩ = some (.int .i64 (f k).n) ∧ w'.cell? ⟨b1, o1 + k * 3 + 2, none⟩ = some (.string (f k).s)
              ∧ w'.cell? ⟨b2, o2 + k * 3, none⟩ = some (.int .i64 (g k).k) ∧ w'.cell? ⟨b2, o2 + k * 3 + 1, none⟩ = some (.int .i64 (g k).n) ∧ w'.cell? ⟨b2, o2 + k * 3 + 2, none⟩ = some (.string (g k).s))
            (first | go_keep | (go_split_ands; exact ⟨cell_later ‹_› ‹_›, cell_later ‹_› ‹_›, cell_later ‹_› ‹_›, cell_later ‹_› ‹_›, cell_later ‹_› ‹_›, cell_later ‹_› ‹_›⟩))
            (first | (go_at_call 129; refine (compare_any _ _ _ _ _ _ _).mono ?_; rintro e w' ⟨rfl, hbb⟩))
          go_wp2
          go_ret
          exact ⟨ret_int HS'.out.symm, hb.trans (((below_drewN (Below.refl _ wr) _).trans hbb).mono hb.size)⟩
      · have e : min l1 l2 - k = 0 := by omega
        have HS' : Hid (cmpFrom f g l1 l2 (min l1 l2) 0 = cmpI l1 l2) := by unfold Hid; rw [HE.out, e]; rfl
        have hno1 : ¬ ((k : Int) < (min l1 l2 : Nat)) := by omega
        go_wp2_with (first | (go_at_call 130; refine (cmpLen _ _ _).mono ?_; rintro e w' ⟨rfl, rfl⟩))
        go_ret
        exact ⟨ret_int HS'.out.symm, hb⟩
end Go.Proofs.YtobhccmnlmlapaaGreatDoor
namespace Go.Proofs.YtobhccmnlmlapaaGreatDoor
open Go.RowKit
set_option linter.unusedVariables false

def ltRow (s t : Int) (f g : Nat → V) (l1 l2 : Nat) : Bool := if (s != t) = true then decide (s < t) else ltFrom f g l1 l2 (min l1 l2) 0
def cmpRow (s t : Int) (f g : Nat → V) (l1 l2 : Nat) : Int := if s < t then -1 else if t < s then 1 else cmpFrom f g l1 l2 (min l1 l2) 0

theorem bel2 (w : World) (o1 o2 : Obj) : Below w.heap.size w ((w.alloc o1).alloc o2) := ((Below.refl _ _).alloc (Nat.le_refl _) _).alloc (by simp) _

set_option maxHeartbeats 400000 in
theorem compareRows_1 (s t : Int) (a1 : Option Addr) (l1 c1 : Nat) (a2 : Option Addr) (l2 c2 : Nat) (w : World) (h : s < t) :
    Calls Tryz.prog 74 #[.agg #[.int .i64 s, .slice a1 l1 c1], .agg #[.int .i64 t, .slice a2 l2 c2]] w fun e w' => e = .returned (.int .i64 (-1)) ∧ Below w.heap.size w w' := by
  have hmf := hmf
  go_enter Tryz.func74, Tryz.ntmps74
  go_wp2
  refine wp_loop_rounds 3 ?_
  rw [rounds_succ]; go_wp2
  go_ret
  exact ⟨rfl, bel3 _ _ _ _⟩
set_option maxHeartbeats 400000 in
theorem compareRows_2 (s t : Int) (a1 : Option Addr) (l1 c1 : Nat) (a2 : Option Addr) (l2 c2 : Nat) (w : World) (h1 : ¬ s < t) (h2 : t < s) :
    Calls Tryz.prog 74 #[.agg #[.int .i64 s, .slice a1 l1 c1], .agg #[.int .i64 t, .slice a2 l2 c2]] w fun e w' => e = .returned (.int .i64 1) ∧ Below w.heap.size w w' := by
  have hmf := hmf
  go_enter Tryz.func74, Tryz.ntmps74
  go_wp2
  refine wp_loop_rounds 3 ?_
  rw [rounds_succ]; go_wp2
  go_ret
  exact ⟨rfl, bel3 _ _ _ _⟩

set_option maxHeartbeats 400000 in
theorem compareRows_3 (s t : Int) (a1 : Option Addr) (l1 c1 : Nat) (a2 : Option Addr) (l2 c2 : Nat) (f g : Nat → V) (w : World) (h1 : Lies w a1 l1 f) (h2 : Lies w a2 l2 g) (m1 : l1 ≤ maxLen) (m2 : l2 ≤ maxLen) (h3 : ¬ s < t) (h4 : ¬ t < s) :
    Calls Tryz.prog 74 #[.agg #[.int .i64 s, .slice a1 l1 c1], .agg #[.int .i64 t, .slice a2 l2 c2]] w fun e w' => e = .returned (.int .i64 (cmpFrom f g l1 l2 (min l1 l2) 0)) ∧ Below w.heap.size w w' := by
  have hmf := hmf
  have H1 : Hid (Lies w a1 l1 f) := h1
  have H2 : Hid (Lies w a2 l2 g) := h2
  clear h1 h2
  generalize hc : cmpFrom f g l1 l2 (min l1 l2) 0 = c
  have Hc : Hid (cmpFrom f g l1 l2 (min l1 l2) 0 = c) := hc
  clear hc
  cases hz : (c != 0) with
  | true =>
    go_enter Tryz.func74, Tryz.ntmps74
    go_wp2
    refine wp_loop_rounds 3 ?_
    rw [rounds_succ]; go_wp2
    rw [rounds_succ]
    go_wp2_with (first | (go_at_call 112; refine (compareLists_any _ _ _ _ _ _ f g _ (H1.out.later (bel3 _ _ _ _)) (H2.out.later (bel3 _ _ _ _)) m1 m2).mono ?_; rw [Hc.out]; rintro e w' ⟨rfl, hbb⟩) | go_in)
    go_ret
    exact ⟨rfl, (bel3 w _ _ _).trans (hbb.mono (by simp; omega))⟩
  | false =>
    have hc0 : Hid (c = 0) := by unfold Hid; simpa using hz
    go_enter Tryz.func74, Tryz.ntmps74
    go_wp2
    refine wp_loop_rounds 3 ?_
    rw [rounds_succ]; go_wp2
    rw [rounds_succ]
    go_wp2_with (first | (go_at_call 112; refine (compareLists_any _ _ _ _ _ _ f g _ (H1.out.later (bel3 _ _ _ _)) (H2.out.later (bel3 _ _ _ _)) m1 m2).mono ?_; rw [Hc.out]; rintro e w' ⟨rfl, hbb⟩) | go_in)
    rw [rounds_succ]; go_wp2
    go_ret
    exact ⟨ret_int hc0.out.symm, (bel3 w _ _ _).trans (hbb.mono (by simp; omega))⟩

theorem compareRows_any (s t : Int) (a1 : Option Addr) (l1 c1 : Nat) (a2 : Option Addr) (l2 c2 : Nat) (f g : Nat → V) (w : World) (h1 : Lies w a1 l1 f) (h2 : Lies w a2 l2 g) (m1 : l1 ≤ maxLen) (m2 : l2 ≤ maxLen) :
    Calls Tryz.prog 74 #[.agg #[.int .i64 s, .slice a1 l1 c1], .agg #[.int .i64 t, .slice a2 l2 c2]] w fun e w' => e = .returned (.int .i64 (cmpRow s t f g l1 l2)) ∧ Below w.heap.size w w' := by
  unfold cmpRow
  by_cases h3 : s < t
  · rw [if_pos h3]; exact compareRows_1 s t a1 l1 c1 a2 l2 c2 w h3
  rw [if_neg h3]
  by_cases h4 : t < s
  · rw [if_pos h4]; exact compareRows_2 s t a1 l1 c1 a2 l2 c2 w h3 h4
  rw [if_neg h4]
  exact compareRows_3 s t a1 l1 c1 a2 l2 c2 f g w h1 h2 m1 m2 h3 h4

def sg (l e : Bool) : Int := if e = true then 0 else if l = true then -1 else 1
end Go.Proofs.YtobhccmnlmlapaaGreatDoor
namespace Go.Proofs.YtobhccmnlmlapaaGreatDoor
set_option linter.unusedVariables false

theorem bl_irrefl : ∀ x : List UInt8, Op.bytesLess x x = false
  | [] => rfl
  | a :: x => by simp [Op.bytesLess, bl_irrefl x]
theorem bl_total : ∀ x y : List UInt8, Op.bytesLess x y = false → (x == y) = false → Op.bytesLess y x = true
  | [], [] => by simp
  | [], _ :: _ => by simp [Op.bytesLess]
  | _ :: _, [] => by simp [Op.bytesLess]
  | a :: x, b :: y => by
    intro h1 h2
    simp only [Op.bytesLess, Bool.or_eq_false_iff, decide_eq_false_iff_not] at h1
    simp only [Op.bytesLess, Bool.or_eq_true, decide_eq_true_eq]
    by_cases hab : a = b
    · subst hab
      right
      have h3 : Op.bytesLess x y = false := by simpa using h1.2
      have h4 : (x == y) = false := by simpa using h2
      simp [bl_total x y h3 h4]
    · left
      have := h1.1
      rw [UInt8.lt_iff_toNat_lt] at this ⊢
      have hne : a.toNat ≠ b.toNat := fun h => hab (UInt8.toNat_inj.1 h)
      omega
theorem bl_asymm : ∀ x y : List UInt8, Op.bytesLess x y = true → Op.bytesLess y x = false
  | _, [] => by simp [Op.bytesLess]
  | [], _ :: _ => by simp [Op.bytesLess]
  | a :: x, b :: y => by
    intro h
    simp only [Op.bytesLess, Bool.or_eq_true, decide_eq_true_eq, Bool.and_eq_true, beq_iff_eq] at h
    simp only [Op.bytesLess, Bool.or_eq_false_iff, decide_eq_false_iff_not, Bool.and_eq_false_iff]
    rcases h with h | ⟨h, h'⟩
    · rw [UInt8.lt_iff_toNat_lt] at h
      refine ⟨by rw [UInt8.lt_iff_toNat_lt]; omega, .inl ?_⟩
      simp only [beq_eq_false_iff_ne, ne_eq]
      rintro rfl
      omega
    · subst h
      refine ⟨by rw [UInt8.lt_iff_toNat_lt]; omega, .inr (bl_asymm x y h')⟩

/-- What Compare says is what Before and '==' say. -/
theorem cmpV_sg (k1 n1 : Int) (s1 : ByteArray) (k2 n2 : Int) (s2 : ByteArray) : cmpV k1 n1 s1 k2 n2 s2 = sg (ltV k1 n1 s1 k2 n2 s2) (eqB k1 n1 s1 k2 n2 s2) := by
  unfold cmpV cmpS ltV eqB sg
  by_cases hk : k1 = k2
  · subst hk
    by_cases hn : n1 = n2
    · subst hn
      cases hb : Op.bytesLess s1.toList s2.toList
      · cases he : (s1.toList == s2.toList) <;> simp
      · have : (s1.toList == s2.toList) = false := by
          cases he : (s1.toList == s2.toList)
          · rfl
          · rw [show s1.toList = s2.toList from by simpa using he, bl_irrefl] at hb; cases hb
        simp [this]
    · rcases Int.lt_or_gt_of_ne hn with h | h
      · simp [h, hn]
      · have : ¬ n1 < n2 := by omega
        simp [h, hn, this]
  · rcases Int.lt_or_gt_of_ne hk with h | h
    · simp [h, hk]
    · have : ¬ k1 < k2 := by omega
      simp [h, hk, this]

theorem eqB_symm (k1 n1 : Int) (s1 : ByteArray) (k2 n2 : Int) (s2 : ByteArray) : eqB k1 n1 s1 k2 n2 s2 = eqB k2 n2 s2 k1 n1 s1 := by
  unfold eqB
  rw [Bool.beq_comm (a := k1), Bool.beq_comm (a := n1), Bool.beq_comm (a := s1.toList)]

/-- Of two values that differ one comes first, and the other does not. -/
theorem ltV_swap (k1 n1 : Int) (s1 : ByteArray) (k2 n2 : Int) (s2 : ByteArray) (h : eqB k1 n1 s1 k2 n2 s2 = false) : ltV k2 n2 s2 k1 n1 s1 = !ltV k1 n1 s1 k2 n2 s2 := by
  unfold ltV
  unfold eqB at h
  by_cases hk : k1 = k2
  · subst hk
    by_cases hn : n1 = n2
    · subst hn
      have h' : (s1.toList == s2.toList) = false := by simpa using h
      cases hb : Op.bytesLess s1.toList s2.toList
      · simp [bl_total _ _ hb h']
      · simp [bl_asymm _ _ hb]
    · have hn' : ¬ n2 = n1 := fun e => hn e.symm
      rcases Int.lt_or_gt_of_ne hn with h | h
      · have : ¬ n2 < n1 := by omega
        simp [hn, hn', h, this]
      · have : ¬ n1 < n2 := by omega
        simp [hn, hn', h, this]
  · have hk' : ¬ k2 = k1 := fun e => hk e.symm
    rcases Int.lt_or_gt_of_ne hk with h | h
    · have : ¬ k2 < k1 := by omega
      simp [hk, hk', h, this]
    · have : ¬ k1 < k2 := by omega
      simp [hk, hk', h, this]

theorem from_sg (f g : Nat → V) (l1 l2 : Nat) : ∀ r k, cmpFrom f g l1 l2 r k = sg (ltFrom f g l1 l2 r k) (!ltFrom f g l1 l2 r k && !ltFrom g f l2 l1 r k)
  | 0, k => by
    simp only [cmpFrom, ltFrom, cmpI, sg]
    by_cases h1 : l1 < l2
    · have : (l1 : Int) < (l2 : Int) := by omega
      simp [h1, this]
    · by_cases h2 : l2 < l1
      · have : (l2 : Int) < (l1 : Int) := by omega
        have h3 : ¬ (l1 : Int) < (l2 : Int) := by omega
        simp [h1, h2, this, h3]
      · have : ¬ (l2 : Int) < (l1 : Int) := by omega
        have h3 : ¬ (l1 : Int) < (l2 : Int) := by omega
        simp [h1, h2, this, h3]
  | r + 1, k => by
    simp only [cmpFrom, ltFrom]
    rw [eqB_symm (g k).k]
    cases hq : eqB (f k).k (f k).n (f k).s (g k).k (g k).n (g k).s
    · simp only [Bool.false_eq_true, if_false]
      rw [ltV_swap _ _ _ _ _ _ hq, cmpV_sg, hq]
      cases ltV (f k).k (f k).n (f k).s (g k).k (g k).n (g k).s <;> rfl
    · simp only [if_true]
      exact from_sg f g l1 l2 r (k + 1)

theorem row_sg (s t : Int) (f g : Nat → V) (l1 l2 : Nat) : cmpRow s t f g l1 l2 = sg (ltRow s t f g l1 l2) (!ltRow s t f g l1 l2 && !ltRow t s g f l2 l1) := by
  unfold cmpRow ltRow
  rw [Nat.min_comm l2 l1]
  by_cases hs : s = t
  · subst hs
    simp only [bne_self_eq_false, Bool.false_eq_true, if_false, Int.lt_irrefl]
    exact from_sg f g l1 l2 _ _
  · have hs' : ¬ t = s := fun e => hs e.symm
    rcases Int.lt_or_gt_of_ne hs with h | h
    · simp [sg, hs, h]
    · have : ¬ s < t := by omega
      simp [sg, hs, hs', h, this]
end Go.Proofs.YtobhccmnlmlapaaGreatDoor
