import Derived.Test.YtmeeoamcelkhmaaGreatDoorOrdQ
import Derived.Test.YtmeeoamcelkhmaaGreatDoorOrdA
import Derived.WalkKit
import Derived.Below
import Derived.WalkSmall
import Derived.Handy
import Derived.Deep.RegionHeld3
import Derived.Deep.DrawnRows
import Derived.Deep.QuietTactic
import Derived.BigQuiet
namespace Go.Proofs.YtmeeoamcelkhmaaGreatDoor
open Go.RowKit
set_option linter.unusedVariables false
attribute [local go_sem ↓] neq26 eql26
attribute [local go_sem] guard26

structure V where
  k : Int
  n : Int
  s : ByteArray

/-- 'len' values lie in memory where the slice 'a' begins. -/
def Lies (w : World) (a : Option Addr) (len : Nat) (f : Nat → V) : Prop :=
  ∀ i, i < len → ∃ b off, a = some ⟨b, off, none⟩ ∧ w.cell? ⟨b, off + i * 3, none⟩ = some (.int .i64 (f i).k) ∧ w.cell? ⟨b, off + i * 3 + 1, none⟩ = some (.int .i64 (f i).n) ∧ w.cell? ⟨b, off + i * 3 + 2, none⟩ = some (.string (f i).s)

theorem cell_later {w wx : World} {a : Addr} {v : Value} (hb : Below w.heap.size w wx) (h : w.cell? a = some v) : wx.cell? a = some v := (hb.cell (World.block_lt_of_cell? _ _ h)).trans h
theorem Lies.later {w wx : World} {a : Option Addr} {len : Nat} {f : Nat → V} (h : Lies w a len f) (hb : Below w.heap.size w wx) : Lies wx a len f := fun i hi => by
  obtain ⟨b, off, e, h1, h2, h3⟩ := h i hi
  exact ⟨b, off, e, cell_later hb h1, cell_later hb h2, cell_later hb h3⟩

def ltFrom (f g : Nat → V) (l1 l2 : Nat) : Nat → Nat → Bool
  | 0, _ => decide (l1 < l2)
  | r + 1, k => if eqB (f k).k (f k).n (f k).s (g k).k (g k).n (g k).s = true then ltFrom f g l1 l2 r (k + 1) else ltV (f k).k (f k).n (f k).s (g k).k (g k).n (g k).s

set_option maxHeartbeats 400000 in
theorem listBefore_any (a1 : Option Addr) (l1 c1 : Nat) (a2 : Option Addr) (l2 c2 : Nat) (f g : Nat → V) (w : World) (h1 : Lies w a1 l1 f) (h2 : Lies w a2 l2 g) (m1 : l1 ≤ maxLen) (m2 : l2 ≤ maxLen) :
    Calls Tryz.prog 51 #[.slice a1 l1 c1, .slice a2 l2 c2] w fun e w' => e = .returned (.bool (ltFrom f g l1 l2 (min l1 l2) 0)) ∧ Below w.heap.size w w' := by
  unfold maxLen at m1 m2
  go_enter Tryz.func51, Tryz.ntmps51
  go_wp2
  go_loopw [5] (fun i w' => ∃ k : Nat, k ≤ l1 ∧ k ≤ l2 ∧ i = .int .i64 k ∧ Below w.heap.size w w' ∧ ltFrom f g l1 l2 (min l1 l2) 0 = ltFrom f g l1 l2 (min l1 l2 - k) k) (fun i _ => l1 - (intOf i).toNat)
  case atStart => exact ⟨0, Nat.zero_le _, Nat.zero_le _, rfl, Below.refl _ _, rfl⟩
  case round =>
    rename_i wr _
    obtain ⟨k, hk1, hk2, rfl, hb, hE0⟩ := hrel
    have HE : Hid (ltFrom f g l1 l2 (min l1 l2) 0 = ltFrom f g l1 l2 (min l1 l2 - k) k) := hE0
    clear hE0
    by_cases hlt : k < l1
    · by_cases hlt2 : k < l2
      · obtain ⟨b1, o1, rfl, ha1, ha2, ha3⟩ := h1.later hb k hlt
        obtain ⟨b2, o2, rfl, hb1, hb2, hb3⟩ := h2.later hb k hlt2
        have HS : Hid (ltFrom f g l1 l2 (min l1 l2 - k) k = if eqB (f k).k (f k).n (f k).s (g k).k (g k).n (g k).s = true then ltFrom f g l1 l2 (min l1 l2 - (k + 1)) (k + 1) else ltV (f k).k (f k).n (f k).s (g k).k (g k).n (g k).s) := by
          unfold Hid
          rw [show min l1 l2 - k = (min l1 l2 - (k + 1)) + 1 by omega]; rfl
        clear h1 h2
        cases hq : eqB (f k).k (f k).n (f k).s (g k).k (g k).n (g k).s with
        | true =>
          have HS' : Hid (ltFrom f g l1 l2 (min l1 l2) 0 = ltFrom f g l1 l2 (min l1 l2 - (k + 1)) (k + 1)) := by
            unfold Hid; rw [HE.out, HS.out, if_pos hq]
          go_wp2
          go_quiet (fail)
          go_wp2
          go_roundw
          case rel => exact ⟨k + 1, by omega, by omega, by go_num, below_drewN hb _, HS'.out⟩
          case measure => simp [intOf]; omega
        | false =>
          have HS' : Hid (ltFrom f g l1 l2 (min l1 l2) 0 = ltV (f k).k (f k).n (f k).s (g k).k (g k).n (g k).s) := by
            unfold Hid; rw [HE.out, HS.out, if_neg (by simp [hq])]
          go_wp2
          go_quiet (fail)
          go_wp2
          go_region_held3 (fun w' => w'.cell? ⟨b1, o1 + k * 3, none⟩ = some (.int .i64 (f k).k) ∧ w'.cell? ⟨b1, o1 + k * 3 + 1, none⟩ = some (.int .i64 (f k).n) ∧ w'.cell? ⟨b1, o1 + k * 3 + 2, none⟩ = some (.string (f k).s)
              ∧ w'.cell? ⟨b2, o2 + k * 3, none⟩ = some (.int .i64 (g k).k) ∧ w'.cell? ⟨b2, o2 + k * 3 + 1, none⟩ = some (.int .i64 (g k).n) ∧ w'.cell? ⟨b2, o2 + k * 3 + 2, none⟩ = some (.string (g k).s))
            (first | go_keep | (go_split_ands; exact ⟨cell_later ‹_› ‹_›, cell_later ‹_› ‹_›, cell_later ‹_› ‹_›, cell_later ‹_› ‹_›, cell_later ‹_› ‹_›, cell_later ‹_› ‹_›⟩))
            (first | (go_at_call 68; refine (before_any _ _ _ _ _ _ _).mono ?_; rintro e w' ⟨rfl, hbb⟩))
          go_wp2
          go_ret
          exact ⟨ret_bool HS'.out.symm, hb.trans (((below_drewN (Below.refl _ wr) _).trans hbb).mono hb.size)⟩
      · have e : min l1 l2 - k = 0 := by omega
        have HS' : Hid (ltFrom f g l1 l2 (min l1 l2) 0 = decide (l1 < l2)) := by unfold Hid; rw [HE.out, e]; rfl
        go_wp2
        go_ret
        exact ⟨ret_bool HS'.out.symm, hb⟩
    · have e : min l1 l2 - k = 0 := by omega
      have HS' : Hid (ltFrom f g l1 l2 (min l1 l2) 0 = decide (l1 < l2)) := by unfold Hid; rw [HE.out, e]; rfl
      go_wp2
      all_goals go_ret
      all_goals exact ⟨ret_bool HS'.out.symm, hb⟩

def cmpFrom (f g : Nat → V) (l1 l2 : Nat) : Nat → Nat → Int
  | 0, _ => cmpI l1 l2
  | r + 1, k => if eqB (f k).k (f k).n (f k).s (g k).k (g k).n (g k).s = true then cmpFrom f g l1 l2 r (k + 1) else cmpV (f k).k (f k).n (f k).s (g k).k (g k).n (g k).s

theorem cmpLen (a b : Int) (w : World) : Calls Tryz.prog 39 #[.int .i64 a, .int .i64 b] w fun e w' => e = .returned (.int .i64 (cmpI a b)) ∧ w' = w := by
  by_cases h1 : a < b
  · have H : Hid (cmpI a b = -1) := by unfold Hid cmpI; rw [if_pos h1]
    go_enter Tryz.func39, Tryz.ntmps39
    go_wp2
    all_goals go_ret
    all_goals exact ⟨ret_int H.out.symm, rfl⟩
  · by_cases h2 : b < a
    · have H : Hid (cmpI a b = 1) := by unfold Hid cmpI; rw [if_neg h1, if_pos h2]
      go_enter Tryz.func39, Tryz.ntmps39
      go_wp2
      all_goals go_ret
      all_goals exact ⟨ret_int H.out.symm, rfl⟩
    · have H : Hid (cmpI a b = 0) := by unfold Hid cmpI; rw [if_neg h1, if_neg h2]
      go_enter Tryz.func39, Tryz.ntmps39
      go_wp2
      all_goals go_ret
      all_goals exact ⟨ret_int H.out.symm, rfl⟩

set_option maxHeartbeats 400000 in
theorem compareLists_any (a1 : Option Addr) (l1 c1 : Nat) (a2 : Option Addr) (l2 c2 : Nat) (f g : Nat → V) (w : World) (h1 : Lies w a1 l1 f) (h2 : Lies w a2 l2 g) (m1 : l1 ≤ maxLen) (m2 : l2 ≤ maxLen) :
    Calls Tryz.prog 47 #[.slice a1 l1 c1, .slice a2 l2 c2] w fun e w' => e = .returned (.int .i64 (cmpFrom f g l1 l2 (min l1 l2) 0)) ∧ Below w.heap.size w w' := by
  unfold maxLen at m1 m2
  go_enter Tryz.func47, Tryz.ntmps47
  go_wp2
  all_goals
    go_loopw [11] (fun i w' => ∃ k : Nat, k ≤ l1 ∧ k ≤ l2 ∧ i = .int .i64 k ∧ Below w.heap.size w w' ∧ cmpFrom f g l1 l2 (min l1 l2) 0 = cmpFrom f g l1 l2 (min l1 l2 - k) k) (fun i _ => l1 - (intOf i).toNat)
    case atStart => exact ⟨0, Nat.zero_le _, Nat.zero_le _, rfl, Below.refl _ _, rfl⟩
    case round =>
      rename_i wr _
      obtain ⟨k, hk1, hk2, rfl, hb, hE0⟩ := hrel
      have HE : Hid (cmpFrom f g l1 l2 (min l1 l2) 0 = cmpFrom f g l1 l2 (min l1 l2 - k) k) := hE0
      clear hE0
      by_cases hlt : k < min l1 l2
      · have hlt1 : k < l1 := by omega
        have hlt2 : k < l2 := by omega
        have hi1 : (k : Int) < (l1 : Int) := by omega
        have hi2 : (k : Int) < (l2 : Int) := by omega
        obtain ⟨b1, o1, rfl, ha1, ha2, ha3⟩ := h1.later hb k hlt1
        obtain ⟨b2, o2, rfl, hb1, hb2, hb3⟩ := h2.later hb k hlt2
        have HS : Hid (cmpFrom f g l1 l2 (min l1 l2 - k) k = if eqB (f k).k (f k).n (f k).s (g k).k (g k).n (g k).s = true then cmpFrom f g l1 l2 (min l1 l2 - (k + 1)) (k + 1) else cmpV (f k).k (f k).n (f k).s (g k).k (g k).n (g k).s) := by
          unfold Hid
          rw [show min l1 l2 - k = (min l1 l2 - (k + 1)) + 1 by omega]; rfl
        clear h1 h2
        cases hq : eqB (f k).k (f k).n (f k).s (g k).k (g k).n (g k).s with
        | true =>
          have HS' : Hid (cmpFrom f g l1 l2 (min l1 l2) 0 = cmpFrom f g l1 l2 (min l1 l2 - (k + 1)) (k + 1)) := by
            unfold Hid; rw [HE.out, HS.out, if_pos hq]
          go_wp2
          go_quiet (fail)
          go_wp2
          go_roundw
          case rel => exact ⟨k + 1, by omega, by omega, by go_num, below_drewN hb _, HS'.out⟩
          case measure => simp [intOf]; omega
        | false =>
          have HS' : Hid (cmpFrom f g l1 l2 (min l1 l2) 0 = cmpV (f k).k (f k).n (f k).s (g k).k (g k).n (g k).s) := by
            unfold Hid; rw [HE.out, HS.out, if_neg (by simp [hq])]
          go_wp2
          go_quiet (fail)
          go_wp2
          go_region_held3 (fun w' => w'.cell? ⟨b1, o1 + k * 3, none⟩ = some (.int .i64 (f k).k) ∧ w'.cell? ⟨b1, o1 + k * 3 + 1, none⟩ = some (.int .i64 (f k).n) ∧ w'.cell? ⟨b1, o1 + k * 3 + 2, none⟩ = some (.string (f k).s)
              ∧ w'.cell? ⟨b2, o2 + k * 3, none⟩ = some (.int .i64 (g k).k) ∧ w'.cell? ⟨b2, o2 + k * 3 + 1, none⟩ = some (.int .i64 (g k).n) ∧ w'.cell? ⟨b2, o2 + k * 3 + 2, none⟩ = some (.string (g k).s))
            (first | go_keep | (go_split_ands; exact ⟨cell_later ‹_› ‹_›, cell_later ‹_› ‹_›, cell_later ‹_› ‹_›, cell_later ‹_› ‹_›, cell_later ‹_› ‹_›, cell_later ‹_› ‹_›⟩))
            (first | (go_at_call 67; refine (compare_any _ _ _ _ _ _ _).mono ?_; rintro e w' ⟨rfl, hbb⟩))
          go_wp2
          go_ret
          exact ⟨ret_int HS'.out.symm, hb.trans (((below_drewN (Below.refl _ wr) _).trans hbb).mono hb.size)⟩
      · have e : min l1 l2 - k = 0 := by omega
        have HS' : Hid (cmpFrom f g l1 l2 (min l1 l2) 0 = cmpI l1 l2) := by unfold Hid; rw [HE.out, e]; rfl
        have hno1 : ¬ ((k : Int) < (min l1 l2 : Nat)) := by omega
        go_wp2_with (first | (go_at_call 39; refine (cmpLen _ _ _).mono ?_; rintro e w' ⟨rfl, rfl⟩))
        go_ret
        exact ⟨ret_int HS'.out.symm, hb⟩
end Go.Proofs.YtmeeoamcelkhmaaGreatDoor
