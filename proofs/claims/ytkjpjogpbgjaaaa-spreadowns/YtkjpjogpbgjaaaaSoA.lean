import Derived.Test.YtkjpjogpbgjaaaaRows
import Derived.WalkKit
import Derived.ProofKit
import Derived.OpenShut
import Derived.Deep.LoopGhost
import Derived.Below
import Derived.WalkSmall
import Derived.LoopN
import Derived.Handy
import Derived.KernelRfl
namespace Go.Proofs.Ytkjpjogpbgjaaaa
open Go.ChangeShapes Go.WideShapes Go.ChangeAt Go.RowKit
set_option linter.unusedVariables false      -- a walk need not use every 'w<i>' (that an integer argument fits its kind)

set_option maxRecDepth 100000
theorem hidMk {p : Prop} (h : p) : Hid p := h
theorem own : ownKnob Try.prog.godebug = none := by kernel_rfl

theorem canBe_any (p : Int) (hp : 1 ≤ p) (hq : p ≤ 4) (w : World) : Calls Try.prog 6 #[.int .i64 p] w fun e w' => e = .returned (.bool true) ∧ w' = w := by
  go_enter Try.func6, Try.ntmps6
  go_wp2
  go_ret
  exact ⟨rfl, rfl⟩
theorem firstOf_any (t p : Int) (ht : 0 ≤ t) (htp : t ≤ p) (hp : 1 ≤ p) (hq : p ≤ 4) (w : World) : Calls Try.prog 7 #[.int .i64 t, .int .i64 p] w fun e w' => e = .returned (.int .i64 ((t * 32 + p - 1).tdiv p)) ∧ w' = w := by
  rcases (show p = 1 ∨ p = 2 ∨ p = 3 ∨ p = 4 by omega) with rfl | rfl | rfl | rfl
  all_goals rcases (show t = 0 ∨ t = 1 ∨ t = 2 ∨ t = 3 ∨ t = 4 by omega) with rfl | rfl | rfl | rfl | rfl
  all_goals first | omega | skip
  all_goals (go_enter Try.func7, Try.ntmps7)
  all_goals go_wp2
  all_goals go_ret
  all_goals exact ⟨rfl, rfl⟩
theorem range_any (t p : Int) (ht : 0 ≤ t) (htp : t < p) (hp : 1 ≤ p) (hq : p ≤ 4) (w : World) : Calls Try.prog 4 #[.int .i64 t, .int .i64 p] w fun e w' => e = .returned (.tuple #[.int .i64 ((t * 32 + p - 1).tdiv p), .int .i64 (((t + 1) * 32 + p - 1).tdiv p)]) ∧ w' = w := by
  go_enter Try.func4, Try.ntmps4
  go_wp2_with fail
  refine (canBe_any p hp hq _).mono ?_
  rintro e w1 ⟨rfl, rfl⟩
  go_wp2_with fail
  refine (firstOf_any t p ht (by omega) hp hq _).mono ?_
  rintro e w1 ⟨rfl, rfl⟩
  go_wp2_with fail
  refine (firstOf_any (t + 1) p (by omega) (by omega) hp hq _).mono ?_
  rintro e w1 ⟨rfl, rfl⟩
  go_wp2
  go_ret2
  exact ⟨rfl, rfl⟩
theorem owner_any (g p : Int) (hg : 0 ≤ g) (hg2 : g < 32) (hp : 1 ≤ p) (hq : p ≤ 4) (w : World) : Calls Try.prog 5 #[.int .i64 g, .int .i64 p] w fun e w' => (∃ r, e = .returned (.int .i64 r) ∧ r = g * p / 32) ∧ w' = w := by
  rcases (show p = 1 ∨ p = 2 ∨ p = 3 ∨ p = 4 by omega) with rfl | rfl | rfl | rfl
  all_goals (go_enter Try.func5, Try.ntmps5)
  all_goals go_wp2_with fail
  all_goals refine (canBe_any _ hp hq _).mono ?_
  all_goals rintro e w1 ⟨rfl, rfl⟩
  all_goals go_wp2
  all_goals go_ret
  all_goals exact ⟨⟨_, rfl, by omega⟩, rfl⟩
/-- The first group of a task; the fewest and the most groups of the tasks ahead of one. -/
def fst (p t : Int) : Int := (t * 32 + p - 1).tdiv p
def fewest (p : Int) : Nat → Int
  | 0 => 32
  | k + 1 => if fst p (k + 1) - fst p k < fewest p k then fst p (k + 1) - fst p k else fewest p k
def most (p : Int) : Nat → Int
  | 0 => 0
  | k + 1 => if fst p (k + 1) - fst p k > most p k then fst p (k + 1) - fst p k else most p k
theorem owns (p t g : Int) (ht : 0 ≤ t) (htp : t < p) (hp : 1 ≤ p) (hq : p ≤ 4) (h1 : fst p t ≤ g) (h2 : g < fst p (t + 1)) : g * p / 32 = t ∧ 0 ≤ g ∧ g < 32 := by
  unfold fst at h1 h2
  rcases (show p = 1 ∨ p = 2 ∨ p = 3 ∨ p = 4 by omega) with rfl | rfl | rfl | rfl
  all_goals rcases (show t = 0 ∨ t = 1 ∨ t = 2 ∨ t = 3 by omega) with rfl | rfl | rfl | rfl
  all_goals first | omega | skip
  all_goals (simp only [Int.reduceMul, Int.reduceAdd, Int.reduceSub, Int.reduceTDiv] at h1 h2 ⊢; refine ⟨?_, by omega, by omega⟩; omega)
theorem fst_le (p : Int) (k : Nat) (hk : (k : Int) < p) (hq : p ≤ 4) : fst p k ≤ fst p (k + 1) ∧ 0 ≤ fst p k ∧ fst p (k + 1) ≤ 32 ∧ 0 ≤ most p k ∧ most p k ≤ 32 ∧ 0 ≤ fewest p k ∧ fewest p k ≤ 32 := by
  rcases (show p = 1 ∨ p = 2 ∨ p = 3 ∨ p = 4 by omega) with rfl | rfl | rfl | rfl
  all_goals rcases (show k = 0 ∨ k = 1 ∨ k = 2 ∨ k = 3 by omega) with rfl | rfl | rfl | rfl
  all_goals first | omega | decide
theorem ends (p : Int) (hp : 1 ≤ p) (hq : p ≤ 4) : fst p p = 32 ∧ most p p.toNat - fewest p p.toNat ≤ 1 ∧ 0 ≤ most p p.toNat ∧ most p p.toNat ≤ 32 ∧ 0 ≤ fewest p p.toNat ∧ fewest p p.toNat ≤ 32 := by
  rcases (show p = 1 ∨ p = 2 ∨ p = 3 ∨ p = 4 by omega) with rfl | rfl | rfl | rfl
  all_goals decide

theorem fst_zero (p : Int) (hp : 1 ≤ p) (hq : p ≤ 4) : fst p 0 = 0 := by
  rcases (show p = 1 ∨ p = 2 ∨ p = 3 ∨ p = 4 by omega) with rfl | rfl | rfl | rfl
  all_goals decide
set_option maxHeartbeats 4000000 in
theorem walkP (a0 : Int) (ha : ¬ a0 < 1) (hb : ¬ 4 < a0) (w : World) :
    Calls Try.prog 3 #[.int .i64 a0] w fun e w' => e = .returned (.bool true) ∧ w' = w := by
  go_enter Try.func3, Try.ntmps3
  go_wp2
  go_loopg [3, 4, 5, 6] 5 (fun gk at' le mo t wr => ∃ k : Nat, (k : Int) ≤ a0 ∧ gk + k = 5 ∧ t = .int .i64 k ∧ at' = .int .i64 (fst a0 k) ∧ le = .int .i64 (fewest a0 k) ∧ mo = .int .i64 (most a0 k) ∧ wr = w)
  case atStart => exact ⟨0, by omega, by omega, rfl, by rw [show ((0 : Nat) : Int) = 0 from rfl, fst_zero a0 (by omega) (by omega)], rfl, rfl, rfl⟩
  case round =>
    obtain ⟨k, hkp, hgk, rfl, rfl, rfl, rfl, hb⟩ := hrel
    have HB := hidMk hb
    obtain ⟨G, hG⟩ : ∃ G, G = gk := ⟨_, rfl⟩
    by_cases hk : (k : Int) < a0
    · obtain ⟨f1, f2, f3, f4, f5, f6, f7⟩ := fst_le a0 k hk (by omega)
      have HO : Hid (∀ g : Int, fst a0 k ≤ g → g < fst a0 (k + 1) → g * a0 / 32 = k ∧ 0 ≤ g ∧ g < 32) := fun g h1 h2 => owns a0 k g (by omega) hk (by omega) (by omega) h1 h2
      have HR := hidMk (range_any k a0 (by omega) hk (by omega) (by omega))
      have HF : Hid (fewest a0 (k + 1) = if fst a0 (k + 1) - fst a0 k < fewest a0 k then fst a0 (k + 1) - fst a0 k else fewest a0 k) := rfl
      have HM : Hid (most a0 (k + 1) = if fst a0 (k + 1) - fst a0 k > most a0 k then fst a0 (k + 1) - fst a0 k else most a0 k) := rfl
      change Hid (∀ w : World, Calls Try.prog 4 #[.int .i64 k, .int .i64 a0] w fun e w' => e = .returned (.tuple #[.int .i64 (fst a0 k), .int .i64 (fst a0 (k + 1))]) ∧ w' = w) at HR
      have HN : Hid (fst a0 ((k + 1 : Nat) : Int) = fst a0 (k + 1)) := by simp [Hid]
      generalize fst a0 k = lo at *
      generalize fst a0 (k + 1) = hi at *
      generalize fewest a0 k = fe at *
      generalize most a0 k = mo at *
      clear hb
      go_wp2_with fail
      refine (HR.out _).mono ?_
      rintro e w1 ⟨rfl, rfl⟩
      go_wp2
      go_loopg [9] (hi - lo).toNat (fun gi g wr => ∃ g0 : Int, lo ≤ g0 ∧ g0 ≤ hi ∧ (gi : Int) + g0 = hi ∧ g = .int .i64 g0 ∧ wr = w)
      case atStart => exact ⟨lo, by omega, by omega, by omega, rfl, HB.out⟩
      case round =>
        obtain ⟨g0, h1, h2, h3, rfl, hb2⟩ := hrel
        have HB2 := hidMk hb2
        clear hb2
        by_cases hg : g0 < hi
        · obtain ⟨o1, o2, o3⟩ := HO.out g0 h1 hg
          have HW := hidMk (owner_any g0 a0 o2 o3 (by omega) (by omega))
          go_wp2_with fail
          refine (HW.out _).mono ?_
          rintro e w1 ⟨⟨r, rfl, hr⟩, rfl⟩
          obtain rfl : r = k := by rw [hr, o1]
          clear hr o1
          go_wp2
          go_roundg (gk - 1)
          case measure => omega
          case rel => exact ⟨g0 + 1, by omega, by omega, by omega, by go_num, HB2.out⟩
        · obtain rfl : g0 = hi := by omega
          go_wp2
          all_goals (go_roundg (G - 1))
          all_goals first | omega | skip
          all_goals exact ⟨k + 1, by omega, by omega, by go_num, by rw [HN.out], by first | rw [HF.out, if_pos (by omega)] | rw [HF.out, if_neg (by omega)], by first | rw [HM.out, if_pos (by omega)] | rw [HM.out, if_neg (by omega)], HB2.out⟩
    · have hkp' : (k : Int) = a0 := by omega
      obtain ⟨e1, e2, e3, e4, e5, e6⟩ := ends a0 (by omega) (by omega)
      have hkk : (a0 : Int).toNat = k := by omega
      rw [hkk] at e2 e3 e4 e5 e6
      rw [hkp', e1]
      generalize fewest a0 k = fe at *
      generalize most a0 k = mo at *
      clear hb
      go_wp2
      go_ret
      exact ⟨rfl, HB.out⟩

set_option maxHeartbeats 4000000 in
theorem walkL (a0 : Int) (ha : a0 < 1) (w : World) :
    Calls Try.prog 3 #[.int .i64 a0] w fun e w' => e = .returned (.bool true) ∧ w' = w := by
  go_enter Try.func3, Try.ntmps3
  go_wp2
  go_loopg [3, 4, 5, 6] 5 (fun gk at' le mo t wr => ∃ k : Nat, (k : Int) ≤ 3 ∧ gk + k = 5 ∧ t = .int .i64 k ∧ at' = .int .i64 (fst 3 k) ∧ le = .int .i64 (fewest 3 k) ∧ mo = .int .i64 (most 3 k) ∧ wr = w)
  case atStart => exact ⟨0, by omega, by omega, rfl, by rw [show ((0 : Nat) : Int) = 0 from rfl, fst_zero 3 (by omega) (by omega)], rfl, rfl, rfl⟩
  case round =>
    obtain ⟨k, hkp, hgk, rfl, rfl, rfl, rfl, hb⟩ := hrel
    have HB := hidMk hb
    obtain ⟨G, hG⟩ : ∃ G, G = gk := ⟨_, rfl⟩
    by_cases hk : (k : Int) < 3
    · obtain ⟨f1, f2, f3, f4, f5, f6, f7⟩ := fst_le 3 k hk (by omega)
      have HO : Hid (∀ g : Int, fst 3 k ≤ g → g < fst 3 (k + 1) → g * 3 / 32 = k ∧ 0 ≤ g ∧ g < 32) := fun g h1 h2 => owns 3 k g (by omega) hk (by omega) (by omega) h1 h2
      have HR := hidMk (range_any k 3 (by omega) hk (by omega) (by omega))
      have HF : Hid (fewest 3 (k + 1) = if fst 3 (k + 1) - fst 3 k < fewest 3 k then fst 3 (k + 1) - fst 3 k else fewest 3 k) := rfl
      have HM : Hid (most 3 (k + 1) = if fst 3 (k + 1) - fst 3 k > most 3 k then fst 3 (k + 1) - fst 3 k else most 3 k) := rfl
      change Hid (∀ w : World, Calls Try.prog 4 #[.int .i64 k, .int .i64 3] w fun e w' => e = .returned (.tuple #[.int .i64 (fst 3 k), .int .i64 (fst 3 (k + 1))]) ∧ w' = w) at HR
      have HN : Hid (fst 3 ((k + 1 : Nat) : Int) = fst 3 (k + 1)) := by simp [Hid]
      generalize fst 3 k = lo at *
      generalize fst 3 (k + 1) = hi at *
      generalize fewest 3 k = fe at *
      generalize most 3 k = mo at *
      clear hb
      go_wp2_with fail
      refine (HR.out _).mono ?_
      rintro e w1 ⟨rfl, rfl⟩
      go_wp2
      go_loopg [9] (hi - lo).toNat (fun gi g wr => ∃ g0 : Int, lo ≤ g0 ∧ g0 ≤ hi ∧ (gi : Int) + g0 = hi ∧ g = .int .i64 g0 ∧ wr = w)
      case atStart => exact ⟨lo, by omega, by omega, by omega, rfl, HB.out⟩
      case round =>
        obtain ⟨g0, h1, h2, h3, rfl, hb2⟩ := hrel
        have HB2 := hidMk hb2
        clear hb2
        by_cases hg : g0 < hi
        · obtain ⟨o1, o2, o3⟩ := HO.out g0 h1 hg
          have HW := hidMk (owner_any g0 3 o2 o3 (by omega) (by omega))
          go_wp2_with fail
          refine (HW.out _).mono ?_
          rintro e w1 ⟨⟨r, rfl, hr⟩, rfl⟩
          obtain rfl : r = k := by rw [hr, o1]
          clear hr o1
          go_wp2
          go_roundg (gk - 1)
          case measure => omega
          case rel => exact ⟨g0 + 1, by omega, by omega, by omega, by go_num, HB2.out⟩
        · obtain rfl : g0 = hi := by omega
          go_wp2
          all_goals (go_roundg (G - 1))
          all_goals first | omega | skip
          all_goals exact ⟨k + 1, by omega, by omega, by go_num, by rw [HN.out], by first | rw [HF.out, if_pos (by omega)] | rw [HF.out, if_neg (by omega)], by first | rw [HM.out, if_pos (by omega)] | rw [HM.out, if_neg (by omega)], HB2.out⟩
    · have hkp' : (k : Int) = 3 := by omega
      obtain ⟨e1, e2, e3, e4, e5, e6⟩ := ends 3 (by omega) (by omega)
      have hkk : (3 : Int).toNat = k := by omega
      rw [hkk] at e2 e3 e4 e5 e6
      rw [hkp', e1]
      generalize fewest 3 k = fe at *
      generalize most 3 k = mo at *
      clear hb
      go_wp2
      go_ret
      exact ⟨rfl, HB.out⟩

set_option maxHeartbeats 4000000 in
theorem walkH (a0 : Int) (ha : ¬ a0 < 1) (hb : 4 < a0) (w : World) :
    Calls Try.prog 3 #[.int .i64 a0] w fun e w' => e = .returned (.bool true) ∧ w' = w := by
  go_enter Try.func3, Try.ntmps3
  go_wp2
  go_loopg [3, 4, 5, 6] 5 (fun gk at' le mo t wr => ∃ k : Nat, (k : Int) ≤ 3 ∧ gk + k = 5 ∧ t = .int .i64 k ∧ at' = .int .i64 (fst 3 k) ∧ le = .int .i64 (fewest 3 k) ∧ mo = .int .i64 (most 3 k) ∧ wr = w)
  case atStart => exact ⟨0, by omega, by omega, rfl, by rw [show ((0 : Nat) : Int) = 0 from rfl, fst_zero 3 (by omega) (by omega)], rfl, rfl, rfl⟩
  case round =>
    obtain ⟨k, hkp, hgk, rfl, rfl, rfl, rfl, hb⟩ := hrel
    have HB := hidMk hb
    obtain ⟨G, hG⟩ : ∃ G, G = gk := ⟨_, rfl⟩
    by_cases hk : (k : Int) < 3
    · obtain ⟨f1, f2, f3, f4, f5, f6, f7⟩ := fst_le 3 k hk (by omega)
      have HO : Hid (∀ g : Int, fst 3 k ≤ g → g < fst 3 (k + 1) → g * 3 / 32 = k ∧ 0 ≤ g ∧ g < 32) := fun g h1 h2 => owns 3 k g (by omega) hk (by omega) (by omega) h1 h2
      have HR := hidMk (range_any k 3 (by omega) hk (by omega) (by omega))
      have HF : Hid (fewest 3 (k + 1) = if fst 3 (k + 1) - fst 3 k < fewest 3 k then fst 3 (k + 1) - fst 3 k else fewest 3 k) := rfl
      have HM : Hid (most 3 (k + 1) = if fst 3 (k + 1) - fst 3 k > most 3 k then fst 3 (k + 1) - fst 3 k else most 3 k) := rfl
      change Hid (∀ w : World, Calls Try.prog 4 #[.int .i64 k, .int .i64 3] w fun e w' => e = .returned (.tuple #[.int .i64 (fst 3 k), .int .i64 (fst 3 (k + 1))]) ∧ w' = w) at HR
      have HN : Hid (fst 3 ((k + 1 : Nat) : Int) = fst 3 (k + 1)) := by simp [Hid]
      generalize fst 3 k = lo at *
      generalize fst 3 (k + 1) = hi at *
      generalize fewest 3 k = fe at *
      generalize most 3 k = mo at *
      clear hb
      go_wp2_with fail
      refine (HR.out _).mono ?_
      rintro e w1 ⟨rfl, rfl⟩
      go_wp2
      go_loopg [9] (hi - lo).toNat (fun gi g wr => ∃ g0 : Int, lo ≤ g0 ∧ g0 ≤ hi ∧ (gi : Int) + g0 = hi ∧ g = .int .i64 g0 ∧ wr = w)
      case atStart => exact ⟨lo, by omega, by omega, by omega, rfl, HB.out⟩
      case round =>
        obtain ⟨g0, h1, h2, h3, rfl, hb2⟩ := hrel
        have HB2 := hidMk hb2
        clear hb2
        by_cases hg : g0 < hi
        · obtain ⟨o1, o2, o3⟩ := HO.out g0 h1 hg
          have HW := hidMk (owner_any g0 3 o2 o3 (by omega) (by omega))
          go_wp2_with fail
          refine (HW.out _).mono ?_
          rintro e w1 ⟨⟨r, rfl, hr⟩, rfl⟩
          obtain rfl : r = k := by rw [hr, o1]
          clear hr o1
          go_wp2
          go_roundg (gk - 1)
          case measure => omega
          case rel => exact ⟨g0 + 1, by omega, by omega, by omega, by go_num, HB2.out⟩
        · obtain rfl : g0 = hi := by omega
          go_wp2
          all_goals (go_roundg (G - 1))
          all_goals first | omega | skip
          all_goals exact ⟨k + 1, by omega, by omega, by go_num, by rw [HN.out], by first | rw [HF.out, if_pos (by omega)] | rw [HF.out, if_neg (by omega)], by first | rw [HM.out, if_pos (by omega)] | rw [HM.out, if_neg (by omega)], HB2.out⟩
    · have hkp' : (k : Int) = 3 := by omega
      obtain ⟨e1, e2, e3, e4, e5, e6⟩ := ends 3 (by omega) (by omega)
      have hkk : (3 : Int).toNat = k := by omega
      rw [hkk] at e2 e3 e4 e5 e6
      rw [hkp', e1]
      generalize fewest 3 k = fe at *
      generalize most 3 k = mo at *
      clear hb
      go_wp2
      go_ret
      exact ⟨rfl, HB.out⟩

theorem walk (a0 : Int) (w0 : (Lit.int .i64 a0).wf = true) (w : World) :
    Calls Try.prog 3 #[.int .i64 a0] w fun e w' => e = .returned (.bool true) ∧ Grown w w' := by
  by_cases ha : a0 < 1
  · exact (walkL a0 ha w).mono fun e w' ⟨h1, h2⟩ => ⟨h1, h2 ▸ Grown.refl _⟩
  · by_cases hb : 4 < a0
    · exact (walkH a0 ha hb w).mono fun e w' ⟨h1, h2⟩ => ⟨h1, h2 ▸ Grown.refl _⟩
    · exact (walkP a0 ha hb w).mono fun e w' ⟨h1, h2⟩ => ⟨h1, h2 ▸ Grown.refl _⟩
set_option maxRecDepth 100000 in
theorem lifted (os : Os) (started : os.Started) (H : Type) (enc : TypeId × Value → H) :
    ReturnsInHanded {} Try.checked os 3 .any (Rows.spreadOwnsSpec.pre6 enc Try.prog Try.f3 Rows.spreadOwnsRow.domain false) (Rows.spreadOwnsSpec.post enc Try.prog Try.f3 false true false false) := by
  refine returnsInHanded_of_change (C := Try.checked) own started (by kernel_rfl) Try.func3
    (ChangeSpec.witness6 (enc := enc) (C := Try.checked) false ⟨#[], #[.int .i64 0], []⟩ 8 (by kernel_rfl) (by kernel_rfl) (by kernel_rfl) (by kernel_rfl)) ?_
  intro W base args ds gs before hval0 hW hcnd _
  have hval : ∀ (j : Nat) t v, Try.f3.params[j]? = some t → args[j]? = some v → Value.okWide Try.prog W .any base t v := hval0
  have hW' := hW
  obtain ⟨p, q, hA0, hV, rfl, hfz, hnd⟩ := hW
  have hA : DataW.TrodAll enc Try.prog W 0 (fun _ => true) true Try.f3.params.toList args.toList ds p := hA0
  rw [Try.params3] at hA hval
  obtain ⟨v0, vs0, d0, ds0, p0, q0, hargs, rfl, rfl, h0, r0⟩ := trodAll_cons hA
  obtain ⟨rfl, rfl, rfl⟩ := trodAll_nil r0
  obtain rfl : args = #[v0] := by cases args; simp_all
  obtain ⟨rfl, rfl⟩ := trodVars_none hV
  obtain ⟨a0, rfl, rfl, rfl, w0⟩ := open_int Try.underlying3 (hval 0 3 v0 rfl rfl) h0
  clear hA0 hval0
  simp only [List.append_nil] at hW'
  refine (walk a0 w0 W).mono fun e W' ⟨he, hg⟩ => ?_
  subst he
  exact ⟨_, rfl, post_of_same (pa := []) (pv := []) hW' (fun _ _ _ => (trodAll_cons_mk (shut_bool Try.underlying4 _) trodAll_mk0)) (fun sp _ => (trodAll_cons_mk (shut_int Try.underlying3 w0) trodAll_mk0)) (fun _ _ => rfl) rfl
    (hg.frame _) hg.2.1 (ok_one (by kernel_rfl) rfl (okWide_bool_mk Try.underlying4 _))⟩

theorem over : Rows.spreadOwnsRow.holds Try.pinned (OpenSpec.ofChange Rows.spreadOwnsSpec) :=
  OpenClaim.holds_of_wide 3 Try.f3 rfl rfl rfl rfl rfl rfl rfl ⟨rfl, rfl, rfl, rfl, rfl⟩ rfl rfl rfl rfl rfl (by kernel_rfl) Try.func3 (by kernel_rfl)
    (of_decide_eq_true (by kernel_rfl)) (by unfold Func.isWrapper; first | (rw [if_pos (by decide +kernel)]; kernel_rfl) | (rw [if_neg (by decide +kernel)]; exact ⟨rfl, rfl⟩))
    (fun os started H enc _ => lifted os started H enc)

theorem proved : Rows.SpreadOwnsSaid :=
  over
end Go.Proofs.Ytkjpjogpbgjaaaa
