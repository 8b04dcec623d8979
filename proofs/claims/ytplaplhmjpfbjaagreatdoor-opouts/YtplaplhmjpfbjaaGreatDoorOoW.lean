import Derived.Test.YtplaplhmjpfbjaaGreatDoorProg
import Derived.WalkKit
import Derived.Below
import Derived.WalkSmall
import Derived.LoopN
import Derived.Laws.StructEq
import Derived.Laws.Cover1
import Derived.Handy
import Derived.KernelRfl
import Derived.Deep.DrawnRows
import Derived.Deep.RegionWith
import Derived.Deep.QuietTactic
import Derived.BigQuiet
import Derived.Deep.OwnRows
import Derived.Laws.OwnMore
import Derived.OwnWalk
import Derived.Laws.Slices
import Derived.Sort.AtCall
namespace Go.Proofs.YtplaplhmjpfbjaaGreatDoor.Wn
open Go.RowKit
set_option linter.unusedVariables false
set_option linter.unusedSimpArgs false
set_option maxRecDepth 100000

/-- A window. -/
structure Wn where
  a : Int
  b : Int
deriving DecidableEq
def wV (v : Wn) : Value := .agg #[.int .i64 v.a, .int .i64 v.b]

theorem xcell {w wx : World} {a : Addr} {v : Value} (hb : Below w.heap.size w wx) (h : w.cell? a = some v) : wx.cell? a = some v := (hb.cell (World.block_lt_of_cell? _ _ h)).trans h
theorem xbel1 (w : World) (o1 : Obj) : Below w.heap.size w (w.alloc o1) := (Below.refl _ _).alloc (Nat.le_refl _) _

theorem w64 {x : Int} (h1 : -9223372036854775808 ≤ x) (h2 : x < 9223372036854775808) : wrap64 x = x := by
  unfold wrap64
  omega

theorem within_any (n m : Int) (w : World) : Calls Tryz.prog 69 #[.int .i64 n, .int .i64 m] w fun e w' => e = .returned (.bool (decide (1 ≤ n) && decide (n ≤ m))) ∧ Below w.heap.size w w' := by
  go_enter Tryz.func69, Tryz.ntmps69
  by_cases h1 : 1 ≤ n
  · have h1' : decide (1 ≤ n) = true := by simpa using h1
    go_wp2
    go_ret
    refine ⟨?_, ?_⟩
    · simp [h1]
    · exact Below.refl _ _
  · have h1' : decide (1 ≤ n) = false := by simpa using h1
    go_wp2
    go_ret
    refine ⟨?_, ?_⟩
    · simp [h1]
    · exact Below.refl _ _

/-- Which windows can be. -/
def validB (k s p : Int) : Bool :=
  if k = 1 ∨ k = 3 then (decide (1 ≤ s) && decide (s ≤ 1048576)) && (p == 0)
  else if k = 2 then ((decide (1 ≤ s) && decide (s ≤ 1048576)) && (decide (1 ≤ p) && decide (p ≤ s))) && decide (s.tdiv p ≤ 64)
  else if k = 4 then (s == 0) && (p == 0)
  else false


theorem valid_one (k s p : Int) (hk : k = 1 ∨ k = 3) (w : World) : Calls Tryz.prog 48 #[.agg #[.int .i64 k, .int .i64 s, .int .i64 p]] w fun e w' => e = .returned (.bool (validB k s p)) ∧ Below w.heap.size w w' := by
  have hv : Hid (validB k s p = ((decide (1 ≤ s) && decide (s ≤ 1048576)) && (p == 0))) := by unfold Hid validB; rw [if_pos hk]
  rcases hk with rfl | rfl
  · cases h1 : (decide (1 ≤ s) && decide (s ≤ 1048576)) <;>
    · go_enter Tryz.func48, Tryz.ntmps48
      go_wp2_with (go_at_call 69; refine (within_any _ _ _).mono ?_; rw [h1]; rintro e w' ⟨rfl, hb⟩; have hc := xcell (a := ⟨w.heap.size, 2, none⟩) (v := .int .i64 p) hb (by go_simp))
      go_ret
      refine ⟨?_, ?_⟩
      · rw [hv.out, h1]; try rfl
      · exact (xbel1 _ _).trans (hb.mono (by simp))
  · cases h1 : (decide (1 ≤ s) && decide (s ≤ 1048576)) <;>
    · go_enter Tryz.func48, Tryz.ntmps48
      go_wp2_with (go_at_call 69; refine (within_any _ _ _).mono ?_; rw [h1]; rintro e w' ⟨rfl, hb⟩; have hc := xcell (a := ⟨w.heap.size, 2, none⟩) (v := .int .i64 p) hb (by go_simp))
      go_ret
      refine ⟨?_, ?_⟩
      · rw [hv.out, h1]; try rfl
      · exact (xbel1 _ _).trans (hb.mono (by simp))

theorem valid_two (s p : Int) (hs : (Lit.int .i64 s).wf = true) (w : World) : Calls Tryz.prog 48 #[.agg #[.int .i64 2, .int .i64 s, .int .i64 p]] w fun e w' => e = .returned (.bool (validB 2 s p)) ∧ Below w.heap.size w w' := by
  have hv : Hid (validB 2 s p = (((decide (1 ≤ s) && decide (s ≤ 1048576)) && (decide (1 ≤ p) && decide (p ≤ s))) && decide (s.tdiv p ≤ 64))) := by unfold Hid validB; rw [if_neg (by decide), if_pos rfl]
  cases h1 : (decide (1 ≤ s) && decide (s ≤ 1048576)) with
  | false =>
    go_enter Tryz.func48, Tryz.ntmps48
    go_wp2_with (go_at_call 69; refine (within_any _ _ _).mono ?_; rw [h1]; rintro e w' ⟨rfl, hb⟩)
    go_ret
    exact ⟨by rw [hv.out, h1]; rfl, (xbel1 _ _).trans (hb.mono (by simp))⟩
  | true =>
    cases h2 : (decide (1 ≤ p) && decide (p ≤ s)) with
    | false =>
      go_enter Tryz.func48, Tryz.ntmps48
      go_wp2_with (first | (go_at_call_has 69 (1048576 : Int); refine (within_any _ _ _).mono ?_; rw [h1]; rintro e w' ⟨rfl, hb⟩; have hc := xcell (a := ⟨w.heap.size, 2, none⟩) (v := .int .i64 p) hb (by go_simp); have hd := xcell (a := ⟨w.heap.size, 1, none⟩) (v := .int .i64 s) hb (by go_simp)) | (go_at_call 69; refine (within_any _ _ _).mono ?_; rw [h2]; rintro e w2 ⟨rfl, hb2⟩))
      go_ret
      exact ⟨by rw [hv.out, h1, h2]; rfl, (xbel1 _ _).trans ((hb.trans (hb2.mono hb.size)).mono (by simp))⟩
    | true =>
      have hp0 : p ≠ 0 := by
        intro e
        subst e
        simp at h2
      have hp : (p == 0) = false := by simpa using hp0
      have hq : wrap64 (s.tdiv p) = s.tdiv p := by
        simp at h1 h2
        have := Int.tdiv_le_self p (a := s) (by omega)
        have h0 := Int.tdiv_nonneg (a := s) (b := p) (by omega) (by omega)
        exact w64 (by omega) (by omega)
      go_enter Tryz.func48, Tryz.ntmps48
      go_wp2_with (first | (go_at_call_has 69 (1048576 : Int); refine (within_any _ _ _).mono ?_; rw [h1]; rintro e w' ⟨rfl, hb⟩; have hc := xcell (a := ⟨w.heap.size, 2, none⟩) (v := .int .i64 p) hb (by go_simp); have hd := xcell (a := ⟨w.heap.size, 1, none⟩) (v := .int .i64 s) hb (by go_simp)) | (go_at_call 69; refine (within_any _ _ _).mono ?_; rw [h2]; rintro e w2 ⟨rfl, hb2⟩; have hc2 := xcell hb2 hc; have hd2 := xcell hb2 hd))
      go_ret
      exact ⟨by rw [hv.out, h1, h2]; rfl, (xbel1 _ _).trans ((hb.trans (hb2.mono hb.size)).mono (by simp))⟩

theorem valid_other (k s p : Int) (hk : ¬ (k = 1 ∨ k = 3)) (hk2 : ¬ k = 2) (w : World) : Calls Tryz.prog 48 #[.agg #[.int .i64 k, .int .i64 s, .int .i64 p]] w fun e w' => e = .returned (.bool (validB k s p)) ∧ Below w.heap.size w w' := by
  have e1 : (k == 1) = false := by simp; omega
  have e3 : (k == 3) = false := by simp; omega
  have e2 : (k == 2) = false := by simp; omega
  by_cases h4 : k = 4
  · subst h4
    have hv : Hid (validB 4 s p = ((s == 0) && (p == 0))) := rfl
    cases hs : (s == 0) <;>
    · go_enter Tryz.func48, Tryz.ntmps48
      go_wp2
      go_ret
      exact ⟨by rw [hv.out, hs]; rfl, xbel1 _ _⟩
  · have e4 : (k == 4) = false := by simp; omega
    have hv : Hid (validB k s p = false) := by unfold Hid validB; rw [if_neg hk, if_neg hk2, if_neg h4]
    go_enter Tryz.func48, Tryz.ntmps48
    go_wp2
    go_ret
    exact ⟨by rw [hv.out]; rfl, xbel1 _ _⟩

theorem valid_any (k s p : Int) (hs : (Lit.int .i64 s).wf = true) (w : World) : Calls Tryz.prog 48 #[.agg #[.int .i64 k, .int .i64 s, .int .i64 p]] w fun e w' => e = .returned (.bool (validB k s p)) ∧ Below w.heap.size w w' := by
  by_cases h1 : k = 1 ∨ k = 3
  · exact valid_one k s p h1 w
  by_cases h2 : k = 2
  · rw [h2]; exact valid_two s p hs w
  exact valid_other k s p h1 h2 w
theorem rvalid_one (k s p : Int) (hk : k = 1 ∨ k = 3) (w : World) : Calls Tryz.prog 33 #[.agg #[.int .i64 k, .int .i64 s, .int .i64 p]] w fun e w' => e = .returned (.bool (validB k s p)) ∧ Below w.heap.size w w' := by
  have hv : Hid (validB k s p = ((decide (1 ≤ s) && decide (s ≤ 1048576)) && (p == 0))) := by unfold Hid validB; rw [if_pos hk]
  rcases hk with rfl | rfl <;>
  · cases h1 : decide (1 ≤ s) <;> cases h2 : decide (s ≤ 1048576) <;>
    · go_enter Tryz.func33, Tryz.ntmps33
      go_wp2
      go_ret
      exact ⟨by rw [hv.out, h1, h2]; rfl, xbel1 _ _⟩

theorem rvalid_two (s p : Int) (w : World) : Calls Tryz.prog 33 #[.agg #[.int .i64 2, .int .i64 s, .int .i64 p]] w fun e w' => e = .returned (.bool (validB 2 s p)) ∧ Below w.heap.size w w' := by
  have hv : Hid (validB 2 s p = (((decide (1 ≤ s) && decide (s ≤ 1048576)) && (decide (1 ≤ p) && decide (p ≤ s))) && decide (s.tdiv p ≤ 64))) := by unfold Hid validB; rw [if_neg (by decide), if_pos rfl]
  cases h1 : decide (1 ≤ p) with
  | false =>
    go_enter Tryz.func33, Tryz.ntmps33
    go_wp2
    go_ret
    exact ⟨by rw [hv.out, h1]; simp, xbel1 _ _⟩
  | true =>
    cases h2 : decide (p ≤ s) with
    | false =>
      go_enter Tryz.func33, Tryz.ntmps33
      go_wp2
      go_ret
      exact ⟨by rw [hv.out, h1, h2]; simp, xbel1 _ _⟩
    | true =>
      have g1 : 1 ≤ p := by simpa using h1
      have g2 : p ≤ s := by simpa using h2
      have g3 : Hid (decide (1 ≤ s) = true) := by unfold Hid; simp; omega
      cases h3 : decide (s ≤ 1048576) with
      | false =>
        go_enter Tryz.func33, Tryz.ntmps33
        go_wp2
        go_ret
        exact ⟨by rw [hv.out, h3]; simp, xbel1 _ _⟩
      | true =>
        have g4 : s ≤ 1048576 := by simpa using h3
        have hp : (p == 0) = false := by simp; omega
        have hq : wrap64 (s.tdiv p) = s.tdiv p := by
          have := Int.tdiv_le_self p (a := s) (by omega)
          have h0 := Int.tdiv_nonneg (a := s) (b := p) (by omega) (by omega)
          exact w64 (by omega) (by omega)
        go_enter Tryz.func33, Tryz.ntmps33
        go_wp2
        go_ret
        exact ⟨by rw [hv.out, h1, h2, h3, g3.out, Int.tdiv_eq_ediv_of_nonneg (by omega)]; rfl, xbel1 _ _⟩

theorem rvalid_other (k s p : Int) (hk : ¬ (k = 1 ∨ k = 3)) (hk2 : ¬ k = 2) (w : World) : Calls Tryz.prog 33 #[.agg #[.int .i64 k, .int .i64 s, .int .i64 p]] w fun e w' => e = .returned (.bool (validB k s p)) ∧ Below w.heap.size w w' := by
  have e1 : (k == 1) = false := by simp; omega
  have e3 : (k == 3) = false := by simp; omega
  have e2 : (k == 2) = false := by simp; omega
  by_cases h4 : k = 4
  · subst h4
    have hv : Hid (validB 4 s p = ((s == 0) && (p == 0))) := rfl
    cases hs : (s == 0) <;>
    · go_enter Tryz.func33, Tryz.ntmps33
      go_wp2
      go_ret
      exact ⟨by rw [hv.out, hs]; rfl, xbel1 _ _⟩
  · have e4 : (k == 4) = false := by simp; omega
    have hv : Hid (validB k s p = false) := by unfold Hid validB; rw [if_neg hk, if_neg hk2, if_neg h4]
    go_enter Tryz.func33, Tryz.ntmps33
    go_wp2
    go_ret
    exact ⟨by rw [hv.out]; rfl, xbel1 _ _⟩

theorem rvalid_any (k s p : Int) (w : World) : Calls Tryz.prog 33 #[.agg #[.int .i64 k, .int .i64 s, .int .i64 p]] w fun e w' => e = .returned (.bool (validB k s p)) ∧ Below w.heap.size w w' := by
  by_cases h1 : k = 1 ∨ k = 3
  · exact rvalid_one k s p h1 w
  by_cases h2 : k = 2
  · rw [h2]; exact rvalid_two s p w
  exact rvalid_other k s p h1 h2 w
end Go.Proofs.YtplaplhmjpfbjaaGreatDoor.Wn

