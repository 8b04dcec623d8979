import Derived.Test.YtplaplhmjpfbjaaGreatDoorDd1
import Derived.Test.YtplaplhmjpfbjaaGreatDoorDf1
namespace Go.Proofs.YtplaplhmjpfbjaaGreatDoor.Dc
open Go.RowKit
set_option linter.unusedVariables false
set_option linter.unusedSimpArgs false
set_option maxRecDepth 100000

/-- How many arguments a function takes; below 0: there is none. -/
def argN (nm : ByteArray) : Int := match opApp nm with
  | none => -1
  | some o => o.1.length
theorem argsD_any (t : ByteArray) (w : World) : Calls Tryz.prog 58 #[.string t] w fun e w' => e = .returned (.int .i64 (argN t)) ∧ w' = w := by
  by_cases hbLen : t = bLen
  · subst hbLen; rw [show argN bLen = 1 by decide +kernel]; unfold bLen
    go_enter Tryz.func58, Tryz.ntmps58
    go_wp2
    go_ret
    exact ⟨rfl, rfl⟩
  by_cases hbAbs : t = bAbs
  · subst hbAbs; rw [show argN bAbs = 1 by decide +kernel]; unfold bAbs
    go_enter Tryz.func58, Tryz.ntmps58
    go_wp2
    go_ret
    exact ⟨rfl, rfl⟩
  by_cases hbIsnull : t = bIsnull
  · subst hbIsnull; rw [show argN bIsnull = 1 by decide +kernel]; unfold bIsnull
    go_enter Tryz.func58, Tryz.ntmps58
    go_wp2
    go_ret
    exact ⟨rfl, rfl⟩
  by_cases hbCut : t = bCut
  · subst hbCut; rw [show argN bCut = 2 by decide +kernel]; unfold bCut
    go_enter Tryz.func58, Tryz.ntmps58
    go_wp2
    go_ret
    exact ⟨rfl, rfl⟩
  by_cases hbCoalesce : t = bCoalesce
  · subst hbCoalesce; rw [show argN bCoalesce = 2 by decide +kernel]; unfold bCoalesce
    go_enter Tryz.func58, Tryz.ntmps58
    go_wp2
    go_ret
    exact ⟨rfl, rfl⟩
  by_cases hbIf : t = bIf
  · subst hbIf; rw [show argN bIf = 3 by decide +kernel]; unfold bIf
    go_enter Tryz.func58, Tryz.ntmps58
    go_wp2
    go_ret
    exact ⟨rfl, rfl⟩
  have h7 : argN t = -1 := by
    unfold argN opApp
    simp [hbLen, hbAbs, hbIsnull, hbCut, hbCoalesce, hbIf]
  rw [h7]
  have e0 : (t.toList == [108, 101, 110]) = false := xnl hbLen
  have e1 : (t.toList == [97, 98, 115]) = false := xnl hbAbs
  have e2 : (t.toList == [105, 115, 110, 117, 108, 108]) = false := xnl hbIsnull
  have e3 : (t.toList == [99, 117, 116]) = false := xnl hbCut
  have e4 : (t.toList == [99, 111, 97, 108, 101, 115, 99, 101]) = false := xnl hbCoalesce
  have e5 : (t.toList == [105, 102]) = false := xnl hbIf
  clear h7 hbLen hbAbs hbIsnull hbCut hbCoalesce hbIf
  go_enter Tryz.func58, Tryz.ntmps58
  go_wp2
  go_ret
  exact ⟨rfl, rfl⟩
/-- What comes of kinds; 0: they do not fit. -/
def orZ : Option Int → Int
  | none => 0
  | some k => k
/-- The document's kinds, in a list of four. -/
def K4 (w : World) (kb : Nat) (k0 k1 k2 k3 : Int) : Prop := w.cell? ⟨kb, 0, none⟩ = some (.int .i64 k0) ∧ w.cell? ⟨kb, 1, none⟩ = some (.int .i64 k1) ∧ w.cell? ⟨kb, 2, none⟩ = some (.int .i64 k2) ∧ w.cell? ⟨kb, 3, none⟩ = some (.int .i64 k3) ∧ kb < w.heap.size
theorem kOf1 (a g k : Int) (ha : a ≠ 0) (hg : g ≠ 0) : kOf ([a], g) [k] = if k = a then some g else none := by
  unfold kOf; simp [kLoop, kStep, ha, hg]
theorem kOf2 (a g k k' : Int) (ha : a ≠ 0) (hg : g ≠ 0) : kOf ([a, a], g) [k, k'] = if k = a ∧ k' = a then some g else none := by
  unfold kOf; simp [kLoop, kStep, ha, hg]
  by_cases h : k = a <;> by_cases h' : k' = a <;> simp [h, h']
theorem kOfE (g k k' : Int) (hg : g ≠ 0) (hk : k ≠ 0) : kOf ([0, 0], g) [k, k'] = if k = k' then some g else none := by
  unfold kOf; simp [kLoop, kStep, hg, hk]
  by_cases h : k' = k
  · simp [h]
  · have h2 : ¬ k = k' := fun e => h e.symm
    simp [h, h2]
set_option maxHeartbeats 2000000 in
theorem res_not (b kb : Nat) (nv : Int) (k0 k1 k2 k3 : Int) (w : World) (c0 : w.cell? ⟨b, 0, none⟩ = some (.string bNot)) (hk : K4 w kb k0 k1 k2 k3) :
    Calls Tryz.prog 59 #[.pointer (some ⟨b, 0, none⟩), .int .i64 nv, .slice (some ⟨kb, 0, none⟩) 4 4] w fun e w' => e = .returned (.int .i64 (if k0 = 2 then 2 else 0)) ∧ Below w.heap.size w w' := by
  obtain ⟨d0, d1, d2, d3, hkl⟩ := hk
  have hbl : b < w.heap.size := World.block_lt_of_cell? _ _ c0
  unfold bNot at c0
  by_cases h : k0 = 2
  · have hb : (k0 == 2) = true := by simp [h]
    rw [if_pos h]
    clear h
    go_enter Tryz.func59, Tryz.ntmps59
    go_wp2
    go_ret
    exact ⟨rfl, Below.refl _ _⟩
  · have hb : (k0 == 2) = false := by simp [h]
    rw [if_neg h]
    clear h
    go_enter Tryz.func59, Tryz.ntmps59
    go_wp2
    go_ret
    exact ⟨rfl, Below.refl _ _⟩
set_option maxHeartbeats 2000000 in
theorem res_minus (b kb : Nat) (nv : Int) (k0 k1 k2 k3 : Int) (w : World) (c0 : w.cell? ⟨b, 0, none⟩ = some (.string bMinusW)) (hk : K4 w kb k0 k1 k2 k3) :
    Calls Tryz.prog 59 #[.pointer (some ⟨b, 0, none⟩), .int .i64 nv, .slice (some ⟨kb, 0, none⟩) 4 4] w fun e w' => e = .returned (.int .i64 (if k0 = 1 then 1 else 0)) ∧ Below w.heap.size w w' := by
  obtain ⟨d0, d1, d2, d3, hkl⟩ := hk
  have hbl : b < w.heap.size := World.block_lt_of_cell? _ _ c0
  unfold bMinusW at c0
  by_cases h : k0 = 1
  · have hb : (k0 == 1) = true := by simp [h]
    rw [if_pos h]
    clear h
    go_enter Tryz.func59, Tryz.ntmps59
    go_wp2
    go_ret
    exact ⟨rfl, Below.refl _ _⟩
  · have hb : (k0 == 1) = false := by simp [h]
    rw [if_neg h]
    clear h
    go_enter Tryz.func59, Tryz.ntmps59
    go_wp2
    go_ret
    exact ⟨rfl, Below.refl _ _⟩
set_option maxHeartbeats 2000000 in
theorem res_or (b kb : Nat) (nv : Int) (k0 k1 k2 k3 : Int) (w : World) (c0 : w.cell? ⟨b, 0, none⟩ = some (.string bOr)) (hk : K4 w kb k0 k1 k2 k3) :
    Calls Tryz.prog 59 #[.pointer (some ⟨b, 0, none⟩), .int .i64 nv, .slice (some ⟨kb, 0, none⟩) 4 4] w fun e w' => e = .returned (.int .i64 (if k0 = 2 ∧ k1 = 2 then 2 else 0)) ∧ Below w.heap.size w w' := by
  obtain ⟨d0, d1, d2, d3, hkl⟩ := hk
  have hbl : b < w.heap.size := World.block_lt_of_cell? _ _ c0
  unfold bOr at *
  by_cases h : k0 = 2
  · have hb : (k0 == 2) = true := by simp [h]
    by_cases h' : k1 = 2
    · have hb' : (k1 == 2) = true := by simp [h']
      rw [if_pos ⟨h, h'⟩]
      clear h h'
      go_enter Tryz.func59, Tryz.ntmps59
      go_wp2_with (fail)
      try (go_quiet (fail))
      try go_wp2_with (fail)
      go_ret
      exact ⟨rfl, by first | exact Below.refl _ _ | exact Below.drewN' (Below.refl _ _)⟩
    · have hb' : (k1 == 2) = false := by simp [h']
      rw [if_neg (fun q => h' q.2)]
      clear h h'
      go_enter Tryz.func59, Tryz.ntmps59
      go_wp2_with (fail)
      try (go_quiet (fail))
      try go_wp2_with (fail)
      go_ret
      exact ⟨rfl, by first | exact Below.refl _ _ | exact Below.drewN' (Below.refl _ _)⟩
  · have hb : (k0 == 2) = false := by simp [h]
    rw [if_neg (fun q => h q.1)]
    clear h
    by_cases h' : k1 = 2
    · have hb' : (k1 == 2) = true := by simp [h']
      clear h'
      go_enter Tryz.func59, Tryz.ntmps59
      go_wp2_with (fail)
      try (go_quiet (fail))
      try go_wp2_with (fail)
      go_ret
      exact ⟨rfl, by first | exact Below.refl _ _ | exact Below.drewN' (Below.refl _ _)⟩
    · have hb' : (k1 == 2) = false := by simp [h']
      clear h'
      go_enter Tryz.func59, Tryz.ntmps59
      go_wp2_with (fail)
      try (go_quiet (fail))
      try go_wp2_with (fail)
      go_ret
      exact ⟨rfl, by first | exact Below.refl _ _ | exact Below.drewN' (Below.refl _ _)⟩
set_option maxHeartbeats 2000000 in
theorem res_and (b kb : Nat) (nv : Int) (k0 k1 k2 k3 : Int) (w : World) (c0 : w.cell? ⟨b, 0, none⟩ = some (.string bAnd)) (hk : K4 w kb k0 k1 k2 k3) :
    Calls Tryz.prog 59 #[.pointer (some ⟨b, 0, none⟩), .int .i64 nv, .slice (some ⟨kb, 0, none⟩) 4 4] w fun e w' => e = .returned (.int .i64 (if k0 = 2 ∧ k1 = 2 then 2 else 0)) ∧ Below w.heap.size w w' := by
  obtain ⟨d0, d1, d2, d3, hkl⟩ := hk
  have hbl : b < w.heap.size := World.block_lt_of_cell? _ _ c0
  unfold bAnd at *
  by_cases h : k0 = 2
  · have hb : (k0 == 2) = true := by simp [h]
    by_cases h' : k1 = 2
    · have hb' : (k1 == 2) = true := by simp [h']
      rw [if_pos ⟨h, h'⟩]
      clear h h'
      go_enter Tryz.func59, Tryz.ntmps59
      go_wp2_with (fail)
      try (go_quiet (fail))
      try go_wp2_with (fail)
      go_ret
      exact ⟨rfl, by first | exact Below.refl _ _ | exact Below.drewN' (Below.refl _ _)⟩
    · have hb' : (k1 == 2) = false := by simp [h']
      rw [if_neg (fun q => h' q.2)]
      clear h h'
      go_enter Tryz.func59, Tryz.ntmps59
      go_wp2_with (fail)
      try (go_quiet (fail))
      try go_wp2_with (fail)
      go_ret
      exact ⟨rfl, by first | exact Below.refl _ _ | exact Below.drewN' (Below.refl _ _)⟩
  · have hb : (k0 == 2) = false := by simp [h]
    rw [if_neg (fun q => h q.1)]
    clear h
    by_cases h' : k1 = 2
    · have hb' : (k1 == 2) = true := by simp [h']
      clear h'
      go_enter Tryz.func59, Tryz.ntmps59
      go_wp2_with (fail)
      try (go_quiet (fail))
      try go_wp2_with (fail)
      go_ret
      exact ⟨rfl, by first | exact Below.refl _ _ | exact Below.drewN' (Below.refl _ _)⟩
    · have hb' : (k1 == 2) = false := by simp [h']
      clear h'
      go_enter Tryz.func59, Tryz.ntmps59
      go_wp2_with (fail)
      try (go_quiet (fail))
      try go_wp2_with (fail)
      go_ret
      exact ⟨rfl, by first | exact Below.refl _ _ | exact Below.drewN' (Below.refl _ _)⟩
set_option maxHeartbeats 2000000 in
theorem res_cat (b kb : Nat) (nv : Int) (k0 k1 k2 k3 : Int) (w : World) (c0 : w.cell? ⟨b, 0, none⟩ = some (.string bCat)) (hk : K4 w kb k0 k1 k2 k3) :
    Calls Tryz.prog 59 #[.pointer (some ⟨b, 0, none⟩), .int .i64 nv, .slice (some ⟨kb, 0, none⟩) 4 4] w fun e w' => e = .returned (.int .i64 (if k0 = 3 ∧ k1 = 3 then 3 else 0)) ∧ Below w.heap.size w w' := by
  obtain ⟨d0, d1, d2, d3, hkl⟩ := hk
  have hbl : b < w.heap.size := World.block_lt_of_cell? _ _ c0
  unfold bCat at *
  by_cases h : k0 = 3
  · have hb : (k0 == 3) = true := by simp [h]
    by_cases h' : k1 = 3
    · have hb' : (k1 == 3) = true := by simp [h']
      rw [if_pos ⟨h, h'⟩]
      clear h h'
      go_enter Tryz.func59, Tryz.ntmps59
      go_wp2_with (fail)
      try (go_quiet (fail))
      try go_wp2_with (fail)
      go_ret
      exact ⟨rfl, by first | exact Below.refl _ _ | exact Below.drewN' (Below.refl _ _)⟩
    · have hb' : (k1 == 3) = false := by simp [h']
      rw [if_neg (fun q => h' q.2)]
      clear h h'
      go_enter Tryz.func59, Tryz.ntmps59
      go_wp2_with (fail)
      try (go_quiet (fail))
      try go_wp2_with (fail)
      go_ret
      exact ⟨rfl, by first | exact Below.refl _ _ | exact Below.drewN' (Below.refl _ _)⟩
  · have hb : (k0 == 3) = false := by simp [h]
    rw [if_neg (fun q => h q.1)]
    clear h
    by_cases h' : k1 = 3
    · have hb' : (k1 == 3) = true := by simp [h']
      clear h'
      go_enter Tryz.func59, Tryz.ntmps59
      go_wp2_with (fail)
      try (go_quiet (fail))
      try go_wp2_with (fail)
      go_ret
      exact ⟨rfl, by first | exact Below.refl _ _ | exact Below.drewN' (Below.refl _ _)⟩
    · have hb' : (k1 == 3) = false := by simp [h']
      clear h'
      go_enter Tryz.func59, Tryz.ntmps59
      go_wp2_with (fail)
      try (go_quiet (fail))
      try go_wp2_with (fail)
      go_ret
      exact ⟨rfl, by first | exact Below.refl _ _ | exact Below.drewN' (Below.refl _ _)⟩
set_option maxHeartbeats 2000000 in
theorem res_Eq (b kb : Nat) (nv : Int) (k0 k1 k2 k3 : Int) (w : World) (c0 : w.cell? ⟨b, 0, none⟩ = some (.string bEq)) (hk : K4 w kb k0 k1 k2 k3) :
    Calls Tryz.prog 59 #[.pointer (some ⟨b, 0, none⟩), .int .i64 nv, .slice (some ⟨kb, 0, none⟩) 4 4] w fun e w' => e = .returned (.int .i64 (if k0 = k1 then 2 else 0)) ∧ Below w.heap.size w w' := by
  obtain ⟨d0, d1, d2, d3, hkl⟩ := hk
  have hbl : b < w.heap.size := World.block_lt_of_cell? _ _ c0
  have HPW : Hid (∀ W, Calls Tryz.prog 76 #[.string bEq] W fun e w' => e = .returned (.int .i64 4) ∧ w' = W) := fun W => by have := power_any bEq W; rw [show pow bEq = 4 by decide +kernel] at this; exact this
  unfold bEq at *
  by_cases h : k0 = k1
  · have hb : (k0 == k1) = true := by simp [h]
    rw [if_pos h]
    clear h
    go_enter Tryz.func59, Tryz.ntmps59
    go_wp2_with (first | (go_at_call 76; refine (HPW.out _).mono ?_; rintro e w1 ⟨rfl, h⟩; (have := h.symm); subst this))
    try (go_quiet (fail))
    try go_wp2_with (first | (go_at_call 76; refine (HPW.out _).mono ?_; rintro e w1 ⟨rfl, h⟩; (have := h.symm); subst this))
    go_ret
    exact ⟨rfl, by first | exact Below.refl _ _ | exact Below.drewN' (Below.refl _ _)⟩
  · have hb : (k0 == k1) = false := by simp [h]
    rw [if_neg h]
    clear h
    go_enter Tryz.func59, Tryz.ntmps59
    go_wp2_with (first | (go_at_call 76; refine (HPW.out _).mono ?_; rintro e w1 ⟨rfl, h⟩; (have := h.symm); subst this))
    try (go_quiet (fail))
    try go_wp2_with (first | (go_at_call 76; refine (HPW.out _).mono ?_; rintro e w1 ⟨rfl, h⟩; (have := h.symm); subst this))
    go_ret
    exact ⟨rfl, by first | exact Below.refl _ _ | exact Below.drewN' (Below.refl _ _)⟩
set_option maxHeartbeats 2000000 in
theorem res_Ne (b kb : Nat) (nv : Int) (k0 k1 k2 k3 : Int) (w : World) (c0 : w.cell? ⟨b, 0, none⟩ = some (.string bNe)) (hk : K4 w kb k0 k1 k2 k3) :
    Calls Tryz.prog 59 #[.pointer (some ⟨b, 0, none⟩), .int .i64 nv, .slice (some ⟨kb, 0, none⟩) 4 4] w fun e w' => e = .returned (.int .i64 (if k0 = k1 then 2 else 0)) ∧ Below w.heap.size w w' := by
  obtain ⟨d0, d1, d2, d3, hkl⟩ := hk
  have hbl : b < w.heap.size := World.block_lt_of_cell? _ _ c0
  have HPW : Hid (∀ W, Calls Tryz.prog 76 #[.string bNe] W fun e w' => e = .returned (.int .i64 4) ∧ w' = W) := fun W => by have := power_any bNe W; rw [show pow bNe = 4 by decide +kernel] at this; exact this
  unfold bNe at *
  by_cases h : k0 = k1
  · have hb : (k0 == k1) = true := by simp [h]
    rw [if_pos h]
    clear h
    go_enter Tryz.func59, Tryz.ntmps59
    go_wp2_with (first | (go_at_call 76; refine (HPW.out _).mono ?_; rintro e w1 ⟨rfl, h⟩; (have := h.symm); subst this))
    try (go_quiet (fail))
    try go_wp2_with (first | (go_at_call 76; refine (HPW.out _).mono ?_; rintro e w1 ⟨rfl, h⟩; (have := h.symm); subst this))
    go_ret
    exact ⟨rfl, by first | exact Below.refl _ _ | exact Below.drewN' (Below.refl _ _)⟩
  · have hb : (k0 == k1) = false := by simp [h]
    rw [if_neg h]
    clear h
    go_enter Tryz.func59, Tryz.ntmps59
    go_wp2_with (first | (go_at_call 76; refine (HPW.out _).mono ?_; rintro e w1 ⟨rfl, h⟩; (have := h.symm); subst this))
    try (go_quiet (fail))
    try go_wp2_with (first | (go_at_call 76; refine (HPW.out _).mono ?_; rintro e w1 ⟨rfl, h⟩; (have := h.symm); subst this))
    go_ret
    exact ⟨rfl, by first | exact Below.refl _ _ | exact Below.drewN' (Below.refl _ _)⟩
set_option maxHeartbeats 2000000 in
theorem res_Lt (b kb : Nat) (nv : Int) (k0 k1 k2 k3 : Int) (w : World) (c0 : w.cell? ⟨b, 0, none⟩ = some (.string bLt)) (hk : K4 w kb k0 k1 k2 k3) :
    Calls Tryz.prog 59 #[.pointer (some ⟨b, 0, none⟩), .int .i64 nv, .slice (some ⟨kb, 0, none⟩) 4 4] w fun e w' => e = .returned (.int .i64 (if k0 = k1 then 2 else 0)) ∧ Below w.heap.size w w' := by
  obtain ⟨d0, d1, d2, d3, hkl⟩ := hk
  have hbl : b < w.heap.size := World.block_lt_of_cell? _ _ c0
  have HPW : Hid (∀ W, Calls Tryz.prog 76 #[.string bLt] W fun e w' => e = .returned (.int .i64 4) ∧ w' = W) := fun W => by have := power_any bLt W; rw [show pow bLt = 4 by decide +kernel] at this; exact this
  unfold bLt at *
  by_cases h : k0 = k1
  · have hb : (k0 == k1) = true := by simp [h]
    rw [if_pos h]
    clear h
    go_enter Tryz.func59, Tryz.ntmps59
    go_wp2_with (first | (go_at_call 76; refine (HPW.out _).mono ?_; rintro e w1 ⟨rfl, h⟩; (have := h.symm); subst this))
    try (go_quiet (fail))
    try go_wp2_with (first | (go_at_call 76; refine (HPW.out _).mono ?_; rintro e w1 ⟨rfl, h⟩; (have := h.symm); subst this))
    go_ret
    exact ⟨rfl, by first | exact Below.refl _ _ | exact Below.drewN' (Below.refl _ _)⟩
  · have hb : (k0 == k1) = false := by simp [h]
    rw [if_neg h]
    clear h
    go_enter Tryz.func59, Tryz.ntmps59
    go_wp2_with (first | (go_at_call 76; refine (HPW.out _).mono ?_; rintro e w1 ⟨rfl, h⟩; (have := h.symm); subst this))
    try (go_quiet (fail))
    try go_wp2_with (first | (go_at_call 76; refine (HPW.out _).mono ?_; rintro e w1 ⟨rfl, h⟩; (have := h.symm); subst this))
    go_ret
    exact ⟨rfl, by first | exact Below.refl _ _ | exact Below.drewN' (Below.refl _ _)⟩
set_option maxHeartbeats 2000000 in
theorem res_Le (b kb : Nat) (nv : Int) (k0 k1 k2 k3 : Int) (w : World) (c0 : w.cell? ⟨b, 0, none⟩ = some (.string bLe)) (hk : K4 w kb k0 k1 k2 k3) :
    Calls Tryz.prog 59 #[.pointer (some ⟨b, 0, none⟩), .int .i64 nv, .slice (some ⟨kb, 0, none⟩) 4 4] w fun e w' => e = .returned (.int .i64 (if k0 = k1 then 2 else 0)) ∧ Below w.heap.size w w' := by
  obtain ⟨d0, d1, d2, d3, hkl⟩ := hk
  have hbl : b < w.heap.size := World.block_lt_of_cell? _ _ c0
  have HPW : Hid (∀ W, Calls Tryz.prog 76 #[.string bLe] W fun e w' => e = .returned (.int .i64 4) ∧ w' = W) := fun W => by have := power_any bLe W; rw [show pow bLe = 4 by decide +kernel] at this; exact this
  unfold bLe at *
  by_cases h : k0 = k1
  · have hb : (k0 == k1) = true := by simp [h]
    rw [if_pos h]
    clear h
    go_enter Tryz.func59, Tryz.ntmps59
    go_wp2_with (first | (go_at_call 76; refine (HPW.out _).mono ?_; rintro e w1 ⟨rfl, h⟩; (have := h.symm); subst this))
    try (go_quiet (fail))
    try go_wp2_with (first | (go_at_call 76; refine (HPW.out _).mono ?_; rintro e w1 ⟨rfl, h⟩; (have := h.symm); subst this))
    go_ret
    exact ⟨rfl, by first | exact Below.refl _ _ | exact Below.drewN' (Below.refl _ _)⟩
  · have hb : (k0 == k1) = false := by simp [h]
    rw [if_neg h]
    clear h
    go_enter Tryz.func59, Tryz.ntmps59
    go_wp2_with (first | (go_at_call 76; refine (HPW.out _).mono ?_; rintro e w1 ⟨rfl, h⟩; (have := h.symm); subst this))
    try (go_quiet (fail))
    try go_wp2_with (first | (go_at_call 76; refine (HPW.out _).mono ?_; rintro e w1 ⟨rfl, h⟩; (have := h.symm); subst this))
    go_ret
    exact ⟨rfl, by first | exact Below.refl _ _ | exact Below.drewN' (Below.refl _ _)⟩
set_option maxHeartbeats 2000000 in
theorem res_Gt (b kb : Nat) (nv : Int) (k0 k1 k2 k3 : Int) (w : World) (c0 : w.cell? ⟨b, 0, none⟩ = some (.string bGt)) (hk : K4 w kb k0 k1 k2 k3) :
    Calls Tryz.prog 59 #[.pointer (some ⟨b, 0, none⟩), .int .i64 nv, .slice (some ⟨kb, 0, none⟩) 4 4] w fun e w' => e = .returned (.int .i64 (if k0 = k1 then 2 else 0)) ∧ Below w.heap.size w w' := by
  obtain ⟨d0, d1, d2, d3, hkl⟩ := hk
  have hbl : b < w.heap.size := World.block_lt_of_cell? _ _ c0
  have HPW : Hid (∀ W, Calls Tryz.prog 76 #[.string bGt] W fun e w' => e = .returned (.int .i64 4) ∧ w' = W) := fun W => by have := power_any bGt W; rw [show pow bGt = 4 by decide +kernel] at this; exact this
  unfold bGt at *
  by_cases h : k0 = k1
  · have hb : (k0 == k1) = true := by simp [h]
    rw [if_pos h]
    clear h
    go_enter Tryz.func59, Tryz.ntmps59
    go_wp2_with (first | (go_at_call 76; refine (HPW.out _).mono ?_; rintro e w1 ⟨rfl, h⟩; (have := h.symm); subst this))
    try (go_quiet (fail))
    try go_wp2_with (first | (go_at_call 76; refine (HPW.out _).mono ?_; rintro e w1 ⟨rfl, h⟩; (have := h.symm); subst this))
    go_ret
    exact ⟨rfl, by first | exact Below.refl _ _ | exact Below.drewN' (Below.refl _ _)⟩
  · have hb : (k0 == k1) = false := by simp [h]
    rw [if_neg h]
    clear h
    go_enter Tryz.func59, Tryz.ntmps59
    go_wp2_with (first | (go_at_call 76; refine (HPW.out _).mono ?_; rintro e w1 ⟨rfl, h⟩; (have := h.symm); subst this))
    try (go_quiet (fail))
    try go_wp2_with (first | (go_at_call 76; refine (HPW.out _).mono ?_; rintro e w1 ⟨rfl, h⟩; (have := h.symm); subst this))
    go_ret
    exact ⟨rfl, by first | exact Below.refl _ _ | exact Below.drewN' (Below.refl _ _)⟩
set_option maxHeartbeats 2000000 in
theorem res_Ge (b kb : Nat) (nv : Int) (k0 k1 k2 k3 : Int) (w : World) (c0 : w.cell? ⟨b, 0, none⟩ = some (.string bGe)) (hk : K4 w kb k0 k1 k2 k3) :
    Calls Tryz.prog 59 #[.pointer (some ⟨b, 0, none⟩), .int .i64 nv, .slice (some ⟨kb, 0, none⟩) 4 4] w fun e w' => e = .returned (.int .i64 (if k0 = k1 then 2 else 0)) ∧ Below w.heap.size w w' := by
  obtain ⟨d0, d1, d2, d3, hkl⟩ := hk
  have hbl : b < w.heap.size := World.block_lt_of_cell? _ _ c0
  have HPW : Hid (∀ W, Calls Tryz.prog 76 #[.string bGe] W fun e w' => e = .returned (.int .i64 4) ∧ w' = W) := fun W => by have := power_any bGe W; rw [show pow bGe = 4 by decide +kernel] at this; exact this
  unfold bGe at *
  by_cases h : k0 = k1
  · have hb : (k0 == k1) = true := by simp [h]
    rw [if_pos h]
    clear h
    go_enter Tryz.func59, Tryz.ntmps59
    go_wp2_with (first | (go_at_call 76; refine (HPW.out _).mono ?_; rintro e w1 ⟨rfl, h⟩; (have := h.symm); subst this))
    try (go_quiet (fail))
    try go_wp2_with (first | (go_at_call 76; refine (HPW.out _).mono ?_; rintro e w1 ⟨rfl, h⟩; (have := h.symm); subst this))
    go_ret
    exact ⟨rfl, by first | exact Below.refl _ _ | exact Below.drewN' (Below.refl _ _)⟩
  · have hb : (k0 == k1) = false := by simp [h]
    rw [if_neg h]
    clear h
    go_enter Tryz.func59, Tryz.ntmps59
    go_wp2_with (first | (go_at_call 76; refine (HPW.out _).mono ?_; rintro e w1 ⟨rfl, h⟩; (have := h.symm); subst this))
    try (go_quiet (fail))
    try go_wp2_with (first | (go_at_call 76; refine (HPW.out _).mono ?_; rintro e w1 ⟨rfl, h⟩; (have := h.symm); subst this))
    go_ret
    exact ⟨rfl, by first | exact Below.refl _ _ | exact Below.drewN' (Below.refl _ _)⟩
set_option maxHeartbeats 2000000 in
theorem res_sPlus (b kb : Nat) (nv : Int) (k0 k1 k2 k3 : Int) (w : World) (c0 : w.cell? ⟨b, 0, none⟩ = some (.string bPlus)) (hk : K4 w kb k0 k1 k2 k3) :
    Calls Tryz.prog 59 #[.pointer (some ⟨b, 0, none⟩), .int .i64 nv, .slice (some ⟨kb, 0, none⟩) 4 4] w fun e w' => e = .returned (.int .i64 (if k0 = 1 ∧ k1 = 1 then 1 else 0)) ∧ Below w.heap.size w w' := by
  obtain ⟨d0, d1, d2, d3, hkl⟩ := hk
  have hbl : b < w.heap.size := World.block_lt_of_cell? _ _ c0
  have HPW : Hid (∀ W, Calls Tryz.prog 76 #[.string bPlus] W fun e w' => e = .returned (.int .i64 5) ∧ w' = W) := fun W => by have := power_any bPlus W; rw [show pow bPlus = 5 by decide +kernel] at this; exact this
  unfold bPlus at *
  by_cases h : k0 = 1
  · have hb : (k0 == 1) = true := by simp [h]
    by_cases h' : k1 = 1
    · have hb' : (k1 == 1) = true := by simp [h']
      rw [if_pos ⟨h, h'⟩]
      clear h h'
      go_enter Tryz.func59, Tryz.ntmps59
      go_wp2_with (first | (go_at_call 76; refine (HPW.out _).mono ?_; rintro e w1 ⟨rfl, h⟩; (have := h.symm); subst this))
      try (go_quiet (fail))
      try go_wp2_with (first | (go_at_call 76; refine (HPW.out _).mono ?_; rintro e w1 ⟨rfl, h⟩; (have := h.symm); subst this))
      go_ret
      exact ⟨rfl, by first | exact Below.refl _ _ | exact Below.drewN' (Below.refl _ _)⟩
    · have hb' : (k1 == 1) = false := by simp [h']
      rw [if_neg (fun q => h' q.2)]
      clear h h'
      go_enter Tryz.func59, Tryz.ntmps59
      go_wp2_with (first | (go_at_call 76; refine (HPW.out _).mono ?_; rintro e w1 ⟨rfl, h⟩; (have := h.symm); subst this))
      try (go_quiet (fail))
      try go_wp2_with (first | (go_at_call 76; refine (HPW.out _).mono ?_; rintro e w1 ⟨rfl, h⟩; (have := h.symm); subst this))
      go_ret
      exact ⟨rfl, by first | exact Below.refl _ _ | exact Below.drewN' (Below.refl _ _)⟩
  · have hb : (k0 == 1) = false := by simp [h]
    rw [if_neg (fun q => h q.1)]
    clear h
    by_cases h' : k1 = 1
    · have hb' : (k1 == 1) = true := by simp [h']
      clear h'
      go_enter Tryz.func59, Tryz.ntmps59
      go_wp2_with (first | (go_at_call 76; refine (HPW.out _).mono ?_; rintro e w1 ⟨rfl, h⟩; (have := h.symm); subst this))
      try (go_quiet (fail))
      try go_wp2_with (first | (go_at_call 76; refine (HPW.out _).mono ?_; rintro e w1 ⟨rfl, h⟩; (have := h.symm); subst this))
      go_ret
      exact ⟨rfl, by first | exact Below.refl _ _ | exact Below.drewN' (Below.refl _ _)⟩
    · have hb' : (k1 == 1) = false := by simp [h']
      clear h'
      go_enter Tryz.func59, Tryz.ntmps59
      go_wp2_with (first | (go_at_call 76; refine (HPW.out _).mono ?_; rintro e w1 ⟨rfl, h⟩; (have := h.symm); subst this))
      try (go_quiet (fail))
      try go_wp2_with (first | (go_at_call 76; refine (HPW.out _).mono ?_; rintro e w1 ⟨rfl, h⟩; (have := h.symm); subst this))
      go_ret
      exact ⟨rfl, by first | exact Below.refl _ _ | exact Below.drewN' (Below.refl _ _)⟩
set_option maxHeartbeats 2000000 in
theorem res_sMinus (b kb : Nat) (nv : Int) (k0 k1 k2 k3 : Int) (w : World) (c0 : w.cell? ⟨b, 0, none⟩ = some (.string bMinus)) (hk : K4 w kb k0 k1 k2 k3) :
    Calls Tryz.prog 59 #[.pointer (some ⟨b, 0, none⟩), .int .i64 nv, .slice (some ⟨kb, 0, none⟩) 4 4] w fun e w' => e = .returned (.int .i64 (if k0 = 1 ∧ k1 = 1 then 1 else 0)) ∧ Below w.heap.size w w' := by
  obtain ⟨d0, d1, d2, d3, hkl⟩ := hk
  have hbl : b < w.heap.size := World.block_lt_of_cell? _ _ c0
  have HPW : Hid (∀ W, Calls Tryz.prog 76 #[.string bMinus] W fun e w' => e = .returned (.int .i64 5) ∧ w' = W) := fun W => by have := power_any bMinus W; rw [show pow bMinus = 5 by decide +kernel] at this; exact this
  unfold bMinus at *
  by_cases h : k0 = 1
  · have hb : (k0 == 1) = true := by simp [h]
    by_cases h' : k1 = 1
    · have hb' : (k1 == 1) = true := by simp [h']
      rw [if_pos ⟨h, h'⟩]
      clear h h'
      go_enter Tryz.func59, Tryz.ntmps59
      go_wp2_with (first | (go_at_call 76; refine (HPW.out _).mono ?_; rintro e w1 ⟨rfl, h⟩; (have := h.symm); subst this))
      try (go_quiet (fail))
      try go_wp2_with (first | (go_at_call 76; refine (HPW.out _).mono ?_; rintro e w1 ⟨rfl, h⟩; (have := h.symm); subst this))
      go_ret
      exact ⟨rfl, by first | exact Below.refl _ _ | exact Below.drewN' (Below.refl _ _)⟩
    · have hb' : (k1 == 1) = false := by simp [h']
      rw [if_neg (fun q => h' q.2)]
      clear h h'
      go_enter Tryz.func59, Tryz.ntmps59
      go_wp2_with (first | (go_at_call 76; refine (HPW.out _).mono ?_; rintro e w1 ⟨rfl, h⟩; (have := h.symm); subst this))
      try (go_quiet (fail))
      try go_wp2_with (first | (go_at_call 76; refine (HPW.out _).mono ?_; rintro e w1 ⟨rfl, h⟩; (have := h.symm); subst this))
      go_ret
      exact ⟨rfl, by first | exact Below.refl _ _ | exact Below.drewN' (Below.refl _ _)⟩
  · have hb : (k0 == 1) = false := by simp [h]
    rw [if_neg (fun q => h q.1)]
    clear h
    by_cases h' : k1 = 1
    · have hb' : (k1 == 1) = true := by simp [h']
      clear h'
      go_enter Tryz.func59, Tryz.ntmps59
      go_wp2_with (first | (go_at_call 76; refine (HPW.out _).mono ?_; rintro e w1 ⟨rfl, h⟩; (have := h.symm); subst this))
      try (go_quiet (fail))
      try go_wp2_with (first | (go_at_call 76; refine (HPW.out _).mono ?_; rintro e w1 ⟨rfl, h⟩; (have := h.symm); subst this))
      go_ret
      exact ⟨rfl, by first | exact Below.refl _ _ | exact Below.drewN' (Below.refl _ _)⟩
    · have hb' : (k1 == 1) = false := by simp [h']
      clear h'
      go_enter Tryz.func59, Tryz.ntmps59
      go_wp2_with (first | (go_at_call 76; refine (HPW.out _).mono ?_; rintro e w1 ⟨rfl, h⟩; (have := h.symm); subst this))
      try (go_quiet (fail))
      try go_wp2_with (first | (go_at_call 76; refine (HPW.out _).mono ?_; rintro e w1 ⟨rfl, h⟩; (have := h.symm); subst this))
      go_ret
      exact ⟨rfl, by first | exact Below.refl _ _ | exact Below.drewN' (Below.refl _ _)⟩
set_option maxHeartbeats 2000000 in
theorem res_sMul (b kb : Nat) (nv : Int) (k0 k1 k2 k3 : Int) (w : World) (c0 : w.cell? ⟨b, 0, none⟩ = some (.string bMul)) (hk : K4 w kb k0 k1 k2 k3) :
    Calls Tryz.prog 59 #[.pointer (some ⟨b, 0, none⟩), .int .i64 nv, .slice (some ⟨kb, 0, none⟩) 4 4] w fun e w' => e = .returned (.int .i64 (if k0 = 1 ∧ k1 = 1 then 1 else 0)) ∧ Below w.heap.size w w' := by
  obtain ⟨d0, d1, d2, d3, hkl⟩ := hk
  have hbl : b < w.heap.size := World.block_lt_of_cell? _ _ c0
  have HPW : Hid (∀ W, Calls Tryz.prog 76 #[.string bMul] W fun e w' => e = .returned (.int .i64 6) ∧ w' = W) := fun W => by have := power_any bMul W; rw [show pow bMul = 6 by decide +kernel] at this; exact this
  unfold bMul at *
  by_cases h : k0 = 1
  · have hb : (k0 == 1) = true := by simp [h]
    by_cases h' : k1 = 1
    · have hb' : (k1 == 1) = true := by simp [h']
      rw [if_pos ⟨h, h'⟩]
      clear h h'
      go_enter Tryz.func59, Tryz.ntmps59
      go_wp2_with (first | (go_at_call 76; refine (HPW.out _).mono ?_; rintro e w1 ⟨rfl, h⟩; (have := h.symm); subst this))
      try (go_quiet (fail))
      try go_wp2_with (first | (go_at_call 76; refine (HPW.out _).mono ?_; rintro e w1 ⟨rfl, h⟩; (have := h.symm); subst this))
      go_ret
      exact ⟨rfl, by first | exact Below.refl _ _ | exact Below.drewN' (Below.refl _ _)⟩
    · have hb' : (k1 == 1) = false := by simp [h']
      rw [if_neg (fun q => h' q.2)]
      clear h h'
      go_enter Tryz.func59, Tryz.ntmps59
      go_wp2_with (first | (go_at_call 76; refine (HPW.out _).mono ?_; rintro e w1 ⟨rfl, h⟩; (have := h.symm); subst this))
      try (go_quiet (fail))
      try go_wp2_with (first | (go_at_call 76; refine (HPW.out _).mono ?_; rintro e w1 ⟨rfl, h⟩; (have := h.symm); subst this))
      go_ret
      exact ⟨rfl, by first | exact Below.refl _ _ | exact Below.drewN' (Below.refl _ _)⟩
  · have hb : (k0 == 1) = false := by simp [h]
    rw [if_neg (fun q => h q.1)]
    clear h
    by_cases h' : k1 = 1
    · have hb' : (k1 == 1) = true := by simp [h']
      clear h'
      go_enter Tryz.func59, Tryz.ntmps59
      go_wp2_with (first | (go_at_call 76; refine (HPW.out _).mono ?_; rintro e w1 ⟨rfl, h⟩; (have := h.symm); subst this))
      try (go_quiet (fail))
      try go_wp2_with (first | (go_at_call 76; refine (HPW.out _).mono ?_; rintro e w1 ⟨rfl, h⟩; (have := h.symm); subst this))
      go_ret
      exact ⟨rfl, by first | exact Below.refl _ _ | exact Below.drewN' (Below.refl _ _)⟩
    · have hb' : (k1 == 1) = false := by simp [h']
      clear h'
      go_enter Tryz.func59, Tryz.ntmps59
      go_wp2_with (first | (go_at_call 76; refine (HPW.out _).mono ?_; rintro e w1 ⟨rfl, h⟩; (have := h.symm); subst this))
      try (go_quiet (fail))
      try go_wp2_with (first | (go_at_call 76; refine (HPW.out _).mono ?_; rintro e w1 ⟨rfl, h⟩; (have := h.symm); subst this))
      go_ret
      exact ⟨rfl, by first | exact Below.refl _ _ | exact Below.drewN' (Below.refl _ _)⟩
set_option maxHeartbeats 2000000 in
theorem res_sDiv (b kb : Nat) (nv : Int) (k0 k1 k2 k3 : Int) (w : World) (c0 : w.cell? ⟨b, 0, none⟩ = some (.string bDiv)) (hk : K4 w kb k0 k1 k2 k3) :
    Calls Tryz.prog 59 #[.pointer (some ⟨b, 0, none⟩), .int .i64 nv, .slice (some ⟨kb, 0, none⟩) 4 4] w fun e w' => e = .returned (.int .i64 (if k0 = 1 ∧ k1 = 1 then 1 else 0)) ∧ Below w.heap.size w w' := by
  obtain ⟨d0, d1, d2, d3, hkl⟩ := hk
  have hbl : b < w.heap.size := World.block_lt_of_cell? _ _ c0
  have HPW : Hid (∀ W, Calls Tryz.prog 76 #[.string bDiv] W fun e w' => e = .returned (.int .i64 6) ∧ w' = W) := fun W => by have := power_any bDiv W; rw [show pow bDiv = 6 by decide +kernel] at this; exact this
  unfold bDiv at *
  by_cases h : k0 = 1
  · have hb : (k0 == 1) = true := by simp [h]
    by_cases h' : k1 = 1
    · have hb' : (k1 == 1) = true := by simp [h']
      rw [if_pos ⟨h, h'⟩]
      clear h h'
      go_enter Tryz.func59, Tryz.ntmps59
      go_wp2_with (first | (go_at_call 76; refine (HPW.out _).mono ?_; rintro e w1 ⟨rfl, h⟩; (have := h.symm); subst this))
      try (go_quiet (fail))
      try go_wp2_with (first | (go_at_call 76; refine (HPW.out _).mono ?_; rintro e w1 ⟨rfl, h⟩; (have := h.symm); subst this))
      go_ret
      exact ⟨rfl, by first | exact Below.refl _ _ | exact Below.drewN' (Below.refl _ _)⟩
    · have hb' : (k1 == 1) = false := by simp [h']
      rw [if_neg (fun q => h' q.2)]
      clear h h'
      go_enter Tryz.func59, Tryz.ntmps59
      go_wp2_with (first | (go_at_call 76; refine (HPW.out _).mono ?_; rintro e w1 ⟨rfl, h⟩; (have := h.symm); subst this))
      try (go_quiet (fail))
      try go_wp2_with (first | (go_at_call 76; refine (HPW.out _).mono ?_; rintro e w1 ⟨rfl, h⟩; (have := h.symm); subst this))
      go_ret
      exact ⟨rfl, by first | exact Below.refl _ _ | exact Below.drewN' (Below.refl _ _)⟩
  · have hb : (k0 == 1) = false := by simp [h]
    rw [if_neg (fun q => h q.1)]
    clear h
    by_cases h' : k1 = 1
    · have hb' : (k1 == 1) = true := by simp [h']
      clear h'
      go_enter Tryz.func59, Tryz.ntmps59
      go_wp2_with (first | (go_at_call 76; refine (HPW.out _).mono ?_; rintro e w1 ⟨rfl, h⟩; (have := h.symm); subst this))
      try (go_quiet (fail))
      try go_wp2_with (first | (go_at_call 76; refine (HPW.out _).mono ?_; rintro e w1 ⟨rfl, h⟩; (have := h.symm); subst this))
      go_ret
      exact ⟨rfl, by first | exact Below.refl _ _ | exact Below.drewN' (Below.refl _ _)⟩
    · have hb' : (k1 == 1) = false := by simp [h']
      clear h'
      go_enter Tryz.func59, Tryz.ntmps59
      go_wp2_with (first | (go_at_call 76; refine (HPW.out _).mono ?_; rintro e w1 ⟨rfl, h⟩; (have := h.symm); subst this))
      try (go_quiet (fail))
      try go_wp2_with (first | (go_at_call 76; refine (HPW.out _).mono ?_; rintro e w1 ⟨rfl, h⟩; (have := h.symm); subst this))
      go_ret
      exact ⟨rfl, by first | exact Below.refl _ _ | exact Below.drewN' (Below.refl _ _)⟩
set_option maxHeartbeats 2000000 in
theorem res_sMod (b kb : Nat) (nv : Int) (k0 k1 k2 k3 : Int) (w : World) (c0 : w.cell? ⟨b, 0, none⟩ = some (.string bMod)) (hk : K4 w kb k0 k1 k2 k3) :
    Calls Tryz.prog 59 #[.pointer (some ⟨b, 0, none⟩), .int .i64 nv, .slice (some ⟨kb, 0, none⟩) 4 4] w fun e w' => e = .returned (.int .i64 (if k0 = 1 ∧ k1 = 1 then 1 else 0)) ∧ Below w.heap.size w w' := by
  obtain ⟨d0, d1, d2, d3, hkl⟩ := hk
  have hbl : b < w.heap.size := World.block_lt_of_cell? _ _ c0
  have HPW : Hid (∀ W, Calls Tryz.prog 76 #[.string bMod] W fun e w' => e = .returned (.int .i64 6) ∧ w' = W) := fun W => by have := power_any bMod W; rw [show pow bMod = 6 by decide +kernel] at this; exact this
  unfold bMod at *
  by_cases h : k0 = 1
  · have hb : (k0 == 1) = true := by simp [h]
    by_cases h' : k1 = 1
    · have hb' : (k1 == 1) = true := by simp [h']
      rw [if_pos ⟨h, h'⟩]
      clear h h'
      go_enter Tryz.func59, Tryz.ntmps59
      go_wp2_with (first | (go_at_call 76; refine (HPW.out _).mono ?_; rintro e w1 ⟨rfl, h⟩; (have := h.symm); subst this))
      try (go_quiet (fail))
      try go_wp2_with (first | (go_at_call 76; refine (HPW.out _).mono ?_; rintro e w1 ⟨rfl, h⟩; (have := h.symm); subst this))
      go_ret
      exact ⟨rfl, by first | exact Below.refl _ _ | exact Below.drewN' (Below.refl _ _)⟩
    · have hb' : (k1 == 1) = false := by simp [h']
      rw [if_neg (fun q => h' q.2)]
      clear h h'
      go_enter Tryz.func59, Tryz.ntmps59
      go_wp2_with (first | (go_at_call 76; refine (HPW.out _).mono ?_; rintro e w1 ⟨rfl, h⟩; (have := h.symm); subst this))
      try (go_quiet (fail))
      try go_wp2_with (first | (go_at_call 76; refine (HPW.out _).mono ?_; rintro e w1 ⟨rfl, h⟩; (have := h.symm); subst this))
      go_ret
      exact ⟨rfl, by first | exact Below.refl _ _ | exact Below.drewN' (Below.refl _ _)⟩
  · have hb : (k0 == 1) = false := by simp [h]
    rw [if_neg (fun q => h q.1)]
    clear h
    by_cases h' : k1 = 1
    · have hb' : (k1 == 1) = true := by simp [h']
      clear h'
      go_enter Tryz.func59, Tryz.ntmps59
      go_wp2_with (first | (go_at_call 76; refine (HPW.out _).mono ?_; rintro e w1 ⟨rfl, h⟩; (have := h.symm); subst this))
      try (go_quiet (fail))
      try go_wp2_with (first | (go_at_call 76; refine (HPW.out _).mono ?_; rintro e w1 ⟨rfl, h⟩; (have := h.symm); subst this))
      go_ret
      exact ⟨rfl, by first | exact Below.refl _ _ | exact Below.drewN' (Below.refl _ _)⟩
    · have hb' : (k1 == 1) = false := by simp [h']
      clear h'
      go_enter Tryz.func59, Tryz.ntmps59
      go_wp2_with (first | (go_at_call 76; refine (HPW.out _).mono ?_; rintro e w1 ⟨rfl, h⟩; (have := h.symm); subst this))
      try (go_quiet (fail))
      try go_wp2_with (first | (go_at_call 76; refine (HPW.out _).mono ?_; rintro e w1 ⟨rfl, h⟩; (have := h.symm); subst this))
      go_ret
      exact ⟨rfl, by first | exact Below.refl _ _ | exact Below.drewN' (Below.refl _ _)⟩
end Go.Proofs.YtplaplhmjpfbjaaGreatDoor.Dc
