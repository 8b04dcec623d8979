import Derived.Test.YtnmelljaangfiaaGreatDoorXpT
namespace Go.Proofs.YtnmelljaangfiaaGreatDoor.Dc
open Go.RowKit
set_option linter.unusedVariables false
set_option linter.unusedSimpArgs false
set_option maxRecDepth 100000

theorem digitD_any (c : UInt8) (w : World) : Calls Tryz.prog 44 #[.int .u8 c.toNat] w fun e w' => e = .returned (.bool (isDg c)) ∧ w' = w := by
  have hc : isDg c = (decide ((48 : Int) ≤ c.toNat) && decide ((c.toNat : Int) ≤ 57)) := by
    exact allB (P := fun c => isDg c = (decide ((48 : Int) ≤ c.toNat) && decide ((c.toNat : Int) ≤ 57))) (by decide +kernel) c
  rw [hc]
  generalize (c.toNat : Int) = n
  by_cases h1 : (48 : Int) ≤ n <;> by_cases h2 : n ≤ 57 <;>
  · go_enter Tryz.func44, Tryz.ntmps44
    go_wp2
    go_ret
    simp [h1, h2]
/-- A letter. -/
def isLt (c : UInt8) : Bool := (decide (97 ≤ c.toNat) && decide (c.toNat ≤ 122)) || (decide (65 ≤ c.toNat) && decide (c.toNat ≤ 90)) || c == 95
theorem isWb_lt : ∀ c : UInt8, isWb c = (isLt c || isDg c) := allB (P := fun c => isWb c = (isLt c || isDg c)) (by decide +kernel)
theorem isLt_dg : ∀ c : UInt8, isDg c = true → isLt c = false := allB (P := fun c => isDg c = true → isLt c = false) (by decide +kernel)
theorem letterD_any (c : UInt8) (w : World) : Calls Tryz.prog 43 #[.int .u8 c.toNat] w fun e w' => e = .returned (.bool (isLt c)) ∧ w' = w := by
  have hc : isLt c = ((decide ((97 : Int) ≤ c.toNat) && decide ((c.toNat : Int) ≤ 122)) || (decide ((65 : Int) ≤ c.toNat) && decide ((c.toNat : Int) ≤ 90)) || ((c.toNat : Int) == 95)) := by
    exact allB (P := fun c => isLt c = ((decide ((97 : Int) ≤ c.toNat) && decide ((c.toNat : Int) ≤ 122)) || (decide ((65 : Int) ≤ c.toNat) && decide ((c.toNat : Int) ≤ 90)) || ((c.toNat : Int) == 95))) (by decide +kernel) c
  rw [hc]
  generalize (c.toNat : Int) = n
  by_cases h1 : (97 : Int) ≤ n <;> by_cases h2 : n ≤ 122 <;> by_cases h3 : (65 : Int) ≤ n <;> by_cases h4 : n ≤ 90 <;> cases h5 : (n == 95) <;> (try (exfalso; omega)) <;>
  · go_enter Tryz.func43, Tryz.ntmps43
    go_wp2
    go_ret
    simp [h1, h2, h3, h4, h5]
theorem word_any (t : ByteArray) (w : World) : Calls Tryz.prog 54 #[.string t] w fun e w' => e = .returned (.bool (decide (res t))) ∧ w' = w := by
  have e1 := xl t [97, 110, 100]
  have e2 := xl t [111, 114]
  have e3 := xl t [110, 111, 116]
  have e4 := xl t [116, 114, 117, 101]
  have e5 := xl t [102, 97, 108, 115, 101]
  have e6 := xl t [97, 115]
  have hr : decide (res t) = (decide (t = bAnd) || decide (t = bOr) || decide (t = bNot) || decide (t = bTrue) || decide (t = bFalse) || decide (t = bAs)) := by
    rw [Bool.eq_iff_iff, decide_eq_true_iff]; unfold res; simp [or_assoc]
  rw [hr]
  change (t.toList == [97, 110, 100]) = decide (t = bAnd) at e1
  change (t.toList == [111, 114]) = decide (t = bOr) at e2
  change (t.toList == [110, 111, 116]) = decide (t = bNot) at e3
  change (t.toList == [116, 114, 117, 101]) = decide (t = bTrue) at e4
  change (t.toList == [102, 97, 108, 115, 101]) = decide (t = bFalse) at e5
  change (t.toList == [97, 115]) = decide (t = bAs) at e6
  generalize decide (t = bAnd) = D1 at *
  generalize decide (t = bOr) = D2 at *
  generalize decide (t = bNot) = D3 at *
  generalize decide (t = bTrue) = D4 at *
  generalize decide (t = bFalse) = D5 at *
  generalize decide (t = bAs) = D6 at *
  clear hr
  cases D1
  · cases D2
    · cases D3
      · cases D4
        · cases D5
          all_goals
            go_enter Tryz.func54, Tryz.ntmps54
            go_wp2
            go_ret
            exact ⟨by simp, rfl⟩
        · go_enter Tryz.func54, Tryz.ntmps54
          go_wp2
          go_ret
          exact ⟨rfl, rfl⟩
      · go_enter Tryz.func54, Tryz.ntmps54
        go_wp2
        go_ret
        exact ⟨rfl, rfl⟩
    · go_enter Tryz.func54, Tryz.ntmps54
      go_wp2
      go_ret
      exact ⟨rfl, rfl⟩
  · go_enter Tryz.func54, Tryz.ntmps54
    go_wp2
    go_ret
    exact ⟨rfl, rfl⟩
/-- power: how tightly an operator joins; 0: it is none. -/
def pow (t : ByteArray) : Int := if sgn t = 7 then 0 else (sgn t : Int) + 1
theorem power_any (t : ByteArray) (w : World) : Calls Tryz.prog 24 #[.string t] w fun e w' => e = .returned (.int .i64 (pow t)) ∧ w' = w := by
  by_cases hOr : t = bOr
  · subst hOr; rw [show pow bOr = 1 by decide +kernel]; unfold bOr
    go_enter Tryz.func24, Tryz.ntmps24
    go_wp2
    go_ret
    exact ⟨rfl, rfl⟩
  by_cases hAnd : t = bAnd
  · subst hAnd; rw [show pow bAnd = 2 by decide +kernel]; unfold bAnd
    go_enter Tryz.func24, Tryz.ntmps24
    go_wp2
    go_ret
    exact ⟨rfl, rfl⟩
  by_cases hEq : t = bEq
  · subst hEq; rw [show pow bEq = 4 by decide +kernel]; unfold bEq
    go_enter Tryz.func24, Tryz.ntmps24
    go_wp2
    go_ret
    exact ⟨rfl, rfl⟩
  by_cases hNe : t = bNe
  · subst hNe; rw [show pow bNe = 4 by decide +kernel]; unfold bNe
    go_enter Tryz.func24, Tryz.ntmps24
    go_wp2
    go_ret
    exact ⟨rfl, rfl⟩
  by_cases hLt : t = bLt
  · subst hLt; rw [show pow bLt = 4 by decide +kernel]; unfold bLt
    go_enter Tryz.func24, Tryz.ntmps24
    go_wp2
    go_ret
    exact ⟨rfl, rfl⟩
  by_cases hLe : t = bLe
  · subst hLe; rw [show pow bLe = 4 by decide +kernel]; unfold bLe
    go_enter Tryz.func24, Tryz.ntmps24
    go_wp2
    go_ret
    exact ⟨rfl, rfl⟩
  by_cases hGt : t = bGt
  · subst hGt; rw [show pow bGt = 4 by decide +kernel]; unfold bGt
    go_enter Tryz.func24, Tryz.ntmps24
    go_wp2
    go_ret
    exact ⟨rfl, rfl⟩
  by_cases hGe : t = bGe
  · subst hGe; rw [show pow bGe = 4 by decide +kernel]; unfold bGe
    go_enter Tryz.func24, Tryz.ntmps24
    go_wp2
    go_ret
    exact ⟨rfl, rfl⟩
  by_cases hPlus : t = bPlus
  · subst hPlus; rw [show pow bPlus = 5 by decide +kernel]; unfold bPlus
    go_enter Tryz.func24, Tryz.ntmps24
    go_wp2
    go_ret
    exact ⟨rfl, rfl⟩
  by_cases hMinus : t = bMinus
  · subst hMinus; rw [show pow bMinus = 5 by decide +kernel]; unfold bMinus
    go_enter Tryz.func24, Tryz.ntmps24
    go_wp2
    go_ret
    exact ⟨rfl, rfl⟩
  by_cases hCat : t = bCat
  · subst hCat; rw [show pow bCat = 5 by decide +kernel]; unfold bCat
    go_enter Tryz.func24, Tryz.ntmps24
    go_wp2
    go_ret
    exact ⟨rfl, rfl⟩
  by_cases hMul : t = bMul
  · subst hMul; rw [show pow bMul = 6 by decide +kernel]; unfold bMul
    go_enter Tryz.func24, Tryz.ntmps24
    go_wp2
    go_ret
    exact ⟨rfl, rfl⟩
  by_cases hDiv : t = bDiv
  · subst hDiv; rw [show pow bDiv = 6 by decide +kernel]; unfold bDiv
    go_enter Tryz.func24, Tryz.ntmps24
    go_wp2
    go_ret
    exact ⟨rfl, rfl⟩
  by_cases hMod : t = bMod
  · subst hMod; rw [show pow bMod = 6 by decide +kernel]; unfold bMod
    go_enter Tryz.func24, Tryz.ntmps24
    go_wp2
    go_ret
    exact ⟨rfl, rfl⟩
  have h7 : sgn t = 7 := by
    unfold sgn
    simp [hOr, hAnd, hEq, hNe, hLt, hLe, hGt, hGe, hPlus, hMinus, hCat, hMul, hDiv, hMod]
  rw [show pow t = 0 by unfold pow; rw [if_pos h7]]
  have e1 : (t.toList == [111, 114]) = false := xnl hOr
  have e2 : (t.toList == [97, 110, 100]) = false := xnl hAnd
  have e3 : (t.toList == [61]) = false := xnl hEq
  have e4 : (t.toList == [60, 62]) = false := xnl hNe
  have e5 : (t.toList == [60]) = false := xnl hLt
  have e6 : (t.toList == [60, 61]) = false := xnl hLe
  have e7 : (t.toList == [62]) = false := xnl hGt
  have e8 : (t.toList == [62, 61]) = false := xnl hGe
  have e9 : (t.toList == [43]) = false := xnl hPlus
  have e10 : (t.toList == [45]) = false := xnl hMinus
  have e11 : (t.toList == [43, 43]) = false := xnl hCat
  have e12 : (t.toList == [42]) = false := xnl hMul
  have e13 : (t.toList == [47]) = false := xnl hDiv
  have e14 : (t.toList == [37]) = false := xnl hMod
  clear hOr hAnd hEq hNe hLt hLe hGt hGe hPlus hMinus hCat hMul hDiv hMod h7
  go_enter Tryz.func24, Tryz.ntmps24
  go_wp2
  go_ret
  exact ⟨rfl, rfl⟩
end Go.Proofs.YtnmelljaangfiaaGreatDoor.Dc
