import Derived.Test.YtnmelljaangfiaaGreatDoorXpB
namespace Go.Proofs.YtnmelljaangfiaaGreatDoor
open Go.RowKit
set_option linter.unusedVariables false
set_option linter.unusedSimpArgs false
set_option maxRecDepth 100000

theorem allB {P : UInt8 → Prop} (h : ∀ i : Fin 256, P (UInt8.ofFin i)) (c : UInt8) : P c := h c.toFin
theorem ret_b {a b : Bool} (h : a = b) : Ending.returned (.bool a) = .returned (.bool b) := by rw [h]
theorem ret_i {a b : Int} (h : a = b) : Ending.returned (.int .i64 a) = .returned (.int .i64 b) := by rw [h]

theorem isSpace_any (c : UInt8) (w : World) : Calls Tryz.prog 66 #[.int .u8 c.toNat] w fun e w' => e = .returned (.bool (isSp c)) ∧ w' = w := by
  have hc : isSp c = (((c.toNat : Int) == 32) || ((c.toNat : Int) == 9) || ((c.toNat : Int) == 10)) := by
    exact allB (P := fun c => isSp c = (((c.toNat : Int) == 32) || ((c.toNat : Int) == 9) || ((c.toNat : Int) == 10))) (by decide +kernel) c
  rw [hc]
  generalize (c.toNat : Int) = n
  cases h1 : (n == 32) <;> cases h2 : (n == 9) <;> cases h3 : (n == 10) <;>
  · go_enter Tryz.func66, Tryz.ntmps66
    go_wp2
    go_ret
    first | exact ⟨rfl, rfl⟩ | simp_all

theorem isDigit_any (c : UInt8) (w : World) : Calls Tryz.prog 85 #[.int .u8 c.toNat] w fun e w' => e = .returned (.bool (isDg c)) ∧ w' = w := by
  have hc : isDg c = (decide ((48 : Int) ≤ c.toNat) && decide ((c.toNat : Int) ≤ 57)) := by
    exact allB (P := fun c => isDg c = (decide ((48 : Int) ≤ c.toNat) && decide ((c.toNat : Int) ≤ 57))) (by decide +kernel) c
  rw [hc]
  generalize (c.toNat : Int) = n
  by_cases h1 : 48 ≤ n <;> by_cases h2 : n ≤ 57 <;>
  · go_enter Tryz.func85, Tryz.ntmps85
    go_wp2
    go_ret
    simp [h1, h2]
theorem isWordByte_any (c : UInt8) (w : World) : Calls Tryz.prog 87 #[.int .u8 c.toNat] w fun e w' => e = .returned (.bool (isWb c)) ∧ w' = w := by
  have hd := fun W => isDigit_any c W
  have hc : isWb c = ((decide ((97 : Int) ≤ c.toNat) && decide ((c.toNat : Int) ≤ 122)) || (decide ((65 : Int) ≤ c.toNat) && decide ((c.toNat : Int) ≤ 90)) || isDg c || ((c.toNat : Int) == 95)) := by
    exact allB (P := fun c => isWb c = ((decide ((97 : Int) ≤ c.toNat) && decide ((c.toNat : Int) ≤ 122)) || (decide ((65 : Int) ≤ c.toNat) && decide ((c.toNat : Int) ≤ 90)) || isDg c || ((c.toNat : Int) == 95))) (by decide +kernel) c
  rw [hc]
  generalize isDg c = D at *
  generalize (c.toNat : Int) = n at *
  by_cases h1 : 97 ≤ n <;> by_cases h2 : n ≤ 122 <;> by_cases h3 : 65 ≤ n <;> by_cases h4 : n ≤ 90 <;> first | (exfalso; omega) | skip
  all_goals
    go_enter Tryz.func87, Tryz.ntmps87
    go_wp2_with fail
    first
    | (go_ret; simp [h1, h2, h3, h4]; done)
    | (refine (hd _).mono ?_
       rintro e w1 ⟨rfl, h⟩
       have := h.symm; subst this
       cases D <;> cases h5 : (n == 95) <;> (go_wp2_with fail) <;> go_ret <;> simp [h1, h2, h3, h4, h5])
end Go.Proofs.YtnmelljaangfiaaGreatDoor
