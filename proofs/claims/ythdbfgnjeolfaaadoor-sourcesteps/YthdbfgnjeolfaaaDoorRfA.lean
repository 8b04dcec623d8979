import Derived.Test.YthdbfgnjeolfaaaDoorSrE
namespace Go.Proofs.YthdbfgnjeolfaaaDoor
open Go.RowKit
set_option linter.unusedVariables false
set_option linter.unusedSimpArgs false
set_option maxRecDepth 100000
set_option maxHeartbeats 4000000

/-- The time told, and how many were late, when so many rows were read. -/
def timeR (rs : List Rw) (bd : Int) : Nat → Int
  | 0 => -1
  | k + 1 => match rs[k]? with
    | none => 1099511627777
    | some r => if r.t < timeR rs bd k then timeR rs bd k else if r.t - bd ≤ timeR rs bd k then timeR rs bd k else r.t - bd
def lateR (rs : List Rw) (bd : Int) (k : Nat) : Bool := match rs[k]? with
  | none => false
  | some r => decide (r.t < timeR rs bd k)
def lostR (rs : List Rw) (bd : Int) : Nat → Int
  | 0 => 0
  | k + 1 => lostR rs bd k + (if lateR rs bd k then 1 else 0)
theorem timeR_none (rs : List Rw) (bd : Int) (k : Nat) (h : rs.length ≤ k) : timeR rs bd (k + 1) = 1099511627777 := by
  unfold timeR; rw [List.getElem?_eq_none h]
theorem timeR_le (rs : List Rw) (bd : Int) (hb : 0 ≤ bd) (ht : ∀ r ∈ rs, r.t ≤ 1099511627776) : ∀ k, k ≤ rs.length → -1 ≤ timeR rs bd k ∧ timeR rs bd k ≤ 1099511627776
  | 0, _ => ⟨by simp [timeR], by simp [timeR]⟩
  | k + 1, hk => by
    have ih := timeR_le rs bd hb ht k (by omega)
    have hr : rs[k]? = some rs[k] := by simp [show k < rs.length by omega]
    have hrt := ht _ (List.getElem_mem (show k < rs.length by omega))
    unfold timeR
    rw [hr]
    simp only
    split
    · exact ih
    · split
      · exact ih
      · omega
theorem lostR_bd (rs : List Rw) (bd : Int) : ∀ k, 0 ≤ lostR rs bd k ∧ lostR rs bd k ≤ k
  | 0 => ⟨by simp [lostR], by simp [lostR]⟩
  | k + 1 => by have := lostR_bd rs bd k; unfold lostR; split <;> omega
theorem lostR_stop (rs : List Rw) (bd : Int) (k : Nat) (h : rs.length ≤ k) : lostR rs bd (k + 1) = lostR rs bd k := by
  have e : lostR rs bd (k + 1) = lostR rs bd k + (if lateR rs bd k then 1 else 0) := rfl
  have : lateR rs bd k = false := by unfold lateR; rw [List.getElem?_eq_none h]
  rw [e, this]; simp
def outR (rs : List Rw) (bd : Int) (k : Nat) : List Out :=
  (match rs[k]? with
    | none => []
    | some r => if lateR rs bd k then [] else [rowO r]) ++ (if timeR rs bd k < timeR rs bd (k + 1) then [timeO (timeR rs bd (k + 1))] else [])
/-- A step of the program, in the document's words. -/
theorem takeS_R (rs : List Rw) (bd : Int) (hb : 0 ≤ bd) (ht : ∀ r ∈ rs, r.t ≤ 1099511627776) (k : Nat) (hk : k ≤ rs.length) : takeS rs bd k (timeR rs bd k) (lostR rs bd k) = (outR rs bd k, k + 1, timeR rs bd (k + 1), lostR rs bd (k + 1)) := by
  unfold takeS
  rw [if_neg (by omega)]
  by_cases h : k < rs.length
  · have hr : rs[k]? = some rs[k] := by simp [h]
    have hT : timeR rs bd (k + 1) = if rs[k].t < timeR rs bd k then timeR rs bd k else if rs[k].t - bd ≤ timeR rs bd k then timeR rs bd k else rs[k].t - bd := by rw [timeR, hr]
    have hL : lateR rs bd k = decide (rs[k].t < timeR rs bd k) := by unfold lateR; rw [hr]
    have hS : lostR rs bd (k + 1) = lostR rs bd k + (if lateR rs bd k then 1 else 0) := by rw [lostR]
    unfold outR
    rw [hr]
    simp only
    rw [hT, hS, hL]
    generalize rs[k] = r at *
    generalize timeR rs bd k = tm at *
    by_cases h1 : r.t < tm
    · simp [h1]
    · by_cases h2 : r.t - bd ≤ tm
      · simp [h1, h2, tellS]
      · simp [h1, h2, tellS, show tm < r.t - bd by omega]
  · have hr : rs[k]? = none := List.getElem?_eq_none (by omega)
    have hle := (timeR_le rs bd hb ht k hk).2
    unfold outR
    rw [hr, timeR_none rs bd k (by omega), lostR_stop rs bd k (by omega)]
    simp only [tellS]
    rw [if_neg (by omega), if_pos (by omega)]
    rfl

/-- The document's reader in its block. -/
def Rdf (w : World) (g : Nat) (x : Value) (bd at_ : Int) : Prop := Own w g 45 3 [x, .int .i64 bd, .int .i64 at_]
theorem Rdf.cells {w : World} {g : Nat} {x : Value} {bd at_ : Int} (h : Rdf w g x bd at_) : w.cell? ⟨g, 0, none⟩ = some x ∧ w.cell? ⟨g, 1, none⟩ = some (.int .i64 bd) ∧ w.cell? ⟨g, 2, none⟩ = some (.int .i64 at_) :=
  ⟨Own.cell h 0 (by decide), Own.cell h 1 (by decide), Own.cell h 2 (by decide)⟩
structure Fit (rs : List Rw) (bd : Int) : Prop where
  n : rs.length ≤ 100
  b0 : 0 ≤ bd
  b1 : bd ≤ 1048576
  t : ∀ r ∈ rs, 0 ≤ r.t ∧ r.t ≤ 1099511627776
  v : ∀ r ∈ rs, r.vs.length ≤ 8
end Go.Proofs.YthdbfgnjeolfaaaDoor
