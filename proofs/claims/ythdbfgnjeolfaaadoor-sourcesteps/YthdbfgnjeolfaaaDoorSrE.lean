import Derived.Test.YthdbfgnjeolfaaaDoorSrD
namespace Go.Proofs.YthdbfgnjeolfaaaDoor
open Go.RowKit
set_option linter.unusedVariables false
set_option linter.unusedSimpArgs false
set_option maxRecDepth 100000
set_option maxHeartbeats 4000000

/-- Flows that keep what was told. -/
def Good : Int → List Out → Prop
  | _, [] => True
  | told, o :: os => (o.1 = 1 ∧ told ≤ o.2.1.t ∧ Good told os) ∨ (o.1 = 2 ∧ told < o.2.2 ∧ Good o.2.2 os)
def tEnd : Int → List Out → Int
  | told, [] => told
  | told, o :: os => if o.1 = 1 then tEnd told os else tEnd o.2.2 os
def cntO : List Out → Int
  | [] => 0
  | o :: os => (if o.1 = 1 then 1 else 0) + cntO os

/-- Where a reader stands: how far, the time told, how many late, how many flowed. -/
def Inv (rs : List Rw) (k : Nat) (tm lt n : Int) : Prop := k ≤ rs.length + 1 ∧ 0 ≤ lt ∧ 0 ≤ n ∧ lt ≤ 1000 ∧ n ≤ 1000 ∧ (k ≤ rs.length → tm ≤ 1099511627776 ∧ n + lt = k) ∧ (k = rs.length + 1 → tm = 1099511627777 ∧ n + lt = rs.length)
theorem inv_start (rs : List Rw) : Inv rs 0 (-1) 0 0 := by unfold Inv; simp
theorem inv_take {rs : List Rw} {bd : Int} {k : Nat} {tm lt n : Int} (h : Inv rs k tm lt n) (hk : k ≤ rs.length) (hl : rs.length ≤ 100) (hbd : 0 ≤ bd) (ht : ∀ r ∈ rs, r.t ≤ 1099511627776) :
    Good tm (takeS rs bd k tm lt).1 ∧ (takeS rs bd k tm lt).2.1 = k + 1 ∧ tEnd tm (takeS rs bd k tm lt).1 = (takeS rs bd k tm lt).2.2.1 ∧ Inv rs (k + 1) (takeS rs bd k tm lt).2.2.1 (takeS rs bd k tm lt).2.2.2 (n + cntO (takeS rs bd k tm lt).1) ∧ 0 ≤ cntO (takeS rs bd k tm lt).1 := by
  obtain ⟨h1, h2, h3, h4, h5, h6, h7⟩ := h
  obtain ⟨g1, g2⟩ := h6 hk
  unfold takeS
  rw [if_neg (by omega)]
  by_cases hlt : k < rs.length
  · have hr : rs[k]? = some rs[k] := by simp [hlt]
    have hrt := ht _ (List.getElem_mem hlt)
    rw [hr]
    generalize rs[k] = r at *
    simp only
    by_cases hlate : r.t < tm
    · rw [if_pos hlate]
      refine ⟨trivial, rfl, rfl, ?_, by simp [cntO]⟩
      unfold Inv
      simp only [cntO]
      refine ⟨by omega, by omega, by omega, by omega, by omega, fun _ => ⟨by omega, by omega⟩, fun _ => by omega⟩
    · rw [if_neg hlate]
      unfold tellS
      by_cases hs : r.t - bd ≤ tm
      · rw [if_pos hs]
        refine ⟨.inl ⟨rfl, by simp [rowO]; omega, trivial⟩, rfl, rfl, ?_, by simp [cntO, rowO]⟩
        unfold Inv
        simp only [cntO, rowO]
        refine ⟨by omega, by omega, by simp; omega, by omega, by simp; omega, fun _ => ⟨by omega, by simp; omega⟩, fun _ => by omega⟩
      · rw [if_neg hs]
        refine ⟨.inl ⟨rfl, by simp [rowO]; omega, .inr ⟨rfl, by simp [timeO]; omega, trivial⟩⟩, rfl, by simp [tEnd, rowO, timeO], ?_, by simp [cntO, rowO, timeO]⟩
        unfold Inv
        simp only [cntO, rowO, timeO]
        refine ⟨by omega, by omega, by simp; omega, by omega, by simp; omega, fun _ => ⟨by omega, by simp; omega⟩, fun _ => by omega⟩
  · have hr : rs[k]? = none := List.getElem?_eq_none (by omega)
    rw [hr]
    simp only
    unfold tellS
    rw [if_neg (by omega)]
    refine ⟨.inr ⟨rfl, by simp [timeO]; omega, trivial⟩, by trivial, by simp [tEnd, timeO], ?_, by simp [cntO, timeO]⟩
    unfold Inv
    simp only [cntO, timeO]
    refine ⟨by omega, by omega, by simp; omega, by omega, by simp; omega, fun _ => by omega, fun _ => ⟨by trivial, by simp; omega⟩⟩

theorem OE.at {w : World} {B : Nat} {a : Option Addr} {n c : Nat} {els : List El} {j : Nat} {e : El} (h : OE w B (.slice a n c) els) (he : els[j]? = some e) :
    ∃ b, a = some ⟨b, 0, none⟩ ∧ w.cell? ⟨b, j * 5, none⟩ = some (.int .i64 e.k) ∧ w.cell? ⟨b, j * 5 + 1, none⟩ = some (.int .i64 e.q.r.t) ∧ w.cell? ⟨b, j * 5 + 2, none⟩ = some (.slice e.q.a e.q.r.vs.length e.q.c) ∧ w.cell? ⟨b, j * 5 + 3, none⟩ = some (.int .i64 e.t) ∧ w.cell? ⟨b, j * 5 + 4, none⟩ = some (.int .i64 0) := by
  obtain ⟨hi, e1⟩ := List.getElem?_eq_some_iff.1 he
  rcases h.own.2 with ⟨h1, h2⟩ | ⟨g, cap, cur, h1, h2, h3, -⟩
  · omega
  · have ho := h.own
    rw [h1] at ho
    simp only [Value.slice.injEq] at h1
    have key : ∀ i, i < 5 → w.cell? ⟨g, j * 5 + i, none⟩ = (cellsE els[j])[i]? := fun i hi5 => by
      rw [World.ownsRow.cellAt ho (j * 5 + i) (by omega), flat_at cellsE 5 (fun _ => rfl) els j i hi hi5]
    rw [e1] at key
    exact ⟨g, h1.1, key 0 (by decide), key 1 (by decide), key 2 (by decide), key 3 (by decide), key 4 (by decide)⟩
theorem OE.form {w : World} {B : Nat} {x : Value} {els : List El} (h : OE w B x els) : ∃ a c, x = .slice a els.length c := by
  rcases h.own.2 with ⟨h1, h2⟩ | ⟨g, cap, cur, h1, -⟩
  · exact ⟨none, 0, by rw [h1, h2]⟩
  · exact ⟨_, _, h1⟩
end Go.Proofs.YthdbfgnjeolfaaaDoor
