import Derived.Test.YtmeeoamcelkhmaaGreatDoorSrtF
namespace Go.Proofs.YtmeeoamcelkhmaaGreatDoor
open Go.RowKit
set_option linter.unusedVariables false
set_option maxRecDepth 100000

def zq : Q := ⟨⟨0, []⟩, none, 0⟩
theorem flat_zq (n : Nat) : (madeCells #[.int .i64 0, .slice none 0 0] (n * 2)).toList = (List.replicate n zq).flatMap cellsR := by
  apply List.ext_getElem?
  intro t
  by_cases ht : t < n * 2
  · have h1 := flat_at cellsR 2 (fun _ => rfl) (List.replicate n zq) (t / 2) (t % 2) (by simp; omega) (by omega)
    rw [show t / 2 * 2 + t % 2 = t by omega] at h1
    rw [h1, List.getElem_replicate]
    have hm : t % 2 = 0 ∨ t % 2 = 1 := by omega
    rcases hm with hm | hm <;> simp [madeCells, ht, hm, cellsR, zq]
  · rw [List.getElem?_eq_none (by simp [madeCells]; omega), List.getElem?_eq_none (by rw [len_cellsR]; simp; omega)]
/-- Two rows whose values lie in other blocks. -/
def Ap (p q : Q) : Prop := ∀ y z, p.a = some y → q.a = some z → y.block ≠ z.block
theorem Ap.symm {p q : Q} (h : Ap p q) : Ap q p := fun y z hy hz e => h z y hz hy e.symm
theorem OV.far {w w' : World} {B g : Nat} {x : Value} {vs : List V} (h : OV w B x vs) (hg : w.grownBy w' (some g)) (hne : x.ownBlock ≠ some g) : OV w' B x vs :=
  own_grown h hg fun k hk e => by rw [e] at hk; exact hne hk
/-- Rows in a block of their own, the values of each in a block of its own. -/
structure Done (w : World) (B O : Nat) (ps : List Q) : Prop where
  own : w.ownsRow B 34 2 (.slice (some ⟨O, 0, none⟩) ps.length ps.length) ps.length (ps.flatMap cellsR)
  mine : ∀ q ∈ ps, OV w B (.slice q.a q.r.vs.length q.c) q.r.vs
  apart : ∀ q ∈ ps, ∀ y, q.a = some y → y.block ≠ O
  two : ps.Pairwise Ap
/-- What Sorted gives. -/
def SPost (w : World) (rs : List Rw) (e : Ending) (w' : World) : Prop := ∃ (O : Nat) (ps : List Q), e = .returned (.slice (some ⟨O, 0, none⟩) ps.length ps.length) ∧ Done w' w.heap.size O ps ∧ (ps.map (·.r)).Perm rs ∧ Asc (ps.map (·.r)) ∧ Below w.heap.size w w'

theorem whole_row {w : World} {B O : Nat} {xs : List Value} {n : Nat} (h : w.ownsRow B 34 2 (.slice (some ⟨O, 0, none⟩) n n) n xs) : w.heap[O]? = some (.cells xs.toArray 34 (0, 0)) := by
  rcases h.2 with ⟨h1, -⟩ | ⟨g, cap, cur, h1, -, h3, -, -, h5, h6⟩
  · cases h1
  · cases h1
    rw [h3, ← h6, List.take_of_length_le (by simp; omega)]

theorem sorted_fin (w w1 w2 : World) (O : Nat) (rs : List Rw) (qs ps : List Q) (hO : w.heap.size ≤ O) (hd : Done w1 w.heap.size O qs) (hq : qs.map (·.r) = rs) (hp : ps.Perm qs) (ha : Asc (ps.map (·.r))) (hg : w2.heap[O]? = some (.cells (ps.flatMap cellsR).toArray 34 (0, 0))) (hgr : w1.grownBy w2 (some O)) (hb : Below w.heap.size w w1) (hl : rs.length ≤ 4398046511104) :
    SPost w rs (.returned (.slice (some ⟨O, 0, none⟩) rs.length rs.length)) w2 := by
  have hlen : ps.length = rs.length := by rw [hp.length_eq, ← hq, List.length_map]
  refine ⟨O, ps, by rw [hlen], ⟨?_, fun q hq' => ?_, fun q hq' => hd.apart q (hp.subset hq'), (hp.pairwise_iff (fun h => Ap.symm h)).2 hd.two⟩, by rw [← hq]; exact hp.map _, ha, hb.grown hgr hb.size (fun k hk => by cases hk; exact hO)⟩
  · refine ⟨len_cellsR ps, .inr ⟨O, ps.length, _, rfl, hO, hg, Nat.le_refl _, by unfold maxLen; omega, by rw [List.size_toArray, len_cellsR], ?_⟩⟩
    rw [List.take_of_length_le (by rw [len_cellsR]; exact Nat.le_refl _)]
  · have hm := hp.subset hq'
    refine (hd.mine q hm).far hgr ?_
    cases ha' : q.a with
    | none => simp [Value.ownBlock]
    | some y => simp only [Value.ownBlock]; intro e; exact hd.apart q hm y ha' (Option.some.inj e)

theorem rep_set {α : Type} (ps : List α) (n : Nat) (z p : α) (h : ps.length < n) : (ps ++ List.replicate (n - ps.length) z).set ps.length p = (ps ++ [p]) ++ List.replicate (n - (ps.length + 1)) z := by
  rw [List.set_append_right _ _ (Nat.le_refl _), Nat.sub_self, show n - ps.length = (n - (ps.length + 1)) + 1 by omega, List.replicate_succ, List.set_cons_zero, List.append_assoc]
  rfl
end Go.Proofs.YtmeeoamcelkhmaaGreatDoor
