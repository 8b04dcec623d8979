import Derived.Test.YtobhccmnlmlapaaGreatDoorGb
namespace Go.Proofs.YtobhccmnlmlapaaGreatDoor
open Go.RowKit
set_option linter.unusedVariables false
set_option maxRecDepth 100000

theorem one_cellsR (q : Q) : ∀ u ∈ cellsR q, u.oneCell' = true := by intro u hu; simp [cellsR] at hu; rcases hu with rfl | rfl <;> rfl
theorem len_cellsR (qs : List Q) : (qs.flatMap cellsR).length = qs.length * 2 := by
  induction qs with
  | nil => rfl
  | cons a l ih => rw [List.flatMap_cons, List.length_append, ih, List.length_cons]; simp [cellsR]; omega
/-- A row of the list is laid anew. -/
theorem OR.set {w : World} {B g c n : Nat} {ps : List Q} (h : OR w B (.slice (some ⟨g, 0, none⟩) n c) ps) (hn : n = ps.length) (m : Nat) (hm : m < ps.length) (p : Q) (hp : VLies w p.a p.r.vs) (hpa : ∀ y, p.a = some y → B ≤ y.block ∧ y.block < w.heap.size ∧ some y.block ≠ some g) :
    OR ((w.setCell ⟨g, m * 2, none⟩ (.int .i64 p.r.t)).setCell ⟨g, m * 2 + 1, none⟩ (.slice p.a p.r.vs.length p.c)) B (.slice (some ⟨g, 0, none⟩) n c) (ps.set m p) ∧
    w.grownBy ((w.setCell ⟨g, m * 2, none⟩ (.int .i64 p.r.t)).setCell ⟨g, m * 2 + 1, none⟩ (.slice p.a p.r.vs.length p.c)) (some g) := by
  subst hn
  obtain ⟨h1, g1⟩ := World.ownsRow.stored h.own (m * 2) (.int .i64 p.r.t)
  obtain ⟨h2, g2⟩ := World.ownsRow.stored h1 (m * 2 + 1) (.slice p.a p.r.vs.length p.c)
  have hg := grown_trans g1 g2
  refine ⟨⟨?_, fun q hq => ?_, fun q hq y hy => ?_⟩, hg⟩
  · rw [List.length_set, flatR_set _ _ _ hm]; exact h2
  · rcases List.mem_or_eq_of_mem_set hq with hq | rfl
    · exact (h.lies q hq).grown hg fun y hy => (h.apart q hq y hy).2.2
    · exact hp.grown hg fun y hy => (hpa y hy).2.2
  · rcases List.mem_or_eq_of_mem_set hq with hq | rfl
    · obtain ⟨a1, a2, a3⟩ := h.apart q hq y hy
      exact ⟨a1, Nat.lt_of_lt_of_le a2 hg.size, a3⟩
    · obtain ⟨a1, a2, a3⟩ := hpa y hy
      exact ⟨a1, Nat.lt_of_lt_of_le a2 hg.size, a3⟩
theorem OR.cells {w : World} {B g c n : Nat} {ps : List Q} (h : OR w B (.slice (some ⟨g, 0, none⟩) n c) ps) (hn : n = ps.length) (i : Nat) (hi : i < ps.length) :
    w.cell? ⟨g, i * 2, none⟩ = some (.int .i64 ps[i].r.t) ∧ w.cell? ⟨g, i * 2 + 1, none⟩ = some (.slice ps[i].a ps[i].r.vs.length ps[i].c) := by
  subst hn
  have key : ∀ j, j < 2 → w.cell? ⟨g, i * 2 + j, none⟩ = (cellsR ps[i])[j]? := fun j hj => by
    rw [World.ownsRow.cellAt h.own (i * 2 + j) (by omega), flat_at cellsR 2 (fun _ => rfl) ps i j hi hj]
  exact ⟨key 0 (by decide), key 1 (by decide)⟩
theorem OR.soft {w : World} {B g c n : Nat} {ps : List Q} (h : OR w B (.slice (some ⟨g, 0, none⟩) n c) ps) (hn : n = ps.length) (j : Nat) : w.frozen? ⟨g, j, none⟩ = false := by
  subst hn
  exact World.ownsRow.frozenAt h.own j
theorem OR.base {w : World} {B : Nat} {x : Value} {qs : List Q} (h : OR w B x qs) : ∀ g, x.ownBlock = some g → B ≤ g ∧ g < w.heap.size := fun g hg => World.ownsRow.lt h.own g hg
theorem ins_set {α : Type} (l : List α) (m : Nat) (hm : m ≤ l.length) (z p : α) : (l.take m ++ z :: l.drop m).set m p = l.take m ++ p :: l.drop m := by
  have e : (l.take m).length = m := by rw [List.length_take]; omega
  rw [List.set_append_right _ _ (by omega), e, Nat.sub_self, List.set_cons_zero]
theorem ins_step {α : Type} (l : List α) (m : Nat) (hm : m < l.length) : l.take (m + 1) ++ l[m] :: l.drop (m + 1) = l.take m ++ l[m] :: l.drop m := by
  rw [List.take_succ_eq_append_getElem hm, List.append_assoc, List.drop_eq_getElem_cons hm]; rfl
theorem ins_get {α : Type} (l : List α) (m : Nat) (hm : m < l.length) (z : α) : (l.take (m + 1) ++ z :: l.drop (m + 1))[m]? = some l[m] := by
  rw [List.getElem?_append_left (by rw [List.length_take]; omega), List.getElem?_take, if_pos (by omega)]; simp [hm]
theorem ins_len {α : Type} (l : List α) (m : Nat) (hm : m ≤ l.length) (z : α) : (l.take m ++ z :: l.drop m).length = l.length + 1 := by
  rw [List.length_append, List.length_cons, List.length_take, List.length_drop]; omega
theorem ins_perm {α : Type} (l : List α) (m : Nat) (z : α) : (l.take m ++ z :: l.drop m).Perm (l ++ [z]) := by
  refine List.perm_middle.trans ?_
  rw [List.take_append_drop]
  exact (List.perm_append_singleton z l).symm
theorem ins_map {α β : Type} (f : α → β) (l : List α) (m : Nat) (z : α) : (l.take m ++ z :: l.drop m).map f = (l.map f).take m ++ f z :: (l.map f).drop m := by
  simp [List.map_append, List.map_take, List.map_drop]
end Go.Proofs.YtobhccmnlmlapaaGreatDoor
namespace Go.Proofs.YtobhccmnlmlapaaGreatDoor
open Go.RowKit
set_option linter.unusedVariables false
set_option maxRecDepth 100000

/-- What the document's Sorted gives. -/
def RSPost (w : World) (rs : List Rw) (e : Ending) (w' : World) : Prop := ∃ (a : Option Addr) (c : Nat) (ps : List Rw), e = .returned (.slice a ps.length c) ∧ RLies w' a ps ∧ ps.Perm rs ∧ Asc ps ∧ Below w.heap.size w w'

end Go.Proofs.YtobhccmnlmlapaaGreatDoor
