import Derived.Test.YtobhccmnlmlapaaGreatDoorQStR
import Derived.Test.YtobhccmnlmlapaaGreatDoorGn
import Derived.Deep.AppendLies
namespace Go.Proofs.YtobhccmnlmlapaaGreatDoor
open Go.RowKit Go.Maps
set_option linter.unusedVariables false
set_option linter.unusedSimpArgs false
set_option maxRecDepth 100000

def inG (g : Nat) (x : Cx) : Bool := grp x.c.key == g
/-- The cells of each group so far. -/
structure GI (w : World) (n0 G : Nat) (vs : List Value) (f : Nat → List Cx) : Prop where
  own : Own w G 75 32 vs
  len : vs.length = 32
  row : ∀ g (hg : g < vs.length), OC w n0 vs[g] (f g)
  sep : ∀ g (hg : g < vs.length) g' (hg' : g' < vs.length), g ≠ g' → ∀ b, vs[g].ownBlock = some b → vs[g'].ownBlock ≠ some b
  lt : G < n0
theorem GI.kept {S : Nat → Prop} {w w' : World} {n0 G : Nat} {vs : List Value} {f : Nat → List Cx} (h : GI w n0 G vs f) (hg : Gs S w w') (h1 : ¬ S G) (h2 : ∀ i, n0 ≤ i → i < w.heap.size → ¬ S i) : GI w' n0 G vs f :=
  ⟨hg.own h.own fun b hb => by cases hb; exact h1, h.len, fun g hgl => hg.own (h.row g hgl) fun b hb => h2 b (World.ownsRow.lt (h.row g hgl) b hb).1 (World.ownsRow.lt (h.row g hgl) b hb).2, h.sep, h.lt⟩
theorem GI.later {w w' : World} {n0 G : Nat} {vs : List Value} {f : Nat → List Cx} (h : GI w n0 G vs f) (hb : Below w.heap.size w w') : GI w' n0 G vs f := h.kept (S := fun _ => False) (Gs.below hb) (fun s => s) (fun _ _ _ s => s)
/-- One cell more in a group. -/
theorem GI.more {w w' : World} {n0 G g : Nat} {vs : List Value} {f : Nat → List Cx} {v' : Value} {q : Cx} (h : GI w n0 G vs f) (hg : g < 32) (hown : w'.ownsRow n0 55 4 v' ((f g).length + 1) ((f g).flatMap cellsC ++ cellsC q)) (hgr : w.grownBy w' (vs[g]'(by rw [h.len]; exact hg)).ownBlock) (hat : v'.ownBlock = (vs[g]'(by rw [h.len]; exact hg)).ownBlock ∨ v'.ownBlock = some w.heap.size) :
    GI (w'.setCell ⟨G, g, none⟩ v') n0 G (vs.set g v') (fun j => if j = g then f g ++ [q] else f j) ∧ w'.grownBy (w'.setCell ⟨G, g, none⟩ v') (some G) := by
  have hgl : g < vs.length := by rw [h.len]; exact hg
  have nG : ∀ j (hj : j < vs.length), some G ≠ vs[j].ownBlock := fun j hj e => by
    have := (World.ownsRow.lt (h.row j hj) G e.symm).1
    have := h.lt
    omega
  have lG : G < w.heap.size := h.own.lt
  have o1 : Own w' G 75 32 vs := h.own.grown hgr (fun e => nG g hgl e)
  have p := o1.put g v'
  have lv : ∀ b, v'.ownBlock = some b → n0 ≤ b ∧ b < w'.heap.size := fun b hb => World.ownsRow.lt hown b hb
  refine ⟨⟨p.1, by rw [List.length_set, h.len], fun j hj => ?_, fun j hj k hk hne b hb => ?_, h.lt⟩, p.2⟩
  · rw [List.length_set] at hj
    by_cases e : j = g
    · subst e
      rw [if_pos rfl, List.getElem_set_self]
      have : OC w' n0 v' (f j ++ [q]) := by
        unfold OC
        rw [List.length_append, List.flatMap_append]
        simpa using hown
      exact own_grown this p.2 fun b hb e => by have := (lv b hb).1; have := h.lt; cases e; omega
    · rw [if_neg e, List.getElem_set_ne (fun e' => e e'.symm)]
      have r1 : OC w' n0 vs[j] (f j) := own_grown (h.row j hj) hgr fun b hb e' => h.sep j hj g hgl e b hb (by rw [← e'])
      exact own_grown r1 p.2 fun b hb e' => nG j hj (by rw [hb, e'])
  · have hj' : j < vs.length := by rw [List.length_set] at hj; exact hj
    have hk' : k < vs.length := by rw [List.length_set] at hk; exact hk
    by_cases e : j = g
    · subst e
      rw [List.getElem_set_self] at hb
      rw [List.getElem_set_ne hne]
      rcases hat with e' | e'
      · exact h.sep j hj' k hk' hne b (by rw [← e']; exact hb)
      · intro e2
        have := (World.ownsRow.lt (h.row k hk') b e2).2
        rw [e'] at hb
        have := Option.some.inj hb
        omega
    · rw [List.getElem_set_ne (fun e' => e e'.symm)] at hb
      by_cases e2 : k = g
      · subst e2
        rw [List.getElem_set_self]
        rcases hat with e' | e'
        · rw [e']; exact h.sep j hj' k hk' hne b hb
        · rw [e']
          intro e3
          have := (World.ownsRow.lt (h.row j hj') b hb).2
          have := Option.some.inj e3
          omega
      · rw [List.getElem_set_ne (fun e' => e2 e'.symm)]
        exact h.sep j hj' k hk' hne b hb
end Go.Proofs.YtobhccmnlmlapaaGreatDoor
