import Derived.Test.YtafighjlciglpaaDoorWrtD
namespace Go.Proofs.YtafighjlciglpaaDoor
open Go.RowKit
set_option linter.unusedVariables false
set_option maxRecDepth 100000

theorem OL.grown {w w' : World} {B : Nat} {v : Value} {l : List UInt8} {r : Option Nat} (h : OL w B v l) (hg : w.grownBy w' r) (hne : ∀ g, v.ownBlock = some g → some g ≠ r) : OL w' B v l := by
  refine ⟨h.1, ?_⟩
  rcases h.2 with h2 | ⟨g, cap, cur, h1, h2, h3, h4⟩
  · exact .inl h2
  · refine .inr ⟨g, cap, cur, h1, h2, ?_, h4⟩
    have hlt : g < w.heap.size := by
      rcases Nat.lt_or_ge g w.heap.size with h | h
      · exact h
      · rw [Array.getElem?_eq_none h] at h3; cases h3
    rw [hg.block g hlt (hne g (by rw [h1]; rfl))]; exact h3

/-- 'append(b, more...)': both rows are one's own. -/
theorem wpList_append_ol {w : World} {ops : Array Oper} {rest : List Oper} {o : Oper} {a : Act} {Q : Exit → Act → World → Prop} (hgd : o.guard = none) (s x : Operand)
    (ho : o.op = .call { callee := .builtin .append, args := #[s, x], argTypes := #[22, 22] })
    (B : Nat) (v : Value) (l : List UInt8) (hs : a.eval s = v) (hown : OL w B v l) (B2 : Nat) (v2 : Value) (E : List UInt8) (hx : a.eval x = v2) (h2 : OL w B2 v2 E) (hE : 0 < E.length)
    (hlen : l.length + E.length ≤ 140737488355328) (hbase : B ≤ w.heap.size)
    (h : ∀ v' w', OL w' B v' (l ++ E) → w.grownBy w' v.ownBlock → (v'.ownBlock = v.ownBlock ∨ v'.ownBlock = some w.heap.size) → wpList Tryd.prog ops Q rest (a.put o.dst v') w') : wpList Tryd.prog ops Q (o :: rest) a w := by
  obtain ⟨i0, hi0, hz0, hz1, hz2⟩ := info_parts info5
  obtain ⟨g5, cap5, hv2, hg5, hlt5⟩ := World.ownsRow.form h2 hE
  rw [hv2] at hx h2
  refine wpList_append_own_at _ hgd s x 22 ho B 5 i0 (.int .u8 0) 1 1 Tryd.underlying22 hi0 hz0 hz1 hz2 rfl (by decide) v l.length (l.map u8v) hs hown ⟨g5, 0, none⟩ E.length cap5 (E.map u8v) hx (by simp) ?_ ?_ (by unfold maxLen; omega) (by omega) hbase ?_
  · intro j u hj
    have hj' : j < E.length * 1 := by
      have := (List.getElem?_eq_some_iff.1 hj).1
      rw [List.length_map] at this
      omega
    rw [WideShapes.add_plain, Nat.zero_add, World.ownsRow.cellAt h2 j hj']
    exact hj
  · intro u hu; obtain ⟨z, _, rfl⟩ := List.mem_map.1 hu; rfl
  · intro v' w' h3 h4 _ h5
    refine h v' w' ?_ h4 h5
    unfold OL
    rw [List.length_append, List.map_append]
    exact h3

theorem encVal_pos (x : V) : 0 < (encVal x).length := by unfold encVal; simp

end Go.Proofs.YtafighjlciglpaaDoor
