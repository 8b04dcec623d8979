import Derived.Test.YtakbnhknkbmhlaaSrtG
namespace Go.Proofs.Ytakbnhknkbmhlaa
open Go.RowKit
set_option linter.unusedVariables false
set_option maxRecDepth 100000

/-- One value is laid anew. -/
theorem OV.set {w : World} {B g n c : Nat} {vs : List V} (h : OV w B (.slice (some ⟨g, 0, none⟩) n c) vs) (hn : n = vs.length) (m : Nat) (hm : m < vs.length) (v : V) :
    OV (((w.setCell ⟨g, m * 3, none⟩ (.int .i64 v.k)).setCell ⟨g, m * 3 + 1, none⟩ (.int .i64 v.n)).setCell ⟨g, m * 3 + 2, none⟩ (.string v.s)) B (.slice (some ⟨g, 0, none⟩) n c) (vs.set m v) ∧
    w.grownBy (((w.setCell ⟨g, m * 3, none⟩ (.int .i64 v.k)).setCell ⟨g, m * 3 + 1, none⟩ (.int .i64 v.n)).setCell ⟨g, m * 3 + 2, none⟩ (.string v.s)) (some g) := by
  subst hn
  obtain ⟨h1, g1⟩ := World.ownsRow.stored h (m * 3) (.int .i64 v.k)
  obtain ⟨h2, g2⟩ := World.ownsRow.stored h1 (m * 3 + 1) (.int .i64 v.n)
  obtain ⟨h3, g3⟩ := World.ownsRow.stored h2 (m * 3 + 2) (.string v.s)
  refine ⟨?_, grown_trans (grown_trans g1 g2) g3⟩
  unfold OV
  rw [List.length_set, flatV_set _ _ _ hm]
  exact h3
theorem OV.cells {w : World} {B g n c : Nat} {vs : List V} (h : OV w B (.slice (some ⟨g, 0, none⟩) n c) vs) (hn : n = vs.length) (i : Nat) (hi : i < vs.length) :
    w.cell? ⟨g, i * 3, none⟩ = some (.int .i64 vs[i].k) ∧ w.cell? ⟨g, i * 3 + 1, none⟩ = some (.int .i64 vs[i].n) ∧ w.cell? ⟨g, i * 3 + 2, none⟩ = some (.string vs[i].s) := by
  subst hn
  have key : ∀ j, j < 3 → w.cell? ⟨g, i * 3 + j, none⟩ = (cellsV vs[i])[j]? := fun j hj => by
    rw [World.ownsRow.cellAt h (i * 3 + j) (by omega), flat_at cellsV 3 (fun _ => rfl) vs i j hi hj]
  exact ⟨key 0 (by decide), key 1 (by decide), key 2 (by decide)⟩
theorem OV.soft {w : World} {B g n c : Nat} {vs : List V} (h : OV w B (.slice (some ⟨g, 0, none⟩) n c) vs) (hn : n = vs.length) (j : Nat) : w.frozen? ⟨g, j, none⟩ = false := by
  subst hn
  exact World.ownsRow.frozenAt h j
theorem OV.at {w : World} {B n c : Nat} {a : Option Addr} {vs : List V} (h : OV w B (.slice a n c) vs) : (a = none ∧ vs = []) ∨ ∃ g, a = some ⟨g, 0, none⟩ ∧ B ≤ g ∧ g < w.heap.size := by
  rcases h.2 with ⟨h1, h2⟩ | ⟨g, cap, cur, h1, h2, h3, -⟩
  · cases h1; exact .inl ⟨rfl, List.eq_nil_of_length_eq_zero h2⟩
  · cases h1
    refine .inr ⟨g, rfl, h2, ?_⟩
    rcases Nat.lt_or_ge g w.heap.size with h | h
    · exact h
    · rw [Array.getElem?_eq_none h] at h3; cases h3
/-- The first values of a longer row. -/
theorem VLies.of_own {w : World} {B g n : Nat} {v : Value} {vs : List V} {ex : List Value} (h : w.ownsRow B 26 3 v n (vs.flatMap cellsV ++ ex)) (hv : v.ownBlock = some g) : VLies w (some ⟨g, 0, none⟩) vs := fun i hi => by
  have hc := h.cells hv
  have key : ∀ j, j < 3 → ∀ u, (cellsV vs[i])[j]? = some u → w.cell? ⟨g, i * 3 + j, none⟩ = some u := fun j hj u hu => by
    have := hc (i * 3 + j) u (by
      rw [List.getElem?_append_left (by rw [len_cellsV]; omega), flat_at cellsV 3 (fun _ => rfl) vs i j hi hj]; exact hu)
    rw [WideShapes.add_plain, Nat.zero_add] at this
    exact this
  exact ⟨g, 0, rfl, by rw [Nat.zero_add]; exact key 0 (by decide) _ rfl, by rw [Nat.zero_add]; exact key 1 (by decide) _ rfl, by rw [Nat.zero_add]; exact key 2 (by decide) _ rfl⟩

/-- The rows while they are written over: those ahead of 'i' bear their marks. -/
structure Ph (w : World) (B O : Nat) (qs : List Q) (i : Nat) (f : Nat → List V) : Prop where
  own : w.ownsRow B 30 2 (.slice (some ⟨O, 0, none⟩) qs.length qs.length) qs.length (qs.flatMap cellsR)
  len : ∀ j (hj : j < qs.length), (f j).length = qs[j].r.vs.length
  lies : ∀ j (hj : j < qs.length), VLies w qs[j].a (f j)
  done : ∀ j, j < i → ∀ v ∈ f j, v.n = (j : Int)
  mine : ∀ j (hj : j < qs.length), i ≤ j → OV w B (.slice qs[j].a qs[j].r.vs.length qs[j].c) (f j)
theorem Ph.row {w : World} {B O i : Nat} {qs : List Q} {f : Nat → List V} (h : Ph w B O qs i f) (j : Nat) (hj : j < qs.length) : w.cell? ⟨O, j * 2 + 1, none⟩ = some (.slice qs[j].a qs[j].r.vs.length qs[j].c) := by
  rw [World.ownsRow.cellAt h.own (j * 2 + 1) (by omega), flat_at cellsR 2 (fun _ => rfl) qs j 1 hj (by decide)]; rfl
theorem Ph.start {w w' : World} {B O : Nat} {qs : List Q} (h : Done w B O qs) (hb : Below w.heap.size w w') : Ph w' B O qs 0 (fun j => (qs.getD j zq).r.vs) where
  own := own_later h.own hb
  len j hj := by simp [hj]
  lies j hj := by
    have hm := List.getElem_mem hj
    obtain ⟨a, c, e, hv, -⟩ := (h.mine _ hm).form
    cases e
    have := hv.later hb
    simpa [hj] using this
  done j hj := by omega
  mine j hj _ := by
    have := (h.mine _ (List.getElem_mem hj)).later hb
    simpa [hj] using this
/-- Where nothing of the rows lies, something was laid. -/
theorem Ph.grown {w w' : World} {B O i : Nat} {qs : List Q} {f : Nat → List V} {r : Option Nat} (h : Ph w B O qs i f) (hg : w.grownBy w' r) (hO : r ≠ some O) (hne : ∀ j (hj : j < qs.length), j + 1 ≠ i → ∀ y, qs[j].a = some y → r ≠ some y.block) (hi : ∀ j (hj : j < qs.length), j + 1 = i → VLies w' qs[j].a (f j)) : Ph w' B O qs i f where
  own := own_grown h.own hg fun k hk e => by cases hk; exact hO e.symm
  len := h.len
  lies j hj := by
    by_cases e : j + 1 = i
    · exact hi j hj e
    · exact (h.lies j hj).grown hg fun y hy e' => hne j hj e y hy e'.symm
  done := h.done
  mine j hj hij := by
    refine own_grown (h.mine j hj hij) hg fun k hk e => ?_
    cases ha : qs[j].a with
    | none => rw [ha] at hk; simp [Value.ownBlock] at hk
    | some y => rw [ha] at hk; simp only [Value.ownBlock] at hk; exact hne j hj (by omega) y ha (by rw [← e, hk])
/-- The values of row 'i' are laid anew. -/
theorem Ph.put {w w' : World} {B O i g : Nat} {qs : List Q} {f : Nat → List V} {vs : List V} (h : Ph w B O qs i f) (hi : i < qs.length) (hg : w.grownBy w' (some g)) (hO : g ≠ O) (hne : ∀ j (hj : j < qs.length), j ≠ i → ∀ y, qs[j].a = some y → y.block ≠ g) (hm : OV w' B (.slice qs[i].a qs[i].r.vs.length qs[i].c) vs) (hl : vs.length = qs[i].r.vs.length) :
    Ph w' B O qs i (fun j => if j = i then vs else f j) where
  own := own_grown h.own hg fun k hk e => by cases hk; exact hO (Option.some.inj e).symm
  len j hj := by
    by_cases e : j = i
    · subst e; rw [if_pos rfl]; exact hl
    · rw [if_neg e]; exact h.len j hj
  lies j hj := by
    by_cases e : j = i
    · subst e
      rw [if_pos rfl]
      obtain ⟨a, c, e, hv, -⟩ := hm.form
      simp only [Value.slice.injEq] at e
      rw [e.1]
      exact hv
    · rw [if_neg e]; exact (h.lies j hj).grown hg fun y hy e' => hne j hj e y hy (Option.some.inj e')
  done j hj := by rw [if_neg (by omega)]; exact h.done j hj
  mine j hj hij := by
    by_cases e : j = i
    · subst e; rw [if_pos rfl]; exact hm
    · rw [if_neg e]
      refine own_grown (h.mine j hj hij) hg fun k hk e' => ?_
      cases ha : qs[j].a with
      | none => rw [ha] at hk; simp [Value.ownBlock] at hk
      | some y => rw [ha] at hk; simp only [Value.ownBlock] at hk; exact hne j hj e y ha (by rw [← Option.some.inj e']; exact Option.some.inj hk)
theorem Ph.next {w : World} {B O i : Nat} {qs : List Q} {f : Nat → List V} (h : Ph w B O qs i f) (hd : ∀ v ∈ f i, v.n = (i : Int)) : Ph w B O qs (i + 1) f where
  own := h.own
  len := h.len
  lies := h.lies
  done j hj := by
    by_cases e : j = i
    · subst e; exact hd
    · exact h.done j (by omega)
  mine j hj hij := h.mine j hj (by omega)
end Go.Proofs.Ytakbnhknkbmhlaa
