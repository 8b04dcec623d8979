import Derived.Test.YtmeeoamcelkhmaaGreatDoorTbQ
namespace Go.Proofs.YtmeeoamcelkhmaaGreatDoor
open Go.RowKit Go.Maps
set_option linter.unusedVariables false
set_option linter.unusedSimpArgs false
set_option maxRecDepth 100000

/-- Rows that one may write over: the blocks from B up to H. -/
structure Wr (w : World) (B H : Nat) (v : Value) (qs : List Q) : Prop where
  own : ∃ xs, w.ownsRow B 34 2 v qs.length xs ∧ ∀ i (hi : i < qs.length), xs[i * 2 + 1]? = some (.slice qs[i].a qs[i].r.vs.length qs[i].c)
  mine : ∀ q ∈ qs, ∃ xs, w.ownsRow B 43 3 (.slice q.a q.r.vs.length q.c) q.r.vs.length xs
  apart : ∀ q ∈ qs, ∀ y, q.a = some y → some y.block ≠ v.ownBlock ∧ y.block < H
  hi : ∀ g, v.ownBlock = some g → g < H
theorem Wr.of {w : World} {B : Nat} {v : Value} {qs : List Q} (h : w.ownsRow B 34 2 v qs.length (qs.flatMap cellsR)) (hm : ∀ q ∈ qs, OV w B (.slice q.a q.r.vs.length q.c) q.r.vs) (ha : ∀ q ∈ qs, ∀ y, q.a = some y → some y.block ≠ v.ownBlock) : Wr w B w.heap.size v qs :=
  ⟨⟨_, h, fun i hi => by rw [flat_at cellsR 2 (fun _ => rfl) qs i 1 hi (by decide)]; rfl⟩, fun q hq => ⟨_, hm q hq⟩, fun q hq y hy => ⟨ha q hq y hy, (World.ownsRow.lt (hm q hq) y.block (by rw [hy]; rfl)).2⟩, fun g hg => (World.ownsRow.lt h g hg).2⟩
theorem Wr.later {w w' : World} {B H : Nat} {v : Value} {qs : List Q} (h : Wr w B H v qs) (hb : Below w.heap.size w w') : Wr w' B H v qs := by
  obtain ⟨xs, h1, h2⟩ := h.own
  exact ⟨⟨xs, own_later h1 hb, h2⟩, fun q hq => by obtain ⟨ys, h3⟩ := h.mine q hq; exact ⟨ys, own_later h3 hb⟩, h.apart, h.hi⟩
theorem Wr.kept {S : Nat → Prop} {w w' : World} {B H : Nat} {v : Value} {qs : List Q} (h : Wr w B H v qs) (hg : Gs S w w') (hS : ∀ i, B ≤ i → i < H → ¬ S i) : Wr w' B H v qs := by
  obtain ⟨xs, h1, h2⟩ := h.own
  refine ⟨⟨xs, hg.own h1 fun g q => hS g (World.ownsRow.lt h1 g q).1 (h.hi g q), h2⟩, fun q hq => ?_, h.apart, h.hi⟩
  obtain ⟨ys, h3⟩ := h.mine q hq
  refine ⟨ys, hg.own h3 fun g e => ?_⟩
  have hb := (World.ownsRow.lt h3 g e).1
  cases hqa : q.a with
  | none => rw [hqa] at e; cases e
  | some y =>
    rw [hqa] at e
    have ey : y.block = g := Option.some.inj e
    exact ey ▸ hS y.block (ey ▸ hb) (h.apart q hq y hqa).2
/-- What is seen of a row of them. -/
theorem Wr.row {w : World} {B H : Nat} {a : Option Addr} {n c : Nat} {qs : List Q} (h : Wr w B H (.slice a n c) qs) (i : Nat) (hi : i < qs.length) : ∃ g, a = some ⟨g, 0, none⟩ ∧ B ≤ g ∧ g < H ∧ (∃ u, w.cell? ⟨g, i * 2, none⟩ = some u) ∧ w.cell? ⟨g, i * 2 + 1, none⟩ = some (.slice qs[i].a qs[i].r.vs.length qs[i].c) ∧ w.frozen? ⟨g, i * 2, none⟩ = false := by
  obtain ⟨xs, h1, h2⟩ := h.own
  obtain ⟨g, cap, e, -, -⟩ := World.ownsRow.form h1 (by omega)
  injection e with e1 e2 e3
  subst e1
  have hl := h1.1
  have lt := World.ownsRow.lt h1 g rfl
  subst e2
  refine ⟨g, rfl, lt.1, h.hi g rfl, ⟨xs[i * 2]'(by omega), ?_⟩, ?_, World.ownsRow.frozenAt h1 _⟩
  · rw [World.ownsRow.cellAt h1 (i * 2) (by omega), List.getElem?_eq_getElem (by omega)]
  · rw [World.ownsRow.cellAt h1 (i * 2 + 1) (by omega), h2 i hi]
theorem Wr.val {w : World} {B H : Nat} {v : Value} {qs : List Q} (h : Wr w B H v qs) {q : Q} (hq : q ∈ qs) (j : Nat) (hj : j < q.r.vs.length) : ∃ g, q.a = some ⟨g, 0, none⟩ ∧ B ≤ g ∧ g < H ∧ ∀ k, k < 3 → (∃ u, w.cell? ⟨g, j * 3 + k, none⟩ = some u) ∧ w.frozen? ⟨g, j * 3 + k, none⟩ = false := by
  obtain ⟨xs, h1⟩ := h.mine q hq
  obtain ⟨g, cap, e, -, -⟩ := World.ownsRow.form h1 (by omega)
  injection e with e1 e2 e3
  have lt := World.ownsRow.lt h1 g (by rw [e1]; rfl)
  rw [e1] at h1
  have hl := h1.1
  refine ⟨g, e1, lt.1, (h.apart q hq _ e1).2, fun k hk => ⟨⟨xs[j * 3 + k]'(by omega), ?_⟩, World.ownsRow.frozenAt h1 _⟩⟩
  rw [World.ownsRow.cellAt h1 (j * 3 + k) (by omega), List.getElem?_eq_getElem (by omega)]
theorem Wr.put {w : World} {B H g : Nat} {v : Value} {qs : List Q} (h : Wr w B H v qs) {q : Q} (hq : q ∈ qs) (hqa : q.a = some ⟨g, 0, none⟩) (j : Nat) (u : Value) : Wr (w.setCell ⟨g, j, none⟩ u) B H v qs := by
  obtain ⟨xs, h1, h2⟩ := h.own
  have hgv := (h.apart q hq _ hqa).1
  refine ⟨⟨xs, own_grown h1 (grown_set w ⟨g, j, none⟩ u) fun k hk e => hgv (by rw [hk]; exact e.symm), h2⟩, fun q' hq' => ?_, h.apart, h.hi⟩
  obtain ⟨ys, h3⟩ := h.mine q' hq'
  by_cases e : (Value.slice q'.a q'.r.vs.length q'.c).ownBlock = some g
  · have hpos : q'.a = some ⟨g, 0, none⟩ := by
      rcases h3.2 with ⟨h4, -⟩ | ⟨g', c', cur, h4, -⟩
      · rw [h4] at e; cases e
      · injection h4 with h5
        rw [h5] at e ⊢
        have : g' = g := Option.some.inj e
        rw [this]
    rw [hpos] at h3 ⊢
    exact ⟨_, (World.ownsRow.stored h3 j u).1⟩
  · exact ⟨ys, own_grown h3 (grown_set w ⟨g, j, none⟩ u) fun k hk e' => e (by rw [hk]; exact e')⟩
theorem Wr.time {w : World} {B H g n c : Nat} {qs : List Q} (h : Wr w B H (.slice (some ⟨g, 0, none⟩) n c) qs) (hn : n = qs.length) (i : Nat) (u : Value) : Wr (w.setCell ⟨g, i * 2, none⟩ u) B H (.slice (some ⟨g, 0, none⟩) n c) qs := by
  obtain ⟨xs, h1, h2⟩ := h.own
  subst hn
  have hst := World.ownsRow.stored h1 (i * 2) u
  refine ⟨⟨_, hst.1, fun i' hi' => ?_⟩, fun q hq => ?_, h.apart, h.hi⟩
  · rw [List.getElem?_set_ne (by omega)]; exact h2 i' hi'
  · obtain ⟨ys, h3⟩ := h.mine q hq
    refine ⟨ys, own_grown h3 hst.2 fun k hk e => ?_⟩
    cases hqa : q.a with
    | none => rw [hqa] at hk; cases hk
    | some y =>
      rw [hqa] at hk
      have hk' : y.block = k := Option.some.inj hk
      exact (h.apart q hq y hqa).1 (by rw [hk']; exact e)
theorem Gs.set {S : Nat → Prop} {w w1 : World} (h : Gs S w w1) (g j : Nat) (u : Value) (hS : S g) : Gs S w (w1.setCell ⟨g, j, none⟩ u) := h.trans (Gs.one (grown_set w1 ⟨g, j, none⟩ u) fun k hk => (Option.some.inj hk) ▸ hS)
end Go.Proofs.YtmeeoamcelkhmaaGreatDoor
