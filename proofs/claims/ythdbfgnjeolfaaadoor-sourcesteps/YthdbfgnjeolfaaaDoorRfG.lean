import Derived.Test.YthdbfgnjeolfaaaDoorRfF
namespace Go.Proofs.YthdbfgnjeolfaaaDoor
open Go.RowKit
set_option linter.unusedVariables false
set_option linter.unusedSimpArgs false
set_option maxRecDepth 100000
set_option maxHeartbeats 4000000

theorem cell_set_some {w : World} {p q : Addr} {x v : Value} (h : w.cell? q = some v) : ∃ v', (w.setCell p x).cell? q = some v' := by
  by_cases e : p = q
  · subst e; exact ⟨x, World.cell?_setCell_same w p x h⟩
  · exact ⟨v, (World.cell?_setCell_other w p q x e).trans h⟩
theorem soft_set (w : World) (p q : Addr) (x : Value) : (w.setCell p x).frozen? q = w.frozen? q := by simp

/-- From a block on memory is as it was. -/
def Up (S : Nat) (w w' : World) : Prop := w'.heap.size = w.heap.size ∧ ∀ i, S ≤ i → w'.heap[i]? = w.heap[i]?
theorem Up.refl (S : Nat) (w : World) : Up S w w := ⟨rfl, fun _ _ => rfl⟩
theorem Up.set {S : Nat} {w w' : World} (h : Up S w w') (p : Addr) (x : Value) (hp : p.block < S) : Up S w (w'.setCell p x) := by
  refine ⟨by rw [World.size_setCell]; exact h.1, fun i hi => ?_⟩
  rw [heap_setCell_other w' p i x (by omega)]
  exact h.2 i hi
theorem Up.own {S : Nat} {w w' : World} (h : Up S w w') {B e size n : Nat} {v : Value} {xs : List Value} (ho : w.ownsRow B e size v n xs) (hB : S ≤ B) : w'.ownsRow B e size v n xs := by
  refine ⟨ho.1, ?_⟩
  rcases ho.2 with h2 | ⟨g, cap, cur, h1, h2, h3, h4⟩
  · exact .inl h2
  · exact .inr ⟨g, cap, cur, h1, h2, by rw [h.2 g (by omega)]; exact h3, h4⟩
theorem Up.cell {S : Nat} {w w' : World} (h : Up S w w') {a : Addr} {v : Value} (hc : w.cell? a = some v) (ha : S ≤ a.block) : w'.cell? a = some v := by
  simp only [World.cell?] at hc ⊢
  rw [h.2 _ ha]; exact hc
theorem Up.orow {S : Nat} {w w' : World} (h : Up S w w') {B : Nat} {x : Value} {qs : List Q} (ho : OR w B x qs) (hB : S ≤ B) : OR w' B x qs :=
  ⟨h.own ho.own hB, fun q hq i hi => by
    obtain ⟨b, off, e, h1, h2, h3⟩ := ho.lies q hq i hi
    have := (ho.apart q hq _ e).1
    exact ⟨b, off, e, h.cell h1 (by simp only at this ⊢; omega), h.cell h2 (by simp only at this ⊢; omega), h.cell h3 (by simp only at this ⊢; omega)⟩,
   fun q hq y hy => ⟨(ho.apart q hq y hy).1, by rw [h.1]; exact (ho.apart q hq y hy).2.1, (ho.apart q hq y hy).2.2⟩⟩

/-- Rows that can be written over. -/
structure Sh (w : World) (B S g : Nat) (qs : List Q) : Prop where
  lo : B ≤ g
  lt : g < S
  row : ∀ i q, qs[i]? = some q → (∃ u, w.cell? ⟨g, i * 2, none⟩ = some u) ∧ w.cell? ⟨g, i * 2 + 1, none⟩ = some (.slice q.a q.r.vs.length q.c) ∧ w.frozen? ⟨g, i * 2, none⟩ = false
  val : ∀ q ∈ qs, ∀ m, m < q.r.vs.length → ∃ y, q.a = some ⟨y, 0, none⟩ ∧ B ≤ y ∧ y < S ∧ y ≠ g ∧ ∀ j, j < 3 → (∃ u, w.cell? ⟨y, m * 3 + j, none⟩ = some u) ∧ w.frozen? ⟨y, m * 3 + j, none⟩ = false
theorem Sh.set {w : World} {B S g : Nat} {qs : List Q} (h : Sh w B S g qs) (p : Addr) (x : Value) (hp : p.block = g → ∃ i, p = ⟨g, i * 2, none⟩) : Sh (w.setCell p x) B S g qs := by
  refine ⟨h.lo, h.lt, fun i q hq => ?_, fun q hq m hm => ?_⟩
  · obtain ⟨⟨u, h1⟩, h2, h3⟩ := h.row i q hq
    refine ⟨cell_set_some h1, ?_, by rw [soft_set]; exact h3⟩
    by_cases hb : p.block = g
    · obtain ⟨j, rfl⟩ := hp hb
      rw [World.cell?_setCell_other _ _ _ _ (by intro e; have := congrArg Addr.off e; simp only at this; omega)]
      exact h2
    · rw [World.cell?_setCell_far _ _ _ _ hb]; exact h2
  · obtain ⟨y, e, h0, h1, h2, h3⟩ := h.val q hq m hm
    refine ⟨y, e, h0, h1, h2, fun j hj => ?_⟩
    obtain ⟨⟨u, k1⟩, k2⟩ := h3 j hj
    exact ⟨cell_set_some k1, by rw [soft_set]; exact k2⟩
theorem OW.sh {w : World} {B S g n c : Nat} {qs : List Q} (h : OW w B (.slice (some ⟨g, 0, none⟩) n c) qs) (hS : w.heap.size ≤ S) : Sh w B S g qs := by
  have hlt : g < w.heap.size := (World.ownsRow.lt h.rows.own g rfl).2
  refine ⟨(World.ownsRow.lt h.rows.own g rfl).1, by omega, fun i q hq => ?_, fun q hq m hm => ?_⟩
  · obtain ⟨b, e, h1, h2, -⟩ := h.rows.rowAt hq
    cases e
    refine ⟨⟨_, h1⟩, h2, ?_⟩
    have ho := h.rows.own
    rcases ho.2 with ⟨hh, -⟩ | ⟨g2, c3, cur2, hh, -, hh3, -⟩
    · simp at hh
    · simp only [Value.slice.injEq, Option.some.injEq, Addr.mk.injEq, and_true] at hh
      obtain ⟨rfl, -⟩ := hh
      simp [World.frozen?, hh3]
  · have hov := h.vals q hq
    rcases hov.2 with ⟨-, hh⟩ | ⟨y, c3, cur2, hh, hh2, hh3, hh4, -, hh6, -⟩
    · omega
    · simp only [Value.slice.injEq] at hh
      refine ⟨y, hh.1, hh2, ?_, ?_, fun j hj => ⟨?_, by simp [World.frozen?, hh3]⟩⟩
      · have := (Array.getElem?_eq_some_iff.1 hh3).1; omega
      · intro e
        exact (h.rows.apart q hq _ hh.1).2.2 (by simp [Value.ownBlock, e])
      · have hlt2 : m * 3 + j < cur2.size := by
          rw [hh6]
          have : (m + 1) * 3 ≤ c3 * 3 := Nat.mul_le_mul_right _ (by omega)
          omega
        exact ⟨cur2[m * 3 + j], by simp [World.cell?, hh3, hlt2]⟩
theorem Sh.later {w w' : World} {B S g : Nat} {qs : List Q} (h : Sh w B S g qs) (hb : Below w.heap.size w w') : Sh w' B S g qs := by
  refine ⟨h.lo, h.lt, fun i q hq => ?_, fun q hq m hm => ?_⟩
  · obtain ⟨⟨u, h1⟩, h2, h3⟩ := h.row i q hq
    exact ⟨⟨u, cell_later hb h1⟩, cell_later hb h2, soft_later hb h1 h3⟩
  · obtain ⟨y, e, h0, h1, h2, h3⟩ := h.val q hq m hm
    refine ⟨y, e, h0, h1, h2, fun j hj => ?_⟩
    obtain ⟨⟨u, k1⟩, k2⟩ := h3 j hj
    exact ⟨⟨u, cell_later hb k1⟩, soft_later hb k1 k2⟩
theorem at_any (w : World) (g : Nat) (x : Value) (bd at_ tm lt : Int) (h : Rdr w g x bd at_ tm lt) :
    Calls Tryd.prog 12 #[.pointer (some ⟨g, 0, none⟩)] w fun e w' => e = .returned (.int .i64 at_) ∧ w' = w := by
  obtain ⟨c0, c1, c2, c3, c4⟩ := h.cells
  clear h
  go_enter Tryd.func12, Tryd.ntmps12
  go_wp2
  go_ret
  exact ⟨rfl, rfl⟩
theorem tm_any (w : World) (g : Nat) (x : Value) (bd at_ tm lt : Int) (h : Rdr w g x bd at_ tm lt) :
    Calls Tryd.prog 13 #[.pointer (some ⟨g, 0, none⟩)] w fun e w' => e = .returned (.int .i64 tm) ∧ w' = w := by
  obtain ⟨c0, c1, c2, c3, c4⟩ := h.cells
  clear h
  go_enter Tryd.func13, Tryd.ntmps13
  go_wp2
  go_ret
  exact ⟨rfl, rfl⟩
/-- Both readers, the same. -/
def Both (w : World) (g g2 : Nat) (ax a : Option Addr) (cx c : Nat) (qs : List Q) (rs : List Rw) (bd : Int) (k : Nat) : Prop :=
  k ≤ rs.length + 1 ∧ Rdr w g (.slice ax rs.length cx) bd (k : Int) (timeR rs bd k) (lostR rs bd k) ∧ OR w (g + 1) (.slice ax rs.length cx) qs ∧ Rdf w g2 (.slice a rs.length c) bd (k : Int)
theorem Both.later {w w' : World} {g g2 : Nat} {ax a : Option Addr} {cx c : Nat} {qs : List Q} {rs : List Rw} {bd : Int} {k : Nat} (h : Both w g g2 ax a cx c qs rs bd k) (hb : Below w.heap.size w w') : Both w' g g2 ax a cx c qs rs bd k :=
  ⟨h.1, Own.later h.2.1 hb, h.2.2.1.later hb, Own.later h.2.2.2 hb⟩
theorem Both.up {S : Nat} {w w' : World} {g g2 : Nat} {ax a : Option Addr} {cx c : Nat} {qs : List Q} {rs : List Rw} {bd : Int} {k : Nat} (h : Both w g g2 ax a cx c qs rs bd k) (hu : Up S w w') (hg : S ≤ g) (hg2 : S ≤ g2) : Both w' g g2 ax a cx c qs rs bd k :=
  ⟨h.1, hu.own h.2.1 hg, hu.orow h.2.2.1 (by omega), hu.own h.2.2.2 hg2⟩
end Go.Proofs.YthdbfgnjeolfaaaDoor
