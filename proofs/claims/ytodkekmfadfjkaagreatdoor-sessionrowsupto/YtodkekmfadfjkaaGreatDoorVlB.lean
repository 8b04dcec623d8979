import Derived.Test.YtodkekmfadfjkaaGreatDoorVlA
import Derived.Laws.CopyOwn
import Derived.WideShapes
import Derived.Laws.AppendOwnNone
import Derived.Maps.AppendAt
import Derived.Deep.AppendLies
import Derived.Lib.SliceRun
namespace Go.Proofs.YtodkekmfadfjkaaGreatDoor
open Go.RowKit
set_option linter.unusedVariables false
set_option linter.unusedSimpArgs false
set_option maxRecDepth 100000

/-- Rows lie in memory where the slice 'a' begins. -/
def RLies (w : World) (a : Option Addr) (rs : List Rw) : Prop :=
  ∀ i (hi : i < rs.length), ∃ b off av cv, a = some ⟨b, off, none⟩ ∧ w.cell? ⟨b, off + i * 2, none⟩ = some (.int .i64 rs[i].t) ∧ w.cell? ⟨b, off + i * 2 + 1, none⟩ = some (.slice av rs[i].vs.length cv) ∧ VLies w av rs[i].vs
theorem RLies.later {w wx : World} {a : Option Addr} {rs : List Rw} (h : RLies w a rs) (hb : Below w.heap.size w wx) : RLies wx a rs := fun i hi => by
  obtain ⟨b, off, av, cv, e, h1, h2, h3⟩ := h i hi
  exact ⟨b, off, av, cv, e, cell_later hb h1, cell_later hb h2, h3.later hb⟩
theorem own_later {w w' : World} {B e size n : Nat} {v : Value} {xs : List Value} (h : w.ownsRow B e size v n xs) (hb : Below w.heap.size w w') : w'.ownsRow B e size v n xs := by
  refine ⟨h.1, ?_⟩
  rcases h.2 with h2 | ⟨g, cap, cur, h1, h2, h3, h4⟩
  · exact .inl h2
  · refine .inr ⟨g, cap, cur, h1, h2, ?_, h4⟩
    have hlt : g < w.heap.size := by
      rcases Nat.lt_or_ge g w.heap.size with h | h
      · exact h
      · rw [Array.getElem?_eq_none h] at h3; cases h3
    rw [hb.block g hlt]; exact h3

theorem own_grown {w w' : World} {B e size n : Nat} {v : Value} {xs : List Value} {r : Option Nat} (h : w.ownsRow B e size v n xs) (hg : w.grownBy w' r) (hne : ∀ g, v.ownBlock = some g → some g ≠ r) : w'.ownsRow B e size v n xs := by
  refine ⟨h.1, ?_⟩
  rcases h.2 with h2 | ⟨g, cap, cur, h1, h2, h3, h4⟩
  · exact .inl h2
  · refine .inr ⟨g, cap, cur, h1, h2, ?_, h4⟩
    have hlt : g < w.heap.size := by
      rcases Nat.lt_or_ge g w.heap.size with h | h
      · exact h
      · rw [Array.getElem?_eq_none h] at h3; cases h3
    rw [hg.block g hlt (hne g (by rw [h1]; rfl))]; exact h3
theorem grown_refl (w : World) (r : Option Nat) : w.grownBy w r := World.grownBy.refl _ _
theorem grown_trans {a b c : World} {r : Option Nat} (h : a.grownBy b r) (k : b.grownBy c r) : a.grownBy c r :=
  ⟨k.os.trans h.os, k.tape.trans h.tape, k.output.trans h.output, Nat.le_trans h.size k.size, fun i hi hr => (k.block i (Nat.lt_of_lt_of_le hi h.size) hr).trans (h.block i hi hr)⟩
theorem grown_below {a b : World} {r : Option Nat} (h : Below a.heap.size a b) : a.grownBy b r :=
  ⟨h.os, h.tape, h.output, h.size, fun i hi _ => h.block i hi⟩

/-- A struct of 'n' cells in a block of one's own. -/
def Own (w : World) (g t n : Nat) (xs : List Value) : Prop := w.ownsRow g t n (.slice (some ⟨g, 0, none⟩) 1 1) 1 xs
theorem Own.grown {w w' : World} {g t n : Nat} {xs : List Value} {r : Option Nat} (h : Own w g t n xs) (hg : w.grownBy w' r) (hne : some g ≠ r) : Own w' g t n xs :=
  own_grown h hg fun k hk => by cases hk; exact hne
theorem Own.later {w w' : World} {g t n : Nat} {xs : List Value} (h : Own w g t n xs) (hb : Below w.heap.size w w') : Own w' g t n xs := own_later h hb
theorem Own.lt {w : World} {g t n : Nat} {xs : List Value} (h : Own w g t n xs) : g < w.heap.size := (World.ownsRow.lt h g rfl).2
theorem Own.cell {w : World} {g t n : Nat} {xs : List Value} (h : Own w g t n xs) (j : Nat) (hj : j < n) : w.cell? ⟨g, j, none⟩ = xs[j]? := World.ownsRow.cellAt h j (by omega)
theorem Own.soft {w : World} {g t n : Nat} {xs : List Value} (h : Own w g t n xs) (j : Nat) : w.frozen? ⟨g, j, none⟩ = false := World.ownsRow.frozenAt h j
theorem Own.put {w : World} {g t n : Nat} {xs : List Value} (h : Own w g t n xs) (j : Nat) (u : Value) : Own (w.setCell ⟨g, j, none⟩ u) g t n (xs.set j u) ∧ w.grownBy (w.setCell ⟨g, j, none⟩ u) (some g) := World.ownsRow.stored h j u
theorem Own.new (w : World) (t n : Nat) (cs : Array Value) (hs : cs.size = n) : Own (w.alloc (.cells cs t)) w.heap.size t n cs.toList :=
  World.ownsRow_lit (base := w.heap.size) (e := t) (size := n) w cs 1 (Nat.le_refl _) (by decide) (by omega)

theorem grown_set (w : World) (a : Addr) (u : Value) : w.grownBy (w.setCell a u) (some a.block) :=
  ⟨rfl, rfl, rfl, by simp, fun k _ hk => heap_setCell_other w a k u (fun e => hk (by simp [e]))⟩
theorem grown_new {a b c : World} {r r' : Option Nat} (h : a.grownBy b r) (k : b.grownBy c r') (hr : ∀ n, r' = some n → a.heap.size ≤ n) : a.grownBy c r :=
  ⟨k.os.trans h.os, k.tape.trans h.tape, k.output.trans h.output, Nat.le_trans h.size k.size, fun i hi hne => (k.block i (Nat.lt_of_lt_of_le hi h.size) (fun e => by have := hr i e.symm; omega)).trans (h.block i hi hne)⟩
theorem size_set (w : World) (a : Addr) (u : Value) : (w.setCell a u).heap.size = w.heap.size := by simp
theorem infoV : (Tryz.prog.info? 39).map (fun i => (i.zero, i.size, i.bytes)) = some (some (.agg #[.int .i64 0, .int .i64 0, .string ⟨#[]⟩]), 3, 32) := by kernel_rfl
theorem infoR : (Tryz.prog.info? 24).map (fun i => (i.zero, i.size, i.bytes)) = some (some (.agg #[.int .i64 0, .slice none 0 0]), 2, 32) := by kernel_rfl
def cellsV (v : V) : List Value := [.int .i64 v.k, .int .i64 v.n, .string v.s]
/-- Values in a row of one's own. -/
def OV (w : World) (B : Nat) (x : Value) (vs : List V) : Prop := w.ownsRow B 39 3 x vs.length (vs.flatMap cellsV)
theorem flat_at {α β : Type} (f : α → List β) (m : Nat) (hf : ∀ a, (f a).length = m) : ∀ (l : List α) (i j : Nat) (hi : i < l.length), j < m → (l.flatMap f)[i * m + j]? = (f l[i])[j]?
  | a :: l, 0, j, _, hj => by
    rw [List.flatMap_cons, Nat.zero_mul, Nat.zero_add, List.getElem?_append_left (by rw [hf]; exact hj)]; rfl
  | a :: l, i + 1, j, hi, hj => by
    have ih := flat_at f m hf l i j (by simpa using hi) hj
    rw [List.flatMap_cons, List.getElem?_append_right (by rw [hf, Nat.add_mul]; omega), hf, show (i + 1) * m + j - m = i * m + j by rw [Nat.add_mul]; omega, ih]
    rfl
theorem OV.form {w : World} {B : Nat} {x : Value} {vs : List V} (h : OV w B x vs) : ∃ a c, x = .slice a vs.length c ∧ VLies w a vs ∧ ∀ y, a = some y → B ≤ y.block ∧ y.block < w.heap.size := by
  rcases h.2 with ⟨h1, h2⟩ | ⟨g, c, cur, h1, h2, h3, -⟩
  · refine ⟨none, 0, by rw [h1, h2], fun i hi => absurd hi (by omega), fun y hy => by cases hy⟩
  · refine ⟨some ⟨g, 0, none⟩, c, h1, fun i hi => ?_, fun y hy => ?_⟩
    · rw [h1] at h
      have key : ∀ j, j < 3 → w.cell? ⟨g, i * 3 + j, none⟩ = (cellsV vs[i])[j]? := fun j hj => by
        rw [World.ownsRow.cellAt h (i * 3 + j) (by omega), flat_at cellsV 3 (fun _ => rfl) vs i j hi hj]
      exact ⟨g, 0, rfl, by rw [Nat.zero_add]; exact key 0 (by decide), by rw [Nat.zero_add]; exact key 1 (by decide), by rw [Nat.zero_add]; exact key 2 (by decide)⟩
    · cases hy
      rcases Nat.lt_or_ge g w.heap.size with h | h
      · exact ⟨h2, h⟩
      · rw [Array.getElem?_eq_none h] at h3; cases h3
theorem OV.grown {w w' : World} {B : Nat} {x : Value} {vs : List V} {r : Option Nat} (h : OV w B x vs) (hg : w.grownBy w' r) (hr : ∀ k, r = some k → k < B) : OV w' B x vs :=
  own_grown h hg fun k hk e => by have h1 := (World.ownsRow.lt h k hk).1; have h2 := hr k e.symm; omega
theorem OV.later {w w' : World} {B : Nat} {x : Value} {vs : List V} (h : OV w B x vs) (hb : Below w.heap.size w w') : OV w' B x vs := own_later h hb
theorem VLies.grown {w w' : World} {a : Option Addr} {vs : List V} {r : Option Nat} (h : VLies w a vs) (hg : w.grownBy w' r) (hne : ∀ x, a = some x → some x.block ≠ r) : VLies w' a vs := fun i hi => by
  obtain ⟨b, off, e, h1, h2, h3⟩ := h i hi
  have hn := hne ⟨b, off, none⟩ e
  exact ⟨b, off, e, hg.cell h1 hn, hg.cell h2 hn, hg.cell h3 hn⟩

/-- A row and where its values lie. -/
structure Q where
  r : Rw
  a : Option Addr
  c : Nat
def cellsR (q : Q) : List Value := [.int .i64 q.r.t, .slice q.a q.r.vs.length q.c]
/-- Rows in a row of one's own; no list of values lies in it. -/
structure OR (w : World) (B : Nat) (x : Value) (qs : List Q) : Prop where
  own : w.ownsRow B 24 2 x qs.length (qs.flatMap cellsR)
  lies : ∀ q ∈ qs, VLies w q.a q.r.vs
  apart : ∀ q ∈ qs, ∀ y, q.a = some y → B ≤ y.block ∧ y.block < w.heap.size ∧ some y.block ≠ x.ownBlock
theorem OR.nil (w : World) (B : Nat) : OR w B (.slice none 0 0) [] := ⟨World.ownsRow_nil _ _ _ _, (fun q hq => by cases hq), (fun q hq => by cases hq)⟩
theorem OR.grown {w w' : World} {B : Nat} {x : Value} {qs : List Q} {r : Option Nat} (h : OR w B x qs) (hg : w.grownBy w' r) (hr : ∀ k, r = some k → k < B) : OR w' B x qs :=
  ⟨own_grown h.own hg fun k hk e => by have h1 := (World.ownsRow.lt h.own k hk).1; have h2 := hr k e.symm; omega,
   fun q hq => (h.lies q hq).grown hg fun y hy e => by have h1 := (h.apart q hq y hy).1; have h2 := hr _ e.symm; omega,
   fun q hq y hy => ⟨(h.apart q hq y hy).1, Nat.lt_of_lt_of_le (h.apart q hq y hy).2.1 hg.size, (h.apart q hq y hy).2.2⟩⟩
theorem OR.later {w w' : World} {B : Nat} {x : Value} {qs : List Q} (h : OR w B x qs) (hb : Below w.heap.size w w') : OR w' B x qs := h.grown (r := none) (grown_below hb) fun k hk => by cases hk
theorem OR.form {w : World} {B : Nat} {x : Value} {qs : List Q} (h : OR w B x qs) : ∃ a c, x = .slice a qs.length c ∧ RLies w a (qs.map (·.r)) := by
  rcases h.own.2 with ⟨h1, h2⟩ | ⟨g, c, cur, h1, h2, h3, -⟩
  · refine ⟨none, 0, by rw [h1, h2], fun i hi => absurd hi (by simp; omega)⟩
  · refine ⟨some ⟨g, 0, none⟩, c, h1, fun i hi => ?_⟩
    have hi' : i < qs.length := by simpa using hi
    have ho := h.own
    rw [h1] at ho
    have key : ∀ j, j < 2 → w.cell? ⟨g, i * 2 + j, none⟩ = (cellsR qs[i])[j]? := fun j hj => by
      rw [World.ownsRow.cellAt ho (i * 2 + j) (by omega), flat_at cellsR 2 (fun _ => rfl) qs i j hi' hj]
    refine ⟨g, 0, qs[i].a, qs[i].c, rfl, ?_, ?_, ?_⟩
    · rw [Nat.zero_add]; simpa [cellsR] using key 0 (by decide)
    · rw [Nat.zero_add]; simpa [cellsR] using key 1 (by decide)
    · simpa using h.lies qs[i] (List.getElem_mem hi')
/-- One row more. -/
theorem OR.more {w0 w w' : World} {B : Nat} {x x' : Value} {qs : List Q} {q : Q} (h : OR w0 B x qs) (h0 : OR w B x qs) (hown : w'.ownsRow B 24 2 x' (qs.length + 1) (qs.flatMap cellsR ++ cellsR q)) (hg : w.grownBy w' x.ownBlock) (hat : x'.ownBlock = x.ownBlock ∨ x'.ownBlock = some w.heap.size)
    (hB : B ≤ w0.heap.size) (hq : VLies w q.a q.r.vs) (hqa : ∀ y, q.a = some y → w0.heap.size ≤ y.block ∧ y.block < w.heap.size) : OR w' B x' (qs ++ [q]) := by
  have hx : ∀ k, x.ownBlock = some k → k < w0.heap.size := fun k hk => (World.ownsRow.lt h.own k hk).2
  have hqx : ∀ y, q.a = some y → some y.block ≠ x.ownBlock := fun y hy e => by have h1 := hx _ e.symm; have h2 := hqa y hy; omega
  refine ⟨?_, fun p hp => ?_, fun p hp y hy => ?_⟩
  · rw [List.length_append, List.flatMap_append]; simpa using hown
  · rcases List.mem_append.1 hp with hp | hp
    · exact (h0.lies p hp).grown hg fun y hy => (h0.apart p hp y hy).2.2
    · rw [List.mem_singleton.1 hp]; exact hq.grown hg hqx
  · rcases List.mem_append.1 hp with hp | hp
    · obtain ⟨h1, h2, h3⟩ := h0.apart p hp y hy
      refine ⟨h1, Nat.lt_of_lt_of_le h2 hg.size, ?_⟩
      rcases hat with e | e
      · rw [e]; exact h3
      · rw [e]; intro e2; have := Option.some.inj e2; omega
    · rw [List.mem_singleton.1 hp] at hy
      obtain ⟨h1, h2⟩ := hqa y hy
      refine ⟨by omega, Nat.lt_of_lt_of_le h2 hg.size, ?_⟩
      rcases hat with e | e
      · rw [e]; exact hqx y hy
      · rw [e]; intro e2; have := Option.some.inj e2; omega

theorem OV.base {w : World} {B B' : Nat} {x : Value} {vs : List V} (h : OV w B x vs) (hb : B' ≤ B) : OV w B' x vs := by
  refine ⟨h.1, ?_⟩
  rcases h.2 with h2 | ⟨g, cap, cur, h1, h2, h3⟩
  · exact .inl h2
  · exact .inr ⟨g, cap, cur, h1, Nat.le_trans hb h2, h3⟩
theorem one_cellsV (v : V) : ∀ u ∈ cellsV v, u.oneCell' = true := by intro u hu; simp [cellsV] at hu; rcases hu with rfl | rfl | rfl <;> rfl
theorem len_cellsV (vs : List V) : (vs.flatMap cellsV).length = vs.length * 3 := by
  induction vs with
  | nil => rfl
  | cons a l ih => rw [List.flatMap_cons, List.length_append, ih, List.length_cons]; simp [cellsV]; omega
theorem VLies.cells {w : World} {b off : Nat} {vs : List V} (h : VLies w (some ⟨b, off, none⟩) vs) : ∀ j u, (vs.flatMap cellsV)[j]? = some u → w.cell? ⟨b, off + j, none⟩ = some u := by
  intro j u hj
  have hlt : j < vs.length * 3 := by
    have := (List.getElem?_eq_some_iff.1 hj).1
    rwa [len_cellsV] at this
  have hi : j / 3 < vs.length := by omega
  have e : j = j / 3 * 3 + j % 3 := by omega
  have hf := flat_at cellsV 3 (fun _ => rfl) vs (j / 3) (j % 3) hi (by omega)
  rw [← e, hj] at hf
  obtain ⟨b', off', e1, h1, h2, h3⟩ := h (j / 3) hi
  cases e1
  have hm : j % 3 = 0 ∨ j % 3 = 1 ∨ j % 3 = 2 := by omega
  rw [show off + j = off + j / 3 * 3 + j % 3 by omega]
  rcases hm with hm | hm | hm
  · rw [hm] at hf ⊢
    rw [hf]; exact h1
  · rw [hm] at hf ⊢
    rw [hf]; exact h2
  · rw [hm] at hf ⊢
    rw [hf]; exact h3

end Go.Proofs.YtodkekmfadfjkaaGreatDoor
