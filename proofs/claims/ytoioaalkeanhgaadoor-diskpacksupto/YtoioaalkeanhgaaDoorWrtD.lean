import Derived.Test.YtoioaalkeanhgaaDoorWrtC
namespace Go.Proofs.YtoioaalkeanhgaaDoor
open Go.RowKit
set_option linter.unusedVariables false
set_option maxRecDepth 100000

structure Rw where
  t : Int
  vs : List V
def encRow (r : Rw) : List UInt8 := encInt r.t ++ (encInt (r.vs.length : Int) ++ r.vs.flatMap encVal)
def encRows (rs : List Rw) : List UInt8 := encInt (rs.length : Int) ++ rs.flatMap encRow

/-- Values lie in memory where the slice 'a' begins. -/
def VLies (w : World) (a : Option Addr) (vs : List V) : Prop :=
  ∀ i (hi : i < vs.length), ∃ b off, a = some ⟨b, off, none⟩ ∧ w.cell? ⟨b, off + i * 3, none⟩ = some (.int .i64 vs[i].k) ∧ w.cell? ⟨b, off + i * 3 + 1, none⟩ = some (.int .i64 vs[i].n) ∧ w.cell? ⟨b, off + i * 3 + 2, none⟩ = some (.string vs[i].s)
theorem VLies.later {w wx : World} {a : Option Addr} {vs : List V} (h : VLies w a vs) (hb : Below w.heap.size w wx) : VLies wx a vs := fun i hi => by
  obtain ⟨b, off, e, h1, h2, h3⟩ := h i hi
  exact ⟨b, off, e, cell_later hb h1, cell_later hb h2, cell_later hb h3⟩
/-- Rows lie in memory where the slice 'a' begins. -/
def RLies (w : World) (a : Option Addr) (rs : List Rw) : Prop :=
  ∀ i (hi : i < rs.length), ∃ b off av cv, a = some ⟨b, off, none⟩ ∧ w.cell? ⟨b, off + i * 2, none⟩ = some (.int .i64 rs[i].t) ∧ w.cell? ⟨b, off + i * 2 + 1, none⟩ = some (.slice av rs[i].vs.length cv) ∧ VLies w av rs[i].vs
theorem RLies.later {w wx : World} {a : Option Addr} {rs : List Rw} (h : RLies w a rs) (hb : Below w.heap.size w wx) : RLies wx a rs := fun i hi => by
  obtain ⟨b, off, av, cv, e, h1, h2, h3⟩ := h i hi
  exact ⟨b, off, av, cv, e, cell_later hb h1, cell_later hb h2, h3.later hb⟩
def GoodV (v : V) : Prop := -9223372036854775808 ≤ v.n ∧ v.n ≤ 9223372036854775807 ∧ v.s.size ≤ 549755813888
def GoodR (r : Rw) : Prop := -9223372036854775808 ≤ r.t ∧ r.t ≤ 9223372036854775807 ∧ r.vs.length ≤ 549755813888 ∧ ∀ v ∈ r.vs, GoodV v

/-- Bytes in a row of one's own. -/
def OL (w : World) (B : Nat) (v : Value) (l : List UInt8) : Prop := w.ownsRow B 5 1 v l.length (l.map u8v)
theorem OL.later {w w' : World} {B : Nat} {v : Value} {l : List UInt8} (h : OL w B v l) (hb : Below w.heap.size w w') : OL w' B v l := own_later h hb

theorem putInt_ol (v : Value) (l : List UInt8) (x : Int) (B : Nat) (w : World) (hown : OL w B v l) (hB : B ≤ w.heap.size) (h1 : -9223372036854775808 ≤ x) (h2 : x ≤ 9223372036854775807) (hn : l.length ≤ 1099511627776) :
    Calls Tryd.prog 15 #[v, .int .i64 x] w fun e w' => ∃ v', e = .returned v' ∧ OL w' B v' (l ++ encInt x) ∧ Only w w' v.ownBlock v'.ownBlock := by
  refine (putInt_any v l.length l x B w hown hB h1 h2 hn).mono ?_
  rintro e w' ⟨v', rfl, h, k⟩
  exact ⟨v', rfl, by unfold OL; rw [List.length_append]; exact h, k⟩
theorem take_flat {α : Type} (f : α → List UInt8) (l : List α) (k : Nat) (hk : k < l.length) : (l.take (k + 1)).flatMap f = (l.take k).flatMap f ++ f l[k] := by
  rw [List.take_succ_eq_append_getElem hk, List.flatMap_append]; simp
theorem flat_le {α : Type} (f : α → List UInt8) (l : List α) (k : Nat) : ((l.take k).flatMap f).length ≤ (l.flatMap f).length := by
  have h : l.flatMap f = (l.take k).flatMap f ++ (l.drop k).flatMap f := by rw [← List.flatMap_append, List.take_append_drop]
  rw [h, List.length_append]; omega
theorem flat_lt {α : Type} (f : α → List UInt8) (l : List α) (k : Nat) (hk : k < l.length) : ((l.take k).flatMap f).length + (f l[k]).length ≤ (l.flatMap f).length := by
  have := flat_le f l (k + 1)
  rw [take_flat f l k hk, List.length_append] at this
  exact this

end Go.Proofs.YtoioaalkeanhgaaDoor
