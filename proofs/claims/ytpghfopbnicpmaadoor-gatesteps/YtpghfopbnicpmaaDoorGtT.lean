import Derived.Test.YtpghfopbnicpmaaDoorGtF
namespace Go.Proofs.YtpghfopbnicpmaaDoor
open Go.RowKit
set_option linter.unusedVariables false
set_option linter.unusedSimpArgs false
set_option maxRecDepth 100000

/-- A list of numbers in a block of one's own. -/
def NRow (w : World) (p n c ty : Nat) (xs : List Value) : Prop := w.ownsRow p ty 1 (.slice (some ⟨p, 0, none⟩) n c) n xs
theorem NRow.later {w w' : World} {p n c ty : Nat} {xs : List Value} (h : NRow w p n c ty xs) (hb : Below w.heap.size w w') : NRow w' p n c ty xs := own_later h hb
theorem NRow.at {w : World} {p n c ty : Nat} {xs : List Value} (h : NRow w p n c ty xs) (i : Nat) (hi : i < n) : w.cell? ⟨p, i, none⟩ = xs[i]? := World.ownsRow.cellAt h i (by omega)
theorem NRow.put {w : World} {p n c ty : Nat} {xs : List Value} (h : NRow w p n c ty xs) (j : Nat) (u : Value) : NRow (w.setCell ⟨p, j, none⟩ u) p n c ty (xs.set j u) ∧ w.grownBy (w.setCell ⟨p, j, none⟩ u) (some p) := World.ownsRow.stored h j u
theorem NRow.grown {w w' : World} {p n c ty : Nat} {xs : List Value} {r : Nat} (h : NRow w p n c ty xs) (hg : w.grownBy w' (some r)) (hne : p ≠ r) : NRow w' p n c ty xs :=
  own_grown h hg fun k hk => by cases hk; exact fun e => hne (Option.some.inj e)
theorem NRow.soft {w : World} {p n c ty : Nat} {xs : List Value} (h : NRow w p n c ty xs) (j : Nat) : w.frozen? ⟨p, j, none⟩ = false := World.ownsRow.frozenAt h j
theorem NRow.lt {w : World} {p n c ty : Nat} {xs : List Value} (h : NRow w p n c ty xs) : p < w.heap.size := (World.ownsRow.lt h p rfl).2
def timesL (es : List En) : List Value := es.map fun e => .int .i64 e.t
def marksL (mk : Int) (es : List En) : List Value := es.map fun e => .int .i64 (if e.b then mk else 0)
/-- The document's gate. -/
structure GR (w : World) (g p q cp cq : Nat) (tm mk : Int) (es : List En) : Prop where
  own : Own w g 53 3 [.slice (some ⟨p, 0, none⟩) es.length cp, .slice (some ⟨q, 0, none⟩) es.length cq, .int .i64 tm]
  times : NRow w p es.length cp 2 (timesL es)
  marks : NRow w q es.length cq 3 (marksL mk es)
  n1 : p ≠ g
  n2 : q ≠ g
  n3 : p ≠ q
theorem GR.later {w w' : World} {g p q cp cq : Nat} {tm mk : Int} {es : List En} (h : GR w g p q cp cq tm mk es) (hb : Below w.heap.size w w') : GR w' g p q cp cq tm mk es := ⟨h.own.later hb, h.times.later hb, h.marks.later hb, h.n1, h.n2, h.n3⟩
theorem GR.cells {w : World} {g p q cp cq : Nat} {tm mk : Int} {es : List En} (h : GR w g p q cp cq tm mk es) : w.cell? ⟨g, 0, none⟩ = some (.slice (some ⟨p, 0, none⟩) es.length cp) ∧ w.cell? ⟨g, 1, none⟩ = some (.slice (some ⟨q, 0, none⟩) es.length cq) ∧ w.cell? ⟨g, 2, none⟩ = some (.int .i64 tm) :=
  ⟨Own.cell h.own 0 (by decide), Own.cell h.own 1 (by decide), Own.cell h.own 2 (by decide)⟩
theorem GR.timeAt {w : World} {g p q cp cq : Nat} {tm mk : Int} {es : List En} (h : GR w g p q cp cq tm mk es) (i : Nat) (hi : i < es.length) : w.cell? ⟨p, i, none⟩ = some (.int .i64 es[i].t) := by
  rw [h.times.at i hi]; unfold timesL; simp [hi]
theorem GR.markAt {w : World} {g p q cp cq : Nat} {tm mk : Int} {es : List En} (h : GR w g p q cp cq tm mk es) (i : Nat) (hi : i < es.length) : w.cell? ⟨q, i, none⟩ = some (.int .i64 (if es[i].b then mk else 0)) := by
  rw [h.marks.at i hi]; unfold marksL; simp [hi]
/-- Who waits, waits with a mark. -/
def Waits (mk : Int) (es : List En) : Prop := 0 ≤ mk ∧ (mk = 0 ↔ ∀ e ∈ es, e.b = false)
theorem openD_any (w : World) (g p q cp cq : Nat) (tm mk : Int) (es : List En) (h : GR w g p q cp cq tm mk es) (hw : Waits mk es) (k : Int) :
    Calls Tryd.prog 8 #[.pointer (some ⟨g, 0, none⟩), .int .i64 k] w fun e w' => e = .returned (.bool (openB es k)) ∧ w' = w := by
  obtain ⟨c0, c1, c2⟩ := h.cells
  unfold openB
  by_cases h1 : k < 0
  · rw [if_neg (by omega)]
    have h0 : ¬ 0 ≤ k := by omega
    clear h
    go_enter Tryd.func8, Tryd.ntmps8
    go_wp2
    go_ret
    exact ⟨rfl, rfl⟩
  obtain ⟨i, rfl⟩ : ∃ i : Nat, k = (i : Int) := ⟨k.toNat, by omega⟩
  by_cases h2 : i < es.length
  · rw [if_pos (by omega)]
    have h2' : (i : Int) < (es.length : Int) := by omega
    have h0 : (0 : Int) ≤ (i : Int) := by omega
    have e1 := h.markAt i h2
    have hd : es.getD (i : Int).toNat ⟨0, true⟩ = es[i] := by rw [Int.toNat_natCast]; simp [List.getD, h2]
    rw [hd]
    have hm : ((if es[i].b = true then mk else 0) == 0) = !es[i].b := by
      cases hb : es[i].b with
      | false => simp
      | true =>
        have : mk ≠ 0 := fun e => by have := hw.2.1 e es[i] (List.getElem_mem h2); rw [hb] at this; cases this
        simp [this]
    generalize (if es[i].b = true then mk else 0) = z at *
    clear h hd hw
    generalize es[i] = q' at *
    go_enter Tryd.func8, Tryd.ntmps8
    go_wp2
    go_ret
    exact ⟨rfl, rfl⟩
  · rw [if_neg (by omega)]
    have h2' : ¬ (i : Int) < (es.length : Int) := by omega
    have h0 : (0 : Int) ≤ (i : Int) := by omega
    clear h hw
    go_enter Tryd.func8, Tryd.ntmps8
    go_wp2
    go_ret
    exact ⟨rfl, rfl⟩
end Go.Proofs.YtpghfopbnicpmaaDoor
