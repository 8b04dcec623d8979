import Derived.Test.YtdbboaebigpkoaaGreatDoorAgD
namespace Go.Proofs.YtdbboaebigpkoaaGreatDoor
open Go.RowKit
set_option linter.unusedVariables false
set_option linter.unusedSimpArgs false
set_option maxRecDepth 100000

/-- The order of a way that keeps one. -/
def OrdF (w : World) (g : Nat) (kind : Int) (F : Value) : Prop :=
  (kind = 3 ∧ F = .func (.func 28) #[] #[]) ∨ (kind = 5 ∧ F = .func (.func 30) #[] #[])
  ∨ (kind = 4 ∧ ∃ c, F = .func (.func 43) #[] #[ptr c] ∧ c ≠ g ∧ w.cell? ⟨c, 0, none⟩ = some (.func (.func 28) #[] #[]))
  ∨ (kind = 6 ∧ ∃ c, F = .func (.func 43) #[] #[ptr c] ∧ c ≠ g ∧ w.cell? ⟨c, 0, none⟩ = some (.func (.func 30) #[] #[]))
theorem OrdF.grown {w w' : World} {g : Nat} {kind : Int} {F : Value} {r : Option Nat} (h : OrdF w g kind F) (hg : w.grownBy w' r) (hr : ∀ k, r = some k → k = g) : OrdF w' g kind F := by
  rcases h with h | h | ⟨h, c, h1, h2, h3⟩ | ⟨h, c, h1, h2, h3⟩
  · exact .inl h
  · exact .inr (.inl h)
  · exact .inr (.inr (.inl ⟨h, c, h1, h2, hg.cell h3 fun e => h2 (hr _ e.symm)⟩))
  · exact .inr (.inr (.inr ⟨h, c, h1, h2, hg.cell h3 fun e => h2 (hr _ e.symm)⟩))
theorem OrdF.does {w : World} {g : Nat} {kind : Int} {F : Value} (h : OrdF w g kind F) :
    ∃ n cap, F = .func (.func n) #[] cap ∧ (∀ (a : Array Value) (W : World), (callFunc n a).run Tryz.prog W = .ok (.enter n a) W) ∧
      ∀ a b W, Below w.heap.size w W → Calls Tryz.prog n (#[tmv a, tmv b] ++ cap) W fun e w' => ∃ r, e = .returned (.int .i64 r) ∧ decide (r < 0) = bet kind b a ∧ Below W.heap.size W w' := by
  rcases h with ⟨rfl, h⟩ | ⟨rfl, h⟩ | ⟨rfl, c, h1, h2, h3⟩ | ⟨rfl, c, h1, h2, h3⟩
  · exact ⟨_, _, h, ent_byValue, fun a b W hW => ord_3 a b W⟩
  · exact ⟨_, _, h, ent_byTime, fun a b W hW => ord_5 a b W⟩
  · refine ⟨_, _, h1, ent_turned, fun a b W hW => turned1_any _ ent_byValue c a b W (cell_later hW h3) (fun r => decide (r < 0) = bet 4 b a) fun W' => (ord_3 b a W').mono fun e w' ⟨r, e1, e2, e3⟩ => ⟨r, e1, ?_, e3⟩⟩
    rw [e2]; simp [bet]
  · refine ⟨_, _, h1, ent_turned, fun a b W hW => turned1_any _ ent_byTime c a b W (cell_later hW h3) (fun r => decide (r < 0) = bet 6 b a) fun W' => (ord_5 b a W').mono fun e w' ⟨r, e1, e2, e3⟩ => ⟨r, e1, ?_, e3⟩⟩
    rw [e2]; simp [bet]

end Go.Proofs.YtdbboaebigpkoaaGreatDoor
