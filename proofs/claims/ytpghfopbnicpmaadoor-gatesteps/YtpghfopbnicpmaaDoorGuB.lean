import Derived.Test.YtpghfopbnicpmaaDoorGuA
import Derived.Test.YtpghfopbnicpmaaDoorTldB
namespace Go.Proofs.YtpghfopbnicpmaaDoor
open Go.RowKit
set_option linter.unusedVariables false
set_option linter.unusedSimpArgs false
set_option maxRecDepth 100000
set_option maxHeartbeats 8000000

theorem own_kept {w w' : World} {B e size n : Nat} {v : Value} {xs : List Value} (h : w.ownsRow B e size v n xs) (hk : ∀ k, v.ownBlock = some k → k < w.heap.size → w'.heap[k]? = w.heap[k]?) : w'.ownsRow B e size v n xs := by
  refine ⟨h.1, ?_⟩
  rcases h.2 with h2 | ⟨g, cap, cur, h1, h2, h3, h4⟩
  · exact .inl h2
  · refine .inr ⟨g, cap, cur, h1, h2, ?_, h4⟩
    have hlt : g < w.heap.size := by
      rcases Nat.lt_or_ge g w.heap.size with h | h
      · exact h
      · rw [Array.getElem?_eq_none h] at h3; cases h3
    rw [hk g (by rw [h1]; rfl) hlt]; exact h3
theorem GT.kept {w w' : World} {g b c : Nat} {tm mk : Int} {es : List En} (h : GT w g b c tm mk es) (hk : ∀ i, i < w.heap.size → (i = g ∨ i = b) → w'.heap[i]? = w.heap[i]?) : GT w' g b c tm mk es :=
  ⟨own_kept h.own (fun k hk2 hlt => by cases hk2; exact hk _ hlt (.inl rfl)), own_kept h.ent (fun k hk2 hlt => by cases hk2; exact hk _ hlt (.inr rfl)), h.ne⟩
theorem GR.kept {w w' : World} {g p q cp cq : Nat} {tm mk : Int} {es : List En} (h : GR w g p q cp cq tm mk es) (hk : ∀ i, i < w.heap.size → (i = g ∨ i = p ∨ i = q) → w'.heap[i]? = w.heap[i]?) : GR w' g p q cp cq tm mk es :=
  ⟨own_kept h.own (fun k hk2 hlt => by cases hk2; exact hk _ hlt (.inl rfl)), own_kept h.times (fun k hk2 hlt => by cases hk2; exact hk _ hlt (.inr (.inl rfl))), own_kept h.marks (fun k hk2 hlt => by cases hk2; exact hk _ hlt (.inr (.inr rfl))), h.n1, h.n2, h.n3⟩
/-- The law's own memory: both gates, and what was there before. -/
structure SMem (w W : World) (g b c d p q cp cq N : Nat) (es : List En) (tm mk : Int) : Prop where
  gate : GT w g b c tm mk es
  doc : GR w d p q cp cq tm mk es
  waits : Waits mk es
  len : es.length = N
  bel : Below W.heap.size W w
  big : W.heap.size ≤ g ∧ W.heap.size ≤ b ∧ W.heap.size ≤ d ∧ W.heap.size ≤ p ∧ W.heap.size ≤ q
  apart : g ≠ d ∧ g ≠ p ∧ g ≠ q ∧ b ≠ d ∧ b ≠ p ∧ b ≠ q
theorem SMem.later {w w' W : World} {g b c d p q cp cq N : Nat} {es : List En} {tm mk : Int} (h : SMem w W g b c d p q cp cq N es tm mk) (hb : Below w.heap.size w w') : SMem w' W g b c d p q cp cq N es tm mk :=
  ⟨h.gate.later hb, h.doc.later hb, h.waits, h.len, h.bel.trans (hb.mono h.bel.size), h.big, h.apart⟩
theorem SMem.lt {w W : World} {g b c d p q cp cq N : Nat} {es : List En} {tm mk : Int} (h : SMem w W g b c d p q cp cq N es tm mk) : g < w.heap.size ∧ b < w.heap.size ∧ d < w.heap.size ∧ p < w.heap.size ∧ q < w.heap.size :=
  ⟨h.gate.lt.1, h.gate.lt.2, h.doc.own.lt, h.doc.times.lt, h.doc.marks.lt⟩
/-- Both gates have let the same in. -/
theorem SMem.step {w w1 w2 W : World} {g b c d p q cp cq N : Nat} {es es' : List En} {tm mk tm' mk' : Int} (h : SMem w W g b c d p q cp cq N es tm mk) (h1 : Ch w w1 g b) (g1 : GT w1 g b c tm' mk' es') (h2 : Ch3 w1 w2 d p q) (g2 : GR w2 d p q cp cq tm' mk' es') (hw : Waits mk' es') (hl : es'.length = N) : SMem w2 W g b c d p q cp cq N es' tm' mk' := by
  obtain ⟨b1, b2, b3, b4, b5⟩ := h.big
  obtain ⟨a1, a2, a3, a4, a5, a6⟩ := h.apart
  have hs := h.bel.size
  have hs1 := h1.size
  refine ⟨g1.kept (fun i hi he => h2.block i hi (by omega) (by omega) (by omega)), g2, hw, hl, ?_, h.big, h.apart⟩
  have hb1 := Ch.below h.bel h1 h.bel.size b1 b2
  exact ⟨h2.os.trans hb1.os, h2.tape.trans hb1.tape, h2.output.trans hb1.output, Nat.le_trans hb1.size h2.size, fun i hi => (h2.block i (by omega) (by omega) (by omega) (by omega)).trans (hb1.block i hi)⟩
/-- The document's gate behind the program's step. -/
theorem SMem.docAt {w w1 W : World} {g b c d p q cp cq N : Nat} {es : List En} {tm mk : Int} (h : SMem w W g b c d p q cp cq N es tm mk) (h1 : Ch w w1 g b) : GR w1 d p q cp cq tm mk es := by
  obtain ⟨a1, a2, a3, a4, a5, a6⟩ := h.apart
  exact h.doc.kept (fun i hi he => h1.block i hi (by omega) (by omega))
/-- Another block was written to. -/
theorem SMem.grown {w w' W : World} {g b c d p q cp cq N : Nat} {es : List En} {tm mk : Int} {r : Option Nat} (h : SMem w W g b c d p q cp cq N es tm mk) (hg : w.grownBy w' r) (hr : ∀ k, r = some k → W.heap.size ≤ k ∧ k ≠ g ∧ k ≠ b ∧ k ≠ d ∧ k ≠ p ∧ k ≠ q) : SMem w' W g b c d p q cp cq N es tm mk := by
  refine ⟨h.gate.kept (fun i hi he => hg.block i hi (fun e => by have := hr i e.symm; omega)), h.doc.kept (fun i hi he => hg.block i hi (fun e => by have := hr i e.symm; omega)), h.waits, h.len, ?_, h.big, h.apart⟩
  have hs := h.bel.size
  exact ⟨hg.os.trans h.bel.os, hg.tape.trans h.bel.tape, hg.output.trans h.bel.output, Nat.le_trans h.bel.size hg.size, fun i hi => (hg.block i (by omega) (fun e => by have := hr i e.symm; omega)).trans (h.bel.block i hi)⟩
theorem told_any (n : Int) (w : World) (hg : Ety w) : Calls Tryd.prog 5 #[errI n] w fun e w' => e = .returned (.int .i64 n) ∧ Below w.heap.size w w' := by
  unfold errI
  by_cases h : n = 0
  · rw [if_pos h, h]
    refine (told_nil w).mono ?_
    rintro e w' ⟨rfl, rfl⟩
    exact ⟨rfl, Below.refl _ _⟩
  · rw [if_neg h]
    exact told_errno n w hg
noncomputable def stepsLoop (n : Nat) : Code := (Tryd.f3.body.bind (loopOf n)).getD .skip
noncomputable def stepsPart (n : Nat) : Code := (Tryd.f3.body.bind (partOf n)).getD .skip
end Go.Proofs.YtpghfopbnicpmaaDoor
