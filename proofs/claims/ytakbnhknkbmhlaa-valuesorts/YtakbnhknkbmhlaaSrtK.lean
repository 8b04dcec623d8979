import Derived.Test.YtakbnhknkbmhlaaSrtH
import Derived.Test.YtakbnhknkbmhlaaSrtI
import Derived.Test.YtakbnhknkbmhlaaSrtJ
import Derived.Deep.Slices
namespace Go.Proofs.Ytakbnhknkbmhlaa
open Go.RowKit
set_option linter.unusedVariables false
set_option maxRecDepth 100000

theorem size30 : (Try.prog.info? 30).map (·.size) = some 2 := by kernel_rfl
/-- Rows as they are stored. -/
theorem RLies.stored {w : World} {a : Option Addr} {rs : List Rw} (h : RLies w a rs) : ∃ qs : List Q, qs.map (·.r) = rs ∧ (∀ i (hi : i < qs.length), VLies w qs[i].a qs[i].r.vs) ∧ ∀ j u, (qs.flatMap cellsR)[j]? = some u → ∃ b off, a = some ⟨b, off, none⟩ ∧ w.cell? ⟨b, off + j, none⟩ = some u := by
  have key : ∀ i, i < rs.length → ∃ q : Q, ∃ (hi : i < rs.length), q.r = rs[i] ∧ VLies w q.a q.r.vs ∧ ∃ b off, a = some ⟨b, off, none⟩ ∧ w.cell? ⟨b, off + i * 2, none⟩ = some (.int .i64 q.r.t) ∧ w.cell? ⟨b, off + i * 2 + 1, none⟩ = some (.slice q.a q.r.vs.length q.c) := fun i hi => by
    obtain ⟨b, off, av, cv, e, h1, h2, h3⟩ := h i hi
    exact ⟨⟨rs[i], av, cv⟩, hi, rfl, h3, b, off, e, h1, h2⟩
  haveI : Inhabited Q := ⟨zq⟩
  obtain ⟨f, hf⟩ := Deep.choose_lt key
  have hlen : ((List.range rs.length).map f).length = rs.length := by simp
  have hget : ∀ i (hi : i < ((List.range rs.length).map f).length), ((List.range rs.length).map f)[i] = f i := fun i hi => by simp
  refine ⟨(List.range rs.length).map f, ?_, fun i hi => ?_, fun j u hj => ?_⟩
  · apply List.ext_getElem (by simp)
    intro i h1 h2
    obtain ⟨_, e, _⟩ := hf i h2
    simp [e]
  · rw [hget]
    obtain ⟨_, e, hv, _⟩ := hf i (by simpa using hi)
    exact hv
  · have hlt : j < rs.length * 2 := by
      have := (List.getElem?_eq_some_iff.1 hj).1
      rw [len_cellsR, hlen] at this
      exact this
    obtain ⟨_, e, hv, b, off, ea, h1, h2⟩ := hf (j / 2) (by omega)
    have hf2 := flat_at cellsR 2 (fun _ => rfl) ((List.range rs.length).map f) (j / 2) (j % 2) (by rw [hlen]; omega) (by omega)
    rw [show j / 2 * 2 + j % 2 = j by omega, hj, hget] at hf2
    refine ⟨b, off, ea, ?_⟩
    rw [show off + j = off + j / 2 * 2 + j % 2 by omega]
    have hm : j % 2 = 0 ∨ j % 2 = 1 := by omega
    rcases hm with hm | hm
    · rw [hm] at hf2 ⊢; rw [hf2]; exact h1
    · rw [hm] at hf2 ⊢; rw [hf2]; exact h2
/-- The cells of rows in a block that is known whole. -/
theorem block_row {w : World} {A : Nat} {L : List Q} (h : w.heap[A]? = some (.cells (L.flatMap cellsR).toArray 30 (0, 0))) (i : Nat) (hi : i < L.length) :
    w.cell? ⟨A, i * 2, none⟩ = some (.int .i64 L[i].r.t) ∧ w.cell? ⟨A, i * 2 + 1, none⟩ = some (.slice L[i].a L[i].r.vs.length L[i].c) := by
  have key : ∀ j, j < 2 → w.cell? ⟨A, i * 2 + j, none⟩ = (cellsR L[i])[j]? := fun j hj => by
    rw [← flat_at cellsR 2 (fun _ => rfl) L i j hi hj]
    simp [World.cell?, h]
  exact ⟨key 0 (by decide), key 1 (by decide)⟩
theorem flat_rep (n k : Nat) : ((List.replicate n zq).flatMap cellsR).drop (k * 2) = (List.replicate (n - k) zq).flatMap cellsR := by
  by_cases h : k ≤ n
  · have e : List.replicate n zq = List.replicate k zq ++ List.replicate (n - k) zq := by rw [List.replicate_append_replicate]; congr 1; omega
    rw [e, List.flatMap_append, List.drop_left' (by rw [len_cellsR, List.length_replicate])]
  · rw [List.drop_of_length_le (by rw [len_cellsR, List.length_replicate]; omega), show n - k = 0 by omega]; rfl
theorem Done.rlies {w w' : World} {B O : Nat} {ps : List Q} (h : Done w B O ps) (hb : Below w.heap.size w w') : RLies w' (some ⟨O, 0, none⟩) (ps.map (·.r)) := fun i hi => by
  have hi' : i < ps.length := by simpa using hi
  obtain ⟨h1, h2⟩ := block_row (whole_row h.own) i hi'
  obtain ⟨a, c, e, hv, -⟩ := (h.mine _ (List.getElem_mem hi')).form
  simp only [Value.slice.injEq] at e
  refine ⟨O, 0, ps[i].a, ps[i].c, rfl, ?_, ?_, ?_⟩
  · rw [Nat.zero_add]; simpa using cell_later hb h1
  · rw [Nat.zero_add]; simpa using cell_later hb h2
  · rw [e.1]; simpa using hv.later hb
end Go.Proofs.Ytakbnhknkbmhlaa
