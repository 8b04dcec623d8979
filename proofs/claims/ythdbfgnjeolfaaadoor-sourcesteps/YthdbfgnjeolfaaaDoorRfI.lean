import Derived.Test.YthdbfgnjeolfaaaDoorRfG
namespace Go.Proofs.YthdbfgnjeolfaaaDoor
open Go.RowKit
set_option linter.unusedVariables false
set_option linter.unusedSimpArgs false
set_option maxRecDepth 100000
set_option maxHeartbeats 4000000

theorem takeS_over (rs : List Rw) (bd : Int) (k : Nat) (tm lt : Int) (hk : rs.length < k) : takeS rs bd k tm lt = ([], k, tm, lt) := by unfold takeS; rw [if_pos hk]
theorem outR_len (rs : List Rw) (bd : Int) (k : Nat) : (outR rs bd k).length ≤ 2 := by
  unfold outR
  rw [List.length_append]
  have h1 : ∀ l : List Out, l = [] ∨ (∃ o, l = [o]) → l.length ≤ 1 := by rintro l (rfl | ⟨o, rfl⟩) <;> simp
  have a1 : (match rs[k]? with | none => ([] : List Out) | some r => if lateR rs bd k then [] else [rowO r]).length ≤ 1 := by
    split
    · simp
    · split <;> simp
  have a2 : (if timeR rs bd k < timeR rs bd (k + 1) then [timeO (timeR rs bd (k + 1))] else []).length ≤ 1 := by split <;> simp
  exact Nat.le_trans (Nat.add_le_add a1 a2) (by decide)
theorem outR_vals (rs : List Rw) (bd : Int) (k : Nat) (hv : ∀ r ∈ rs, r.vs.length ≤ 8) : (∀ o ∈ outR rs bd k, o.2.1.vs.length ≤ 8) ∧ (∀ j o, (outR rs bd k)[j + 1]? = some o → o.2.1.vs = []) := by
  have key : ∃ l1 l2 : List Out, outR rs bd k = l1 ++ l2 ∧ l1.length ≤ 1 ∧ (∀ o ∈ l1, o.2.1.vs.length ≤ 8) ∧ (∀ o ∈ l2, o.2.1.vs = []) := by
    unfold outR
    refine ⟨_, _, rfl, ?_, ?_, ?_⟩
    · split
      · simp
      · split <;> simp
    · intro o ho
      cases hr : rs[k]? with
      | none => rw [hr] at ho; cases ho
      | some r =>
        rw [hr] at ho
        simp only at ho
        split at ho
        · cases ho
        · rw [List.mem_singleton.1 ho]; exact hv r (List.mem_of_getElem? hr)
    · intro o ho
      split at ho
      · rw [List.mem_singleton.1 ho]; rfl
      · cases ho
  obtain ⟨l1, l2, e, h1, h2, h3⟩ := key
  rw [e]
  refine ⟨fun o ho => ?_, fun j o ho => ?_⟩
  · rcases List.mem_append.1 ho with ho | ho
    · exact h2 o ho
    · rw [h3 o ho]; simp
  · rw [List.getElem?_append_right (by omega)] at ho
    exact h3 o (List.mem_of_getElem? ho)

/-- A step of both readers. -/
theorem both_take (W : World) (g2 : Nat) (a : Option Addr) (c : Nat) (rs : List Rw) (bd : Int) (hf : Fit rs bd) (hR : RLies W a rs) (hg : W.heap.size ≤ g2) (k : Nat) (hk : k ≤ rs.length + 1) :
    ∃ (O : List Out) (AT : Nat), AT ≤ rs.length + 1 ∧ takeS rs bd k (timeR rs bd k) (lostR rs bd k) = (O, AT, timeR rs bd AT, lostR rs bd AT) ∧ O.length ≤ 2 ∧ (∀ o ∈ O, o.2.1.vs.length ≤ 8) ∧ (∀ j o, O[j + 1]? = some o → o.2.1.vs = []) ∧
      ∀ w, Rdf w g2 (.slice a rs.length c) bd (k : Int) → Below W.heap.size W w → Calls Tryd.prog 10 #[.pointer (some ⟨g2, 0, none⟩)] w (RTakePost w g2 (.slice a rs.length c) bd O (AT : Int)) := by
  by_cases h1 : k = rs.length + 1
  · subst h1
    exact ⟨[], rs.length + 1, Nat.le_refl _, takeS_over _ _ _ _ _ (by omega), by simp, by simp, by simp, fun w h hB => rtake_over W w g2 a c rs bd _ rfl h hf.n⟩
  · refine ⟨outR rs bd k, k + 1, by omega, takeS_R rs bd hf.b0 (fun r hr => (hf.t r hr).2) k (by omega), outR_len _ _ _, (outR_vals rs bd k hf.v).1, (outR_vals rs bd k hf.v).2, fun w h hB => ?_⟩
    by_cases h2 : k = rs.length
    · subst h2
      exact rtake_end W w g2 a c rs bd h hf hR hB hg
    · exact rtake_row W w g2 a c rs bd k (by omega) h hf hR hB hg

theorem Own.low {w w' : World} {B g t n : Nat} {xs : List Value} (h : Own w g t n xs) (hb : Below B w w') (hg : g < B) : Own w' g t n xs := by
  refine ⟨h.1, ?_⟩
  rcases h.2 with h2 | ⟨g', cap, cur, h1, h2, h3, h4⟩
  · exact .inl h2
  · have hgg : g = g' ∧ 1 = cap := by simpa using h1
    obtain ⟨rfl, rfl⟩ := hgg
    exact .inr ⟨g, 1, cur, h1, h2, by rw [hb.block g hg]; exact h3, h4⟩
theorem OR.low {w w' : World} {B D : Nat} {x : Value} {qs : List Q} (h : OR w B x qs) (hb : Below D w w') (h1 : ∀ j, x.ownBlock = some j → j < D) (h2 : ∀ q ∈ qs, ∀ y, q.a = some y → y.block < D) : OR w' B x qs := by
  refine ⟨?_, fun q hq i hi => ?_, fun q hq y hy => ⟨(h.apart q hq y hy).1, Nat.lt_of_lt_of_le (h.apart q hq y hy).2.1 hb.size, (h.apart q hq y hy).2.2⟩⟩
  · refine ⟨h.own.1, ?_⟩
    rcases h.own.2 with h2 | ⟨g', cap, cur, k1, k2, k3, k4⟩
    · exact .inl h2
    · exact .inr ⟨g', cap, cur, k1, k2, by rw [hb.block g' (h1 g' (by rw [k1]; rfl))]; exact k3, k4⟩
  · obtain ⟨b, off, e, v1, v2, v3⟩ := h.lies q hq i hi
    have hlt := h2 q hq _ e
    simp only at hlt
    exact ⟨b, off, e, (hb.cell (p := ⟨b, off + i * 3, none⟩) hlt).trans v1, (hb.cell (p := ⟨b, off + i * 3 + 1, none⟩) hlt).trans v2, (hb.cell (p := ⟨b, off + i * 3 + 2, none⟩) hlt).trans v3⟩
end Go.Proofs.YthdbfgnjeolfaaaDoor
