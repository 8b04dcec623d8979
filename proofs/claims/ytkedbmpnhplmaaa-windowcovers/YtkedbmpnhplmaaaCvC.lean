import Derived.Test.YtkedbmpnhplmaaaCvB
import Derived.Test.YtkedbmpnhplmaaaMgE
namespace Go.Proofs.Ytkedbmpnhplmaaa
open Go.RowKit Go.Shelf
set_option linter.unusedVariables false
set_option linter.unusedSimpArgs false
set_option maxRecDepth 100000
set_option maxHeartbeats 4000000
attribute [local go_sem ↓] neqlW
attribute [local go_sem] guardW

theorem first_in : inL 1 10 0 25 = [⟨20, 30⟩] := by rfl

theorem inL_facts {k s p t : Int} (hv : validB k s p = true) (h0 : 0 ≤ t) (h1 : t ≤ 1099511627776) :
    (∀ (i : Nat) (x : Wn), (inL k s p t)[i]? = some x → x.a ≤ t ∧ t < x.b) ∧ (∀ (i : Nat) (x y : Wn), (inL k s p t)[i]? = some x → (inL k s p t)[i + 1]? = some y → x.a < y.a ∧ x.b < y.b) ∧ (inL k s p t).length ≠ 0 := by
  have step : ∀ s p : Int, SOk s p t → (∀ (i : Nat) (x : Wn), (upto (sWn s p t) (sCnt s p t + 1))[i]? = some x → x.a ≤ t ∧ t < x.b) ∧ (∀ (i : Nat) (x y : Wn), (upto (sWn s p t) (sCnt s p t + 1))[i]? = some x → (upto (sWn s p t) (sCnt s p t + 1))[i + 1]? = some y → x.a < y.a ∧ x.b < y.b) ∧ (upto (sWn s p t) (sCnt s p t + 1)).length ≠ 0 := by
    intro s p H
    have at_ : ∀ (i : Nat) (x : Wn), (upto (sWn s p t) (sCnt s p t + 1))[i]? = some x → i < sCnt s p t + 1 ∧ x = sWn s p t i := by
      intro i x hx
      have hl := (List.getElem?_eq_some_iff.1 hx).1
      rw [upto_length] at hl
      refine ⟨hl, ?_⟩
      unfold upto at hx
      simp [hl] at hx
      exact hx.symm
    refine ⟨fun i x hx => ?_, fun i x y hx hy => ?_, by rw [upto_length]; omega⟩
    · obtain ⟨hl, rfl⟩ := at_ i x hx
      obtain ⟨-, g2, g3⟩ := H.bd i (by omega)
      exact ⟨g2, g3⟩
    · obtain ⟨hl, rfl⟩ := at_ i x hx
      obtain ⟨hl2, rfl⟩ := at_ _ y hy
      have hp := H.hp
      have e : sAt s p t (i + 1) = sAt s p t i + p := sAt_succ s p t i
      simp only [sWn]
      constructor <;> omega
  have one : ∀ z : Wn, z.a ≤ t ∧ t < z.b → (∀ (i : Nat) (x : Wn), [z][i]? = some x → x.a ≤ t ∧ t < x.b) ∧ (∀ (i : Nat) (x y : Wn), [z][i]? = some x → [z][i + 1]? = some y → x.a < y.a ∧ x.b < y.b) ∧ [z].length ≠ 0 := by
    intro z hz
    refine ⟨fun i x hx => ?_, fun i x y _ hy => by simp at hy, by simp⟩
    cases i with
    | zero => simp at hx; subst hx; exact hz
    | succ i => simp at hx
  unfold validB at hv
  by_cases k1 : k = 1
  · subst k1
    simp at hv
    unfold inL
    rw [if_pos rfl]
    exact step s s ⟨by omega, by omega, by omega, h0, h1⟩
  by_cases k2 : k = 2
  · subst k2
    simp at hv
    unfold inL
    rw [if_neg (by decide), if_pos rfl]
    exact step s p ⟨by omega, by omega, by omega, h0, h1⟩
  by_cases k3 : k = 3
  · subst k3
    simp at hv
    unfold inL
    rw [if_neg (by decide), if_neg (by decide), if_pos rfl]
    exact one ⟨t, t + s⟩ ⟨Int.le_refl _, by show t < t + s; omega⟩
  · unfold inL
    rw [if_neg k1, if_neg k2, if_neg k3]
    exact one ⟨0, 1099511627777⟩ ⟨h0, by show t < 1099511627777; omega⟩

theorem inL_small {k s p t : Int} (hv : validB k s p = true) (h0 : 0 ≤ t) (h1 : t ≤ 1099511627776) : (inL k s p t).length ≤ 1048577 := by
  have step : ∀ s p : Int, SOk s p t → sCnt s p t + 1 ≤ 1048577 := by
    intro s p H
    have ⟨b1, b2, b3, b4⟩ := H.q
    have := H.hs
    unfold sCnt
    omega
  unfold validB at hv
  unfold inL
  by_cases e1 : k = 1
  · subst e1
    simp at hv
    rw [if_pos rfl, upto_length]
    exact step s s ⟨by omega, by omega, by omega, h0, h1⟩
  by_cases e2 : k = 2
  · subst e2
    simp at hv
    rw [if_neg (by decide), if_pos rfl, upto_length]
    exact step s p ⟨by omega, by omega, by omega, h0, h1⟩
  rw [if_neg e1, if_neg e2]
  split <;> simp

/-- Sliding windows: so many. -/
theorem slide_cnt {s p t : Int} (hv : validB 2 s p = true) (h0 : 0 ≤ t) (h1 : t ≤ 1099511627776) : ∃ n : Nat, (inL 2 s p t).length = n ∧ 1 ≤ p ∧ p ≤ s ∧ s ≤ 1048576 ∧ n ≤ 1048577 ∧ (n : Int) * p ≤ s + p - 1 ∧ s < ((n : Int) + 1) * p := by
  unfold validB at hv
  simp at hv
  have H : SOk s p t := ⟨by omega, by omega, by omega, h0, h1⟩
  refine ⟨sCnt s p t + 1, ?_, by omega, by omega, by omega, ?_, ?_, ?_⟩
  · unfold inL; rw [if_neg (by decide), if_pos rfl, upto_length]
  all_goals
    have ⟨a1, a2, a3⟩ := H.tm
    have ⟨b1, b2, b3, b4⟩ := H.q
    have hc : ((sCnt s p t : Nat) : Int) = (s - 1 - t % p).tdiv p := by unfold sCnt; exact Int.toNat_of_nonneg b1
  · omega
  · rw [Int.natCast_add, hc, Int.add_mul]; omega
  · rw [Int.natCast_add, hc, Int.add_mul, Int.add_mul]; omega

/-- What is merged: apart, and over all that has times. -/
theorem merged_facts {xs ps : List Wn} (h : Srt xs ps) :
    (∀ (i k : Nat) (x y : Wn), k < i → (mFold (some_ ps))[i]? = some x → (mFold (some_ ps))[k]? = some y → y.b ≤ x.a) ∧
    (∀ (i : Nat) (x : Wn), xs[i]? = some x → x.a < x.b → ∃ (k : Nat) (m : Wn), (mFold (some_ ps))[k]? = some m ∧ m.a ≤ x.a ∧ x.b ≤ m.b) := by
  obtain ⟨g1, g2, g3⟩ := mFold_good (some_ ps) (some_sorted h.2) (some_ne ps)
  refine ⟨fun i k x y hki hx hy => ?_, fun i x hx hab => ?_⟩
  · have := (List.pairwise_iff_getElem.1 g1.1) k i (List.getElem?_eq_some_iff.1 hy).1 (List.getElem?_eq_some_iff.1 hx).1 hki
    rw [(List.getElem?_eq_some_iff.1 hx).2, (List.getElem?_eq_some_iff.1 hy).2] at this
    exact this
  · have hm : x ∈ some_ ps := List.mem_filter.2 ⟨h.1.mem_iff.2 (List.mem_of_getElem? hx), by simpa using hab⟩
    obtain ⟨r, hr, h1, h2⟩ := g2 x hm
    obtain ⟨k, hk, e⟩ := List.getElem_of_mem hr
    exact ⟨k, r, by rw [List.getElem?_eq_getElem hk, e], h1, h2⟩
end Go.Proofs.Ytkedbmpnhplmaaa
