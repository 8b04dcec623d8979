import Derived.Test.YtnmelljaangfiaaGreatDoorDrL
import Derived.Test.YtnmelljaangfiaaGreatDoorDrK
namespace Go.Proofs.YtnmelljaangfiaaGreatDoor.Dc
open Go.RowKit
set_option linter.unusedVariables false
set_option linter.unusedSimpArgs false
set_option maxRecDepth 100000

theorem sgs_notLit : ∀ s ∈ sgs, s ≠ bTrue ∧ s ≠ bFalse := by decide +kernel
theorem first_any {L : ByteArray → Int → Int → ByteArray → Prop} (hD : DRd L) (hT : ∃ k n s, L bTrue k n s) (hF : ∃ k n s, L bFalse k n s) (g E p lev : Nat) (tks : List Tk) (w : World) (h : RS w g E tks p lev 0 0) (hlev : lev ≤ 12) (hw : ∀ t ∈ tks, Wf t) (ihF : FirstOk L g E tks p) (ihC : ClimbOk L g E tks p) :
    Calls Tryz.prog 48 #[.pointer (some ⟨g, 0, none⟩)] w (CPost L w g E tks p lev 6) := by
  cases ht : tks.drop p with
  | nil =>
    refine first_none0 g E p lev tks (endT E) w h hw (by rw [ht]; rfl) rfl (by simp only [endT]; decide) (by simp only [endT]; decide) ?_
    rw [ht]
    exact .none (by unfold isLit; simp only [hd]; decide) (by simp only [hd]; decide) (by simp only [hd]; omega)
  | cons t ts =>
    have hm : t ∈ tks := List.mem_of_mem_drop (by rw [ht]; simp)
    have hh : hd E (tks.drop p) = t := by rw [ht]; rfl
    obtain ⟨ht1, hpl⟩ := drop_cons ht
    by_cases hmi : t.tx = bMinus
    · exact first_minus g E p lev tks t ts w h hlev hw ht hmi ihF
    by_cases hop : t.tx = bOpen
    · exact first_open g E p lev tks t ts w h hlev hw ht hop ihC
    have hwf := hw t hm
    by_cases hl : isLit t
    · rcases hwf.2 with ⟨hk, _⟩ | ⟨hk, _⟩ | ⟨hk, _⟩ | ⟨hk, hs⟩
      · have hx : t.tx = bTrue ∨ t.tx = bFalse := by
          rcases hl with h' | h' | h' | h'
          · omega
          · omega
          · exact .inl h'
          · exact .inr h'
        rcases hx with hx | hx
        · exact first_true hD hT g E p lev tks t ts w h hw ht hk hl hx hmi hop
        · exact first_false hD hF g E p lev tks t ts w h hw ht hk hl hx hmi hop
      · exact first_lit2 hD g E p lev tks t ts w h hw ht hk hl hmi hop
      · exact first_lit3 hD g E p lev tks t ts w h hw ht hk hl hmi hop
      · exfalso
        have := sgs_notLit _ hs
        rcases hl with h' | h' | h' | h'
        · omega
        · omega
        · exact this.1 h'
        · exact this.2 h'
    · have hnT : t.tx ≠ bTrue := fun e => hl (.inr (.inr (.inl e)))
      have hnF : t.tx ≠ bFalse := fun e => hl (.inr (.inr (.inr e)))
      rcases hwf.2 with ⟨hk, _⟩ | ⟨hk, _⟩ | ⟨hk, _⟩ | ⟨hk, hs⟩
      · by_cases hr : res t.tx
        · refine first_none1 g E p lev tks t w h hw hh hk hnT hnF hr hmi hop ?_
          rw [ht]
          exact .none (ts := t :: ts) hl hop (fun h' => h'.2 hr)
        · by_cases hz : 12 < t.tx.size
          · refine first_long g E p lev tks t w h hw hh hpl hk hnT hnF hr hz hmi hop ?_
            rw [ht]
            exact .nlong hl hop hk hr hz
          · by_cases ho : (hd E (tks.drop (p + 1))).tx = bOpen
            · cases hts : ts with
              | nil => rw [ht1, hts] at ho; exact absurd ho (by simp only [hd]; decide)
              | cons t1 ts1 =>
                subst hts
                rw [ht1] at ho
                exact first_call g E p lev tks t t1 ts1 w h hlev hw hh ht hk hl hnT hnF hr (by omega) hmi hop ho ihC
            · refine first_col g E p lev tks t w h hw hh hpl hk hnT hnF hr (by omega) ho hmi hop ?_
              rw [ht, ht1]
              rw [ht1] at ho
              exact .ncol hl hop hk hr (by omega) ho
      · exact absurd (.inl hk) hl
      · exact absurd (.inr (.inl hk)) hl
      · refine first_none4 g E p lev tks t w h hw hh hk hmi hop ?_
        rw [ht]
        exact .none (ts := t :: ts) hl hop (fun h' => by have h2 : t.kd = 1 := h'.1; omega)
end Go.Proofs.YtnmelljaangfiaaGreatDoor.Dc
