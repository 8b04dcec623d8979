import Derived.Test.YtkedbmpnhplmaaaWnH
namespace Go.Proofs.Ytkedbmpnhplmaaa
open Go.RowKit Go.Shelf
set_option linter.unusedVariables false
set_option linter.unusedSimpArgs false

theorem snoc_cases {α : Type} (l : List α) : l = [] ∨ ∃ ys y, l = ys ++ [y] := by
  rcases List.eq_nil_or_concat l with h | ⟨ys, y, h⟩
  · exact .inl h
  · exact .inr ⟨ys, y, by rw [h, List.concat_eq_append]⟩
theorem snoc_ind {α : Type} {P : List α → Prop} (h0 : P []) (h1 : ∀ xs x, P xs → P (xs ++ [x])) (l : List α) : P l := by
  have key : ∀ l : List α, P l.reverse := by
    intro l
    induction l with
    | nil => exact h0
    | cons x xs ih => rw [List.reverse_cons]; exact h1 _ _ ih
  simpa using key l.reverse

def meet (x y : Wn) : Bool := decide (x.a < y.b) && decide (y.a < x.b)
/-- One window more, which begins no earlier. -/
def mStep (acc : List Wn) (x : Wn) : List Wn :=
  match acc.getLast? with
  | none => acc ++ [x]
  | some y => if meet y x then acc.dropLast ++ [⟨y.a, max y.b x.b⟩] else acc ++ [x]
def mFold (xs : List Wn) : List Wn := xs.foldl mStep []
theorem mFold_snoc (xs : List Wn) (x : Wn) : mFold (xs ++ [x]) = mStep (mFold xs) x := by simp [mFold]
theorem mStep_nil (x : Wn) : mStep [] x = [x] := rfl
theorem mStep_hit (acc : List Wn) (y x : Wn) (h : meet y x = true) : mStep (acc ++ [y]) x = acc ++ [⟨y.a, max y.b x.b⟩] := by simp [mStep, h]
theorem mStep_miss (acc : List Wn) (y x : Wn) (h : meet y x = false) : mStep (acc ++ [y]) x = acc ++ [y] ++ [x] := by simp [mStep, h]
theorem mStep_len (acc : List Wn) (x : Wn) : (mStep acc x).length ≤ acc.length + 1 := by
  rcases snoc_cases acc with rfl | ⟨ys, y, rfl⟩
  · simp [mStep]
  · cases h : meet y x
    · rw [mStep_miss _ _ _ h]; simp
    · rw [mStep_hit _ _ _ h]; simp
theorem mFold_len (xs : List Wn) : (mFold xs).length ≤ xs.length := by
  induction xs using snoc_ind with
  | h0 => simp [mFold]
  | h1 xs x ih => rw [mFold_snoc]; have := mStep_len (mFold xs) x; simp; omega

/-- Windows that begin one after the other and do not meet. -/
def Apart (l : List Wn) : Prop := l.Pairwise (fun x y => x.b ≤ y.a) ∧ ∀ x ∈ l, x.a < x.b
/-- What all of them begin at, or later: of the last one. -/
theorem mStep_apart {acc : List Wn} {x : Wn} (h : Apart acc) (hx : x.a < x.b) (hl : ∀ y ∈ acc, y.a ≤ x.a) : Apart (mStep acc x) ∧ ∀ y ∈ mStep acc x, y.a ≤ x.a := by
  rcases snoc_cases acc with rfl | ⟨ys, y, rfl⟩
  · rw [mStep_nil]
    exact ⟨⟨by simp, by simpa using hx⟩, by simp⟩
  · obtain ⟨h1, h2⟩ := h
    rw [List.pairwise_append] at h1
    obtain ⟨p1, p2, p3⟩ := h1
    have hy : y.a ≤ x.a := hl y (by simp)
    have hyb : y.a < y.b := h2 y (by simp)
    cases hm : meet y x
    · rw [mStep_miss _ _ _ hm]
      have hn : y.b ≤ x.a := by
        unfold meet at hm
        simp at hm
        by_cases hq : y.a < x.b
        · exact hm hq
        · omega
      refine ⟨⟨?_, ?_⟩, ?_⟩
      · rw [List.pairwise_append]
        refine ⟨by rw [List.pairwise_append]; exact ⟨p1, p2, p3⟩, by simp, ?_⟩
        intro u hu v hv
        simp at hv
        subst hv
        rcases List.mem_append.1 hu with hu | hu
        · have := p3 u hu y (by simp); omega
        · simp at hu; subst hu; exact hn
      · intro u hu
        rcases List.mem_append.1 hu with hu | hu
        · exact h2 u hu
        · simp at hu; subst hu; exact hx
      · intro u hu
        rcases List.mem_append.1 hu with hu | hu
        · exact hl u hu
        · simp at hu; subst hu; exact Int.le_refl _
    · rw [mStep_hit _ _ _ hm]
      refine ⟨⟨?_, ?_⟩, ?_⟩
      · rw [List.pairwise_append]
        refine ⟨p1, by simp, ?_⟩
        intro u hu v hv
        simp at hv
        subst hv
        exact p3 u hu y (by simp)
      · intro u hu
        rcases List.mem_append.1 hu with hu | hu
        · exact h2 u (by simp [hu])
        · simp at hu; subst hu; show y.a < max y.b x.b; omega
      · intro u hu
        rcases List.mem_append.1 hu with hu | hu
        · exact hl u (by simp [hu])
        · simp at hu; subst hu; exact hy
theorem mStep_cover {acc : List Wn} {x z : Wn} (h : z = x ∨ ∃ r ∈ acc, r.a ≤ z.a ∧ z.b ≤ r.b) (hl : ∀ y ∈ acc, y.a ≤ x.a) : ∃ r ∈ mStep acc x, r.a ≤ z.a ∧ z.b ≤ r.b := by
  rcases snoc_cases acc with rfl | ⟨ys, y, rfl⟩
  · rw [mStep_nil]
    rcases h with rfl | ⟨r, hr, _⟩
    · exact ⟨z, by simp, Int.le_refl _, Int.le_refl _⟩
    · simp at hr
  · have hy : y.a ≤ x.a := hl y (by simp)
    cases hm : meet y x
    · rw [mStep_miss _ _ _ hm]
      rcases h with rfl | ⟨r, hr, h1, h2⟩
      · exact ⟨z, by simp, Int.le_refl _, Int.le_refl _⟩
      · exact ⟨r, List.mem_append_left _ hr, h1, h2⟩
    · rw [mStep_hit _ _ _ hm]
      rcases h with rfl | ⟨r, hr, h1, h2⟩
      · exact ⟨⟨y.a, max y.b z.b⟩, by simp, hy, by show z.b ≤ max y.b z.b; omega⟩
      · rcases List.mem_append.1 hr with hr | hr
        · exact ⟨r, by simp [hr], h1, h2⟩
        · simp at hr
          subst hr
          exact ⟨⟨r.a, max r.b x.b⟩, by simp, h1, by show z.b ≤ max r.b x.b; omega⟩
/-- All that is joined of windows that begin one after the other. -/
theorem mFold_good (xs : List Wn) (hs : xs.Pairwise (fun x y => x.a ≤ y.a)) (hx : ∀ x ∈ xs, x.a < x.b) :
    Apart (mFold xs) ∧ (∀ z ∈ xs, ∃ r ∈ mFold xs, r.a ≤ z.a ∧ z.b ≤ r.b) ∧ ∀ x, (∀ y ∈ xs, y.a ≤ x) → ∀ y ∈ mFold xs, y.a ≤ x := by
  induction xs using snoc_ind with
  | h0 => simp [mFold, Apart]
  | h1 xs x ih =>
    rw [List.pairwise_append] at hs
    obtain ⟨i1, i2, i3⟩ := ih hs.1 (fun y hy => hx y (by simp [hy]))
    have hl : ∀ y ∈ mFold xs, y.a ≤ x.a := i3 x.a (fun y hy => hs.2.2 y hy x (by simp))
    rw [mFold_snoc]
    obtain ⟨j1, j2⟩ := mStep_apart i1 (hx x (by simp)) hl
    refine ⟨j1, ?_, ?_⟩
    · intro z hz
      apply mStep_cover _ hl
      rcases List.mem_append.1 hz with hz | hz
      · exact .inr (i2 z hz)
      · simp at hz; exact .inl hz
    · intro m hm y hy
      have := j2 y hy
      have := hm x (by simp)
      omega
end Go.Proofs.Ytkedbmpnhplmaaa
