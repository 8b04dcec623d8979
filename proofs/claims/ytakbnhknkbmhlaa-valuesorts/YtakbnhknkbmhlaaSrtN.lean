import Derived.Test.YtakbnhknkbmhlaaSrtK
namespace Go.Proofs.Ytakbnhknkbmhlaa
open Go.RowKit
set_option linter.unusedVariables false
set_option maxRecDepth 100000

theorem Ph.later {w w' : World} {B O i : Nat} {qs : List Q} {f : Nat → List V} (h : Ph w B O qs i f) (hb : Below w.heap.size w w') : Ph w' B O qs i f where
  own := own_later h.own hb
  len := h.len
  lies j hj := (h.lies j hj).later hb
  done := h.done
  mine j hj hij := (h.mine j hj hij).later hb
/-- The rows as they stand. -/
def nowR (qs : List Q) (f : Nat → List V) : List Rw := (List.range qs.length).map fun j => ⟨(qs.getD j zq).r.t, f j⟩
theorem nowR_len (qs : List Q) (f : Nat → List V) : (nowR qs f).length = qs.length := by simp [nowR]
theorem nowR_get (qs : List Q) (f : Nat → List V) (j : Nat) (hj : j < (nowR qs f).length) (hj' : j < qs.length) : (nowR qs f)[j] = ⟨qs[j].r.t, f j⟩ := by simp [nowR, hj']
theorem Ph.rlies {w w' : World} {B O i : Nat} {qs : List Q} {f : Nat → List V} (h : Ph w B O qs i f) (hb : Below w.heap.size w w') : RLies w' (some ⟨O, 0, none⟩) (nowR qs f) := fun j hj => by
  have hj' : j < qs.length := by rw [nowR_len] at hj; exact hj
  rw [nowR_get qs f j hj hj']
  obtain ⟨h1, h2⟩ := block_row (whole_row h.own) j hj'
  refine ⟨O, 0, qs[j].a, qs[j].c, rfl, ?_, ?_, (h.lies j hj').later hb⟩
  · rw [Nat.zero_add]; exact cell_later hb h1
  · rw [Nat.zero_add]; simp only [h.len j hj']; exact cell_later hb h2
theorem Ph.marks {w : World} {B O : Nat} {qs : List Q} {f : Nat → List V} (h : Ph w B O qs qs.length f) : ∀ j (hj : j < (nowR qs f).length), ∀ v ∈ (nowR qs f)[j].vs, v.n = (j : Int) := fun j hj v hv => by
  have hj' : j < qs.length := by rw [nowR_len] at hj; exact hj
  rw [nowR_get qs f j hj hj'] at hv
  exact h.done j hj' v hv
theorem Ph.short {w : World} {B O i : Nat} {qs : List Q} {f : Nat → List V} (h : Ph w B O qs i f) {K : Nat} (hk : ∀ q ∈ qs, q.r.vs.length ≤ K) : ∀ r ∈ nowR qs f, r.vs.length ≤ K := fun r hr => by
  obtain ⟨j, hj, rfl⟩ := List.getElem_of_mem hr
  have hj' : j < qs.length := by rw [nowR_len] at hj; exact hj
  rw [nowR_get qs f j hj hj', h.len j hj']
  exact hk _ (List.getElem_mem hj')
theorem Done.at {w : World} {B O : Nat} {ps : List Q} (h : Done w B O ps) (j : Nat) (hj : j < ps.length) : ps[j].a = none ∨ ∃ g, ps[j].a = some ⟨g, 0, none⟩ ∧ g ≠ O ∧ B ≤ g ∧ g < w.heap.size := by
  rcases (h.mine _ (List.getElem_mem hj)).at with ⟨h1, -⟩ | ⟨g, h1, h2, h3⟩
  · exact .inl h1
  · exact .inr ⟨g, h1, h.apart _ (List.getElem_mem hj) _ h1, h2, h3⟩
theorem Done.ne {w : World} {B O : Nat} {ps : List Q} (h : Done w B O ps) (i j : Nat) (hi : i < ps.length) (hj : j < ps.length) (hij : i ≠ j) (y z : Addr) (hy : ps[i].a = some y) (hz : ps[j].a = some z) : y.block ≠ z.block := by
  have hp := List.pairwise_iff_getElem.1 h.two
  rcases Nat.lt_or_gt_of_ne hij with hlt | hlt
  · exact hp i j hi hj hlt y z hy hz
  · exact fun e => hp j i hj hi hlt z y hz hy e.symm

/-- One more value behind the values of row 'i': what is left of the rows. -/
theorem Ph.more {w w' : World} {B O i n H : Nat} {qs : List Q} {f : Nat → List V} {x v' : Value} {ex news : List Value} (hi : i < qs.length)
    (hat0 : ∀ j (hj : j < qs.length), qs[j].a = none ∨ ∃ g, qs[j].a = some ⟨g, 0, none⟩ ∧ g ≠ O ∧ g < H) (hne0 : ∀ i j (hi : i < qs.length) (hj : j < qs.length), i ≠ j → ∀ y z, qs[i].a = some y → qs[j].a = some z → y.block ≠ z.block) (hOH : O < H)
    (h : Ph w B O qs (i + 1) f) (hx : x.ownBlock = (Value.slice qs[i].a 0 0).ownBlock ∨ ∀ k, x.ownBlock = some k → H ≤ k) (hH : H ≤ w.heap.size)
    (hown : w'.ownsRow B 26 3 v' n ((f i).flatMap cellsV ++ ex ++ news)) (hg : w.grownBy w' x.ownBlock) (hat : v'.ownBlock = x.ownBlock ∨ (v'.ownBlock = some w.heap.size ∧ w.grownBy w' none)) :
    Ph w' B O qs (i + 1) f ∧ (v'.ownBlock = (Value.slice qs[i].a 0 0).ownBlock ∨ ∀ k, v'.ownBlock = some k → H ≤ k) := by
  refine ⟨h.grown hg (fun e => ?_) (fun j hj hji y hy e => ?_) (fun j hj hji => ?_), ?_⟩
  · rcases hx with hx | hx
    · rcases hat0 i hi with h0 | ⟨g, h0, h1, h2⟩
      · rw [h0] at hx; rw [hx] at e; cases e
      · rw [h0] at hx; rw [hx] at e; exact h1 (Option.some.inj e)
    · have := hx O e; omega
  · rcases hx with hx | hx
    · rcases hat0 i hi with h0 | ⟨g, h0, h1, h2⟩
      · rw [h0] at hx; rw [hx] at e; cases e
      · rw [h0] at hx; rw [hx] at e
        exact hne0 i j hi hj (by omega) _ y h0 hy (Option.some.inj e)
    · have h3 := hx _ e
      rcases hat0 j hj with h0 | ⟨g, h0, h1, h2⟩
      · rw [h0] at hy; cases hy
      · rw [h0] at hy; cases hy; simp at h3; omega
  · obtain rfl : j = i := by omega
    have hl := h.lies j hj
    rcases hat with e | ⟨e, hn⟩
    · rcases hx with hx | hx
      · rcases hat0 j hj with h0 | ⟨g, h0, h1, h2⟩
        · intro m hm
          obtain ⟨_, _, e', _⟩ := hl m hm
          rw [h0] at e'; cases e'
        · rw [h0]
          rw [List.append_assoc] at hown
          refine VLies.of_own hown ?_
          rw [e, hx, h0]; rfl
      · refine hl.grown hg fun y hy e' => ?_
        have h3 := hx _ e'.symm
        rcases hat0 j hj with h0 | ⟨g, h0, h1, h2⟩
        · rw [h0] at hy; cases hy
        · rw [h0] at hy; cases hy; simp at h3; omega
    · exact hl.grown hn fun y hy e' => by cases e'
  · rcases hat with e | ⟨e, hn⟩
    · rw [e]; exact hx
    · right
      intro k hk
      rw [e] at hk
      have := Option.some.inj hk
      omega
end Go.Proofs.Ytakbnhknkbmhlaa
