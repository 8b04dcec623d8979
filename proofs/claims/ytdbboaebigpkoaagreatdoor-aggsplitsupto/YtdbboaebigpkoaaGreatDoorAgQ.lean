import Derived.Test.YtdbboaebigpkoaaGreatDoorAgP
namespace Go.Proofs.YtdbboaebigpkoaaGreatDoor
open Go.RowKit
set_option linter.unusedVariables false
set_option linter.unusedSimpArgs false

def isI (o : Tm) : Bool := o.v.k == 1
def tot (l : List Tm) : Int := ((l.filter isI).map (·.v.n)).sum
theorem wrap_add (a b : Int) : wrap64 (wrap64 a + b) = wrap64 (a + b) := by unfold wrap64; omega
theorem sum_fold : ∀ (l : List Tm) (s : V), l.foldl sumF s = if (l.filter isI).length = 0 then s else ⟨1, wrap64 (s.n + tot l), ⟨#[]⟩⟩
  | [], s => by simp
  | o :: l, s => by
    rw [List.foldl_cons, sum_fold l]
    by_cases h : o.v.k = 1
    · have e : (o :: l).filter isI = o :: l.filter isI := by simp [isI, h]
      have et : tot (o :: l) = o.v.n + tot l := by unfold tot; rw [e]; simp
      rw [et, e, show sumF s o = ⟨1, wrap64 (s.n + o.v.n), ⟨#[]⟩⟩ by simp [sumF, h]]
      simp only [List.length_cons, Nat.add_one_ne_zero, if_false]
      by_cases h0 : (l.filter isI).length = 0
      · have : tot l = 0 := by unfold tot; rw [List.eq_nil_of_length_eq_zero h0]; rfl
        rw [if_pos h0, this, Int.add_zero]
      · rw [if_neg h0, wrap_add, Int.add_assoc]
    · have e : (o :: l).filter isI = l.filter isI := by simp [isI, h]
      have et : tot (o :: l) = tot l := by unfold tot; rw [e]
      rw [et, e, show sumF s o = s by simp [sumF, h]]
theorem perm_sum {l l' : List Int} (h : l.Perm l') : l.sum = l'.sum := by
  induction h with
  | nil => rfl
  | cons x _ ih => simp [ih]
  | swap x y l => simp; omega
  | trans _ _ h1 h2 => exact h1.trans h2
theorem sum_perm {l l' : List Tm} (h : l.Perm l') : sumS l = sumS l' := by
  unfold sumS
  rw [sum_fold, sum_fold, (h.filter isI).length_eq, show tot l = tot l' from perm_sum ((h.filter isI).map _)]

theorem bet_irrefl (kind : Int) (a : Tm) : bet kind a a = false := by
  unfold bet; repeat' split
  all_goals simp [ltW_irrefl]
theorem bet_trans (kind : Int) (a b c : Tm) (h1 : bet kind a b = true) (h2 : bet kind b c = true) : bet kind a c = true := by
  unfold bet at *
  split at h1
  · rename_i h; simp only [if_pos h] at h2 ⊢; exact ltW_trans _ _ _ h2 h1
  · split at h1
    · rename_i h h'; simp only [if_neg h, if_pos h'] at h2 ⊢; exact ltW_trans _ _ _ h1 h2
    · split at h1
      · rename_i g h h'
        simp only [if_neg g, if_neg h, if_pos h'] at h2 ⊢
        simp only [Bool.or_eq_true, Bool.and_eq_true, decide_eq_true_eq] at h1 h2 ⊢
        rcases h1 with h1 | ⟨e1, h1⟩
        · rcases h2 with h2 | ⟨e2, h2⟩ <;> (left; omega)
        · rcases h2 with h2 | ⟨e2, h2⟩
          · left; omega
          · exact .inr ⟨by omega, ltW_trans _ _ _ h2 h1⟩
      · rename_i g h h'
        simp only [if_neg g, if_neg h, if_neg h'] at h2 ⊢
        simp only [Bool.or_eq_true, Bool.and_eq_true, decide_eq_true_eq] at h1 h2 ⊢
        rcases h1 with h1 | ⟨e1, h1⟩
        · rcases h2 with h2 | ⟨e2, h2⟩ <;> (left; omega)
        · rcases h2 with h2 | ⟨e2, h2⟩
          · left; omega
          · exact .inr ⟨by omega, ltW_trans _ _ _ h1 h2⟩
theorem bet_tri (kind : Int) (a b : Tm) (h1 : bet kind a b = false) (h2 : bet kind b a = false) : a.v = b.v := by
  unfold bet at *
  split at h1
  · rename_i h; simp only [if_pos h] at h2; exact ltW_tri _ _ h2 h1
  · split at h1
    · rename_i h h'; simp only [if_neg h, if_pos h'] at h2; exact ltW_tri _ _ h1 h2
    · split at h1
      · rename_i g h h'
        simp only [if_neg g, if_neg h, if_pos h'] at h2
        simp only [Bool.or_eq_false_iff, Bool.and_eq_false_iff, decide_eq_false_iff_not] at h1 h2
        have e : a.t = b.t := by omega
        refine ltW_tri _ _ ?_ ?_
        · exact h2.2.resolve_left (fun h => h e)
        · exact h1.2.resolve_left (fun h => h e.symm)
      · rename_i g h h'
        simp only [if_neg g, if_neg h, if_neg h'] at h2
        simp only [Bool.or_eq_false_iff, Bool.and_eq_false_iff, decide_eq_false_iff_not] at h1 h2
        have e : a.t = b.t := by omega
        refine ltW_tri _ _ ?_ ?_
        · exact h1.2.resolve_left (fun h => h e)
        · exact h2.2.resolve_left (fun h => h e.symm)
theorem ltW_neg (a b c : V) (h : ltW a c = true) : ltW a b = true ∨ ltW b c = true := by
  cases h1 : ltW a b with
  | true => exact .inl rfl
  | false =>
    right
    cases h2 : ltW b a with
    | true => exact ltW_trans _ _ _ h2 h
    | false => rw [← ltW_tri a b h1 h2]; exact h
theorem bet_neg (kind : Int) (a b c : Tm) (h : bet kind a c = true) : bet kind a b = true ∨ bet kind b c = true := by
  unfold bet at *
  split at h
  · rename_i g; simp only [if_pos g]; exact (ltW_neg _ b.v _ h).symm
  · split at h
    · rename_i g g'; simp only [if_neg g, if_pos g']; exact ltW_neg _ b.v _ h
    · split at h
      · rename_i g g' g2
        simp only [if_neg g, if_neg g', if_pos g2]
        simp only [Bool.or_eq_true, Bool.and_eq_true, decide_eq_true_eq] at h ⊢
        by_cases e1 : b.t < a.t
        · exact .inl (.inl e1)
        · by_cases e2 : c.t < b.t
          · exact .inr (.inl e2)
          · rcases h with h | ⟨e, h⟩
            · omega
            · rcases ltW_neg _ b.v _ h with h | h
              · exact .inr (.inr ⟨by omega, h⟩)
              · exact .inl (.inr ⟨by omega, h⟩)
      · rename_i g g' g2
        simp only [if_neg g, if_neg g', if_neg g2]
        simp only [Bool.or_eq_true, Bool.and_eq_true, decide_eq_true_eq] at h ⊢
        by_cases e1 : a.t < b.t
        · exact .inl (.inl e1)
        · by_cases e2 : b.t < c.t
          · exact .inr (.inl e2)
          · rcases h with h | ⟨e, h⟩
            · omega
            · rcases ltW_neg _ b.v _ h with h | h
              · exact .inl (.inr ⟨by omega, h⟩)
              · exact .inr (.inr ⟨by omega, h⟩)
theorem over_best (kind : Int) : ∀ (r : List Tm) (x : Tm), r.foldl (overF kind) x ∈ x :: r ∧ ∀ y ∈ x :: r, bet kind (r.foldl (overF kind) x) y = false
  | [], x => ⟨by simp, fun y hy => by rw [List.mem_singleton.1 hy]; exact bet_irrefl _ _⟩
  | z :: r, x => by
    obtain ⟨h1, h2⟩ := over_best kind r (overF kind x z)
    rw [List.foldl_cons]
    unfold overF at h1 h2 ⊢
    cases hb : bet kind x z with
    | true =>
      rw [hb] at h1 h2
      simp only [if_true] at h1 h2 ⊢
      refine ⟨List.mem_cons_of_mem _ h1, fun y hy => ?_⟩
      rcases List.mem_cons.1 hy with rfl | hy
      · cases hc : bet kind (r.foldl (fun x y => if bet kind x y = true then y else x) z) y with
        | false => rfl
        | true =>
          have := bet_trans kind _ _ _ hc hb
          rw [h2 z (by simp)] at this
          cases this
      · exact h2 y hy
    | false =>
      rw [hb] at h1 h2
      simp only [Bool.false_eq_true, if_false] at h1 h2 ⊢
      refine ⟨?_, fun y hy => ?_⟩
      · rcases List.mem_cons.1 h1 with h | h
        · rw [h]; simp
        · exact List.mem_cons_of_mem _ (List.mem_cons_of_mem _ h)
      · rcases List.mem_cons.1 hy with rfl | hy
        · exact h2 _ (by simp)
        · rcases List.mem_cons.1 hy with rfl | hy
          · cases hc : bet kind (r.foldl (fun x y => if bet kind x y = true then y else x) x) y with
            | false => rfl
            | true =>
              rcases bet_neg kind _ x _ hc with h | h
              · rw [h2 x (by simp)] at h; cases h
              · rw [hb] at h; cases h
          · exact h2 y (List.mem_cons_of_mem _ hy)
theorem over_perm (kind : Int) : ∀ {l l' : List Tm}, l.Perm l' → (over kind l).v = (over kind l').v
  | [], l', h => by rw [h.nil_eq]
  | x :: r, [], h => by have := h.length_eq; simp at this
  | x :: r, x' :: r', h => by
    obtain ⟨h1, h2⟩ := over_best kind r x
    obtain ⟨h3, h4⟩ := over_best kind r' x'
    exact bet_tri kind _ _ (h2 _ (h.mem_iff.2 h3)) (h4 _ (h.mem_iff.1 h1))
theorem len_sub : ∀ {l l' : List V}, l.Nodup → (∀ x ∈ l, x ∈ l') → l.length ≤ l'.length
  | [], _, _, _ => by simp
  | a :: l, l', hn, hs => by
    obtain ⟨s, t, rfl⟩ := List.append_of_mem (hs a (by simp))
    have hn' := List.nodup_cons.1 hn
    have := len_sub (l := l) (l' := s ++ t) hn'.2 (fun x hx => by
      have hx' := hs x (List.mem_cons_of_mem _ hx)
      rw [List.mem_append, List.mem_cons] at hx'
      rw [List.mem_append]
      rcases hx' with h | h | h
      · exact .inl h
      · rw [h] at hx; exact absurd hx hn'.1
      · exact .inr h)
    simp at this ⊢
    omega
theorem dst_perm {l l' : List V} (h : l.Perm l') : (dst l).length = (dst l').length :=
  Nat.le_antisymm (len_sub (dst_nodup l) fun x hx => (dst_mem l' x).2 (h.mem_iff.1 ((dst_mem l x).1 hx))) (len_sub (dst_nodup l') fun x hx => (dst_mem l x).2 (h.mem_iff.2 ((dst_mem l' x).1 hx)))
/-- What values come to does not hang on their order. -/
theorem fold_perm (kind : Int) {l l' : List Tm} (h : l.Perm l') : foldV kind l = foldV kind l' := by
  unfold foldV
  have hn : (nn l).Perm (nn l') := h.filter _
  rw [h.length_eq, sum_perm h, dst_perm (hn.map _), pick_over, pick_over, over_perm kind hn]
/-- One more never makes the least greater. -/
theorem least_more {l l' : List Tm} (h : ∀ x ∈ l, x ∈ l') (hk : (foldV 3 l).k ≠ 0) : ltW (foldV 3 l) (foldV 3 l') = false := by
  have e : ∀ l, foldV 3 l = (over 3 (nn l)).v := fun l => by simp [foldV, pick_over]
  rw [e, e] at *
  cases hl : nn l with
  | nil => rw [hl] at hk; exact absurd rfl hk
  | cons x r =>
    obtain ⟨h1, h2⟩ := over_best 3 r x
    rw [← hl] at h1
    have h3 : r.foldl (overF 3) x ∈ nn l' := by
      unfold nn at h1 ⊢
      rw [List.mem_filter] at h1 ⊢
      exact ⟨h _ h1.1, h1.2⟩
    cases hl' : nn l' with
    | nil => rw [hl'] at h3; cases h3
    | cons x' r' =>
      obtain ⟨h4, h5⟩ := over_best 3 r' x'
      rw [hl'] at h3
      have := h5 _ h3
      simpa [bet, over] using this
end Go.Proofs.YtdbboaebigpkoaaGreatDoor
