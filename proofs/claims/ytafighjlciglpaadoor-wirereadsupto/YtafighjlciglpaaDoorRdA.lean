import Derived.Test.YtafighjlciglpaaDoorWrtF
namespace Go.Proofs.YtafighjlciglpaaDoor
open Go.RowKit
set_option linter.unusedVariables false
set_option maxRecDepth 100000

theorem ofNat_inj {a b : Nat} (ha : a < 256) (hb : b < 256) (h : UInt8.ofNat a = UInt8.ofNat b) : a = b := by
  have := congrArg UInt8.toNat h
  rw [UInt8.toNat_ofNat', UInt8.toNat_ofNat', Nat.mod_eq_of_lt ha, Nat.mod_eq_of_lt hb] at this
  exact this

theorem vint_pf (u v : Nat) (r s : List UInt8) (h : vint u ++ r = vint v ++ s) : u = v ∧ r = s := by
  induction u using Nat.strongRecOn generalizing v with
  | ind u ih =>
    by_cases hu : u < 128
    · by_cases hv : v < 128
      · rw [vint_lt hu, vint_lt hv] at h
        simp only [List.cons_append, List.nil_append, List.cons.injEq] at h
        exact ⟨ofNat_inj (by omega) (by omega) h.1, h.2⟩
      · rw [vint_lt hu, vint_ge hv] at h
        simp only [List.cons_append, List.nil_append, List.cons.injEq] at h
        have := ofNat_inj (by omega) (by omega) h.1
        omega
    · by_cases hv : v < 128
      · rw [vint_ge hu, vint_lt hv] at h
        simp only [List.cons_append, List.nil_append, List.cons.injEq] at h
        have := ofNat_inj (by omega) (by omega) h.1
        omega
      · rw [vint_ge hu, vint_ge hv] at h
        simp only [List.cons_append, List.cons.injEq] at h
        have h1 := ofNat_inj (by omega) (by omega) h.1
        have h2 := ih (u / 128) (by omega) (v / 128) h.2
        exact ⟨by omega, h2.2⟩
theorem zig_inj {n m : Int} (h : zig n = zig m) : n = m := by
  unfold zig at h
  split at h <;> split at h <;> omega
theorem encInt_pf {n m : Int} {r s : List UInt8} (h : encInt n ++ r = encInt m ++ s) : n = m ∧ r = s := by
  obtain ⟨h1, h2⟩ := vint_pf _ _ _ _ h
  exact ⟨zig_inj h1, h2⟩

/-- What has the form of a value. -/
def FormV (v : V) : Prop := 0 ≤ v.k ∧ v.k < 256 ∧ (¬ (v.k = 1 ∨ v.k = 2) → v.n = 0) ∧ (v.k ≠ 3 → v.s = ByteArray.empty)
theorem size_zero {s : ByteArray} (h : s.size = 0) : s = ByteArray.empty := by
  apply ByteArray.ext
  exact Array.eq_empty_of_size_eq_zero h
theorem form_of_valid {v : V} (h : validV v = true) : FormV v := by
  unfold validV at h
  unfold FormV
  split at h
  · simp at h; exact ⟨by omega, by omega, fun _ => h.1, fun _ => h.2⟩
  · split at h
    · simp at h; exact ⟨by omega, by omega, fun k => absurd (.inl ‹_›) k, fun _ => h⟩
    · split at h
      · simp at h; exact ⟨by omega, by omega, fun k => absurd (.inr ‹_›) k, fun _ => h.1⟩
      · split at h
        · simp at h; exact ⟨by omega, by omega, fun _ => h.1, fun k => absurd ‹_› k⟩
        · cases h
theorem kb_inj {a b : Int} (ha : 0 ≤ a ∧ a < 256) (hb : 0 ≤ b ∧ b < 256) (h : kb a = kb b) : a = b := by
  unfold kb at h
  have := ofNat_inj (by omega) (by omega) h
  omega
theorem encVal_pf {v u : V} (hv : FormV v) (hu : FormV u) {r s : List UInt8} (h : encVal v ++ r = encVal u ++ s) : v = u ∧ r = s := by
  obtain ⟨k, n, t⟩ := v
  obtain ⟨k', n', t'⟩ := u
  unfold FormV at hv hu
  unfold encVal encTail at h
  simp only [List.cons_append, List.cons.injEq] at hv hu h
  obtain ⟨hk, h⟩ := h
  obtain rfl := kb_inj ⟨hv.1, hv.2.1⟩ ⟨hu.1, hu.2.1⟩ hk
  by_cases h1 : k = 1 ∨ k = 2
  · rw [if_pos h1, if_pos h1] at h
    obtain ⟨rfl, rfl⟩ := encInt_pf h
    rw [hv.2.2.2 (by omega), hu.2.2.2 (by omega)]
    exact ⟨rfl, rfl⟩
  · rw [if_neg h1, if_neg h1] at h
    rw [hv.2.2.1 h1, hu.2.2.1 h1]
    by_cases h3 : k = 3
    · rw [if_pos h3, if_pos h3, List.append_assoc, List.append_assoc] at h
      obtain ⟨e1, e2⟩ := encInt_pf h
      have hl : t.data.toList.length = t'.data.toList.length := by
        rw [show t.data.toList.length = t.size by simp, show t'.data.toList.length = t'.size by simp]; omega
      obtain ⟨e3, e4⟩ := List.append_inj e2 hl
      have : t = t' := by apply ByteArray.ext; exact Array.toList_inj.1 e3
      subst this
      exact ⟨rfl, e4⟩
    · rw [if_neg h3, if_neg h3] at h
      rw [hv.2.2.2 h3, hu.2.2.2 h3]
      exact ⟨rfl, by simpa using h⟩

/-- A list of things that can be told apart by their beginnings. -/
def PF {α : Type} (P : α → Prop) (enc : α → List UInt8) : Prop := ∀ x y r s, P x → P y → enc x ++ r = enc y ++ s → x = y ∧ r = s
theorem flat_pf {α : Type} {P : α → Prop} {enc : α → List UInt8} (hp : PF P enc) : ∀ (xs ys : List α) (r s : List UInt8), (∀ x ∈ xs, P x) → (∀ y ∈ ys, P y) → xs.length = ys.length → xs.flatMap enc ++ r = ys.flatMap enc ++ s → xs = ys ∧ r = s
  | [], [], r, s, _, _, _, h => ⟨rfl, by simpa using h⟩
  | [], y :: ys, r, s, _, _, hl, _ => by simp at hl
  | x :: xs, [], r, s, _, _, hl, _ => by simp at hl
  | x :: xs, y :: ys, r, s, hx, hy, hl, h => by
    rw [List.flatMap_cons, List.flatMap_cons, List.append_assoc, List.append_assoc] at h
    obtain ⟨rfl, h2⟩ := hp _ _ _ _ (hx x (by simp)) (hy y (by simp)) h
    obtain ⟨rfl, rfl⟩ := flat_pf hp xs ys r s (fun a ha => hx a (by simp [ha])) (fun a ha => hy a (by simp [ha])) (by simpa using hl) h2
    exact ⟨rfl, rfl⟩
theorem flat_next {α : Type} {P : α → Prop} {enc : α → List UInt8} (hp : PF P enc) (xs ys : List α) (r s : List UInt8) (hx : ∀ x ∈ xs, P x) (hy : ∀ y ∈ ys, P y) (hl : xs.length < ys.length) (h : xs.flatMap enc ++ r = ys.flatMap enc ++ s) : ∃ y ∈ ys, ∃ s', r = enc y ++ s' := by
  have e : ys.flatMap enc = (ys.take xs.length).flatMap enc ++ (enc ys[xs.length] ++ (ys.drop (xs.length + 1)).flatMap enc) := by
    conv => lhs; rw [← List.take_append_drop xs.length ys]
    rw [List.flatMap_append, List.drop_eq_getElem_cons hl, List.flatMap_cons]
  rw [e, List.append_assoc] at h
  obtain ⟨-, h2⟩ := flat_pf hp xs (ys.take xs.length) _ _ hx (fun y hm => hy y (List.mem_of_mem_take hm)) (by simp; omega) h
  exact ⟨_, List.getElem_mem hl, _, by rw [h2, List.append_assoc]⟩
theorem encVal_PF : PF FormV encVal := fun _ _ _ _ h1 h2 h => encVal_pf h1 h2 h
def FormR (r : Rw) : Prop := ∀ v ∈ r.vs, FormV v
theorem encRow_PF : PF FormR encRow := by
  intro x y r s hx hy h
  obtain ⟨t, vs⟩ := x
  obtain ⟨t', vs'⟩ := y
  unfold encRow at h
  simp only [List.append_assoc] at h
  obtain ⟨ht, h2⟩ := encInt_pf h
  obtain ⟨hl, h3⟩ := encInt_pf h2
  obtain ⟨rfl, rfl⟩ := flat_pf encVal_PF vs vs' r s hx hy (by omega) h3
  subst ht
  exact ⟨rfl, rfl⟩
theorem encRows_pf {xs ys : List Rw} {r s : List UInt8} (hx : ∀ x ∈ xs, FormR x) (hy : ∀ y ∈ ys, FormR y) (h : encRows xs ++ r = encRows ys ++ s) : xs = ys ∧ r = s := by
  unfold encRows at h
  simp only [List.append_assoc] at h
  obtain ⟨hl, h⟩ := encInt_pf h
  exact flat_pf encRow_PF xs ys r s hx hy (by omega) h
theorem formR_of_valid {r : Rw} (h : validR r = true) : FormR r := by
  intro v hv
  unfold validR at h
  simp at h
  exact form_of_valid (h.1 v hv)
end Go.Proofs.YtafighjlciglpaaDoor
