import Derived.Test.YtmeeoamcelkhmaaGreatDoorOrdP
import Derived.Sort.Statements
namespace Go.Proofs.YtmeeoamcelkhmaaGreatDoor
set_option linter.unusedVariables false

/-- A row's data. -/
structure Rw where
  t : Int
  vs : List V
def v0 : V := ⟨0, 0, ⟨#[]⟩⟩
def vat (vs : List V) (i : Nat) : V := vs.getD i v0
def eqV (a b : V) : Bool := eqB a.k a.n a.s b.k b.n b.s
def ltW (a b : V) : Bool := ltV a.k a.n a.s b.k b.n b.s
theorem str_inj {s t : ByteArray} (h : s.toList = t.toList) : s = t := by
  rw [ByteArray.toList_eq, ByteArray.toList_eq] at h
  apply ByteArray.ext
  exact Array.toList_inj.1 h
theorem eqV_iff (a b : V) : eqV a b = true ↔ a = b := by
  obtain ⟨k1, n1, s1⟩ := a
  obtain ⟨k2, n2, s2⟩ := b
  unfold eqV eqB
  simp only [Bool.and_eq_true, beq_iff_eq, V.mk.injEq]
  exact ⟨fun ⟨h1, h2, h3⟩ => ⟨h1, h2, str_inj h3⟩, fun ⟨h1, h2, h3⟩ => ⟨h1, h2, by rw [h3]⟩⟩

theorem bl_trans : ∀ x y z : List UInt8, Op.bytesLess x y = true → Op.bytesLess y z = true → Op.bytesLess x z = true
  | [], y, [] => by intro _ h; cases y <;> simp [Op.bytesLess] at h
  | [], _, _ :: _ => by simp [Op.bytesLess]
  | _ :: _, [], _ => by simp [Op.bytesLess]
  | _ :: _, _ :: _, [] => by simp [Op.bytesLess]
  | a :: x, b :: y, c :: z => by
    intro h1 h2
    simp only [Op.bytesLess, Bool.or_eq_true, decide_eq_true_eq, Bool.and_eq_true, beq_iff_eq] at h1 h2 ⊢
    rcases h1 with h1 | ⟨e1, h1⟩
    · rcases h2 with h2 | ⟨e2, h2⟩
      · left; rw [UInt8.lt_iff_toNat_lt] at *; omega
      · left; rw [← e2]; exact h1
    · subst e1
      rcases h2 with h2 | ⟨e2, h2⟩
      · left; exact h2
      · right; exact ⟨e2, bl_trans x y z h1 h2⟩

theorem ltW_irrefl (a : V) : ltW a a = false := by unfold ltW ltV; simp [bl_irrefl]
theorem ltW_tri (a b : V) (h1 : ltW a b = false) (h2 : ltW b a = false) : a = b := by
  cases h : eqV a b
  · have := ltV_swap _ _ _ _ _ _ h
    unfold ltW at h1 h2
    rw [h1, h2] at this
    cases this
  · exact (eqV_iff a b).1 h
theorem ltW_trans (a b c : V) (h1 : ltW a b = true) (h2 : ltW b c = true) : ltW a c = true := by
  obtain ⟨k1, n1, s1⟩ := a
  obtain ⟨k2, n2, s2⟩ := b
  obtain ⟨k3, n3, s3⟩ := c
  unfold ltW ltV at *
  simp only at *
  by_cases e1 : k1 = k2
  · subst e1
    by_cases e2 : k1 = k3
    · subst e2
      simp at h1 h2 ⊢
      by_cases e3 : n1 = n2
      · subst e3
        by_cases e4 : n1 = n3
        · subst e4
          simp at h1 h2 ⊢
          exact bl_trans _ _ _ h1 h2
        · simp [e4] at h1 h2 ⊢
          exact h2
      · simp [e3] at h1
        by_cases e4 : n2 = n3
        · subst e4
          simp [e3]; exact h1
        · simp [e4] at h2
          have : ¬ n1 = n3 := by omega
          simp [this]; omega
    · simp [e2] at h2 ⊢
      exact h2
  · simp [e1] at h1
    by_cases e2 : k2 = k3
    · subst e2
      simp [e1]; exact h1
    · simp [e2] at h2
      have : ¬ k1 = k3 := by omega
      simp [this]; omega

def ltL : List V → List V → Bool
  | [], [] => false
  | [], _ :: _ => true
  | _ :: _, [] => false
  | a :: x, b :: y => if eqV a b = true then ltL x y else ltW a b
theorem eqV_self (a : V) : eqV a a = true := (eqV_iff a a).2 rfl
theorem ltL_irrefl : ∀ x, ltL x x = false
  | [] => rfl
  | a :: x => by simp [ltL, eqV_self, ltL_irrefl x]
theorem ltL_tri : ∀ x y, ltL x y = false → ltL y x = false → x = y
  | [], [] => fun _ _ => rfl
  | [], _ :: _ => fun h _ => by simp [ltL] at h
  | _ :: _, [] => fun _ h => by simp [ltL] at h
  | a :: x, b :: y => fun h1 h2 => by
    by_cases e : a = b
    · subst e
      simp [ltL, eqV_self] at h1 h2
      rw [ltL_tri x y h1 h2]
    · have n1 : ¬ eqV a b = true := fun h => e ((eqV_iff a b).1 h)
      have n2 : ¬ eqV b a = true := fun h => e ((eqV_iff b a).1 h).symm
      simp only [ltL, if_neg n1, if_neg n2] at h1 h2
      exact absurd (ltW_tri a b h1 h2) e
theorem ltL_trans : ∀ x y z, ltL x y = true → ltL y z = true → ltL x z = true
  | [], y, [] => by intro _ h; cases y <;> simp [ltL] at h
  | [], _, _ :: _ => by simp [ltL]
  | _ :: _, [], _ => by simp [ltL]
  | _ :: _, _ :: _, [] => by simp [ltL]
  | a :: x, b :: y, c :: z => by
    intro h1 h2
    by_cases e1 : a = b
    · subst e1
      by_cases e2 : a = c
      · subst e2
        simp [ltL, eqV_self] at h1 h2 ⊢
        exact ltL_trans x y z h1 h2
      · have n2 : ¬ eqV a c = true := fun h => e2 ((eqV_iff _ _).1 h)
        simp only [ltL, if_neg n2] at h2 ⊢
        exact h2
    · have n1 : ¬ eqV a b = true := fun h => e1 ((eqV_iff _ _).1 h)
      simp only [ltL, if_neg n1] at h1
      by_cases e2 : b = c
      · subst e2
        simp only [ltL, if_neg n1]; exact h1
      · have n2 : ¬ eqV b c = true := fun h => e2 ((eqV_iff _ _).1 h)
        simp only [ltL, if_neg n2] at h2
        have h3 := ltW_trans _ _ _ h1 h2
        have n3 : ¬ eqV a c = true := fun h => by
          rw [(eqV_iff _ _).1 h, ltW_irrefl] at h3; cases h3
        simp only [ltL, if_neg n3]; exact h3

theorem ltFrom_ltL (vs us : List V) : ∀ r k, r + k = min vs.length us.length → ltFrom (vat vs) (vat us) vs.length us.length r k = ltL (vs.drop k) (us.drop k)
  | 0, k, h => by
    simp only [ltFrom]
    rcases Nat.lt_trichotomy vs.length us.length with h1 | h1 | h1
    · rw [List.drop_of_length_le (show vs.length ≤ k by omega)]
      have : k < us.length := by omega
      rw [List.drop_eq_getElem_cons this]
      simp [ltL, h1]
    · rw [List.drop_of_length_le (show vs.length ≤ k by omega), List.drop_of_length_le (show us.length ≤ k by omega)]
      simp [ltL, h1]
    · rw [List.drop_of_length_le (show us.length ≤ k by omega)]
      have : k < vs.length := by omega
      rw [List.drop_eq_getElem_cons this]
      simp [ltL]; omega
  | r + 1, k, h => by
    have h1 : k < vs.length := by omega
    have h2 : k < us.length := by omega
    simp only [ltFrom]
    rw [ltFrom_ltL vs us r (k + 1) (by omega), List.drop_eq_getElem_cons h1, List.drop_eq_getElem_cons h2]
    have e1 : vat vs k = vs[k] := by simp [vat, h1]
    have e2 : vat us k = us[k] := by simp [vat, h2]
    rw [e1, e2]
    rfl

/-- Which of two rows comes first. -/
def ltR (r s : Rw) : Bool := ltRow r.t s.t (vat r.vs) (vat s.vs) r.vs.length s.vs.length
def cmpR (r s : Rw) : Int := cmpRow r.t s.t (vat r.vs) (vat s.vs) r.vs.length s.vs.length
theorem ltR_eq (r s : Rw) : ltR r s = if r.t = s.t then ltL r.vs s.vs else decide (r.t < s.t) := by
  unfold ltR ltRow
  rw [ltFrom_ltL _ _ _ _ (Nat.add_zero _)]
  by_cases h : r.t = s.t <;> simp [h]
theorem ltR_irrefl (r : Rw) : ltR r r = false := by rw [ltR_eq]; simp [ltL_irrefl]
theorem ltR_tri (r s : Rw) (h1 : ltR r s = false) (h2 : ltR s r = false) : r = s := by
  rw [ltR_eq] at h1 h2
  by_cases h : r.t = s.t
  · rw [if_pos h] at h1
    rw [if_pos h.symm] at h2
    have := ltL_tri _ _ h1 h2
    cases r; cases s; simp_all
  · rw [if_neg h] at h1
    rw [if_neg (fun e => h e.symm)] at h2
    simp at h1 h2
    omega
theorem ltR_trans (r s u : Rw) (h1 : ltR r s = true) (h2 : ltR s u = true) : ltR r u = true := by
  rw [ltR_eq] at *
  by_cases e1 : r.t = s.t
  · rw [if_pos e1] at h1
    by_cases e2 : s.t = u.t
    · rw [if_pos e2] at h2
      rw [if_pos (e1.trans e2)]
      exact ltL_trans _ _ _ h1 h2
    · rw [if_neg e2] at h2
      rw [if_neg (fun e => e2 (e1.symm.trans e)), e1]
      exact h2
  · rw [if_neg e1] at h1
    by_cases e2 : s.t = u.t
    · rw [if_neg (fun e => e1 (e.trans e2.symm)), ← e2]
      exact h1
    · rw [if_neg e2] at h2
      simp at h1 h2
      rw [if_neg (by omega)]
      simp; omega
theorem ltR_ntrans (r s u : Rw) (h1 : ltR r s = false) (h2 : ltR s u = false) : ltR r u = false := by
  cases h : ltR r u
  · rfl
  · exfalso
    cases h3 : ltR s r
    · rw [ltR_tri r s h1 h3, h2] at h; cases h
    · rw [ltR_trans _ _ _ h3 h] at h2; cases h2
theorem ltR_asymm (r s : Rw) (h : ltR r s = true) : ltR s r = false := by
  cases h2 : ltR s r
  · rfl
  · have := ltR_trans _ _ _ h h2; rw [ltR_irrefl] at this; cases this
theorem cmpR_lt (r s : Rw) : decide (cmpR r s < 0) = ltR r s := by
  unfold cmpR
  rw [row_sg]
  unfold sg ltR
  generalize ltRow r.t s.t (vat r.vs) (vat s.vs) r.vs.length s.vs.length = L
  generalize ltRow s.t r.t (vat s.vs) (vat r.vs) s.vs.length r.vs.length = M
  cases L <;> cases M <;> rfl

/-- In order. -/
def Asc (l : List Rw) : Prop := l.Pairwise fun x y => ltR y x = false
theorem asc_unique {l m : List Rw} (hp : l.Perm m) (h1 : Asc l) (h2 : Asc m) : l = m :=
  List.Perm.eq_of_pairwise (fun a b _ _ h h' => ltR_tri a b h' h) h1 h2 hp
theorem asc_insert {l : List Rw} (x : Rw) (k : Nat) (h : Asc l) (hk : k ≤ l.length) (h1 : ∀ i (hi : i < l.length), k ≤ i → ltR x l[i] = true) (h2 : ∀ (h0 : 0 < k), ltR x (l[k - 1]'(by omega)) = false) : Asc (l.take k ++ x :: l.drop k) := by
  unfold Asc at *
  have h' := h
  rw [← List.take_append_drop k l, List.pairwise_append] at h
  obtain ⟨ha, hb, hc⟩ := h
  rw [List.pairwise_append]
  have hx : ∀ a ∈ l.take k, ltR x a = false := by
    intro a hm
    obtain ⟨i, hi, rfl⟩ := List.getElem_of_mem hm
    have hik : i < k := by simp at hi; omega
    rw [List.getElem_take]
    have hlast := h2 (by omega)
    by_cases e : i = k - 1
    · subst e; exact hlast
    · have := List.pairwise_iff_getElem.1 h' i (k - 1) (by omega) (by omega) (by omega)
      exact ltR_ntrans _ _ _ hlast this
  have hy : ∀ b ∈ l.drop k, ltR x b = true := by
    intro b hm
    obtain ⟨i, hi, rfl⟩ := List.getElem_of_mem hm
    rw [List.getElem_drop]
    exact h1 _ _ (by omega)
  refine ⟨ha, List.pairwise_cons.2 ⟨fun b hb' => ltR_asymm _ _ (hy b hb'), hb⟩, fun a hm b hb' => ?_⟩
  rcases List.mem_cons.1 hb' with rfl | h3
  · exact hx a hm
  · exact hc a hm b h3
end Go.Proofs.YtmeeoamcelkhmaaGreatDoor
