import Derived.Test.YtmeeoamcelkhmaaGreatDoorOrdR
namespace Go.Proofs.YtmeeoamcelkhmaaGreatDoor
set_option linter.unusedVariables false

theorem bl_irrefl : ∀ x : List UInt8, Op.bytesLess x x = false
  | [] => rfl
  | a :: x => by simp [Op.bytesLess, bl_irrefl x]
theorem bl_total : ∀ x y : List UInt8, Op.bytesLess x y = false → (x == y) = false → Op.bytesLess y x = true
  | [], [] => by simp
  | [], _ :: _ => by simp [Op.bytesLess]
  | _ :: _, [] => by simp [Op.bytesLess]
  | a :: x, b :: y => by
    intro h1 h2
    simp only [Op.bytesLess, Bool.or_eq_false_iff, decide_eq_false_iff_not] at h1
    simp only [Op.bytesLess, Bool.or_eq_true, decide_eq_true_eq]
    by_cases hab : a = b
    · subst hab
      right
      have h3 : Op.bytesLess x y = false := by simpa using h1.2
      have h4 : (x == y) = false := by simpa using h2
      simp [bl_total x y h3 h4]
    · left
      have := h1.1
      rw [UInt8.lt_iff_toNat_lt] at this ⊢
      have hne : a.toNat ≠ b.toNat := fun h => hab (UInt8.toNat_inj.1 h)
      omega
theorem bl_asymm : ∀ x y : List UInt8, Op.bytesLess x y = true → Op.bytesLess y x = false
  | _, [] => by simp [Op.bytesLess]
  | [], _ :: _ => by simp [Op.bytesLess]
  | a :: x, b :: y => by
    intro h
    simp only [Op.bytesLess, Bool.or_eq_true, decide_eq_true_eq, Bool.and_eq_true, beq_iff_eq] at h
    simp only [Op.bytesLess, Bool.or_eq_false_iff, decide_eq_false_iff_not, Bool.and_eq_false_iff]
    rcases h with h | ⟨h, h'⟩
    · rw [UInt8.lt_iff_toNat_lt] at h
      refine ⟨by rw [UInt8.lt_iff_toNat_lt]; omega, .inl ?_⟩
      simp only [beq_eq_false_iff_ne, ne_eq]
      rintro rfl
      omega
    · subst h
      refine ⟨by rw [UInt8.lt_iff_toNat_lt]; omega, .inr (bl_asymm x y h')⟩

/-- What Compare says is what Before and '==' say. -/
theorem cmpV_sg (k1 n1 : Int) (s1 : ByteArray) (k2 n2 : Int) (s2 : ByteArray) : cmpV k1 n1 s1 k2 n2 s2 = sg (ltV k1 n1 s1 k2 n2 s2) (eqB k1 n1 s1 k2 n2 s2) := by
  unfold cmpV cmpS ltV eqB sg
  by_cases hk : k1 = k2
  · subst hk
    by_cases hn : n1 = n2
    · subst hn
      cases hb : Op.bytesLess s1.toList s2.toList
      · cases he : (s1.toList == s2.toList) <;> simp
      · have : (s1.toList == s2.toList) = false := by
          cases he : (s1.toList == s2.toList)
          · rfl
          · rw [show s1.toList = s2.toList from by simpa using he, bl_irrefl] at hb; cases hb
        simp [this]
    · rcases Int.lt_or_gt_of_ne hn with h | h
      · simp [h, hn]
      · have : ¬ n1 < n2 := by omega
        simp [h, hn, this]
  · rcases Int.lt_or_gt_of_ne hk with h | h
    · simp [h, hk]
    · have : ¬ k1 < k2 := by omega
      simp [h, hk, this]

theorem eqB_symm (k1 n1 : Int) (s1 : ByteArray) (k2 n2 : Int) (s2 : ByteArray) : eqB k1 n1 s1 k2 n2 s2 = eqB k2 n2 s2 k1 n1 s1 := by
  unfold eqB
  rw [Bool.beq_comm (a := k1), Bool.beq_comm (a := n1), Bool.beq_comm (a := s1.toList)]

/-- Of two values that differ one comes first, and the other does not. -/
theorem ltV_swap (k1 n1 : Int) (s1 : ByteArray) (k2 n2 : Int) (s2 : ByteArray) (h : eqB k1 n1 s1 k2 n2 s2 = false) : ltV k2 n2 s2 k1 n1 s1 = !ltV k1 n1 s1 k2 n2 s2 := by
  unfold ltV
  unfold eqB at h
  by_cases hk : k1 = k2
  · subst hk
    by_cases hn : n1 = n2
    · subst hn
      have h' : (s1.toList == s2.toList) = false := by simpa using h
      cases hb : Op.bytesLess s1.toList s2.toList
      · simp [bl_total _ _ hb h']
      · simp [bl_asymm _ _ hb]
    · have hn' : ¬ n2 = n1 := fun e => hn e.symm
      rcases Int.lt_or_gt_of_ne hn with h | h
      · have : ¬ n2 < n1 := by omega
        simp [hn, hn', h, this]
      · have : ¬ n1 < n2 := by omega
        simp [hn, hn', h, this]
  · have hk' : ¬ k2 = k1 := fun e => hk e.symm
    rcases Int.lt_or_gt_of_ne hk with h | h
    · have : ¬ k2 < k1 := by omega
      simp [hk, hk', h, this]
    · have : ¬ k1 < k2 := by omega
      simp [hk, hk', h, this]

theorem from_sg (f g : Nat → V) (l1 l2 : Nat) : ∀ r k, cmpFrom f g l1 l2 r k = sg (ltFrom f g l1 l2 r k) (!ltFrom f g l1 l2 r k && !ltFrom g f l2 l1 r k)
  | 0, k => by
    simp only [cmpFrom, ltFrom, cmpI, sg]
    by_cases h1 : l1 < l2
    · have : (l1 : Int) < (l2 : Int) := by omega
      simp [h1, this]
    · by_cases h2 : l2 < l1
      · have : (l2 : Int) < (l1 : Int) := by omega
        have h3 : ¬ (l1 : Int) < (l2 : Int) := by omega
        simp [h1, h2, this, h3]
      · have : ¬ (l2 : Int) < (l1 : Int) := by omega
        have h3 : ¬ (l1 : Int) < (l2 : Int) := by omega
        simp [h1, h2, this, h3]
  | r + 1, k => by
    simp only [cmpFrom, ltFrom]
    rw [eqB_symm (g k).k]
    cases hq : eqB (f k).k (f k).n (f k).s (g k).k (g k).n (g k).s
    · simp only [Bool.false_eq_true, if_false]
      rw [ltV_swap _ _ _ _ _ _ hq, cmpV_sg, hq]
      cases ltV (f k).k (f k).n (f k).s (g k).k (g k).n (g k).s <;> rfl
    · simp only [if_true]
      exact from_sg f g l1 l2 r (k + 1)

theorem row_sg (s t : Int) (f g : Nat → V) (l1 l2 : Nat) : cmpRow s t f g l1 l2 = sg (ltRow s t f g l1 l2) (!ltRow s t f g l1 l2 && !ltRow t s g f l2 l1) := by
  unfold cmpRow ltRow
  rw [Nat.min_comm l2 l1]
  by_cases hs : s = t
  · subst hs
    simp only [bne_self_eq_false, Bool.false_eq_true, if_false, Int.lt_irrefl]
    exact from_sg f g l1 l2 _ _
  · have hs' : ¬ t = s := fun e => hs e.symm
    rcases Int.lt_or_gt_of_ne hs with h | h
    · simp [sg, hs, h]
    · have : ¬ s < t := by omega
      simp [sg, hs, hs', h, this]
end Go.Proofs.YtmeeoamcelkhmaaGreatDoor
