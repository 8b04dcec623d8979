import Derived.Test.YtodkekmfadfjkaaGreatDoorVShwT
import Derived.Lib.ParseIntB
namespace Go.Proofs.YtodkekmfadfjkaaGreatDoor.Vl
set_option linter.unusedVariables false

theorem dig_toNat (d : Nat) (h : d < 10) : (UInt8.ofNat (48 + d)).toNat = 48 + d := by
  rw [UInt8.toNat_ofNat']; omega

theorem parse_dec (M : Nat) (hM : M ≤ 18446744073709551615) (u : Nat) (r : List UInt8) (h : u ≤ M) : Lib.parseUintM M 0 (Lib.decDigits u ++ r) = Lib.parseUintM M u r := by
  induction u using Nat.strongRecOn generalizing r with
  | _ u ih =>
    by_cases hu : u < 10
    · rw [Lib.decDigits_one hu, List.singleton_append, Lib.parseUintM, dig_toNat u hu]
      rw [if_pos (by omega), if_neg (by omega), if_neg (by omega)]
      congr 1
      omega
    · rw [Lib.decDigits, dif_neg hu, List.append_assoc, ih (u / 10) (by omega) _ (by omega), List.singleton_append, Lib.parseUintM, dig_toNat (u % 10) (by omega)]
      rw [if_pos (by omega), if_neg (by omega), if_neg (by omega)]
      congr 1
      omega

theorem dec_head (u : Nat) : ∃ c r, Lib.decDigits u = c :: r ∧ 48 ≤ c.toNat ∧ c.toNat ≤ 57 := by
  induction u using Nat.strongRecOn with
  | _ u ih =>
    by_cases hu : u < 10
    · exact ⟨_, _, Lib.decDigits_one hu, by rw [dig_toNat u hu]; omega, by rw [dig_toNat u hu]; omega⟩
    · obtain ⟨c, r, e, h1, h2⟩ := ih (u / 10) (by omega)
      exact ⟨c, r ++ [UInt8.ofNat (48 + u % 10)], by rw [Lib.decDigits, dif_neg hu, e]; rfl, h1, h2⟩

theorem parseB_dec (u : Nat) (h : u ≤ 18446744073709551615) : Lib.parseUintB 64 (Lib.decDigits u) = .ok u := by
  obtain ⟨c, r, e, _, _⟩ := dec_head u
  unfold Lib.parseUintB
  rw [if_neg (by rw [e]; simp)]
  have := parse_dec 18446744073709551615 (by omega) u [] h
  rw [List.append_nil] at this
  rw [show (2 ^ 64 - 1 : Nat) = 18446744073709551615 from rfl, this]
  rfl

theorem parse_itoa (n : Int) (h0 : -9223372036854775808 ≤ n) (h1 : n ≤ 9223372036854775807) : Lib.parseIntB 64 (Lib.itoa n) = .ok n := by
  by_cases hn : n < 0
  · have e : Lib.itoa n = 45 :: Lib.decDigits n.natAbs := by unfold Lib.itoa; rw [if_pos hn]
    rw [e]
    unfold Lib.parseIntB
    have e2 := parseB_dec n.natAbs (by omega)
    have k1 : ¬ (¬ True ∧ 2 ^ (64 - 1) ≤ n.natAbs) := by simp
    have k2 : ¬ (True ∧ 2 ^ (64 - 1) < n.natAbs) := by simp; omega
    simp only [show (45 : UInt8).toNat = 45 from rfl, or_true, if_true, e2, k1, k2, if_false]
    congr 1
    omega
  · have e : Lib.itoa n = Lib.decDigits n.toNat := by unfold Lib.itoa; rw [if_neg hn]
    obtain ⟨c, r, e3, hc1, hc2⟩ := dec_head n.toNat
    have e2 := parseB_dec n.toNat (by omega)
    rw [e]
    rw [e3] at e2 ⊢
    unfold Lib.parseIntB
    have hc : ¬ c.toNat = 43 := by omega
    have hc' : ¬ c.toNat = 45 := by omega
    have k1 : ¬ (¬ False ∧ 2 ^ (64 - 1) ≤ n.toNat) := by simp; omega
    have k2 : ¬ (False ∧ 2 ^ (64 - 1) < n.toNat) := by simp
    simp only [hc, hc', or_self, if_false, e2, k1, k2]
    congr 1
    omega

theorem hexd_all : ∀ a, a < 16 → ∀ b, b < 16 → hexd a = hexd b → a = b := by decide
theorem hexd_inj {a b : Nat} (ha : a < 16) (hb : b < 16) (h : hexd a = hexd b) : a = b := hexd_all a ha b hb h
theorem bare_ne (c : UInt8) (h : bareB c = true) : c ≠ 92 := by
  rintro rfl; revert h; decide
theorem esc_all_inj : ∀ l m : List UInt8, escAll l = escAll m → l = m
  | [], [] => fun _ => rfl
  | [], c :: m => by
    intro h
    have : (escAll (c :: m)).length = 0 := by rw [← h]; rfl
    unfold escAll esc at this
    simp at this
    split at this <;> simp at this
  | c :: l, [] => by
    intro h
    have : (escAll (c :: l)).length = 0 := by rw [h]; rfl
    unfold escAll esc at this
    simp at this
    split at this <;> simp at this
  | c :: l, d :: m => by
    intro h
    have e1 : escAll (c :: l) = esc c ++ escAll l := by simp [escAll]
    have e2 : escAll (d :: m) = esc d ++ escAll m := by simp [escAll]
    rw [e1, e2] at h
    unfold esc at h
    cases hc : bareB c <;> cases hd : bareB d <;> simp only [hc, hd, if_true, if_false, Bool.false_eq_true] at h
    · simp at h
      have hi := hexd_inj (by have := UInt8.toNat_lt c; omega) (by have := UInt8.toNat_lt d; omega) h.1
      have lo := hexd_inj (by omega) (by omega) h.2.1
      have : c = d := UInt8.toNat_inj.1 (by omega)
      rw [this, esc_all_inj l m h.2.2]
    · simp at h
      exact absurd h.1.symm (bare_ne d hd)
    · simp at h
      exact absurd h.1 (bare_ne c hc)
    · simp at h
      rw [h.1, esc_all_inj l m h.2]
end Go.Proofs.YtodkekmfadfjkaaGreatDoor.Vl
