import Derived.Test.YtodkekmfadfjkaaGreatDoorVShwT
import Derived.Test.YtodkekmfadfjkaaGreatDoorVBkI
import Derived.Test.YtodkekmfadfjkaaGreatDoorVRsB
namespace Go.Proofs.YtodkekmfadfjkaaGreatDoor.Vl
open Go.RowKit
set_option linter.unusedVariables false
set_option maxRecDepth 100000

theorem dgt_toNat (q : Nat) : (dgt q).toNat = 48 + q % 10 := by unfold dgt; rw [UInt8.toNat_ofNat']; omega
theorem wacc_snoc (l : List UInt8) (c : UInt8) : wacc (l ++ [c]) = wstep (wacc l) c := by unfold wacc; rw [List.foldl_append]; rfl
theorem wacc_dec (u : Nat) : wacc (Lib.decDigits u) = wrap64 (u : Int) := by
  induction u using Nat.strongRecOn with
  | ind u ih =>
    have hd : isD (dgt u) = true := by
      unfold isD; rw [dgt_toNat, decide_eq_true (by omega), decide_eq_true (by omega)]; rfl
    by_cases h : u / 10 = 0
    · rw [dec_last u h]
      show wstep 0 (dgt u) = _
      unfold wstep
      rw [hd, if_pos rfl, dgt_toNat]
      unfold wrap64
      omega
    · rw [dec_more u h, wacc_snoc, ih (u / 10) (by omega)]
      unfold wstep
      rw [hd, if_pos rfl, dgt_toNat]
      unfold wrap64
      omega
theorem wholeF_itoa (n : Int) (h0 : -9223372036854775808 ≤ n) (h1 : n ≤ 9223372036854775807) : wholeF (Lib.itoa n) = n := by
  unfold wholeF
  by_cases hn : n < 0
  · have e : Lib.itoa n = 45 :: Lib.decDigits n.natAbs := by unfold Lib.itoa; rw [if_pos hn]
    rw [e, if_pos (by simp)]
    have : wacc (45 :: Lib.decDigits n.natAbs) = wacc (Lib.decDigits n.natAbs) := rfl
    rw [this, wacc_dec]
    unfold wrap64
    omega
  · obtain ⟨c, r, e2, h3, h4⟩ := dec_head n.toNat
    have e : Lib.itoa n = Lib.decDigits n.toNat := by unfold Lib.itoa; rw [if_neg hn]
    rw [e, e2, if_neg (by rw [List.head?_cons]; intro h; have := Option.some.inj h; rw [this] at h3; simp at h3), ← e2, wacc_dec]
    unfold wrap64
    omega

theorem hexv_hexd (a : Nat) (h : a < 16) : hexv (hexd a) = (a : Int) := by
  have : ∀ a : Fin 16, hexv (hexd a.val) = ((a.val : Nat) : Int) := by decide
  exact this ⟨a, h⟩
theorem unq_esc : ∀ l : List UInt8, unq (escAll l) = l
  | [] => rfl
  | c :: l => by
    have ih := unq_esc l
    have e : escAll (c :: l) = esc c ++ escAll l := by simp [escAll]
    rw [e]
    unfold esc
    by_cases hb : bareB c = true
    · rw [if_pos hb]
      rw [List.singleton_append, unq_plain (fun x y t _ hh => bare_ne c hb hh.1), ih]
    · rw [if_neg hb]
      have hc := UInt8.toNat_lt c
      show unq (92 :: hexd (c.toNat / 16) :: hexd (c.toNat % 16) :: escAll l) = _
      rw [unq_turn (by rw [hexv_hexd _ (by omega)]; omega) (by rw [hexv_hexd _ (by omega)]; omega), hexv_hexd _ (by omega), hexv_hexd _ (by omega), ih]
      congr 1
      apply UInt8.toNat_inj.1
      rw [UInt8.toNat_ofNat']
      omega
end Go.Proofs.YtodkekmfadfjkaaGreatDoor.Vl
