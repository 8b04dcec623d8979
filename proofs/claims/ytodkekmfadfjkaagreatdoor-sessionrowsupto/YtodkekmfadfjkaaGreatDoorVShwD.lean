import Derived.Test.YtodkekmfadfjkaaGreatDoorProg
import Derived.WalkKit
import Derived.Below
import Derived.Handy
import Derived.Lib.ItoaLen
namespace Go.Proofs.YtodkekmfadfjkaaGreatDoor.Vl
open Go.RowKit
set_option linter.unusedVariables false

theorem ret_strD {a b : ByteArray} (h : a = b) : Ending.returned (.string a) = .returned (.string b) := by rw [h]

/-- The last digit of a number, as a letter. -/
def dgt (q : Nat) : UInt8 := UInt8.ofNat (48 + q % 10)

theorem slice_digit_nat (d : Nat) (h1 : d < 10) (w : World) :
    (Instr.slice 9 (.string ⟨#[48, 49, 50, 51, 52, 53, 54, 55, 56, 57]⟩) (some (.int .i64 (d : Int))) (some (.int .i64 ((d : Int) + 1))) none).run Tryz.prog w = .ok (.string ⟨#[dgt d]⟩) w := by
  have : d = 0 ∨ d = 1 ∨ d = 2 ∨ d = 3 ∨ d = 4 ∨ d = 5 ∨ d = 6 ∨ d = 7 ∨ d = 8 ∨ d = 9 := by omega
  rcases this with rfl | rfl | rfl | rfl | rfl | rfl | rfl | rfl | rfl | rfl
  all_goals (show Sem.run Tryz.prog _ w = _; kernel_rfl)
theorem slice_digit (q : Nat) (w : World) :
    (Instr.slice 9 (.string ⟨#[48, 49, 50, 51, 52, 53, 54, 55, 56, 57]⟩) (some (.int .i64 ((q : Int) % 10))) (some (.int .i64 ((q : Int) % 10 + 1))) none).run Tryz.prog w = .ok (.string ⟨#[dgt q]⟩) w := by
  have h := slice_digit_nat (q % 10) (by omega) w
  have e : dgt (q % 10) = dgt q := by unfold dgt; rw [Nat.mod_mod]
  rw [e] at h
  exact h

theorem dec_last (q : Nat) (h : q / 10 = 0) : Lib.decDigits q = [dgt q] := by
  have hq : q < 10 := by omega
  rw [Lib.decDigits_one hq]; unfold dgt; rw [Nat.mod_eq_of_lt hq]
theorem dec_more (q : Nat) (h : ¬ q / 10 = 0) : Lib.decDigits q = Lib.decDigits (q / 10) ++ [dgt q] := by
  have hq : ¬ q < 10 := by omega
  rw [Lib.decDigits, dif_neg hq]; rfl
theorem dec_len (n : Nat) (h : n ≤ 9223372036854775808) (q : Nat) (t : List UInt8) (e : Lib.decDigits n = Lib.decDigits q ++ t) : t.length ≤ 20 := by
  have h1 := congrArg List.length e
  rw [List.length_append, Lib.decDigits_length] at h1
  have := Lib.nDigits_le20 n (by omega)
  omega
theorem str_join (a : UInt8) (t : List UInt8) : ((⟨#[a]⟩ : ByteArray) ++ ⟨t.toArray⟩) = ⟨(a :: t).toArray⟩ := by
  apply ByteArray.ext
  simp

set_option maxRecDepth 100000 in
set_option maxHeartbeats 400000 in
theorem decimal_pos (n : Nat) (w : World) (h : n ≤ 9223372036854775807) :
    Calls Tryz.prog 36 #[.int .i64 n] w fun e w' => e = .returned (.string ⟨(Lib.itoa n).toArray⟩) ∧ w' = w := by
  have HI : Hid (Lib.itoa (n : Int) = Lib.decDigits n) := by unfold Hid Lib.itoa; rw [if_neg (by omega)]; simp
  have HN : Hid (n ≤ 9223372036854775807) := h
  have hn0 : ¬ ((n : Int) < 0) := by omega
  clear h
  go_enter Tryz.func36, Tryz.ntmps36
  go_wp2
  go_loop [3, 4] (fun s i => ∃ q : Nat, ∃ t : List UInt8, q ≤ n ∧ i = .int .i64 q ∧ s = .string ⟨t.toArray⟩ ∧ Lib.decDigits n = Lib.decDigits q ++ t) (fun _ i => (intOf i).toNat)
  case atStart => exact ⟨n, [], Nat.le_refl _, rfl, rfl, by simp⟩
  case round =>
    obtain ⟨q, t, hq, rfl, rfl, hd0⟩ := hrel
    have hl := dec_len n (by have := HN.out; omega) q t hd0
    have HD : Hid (Lib.decDigits n = Lib.decDigits q ++ t) := hd0
    have h0 : (0 : Int) ≤ (q : Int) := by omega
    have h1 : (q : Int) ≤ 9223372036854775807 := by have := HN.out; omega
    have hm : ¬ ((q : Int) % 10 < 0) := by omega
    have hs := slice_digit q
    clear hd0
    by_cases hz : q / 10 = 0
    · have hzb : ((q : Int) / 10 == 0) = true := by simp; omega
      have HF : Hid (Lib.itoa (n : Int) = dgt q :: t) := by unfold Hid; rw [HI.out, HD.out, dec_last q hz]; rfl
      clear hz
      go_wp2
      go_ret
      exact ⟨ret_strD (by rw [HF.out, str_join]), rfl⟩
    · have hzb : ((q : Int) / 10 == 0) = false := by simp; omega
      have HF : Hid (Lib.decDigits n = Lib.decDigits (q / 10) ++ (dgt q :: t)) := by unfold Hid; rw [HD.out, dec_more q hz]; simp
      have HZ : Hid (¬ q / 10 = 0) := hz
      clear hz
      go_wp2
      refine ⟨⟨q / 10, dgt q :: t, by omega, by go_num, by rw [str_join], HF.out⟩, ?_⟩
      have := HZ.out
      simp [intOf]
      omega

set_option maxRecDepth 100000 in
set_option maxHeartbeats 400000 in
theorem decimal_neg (n : Nat) (w : World) (h : n ≤ 9223372036854775808) (hp : 0 < n) :
    Calls Tryz.prog 36 #[.int .i64 (-(n : Int))] w fun e w' => e = .returned (.string ⟨(Lib.itoa (-(n : Int))).toArray⟩) ∧ w' = w := by
  have HI : Hid (Lib.itoa (-(n : Int)) = 45 :: Lib.decDigits n) := by unfold Hid Lib.itoa; rw [if_pos (by omega)]; simp
  have HN : Hid (n ≤ 9223372036854775808) := h
  have hn0 : (-(n : Int) < 0) := by omega
  clear h
  go_enter Tryz.func36, Tryz.ntmps36
  go_wp2
  go_loop [3, 4] (fun s i => ∃ q : Nat, ∃ t : List UInt8, 0 < q ∧ q ≤ n ∧ i = .int .i64 (-(q : Int)) ∧ s = .string ⟨t.toArray⟩ ∧ Lib.decDigits n = Lib.decDigits q ++ t) (fun _ i => (-(intOf i)).toNat)
  case atStart => exact ⟨n, [], hp, Nat.le_refl _, rfl, rfl, by simp⟩
  case round =>
    obtain ⟨q, t, hq0, hq, rfl, rfl, hd0⟩ := hrel
    have hl := dec_len n (by have := HN.out; omega) q t hd0
    have HD : Hid (Lib.decDigits n = Lib.decDigits q ++ t) := hd0
    have h0 : (0 : Int) ≤ (q : Int) := by omega
    have h1 : (q : Int) ≤ 9223372036854775808 := by have := HN.out; omega
    have et : (-(q : Int)).tmod 10 = -((q : Int) % 10) := by rw [Int.neg_tmod, Int.tmod_eq_emod_of_nonneg h0]
    have ed : (-(q : Int)).tdiv 10 = -((q : Int) / 10) := by rw [Int.neg_tdiv, Int.tdiv_eq_ediv_of_nonneg h0]
    have hs := slice_digit q
    clear hd0
    by_cases hm : (q : Int) % 10 = 0
    · have hm' : ¬ (-((q : Int) % 10) < 0) := by omega
      have HF : Hid (Lib.decDigits n = Lib.decDigits (q / 10) ++ (dgt q :: t)) := by unfold Hid; rw [HD.out, dec_more q (by omega)]; simp
      have HZ : Hid ((⟨#[48, 49, 50, 51, 52, 53, 54, 55, 56, 57]⟩ : ByteArray).extract 0 1 = ⟨#[dgt q]⟩) := by
        unfold Hid dgt; rw [show q % 10 = 0 by omega]; decide +kernel
      go_wp2
      refine ⟨⟨q / 10, dgt q :: t, by omega, by omega, by go_num, by rw [HZ.out, str_join], HF.out⟩, ?_⟩
      simp [intOf]
      omega
    · have hm' : (-((q : Int) % 10) < 0) := by omega
      by_cases hz : q / 10 = 0
      · have hzb : (-((q : Int) / 10) == 0) = true := by simp; omega
        have HF : Hid (Lib.itoa (-(n : Int)) = 45 :: dgt q :: t) := by unfold Hid; rw [HI.out, HD.out, dec_last q hz]; rfl
        clear hz
        go_wp2
        go_ret
        exact ⟨ret_strD (by rw [HF.out, str_join, str_join]), rfl⟩
      · have hzb : (-((q : Int) / 10) == 0) = false := by simp; omega
        have HF : Hid (Lib.decDigits n = Lib.decDigits (q / 10) ++ (dgt q :: t)) := by unfold Hid; rw [HD.out, dec_more q hz]; simp
        have HZ : Hid (¬ q / 10 = 0) := hz
        clear hz
        go_wp2
        refine ⟨⟨q / 10, dgt q :: t, by have := HZ.out; omega, by omega, by go_num, by rw [str_join], HF.out⟩, ?_⟩
        have := HZ.out
        simp [intOf]
        omega

theorem decimal_any (n : Int) (w : World) (h0 : -9223372036854775808 ≤ n) (h1 : n ≤ 9223372036854775807) :
    Calls Tryz.prog 36 #[.int .i64 n] w fun e w' => e = .returned (.string ⟨(Lib.itoa n).toArray⟩) ∧ w' = w := by
  by_cases hn : n < 0
  · obtain ⟨u, rfl⟩ : ∃ u : Nat, n = -(u : Int) := ⟨n.natAbs, by omega⟩
    exact decimal_neg u w (by omega) (by omega)
  · obtain ⟨u, rfl⟩ : ∃ u : Nat, n = (u : Int) := ⟨n.toNat, by omega⟩
    exact decimal_pos u w (by omega)
end Go.Proofs.YtodkekmfadfjkaaGreatDoor.Vl
