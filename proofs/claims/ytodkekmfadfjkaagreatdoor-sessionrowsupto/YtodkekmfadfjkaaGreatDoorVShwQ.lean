import Derived.Test.YtodkekmfadfjkaaGreatDoorProg
import Derived.WalkKit
import Derived.Below
import Derived.WalkSmall
import Derived.Handy
import Derived.KernelRfl
import Derived.Deep.RegionHeld3
import Derived.Deep.DrawnRows
import Derived.Deep.QuietTactic
import Derived.BigQuiet
namespace Go.Proofs.YtodkekmfadfjkaaGreatDoor.Vl
open Go.RowKit
set_option linter.unusedVariables false

def bareB (c : UInt8) : Bool := decide (32 ≤ c.toNat) && (decide (c.toNat ≤ 126) && (!(c.toNat == 39) && !(c.toNat == 92)))
def hexd (d : Nat) : UInt8 := if d < 10 then UInt8.ofNat (48 + d) else UInt8.ofNat (87 + d)
def esc (c : UInt8) : List UInt8 := if bareB c = true then [c] else [92, hexd (c.toNat / 16), hexd (c.toNat % 16)]
def escAll (l : List UInt8) : List UInt8 := l.flatMap esc
theorem escAll_snoc (l : List UInt8) (c : UInt8) : escAll (l ++ [c]) = escAll l ++ esc c := by unfold escAll; simp
theorem esc_len (c : UInt8) : (esc c).length ≤ 3 := by unfold esc; split <;> simp
theorem escAll_len : ∀ l : List UInt8, (escAll l).length ≤ 3 * l.length
  | [] => by simp [escAll]
  | c :: l => by
    have h1 := escAll_len l
    have h2 := esc_len c
    unfold escAll at *
    simp only [List.flatMap_cons, List.length_append, List.length_cons]
    omega


theorem slice_hex_nat (d : Nat) (h1 : d < 16) (w : World) :
    (Instr.slice 9 (.string ⟨#[48, 49, 50, 51, 52, 53, 54, 55, 56, 57, 97, 98, 99, 100, 101, 102]⟩) (some (.int .u8 (d : Int))) (some (.int .u8 ((d : Int) + 1))) none).run Tryz.prog w = .ok (.string ⟨#[hexd d]⟩) w := by
  have : d = 0 ∨ d = 1 ∨ d = 2 ∨ d = 3 ∨ d = 4 ∨ d = 5 ∨ d = 6 ∨ d = 7 ∨ d = 8 ∨ d = 9 ∨ d = 10 ∨ d = 11 ∨ d = 12 ∨ d = 13 ∨ d = 14 ∨ d = 15 := by omega
  rcases this with rfl | rfl | rfl | rfl | rfl | rfl | rfl | rfl | rfl | rfl | rfl | rfl | rfl | rfl | rfl | rfl
  all_goals (show Sem.run Tryz.prog _ w = _; kernel_rfl)
theorem slice_hex_hi (c : Nat) (h : c < 256) (w : World) :
    (Instr.slice 9 (.string ⟨#[48, 49, 50, 51, 52, 53, 54, 55, 56, 57, 97, 98, 99, 100, 101, 102]⟩) (some (.int .u8 ((c : Int) / 16))) (some (.int .u8 ((c : Int) / 16 + 1))) none).run Tryz.prog w = .ok (.string ⟨#[hexd (c / 16)]⟩) w :=
  slice_hex_nat (c / 16) (by omega) w
theorem slice_hex_lo (c : Nat) (w : World) :
    (Instr.slice 9 (.string ⟨#[48, 49, 50, 51, 52, 53, 54, 55, 56, 57, 97, 98, 99, 100, 101, 102]⟩) (some (.int .u8 ((c : Int) % 16))) (some (.int .u8 ((c : Int) % 16 + 1))) none).run Tryz.prog w = .ok (.string ⟨#[hexd (c % 16)]⟩) w :=
  slice_hex_nat (c % 16) (by omega) w

theorem slice_one (t : ByteArray) (k : Nat) (h : k < t.size) (w : World) :
    (Instr.slice 9 (.string t) (some (.int .i64 (k : Int))) (some (.int .i64 ((k : Int) + 1))) none).run Tryz.prog w = .ok (.string ⟨#[t[k]]⟩) w := by
  have e : t.extract k (k + 1) = ⟨#[t[k]]⟩ := by
    apply ByteArray.ext
    apply Array.ext
    · simp; omega
    · intro i h1 h2
      have hi : i = 0 := by simp at h2; omega
      subst hi
      simp
      rfl
  rw [run_slice_string w 9 t .i64 .i64 k ((k : Int) + 1) Tryz.underlying9 (by omega) (by omega) (by omega)]
  rw [show ((k : Int) + 1).toNat = k + 1 by omega, Int.toNat_natCast, e]

theorem take_snoc (s : ByteArray) (k : Nat) (h : k < s.size) : s.data.toList.take (k + 1) = s.data.toList.take k ++ [s[k]] := by
  rw [List.take_succ_eq_append_getElem (by simpa using h)]; rfl

/-- The four ways in which a letter is odd, or that it is not: the tests in the order of the text. -/
theorem bare_cases (c : UInt8) : (bareB c = true ∧ ¬ ((c.toNat : Int) < 32) ∧ ¬ (126 < (c.toNat : Int)) ∧ ((c.toNat : Int) == 39) = false ∧ ((c.toNat : Int) == 92) = false) ∨
    (bareB c = false ∧ (c.toNat : Int) < 32) ∨ (bareB c = false ∧ ¬ ((c.toNat : Int) < 32) ∧ 126 < (c.toNat : Int)) ∨
    (bareB c = false ∧ ¬ ((c.toNat : Int) < 32) ∧ ¬ (126 < (c.toNat : Int)) ∧ ((c.toNat : Int) == 39) = true) ∨
    (bareB c = false ∧ ¬ ((c.toNat : Int) < 32) ∧ ¬ (126 < (c.toNat : Int)) ∧ ((c.toNat : Int) == 39) = false ∧ ((c.toNat : Int) == 92) = true) := by
  unfold bareB
  by_cases h1 : c.toNat < 32
  · right; left; simp; omega
  by_cases h2 : 126 < c.toNat
  · right; right; left; simp; omega
  by_cases h3 : c.toNat = 39
  · right; right; right; left; simp [h3]
  by_cases h4 : c.toNat = 92
  · right; right; right; right; simp [h4]
  left; simp; omega

theorem str_join3 (X : List UInt8) (a b : UInt8) : ((((⟨(39 :: X).toArray⟩ : ByteArray) ++ ⟨#[92]⟩) ++ ⟨#[a]⟩) ++ ⟨#[b]⟩) = ⟨(39 :: (X ++ [92, a, b])).toArray⟩ := by
  apply ByteArray.ext
  simp
theorem str_join1 (X : List UInt8) (a : UInt8) : ((⟨(39 :: X).toArray⟩ : ByteArray) ++ ⟨#[a]⟩) = ⟨(39 :: (X ++ [a])).toArray⟩ := by
  apply ByteArray.ext
  simp
theorem str_end (X : List UInt8) : ((⟨(39 :: X).toArray⟩ : ByteArray) ++ ⟨#[39]⟩) = ⟨(39 :: (X ++ [39])).toArray⟩ := by
  apply ByteArray.ext
  simp
theorem ret_str' {a b : ByteArray} (h : a = b) : Ending.returned (.string a) = .returned (.string b) := by rw [h]

set_option maxRecDepth 100000 in
set_option maxHeartbeats 1000000 in
theorem quote_any (t : ByteArray) (w : World) (h : t.size ≤ 60) :
    Calls Tryz.prog 37 #[.string t] w fun e w' => e = .returned (.string ⟨(39 :: escAll t.data.toList ++ [39]).toArray⟩) ∧ ∃ n, w' = w.drewN n := by
  go_enter Tryz.func37, Tryz.ntmps37
  go_wp2
  go_loopw [3, 4] (fun s i w' => ∃ k : Nat, ∃ m : Nat, k ≤ t.size ∧ i = .int .i64 k ∧ s = .string ⟨(39 :: escAll (t.data.toList.take k)).toArray⟩ ∧ w' = w.drewN m) (fun _ i _ => t.size - (intOf i).toNat)
  case atStart => exact ⟨0, 0, Nat.zero_le _, rfl, rfl, rfl⟩
  case round =>
    obtain ⟨k, m, hk, rfl, rfl, rfl⟩ := hrel
    by_cases hlt : k < t.size
    · have hi : (k : Int) < (t.size : Int) := by omega
      have hl := escAll_len (t.data.toList.take k)
      have hll : (t.data.toList.take k).length ≤ k := List.length_take_le _ _
      have HX : (escAll (t.data.toList.take k)).length ≤ 180 := by omega
      have HE : Hid (escAll (t.data.toList.take (k + 1)) = escAll (t.data.toList.take k) ++ esc t[k]) := by unfold Hid; rw [take_snoc t k hlt, escAll_snoc]
      clear hl hll
      have s1 := slice_hex_hi t[k].toNat (UInt8.toNat_lt _)
      have s2 := slice_hex_lo t[k].toNat
      have hc := bare_cases t[k]
      generalize hXX : escAll (t.data.toList.take k) = X at *
      clear hXX
      have hsl := slice_one t k hlt
      have b1 : (9223372036854775807 < X.length + 1 + 1) = False := by simp; omega
      have b2 : (9223372036854775807 < X.length + 1 + 1 + 1) = False := by simp; omega
      have b3 : (9223372036854775807 < X.length + 1 + 1 + 1 + 1) = False := by simp; omega
      have t1 : (0 : Int) ≤ (t[k].toNat : Int) := by omega
      have t2 : (t[k].toNat : Int) ≤ 255 := by have := UInt8.toNat_lt t[k]; omega
      rcases hc with ⟨hb, c1, c2, c3, c4⟩ | hc
      · have HE' : Hid (escAll (t.data.toList.take (k + 1)) = X ++ [t[k]]) := by unfold Hid; rw [HE.out]; unfold esc; rw [if_pos hb]
        clear HE hb
        go_wp2
        go_roundw
        case rel => exact ⟨k + 1, _, by omega, by go_num, by rw [HE'.out, ← str_join1], rfl⟩
        case measure => simp [intOf]; omega
      · have hb : bareB t[k] = false := by rcases hc with h | h | h | h <;> exact h.1
        have HE' : Hid (escAll (t.data.toList.take (k + 1)) = X ++ [92, hexd (t[k].toNat / 16), hexd (t[k].toNat % 16)]) := by unfold Hid; rw [HE.out]; unfold esc; rw [if_neg (by simp [hb])]
        clear HE hb
        rcases hc with ⟨_, c1⟩ | ⟨_, c1, c2⟩ | ⟨_, c1, c2, c3⟩ | ⟨_, c1, c2, c3, c4⟩
        all_goals
          go_wp2
          go_quiet (fail)
          go_wp2
          go_roundw
          case rel => exact ⟨k + 1, _, by omega, by go_num, by rw [HE'.out, ← str_join3], rfl⟩
          case measure => simp [intOf]; omega
    · have hk' : k = t.size := by omega
      have HF : Hid (escAll (t.data.toList.take k) = escAll t.data.toList) := by unfold Hid; rw [List.take_of_length_le (by simp; omega)]
      have hl := escAll_len (t.data.toList.take k)
      have hll : (t.data.toList.take k).length ≤ k := List.length_take_le _ _
      have HX : (escAll (t.data.toList.take k)).length ≤ 180 := by omega
      clear hl hll hk'
      generalize hXX : escAll (t.data.toList.take k) = X at *
      clear hXX
      go_wp2
      go_ret
      exact ⟨ret_str' (by rw [← HF.out, ← str_end]), _, rfl⟩
end Go.Proofs.YtodkekmfadfjkaaGreatDoor.Vl
