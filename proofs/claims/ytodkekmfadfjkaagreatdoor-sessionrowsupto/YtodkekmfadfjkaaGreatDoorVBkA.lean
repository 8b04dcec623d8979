import Derived.Test.YtodkekmfadfjkaaGreatDoorVShwT
import Derived.Lib.ConvBytes
import Derived.Laws.BitsAllLaws
namespace Go.Proofs.YtodkekmfadfjkaaGreatDoor.Vl
open Go.RowKit
set_option linter.unusedVariables false
set_option maxRecDepth 100000

/-- A letter of a digit: what the library's tests say of it. -/
def Dig (c a : Nat) : Prop := (a < 10 ∧ c = 48 + a) ∨ (10 ≤ a ∧ a < 16 ∧ c = 87 + a)
theorem dig_hexd (a : Nat) (h : a < 16) : Dig (hexd a).toNat a := by
  unfold hexd Dig
  by_cases h1 : a < 10
  · left; rw [if_pos h1]; simp; omega
  · right; rw [if_neg h1]; simp; omega
theorem lower_dig (a : Nat) (h1 : 10 ≤ a) (h2 : a < 16) : bits .or .u8 (87 + (a : Int)) 32 = 87 + (a : Int) := by
  have : a = 10 ∨ a = 11 ∨ a = 12 ∨ a = 13 ∨ a = 14 ∨ a = 15 := by omega
  rcases this with rfl | rfl | rfl | rfl | rfl | rfl <;> decide +kernel

theorem ret_pair {k : IntKind} {a b : Int} {v : Value} (h : a = b) : Ending.returned (.tuple #[.int k a, v]) = .returned (.tuple #[.int k b, v]) := by rw [h]

set_option maxHeartbeats 1000000 in
theorem parse16_core (s : ByteArray) (c1 c2 a b cap : Nat) (w W : World) (hsz : s.size = 2) (hne : s.toList.isEmpty = false)
    (hcv : (convert 9 46 (.string s)).run Tryz.prog w = .ok (.slice (some ⟨w.heap.size, 0, none⟩) 2 cap) W)
    (k0 : W.cell? ⟨w.heap.size, 0, none⟩ = some (.int .u8 (c1 : Int))) (k1 : W.cell? ⟨w.heap.size, 1, none⟩ = some (.int .u8 (c2 : Int))) (d1 : Dig c1 a) (d2 : Dig c2 b) :
    Calls Tryz.prog 80 #[.string s, .int .i64 16, .int .i64 8] w fun e w' => e = .returned (.tuple #[.int .u64 ((16 * a + b : Nat) : Int), .nilIface]) ∧ w' = W := by
  rcases d1 with ⟨ha, rfl⟩ | ⟨ha1, ha2, rfl⟩
  · rcases d2 with ⟨hb, rfl⟩ | ⟨hb1, hb2, rfl⟩
    · go_enter Tryz.func80, Tryz.ntmps80
      go_wp2
      refine wp_loop_rounds 3 ?_
      rw [rounds_succ]; go_wp2
      rw [rounds_succ]; go_wp2
      rw [rounds_succ]; go_wp2
      go_ret2
      exact ⟨ret_pair (by omega), rfl⟩
    · have l2 := lower_dig b hb1 hb2
      go_enter Tryz.func80, Tryz.ntmps80
      go_wp2
      refine wp_loop_rounds 3 ?_
      rw [rounds_succ]; go_wp2
      rw [rounds_succ]; go_wp2
      rw [rounds_succ]; go_wp2
      go_ret2
      exact ⟨ret_pair (by omega), rfl⟩
  · have l1 := lower_dig a ha1 ha2
    rcases d2 with ⟨hb, rfl⟩ | ⟨hb1, hb2, rfl⟩
    · go_enter Tryz.func80, Tryz.ntmps80
      go_wp2
      refine wp_loop_rounds 3 ?_
      rw [rounds_succ]; go_wp2
      rw [rounds_succ]; go_wp2
      rw [rounds_succ]; go_wp2
      go_ret2
      exact ⟨ret_pair (by omega), rfl⟩
    · have l2 := lower_dig b hb1 hb2
      go_enter Tryz.func80, Tryz.ntmps80
      go_wp2
      refine wp_loop_rounds 3 ?_
      rw [rounds_succ]; go_wp2
      rw [rounds_succ]; go_wp2
      rw [rounds_succ]; go_wp2
      go_ret2
      exact ⟨ret_pair (by omega), rfl⟩

theorem below_bytes (w : World) (e : TypeId) (s : ByteArray) : Below w.heap.size w (Lib.bytesWorld w e s) :=
  ⟨rfl, rfl, rfl, by rw [Lib.bytesWorld_size]; omega, fun j hj => Lib.bytesWorld_at_old w e s j hj⟩

theorem parse16 (a b : Nat) (ha : a < 16) (hb : b < 16) (w : World) :
    Calls Tryz.prog 80 #[.string ⟨#[hexd a, hexd b]⟩, .int .i64 16, .int .i64 8] w fun e w' => e = .returned (.tuple #[.int .u64 ((16 * a + b : Nat) : Int), .nilIface]) ∧ Below w.heap.size w w' := by
  refine (parse16_core ⟨#[hexd a, hexd b]⟩ (hexd a).toNat (hexd b).toNat a b _ w (Lib.bytesWorld w 5 ⟨#[hexd a, hexd b]⟩) rfl (by simp) (Lib.run_convert_string_bytes w 9 46 5 _ Tryz.underlying9 Tryz.underlying46 Tryz.underlying5)
    (Lib.bytesWorld_cell w 5 ⟨#[hexd a, hexd b]⟩ 0 (by show (0 : Nat) < 2; omega)) (Lib.bytesWorld_cell w 5 ⟨#[hexd a, hexd b]⟩ 1 (by show (1 : Nat) < 2; omega)) (dig_hexd a ha) (dig_hexd b hb)).mono ?_
  rintro e w' ⟨rfl, rfl⟩
  exact ⟨rfl, below_bytes _ _ _⟩

theorem parseUint16 (a b : Nat) (ha : a < 16) (hb : b < 16) (w : World) :
    Calls Tryz.prog 72 #[.string ⟨#[hexd a, hexd b]⟩, .int .i64 16, .int .i64 8] w fun e w' => e = .returned (.tuple #[.int .u64 ((16 * a + b : Nat) : Int), .nilIface]) ∧ Below w.heap.size w w' := by
  go_enter Tryz.func72, Tryz.ntmps72
  go_wp2_with (first | (go_at_call 80; refine (parse16 a b ha hb _).mono ?_; rintro e w2 ⟨rfl, hbb⟩))
  go_ret2
  exact ⟨rfl, hbb⟩
end Go.Proofs.YtodkekmfadfjkaaGreatDoor.Vl
