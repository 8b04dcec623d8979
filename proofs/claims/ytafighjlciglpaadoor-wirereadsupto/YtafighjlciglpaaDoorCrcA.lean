import Derived.Test.YtafighjlciglpaaDoorProg
import Derived.Test.YtafighjlciglpaaDoorCrcM
import Derived.WalkKit
import Derived.Below
import Derived.WalkSmall
import Derived.LoopN
import Derived.Laws.BitsAllLaws
import Derived.Handy
import Derived.KernelRfl
namespace Go.Proofs.YtafighjlciglpaaDoor
open Go.RowKit
set_option linter.unusedVariables false
set_option maxRecDepth 100000

theorem ret_int {k : IntKind} {a b : Int} (h : a = b) : Ending.returned (.int k a) = .returned (.int k b) := by rw [h]
theorem ret_bool {a b : Bool} (h : a = b) : Ending.returned (.bool a) = .returned (.bool b) := by rw [h]
theorem ret_str {a b : ByteArray} (h : a = b) : Ending.returned (.string a) = .returned (.string b) := by rw [h]
theorem cell_later {w wx : World} {a : Addr} {v : Value} (hb : Below w.heap.size w wx) (h : w.cell? a = some v) : wx.cell? a = some v := (hb.cell (World.block_lt_of_cell? _ _ h)).trans h
theorem bel1 (w : World) (o1 : Obj) : Below w.heap.size w (w.alloc o1) := (Below.refl _ _).alloc (Nat.le_refl _) _

/-- 'len' bytes lie in memory where the slice 'a' begins. -/
def Bytes (w : World) (a : Option Addr) (len : Nat) (f : Nat → UInt8) : Prop :=
  ∀ i, i < len → ∃ b off, a = some ⟨b, off, none⟩ ∧ w.cell? ⟨b, off + i, none⟩ = some (.int .u8 ((f i).toNat : Int))
theorem Bytes.later {w wx : World} {a : Option Addr} {len : Nat} {f : Nat → UInt8} (h : Bytes w a len f) (hb : Below w.heap.size w wx) : Bytes wx a len f := fun i hi => by
  obtain ⟨b, off, e, h1⟩ := h i hi
  exact ⟨b, off, e, cell_later hb h1⟩

/-- The table lies where the program's start lays it. -/
def Quart (w : World) : Prop := ∀ i, i < 16 → w.cell? ⟨1, i, none⟩ = some (.int .u32 (tab i : Int))
theorem Quart.later {w wx : World} (h : Quart w) (hb : Below w.heap.size w wx) : Quart wx := fun i hi => cell_later hb (h i hi)

theorem and15 (x : Nat) (h : x < 4294967296) : bits .and .u32 (x : Int) 15 = ((x % 16 : Nat) : Int) := by
  have := u32_and_nat x 15 h (by omega)
  rw [show ((15 : Nat) : Int) = (15 : Int) from rfl] at this
  rw [this]
  congr 1
  exact Nat.and_two_pow_sub_one_eq_mod x 4
theorem xorq (x : Nat) (h : x < 4294967296) : bits .xor .u32 ((x : Int) / 16) ((tab (x % 16) : Nat) : Int) = ((q4 x : Nat) : Int) := by
  have := u32_xor_nat (x / 16) (tab (x % 16)) (by omega) (tab_lt _)
  exact this

set_option maxHeartbeats 400000 in
theorem sum_any (a : Option Addr) (len cap : Nat) (f : Nat → UInt8) (w : World) (hl : Bytes w a len f) (hm : len ≤ maxLen) (hq : Quart w) :
    Calls Tryd.prog 23 #[.slice a len cap] w fun e w' => e = .returned (.int .u32 (sumN f len)) ∧ w' = w := by
  have HL : Hid (Bytes w a len f) := hl
  have HQ : Hid (Quart w) := hq
  unfold maxLen at hm
  clear hl hq
  go_enter Tryd.func23, Tryd.ntmps23
  go_wp2
  go_loop [3, 8] (fun r i => ∃ k : Nat, k ≤ len ∧ i = .int .i64 k ∧ r = .int .u32 (regTo f k : Int)) (fun _ i => len - (intOf i).toNat)
  case atStart => exact ⟨0, Nat.zero_le _, rfl, rfl⟩
  case round =>
    obtain ⟨k, hk, rfl, rfl⟩ := hrel
    have hr := regTo_lt f k
    by_cases hlt : k < len
    · have hi : (k : Int) < (len : Int) := by omega
      obtain ⟨b, o, rfl, ha1⟩ := HL.out k hlt
      have HS : Hid (regTo f (k + 1) = byteStep (regTo f k) (f k).toNat) := rfl
      have t2 := UInt8.toNat_lt (f k)
      generalize regTo f k = r at *
      generalize (f k).toNat = c at *
      have e1 := u32_xor_nat r c hr (by omega)
      have hx := xor_lt r c hr (by omega)
      have e2 := and15 (r ^^^ c) hx
      have e3 := xorq (r ^^^ c) hx
      have hy := q4_lt _ hx
      have e4 := and15 (q4 (r ^^^ c)) hy
      have e5 := xorq (q4 (r ^^^ c)) hy
      have hz := q4_lt _ hy
      have c1 := HQ.out ((r ^^^ c) % 16) (by omega)
      have c2 := HQ.out (q4 (r ^^^ c) % 16) (by omega)
      have HS' : Hid (regTo f (k + 1) = q4 (q4 (r ^^^ c))) := HS.out
      clear HS
      generalize r ^^^ c = x at *
      generalize q4 x = y at *
      generalize q4 y = z at *
      have hm1 : x % 16 < 16 := by omega
      have hm2 : y % 16 < 16 := by omega
      generalize x % 16 = m at *
      generalize y % 16 = n at *
      generalize tab m = tm at *
      generalize tab n = tn at *
      have b0 : (0 : Int) ≤ (m : Int) := by omega
      have b1 : (m : Int) < 16 := by omega
      have b2 : (0 : Int) ≤ (n : Int) := by omega
      have b3 : (n : Int) < 16 := by omega
      have b4 : (0 : Int) ≤ (c : Int) := by omega
      have b5 : (c : Int) ≤ 255 := by omega
      clear HL HQ
      go_wp2
      refine ⟨⟨k + 1, by omega, by go_num, by rw [HS'.out]⟩, ?_⟩
      simp [intOf]
      omega
    · have e : k = len := by omega
      subst e
      have HS : Hid (sumN f k = regTo f k ^^^ 4294967295) := rfl
      generalize regTo f k = r at *
      have e1 : bits .xor .u32 IntKind.u32.max (r : Int) = ((r ^^^ 4294967295 : Nat) : Int) := by
        have := u32_xor_nat 4294967295 r (by omega) hr
        rw [Nat.xor_comm] at this
        exact this
      go_wp2
      go_ret
      exact ⟨ret_int (by rw [HS.out, ← e1]), rfl⟩

theorem and1 (x : Nat) (h : x < 4294967296) : bits .and .u32 (x : Int) 1 = ((x % 2 : Nat) : Int) := by
  have := u32_and_nat x 1 h (by omega)
  rw [show ((1 : Nat) : Int) = (1 : Int) from rfl] at this
  rw [this]
  congr 1
  exact Nat.and_two_pow_sub_one_eq_mod x 1
theorem bitStep_lt (r b : Nat) (h : r < 4294967296) : bitStep r b < 4294967296 := by
  unfold bitStep
  refine xor_lt _ _ (by omega) ?_
  split <;> decide
theorem bitsTo_lt (r c : Nat) (h : r < 4294967296) : ∀ k, bitsTo r c k < 4294967296
  | 0 => h
  | k + 1 => bitStep_lt _ _ (bitsTo_lt r c h k)

end Go.Proofs.YtafighjlciglpaaDoor
