import Derived.Test.YtafighjlciglpaaDoorOpnA
namespace Go.Proofs.YtafighjlciglpaaDoor
open Go.RowKit
set_option linter.unusedVariables false
set_option maxRecDepth 100000

def wordN (f : Nat → UInt8) : Nat := (f 0).toNat * 16777216 + (f 1).toNat * 65536 + (f 2).toNat * 256 + (f 3).toNat

theorem or_sum (a b k : Nat) (hb : b < 2 ^ k) (h : a * 2 ^ k < 4294967296) (h' : b < 4294967296) : bits .or .u32 ((a * 2 ^ k : Nat) : Int) (b : Int) = ((a * 2 ^ k + b : Nat) : Int) := by
  rw [u32_or_nat _ _ h h', Nat.mul_comm, Nat.two_pow_add_eq_or_of_lt hb]
theorem or_word (x0 x1 x2 x3 : Nat) (t0 : x0 < 2 ^ 8) (t1 : x1 < 2 ^ 8) (t2 : x2 < 2 ^ 8) (t3 : x3 < 2 ^ 8) :
    bits .or .u32 (bits .or .u32 (bits .or .u32 ((x0 : Int) * 16777216) ((x1 : Int) * 65536)) ((x2 : Int) * 256)) (x3 : Int) = ((x0 * 16777216 + x1 * 65536 + x2 * 256 + x3 : Nat) : Int) := by
  have e1 := or_sum x0 (x1 * 65536) 24 (by omega) (by omega) (by omega)
  have e2 := or_sum (x0 * 256 + x1) (x2 * 256) 16 (by omega) (by omega) (by omega)
  have e3 := or_sum (x0 * 65536 + x1 * 256 + x2) x3 8 (by omega) (by omega) (by omega)
  rw [show (x0 : Int) * 16777216 = ((x0 * 2 ^ 24 : Nat) : Int) by omega, show (x1 : Int) * 65536 = ((x1 * 65536 : Nat) : Int) by omega, e1]
  rw [show (x0 * 2 ^ 24 + x1 * 65536 : Nat) = (x0 * 256 + x1) * 2 ^ 16 by omega, show (x2 : Int) * 256 = ((x2 * 256 : Nat) : Int) by omega, e2]
  rw [show ((x0 * 256 + x1) * 2 ^ 16 + x2 * 256 : Nat) = (x0 * 65536 + x1 * 256 + x2) * 2 ^ 8 by omega, e3]
theorem below_drewN {B : Nat} {a w : World} (h : Below B a w) (n : Nat) : Below B a (w.drewN n) := h.trans ⟨rfl, rfl, rfl, Nat.le_refl _, fun _ _ => rfl⟩

set_option maxHeartbeats 1000000 in
theorem word_any (a : Option Addr) (len cap : Nat) (f : Nat → UInt8) (w : World) (hl : Bytes w a len f) (h4 : 4 ≤ len) (hm : len ≤ maxLen) :
    Calls Tryd.prog 24 #[.slice a len cap] w fun e w' => e = .returned (.int .u32 (wordN f : Nat)) ∧ ∃ m, w' = w.drewN m := by
  unfold maxLen at hm
  obtain ⟨b, o, rfl, c0⟩ := hl 0 (by omega)
  obtain ⟨b1, o1, e1, c1⟩ := hl 1 (by omega)
  obtain ⟨b2, o2, e2, c2⟩ := hl 2 (by omega)
  obtain ⟨b3, o3, e3, c3⟩ := hl 3 (by omega)
  cases e1; cases e2; cases e3
  have HW : Hid (wordN f = (f 0).toNat * 16777216 + (f 1).toNat * 65536 + (f 2).toNat * 256 + (f 3).toNat) := rfl
  have t0 := UInt8.toNat_lt (f 0)
  have t1 := UInt8.toNat_lt (f 1)
  have t2 := UInt8.toNat_lt (f 2)
  have t3 := UInt8.toNat_lt (f 3)
  generalize (f 0).toNat = x0 at *
  generalize (f 1).toNat = x1 at *
  generalize (f 2).toNat = x2 at *
  generalize (f 3).toNat = x3 at *
  have p0 : (0 : Int) ≤ (x0 : Int) := by omega
  have p1 : (x0 : Int) ≤ 255 := by omega
  have p2 : (0 : Int) ≤ (x1 : Int) := by omega
  have p3 : (x1 : Int) ≤ 255 := by omega
  have p4 : (0 : Int) ≤ (x2 : Int) := by omega
  have p5 : (x2 : Int) ≤ 255 := by omega
  have p6 : (0 : Int) ≤ (x3 : Int) := by omega
  have p7 : (x3 : Int) ≤ 255 := by omega
  have l0 : (0 : Int) < (len : Int) := by omega
  have l1 : (1 : Int) < (len : Int) := by omega
  have l2 : (2 : Int) < (len : Int) := by omega
  have l3 : (3 : Int) < (len : Int) := by omega
  clear hl
  go_enter Tryd.func24, Tryd.ntmps24
  rw [Nat.add_zero] at c0
  go_wp2
  go_quiet (fail)
  go_wp2
  go_ret
  refine ⟨ret_int ?_, nq, rfl⟩
  rw [HW.out]
  exact or_word x0 x1 x2 x3 t0 t1 t2 t3
/-- The bytes of a word. -/
def wb (n : Nat) (i : Nat) : UInt8 := UInt8.ofNat (n / 256 ^ (3 - i))
theorem wb_word (f : Nat → UInt8) (n : Nat) (hn : n < 4294967296) : wordN f = n ↔ ∀ i, i < 4 → wb n i = f i := by
  unfold wordN wb
  have t0 := UInt8.toNat_lt (f 0)
  have t1 := UInt8.toNat_lt (f 1)
  have t2 := UInt8.toNat_lt (f 2)
  have t3 := UInt8.toNat_lt (f 3)
  constructor
  · intro h i hi
    apply UInt8.toNat_inj.1
    rw [UInt8.toNat_ofNat']
    match i, hi with
    | 0, _ => simp; omega
    | 1, _ => simp; omega
    | 2, _ => simp; omega
    | 3, _ => simp; omega
  · intro h
    have h0 := congrArg UInt8.toNat (h 0 (by omega))
    have h1 := congrArg UInt8.toNat (h 1 (by omega))
    have h2 := congrArg UInt8.toNat (h 2 (by omega))
    have h3 := congrArg UInt8.toNat (h 3 (by omega))
    rw [UInt8.toNat_ofNat'] at h0 h1 h2 h3
    simp at h0 h1 h2 h3
    omega

end Go.Proofs.YtafighjlciglpaaDoor
