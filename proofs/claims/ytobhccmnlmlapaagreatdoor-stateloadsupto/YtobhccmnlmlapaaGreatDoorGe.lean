import Derived.Test.YtobhccmnlmlapaaGreatDoorProg
import Derived.WalkKit
import Derived.Below
import Derived.WalkSmall
import Derived.LoopN
import Derived.Laws.BitsAllLaws
import Derived.Handy
import Derived.KernelRfl
import Derived.Test.YtobhccmnlmlapaaGreatDoorGd
import Derived.Laws.CopyOwn
import Derived.Deep.OwnRows
import Derived.Laws.OwnMore
import Derived.OwnWalk
import Derived.Deep.QuietTactic
import Derived.BigQuiet
import Derived.Laws.IdiomStrings
import Derived.WideShapes
namespace Go.Proofs.YtobhccmnlmlapaaGreatDoor.Wr

/-- The polynomial; one step of the sum with a bit of 0; four steps by a look. -/
def pol : Nat := 3988292384
def z1 (x : Nat) : Nat := (x / 2) ^^^ (if x % 2 = 1 then pol else 0)
def tab (i : Nat) : Nat := [0, 498536548, 997073096, 651767980, 1994146192, 1802195444, 1303535960, 1342533948, 3988292384, 4027552580, 3604390888, 3412177804, 2607071920, 2262029012, 2685067896, 3183342108].getD i 0
def q4 (x : Nat) : Nat := (x / 16) ^^^ tab (x % 16)

theorem xor_mod2 (a b : Nat) : (a ^^^ b) % 2 = (a + b) % 2 := by
  have h := Nat.xor_mod_two_pow (a := a) (b := b) (n := 1)
  rw [Nat.pow_one] at h
  rw [h]
  rcases Nat.mod_two_eq_zero_or_one a with ha | ha <;> rcases Nat.mod_two_eq_zero_or_one b with hb | hb <;> rw [ha, hb] <;> simp <;> omega
theorem xor_div2 (a b : Nat) : (a ^^^ b) / 2 = (a / 2) ^^^ (b / 2) := Nat.xor_div_two

/-- One step, where the part that came of the polynomial is even. -/
theorem z1_step (a c : Nat) (hc : c % 2 = 0) : z1 (a ^^^ c) = (a / 2) ^^^ ((c / 2) ^^^ (if a % 2 = 1 then pol else 0)) := by
  unfold z1
  rw [xor_div2, xor_mod2, show (a + c) % 2 = a % 2 by omega, Nat.xor_assoc]

theorem z4 (x : Nat) : z1 (z1 (z1 (z1 x))) = q4 x := by
  have hx : x = x ^^^ 0 := by simp
  have e : ∀ l, l < 16 → x % 16 = l → z1 (z1 (z1 (z1 x))) = q4 x := by
    intro l hl hm
    have h1 : x % 2 = l % 2 := by omega
    have h2 : x / 2 % 2 = l / 2 % 2 := by omega
    have h3 : x / 2 / 2 % 2 = l / 4 % 2 := by omega
    have h4 : x / 2 / 2 / 2 % 2 = l / 8 % 2 := by omega
    have h5 : x / 2 / 2 / 2 / 2 = x / 16 := by omega
    unfold q4
    rw [hm]
    rw [show z1 x = z1 (x ^^^ 0) by rw [← hx], z1_step x 0 rfl, h1]
    have : l = 0 ∨ l = 1 ∨ l = 2 ∨ l = 3 ∨ l = 4 ∨ l = 5 ∨ l = 6 ∨ l = 7 ∨ l = 8 ∨ l = 9 ∨ l = 10 ∨ l = 11 ∨ l = 12 ∨ l = 13 ∨ l = 14 ∨ l = 15 := by omega
    rcases this with rfl | rfl | rfl | rfl | rfl | rfl | rfl | rfl | rfl | rfl | rfl | rfl | rfl | rfl | rfl | rfl
    all_goals
      rw [z1_step _ _ (by decide), h2, z1_step _ _ (by decide), h3, z1_step _ _ (by decide), h4, h5]
      congr 1
  exact e (x % 16) (Nat.mod_lt _ (by omega)) rfl

/-- A bit of a byte goes in. -/
def bitStep (r b : Nat) : Nat := (r / 2) ^^^ (if (r ^^^ b) % 2 = 1 then pol else 0)
theorem bitStep_z (r c : Nat) : bitStep r (c % 2) ^^^ (c / 2) = z1 (r ^^^ c) := by
  unfold bitStep z1
  rw [xor_div2, xor_mod2, xor_mod2, show (r + c % 2) % 2 = (r + c) % 2 by omega]
  rw [Nat.xor_assoc, Nat.xor_assoc, Nat.xor_comm (c / 2)]
/-- The first k bits of a byte. -/
def bitsTo (r c : Nat) : Nat → Nat
  | 0 => r
  | k + 1 => bitStep (bitsTo r c k) (c / 2 ^ k % 2)
def zTo (x : Nat) : Nat → Nat
  | 0 => x
  | k + 1 => z1 (zTo x k)
theorem bitsTo_z (r c : Nat) : ∀ k, bitsTo r c k ^^^ (c / 2 ^ k) = zTo (r ^^^ c) k
  | 0 => by simp [bitsTo, zTo]
  | k + 1 => by
    rw [bitsTo, zTo, ← bitsTo_z r c k, ← bitStep_z]
    rw [Nat.pow_succ, Nat.div_div_eq_div_mul]
def byteStep (r c : Nat) : Nat := q4 (q4 (r ^^^ c))
theorem bits8 (r c : Nat) (hc : c < 256) : bitsTo r c 8 = byteStep r c := by
  have h := bitsTo_z r c 8
  rw [show c / 2 ^ 8 = 0 by rw [Nat.div_eq_of_lt]; omega] at h
  simp only [Nat.xor_zero] at h
  rw [h]
  unfold byteStep
  rw [← z4, ← z4]
  rfl

theorem tab_lt (i : Nat) : tab i < 4294967296 := by
  unfold tab
  by_cases h : i < 16
  · revert i; decide
  · rw [List.getD_eq_getElem?_getD, List.getElem?_eq_none (by simp; omega)]; decide
theorem q4_lt (x : Nat) (h : x < 4294967296) : q4 x < 4294967296 := by
  unfold q4
  have := tab_lt (x % 16)
  exact Nat.xor_lt_two_pow (n := 32) (by omega) (by omega)
theorem xor_lt (a b : Nat) (h1 : a < 4294967296) (h2 : b < 4294967296) : a ^^^ b < 4294967296 := Nat.xor_lt_two_pow (n := 32) (by omega) (by omega)
theorem byteStep_lt (r c : Nat) (h : r < 4294967296) (hc : c < 256) : byteStep r c < 4294967296 := q4_lt _ (q4_lt _ (xor_lt _ _ h (by omega)))

def regTo (f : Nat → UInt8) : Nat → Nat
  | 0 => 4294967295
  | k + 1 => byteStep (regTo f k) (f k).toNat
theorem regTo_lt (f : Nat → UInt8) : ∀ k, regTo f k < 4294967296
  | 0 => by unfold regTo; omega
  | k + 1 => byteStep_lt _ _ (regTo_lt f k) (UInt8.toNat_lt _)
/-- The sum of the first k bytes. -/
def sumN (f : Nat → UInt8) (k : Nat) : Nat := regTo f k ^^^ 4294967295
theorem sumN_lt (f : Nat → UInt8) (k : Nat) : sumN f k < 4294967296 := xor_lt _ _ (regTo_lt f k) (by omega)
end Go.Proofs.YtobhccmnlmlapaaGreatDoor.Wr
namespace Go.Proofs.YtobhccmnlmlapaaGreatDoor.Wr
open Go.RowKit
set_option linter.unusedVariables false
set_option maxRecDepth 100000

theorem ret_int {k : IntKind} {a b : Int} (h : a = b) : Ending.returned (.int k a) = .returned (.int k b) := by rw [h]
theorem ret_bool {a b : Bool} (h : a = b) : Ending.returned (.bool a) = .returned (.bool b) := by rw [h]
theorem ret_str {a b : ByteArray} (h : a = b) : Ending.returned (.string a) = .returned (.string b) := by rw [h]
theorem cell_later {w wx : World} {a : Addr} {v : Value} (hb : Below w.heap.size w wx) (h : w.cell? a = some v) : wx.cell? a = some v := (hb.cell (World.block_lt_of_cell? _ _ h)).trans h
theorem bel1 (w : World) (o1 : Obj) : Below w.heap.size w (w.alloc o1) := (Below.refl _ _).alloc (Nat.le_refl _) _

/-- 'len' bytes lie in memory where the slice 'a' begins. -/
def Bytes (w : World) (a : Option Addr) (len : Nat) (f : Nat → UInt8) : Prop :=
  ∀ i, i < len → ∃ b off, a = some ⟨b, off, none⟩ ∧ w.cell? ⟨b, off + i, none⟩ = some (.int .u8 ((f i).toNat : Int))
theorem Bytes.later {w wx : World} {a : Option Addr} {len : Nat} {f : Nat → UInt8} (h : Bytes w a len f) (hb : Below w.heap.size w wx) : Bytes wx a len f := fun i hi => by
  obtain ⟨b, off, e, h1⟩ := h i hi
  exact ⟨b, off, e, cell_later hb h1⟩

/-- The table lies where the program's start lays it. -/
def Quart (w : World) : Prop := ∀ i, i < 16 → w.cell? ⟨1, i, none⟩ = some (.int .u32 (tab i : Int))
theorem Quart.later {w wx : World} (h : Quart w) (hb : Below w.heap.size w wx) : Quart wx := fun i hi => cell_later hb (h i hi)

theorem and15 (x : Nat) (h : x < 4294967296) : bits .and .u32 (x : Int) 15 = ((x % 16 : Nat) : Int) := by
  have := u32_and_nat x 15 h (by omega)
  rw [show ((15 : Nat) : Int) = (15 : Int) from rfl] at this
  rw [this]
  congr 1
  exact Nat.and_two_pow_sub_one_eq_mod x 4
theorem xorq (x : Nat) (h : x < 4294967296) : bits .xor .u32 ((x : Int) / 16) ((tab (x % 16) : Nat) : Int) = ((q4 x : Nat) : Int) := by
  have := u32_xor_nat (x / 16) (tab (x % 16)) (by omega) (tab_lt _)
  exact this

set_option maxHeartbeats 400000 in
theorem sum_any (a : Option Addr) (len cap : Nat) (f : Nat → UInt8) (w : World) (hl : Bytes w a len f) (hm : len ≤ maxLen) (hq : Quart w) :
    Calls Tryz.prog 92 #[.slice a len cap] w fun e w' => e = .returned (.int .u32 (sumN f len)) ∧ w' = w := by
  have HL : Hid (Bytes w a len f) := hl
  have HQ : Hid (Quart w) := hq
  unfold maxLen at hm
  clear hl hq
  go_enter Tryz.func92, Tryz.ntmps92
  go_wp2
  go_loop [3, 8] (fun r i => ∃ k : Nat, k ≤ len ∧ i = .int .i64 k ∧ r = .int .u32 (regTo f k : Int)) (fun _ i => len - (intOf i).toNat)
  case atStart => exact ⟨0, Nat.zero_le _, rfl, rfl⟩
  case round =>
    obtain ⟨k, hk, rfl, rfl⟩ := hrel
    have hr := regTo_lt f k
    by_cases hlt : k < len
    · have hi : (k : Int) < (len : Int) := by omega
      obtain ⟨b, o, rfl, ha1⟩ := HL.out k hlt
      have HS : Hid (regTo f (k + 1) = byteStep (regTo f k) (f k).toNat) := rfl
      have t2 := UInt8.toNat_lt (f k)
      generalize regTo f k = r at *
      generalize (f k).toNat = c at *
      have e1 := u32_xor_nat r c hr (by omega)
      have hx := xor_lt r c hr (by omega)
      have e2 := and15 (r ^^^ c) hx
      have e3 := xorq (r ^^^ c) hx
      have hy := q4_lt _ hx
      have e4 := and15 (q4 (r ^^^ c)) hy
      have e5 := xorq (q4 (r ^^^ c)) hy
      have hz := q4_lt _ hy
      have c1 := HQ.out ((r ^^^ c) % 16) (by omega)
      have c2 := HQ.out (q4 (r ^^^ c) % 16) (by omega)
      have HS' : Hid (regTo f (k + 1) = q4 (q4 (r ^^^ c))) := HS.out
      clear HS
      generalize r ^^^ c = x at *
      generalize q4 x = y at *
      generalize q4 y = z at *
      have hm1 : x % 16 < 16 := by omega
      have hm2 : y % 16 < 16 := by omega
      generalize x % 16 = m at *
      generalize y % 16 = n at *
      generalize tab m = tm at *
      generalize tab n = tn at *
      have b0 : (0 : Int) ≤ (m : Int) := by omega
      have b1 : (m : Int) < 16 := by omega
      have b2 : (0 : Int) ≤ (n : Int) := by omega
      have b3 : (n : Int) < 16 := by omega
      have b4 : (0 : Int) ≤ (c : Int) := by omega
      have b5 : (c : Int) ≤ 255 := by omega
      clear HL HQ
      go_wp2
      refine ⟨⟨k + 1, by omega, by go_num, by rw [HS'.out]⟩, ?_⟩
      simp [intOf]
      omega
    · have e : k = len := by omega
      subst e
      have HS : Hid (sumN f k = regTo f k ^^^ 4294967295) := rfl
      generalize regTo f k = r at *
      have e1 : bits .xor .u32 IntKind.u32.max (r : Int) = ((r ^^^ 4294967295 : Nat) : Int) := by
        have := u32_xor_nat 4294967295 r (by omega) hr
        rw [Nat.xor_comm] at this
        exact this
      go_wp2
      go_ret
      exact ⟨ret_int (by rw [HS.out, ← e1]), rfl⟩

theorem and1 (x : Nat) (h : x < 4294967296) : bits .and .u32 (x : Int) 1 = ((x % 2 : Nat) : Int) := by
  have := u32_and_nat x 1 h (by omega)
  rw [show ((1 : Nat) : Int) = (1 : Int) from rfl] at this
  rw [this]
  congr 1
  exact Nat.and_two_pow_sub_one_eq_mod x 1
theorem bitStep_lt (r b : Nat) (h : r < 4294967296) : bitStep r b < 4294967296 := by
  unfold bitStep
  refine xor_lt _ _ (by omega) ?_
  split <;> decide
theorem bitsTo_lt (r c : Nat) (h : r < 4294967296) : ∀ k, bitsTo r c k < 4294967296
  | 0 => h
  | k + 1 => bitStep_lt _ _ (bitsTo_lt r c h k)

set_option maxHeartbeats 400000 in
theorem refSum_any (a : Option Addr) (len cap : Nat) (f : Nat → UInt8) (w : World) (hl : Bytes w a len f) (hm : len ≤ maxLen) :
    Calls Tryz.prog 93 #[.slice a len cap] w fun e w' => e = .returned (.int .u32 (sumN f len)) ∧ w' = w := by
  have HL : Hid (Bytes w a len f) := hl
  unfold maxLen at hm
  clear hl
  go_enter Tryz.func93, Tryz.ntmps93
  go_wp2
  go_loop [3, 4] (fun r i => ∃ k : Nat, k ≤ len ∧ i = .int .i64 k ∧ r = .int .u32 (regTo f k : Int)) (fun _ i => len - (intOf i).toNat)
  case atStart => exact ⟨0, Nat.zero_le _, rfl, rfl⟩
  case round =>
    obtain ⟨k, hk, rfl, rfl⟩ := hrel
    have hr := regTo_lt f k
    by_cases hlt : k < len
    · have hi : (k : Int) < (len : Int) := by omega
      obtain ⟨b, o, rfl, ha1⟩ := HL.out k hlt
      have HS : Hid (regTo f (k + 1) = byteStep (regTo f k) (f k).toNat) := rfl
      have t2 := UInt8.toNat_lt (f k)
      generalize regTo f k = r at *
      generalize (f k).toNat = c at *
      have b4 : (0 : Int) ≤ (c : Int) := by omega
      have b5 : (c : Int) ≤ 255 := by omega
      clear HL
      go_wp2
      go_loop [3, 5] (fun x i => ∃ j : Nat, j ≤ 8 ∧ i = .int .i64 j ∧ x = .int .u32 (bitsTo r c j : Int)) (fun _ i => 8 - (intOf i).toNat)
      case atStart => exact ⟨0, Nat.zero_le _, rfl, rfl⟩
      case round =>
        obtain ⟨j, hj, rfl, rfl⟩ := hrel
        by_cases hj8 : j < 8
        · have hji : (j : Int) < 8 := by omega
          have hx := bitsTo_lt r c hr j
          have HB : Hid (bitsTo r c (j + 1) = bitStep (bitsTo r c j) (c / 2 ^ j % 2)) := rfl
          have eA := and1 (c / 2 ^ j) (by have := Nat.div_le_self c (2 ^ j); omega)
          have eC : (c : Int) / 2 ^ j % 4294967296 = ((c / 2 ^ j : Nat) : Int) := by
            have h1 : ((c / 2 ^ j : Nat) : Int) = (c : Int) / 2 ^ j := by simp
            rw [← h1]
            have h2 := Nat.div_le_self c (2 ^ j)
            clear h1 eA HB
            generalize c / 2 ^ j = d at *
            omega
          have hb2 : c / 2 ^ j % 2 < 2 := by omega
          generalize bitsTo r c j = x at *
          generalize c / 2 ^ j = d at *
          generalize d % 2 = bt at *
          have eX := u32_xor_nat x bt hx (by omega)
          have hxx := xor_lt x bt hx (by omega)
          have eT := and1 (x ^^^ bt) hxx
          by_cases ht : (x ^^^ bt) % 2 = 1
          · have HB' : Hid (bitsTo r c (j + 1) = (x / 2) ^^^ pol) := by unfold Hid; rw [HB.out]; unfold bitStep; rw [if_pos ht]
            have eP : bits .xor .u32 ((x : Int) / 2) 3988292384 = (((x / 2) ^^^ pol : Nat) : Int) := u32_xor_nat (x / 2) pol (by omega) (by decide)
            generalize (x ^^^ bt) % 2 = tt at *
            generalize x ^^^ bt = xx at *
            have htb : ((tt : Int) == 1) = true := by simp; omega
            clear ht HB
            go_wp2
            refine ⟨⟨j + 1, by omega, by go_num, by rw [HB'.out]⟩, ?_⟩
            simp [intOf]
            omega
          · have HB' : Hid (bitsTo r c (j + 1) = x / 2) := by unfold Hid; rw [HB.out]; unfold bitStep; rw [if_neg ht]; simp
            generalize (x ^^^ bt) % 2 = tt at *
            generalize x ^^^ bt = xx at *
            have htb : ((tt : Int) == 1) = false := by simp; omega
            clear ht HB
            go_wp2
            refine ⟨⟨j + 1, by omega, by go_num, by rw [HB'.out]; rfl⟩, ?_⟩
            simp [intOf]
            omega
        · have e : j = 8 := by omega
          subst e
          have HB : Hid (bitsTo r c 8 = regTo f (k + 1)) := by unfold Hid; rw [HS.out]; exact bits8 r c (by omega)
          go_wp2
          refine ⟨⟨k + 1, by omega, by go_num, by rw [HB.out]⟩, ?_⟩
          simp [intOf]
          omega
    · have e : k = len := by omega
      subst e
      have HS : Hid (sumN f k = regTo f k ^^^ 4294967295) := rfl
      generalize regTo f k = r at *
      have e1 : bits .xor .u32 (r : Int) 4294967295 = ((r ^^^ 4294967295 : Nat) : Int) := u32_xor_nat r 4294967295 hr (by omega)
      go_wp2
      go_ret
      exact ⟨ret_int (by rw [HS.out]), rfl⟩
end Go.Proofs.YtobhccmnlmlapaaGreatDoor.Wr
namespace Go.Proofs.YtobhccmnlmlapaaGreatDoor.Wr
open Go.RowKit
set_option linter.unusedVariables false
set_option maxRecDepth 100000

theorem info5 : (Tryz.prog.info? 5).map (fun i => (i.zero, i.size, i.bytes)) = some (some (.int .u8 0), 1, 1) := by kernel_rfl
theorem size5 : (Tryz.prog.info? 5).map (·.size) = some 1 := by kernel_rfl
def u8v (c : UInt8) : Value := .int .u8 (c.toNat : Int)

theorem bytes_of_row {w : World} {g len cap : Nat} {f : Nat → UInt8} {L : List Value} (h : w.heap[g]? = some (.cells L.toArray 5 (0, 0))) (hL : ∀ i, i < len → L[i]? = some (u8v (f i))) : Bytes w (some ⟨g, 0, none⟩) len f := by
  intro i hi
  refine ⟨g, 0, rfl, ?_⟩
  rw [cell_of_row w g (0 + i) L.toArray 5 (0, 0) h]
  simpa [u8v] using hL i hi

end Go.Proofs.YtobhccmnlmlapaaGreatDoor.Wr
namespace Go.Proofs.YtobhccmnlmlapaaGreatDoor.Wr
open Go.RowKit
set_option linter.unusedVariables false
set_option maxRecDepth 100000

def wordN (f : Nat → UInt8) : Nat := (f 0).toNat * 16777216 + (f 1).toNat * 65536 + (f 2).toNat * 256 + (f 3).toNat

theorem or_sum (a b k : Nat) (hb : b < 2 ^ k) (h : a * 2 ^ k < 4294967296) (h' : b < 4294967296) : bits .or .u32 ((a * 2 ^ k : Nat) : Int) (b : Int) = ((a * 2 ^ k + b : Nat) : Int) := by
  rw [u32_or_nat _ _ h h', Nat.mul_comm, Nat.two_pow_add_eq_or_of_lt hb]
theorem or_word (x0 x1 x2 x3 : Nat) (t0 : x0 < 2 ^ 8) (t1 : x1 < 2 ^ 8) (t2 : x2 < 2 ^ 8) (t3 : x3 < 2 ^ 8) :
    bits .or .u32 (bits .or .u32 (bits .or .u32 ((x0 : Int) * 16777216) ((x1 : Int) * 65536)) ((x2 : Int) * 256)) (x3 : Int) = ((x0 * 16777216 + x1 * 65536 + x2 * 256 + x3 : Nat) : Int) := by
  have e1 := or_sum x0 (x1 * 65536) 24 (by omega) (by omega) (by omega)
  have e2 := or_sum (x0 * 256 + x1) (x2 * 256) 16 (by omega) (by omega) (by omega)
  have e3 := or_sum (x0 * 65536 + x1 * 256 + x2) x3 8 (by omega) (by omega) (by omega)
  rw [show (x0 : Int) * 16777216 = ((x0 * 2 ^ 24 : Nat) : Int) by omega, show (x1 : Int) * 65536 = ((x1 * 65536 : Nat) : Int) by omega, e1]
  rw [show (x0 * 2 ^ 24 + x1 * 65536 : Nat) = (x0 * 256 + x1) * 2 ^ 16 by omega, show (x2 : Int) * 256 = ((x2 * 256 : Nat) : Int) by omega, e2]
  rw [show ((x0 * 256 + x1) * 2 ^ 16 + x2 * 256 : Nat) = (x0 * 65536 + x1 * 256 + x2) * 2 ^ 8 by omega, e3]
theorem below_drewN {B : Nat} {a w : World} (h : Below B a w) (n : Nat) : Below B a (w.drewN n) := h.trans ⟨rfl, rfl, rfl, Nat.le_refl _, fun _ _ => rfl⟩

set_option maxHeartbeats 1000000 in
theorem word_any (a : Option Addr) (len cap : Nat) (f : Nat → UInt8) (w : World) (hl : Bytes w a len f) (h4 : 4 ≤ len) (hm : len ≤ maxLen) :
    Calls Tryz.prog 95 #[.slice a len cap] w fun e w' => e = .returned (.int .u32 (wordN f : Nat)) ∧ ∃ m, w' = w.drewN m := by
  unfold maxLen at hm
  obtain ⟨b, o, rfl, c0⟩ := hl 0 (by omega)
  obtain ⟨b1, o1, e1, c1⟩ := hl 1 (by omega)
  obtain ⟨b2, o2, e2, c2⟩ := hl 2 (by omega)
  obtain ⟨b3, o3, e3, c3⟩ := hl 3 (by omega)
  cases e1; cases e2; cases e3
  have HW : Hid (wordN f = (f 0).toNat * 16777216 + (f 1).toNat * 65536 + (f 2).toNat * 256 + (f 3).toNat) := rfl
  have t0 := UInt8.toNat_lt (f 0)
  have t1 := UInt8.toNat_lt (f 1)
  have t2 := UInt8.toNat_lt (f 2)
  have t3 := UInt8.toNat_lt (f 3)
  generalize (f 0).toNat = x0 at *
  generalize (f 1).toNat = x1 at *
  generalize (f 2).toNat = x2 at *
  generalize (f 3).toNat = x3 at *
  have p0 : (0 : Int) ≤ (x0 : Int) := by omega
  have p1 : (x0 : Int) ≤ 255 := by omega
  have p2 : (0 : Int) ≤ (x1 : Int) := by omega
  have p3 : (x1 : Int) ≤ 255 := by omega
  have p4 : (0 : Int) ≤ (x2 : Int) := by omega
  have p5 : (x2 : Int) ≤ 255 := by omega
  have p6 : (0 : Int) ≤ (x3 : Int) := by omega
  have p7 : (x3 : Int) ≤ 255 := by omega
  have l0 : (0 : Int) < (len : Int) := by omega
  have l1 : (1 : Int) < (len : Int) := by omega
  have l2 : (2 : Int) < (len : Int) := by omega
  have l3 : (3 : Int) < (len : Int) := by omega
  clear hl
  go_enter Tryz.func95, Tryz.ntmps95
  rw [Nat.add_zero] at c0
  go_wp2
  go_quiet (fail)
  go_wp2
  go_ret
  refine ⟨ret_int ?_, nq, rfl⟩
  rw [HW.out]
  exact or_word x0 x1 x2 x3 t0 t1 t2 t3
/-- The bytes of a word. -/
def wb (n : Nat) (i : Nat) : UInt8 := UInt8.ofNat (n / 256 ^ (3 - i))
theorem wb_word (f : Nat → UInt8) (n : Nat) (hn : n < 4294967296) : wordN f = n ↔ ∀ i, i < 4 → wb n i = f i := by
  unfold wordN wb
  have t0 := UInt8.toNat_lt (f 0)
  have t1 := UInt8.toNat_lt (f 1)
  have t2 := UInt8.toNat_lt (f 2)
  have t3 := UInt8.toNat_lt (f 3)
  constructor
  · intro h i hi
    apply UInt8.toNat_inj.1
    rw [UInt8.toNat_ofNat']
    match i, hi with
    | 0, _ => simp; omega
    | 1, _ => simp; omega
    | 2, _ => simp; omega
    | 3, _ => simp; omega
  · intro h
    have h0 := congrArg UInt8.toNat (h 0 (by omega))
    have h1 := congrArg UInt8.toNat (h 1 (by omega))
    have h2 := congrArg UInt8.toNat (h 2 (by omega))
    have h3 := congrArg UInt8.toNat (h 3 (by omega))
    rw [UInt8.toNat_ofNat'] at h0 h1 h2 h3
    simp at h0 h1 h2 h3
    omega

theorem refWord_any (n : Nat) (w : World) (hn : n < 4294967296) :
    Calls Tryz.prog 94 #[.int .u32 (n : Int)] w fun e w' => e = .returned (.slice (some ⟨w.heap.size, 0, none⟩) 4 4) ∧ Bytes w' (some ⟨w.heap.size, 0, none⟩) 4 (wb n) ∧ Below w.heap.size w w' := by
  have p0 : (0 : Int) ≤ (n : Int) := by omega
  have p1 : (n : Int) < 4294967296 := by omega
  go_enter Tryz.func94, Tryz.ntmps94
  go_wp2
  go_ret
  refine ⟨rfl, ?_, bel1 w _⟩
  refine bytes_of_row (cap := 0) (L := [_, _, _, _]) (heap_alloc_new w _) ?_
  intro i hi
  have h8 : ∀ m : Nat, UInt8.toNat (UInt8.ofNat m) = m % 256 := fun m => UInt8.toNat_ofNat'
  match i, hi with
  | 0, _ => show some _ = some _; unfold u8v wb; rw [h8, show n / 256 ^ (3 - 0) % 256 = n / 16777216 by omega]; rfl
  | 1, _ => show some _ = some _; unfold u8v wb; rw [h8, show n / 256 ^ (3 - 1) % 256 = n / 65536 % 256 by omega]; rfl
  | 2, _ => show some _ = some _; unfold u8v wb; rw [h8, show n / 256 ^ (3 - 2) % 256 = n / 256 % 256 by omega]; rfl
  | 3, _ => show some _ = some _; unfold u8v wb; rw [h8, show n / 256 ^ (3 - 3) % 256 = n % 256 by omega]; rfl
end Go.Proofs.YtobhccmnlmlapaaGreatDoor.Wr
