import Derived.Test.YtdbboaebigpkoaaGreatDoorProg
import Derived.WalkKit
import Derived.Below
import Derived.WalkSmall
import Derived.LoopN
import Derived.Laws.BitsAllLaws
import Derived.Handy
import Derived.KernelRfl
import Derived.Test.YtdbboaebigpkoaaGreatDoorTldB
import Derived.Laws.CopyOwn
import Derived.Deep.OwnRows
import Derived.Laws.OwnMore
import Derived.OwnWalk
import Derived.Deep.QuietTactic
import Derived.BigQuiet
import Derived.Laws.IdiomStrings
import Derived.WideShapes
import Derived.Sort.AtCall
import Derived.Laws.BytesArg
import Derived.Deep.AppendLies
namespace Go.Proofs.YtdbboaebigpkoaaGreatDoor.Wr

/-- The polynomial; one step of the sum with a bit of 0; four steps by a look. -/
def pol : Nat := 3988292384
def z1 (x : Nat) : Nat := (x / 2) ^^^ (if x % 2 = 1 then pol else 0)
def tab (i : Nat) : Nat := [0, 498536548, 997073096, 651767980, 1994146192, 1802195444, 1303535960, 1342533948, 3988292384, 4027552580, 3604390888, 3412177804, 2607071920, 2262029012, 2685067896, 3183342108].getD i 0
def q4 (x : Nat) : Nat := (x / 16) ^^^ tab (x % 16)

theorem xor_mod2 (a b : Nat) : (a ^^^ b) % 2 = (a + b) % 2 := by
  have h := Nat.xor_mod_two_pow (a := a) (b := b) (n := 1)
  rw [Nat.pow_one] at h
  rw [h]
  rcases Nat.mod_two_eq_zero_or_one a with ha | ha <;> rcases Nat.mod_two_eq_zero_or_one b with hb | hb <;> rw [ha, hb] <;> simp <;> omega
theorem xor_div2 (a b : Nat) : (a ^^^ b) / 2 = (a / 2) ^^^ (b / 2) := Nat.xor_div_two

/-- One step, where the part that came of the polynomial is even. -/
theorem z1_step (a c : Nat) (hc : c % 2 = 0) : z1 (a ^^^ c) = (a / 2) ^^^ ((c / 2) ^^^ (if a % 2 = 1 then pol else 0)) := by
  unfold z1
  rw [xor_div2, xor_mod2, show (a + c) % 2 = a % 2 by omega, Nat.xor_assoc]

theorem z4 (x : Nat) : z1 (z1 (z1 (z1 x))) = q4 x := by
  have hx : x = x ^^^ 0 := by simp
  have e : ∀ l, l < 16 → x % 16 = l → z1 (z1 (z1 (z1 x))) = q4 x := by
    intro l hl hm
    have h1 : x % 2 = l % 2 := by omega
    have h2 : x / 2 % 2 = l / 2 % 2 := by omega
    have h3 : x / 2 / 2 % 2 = l / 4 % 2 := by omega
    have h4 : x / 2 / 2 / 2 % 2 = l / 8 % 2 := by omega
    have h5 : x / 2 / 2 / 2 / 2 = x / 16 := by omega
    unfold q4
    rw [hm]
    rw [show z1 x = z1 (x ^^^ 0) by rw [← hx], z1_step x 0 rfl, h1]
    have : l = 0 ∨ l = 1 ∨ l = 2 ∨ l = 3 ∨ l = 4 ∨ l = 5 ∨ l = 6 ∨ l = 7 ∨ l = 8 ∨ l = 9 ∨ l = 10 ∨ l = 11 ∨ l = 12 ∨ l = 13 ∨ l = 14 ∨ l = 15 := by omega
    rcases this with rfl | rfl | rfl | rfl | rfl | rfl | rfl | rfl | rfl | rfl | rfl | rfl | rfl | rfl | rfl | rfl
    all_goals
      rw [z1_step _ _ (by decide), h2, z1_step _ _ (by decide), h3, z1_step _ _ (by decide), h4, h5]
      congr 1
  exact e (x % 16) (Nat.mod_lt _ (by omega)) rfl

/-- A bit of a byte goes in. -/
def bitStep (r b : Nat) : Nat := (r / 2) ^^^ (if (r ^^^ b) % 2 = 1 then pol else 0)
theorem bitStep_z (r c : Nat) : bitStep r (c % 2) ^^^ (c / 2) = z1 (r ^^^ c) := by
  unfold bitStep z1
  rw [xor_div2, xor_mod2, xor_mod2, show (r + c % 2) % 2 = (r + c) % 2 by omega]
  rw [Nat.xor_assoc, Nat.xor_assoc, Nat.xor_comm (c / 2)]
/-- The first k bits of a byte. -/
def bitsTo (r c : Nat) : Nat → Nat
  | 0 => r
  | k + 1 => bitStep (bitsTo r c k) (c / 2 ^ k % 2)
def zTo (x : Nat) : Nat → Nat
  | 0 => x
  | k + 1 => z1 (zTo x k)
theorem bitsTo_z (r c : Nat) : ∀ k, bitsTo r c k ^^^ (c / 2 ^ k) = zTo (r ^^^ c) k
  | 0 => by simp [bitsTo, zTo]
  | k + 1 => by
    rw [bitsTo, zTo, ← bitsTo_z r c k, ← bitStep_z]
    rw [Nat.pow_succ, Nat.div_div_eq_div_mul]
def byteStep (r c : Nat) : Nat := q4 (q4 (r ^^^ c))
theorem bits8 (r c : Nat) (hc : c < 256) : bitsTo r c 8 = byteStep r c := by
  have h := bitsTo_z r c 8
  rw [show c / 2 ^ 8 = 0 by rw [Nat.div_eq_of_lt]; omega] at h
  simp only [Nat.xor_zero] at h
  rw [h]
  unfold byteStep
  rw [← z4, ← z4]
  rfl

theorem tab_lt (i : Nat) : tab i < 4294967296 := by
  unfold tab
  by_cases h : i < 16
  · revert i; decide
  · rw [List.getD_eq_getElem?_getD, List.getElem?_eq_none (by simp; omega)]; decide
theorem q4_lt (x : Nat) (h : x < 4294967296) : q4 x < 4294967296 := by
  unfold q4
  have := tab_lt (x % 16)
  exact Nat.xor_lt_two_pow (n := 32) (by omega) (by omega)
theorem xor_lt (a b : Nat) (h1 : a < 4294967296) (h2 : b < 4294967296) : a ^^^ b < 4294967296 := Nat.xor_lt_two_pow (n := 32) (by omega) (by omega)
theorem byteStep_lt (r c : Nat) (h : r < 4294967296) (hc : c < 256) : byteStep r c < 4294967296 := q4_lt _ (q4_lt _ (xor_lt _ _ h (by omega)))

def regTo (f : Nat → UInt8) : Nat → Nat
  | 0 => 4294967295
  | k + 1 => byteStep (regTo f k) (f k).toNat
theorem regTo_lt (f : Nat → UInt8) : ∀ k, regTo f k < 4294967296
  | 0 => by unfold regTo; omega
  | k + 1 => byteStep_lt _ _ (regTo_lt f k) (UInt8.toNat_lt _)
/-- The sum of the first k bytes. -/
def sumN (f : Nat → UInt8) (k : Nat) : Nat := regTo f k ^^^ 4294967295
theorem sumN_lt (f : Nat → UInt8) (k : Nat) : sumN f k < 4294967296 := xor_lt _ _ (regTo_lt f k) (by omega)
end Go.Proofs.YtdbboaebigpkoaaGreatDoor.Wr
namespace Go.Proofs.YtdbboaebigpkoaaGreatDoor.Wr
open Go.RowKit
set_option linter.unusedVariables false
set_option maxRecDepth 100000

theorem ret_int {k : IntKind} {a b : Int} (h : a = b) : Ending.returned (.int k a) = .returned (.int k b) := by rw [h]
theorem ret_bool {a b : Bool} (h : a = b) : Ending.returned (.bool a) = .returned (.bool b) := by rw [h]
theorem ret_str {a b : ByteArray} (h : a = b) : Ending.returned (.string a) = .returned (.string b) := by rw [h]
theorem cell_later {w wx : World} {a : Addr} {v : Value} (hb : Below w.heap.size w wx) (h : w.cell? a = some v) : wx.cell? a = some v := (hb.cell (World.block_lt_of_cell? _ _ h)).trans h
theorem bel1 (w : World) (o1 : Obj) : Below w.heap.size w (w.alloc o1) := (Below.refl _ _).alloc (Nat.le_refl _) _

/-- 'len' bytes lie in memory where the slice 'a' begins. -/
def Bytes (w : World) (a : Option Addr) (len : Nat) (f : Nat → UInt8) : Prop :=
  ∀ i, i < len → ∃ b off, a = some ⟨b, off, none⟩ ∧ w.cell? ⟨b, off + i, none⟩ = some (.int .u8 ((f i).toNat : Int))
theorem Bytes.later {w wx : World} {a : Option Addr} {len : Nat} {f : Nat → UInt8} (h : Bytes w a len f) (hb : Below w.heap.size w wx) : Bytes wx a len f := fun i hi => by
  obtain ⟨b, off, e, h1⟩ := h i hi
  exact ⟨b, off, e, cell_later hb h1⟩

theorem and15 (x : Nat) (h : x < 4294967296) : bits .and .u32 (x : Int) 15 = ((x % 16 : Nat) : Int) := by
  have := u32_and_nat x 15 h (by omega)
  rw [show ((15 : Nat) : Int) = (15 : Int) from rfl] at this
  rw [this]
  congr 1
  exact Nat.and_two_pow_sub_one_eq_mod x 4
theorem xorq (x : Nat) (h : x < 4294967296) : bits .xor .u32 ((x : Int) / 16) ((tab (x % 16) : Nat) : Int) = ((q4 x : Nat) : Int) := by
  have := u32_xor_nat (x / 16) (tab (x % 16)) (by omega) (tab_lt _)
  exact this

theorem and1 (x : Nat) (h : x < 4294967296) : bits .and .u32 (x : Int) 1 = ((x % 2 : Nat) : Int) := by
  have := u32_and_nat x 1 h (by omega)
  rw [show ((1 : Nat) : Int) = (1 : Int) from rfl] at this
  rw [this]
  congr 1
  exact Nat.and_two_pow_sub_one_eq_mod x 1
theorem bitStep_lt (r b : Nat) (h : r < 4294967296) : bitStep r b < 4294967296 := by
  unfold bitStep
  refine xor_lt _ _ (by omega) ?_
  split <;> decide
theorem bitsTo_lt (r c : Nat) (h : r < 4294967296) : ∀ k, bitsTo r c k < 4294967296
  | 0 => h
  | k + 1 => bitStep_lt _ _ (bitsTo_lt r c h k)

end Go.Proofs.YtdbboaebigpkoaaGreatDoor.Wr
namespace Go.Proofs.YtdbboaebigpkoaaGreatDoor.Wr
open Go.RowKit
set_option linter.unusedVariables false
set_option maxRecDepth 100000

theorem info5 : (Tryz.prog.info? 5).map (fun i => (i.zero, i.size, i.bytes)) = some (some (.int .u8 0), 1, 1) := by kernel_rfl
theorem size5 : (Tryz.prog.info? 5).map (·.size) = some 1 := by kernel_rfl
def u8v (c : UInt8) : Value := .int .u8 (c.toNat : Int)

theorem bytes_of_row {w : World} {g len cap : Nat} {f : Nat → UInt8} {L : List Value} (h : w.heap[g]? = some (.cells L.toArray 5 (0, 0))) (hL : ∀ i, i < len → L[i]? = some (u8v (f i))) : Bytes w (some ⟨g, 0, none⟩) len f := by
  intro i hi
  refine ⟨g, 0, rfl, ?_⟩
  rw [cell_of_row w g (0 + i) L.toArray 5 (0, 0) h]
  simpa [u8v] using hL i hi

end Go.Proofs.YtdbboaebigpkoaaGreatDoor.Wr
namespace Go.Proofs.YtdbboaebigpkoaaGreatDoor.Wr
open Go.RowKit
set_option linter.unusedVariables false
set_option maxRecDepth 100000

def wordN (f : Nat → UInt8) : Nat := (f 0).toNat * 16777216 + (f 1).toNat * 65536 + (f 2).toNat * 256 + (f 3).toNat

theorem or_sum (a b k : Nat) (hb : b < 2 ^ k) (h : a * 2 ^ k < 4294967296) (h' : b < 4294967296) : bits .or .u32 ((a * 2 ^ k : Nat) : Int) (b : Int) = ((a * 2 ^ k + b : Nat) : Int) := by
  rw [u32_or_nat _ _ h h', Nat.mul_comm, Nat.two_pow_add_eq_or_of_lt hb]
theorem or_word (x0 x1 x2 x3 : Nat) (t0 : x0 < 2 ^ 8) (t1 : x1 < 2 ^ 8) (t2 : x2 < 2 ^ 8) (t3 : x3 < 2 ^ 8) :
    bits .or .u32 (bits .or .u32 (bits .or .u32 ((x0 : Int) * 16777216) ((x1 : Int) * 65536)) ((x2 : Int) * 256)) (x3 : Int) = ((x0 * 16777216 + x1 * 65536 + x2 * 256 + x3 : Nat) : Int) := by
  have e1 := or_sum x0 (x1 * 65536) 24 (by omega) (by omega) (by omega)
  have e2 := or_sum (x0 * 256 + x1) (x2 * 256) 16 (by omega) (by omega) (by omega)
  have e3 := or_sum (x0 * 65536 + x1 * 256 + x2) x3 8 (by omega) (by omega) (by omega)
  rw [show (x0 : Int) * 16777216 = ((x0 * 2 ^ 24 : Nat) : Int) by omega, show (x1 : Int) * 65536 = ((x1 * 65536 : Nat) : Int) by omega, e1]
  rw [show (x0 * 2 ^ 24 + x1 * 65536 : Nat) = (x0 * 256 + x1) * 2 ^ 16 by omega, show (x2 : Int) * 256 = ((x2 * 256 : Nat) : Int) by omega, e2]
  rw [show ((x0 * 256 + x1) * 2 ^ 16 + x2 * 256 : Nat) = (x0 * 65536 + x1 * 256 + x2) * 2 ^ 8 by omega, e3]
theorem below_drewN {B : Nat} {a w : World} (h : Below B a w) (n : Nat) : Below B a (w.drewN n) := h.trans ⟨rfl, rfl, rfl, Nat.le_refl _, fun _ _ => rfl⟩

/-- The bytes of a word. -/
def wb (n : Nat) (i : Nat) : UInt8 := UInt8.ofNat (n / 256 ^ (3 - i))
theorem wb_word (f : Nat → UInt8) (n : Nat) (hn : n < 4294967296) : wordN f = n ↔ ∀ i, i < 4 → wb n i = f i := by
  unfold wordN wb
  have t0 := UInt8.toNat_lt (f 0)
  have t1 := UInt8.toNat_lt (f 1)
  have t2 := UInt8.toNat_lt (f 2)
  have t3 := UInt8.toNat_lt (f 3)
  constructor
  · intro h i hi
    apply UInt8.toNat_inj.1
    rw [UInt8.toNat_ofNat']
    match i, hi with
    | 0, _ => simp; omega
    | 1, _ => simp; omega
    | 2, _ => simp; omega
    | 3, _ => simp; omega
  · intro h
    have h0 := congrArg UInt8.toNat (h 0 (by omega))
    have h1 := congrArg UInt8.toNat (h 1 (by omega))
    have h2 := congrArg UInt8.toNat (h 2 (by omega))
    have h3 := congrArg UInt8.toNat (h 3 (by omega))
    rw [UInt8.toNat_ofNat'] at h0 h1 h2 h3
    simp at h0 h1 h2 h3
    omega

end Go.Proofs.YtdbboaebigpkoaaGreatDoor.Wr
namespace Go.Proofs.YtdbboaebigpkoaaGreatDoor.Wr
open Go.RowKit
set_option linter.unusedVariables false
set_option maxRecDepth 100000

/-- What is wrong with the sealed body at a place (0: nothing). -/
def opnE (f : Nat → UInt8) (len : Nat) (at_ : Int) : Nat :=
  if at_ < 0 ∨ (len : Int) < at_ + 8 then 7
  else
    let k := at_.toNat
    let n := wordN fun i => f (k + i)
    if 134217728 < n ∨ len < k + 8 + n then 7
    else if sumN (fun i => f (k + 8 + i)) n = wordN (fun i => f (k + 4 + i)) then 0 else 8

theorem opnE_out (f : Nat → UInt8) (len : Nat) (at_ : Int) (h : at_ < 0 ∨ (len : Int) < at_ + 8) : opnE f len at_ = 7 := by unfold opnE; rw [if_pos h]
theorem opnE_in (f : Nat → UInt8) (len k : Nat) (h : k + 8 ≤ len) : opnE f len (k : Int) = (if 134217728 < (wordN fun i => f (k + i)) ∨ len < k + 8 + (wordN fun i => f (k + i)) then 7 else if sumN (fun i => f (k + 8 + i)) (wordN fun i => f (k + i)) = wordN (fun i => f (k + 4 + i)) then 0 else 8) := by
  unfold opnE
  rw [if_neg (by omega)]
  simp only [Int.toNat_natCast]

theorem Bytes.from {w : World} {b o len : Nat} {f : Nat → UInt8} (h : Bytes w (some ⟨b, o, none⟩) len f) (k m : Nat) (hk : k + m ≤ len) : Bytes w (some ⟨b, o + k, none⟩) m (fun i => f (k + i)) := by
  intro i hi
  obtain ⟨b', o', e, hc⟩ := h (k + i) (by omega)
  cases e
  exact ⟨b, o + k, rfl, by rw [Nat.add_assoc]; exact hc⟩
theorem wordN_lt (f : Nat → UInt8) : wordN f < 4294967296 := by
  unfold wordN
  have t0 := UInt8.toNat_lt (f 0)
  have t1 := UInt8.toNat_lt (f 1)
  have t2 := UInt8.toNat_lt (f 2)
  have t3 := UInt8.toNat_lt (f 3)
  omega

end Go.Proofs.YtdbboaebigpkoaaGreatDoor.Wr
namespace Go.Proofs.YtdbboaebigpkoaaGreatDoor.Wr
open Go.RowKit
set_option linter.unusedVariables false
set_option maxRecDepth 100000

/-- The text of 'n' bytes. -/
def bstr (f : Nat → UInt8) (n : Nat) : ByteArray := ⟨((List.range n).map f).toArray⟩
theorem bstr_eq (f g : Nat → UInt8) (n : Nat) : bstr f n = bstr g n ↔ ∀ i, i < n → f i = g i := by
  unfold bstr
  constructor
  · intro h i hi
    have h1 : (List.range n).map f = (List.range n).map g := by simpa using h
    have := congrArg (fun l => l[i]?) h1
    simpa [hi] using this
  · intro h
    congr 2
    exact List.map_congr_left fun i hi => h i (by simpa using hi)
theorem toList_inj {s t : ByteArray} (h : s.toList = t.toList) : s = t := by
  rw [ByteArray.toList_eq, ByteArray.toList_eq] at h
  apply ByteArray.ext
  exact Array.toList_inj.1 h
theorem beq_str {s t : ByteArray} (h : s = t) : (s.toList == t.toList) = true := by rw [h]; exact beq_self_eq_true _
theorem bne_str {s t : ByteArray} (h : ¬ s = t) : (s.toList == t.toList) = false := by
  cases he : (s.toList == t.toList)
  · rfl
  · exact absurd (toList_inj (eq_of_beq he)) h
theorem conv_bytes (w : World) (a : Option Addr) (len cap : Nat) (f : Nat → UInt8) (h : Bytes w a len f) :
    (convert 50 9 (.slice a len cap)).run Tryz.prog w = .ok (.string (bstr f len)) w := by
  cases a with
  | none =>
    have h0 : len = 0 := by
      rcases Nat.eq_zero_or_pos len with h0 | h0
      · exact h0
      · obtain ⟨b, o, e, _⟩ := h 0 h0; cases e
    subst h0
    exact run_convert_bytes_nil (P := Tryz.prog) w 50 5 Tryz.underlying50 Tryz.underlying5 0 cap 9 Tryz.underlying9
  | some a =>
    have := run_convert_bytes_back (P := Tryz.prog) w 50 9 5 a cap ((List.range len).map f) Tryz.underlying50 Tryz.underlying5 Tryz.underlying9 (by
      intro j hj
      obtain ⟨b, o, e, hc⟩ := h j (by simpa using hj)
      cases e
      rw [WideShapes.add_plain, hc]
      simp)
    simp only [List.length_map, List.length_range] at this
    exact this

theorem slice_lh (b o len cap k n : Nat) (hn : k + 8 + n ≤ cap) (o' : Nat) (eA : (if cap = k + 8 then some (Addr.mk b o none) else some (Addr.mk b (o + (k + 8)) none)) = some (Addr.mk b o' none)) (W : World) :
    (Instr.slice 50 (.slice (some ⟨b, o, none⟩) len cap) (some (.int .i64 ((k : Int) + 8))) (some (.int .i64 ((k : Int) + 8 + (n : Int)))) none).run Tryz.prog W = .ok (.slice (some ⟨b, o', none⟩) n (cap - (k + 8))) W := by
  rw [run_slice_lh (P := Tryz.prog) W 50 (some ⟨b, o, none⟩) len cap (Tryz.underlying50.trans (by kernel_rfl)) .i64 .i64 _ _ (by omega) (by omega) (by omega)]
  rw [show ((k : Int) + 8).toNat = k + 8 by omega, show ((k : Int) + 8 + (n : Int)).toNat = k + 8 + n by omega]
  have hs : (sizeOf (Tryz.prog.elem 50)).run Tryz.prog W = .ok 1 W := by
    rw [show Tryz.prog.elem 50 = 5 by kernel_rfl]; exact Tryz.sizeOf5 W
  rw [hs]
  simp only [Result.andThen, sliced, Nat.mul_one, Option.map]
  rw [show ∀ j, (Addr.mk b o none).add j = Addr.mk b (o + j) none from fun j => WideShapes.add_plain .., eA, Nat.add_sub_cancel_left]
theorem sliceAt_lh (b o len cap k n : Nat) (hn : k + 8 + n ≤ cap) (o' : Nat) (eA : (if cap = k + 8 then some (Addr.mk b o none) else some (Addr.mk b (o + (k + 8)) none)) = some (Addr.mk b o' none)) (W : World) :
    (Instr.sliceAt 50 (.slice (some ⟨b, o, none⟩) len cap) (some (.int .i64 ((k : Int) + 8))) (some (.int .i64 ((k : Int) + 8 + (n : Int)))) none).run Tryz.prog W = .ok (.slice (some ⟨b, o', none⟩) n (cap - (k + 8))) W := by
  rw [run_sliceAt_slice W 50 _ _ _ _ (Tryz.underlying50.trans (by kernel_rfl))]
  exact slice_lh b o len cap k n hn o' eA W
theorem slice_48 (b o len cap k : Nat) (hn : k + 8 ≤ cap) (W : World) :
    (Instr.slice 50 (.slice (some ⟨b, o, none⟩) len cap) (some (.int .i64 ((k : Int) + 4))) (some (.int .i64 ((k : Int) + 8))) none).run Tryz.prog W = .ok (.slice (some ⟨b, o + (k + 4), none⟩) 4 (cap - (k + 4))) W := by
  rw [run_slice_lh (P := Tryz.prog) W 50 (some ⟨b, o, none⟩) len cap (Tryz.underlying50.trans (by kernel_rfl)) .i64 .i64 _ _ (by omega) (by omega) (by omega)]
  rw [show ((k : Int) + 4).toNat = k + 4 by omega, show ((k : Int) + 8).toNat = k + 8 by omega]
  have hs : (sizeOf (Tryz.prog.elem 50)).run Tryz.prog W = .ok 1 W := by
    rw [show Tryz.prog.elem 50 = 5 by kernel_rfl]; exact Tryz.sizeOf5 W
  rw [hs]
  simp only [Result.andThen, sliced, Nat.mul_one, Option.map]
  rw [show ∀ j, (Addr.mk b o none).add j = Addr.mk b (o + j) none from fun j => WideShapes.add_plain .., if_neg (by omega), show k + 8 - (k + 4) = 4 by omega]
theorem sliceAt_48 (b o len cap k : Nat) (hn : k + 8 ≤ cap) (W : World) :
    (Instr.sliceAt 50 (.slice (some ⟨b, o, none⟩) len cap) (some (.int .i64 ((k : Int) + 4))) (some (.int .i64 ((k : Int) + 8))) none).run Tryz.prog W = .ok (.slice (some ⟨b, o + (k + 4), none⟩) 4 (cap - (k + 4))) W := by
  rw [run_sliceAt_slice W 50 _ _ _ _ (Tryz.underlying50.trans (by kernel_rfl))]
  exact slice_48 b o len cap k hn W
theorem wordN_at (f : Nat → UInt8) (k : Nat) : (wordN fun i => f (k + i)) = (f k).toNat * 16777216 + (f (k + 1)).toNat * 65536 + (f (k + 2)).toNat * 256 + (f (k + 3)).toNat := by
  simp only [wordN, Nat.add_zero]
theorem wordN_int (x0 x1 x2 x3 : Nat) : (x0 : Int) * 16777216 + (x1 : Int) * 65536 + (x2 : Int) * 256 + (x3 : Int) = ((x0 * 16777216 + x1 * 65536 + x2 * 256 + x3 : Nat) : Int) := by omega

end Go.Proofs.YtdbboaebigpkoaaGreatDoor.Wr
namespace Go.Proofs.YtdbboaebigpkoaaGreatDoor.Wr
open Go.RowKit
set_option linter.unusedVariables false
set_option maxRecDepth 100000

def opnN (f : Nat → UInt8) (len : Nat) (at_ : Int) : Nat := if opnE f len at_ = 0 then (wordN fun i => f (at_.toNat + i)) else 0
def opnT (f : Nat → UInt8) (len : Nat) (at_ : Int) : Int := if opnE f len at_ = 0 then at_ + 8 + (opnN f len at_ : Int) else 0
def opnF (f : Nat → UInt8) (at_ : Int) : Nat → UInt8 := fun i => f (at_.toNat + 8 + i)
def errV (e : Nat) : Value := if e = 0 then .nilIface else .iface 30 (.int .i64 (e : Int))

theorem own_later {w w' : World} {B e size n : Nat} {v : Value} {xs : List Value} (h : w.ownsRow B e size v n xs) (hb : Below w.heap.size w w') : w'.ownsRow B e size v n xs := by
  refine ⟨h.1, ?_⟩
  rcases h.2 with h2 | ⟨g, cap, cur, h1, h2, h3, h4⟩
  · exact .inl h2
  · refine .inr ⟨g, cap, cur, h1, h2, ?_, h4⟩
    have hlt : g < w.heap.size := by
      rcases Nat.lt_or_ge g w.heap.size with h | h
      · exact h
      · rw [Array.getElem?_eq_none h] at h3; cases h3
    rw [hb.block g hlt]; exact h3

theorem opnN_le (f : Nat → UInt8) (len : Nat) (at_ : Int) : opnN f len at_ ≤ len := by
  unfold opnN
  by_cases ho : at_ < 0 ∨ (len : Int) < at_ + 8
  · rw [if_neg (by rw [opnE_out f len at_ ho]; decide)]; omega
  · obtain ⟨k, rfl⟩ : ∃ k : Nat, at_ = (k : Int) := ⟨at_.toNat, by omega⟩
    rw [opnE_in f len k (by omega)]
    simp only [Int.toNat_natCast]
    by_cases h : 134217728 < (wordN fun i => f (k + i)) ∨ len < k + 8 + (wordN fun i => f (k + i))
    · rw [if_pos h, if_neg (by decide)]; omega
    · rw [if_neg h]
      by_cases h2 : sumN (fun i => f (k + 8 + i)) (wordN fun i => f (k + i)) = wordN (fun i => f (k + 4 + i))
      · rw [if_pos h2, if_pos rfl]; omega
      · rw [if_neg h2, if_neg (by decide)]; omega

theorem opnN_small (f : Nat → UInt8) (len : Nat) (at_ : Int) : opnN f len at_ ≤ 134217728 := by
  unfold opnN
  by_cases ho : at_ < 0 ∨ (len : Int) < at_ + 8
  · rw [if_neg (by rw [opnE_out f len at_ ho]; decide)]; omega
  · obtain ⟨k, rfl⟩ : ∃ k : Nat, at_ = (k : Int) := ⟨at_.toNat, by omega⟩
    rw [opnE_in f len k (by omega)]
    simp only [Int.toNat_natCast]
    by_cases h : 134217728 < (wordN fun i => f (k + i)) ∨ len < k + 8 + (wordN fun i => f (k + i))
    · rw [if_pos h, if_neg (by decide)]; omega
    · rw [if_neg h]
      by_cases h2 : sumN (fun i => f (k + 8 + i)) (wordN fun i => f (k + i)) = wordN (fun i => f (k + 4 + i))
      · rw [if_pos h2, if_pos rfl]; omega
      · rw [if_neg h2, if_neg (by decide)]; omega

theorem told_any (n : Nat) (w : World) (hg : Ety w) : Calls Tryz.prog 5 #[errV n] w fun e w' => e = .returned (.int .i64 (n : Int)) ∧ Below w.heap.size w w' := by
  unfold errV
  by_cases h : n = 0
  · rw [if_pos h]
    refine (told_nil w).mono ?_
    rintro e w' ⟨rfl, rfl⟩
    exact ⟨by rw [h]; rfl, Below.refl _ _⟩
  · rw [if_neg h]
    exact told_errno n w hg

/-- The cells of a row of one's own are the bytes. -/
theorem bytes_of_own {w : World} {B g n cap : Nat} {f : Nat → UInt8} (h : w.ownsRow B 5 1 (.slice (some ⟨g, 0, none⟩) n cap) n ((List.range n).map fun i => u8v (f i))) : Bytes w (some ⟨g, 0, none⟩) n f := by
  intro i hi
  refine ⟨g, 0, rfl, ?_⟩
  rw [Nat.zero_add, h.cellAt i (by omega)]
  simp [hi, u8v]
end Go.Proofs.YtdbboaebigpkoaaGreatDoor.Wr
