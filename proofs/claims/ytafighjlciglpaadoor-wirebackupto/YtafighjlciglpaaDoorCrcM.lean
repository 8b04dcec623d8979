namespace Go.Proofs.YtafighjlciglpaaDoor

/-- The polynomial; one step of the sum with a bit of 0; four steps by a look. -/
def pol : Nat := 3988292384
def z1 (x : Nat) : Nat := (x / 2) ^^^ (if x % 2 = 1 then pol else 0)
def tab (i : Nat) : Nat := [0, 498536548, 997073096, 651767980, 1994146192, 1802195444, 1303535960, 1342533948, 3988292384, 4027552580, 3604390888, 3412177804, 2607071920, 2262029012, 2685067896, 3183342108].getD i 0
def q4 (x : Nat) : Nat := (x / 16) ^^^ tab (x % 16)

theorem xor_mod2 (a b : Nat) : (a ^^^ b) % 2 = (a + b) % 2 := by
  have h := Nat.xor_mod_two_pow (a := a) (b := b) (n := 1)
  rw [Nat.pow_one] at h
  rw [h]
  rcases Nat.mod_two_eq_zero_or_one a with ha | ha <;> rcases Nat.mod_two_eq_zero_or_one b with hb | hb <;> rw [ha, hb] <;> simp <;> omega
theorem xor_div2 (a b : Nat) : (a ^^^ b) / 2 = (a / 2) ^^^ (b / 2) := Nat.xor_div_two

/-- One step, where the part that came of the polynomial is even. -/
theorem z1_step (a c : Nat) (hc : c % 2 = 0) : z1 (a ^^^ c) = (a / 2) ^^^ ((c / 2) ^^^ (if a % 2 = 1 then pol else 0)) := by
  unfold z1
  rw [xor_div2, xor_mod2, show (a + c) % 2 = a % 2 by omega, Nat.xor_assoc]

theorem z4 (x : Nat) : z1 (z1 (z1 (z1 x))) = q4 x := by
  have hx : x = x ^^^ 0 := by simp
  have e : ∀ l, l < 16 → x % 16 = l → z1 (z1 (z1 (z1 x))) = q4 x := by
    intro l hl hm
    have h1 : x % 2 = l % 2 := by omega
    have h2 : x / 2 % 2 = l / 2 % 2 := by omega
    have h3 : x / 2 / 2 % 2 = l / 4 % 2 := by omega
    have h4 : x / 2 / 2 / 2 % 2 = l / 8 % 2 := by omega
    have h5 : x / 2 / 2 / 2 / 2 = x / 16 := by omega
    unfold q4
    rw [hm]
    rw [show z1 x = z1 (x ^^^ 0) by rw [← hx], z1_step x 0 rfl, h1]
    have : l = 0 ∨ l = 1 ∨ l = 2 ∨ l = 3 ∨ l = 4 ∨ l = 5 ∨ l = 6 ∨ l = 7 ∨ l = 8 ∨ l = 9 ∨ l = 10 ∨ l = 11 ∨ l = 12 ∨ l = 13 ∨ l = 14 ∨ l = 15 := by omega
    rcases this with rfl | rfl | rfl | rfl | rfl | rfl | rfl | rfl | rfl | rfl | rfl | rfl | rfl | rfl | rfl | rfl
    all_goals
      rw [z1_step _ _ (by decide), h2, z1_step _ _ (by decide), h3, z1_step _ _ (by decide), h4, h5]
      congr 1
  exact e (x % 16) (Nat.mod_lt _ (by omega)) rfl

/-- A bit of a byte goes in. -/
def bitStep (r b : Nat) : Nat := (r / 2) ^^^ (if (r ^^^ b) % 2 = 1 then pol else 0)
theorem bitStep_z (r c : Nat) : bitStep r (c % 2) ^^^ (c / 2) = z1 (r ^^^ c) := by
  unfold bitStep z1
  rw [xor_div2, xor_mod2, xor_mod2, show (r + c % 2) % 2 = (r + c) % 2 by omega]
  rw [Nat.xor_assoc, Nat.xor_assoc, Nat.xor_comm (c / 2)]
/-- The first k bits of a byte. -/
def bitsTo (r c : Nat) : Nat → Nat
  | 0 => r
  | k + 1 => bitStep (bitsTo r c k) (c / 2 ^ k % 2)
def zTo (x : Nat) : Nat → Nat
  | 0 => x
  | k + 1 => z1 (zTo x k)
theorem bitsTo_z (r c : Nat) : ∀ k, bitsTo r c k ^^^ (c / 2 ^ k) = zTo (r ^^^ c) k
  | 0 => by simp [bitsTo, zTo]
  | k + 1 => by
    rw [bitsTo, zTo, ← bitsTo_z r c k, ← bitStep_z]
    rw [Nat.pow_succ, Nat.div_div_eq_div_mul]
def byteStep (r c : Nat) : Nat := q4 (q4 (r ^^^ c))
theorem bits8 (r c : Nat) (hc : c < 256) : bitsTo r c 8 = byteStep r c := by
  have h := bitsTo_z r c 8
  rw [show c / 2 ^ 8 = 0 by rw [Nat.div_eq_of_lt]; omega] at h
  simp only [Nat.xor_zero] at h
  rw [h]
  unfold byteStep
  rw [← z4, ← z4]
  rfl

theorem tab_lt (i : Nat) : tab i < 4294967296 := by
  unfold tab
  by_cases h : i < 16
  · revert i; decide
  · rw [List.getD_eq_getElem?_getD, List.getElem?_eq_none (by simp; omega)]; decide
theorem q4_lt (x : Nat) (h : x < 4294967296) : q4 x < 4294967296 := by
  unfold q4
  have := tab_lt (x % 16)
  exact Nat.xor_lt_two_pow (n := 32) (by omega) (by omega)
theorem xor_lt (a b : Nat) (h1 : a < 4294967296) (h2 : b < 4294967296) : a ^^^ b < 4294967296 := Nat.xor_lt_two_pow (n := 32) (by omega) (by omega)
theorem byteStep_lt (r c : Nat) (h : r < 4294967296) (hc : c < 256) : byteStep r c < 4294967296 := q4_lt _ (q4_lt _ (xor_lt _ _ h (by omega)))

def regTo (f : Nat → UInt8) : Nat → Nat
  | 0 => 4294967295
  | k + 1 => byteStep (regTo f k) (f k).toNat
theorem regTo_lt (f : Nat → UInt8) : ∀ k, regTo f k < 4294967296
  | 0 => by unfold regTo; omega
  | k + 1 => byteStep_lt _ _ (regTo_lt f k) (UInt8.toNat_lt _)
/-- The sum of the first k bytes. -/
def sumN (f : Nat → UInt8) (k : Nat) : Nat := regTo f k ^^^ 4294967295
theorem sumN_lt (f : Nat → UInt8) (k : Nat) : sumN f k < 4294967296 := xor_lt _ _ (regTo_lt f k) (by omega)
end Go.Proofs.YtafighjlciglpaaDoor
