import Derived.Test.YtobhccmnlmlapaaGreatDoorGi
namespace Go.Proofs.YtobhccmnlmlapaaGreatDoor.Wr
open Go.RowKit
set_option linter.unusedVariables false
set_option maxRecDepth 100000

theorem ofNat_inj {a b : Nat} (ha : a < 256) (hb : b < 256) (h : UInt8.ofNat a = UInt8.ofNat b) : a = b := by
  have := congrArg UInt8.toNat h
  rw [UInt8.toNat_ofNat', UInt8.toNat_ofNat', Nat.mod_eq_of_lt ha, Nat.mod_eq_of_lt hb] at this
  exact this

theorem vint_pf (u v : Nat) (r s : List UInt8) (h : vint u ++ r = vint v ++ s) : u = v ∧ r = s := by
  induction u using Nat.strongRecOn generalizing v with
  | ind u ih =>
    by_cases hu : u < 128
    · by_cases hv : v < 128
      · rw [vint_lt hu, vint_lt hv] at h
        simp only [List.cons_append, List.nil_append, List.cons.injEq] at h
        exact ⟨ofNat_inj (by omega) (by omega) h.1, h.2⟩
      · rw [vint_lt hu, vint_ge hv] at h
        simp only [List.cons_append, List.nil_append, List.cons.injEq] at h
        have := ofNat_inj (by omega) (by omega) h.1
        omega
    · by_cases hv : v < 128
      · rw [vint_ge hu, vint_lt hv] at h
        simp only [List.cons_append, List.nil_append, List.cons.injEq] at h
        have := ofNat_inj (by omega) (by omega) h.1
        omega
      · rw [vint_ge hu, vint_ge hv] at h
        simp only [List.cons_append, List.cons.injEq] at h
        have h1 := ofNat_inj (by omega) (by omega) h.1
        have h2 := ih (u / 128) (by omega) (v / 128) h.2
        exact ⟨by omega, h2.2⟩
theorem zig_inj {n m : Int} (h : zig n = zig m) : n = m := by
  unfold zig at h
  split at h <;> split at h <;> omega
theorem encInt_pf {n m : Int} {r s : List UInt8} (h : encInt n ++ r = encInt m ++ s) : n = m ∧ r = s := by
  obtain ⟨h1, h2⟩ := vint_pf _ _ _ _ h
  exact ⟨zig_inj h1, h2⟩

/-- What has the form of a value. -/
def FormV (v : V) : Prop := 0 ≤ v.k ∧ v.k < 256 ∧ (¬ (v.k = 1 ∨ v.k = 2) → v.n = 0) ∧ (v.k ≠ 3 → v.s = ByteArray.empty)
theorem size_zero {s : ByteArray} (h : s.size = 0) : s = ByteArray.empty := by
  apply ByteArray.ext
  exact Array.eq_empty_of_size_eq_zero h
theorem form_of_valid {v : V} (h : validV v = true) : FormV v := by
  unfold validV at h
  unfold FormV
  split at h
  · simp at h; exact ⟨by omega, by omega, fun _ => h.1, fun _ => h.2⟩
  · split at h
    · simp at h; exact ⟨by omega, by omega, fun k => absurd (.inl ‹_›) k, fun _ => h⟩
    · split at h
      · simp at h; exact ⟨by omega, by omega, fun k => absurd (.inr ‹_›) k, fun _ => h.1⟩
      · split at h
        · simp at h; exact ⟨by omega, by omega, fun _ => h.1, fun k => absurd ‹_› k⟩
        · cases h
theorem kb_inj {a b : Int} (ha : 0 ≤ a ∧ a < 256) (hb : 0 ≤ b ∧ b < 256) (h : kb a = kb b) : a = b := by
  unfold kb at h
  have := ofNat_inj (by omega) (by omega) h
  omega
theorem encVal_pf {v u : V} (hv : FormV v) (hu : FormV u) {r s : List UInt8} (h : encVal v ++ r = encVal u ++ s) : v = u ∧ r = s := by
  obtain ⟨k, n, t⟩ := v
  obtain ⟨k', n', t'⟩ := u
  unfold FormV at hv hu
  unfold encVal encTail at h
  simp only [List.cons_append, List.cons.injEq] at hv hu h
  obtain ⟨hk, h⟩ := h
  obtain rfl := kb_inj ⟨hv.1, hv.2.1⟩ ⟨hu.1, hu.2.1⟩ hk
  by_cases h1 : k = 1 ∨ k = 2
  · rw [if_pos h1, if_pos h1] at h
    obtain ⟨rfl, rfl⟩ := encInt_pf h
    rw [hv.2.2.2 (by omega), hu.2.2.2 (by omega)]
    exact ⟨rfl, rfl⟩
  · rw [if_neg h1, if_neg h1] at h
    rw [hv.2.2.1 h1, hu.2.2.1 h1]
    by_cases h3 : k = 3
    · rw [if_pos h3, if_pos h3, List.append_assoc, List.append_assoc] at h
      obtain ⟨e1, e2⟩ := encInt_pf h
      have hl : t.data.toList.length = t'.data.toList.length := by
        rw [show t.data.toList.length = t.size by simp, show t'.data.toList.length = t'.size by simp]; omega
      obtain ⟨e3, e4⟩ := List.append_inj e2 hl
      have : t = t' := by apply ByteArray.ext; exact Array.toList_inj.1 e3
      subst this
      exact ⟨rfl, e4⟩
    · rw [if_neg h3, if_neg h3] at h
      rw [hv.2.2.2 h3, hu.2.2.2 h3]
      exact ⟨rfl, by simpa using h⟩

/-- A list of things that can be told apart by their beginnings. -/
def PF {α : Type} (P : α → Prop) (enc : α → List UInt8) : Prop := ∀ x y r s, P x → P y → enc x ++ r = enc y ++ s → x = y ∧ r = s
theorem flat_pf {α : Type} {P : α → Prop} {enc : α → List UInt8} (hp : PF P enc) : ∀ (xs ys : List α) (r s : List UInt8), (∀ x ∈ xs, P x) → (∀ y ∈ ys, P y) → xs.length = ys.length → xs.flatMap enc ++ r = ys.flatMap enc ++ s → xs = ys ∧ r = s
  | [], [], r, s, _, _, _, h => ⟨rfl, by simpa using h⟩
  | [], y :: ys, r, s, _, _, hl, _ => by simp at hl
  | x :: xs, [], r, s, _, _, hl, _ => by simp at hl
  | x :: xs, y :: ys, r, s, hx, hy, hl, h => by
    rw [List.flatMap_cons, List.flatMap_cons, List.append_assoc, List.append_assoc] at h
    obtain ⟨rfl, h2⟩ := hp _ _ _ _ (hx x (by simp)) (hy y (by simp)) h
    obtain ⟨rfl, rfl⟩ := flat_pf hp xs ys r s (fun a ha => hx a (by simp [ha])) (fun a ha => hy a (by simp [ha])) (by simpa using hl) h2
    exact ⟨rfl, rfl⟩
theorem flat_next {α : Type} {P : α → Prop} {enc : α → List UInt8} (hp : PF P enc) (xs ys : List α) (r s : List UInt8) (hx : ∀ x ∈ xs, P x) (hy : ∀ y ∈ ys, P y) (hl : xs.length < ys.length) (h : xs.flatMap enc ++ r = ys.flatMap enc ++ s) : ∃ y ∈ ys, ∃ s', r = enc y ++ s' := by
  have e : ys.flatMap enc = (ys.take xs.length).flatMap enc ++ (enc ys[xs.length] ++ (ys.drop (xs.length + 1)).flatMap enc) := by
    conv => lhs; rw [← List.take_append_drop xs.length ys]
    rw [List.flatMap_append, List.drop_eq_getElem_cons hl, List.flatMap_cons]
  rw [e, List.append_assoc] at h
  obtain ⟨-, h2⟩ := flat_pf hp xs (ys.take xs.length) _ _ hx (fun y hm => hy y (List.mem_of_mem_take hm)) (by simp; omega) h
  exact ⟨_, List.getElem_mem hl, _, by rw [h2, List.append_assoc]⟩
theorem encVal_PF : PF FormV encVal := fun _ _ _ _ h1 h2 h => encVal_pf h1 h2 h
def FormR (r : Rw) : Prop := ∀ v ∈ r.vs, FormV v
theorem encRow_PF : PF FormR encRow := by
  intro x y r s hx hy h
  obtain ⟨t, vs⟩ := x
  obtain ⟨t', vs'⟩ := y
  unfold encRow at h
  simp only [List.append_assoc] at h
  obtain ⟨ht, h2⟩ := encInt_pf h
  obtain ⟨hl, h3⟩ := encInt_pf h2
  obtain ⟨rfl, rfl⟩ := flat_pf encVal_PF vs vs' r s hx hy (by omega) h3
  subst ht
  exact ⟨rfl, rfl⟩
theorem encRows_pf {xs ys : List Rw} {r s : List UInt8} (hx : ∀ x ∈ xs, FormR x) (hy : ∀ y ∈ ys, FormR y) (h : encRows xs ++ r = encRows ys ++ s) : xs = ys ∧ r = s := by
  unfold encRows at h
  simp only [List.append_assoc] at h
  obtain ⟨hl, h⟩ := encInt_pf h
  exact flat_pf encRow_PF xs ys r s hx hy (by omega) h
theorem formR_of_valid {r : Rw} (h : validR r = true) : FormR r := by
  intro v hv
  unfold validR at h
  simp at h
  exact form_of_valid (h.1 v hv)
end Go.Proofs.YtobhccmnlmlapaaGreatDoor.Wr
namespace Go.Proofs.YtobhccmnlmlapaaGreatDoor.Wr
open Go.RowKit
set_option linter.unusedVariables false
set_option maxRecDepth 100000

/-- Seven bits a byte, the lowest first. -/
def val : List UInt8 → Nat
  | [] => 0
  | c :: p => c.toNat % 128 + 128 * val p
def Hi (p : List UInt8) : Prop := ∀ c ∈ p, 128 ≤ c.toNat
theorem ofNat_toNat (c : UInt8) : UInt8.ofNat c.toNat = c := by
  apply UInt8.toNat_inj.1
  rw [UInt8.toNat_ofNat']
  have := UInt8.toNat_lt c
  omega
theorem val_lt : ∀ p : List UInt8, val p < 128 ^ p.length
  | [] => by simp [val]
  | c :: p => by
    have := val_lt p
    rw [val, List.length_cons, Nat.pow_succ]
    omega
theorem val_snoc (c : UInt8) : ∀ p : List UInt8, val (p ++ [c]) = val p + 128 ^ p.length * (c.toNat % 128)
  | [] => by simp [val]
  | d :: p => by
    rw [List.cons_append, val, val_snoc c p, val, List.length_cons, Nat.pow_succ, Nat.mul_add, Nat.mul_comm (128 ^ p.length) 128, Nat.mul_assoc]
    omega
theorem vint_split : ∀ (p : List UInt8) (z : Nat) (s t : List UInt8), Hi p → vint z ++ s = p ++ t → ∃ z', z = val p + 128 ^ p.length * z' ∧ vint z' ++ s = t ∧ (p ≠ [] → 0 < z')
  | [], z, s, t, _, h => ⟨z, by simp [val], by simpa using h, fun k => absurd rfl k⟩
  | c :: p, z, s, t, hp, h => by
    have hc := hp c (by simp)
    have hc2 := UInt8.toNat_lt c
    have hz : ¬ z < 128 := by
      intro hz
      rw [vint_lt hz] at h
      simp only [List.cons_append, List.nil_append, List.cons.injEq] at h
      have := congrArg UInt8.toNat h.1
      rw [UInt8.toNat_ofNat'] at this
      omega
    rw [vint_ge hz] at h
    simp only [List.cons_append, List.cons.injEq] at h
    have h1 := congrArg UInt8.toNat h.1
    rw [UInt8.toNat_ofNat'] at h1
    obtain ⟨z', e1, e2, e3⟩ := vint_split p (z / 128) s t (fun d hd => hp d (by simp [hd])) h.2
    refine ⟨z', ?_, e2, fun _ => ?_⟩
    · rw [val, List.length_cons, Nat.pow_succ, Nat.mul_comm (128 ^ p.length) 128, Nat.mul_assoc, Nat.add_assoc, ← Nat.mul_add, ← e1]
      omega
    · by_cases hn : p = []
      · subst hn; simp [val] at e1; omega
      · exact e3 hn
theorem vint_join : ∀ (p : List UInt8) (z : Nat), Hi p → (p ≠ [] → 0 < z) → vint (val p + 128 ^ p.length * z) = p ++ vint z
  | [], z, _, _ => by simp [val]
  | c :: p, z, hp, hz => by
    have hc := hp c (by simp)
    have hc2 := UInt8.toNat_lt c
    have h0 : 0 < 128 ^ p.length * z := Nat.mul_pos (Nat.pow_pos (by decide)) (hz (by simp))
    have ih := vint_join p z (fun d hd => hp d (by simp [hd])) (fun _ => hz (by simp))
    rw [val, List.length_cons, Nat.pow_succ, Nat.mul_comm (128 ^ p.length) 128, Nat.mul_assoc, Nat.add_assoc, ← Nat.mul_add]
    have hN : 0 < val p + 128 ^ p.length * z := by omega
    generalize val p + 128 ^ p.length * z = N at *
    rw [vint_ge (by omega), show (c.toNat % 128 + 128 * N) / 128 = N by omega, ih, show (c.toNat % 128 + 128 * N) % 128 + 128 = c.toNat by omega, ofNat_toNat]
    rfl
def unz (u : Nat) : Int := if u % 2 = 0 then ((u / 2 : Nat) : Int) else -((u / 2 : Nat) : Int) - 1
def InI (n : Int) : Prop := -9223372036854775808 ≤ n ∧ n ≤ 9223372036854775807
theorem zig_unz (u : Nat) : zig (unz u) = u := by
  unfold zig unz
  split <;> split <;> omega
theorem unz_in {u : Nat} (h : u < 18446744073709551616) : InI (unz u) := by
  unfold InI unz
  split <;> omega
theorem InI.zig {n : Int} (h : InI n) : zig n < 18446744073709551616 := zig_lt n h.1 h.2
theorem encInt_unz (u : Nat) : encInt (unz u) = vint u := by rw [encInt, zig_unz]

theorem num_ok {p : List UInt8} {c : UInt8} (hp : Hi p) (hc : c.toNat < 128) (h0 : p = [] ∨ 0 < c.toNat) : encInt (unz (val (p ++ [c]))) = p ++ [c] := by
  rw [encInt_unz, val_snoc, Nat.mod_eq_of_lt hc, vint_join p c.toNat hp (fun h => h0.resolve_left h), vint_lt hc, ofNat_toNat]
theorem num_cut {p : List UInt8} (hp : Hi p) (m : Int) (s : List UInt8) : p ≠ encInt m ++ s := by
  intro h
  obtain ⟨z', -, e, -⟩ := vint_split p (zig m) s [] hp (by rw [List.append_nil]; exact h.symm)
  have := congrArg List.length e
  have h2 := vint_pos z'
  rw [List.length_append, List.length_nil] at this
  omega
theorem num_zero {p t : List UInt8} {c : UInt8} (hp : Hi p) (hne : p ≠ []) (hc : c.toNat = 0) (m : Int) (s : List UInt8) : p ++ c :: t ≠ encInt m ++ s := by
  intro h
  obtain ⟨z', -, e, e2⟩ := vint_split p (zig m) s (c :: t) hp h.symm
  have hz := e2 hne
  by_cases h1 : z' < 128
  · rw [vint_lt h1] at e
    simp only [List.cons_append, List.nil_append, List.cons.injEq] at e
    have := congrArg UInt8.toNat e.1
    rw [UInt8.toNat_ofNat'] at this
    omega
  · rw [vint_ge h1] at e
    simp only [List.cons_append, List.cons.injEq] at e
    have := congrArg UInt8.toNat e.1
    rw [UInt8.toNat_ofNat'] at this
    omega
theorem num_great {p t : List UInt8} {c : UInt8} (hp : Hi p) (hl : p.length = 9) (hc : 1 < c.toNat) (m : Int) (hm : InI m) (s : List UInt8) : p ++ c :: t ≠ encInt m ++ s := by
  intro h
  obtain ⟨z', e1, e, -⟩ := vint_split p (zig m) s (c :: t) hp h.symm
  have hz := hm.zig
  rw [e1, hl] at hz
  have h1 : z' ≤ 1 := by omega
  rw [vint_lt (by omega)] at e
  simp only [List.cons_append, List.nil_append, List.cons.injEq] at e
  have := congrArg UInt8.toNat e.1
  rw [UInt8.toNat_ofNat'] at this
  omega
end Go.Proofs.YtobhccmnlmlapaaGreatDoor.Wr
namespace Go.Proofs.YtobhccmnlmlapaaGreatDoor.Wr
open Go.RowKit
set_option linter.unusedVariables false
set_option maxRecDepth 100000

theorem and127 (x : Nat) (hx : x < 256) : bits .and .u8 (x : Int) 127 = ((x % 128 : Nat) : Int) := by
  have key : ∀ z : Fin 256, bits .and .u8 ((z.val : Nat) : Int) 127 = ((z.val % 128 : Nat) : Int) := by decide +kernel
  exact key ⟨x, hx⟩
theorem pow7 (k : Nat) : (2 : Nat) ^ (7 * k) = 128 ^ k := by rw [Nat.pow_mul]
theorem low_or (v x k : Nat) (hv : v < 128 ^ k) (h : 128 ^ k * x + v < 18446744073709551616) : bits .or .u64 (v : Int) ((128 ^ k * x : Nat) : Int) = ((v + 128 ^ k * x : Nat) : Int) := by
  rw [u64_or_nat _ _ (by omega) (by omega)]
  congr 1
  rw [← pow7] at *
  rw [Nat.or_comm, ← Nat.two_pow_add_eq_or_of_lt hv]
  omega
theorem num_or (v x k : Nat) (hv : v < 128 ^ k) (hx : x < 256) (hk : k ≤ 8 ∨ (k = 9 ∧ x ≤ 1)) :
    bits .or .u64 (v : Int) (IntKind.u64.wrap (IntKind.u64.wrap (bits .and .u8 (x : Int) 127) * 2 ^ (7 * k))) = ((v + 128 ^ k * (x % 128) : Nat) : Int) ∧ v + 128 ^ k * (x % 128) < 18446744073709551616 := by
  have hb : 128 ^ k * (x % 128) + v < 18446744073709551616 := by
    rcases hk with h8 | ⟨rfl, h1⟩
    · have h : 128 ^ k ≤ 128 ^ 8 := Nat.pow_le_pow_right (by decide) h8
      have h2 : 128 ^ k * (x % 128) ≤ 128 ^ 8 * 127 := Nat.mul_le_mul h (by omega)
      have e : (128 : Nat) ^ 8 = 72057594037927936 := by decide
      rw [e] at h h2
      omega
    · have e : (128 : Nat) ^ 9 = 9223372036854775808 := by decide
      rw [e] at hv ⊢
      omega
  refine ⟨?_, by omega⟩
  rw [and127 x hx, wrap64u, wrap64u]
  have e1 : ((x % 128 : Nat) : Int) % 18446744073709551616 = ((x % 128 : Nat) : Int) := by omega
  have e2 : ((x % 128 : Nat) : Int) * 2 ^ (7 * k) = ((128 ^ k * (x % 128) : Nat) : Int) := by
    rw [← pow7, Int.natCast_mul, Int.natCast_pow, Int.mul_comm]; rfl
  rw [e1, e2, Int.emod_eq_of_lt (by omega) (by omega)]
  exact low_or v (x % 128) k hv hb

theorem wrapI64 (x : Int) : IntKind.i64.wrap x = (x + 9223372036854775808) % 18446744073709551616 - 9223372036854775808 := by
  rw [IntKind.wrap_i64]
theorem xor_none (x : Nat) (hx : x < 9223372036854775808) : bits .xor .i64 (x : Int) 0 = (x : Int) := by
  show IntKind.i64.wrap ((BitVec.ofInt 64 (x : Int) ^^^ BitVec.ofInt 64 0).toNat : Int) = _
  rw [show BitVec.ofInt 64 0 = 0#64 by decide, BitVec.xor_zero, ofInt_u64 x (by omega)]
  rw [wrapI64]
  omega
theorem xor_all (x : Nat) (hx : x < 9223372036854775808) : bits .xor .i64 (x : Int) (-1) = -(x : Int) - 1 := by
  show IntKind.i64.wrap ((BitVec.ofInt 64 (x : Int) ^^^ BitVec.ofInt 64 (-1)).toNat : Int) = _
  rw [BitVec.toNat_xor, ofInt_u64 x (by omega), show (BitVec.ofInt 64 (-1)).toNat = 18446744073709551615 by decide, xor_ones x (by omega)]
  rw [wrapI64]
  omega
theorem and_one (U : Nat) (h : U < 18446744073709551616) : bits .and .u64 (U : Int) 1 = ((U % 2 : Nat) : Int) := by
  have := u64_and_nat U 1 h (by decide)
  rw [show ((1 : Nat) : Int) = 1 by rfl] at this
  rw [this, Nat.and_one_is_mod]
theorem num_val (U : Nat) (h : U < 18446744073709551616) : bits .xor .i64 (wrap64 ((U : Int) / 2)) (wrap64 (-wrap64 (bits .and .u64 (U : Int) 1))) = unz U := by
  rw [and_one U h]
  have e1 : wrap64 ((U : Int) / 2) = ((U / 2 : Nat) : Int) := by unfold wrap64; omega
  rw [e1]
  unfold unz
  by_cases h2 : U % 2 = 0
  · rw [if_pos h2, h2, show wrap64 (-wrap64 ((0 : Nat) : Int)) = 0 by unfold wrap64; omega]
    exact xor_none _ (by omega)
  · have h3 : U % 2 = 1 := by omega
    rw [if_neg h2, h3, show wrap64 (-wrap64 ((1 : Nat) : Int)) = -1 by unfold wrap64; omega]
    exact xor_all _ (by omega)
end Go.Proofs.YtobhccmnlmlapaaGreatDoor.Wr
namespace Go.Proofs.YtobhccmnlmlapaaGreatDoor.Wr
open Go.RowKit
set_option linter.unusedVariables false
set_option maxRecDepth 100000

theorem Bytes.grown {w w' : World} {a : Option Addr} {len : Nat} {f : Nat → UInt8} {r : Option Nat} (h : Bytes w a len f) (hg : w.grownBy w' r) (hne : ∀ x, a = some x → some x.block ≠ r) : Bytes w' a len f := fun i hi => by
  obtain ⟨b, off, e, h1⟩ := h i hi
  exact ⟨b, off, e, hg.cell h1 (hne ⟨b, off, none⟩ e)⟩
theorem own_grown {w w' : World} {B e size n : Nat} {v : Value} {xs : List Value} {r : Option Nat} (h : w.ownsRow B e size v n xs) (hg : w.grownBy w' r) (hne : ∀ g, v.ownBlock = some g → some g ≠ r) : w'.ownsRow B e size v n xs := by
  refine ⟨h.1, ?_⟩
  rcases h.2 with h2 | ⟨g, cap, cur, h1, h2, h3, h4⟩
  · exact .inl h2
  · refine .inr ⟨g, cap, cur, h1, h2, ?_, h4⟩
    have hlt : g < w.heap.size := by
      rcases Nat.lt_or_ge g w.heap.size with h | h
      · exact h
      · rw [Array.getElem?_eq_none h] at h3; cases h3
    rw [hg.block g hlt (hne g (by rw [h1]; rfl))]; exact h3
theorem grown_refl (w : World) (r : Option Nat) : w.grownBy w r := World.grownBy.refl _ _
theorem grown_trans {a b c : World} {r : Option Nat} (h : a.grownBy b r) (k : b.grownBy c r) : a.grownBy c r :=
  ⟨k.os.trans h.os, k.tape.trans h.tape, k.output.trans h.output, Nat.le_trans h.size k.size, fun i hi hr => (k.block i (Nat.lt_of_lt_of_le hi h.size) hr).trans (h.block i hi hr)⟩
theorem grown_below {a b : World} {r : Option Nat} (h : Below a.heap.size a b) : a.grownBy b r :=
  ⟨h.os, h.tape, h.output, h.size, fun i hi _ => h.block i hi⟩

/-- A struct of 'n' cells in a block of one's own. -/
def Own (w : World) (g t n : Nat) (xs : List Value) : Prop := w.ownsRow g t n (.slice (some ⟨g, 0, none⟩) 1 1) 1 xs
theorem Own.grown {w w' : World} {g t n : Nat} {xs : List Value} {r : Option Nat} (h : Own w g t n xs) (hg : w.grownBy w' r) (hne : some g ≠ r) : Own w' g t n xs :=
  own_grown h hg fun k hk => by cases hk; exact hne
theorem Own.later {w w' : World} {g t n : Nat} {xs : List Value} (h : Own w g t n xs) (hb : Below w.heap.size w w') : Own w' g t n xs := own_later h hb
theorem Own.lt {w : World} {g t n : Nat} {xs : List Value} (h : Own w g t n xs) : g < w.heap.size := (World.ownsRow.lt h g rfl).2
theorem Own.cell {w : World} {g t n : Nat} {xs : List Value} (h : Own w g t n xs) (j : Nat) (hj : j < n) : w.cell? ⟨g, j, none⟩ = xs[j]? := World.ownsRow.cellAt h j (by omega)
theorem Own.soft {w : World} {g t n : Nat} {xs : List Value} (h : Own w g t n xs) (j : Nat) : w.frozen? ⟨g, j, none⟩ = false := World.ownsRow.frozenAt h j
theorem Own.put {w : World} {g t n : Nat} {xs : List Value} (h : Own w g t n xs) (j : Nat) (u : Value) : Own (w.setCell ⟨g, j, none⟩ u) g t n (xs.set j u) ∧ w.grownBy (w.setCell ⟨g, j, none⟩ u) (some g) := World.ownsRow.stored h j u
theorem Own.new (w : World) (t n : Nat) (cs : Array Value) (hs : cs.size = n) : Own (w.alloc (.cells cs t)) w.heap.size t n cs.toList :=
  World.ownsRow_lit (base := w.heap.size) (e := t) (size := n) w cs 1 (Nat.le_refl _) (by decide) (by omega)

/-- Bytes that a slice shows. -/
structure Shows (w : World) (a : Option Addr) (c : Nat) (L : List UInt8) (g : Nat) : Prop where
  bytes : Bytes w a L.length (lat L)
  le : L.length ≤ c
  room : c ≤ 9223372036854775807
  apart : ∀ x, a = some x → x.block < g
  place : ∃ b off, a = some ⟨b, off, none⟩
  short : L.length ≤ 140737488355328
theorem Shows.grown {w w' : World} {a : Option Addr} {c g : Nat} {L : List UInt8} {r : Option Nat} (h : Shows w a c L g) (hg : w.grownBy w' r) (hr : ∀ k, r = some k → g ≤ k) : Shows w' a c L g :=
  ⟨h.bytes.grown hg (fun x hx e => by have h1 := h.apart x hx; have h2 := hr _ e.symm; omega), h.le, h.room, h.apart, h.place, h.short⟩
/-- The program's reader: the rest. -/
def Rd (w : World) (g : Nat) (L : List UInt8) : Prop := ∃ a c, Own w g 136 1 [.slice a L.length c] ∧ Shows w a c L g
theorem Rd.grown {w w' : World} {g : Nat} {L : List UInt8} {r : Option Nat} (h : Rd w g L) (hg : w.grownBy w' r) (hr : ∀ k, r = some k → g < k) : Rd w' g L := by
  obtain ⟨a, c, h1, h2⟩ := h
  exact ⟨a, c, h1.grown hg (fun e => by have := hr g e.symm; omega), h2.grown hg (fun k hk => Nat.le_of_lt (hr k hk))⟩
theorem Rd.later {w w' : World} {g : Nat} {L : List UInt8} (h : Rd w g L) (hb : Below w.heap.size w w') : Rd w' g L := h.grown (r := none) (grown_below hb) (fun k hk => by cases hk)
theorem Rd.lt {w : World} {g : Nat} {L : List UInt8} (h : Rd w g L) : g < w.heap.size := by obtain ⟨a, c, h1, h2⟩ := h; exact h1.lt
theorem Rd.small {w : World} {g : Nat} {L : List UInt8} (h : Rd w g L) : L.length ≤ 140737488355328 := by obtain ⟨a, c, h1, h2⟩ := h; exact h2.short

theorem take_snoc (L : List UInt8) (i : Nat) (hi : i < L.length) : L.take (i + 1) = L.take i ++ [L[i]] := List.take_succ_eq_append_getElem hi
theorem take_cons (L : List UInt8) (i : Nat) (hi : i < L.length) : L = L.take i ++ L[i] :: L.drop (i + 1) := by
  conv => lhs; rw [← List.take_append_drop i L, List.drop_eq_getElem_cons hi]

/-- What reading a number gives. -/
def NumPost (w : World) (g : Nat) (L : List UInt8) (e : Ending) (w' : World) : Prop := ∃ (n : Int) (ok : Bool) (L' : List UInt8), e = .returned (.tuple #[.int .i64 n, .bool ok]) ∧ InI n ∧ w.grownBy w' (some g) ∧ Rd w' g L' ∧ L'.length ≤ L.length ∧
      (ok = true → L = encInt n ++ L') ∧ (ok = false → ∀ m s, InI m → L ≠ encInt m ++ s)
theorem InI.zero : InI 0 := ⟨by decide, by decide⟩

theorem lat_drop (L : List UInt8) (k : Nat) : lat (L.drop k) = fun i => lat L (k + i) := by
  funext i; simp [lat]
/-- The reader goes on by 'k' bytes. -/
theorem Rd.on {w : World} {g : Nat} {L : List UInt8} {b off c k o' : Nat} (hO : Own w g 136 1 [.slice (some ⟨b, off, none⟩) L.length c]) (hS : Shows w (some ⟨b, off, none⟩) c L g) (hk : k ≤ L.length) (ho : o' = off + k ∨ c = k) :
    Rd (w.setCell ⟨g, 0, none⟩ (.slice (some ⟨b, o', none⟩) (L.length - k) (c - k))) g (L.drop k) ∧ w.grownBy (w.setCell ⟨g, 0, none⟩ (.slice (some ⟨b, o', none⟩) (L.length - k) (c - k))) (some g) := by
  obtain ⟨h1, h2⟩ := hO.put 0 (.slice (some ⟨b, o', none⟩) (L.length - k) (c - k))
  refine ⟨⟨some ⟨b, o', none⟩, c - k, ?_, ?_, ?_, ?_, ?_, ⟨b, o', rfl⟩, ?_⟩, h2⟩
  · rw [List.length_drop]; exact h1
  · have hb := hS.bytes.grown h2 (fun x hx e => by have := hS.apart x hx; have e' := Option.some.inj e; omega)
    intro i hi
    rw [List.length_drop] at hi
    have hle := hS.le
    obtain ⟨b', o2, e, hc⟩ := hb (k + i) (by omega)
    cases e
    rcases ho with rfl | hck
    · exact ⟨b, off + k, rfl, by rw [lat_drop]; rw [Nat.add_assoc]; exact hc⟩
    · omega
  · rw [List.length_drop]; have := hS.le; omega
  · have := hS.room; omega
  · intro x hx; cases hx; exact hS.apart ⟨b, off, none⟩ rfl
  · rw [List.length_drop]; have := hS.short; omega

theorem slice_from (b o len cap m : Nat) (z : Int) (hz : z = (m : Int)) (hm : m ≤ len) (o' : Nat) (eA : (if cap = m then some (Addr.mk b o none) else some (Addr.mk b (o + m) none)) = some (Addr.mk b o' none)) (W : World) :
    (Instr.slice 39 (.slice (some ⟨b, o, none⟩) len cap) (some (.int .i64 z)) none none).run Tryz.prog W = .ok (.slice (some ⟨b, o', none⟩) (len - m) (cap - m)) W := by
  subst hz
  rw [run_slice_l (P := Tryz.prog) W 39 (some ⟨b, o, none⟩) len cap (Tryz.underlying39.trans (by kernel_rfl)) .i64 _ (by omega) (by omega)]
  rw [Int.toNat_natCast]
  have hs : (sizeOf (Tryz.prog.elem 39)).run Tryz.prog W = .ok 1 W := by
    rw [show Tryz.prog.elem 39 = 5 by kernel_rfl]; exact Tryz.sizeOf5 W
  rw [hs]
  simp only [Result.andThen, sliced, Nat.mul_one, Option.map]
  rw [show ∀ j, (Addr.mk b o none).add j = Addr.mk b (o + j) none from fun j => WideShapes.add_plain .., eA]
theorem sliceAt_from (b o len cap m : Nat) (z : Int) (hz : z = (m : Int)) (hm : m ≤ len) (o' : Nat) (eA : (if cap = m then some (Addr.mk b o none) else some (Addr.mk b (o + m) none)) = some (Addr.mk b o' none)) (W : World) :
    (Instr.sliceAt 39 (.slice (some ⟨b, o, none⟩) len cap) (some (.int .i64 z)) none none).run Tryz.prog W = .ok (.slice (some ⟨b, o', none⟩) (len - m) (cap - m)) W := by
  rw [run_sliceAt_slice W 39 _ _ _ _ (Tryz.underlying39.trans (by kernel_rfl))]
  exact slice_from b o len cap m z hz hm o' eA W
theorem num_fin {w : World} {g : Nat} {L : List UInt8} {b off c k o' : Nat} (hO : Own w g 136 1 [.slice (some ⟨b, off, none⟩) L.length c]) (hS : Shows w (some ⟨b, off, none⟩) c L g) (hlt : k < L.length) (hH : Hi (L.take k)) (hx : L[k].toNat < 128) (hk : k ≤ 8 ∨ (k = 9 ∧ L[k].toNat ≤ 1)) (ho : o' = off + (k + 1) ∨ c = k + 1) (X : Int) (hX : X = (L[k].toNat : Int)) (ok : Bool) (hok : (0 < L[k].toNat ∨ k = 0) ↔ ok = true) :
    NumPost w g L (.returned (.tuple #[.int .i64 (bits .xor .i64 (wrap64 (bits .or .u64 (val (L.take k) : Nat) (IntKind.u64.wrap (IntKind.u64.wrap (bits .and .u8 X 127) * 2 ^ (7 * k))) / 2)) (wrap64 (-wrap64 (bits .and .u64 (bits .or .u64 (val (L.take k) : Nat) (IntKind.u64.wrap (IntKind.u64.wrap (bits .and .u8 X 127) * 2 ^ (7 * k)))) 1)))), .bool ok])) (w.setCell ⟨g, 0, none⟩ (.slice (some ⟨b, o', none⟩) (L.length - (k + 1)) (c - (k + 1)))) := by
  subst hX
  have htl : (L.take k).length = k := by rw [List.length_take]; omega
  have hv := val_lt (L.take k)
  rw [htl] at hv
  obtain ⟨e1, e2⟩ := num_or (val (L.take k)) L[k].toNat k hv (UInt8.toNat_lt _) hk
  rw [e1, num_val _ e2]
  obtain ⟨h1, h2⟩ := Rd.on hO hS (show k + 1 ≤ L.length by omega) ho
  refine ⟨_, ok, _, rfl, unz_in e2, h2, h1, by rw [List.length_drop]; omega, fun hy => ?_, fun hn m s hm => ?_⟩
  · have h3 := num_ok hH hx (by
      rcases hok.2 hy with h | h
      · exact .inr h
      · exact .inl (by rw [h]; rfl))
    rw [val_snoc, htl] at h3
    rw [h3, ← take_snoc L k hlt, List.take_append_drop]
  · have hno : ¬ (0 < L[k].toNat ∨ k = 0) := fun h => by have := hok.1 h; rw [hn] at this; cases this
    rw [take_cons L k hlt]
    exact num_zero hH (fun h => by have := congrArg List.length h; rw [List.length_take, List.length_nil] at this; omega) (by omega) m s

set_option maxHeartbeats 4000000 in
theorem num_any (g : Nat) (L : List UInt8) (w : World) (hR : Rd w g L) :
    Calls Tryz.prog 96 #[.pointer (some ⟨g, 0, none⟩)] w (NumPost w g L) := by
  have HR : Hid (Rd w g L) := hR
  obtain ⟨a, c, hO, hS⟩ := hR
  have HO : Hid (Own w g 136 1 [.slice a L.length c]) := hO
  have HS : Hid (Shows w a c L g) := hS
  have c0 : w.cell? ⟨g, 0, none⟩ = some (.slice a L.length c) := by rw [hO.cell 0 (by decide)]; rfl
  have fr : w.frozen? ⟨g, 0, none⟩ = false := hO.soft 0
  have hlc := hS.le
  have hcm := hS.room
  have hsh := hS.short
  clear hO hS
  go_enter Tryz.func96, Tryz.ntmps96
  go_wp2
  go_loopw [4, 13] (fun u i w' => ∃ k : Nat, k ≤ L.length ∧ k ≤ 9 ∧ i = .int .i64 k ∧ u = .int .u64 (val (L.take k) : Nat) ∧ Hi (L.take k) ∧ w' = w) (fun _ i _ => L.length - (intOf i).toNat)
  case atStart => exact ⟨0, Nat.zero_le _, by decide, rfl, rfl, fun c hc => by simp at hc, rfl⟩
  case round =>
    obtain ⟨k, hk, hk9, rfl, rfl, hhi, rfl⟩ := hrel
    have HH : Hid (Hi (L.take k)) := hhi
    clear hhi
    by_cases hlt : k < L.length
    · obtain ⟨b, off, rfl, c1⟩ := HS.out.bytes k hlt
      have hx : lat L k = L[k] := by simp [lat, hlt]
      rw [hx] at c1
      have hx2 := UInt8.toNat_lt L[k]
      have hki : (k : Int) < (L.length : Int) := by omega
      have hp1 : (0 : Int) ≤ (L[k].toNat : Int) := by omega
      have hp2 : (L[k].toNat : Int) ≤ 255 := by omega
      have hvl := val_lt (L.take k)
      have htl : (L.take k).length = k := by rw [List.length_take]; omega
      clear hx
      by_cases h9 : k = 9 ∧ 1 < L[k].toNat
      · have hk9' : k = 9 := h9.1
        subst hk9'
        have h91 : (1 : Int) < (L[9].toNat : Int) := by omega
        have HC : Hid (∀ m s, InI m → L ≠ encInt m ++ s) := fun m s hm => by
          rw [take_cons L 9 hlt]; exact num_great HH.out (by omega) (by omega) m hm s
        go_wp2
        go_ret2
        exact ⟨0, false, L, rfl, InI.zero, grown_refl _ _, HR.out, Nat.le_refl _, (fun h => by cases h), fun _ => HC.out⟩
      · have hk' : k ≤ 8 ∨ (k = 9 ∧ L[k].toNat ≤ 1) := by
          rcases Nat.lt_or_ge k 9 with h | h
          · exact .inl (by omega)
          · exact .inr ⟨by omega, by
              rcases Nat.lt_or_ge 1 L[k].toNat with h1 | h1
              · exact absurd ⟨by omega, h1⟩ h9
              · exact h1⟩
        have HK : Hid (k ≤ 8 ∨ (k = 9 ∧ L[k].toNat ≤ 1)) := hk'
        have hvk : val (L.take k) < 128 ^ k := by rw [htl] at hvl; exact hvl
        have HT : Hid (val (L.take (k + 1)) = val (L.take k) + 128 ^ k * (L[k].toNat % 128)) := by rw [Hid, take_snoc L k hlt, val_snoc, htl]
        have HU : Hid _ := (num_or (val (L.take k)) L[k].toNat k (by rw [htl] at hvl; exact hvl) hx2 hk').1
        clear h9
        by_cases h128 : L[k].toNat < 128
        · have hxi : (L[k].toNat : Int) < 128 := by omega
          clear hk'
          clear HT HU
          obtain ⟨o', eA, ho⟩ : ∃ o', (if c = k + 1 then some (Addr.mk b off none) else some (Addr.mk b (off + (k + 1)) none)) = some (Addr.mk b o' none) ∧ (o' = off + (k + 1) ∨ c = k + 1) := by
            by_cases hck : c = k + 1
            · exact ⟨off, by rw [if_pos hck], .inr hck⟩
            · exact ⟨off + (k + 1), by rw [if_neg hck], .inl rfl⟩
          have hS1 := slice_from b off L.length c (k + 1) ((k : Int) + 1) (by omega) (by omega) o' eA
          have hS2 := sliceAt_from b off L.length c (k + 1) ((k : Int) + 1) (by omega) (by omega) o' eA
          have HOK : Hid (o' = off + (k + 1) ∨ c = k + 1) := ho
          clear eA ho
          have hg1 : ((k : Int) == 9) = true → decide ((1 : Int) < (L[k].toNat : Int)) = false := by
            intro h
            have h' : (k : Int) = 9 := by simpa using h
            refine decide_eq_false ?_
            rcases HK.out with h | h <;> omega
          have HX : Hid (∃ X : Int, X = (L[k].toNat : Int)) := ⟨_, rfl⟩
          obtain ⟨X, hX⟩ := HX.out
          have HX' : Hid (X = (L[k].toNat : Int)) := hX
          have HB : Hid ((0 < L[k].toNat ∨ k = 0) ↔ (decide ((0 : Int) < X) || ((k : Int) == 0)) = true) := by rw [Hid, hX]; simp
          rw [← hX] at hg1 hxi hp1 hp2 c1
          have HH8 : Hid (L[k].toNat < 128) := h128
          clear hX HX hx2 h128
          cases h9b : ((k : Int) == 9) <;> cases h0x : decide ((0 : Int) < X) <;> cases h0k : ((k : Int) == 0)
          all_goals rw [h0x, h0k] at HB
          all_goals try have hg2 := hg1 h9b
          all_goals clear hg1
          all_goals go_wp2
          all_goals go_ret2
          all_goals exact num_fin HO.out HS.out hlt HH.out HH8.out HK.out HOK.out X HX'.out _ HB.out
        · have hxi : (128 : Int) ≤ (L[k].toNat : Int) := by omega
          have hk8 : k ≤ 8 := by omega
          have hk8i : ¬ (k : Int) = 9 := by omega
          have HH' : Hid (Hi (L.take (k + 1))) := by
            rw [Hid, take_snoc L k hlt]
            intro d hd
            rcases List.mem_append.1 hd with h | h
            · exact HH.out d h
            · simp at h; rw [h]; omega
          clear hk'
          go_wp2
          go_roundw
          case rel => exact ⟨k + 1, by omega, by omega, by go_num, by rw [HU.out, HT.out], HH'.out, trivial⟩
          case measure => simp [intOf]; omega
    · obtain rfl : k = L.length := by omega
      have HC : Hid (∀ m s, InI m → L ≠ encInt m ++ s) := fun m s hm => by
        have := HH.out
        rw [List.take_of_length_le (Nat.le_refl _)] at this
        exact num_cut this m s
      go_wp2
      go_ret2
      exact ⟨0, false, L, rfl, InI.zero, grown_refl _ _, HR.out, Nat.le_refl _, (fun h => by cases h), fun _ => HC.out⟩
end Go.Proofs.YtobhccmnlmlapaaGreatDoor.Wr
