import Derived.Test.YtafighjlciglpaaDoorRdA
import Derived.Test.YtafighjlciglpaaDoorWrtG
namespace Go.Proofs.YtafighjlciglpaaDoor
open Go.RowKit
set_option linter.unusedVariables false
set_option maxRecDepth 100000

/-- Seven bits a byte, the lowest first. -/
def val : List UInt8 → Nat
  | [] => 0
  | c :: p => c.toNat % 128 + 128 * val p
def Hi (p : List UInt8) : Prop := ∀ c ∈ p, 128 ≤ c.toNat
theorem ofNat_toNat (c : UInt8) : UInt8.ofNat c.toNat = c := by
  apply UInt8.toNat_inj.1
  rw [UInt8.toNat_ofNat']
  have := UInt8.toNat_lt c
  omega
theorem val_lt : ∀ p : List UInt8, val p < 128 ^ p.length
  | [] => by simp [val]
  | c :: p => by
    have := val_lt p
    rw [val, List.length_cons, Nat.pow_succ]
    omega
theorem val_snoc (c : UInt8) : ∀ p : List UInt8, val (p ++ [c]) = val p + 128 ^ p.length * (c.toNat % 128)
  | [] => by simp [val]
  | d :: p => by
    rw [List.cons_append, val, val_snoc c p, val, List.length_cons, Nat.pow_succ, Nat.mul_add, Nat.mul_comm (128 ^ p.length) 128, Nat.mul_assoc]
    omega
theorem vint_split : ∀ (p : List UInt8) (z : Nat) (s t : List UInt8), Hi p → vint z ++ s = p ++ t → ∃ z', z = val p + 128 ^ p.length * z' ∧ vint z' ++ s = t ∧ (p ≠ [] → 0 < z')
  | [], z, s, t, _, h => ⟨z, by simp [val], by simpa using h, fun k => absurd rfl k⟩
  | c :: p, z, s, t, hp, h => by
    have hc := hp c (by simp)
    have hc2 := UInt8.toNat_lt c
    have hz : ¬ z < 128 := by
      intro hz
      rw [vint_lt hz] at h
      simp only [List.cons_append, List.nil_append, List.cons.injEq] at h
      have := congrArg UInt8.toNat h.1
      rw [UInt8.toNat_ofNat'] at this
      omega
    rw [vint_ge hz] at h
    simp only [List.cons_append, List.cons.injEq] at h
    have h1 := congrArg UInt8.toNat h.1
    rw [UInt8.toNat_ofNat'] at h1
    obtain ⟨z', e1, e2, e3⟩ := vint_split p (z / 128) s t (fun d hd => hp d (by simp [hd])) h.2
    refine ⟨z', ?_, e2, fun _ => ?_⟩
    · rw [val, List.length_cons, Nat.pow_succ, Nat.mul_comm (128 ^ p.length) 128, Nat.mul_assoc, Nat.add_assoc, ← Nat.mul_add, ← e1]
      omega
    · by_cases hn : p = []
      · subst hn; simp [val] at e1; omega
      · exact e3 hn
theorem vint_join : ∀ (p : List UInt8) (z : Nat), Hi p → (p ≠ [] → 0 < z) → vint (val p + 128 ^ p.length * z) = p ++ vint z
  | [], z, _, _ => by simp [val]
  | c :: p, z, hp, hz => by
    have hc := hp c (by simp)
    have hc2 := UInt8.toNat_lt c
    have h0 : 0 < 128 ^ p.length * z := Nat.mul_pos (Nat.pow_pos (by decide)) (hz (by simp))
    have ih := vint_join p z (fun d hd => hp d (by simp [hd])) (fun _ => hz (by simp))
    rw [val, List.length_cons, Nat.pow_succ, Nat.mul_comm (128 ^ p.length) 128, Nat.mul_assoc, Nat.add_assoc, ← Nat.mul_add]
    have hN : 0 < val p + 128 ^ p.length * z := by omega
    generalize val p + 128 ^ p.length * z = N at *
    rw [vint_ge (by omega), show (c.toNat % 128 + 128 * N) / 128 = N by omega, ih, show (c.toNat % 128 + 128 * N) % 128 + 128 = c.toNat by omega, ofNat_toNat]
    rfl
def unz (u : Nat) : Int := if u % 2 = 0 then ((u / 2 : Nat) : Int) else -((u / 2 : Nat) : Int) - 1
def InI (n : Int) : Prop := -9223372036854775808 ≤ n ∧ n ≤ 9223372036854775807
theorem zig_unz (u : Nat) : zig (unz u) = u := by
  unfold zig unz
  split <;> split <;> omega
theorem unz_in {u : Nat} (h : u < 18446744073709551616) : InI (unz u) := by
  unfold InI unz
  split <;> omega
theorem InI.zig {n : Int} (h : InI n) : zig n < 18446744073709551616 := zig_lt n h.1 h.2
theorem encInt_unz (u : Nat) : encInt (unz u) = vint u := by rw [encInt, zig_unz]

theorem num_ok {p : List UInt8} {c : UInt8} (hp : Hi p) (hc : c.toNat < 128) (h0 : p = [] ∨ 0 < c.toNat) : encInt (unz (val (p ++ [c]))) = p ++ [c] := by
  rw [encInt_unz, val_snoc, Nat.mod_eq_of_lt hc, vint_join p c.toNat hp (fun h => h0.resolve_left h), vint_lt hc, ofNat_toNat]
theorem num_cut {p : List UInt8} (hp : Hi p) (m : Int) (s : List UInt8) : p ≠ encInt m ++ s := by
  intro h
  obtain ⟨z', -, e, -⟩ := vint_split p (zig m) s [] hp (by rw [List.append_nil]; exact h.symm)
  have := congrArg List.length e
  have h2 := vint_pos z'
  rw [List.length_append, List.length_nil] at this
  omega
theorem num_zero {p t : List UInt8} {c : UInt8} (hp : Hi p) (hne : p ≠ []) (hc : c.toNat = 0) (m : Int) (s : List UInt8) : p ++ c :: t ≠ encInt m ++ s := by
  intro h
  obtain ⟨z', -, e, e2⟩ := vint_split p (zig m) s (c :: t) hp h.symm
  have hz := e2 hne
  by_cases h1 : z' < 128
  · rw [vint_lt h1] at e
    simp only [List.cons_append, List.nil_append, List.cons.injEq] at e
    have := congrArg UInt8.toNat e.1
    rw [UInt8.toNat_ofNat'] at this
    omega
  · rw [vint_ge h1] at e
    simp only [List.cons_append, List.cons.injEq] at e
    have := congrArg UInt8.toNat e.1
    rw [UInt8.toNat_ofNat'] at this
    omega
theorem num_great {p t : List UInt8} {c : UInt8} (hp : Hi p) (hl : p.length = 9) (hc : 1 < c.toNat) (m : Int) (hm : InI m) (s : List UInt8) : p ++ c :: t ≠ encInt m ++ s := by
  intro h
  obtain ⟨z', e1, e, -⟩ := vint_split p (zig m) s (c :: t) hp h.symm
  have hz := hm.zig
  rw [e1, hl] at hz
  have h1 : z' ≤ 1 := by omega
  rw [vint_lt (by omega)] at e
  simp only [List.cons_append, List.nil_append, List.cons.injEq] at e
  have := congrArg UInt8.toNat e.1
  rw [UInt8.toNat_ofNat'] at this
  omega
end Go.Proofs.YtafighjlciglpaaDoor
