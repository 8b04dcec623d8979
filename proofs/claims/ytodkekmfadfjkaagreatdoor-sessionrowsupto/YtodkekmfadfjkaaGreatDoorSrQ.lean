import Derived.Test.YtodkekmfadfjkaaGreatDoorSrP
import Derived.Test.YtodkekmfadfjkaaGreatDoorVBkG
import Derived.Lib.IndexLaws
import Derived.Lib.Strings
namespace Go.Proofs.YtodkekmfadfjkaaGreatDoor
open Go.RowKit
set_option linter.unusedVariables false
set_option linter.unusedSimpArgs false
set_option maxRecDepth 100000

theorem ib_cases (l : List UInt8) (c : UInt8) : (Lib.indexByte l c = -1 ∧ c ∉ l) ∨ ∃ a b, l = a ++ c :: b ∧ c ∉ a ∧ Lib.indexByte l c = (a.length : Int) := by
  induction l with
  | nil => exact .inl ⟨rfl, by simp⟩
  | cons x l ih =>
    unfold Lib.indexByte
    by_cases hx : x = c
    · subst hx
      exact .inr ⟨[], l, rfl, by simp, by simp⟩
    · have hx' : (x == c) = false := by simpa using hx
      rw [hx']
      rcases ih with ⟨e, h⟩ | ⟨a, b, e, h, q⟩
      · refine .inl ⟨by rw [e]; rfl, ?_⟩
        simp only [List.mem_cons, not_or]
        exact ⟨fun e => hx e.symm, h⟩
      · refine .inr ⟨x :: a, b, by rw [e]; rfl, ?_, ?_⟩
        · simp only [List.mem_cons, not_or]
          exact ⟨fun e => hx e.symm, h⟩
        · rw [q]
          have : ((a.length : Int) == -1) = false := by simp
          simp [this]
theorem ib_at (a b : List UInt8) (c : UInt8) (h : c ∉ a) : Lib.indexByte (a ++ c :: b) c = (a.length : Int) := by
  rcases ib_cases (a ++ c :: b) c with ⟨-, q⟩ | ⟨a', b', e, q, r⟩
  · exact absurd (List.mem_append.2 (.inr (List.mem_cons_self ..))) q
  · rw [r]
    congr 1
    rcases List.append_eq_append_iff.1 e with ⟨m, e1, e2⟩ | ⟨m, e1, e2⟩
    · cases m with
      | nil => simp at e1; rw [e1]
      | cons y m =>
        injection e2 with e3 e4
        exact absurd (by rw [e1, e3]; simp) q
    · cases m with
      | nil => simp at e1; rw [e1]
      | cons y m =>
        injection e2 with e3 e4
        exact absurd (by rw [e1, e3]; simp) h
theorem ib_none (a : List UInt8) (c : UInt8) (h : c ∉ a) : Lib.indexByte a c = -1 := by
  rcases ib_cases a c with ⟨e, -⟩ | ⟨a', b', e, -, -⟩
  · exact e
  · exact absurd (by rw [e]; simp) h
theorem dec_mem (u : Nat) : ∀ b ∈ Lib.decDigits u, 48 ≤ b.toNat ∧ b.toNat ≤ 57 := by
  induction u using Nat.strongRecOn with
  | _ u ih =>
    have hd : 48 ≤ (Vl.dgt u).toNat ∧ (Vl.dgt u).toNat ≤ 57 := by
      have q : (Vl.dgt u).toNat = (48 + u % 10) % 256 := UInt8.toNat_ofNat'
      omega
    intro b hb
    by_cases h : u / 10 = 0
    · rw [Vl.dec_last u h, List.mem_singleton] at hb
      rw [hb]; exact hd
    · rw [Vl.dec_more u h] at hb
      rcases List.mem_append.1 hb with hb | hb
      · exact ih (u / 10) (by omega) b hb
      · rw [List.mem_singleton.1 hb]; exact hd
theorem itoa_mem (n : Int) : ∀ b ∈ Lib.itoa n, b.toNat = 45 ∨ (48 ≤ b.toNat ∧ b.toNat ≤ 57) := by
  intro b hb
  unfold Lib.itoa at hb
  split at hb
  · rcases List.mem_cons.1 hb with e | hb
    · exact .inl (by rw [e]; rfl)
    · exact .inr (dec_mem _ b hb)
  · exact .inr (dec_mem _ b hb)
theorem hexd_ne (d : Nat) (h : d < 16) : Vl.hexd d ≠ 39 := by
  have : ∀ d : Fin 16, Vl.hexd d.val ≠ 39 := by decide
  exact this ⟨d, h⟩
theorem esc_mem (l : List UInt8) : (39 : UInt8) ∉ Vl.escAll l := by
  intro hm
  unfold Vl.escAll at hm
  obtain ⟨c, -, hc⟩ := List.mem_flatMap.1 hm
  unfold Vl.esc at hc
  split at hc
  · rename_i hb
    rw [List.mem_singleton] at hc
    subst hc
    revert hb
    decide
  · have h1 := hexd_ne (c.toNat / 16) (by have := UInt8.toNat_lt c; omega)
    have h2 := hexd_ne (c.toNat % 16) (Nat.mod_lt _ (by decide))
    simp only [List.mem_cons, List.not_mem_nil, or_false] at hc
    rcases hc with e | e | e
    · revert e; decide
    · exact h1 e.symm
    · exact h2 e.symm
/-- A valid value's text: bare, or between quotes. -/
theorem sh_form (v : V) (h : validV v = true) : (44 ∉ sh v ∧ 39 ∉ sh v ∧ sh v ≠ []) ∨ ∃ m, sh v = 39 :: (m ++ [39]) ∧ 39 ∉ m := by
  have hv : Vl.validB v.k v.n v.s = true := h
  have e := Vl.show_valid hv
  unfold sh shB
  rw [e]
  rcases Vl.valid_form hv with ⟨k0, -, -⟩ | ⟨k1, -⟩ | ⟨k2, n2, -⟩ | ⟨k2, n2, -⟩ | ⟨k3, -, -⟩
  · rw [k0]; exact .inl (show (44 : UInt8) ∉ [110, 117, 108, 108] ∧ (39 : UInt8) ∉ [110, 117, 108, 108] ∧ ([110, 117, 108, 108] : List UInt8) ≠ [] by decide)
  · rw [k1]
    refine .inl ?_
    show 44 ∉ (Lib.itoa v.n).toArray.toList ∧ 39 ∉ (Lib.itoa v.n).toArray.toList ∧ (Lib.itoa v.n).toArray.toList ≠ []
    simp only [List.toList_toArray]
    refine ⟨fun hm => ?_, fun hm => ?_, fun hm => ?_⟩
    · rcases itoa_mem _ _ hm with q | q <;> simp at q
    · rcases itoa_mem _ _ hm with q | q <;> simp at q
    · obtain ⟨c, X, q, -⟩ := Vl.itoa_head' v.n; rw [hm] at q; cases q
  · rw [k2, n2]; exact .inl (show (44 : UInt8) ∉ [116, 114, 117, 101] ∧ (39 : UInt8) ∉ [116, 114, 117, 101] ∧ ([116, 114, 117, 101] : List UInt8) ≠ [] by decide)
  · rw [k2, n2]; exact .inl (show (44 : UInt8) ∉ [102, 97, 108, 115, 101] ∧ (39 : UInt8) ∉ [102, 97, 108, 115, 101] ∧ ([102, 97, 108, 115, 101] : List UInt8) ≠ [] by decide)
  · rw [k3]
    exact .inr ⟨Vl.escAll v.s.data.toList, by simp, esc_mem _⟩
/-- The program's cutter. -/
def cutE (l : List UInt8) : Int := if Lib.hasPrefix l [39] = true then Lib.indexByte (l.drop 1) 39 + 2 else Lib.indexByte l 44
def cutV (l : List UInt8) : List UInt8 × List UInt8 := if cutE l < 0 ∨ (l.length : Int) ≤ cutE l then (l, []) else (l.take (cutE l).toNat, l.drop ((cutE l).toNat + 1))
theorem cutV_ok (v : V) (h : validV v = true) (vs : List V) : cutV (sh v ++ (if vs.isEmpty then [] else 44 :: tl vs)) = (sh v, tl vs) := by
  have key : cutE (sh v ++ (if vs.isEmpty then [] else 44 :: tl vs)) = ((sh v).length : Int) ∨ (vs = [] ∧ cutE (sh v ++ (if vs.isEmpty then [] else 44 :: tl vs)) = -1) := by
    rcases sh_form v h with ⟨h1, h2, h3⟩ | ⟨m, h1, h2⟩
    · have hp : Lib.hasPrefix (sh v ++ (if vs.isEmpty then [] else 44 :: tl vs)) [39] = false := by
        cases hs : sh v with
        | nil => exact absurd hs h3
        | cons c X =>
          have hc : c ≠ 39 := fun e => h2 (by rw [hs, e]; simp)
          rw [List.cons_append]
          exact (Vl.cut_other c _ hc).2
      unfold cutE
      rw [hp]
      cases vs with
      | nil => exact .inr ⟨rfl, by simpa using ib_none _ _ h1⟩
      | cons x vs => exact .inl (by simpa using ib_at (sh v) (tl (x :: vs)) 44 h1)
    · refine .inl ?_
      have hp : Lib.hasPrefix (sh v ++ (if vs.isEmpty then [] else 44 :: tl vs)) [39] = true := by
        rw [h1]; unfold Lib.hasPrefix; simp [List.isPrefixOf]
      unfold cutE
      rw [hp, h1]
      have q := ib_at m (if vs.isEmpty then [] else 44 :: tl vs) 39 h2
      simp only [if_true]
      have e1 : (39 :: (m ++ [39]) ++ (if vs.isEmpty then [] else 44 :: tl vs)).drop 1 = m ++ 39 :: (if vs.isEmpty then [] else 44 :: tl vs) := by simp
      rw [e1, q]
      simp; omega
  unfold cutV
  rcases key with e | ⟨rfl, e⟩
  · rw [e]
    cases vs with
    | nil => rw [if_pos (.inr (by simp))]; simp [tl]
    | cons x vs =>
      rw [if_neg (by simp; omega)]
      simp
  · rw [e, if_pos (.inl (by decide))]; simp [tl]
end Go.Proofs.YtodkekmfadfjkaaGreatDoor
