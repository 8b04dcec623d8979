import Derived.Test.YtkedbmpnhplmaaaWnE
namespace Go.Proofs.Ytkedbmpnhplmaaa
open Go.RowKit Go.Shelf
set_option linter.unusedVariables false
set_option linter.unusedSimpArgs false
set_option maxRecDepth 100000
set_option maxHeartbeats 2000000

/-- A slice of windows that can be read. -/
def RdW (w : World) (v : Value) (xs : List Wn) : Prop := ∃ a cap, v = .slice a xs.length cap ∧
  ∀ i x, xs[i]? = some x → ∃ b o, a = some ⟨b, o, none⟩ ∧ w.cell? ⟨b, o + i * 2, none⟩ = some (.int .i64 x.a) ∧ w.cell? ⟨b, o + i * 2 + 1, none⟩ = some (.int .i64 x.b)
theorem RdW.later {w w' : World} {v : Value} {xs : List Wn} (h : RdW w v xs) (hb : Below w.heap.size w w') : RdW w' v xs := by
  obtain ⟨a, cap, h1, h2⟩ := h
  refine ⟨a, cap, h1, fun i x hx => ?_⟩
  obtain ⟨b, o, e, c1, c2⟩ := h2 i x hx
  exact ⟨b, o, e, xcell hb c1, xcell hb c2⟩

theorem wcells_at (xs : List Wn) (i : Nat) (x : Wn) (h : xs[i]? = some x) : (wcells xs)[i * 2]? = some (.int .i64 x.a) ∧ (wcells xs)[i * 2 + 1]? = some (.int .i64 x.b) := by
  induction xs generalizing i with
  | nil => simp at h
  | cons y ys ih =>
    have e : wcells (y :: ys) = .int .i64 y.a :: .int .i64 y.b :: wcells ys := rfl
    rw [e]
    cases i with
    | zero => simp at h; subst h; simp
    | succ i =>
      have := ih i (by simpa using h)
      rw [show (i + 1) * 2 = i * 2 + 1 + 1 by omega]
      simpa using this
theorem RdW.own {w : World} {base n : Nat} {v : Value} {xs : List Wn} (h : w.ownsRow base 24 2 v n (wcells xs)) : RdW w v xs := by
  have hl := wcells_length xs
  have hn : n = xs.length := by have := h.1; omega
  subst hn
  rcases h.2 with ⟨h1, h2⟩ | ⟨g, cap, cur, h1, h2, h3, h4, h5, h6, h7⟩
  · obtain rfl : xs = [] := List.eq_nil_of_length_eq_zero h2
    exact ⟨none, 0, h1, fun i x hx => by simp at hx⟩
  · refine ⟨some ⟨g, 0, none⟩, cap, h1, fun i x hx => ⟨g, 0, rfl, ?_⟩⟩
    have hi : i < xs.length := (List.getElem?_eq_some_iff.1 hx).1
    have ⟨c1, c2⟩ := wcells_at xs i x hx
    rw [← h7] at c1 c2
    rw [List.getElem?_take_of_lt (by omega)] at c1 c2
    rw [Array.getElem?_toList] at c1 c2
    simp only [Nat.zero_add]
    constructor
    · simp [World.cell?, h3, c1]
    · simp [World.cell?, h3, c2]

theorem eqW (a1 b1 a2 b2 : Int) (w : World) :
    (Op.equalIn 10000 24 (.agg #[.int .i64 a1, .int .i64 b1]) (.agg #[.int .i64 a2, .int .i64 b2])).run Try.prog w = .ok (a1 == a2 && b1 == b2) w := by
  have u2 := Try.underlying2
  have ag2 := Try.isAgg2
  have z2 := Try.sizeOf2
  have hS : Try.prog.underlying 24 = some (.struct (Try.prog.fieldsOf 24)) := by kernel_rfl
  rw [show (10000 : Nat) = 9999 + 1 from rfl, run_equalIn_agg w 9999 24 _ _ hS (by kernel_rfl)]
  simp only [Program.fieldsOf, Try.underlying24]
  go_simp
  by_cases h1 : a1 = a2 <;> by_cases h2 : b1 = b2 <;> simp [h1, h2]
theorem guardW : Try.prog.eqGuardType Try.prog.depth 24 = false := by kernel_rfl
theorem neqlW (a1 b1 a2 b2 : Int) (w : World) :
    (binOp .neq 24 (.agg #[.int .i64 a1, .int .i64 b1]) (.agg #[.int .i64 a2, .int .i64 b2])).run Try.prog w = .ok (.bool (!(a1 == a2 && b1 == b2))) w := by
  rw [run_neq_struct, eqW]; rfl
attribute [local go_sem ↓] neqlW
attribute [local go_sem] guardW

theorem same_true (a b : Value) (xs : List Wn) (w : World) (hl : xs.length ≤ 4611686018427387904) (ha : RdW w a xs) (hb : RdW w b xs) : Calls Try.prog 7 #[a, b] w fun e w' => e = .returned (.bool true) ∧ Below w.heap.size w w' := by
  obtain ⟨a1, c1, rfl, h1⟩ := ha
  obtain ⟨a2, c2, rfl, h2⟩ := hb
  go_enter Try.func7, Try.ntmps7
  go_wp2
  go_loopw [5] (fun i w' => ∃ k : Nat, k ≤ xs.length ∧ i = .int .i64 k ∧ Below w.heap.size w w') (fun i _ => xs.length - (intOf i).toNat)
  case atStart => exact ⟨0, Nat.zero_le _, rfl, Below.refl _ _⟩
  case round =>
    obtain ⟨k, hk, rfl, hb⟩ := hrel
    by_cases hlt : k < xs.length
    · have hi : (k : Int) < (xs.length : Int) := by omega
      obtain ⟨x, hx⟩ : ∃ x, xs[k]? = some x := ⟨xs[k], by simp [hlt]⟩
      obtain ⟨b1, o1, rfl, e1, e2⟩ := h1 k x hx
      obtain ⟨b2, o2, rfl, e3, e4⟩ := h2 k x hx
      replace e1 := xcell hb e1
      replace e2 := xcell hb e2
      replace e3 := xcell hb e3
      replace e4 := xcell hb e4
      clear h1 h2
      go_wp2
      go_region
      go_wp2
      go_roundw
      case rel => exact ⟨k + 1, by omega, by go_num, hb.drew⟩
      case measure => simp [intOf]; omega
    · have hi : ¬ (k : Int) < (xs.length : Int) := by omega
      go_wp2
      go_ret
      exact ⟨rfl, hb⟩
end Go.Proofs.Ytkedbmpnhplmaaa
