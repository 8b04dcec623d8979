import Derived.Test.YtkedbmpnhplmaaaMgE
import Derived.Test.YtkedbmpnhplmaaaMfB
namespace Go.Proofs.Ytkedbmpnhplmaaa
open Go.RowKit Go.Shelf
set_option linter.unusedVariables false
set_option linter.unusedSimpArgs false
set_option maxRecDepth 100000
set_option maxHeartbeats 4000000

def orI (x y : Int) : Int := if x = 0 then y else x
theorem or_two (x y : Int) (b cap : Nat) (w : World) (h0 : w.cell? ⟨b, 0, none⟩ = some (.int .i64 x)) (h1 : w.cell? ⟨b, 1, none⟩ = some (.int .i64 y)) :
    Calls Try.prog 14 #[.slice (some ⟨b, 0, none⟩) 2 cap] w fun e w' => e = .returned (.int .i64 (orI x y)) ∧ w' = w := by
  go_enter Try.func14, Try.ntmps14
  go_wp2
  go_loopg [8] 2 (fun gk i wr => wr = w ∧ ((gk = 2 ∧ i = .int .i64 0) ∨ (gk = 1 ∧ i = .int .i64 1 ∧ x = 0) ∨ (gk = 0 ∧ i = .int .i64 2 ∧ x = 0 ∧ y = 0)))
  case atStart => exact ⟨rfl, .inl ⟨rfl, rfl⟩⟩
  case round =>
    obtain ⟨rfl, ⟨rfl, rfl⟩ | ⟨rfl, rfl, rfl⟩ | ⟨rfl, rfl, rfl, rfl⟩⟩ := hrel
    · by_cases hx : x = 0
      · subst hx
        go_wp2
        go_roundg 1
        case measure => omega
        case rel => simp
      · go_wp2
        go_ret
        exact ⟨by unfold orI; simp [hx], rfl⟩
    · by_cases hy : y = 0
      · subst hy
        go_wp2
        go_roundg 0
        case measure => omega
        case rel => simp
      · go_wp2
        go_ret
        exact ⟨by unfold orI; simp, rfl⟩
    · go_wp2
      go_ret
      exact ⟨by unfold orI; simp, rfl⟩

def cmpW (x y : Wn) : Int := orI (cmpI x.b y.b) (cmpI x.a y.a)
def befW (x y : Wn) : Bool := decide (x.b < y.b) || (decide (x.b = y.b) && decide (x.a < y.a))
theorem cmpW_lt (x y : Wn) : decide (cmpW x y < 0) = befW x y := by
  unfold cmpW befW orI cmpI
  by_cases h1 : x.b < y.b
  · simp [h1]
  · by_cases h2 : y.b < x.b
    · have : x.b ≠ y.b := by omega
      simp [h1, h2, this]
    · have : x.b = y.b := by omega
      simp [this]
      by_cases h3 : x.a < y.a
      · simp [h3]
      · by_cases h4 : y.a < x.a <;> simp [h3, h4]
theorem cmpW_gt (x y : Wn) : decide (cmpW x y > 0) = befW y x := by
  unfold cmpW befW orI cmpI
  by_cases h1 : y.b < x.b
  · have : ¬ x.b < y.b := by omega
    simp [h1, this]
  · by_cases h2 : x.b < y.b
    · have : y.b ≠ x.b := by omega
      simp [h1, h2, this]
    · have : x.b = y.b := by omega
      simp [this]
      by_cases h3 : y.a < x.a
      · have : ¬ x.a < y.a := by omega
        simp [h3, this]
      · by_cases h4 : x.a < y.a <;> simp [h3, h4]
theorem cell_two (w : World) (x y : Value) (t : TypeId) : (w.alloc (.cells #[x, y] t)).cell? ⟨w.heap.size, 0, none⟩ = some x ∧ (w.alloc (.cells #[x, y] t)).cell? ⟨w.heap.size, 1, none⟩ = some y := by
  constructor
  · exact cell_two_new w x y t 0 x rfl
  · exact cell_two_new w x y t 1 y rfl

theorem cell_two' {w : World} {n : Nat} {x y : Value} {t : TypeId} (hn : w.heap.size = n) : (w.alloc (.cells #[x, y] t)).cell? ⟨n, 0, none⟩ = some x ∧ (w.alloc (.cells #[x, y] t)).cell? ⟨n, 1, none⟩ = some y := by
  subst hn; exact cell_two w x y t
theorem cell_two_d {w : World} {n : Nat} {x y : Value} {t : TypeId} (hn : w.heap.size = n) : (w.alloc (.cells #[x, y] t)).drew.cell? ⟨n, 0, none⟩ = some x ∧ (w.alloc (.cells #[x, y] t)).drew.cell? ⟨n, 1, none⟩ = some y := cell_two' hn

theorem before_any (x y : Wn) (w : World) : Calls Try.prog 11 #[.agg #[.int .i64 x.a, .int .i64 x.b], .agg #[.int .i64 y.a, .int .i64 y.b]] w fun e w' => e = .returned (.bool (befW x y)) ∧ Below w.heap.size w w' := by
  unfold befW
  by_cases h1 : x.b < y.b
  · go_enter Try.func11, Try.ntmps11
    go_wp2
    go_ret
    exact ⟨by simp [h1], (xbel1 _ _).trans ((xbel1 _ _).mono (by simp))⟩
  · have h1' : decide (x.b < y.b) = false := by simp; omega
    by_cases h2 : x.b = y.b
    · go_enter Try.func11, Try.ntmps11
      go_wp2
      go_ret
      exact ⟨by simp [h2], (xbel1 _ _).trans ((xbel1 _ _).mono (by simp))⟩
    · have h2' : (x.b == y.b) = false := by simpa using h2
      go_enter Try.func11, Try.ntmps11
      go_wp2
      go_ret
      exact ⟨by simp [h1, h2], (xbel1 _ _).trans ((xbel1 _ _).mono (by simp))⟩
end Go.Proofs.Ytkedbmpnhplmaaa
