import Derived.Test.YtdbboaebigpkoaaGreatDoorAgP
namespace Go.Proofs.YtdbboaebigpkoaaGreatDoor
open Go.RowKit
set_option linter.unusedVariables false
set_option linter.unusedSimpArgs false
set_option maxRecDepth 100000

/-- Values with their times lie in memory where the slice 'a' begins. -/
def TLies (w : World) (a : Option Addr) (l : List Tm) : Prop :=
  ∀ i (hi : i < l.length), ∃ b off, a = some ⟨b, off, none⟩ ∧ w.cell? ⟨b, off + i * 4, none⟩ = some (.int .i64 l[i].t) ∧ w.cell? ⟨b, off + i * 4 + 1, none⟩ = some (.int .i64 l[i].v.k) ∧ w.cell? ⟨b, off + i * 4 + 2, none⟩ = some (.int .i64 l[i].v.n) ∧ w.cell? ⟨b, off + i * 4 + 3, none⟩ = some (.string l[i].v.s)
theorem TLies.later {w wx : World} {a : Option Addr} {l : List Tm} (h : TLies w a l) (hb : Below w.heap.size w wx) : TLies wx a l := fun i hi => by
  obtain ⟨b, off, e, h1, h2, h3, h4⟩ := h i hi
  exact ⟨b, off, e, cell_later hb h1, cell_later hb h2, cell_later hb h3, cell_later hb h4⟩
def tmv (o : Tm) : Value := .agg #[.int .i64 o.t, .int .i64 o.v.k, .int .i64 o.v.n, .string o.v.s]
theorem hmf2 : ∀ (fn : Fn) (first cap : Array Value) (w : World), (Instr.makeFunc fn first cap).run Tryz.prog w = .ok (.func fn first cap) w := fun _ _ _ _ => rfl
theorem bel2 (w : World) (o1 o2 : Obj) : Below w.heap.size w ((w.alloc o1).alloc o2) := ((Below.refl _ _).alloc (Nat.le_refl _) _).alloc (by simp) _

theorem byValue_any (a b : Tm) (w : World) : Calls Tryz.prog 28 #[tmv a, tmv b] w fun e w' => e = .returned (.int .i64 (cmpV a.v.k a.v.n a.v.s b.v.k b.v.n b.v.s)) ∧ Below w.heap.size w w' := by
  unfold tmv
  go_enter Tryz.func28, Tryz.ntmps28
  go_wp2_with fail
  refine (compare_any _ _ _ _ _ _ _).mono ?_
  rintro e w1 ⟨rfl, hb1⟩
  go_wp2_with fail
  go_ret
  exact ⟨rfl, (bel2 w _ _).trans (hb1.mono (by simp; omega))⟩

def cmpT (a b : Tm) : Int := if cmpI a.t b.t ≠ 0 then cmpI a.t b.t else cmpV a.v.k a.v.n a.v.s b.v.k b.v.n b.v.s
theorem cmpT_lt (a b : Tm) : decide (cmpT a b < 0) = (decide (a.t < b.t) || (decide (a.t = b.t) && ltW a.v b.v)) := by
  unfold cmpT cmpI
  by_cases h1 : a.t < b.t
  · simp [h1]
  · by_cases h2 : b.t < a.t
    · simp [h1, h2, show ¬ a.t = b.t by omega]
    · have e : a.t = b.t := by omega
      simp only [h1, h2, if_false, ne_eq, not_true_eq_false]
      rw [cmp_lt]
      simp [e]
theorem valid_kind (k : Int) (w : World) : Calls Tryz.prog 22 #[.int .i64 k] w fun e w' => e = .returned (.bool (decide (1 ≤ k) && decide (k ≤ 7))) ∧ w' = w := by
  by_cases h : 1 ≤ k
  · by_cases h2 : k ≤ 7
    · go_enter Tryz.func22, Tryz.ntmps22
      go_wp2
      go_ret
      exact ⟨ret_bool (by simp; omega), rfl⟩
    · go_enter Tryz.func22, Tryz.ntmps22
      go_wp2
      go_ret
      exact ⟨ret_bool (by simp; omega), rfl⟩
  · go_enter Tryz.func22, Tryz.ntmps22
    go_wp2
    go_ret
    exact ⟨ret_bool (by simp; omega), rfl⟩
end Go.Proofs.YtdbboaebigpkoaaGreatDoor
