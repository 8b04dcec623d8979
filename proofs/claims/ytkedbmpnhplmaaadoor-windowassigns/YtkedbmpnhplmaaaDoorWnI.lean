import Derived.Test.YtkedbmpnhplmaaaDoorWnG
import Derived.Test.YtkedbmpnhplmaaaDoorWnH
namespace Go.Proofs.YtkedbmpnhplmaaaDoor
open Go.RowKit Go.Shelf
set_option linter.unusedVariables false
set_option linter.unusedSimpArgs false
set_option maxRecDepth 100000
set_option maxHeartbeats 2000000

theorem own_one {w : World} (x : Wn) (W : World) (hb : w.heap.size ≤ W.heap.size) : (W.alloc (.cells #[.int .i64 x.a, .int .i64 x.b] 39)).ownsRow w.heap.size 39 2 (.slice (some ⟨W.heap.size, 0, none⟩) 1 1) 1 (wcells [x]) :=
  ⟨rfl, .inr ⟨W.heap.size, 1, #[.int .i64 x.a, .int .i64 x.b], rfl, hb, World.alloc_heap_new W _, Nat.le_refl _, by unfold maxLen; omega, rfl, rfl⟩⟩

theorem refIn_only {k s p t : Int} {x : Wn} (hk : (k = 3 ∧ x = ⟨t, t + s⟩ ∧ wrap64 (t + s) = t + s) ∨ (k = 4 ∧ x = ⟨0, 1099511627777⟩)) (w : World) :
    Calls Tryd.prog 8 #[.agg #[.int .i64 k, .int .i64 s, .int .i64 p], .int .i64 t] w fun e w' => ∃ v, e = .returned v ∧ w'.ownsRow w.heap.size 39 2 v 1 (wcells [x]) ∧ Below w.heap.size w w' := by
  rcases hk with ⟨rfl, rfl, hw⟩ | ⟨rfl, rfl⟩
  · go_enter Tryd.func8, Tryd.ntmps8
    go_wp2
    go_ret
    have := own_one (w := w) ⟨t, t + s⟩ (w.alloc (.cells #[.int .i64 3, .int .i64 s, .int .i64 p] 23)) (by simp)
    rw [World.size_alloc] at this
    exact ⟨_, rfl, this, (xbel1 _ _).alloc (by simp) _⟩
  · go_enter Tryd.func8, Tryd.ntmps8
    go_wp2
    go_ret
    have := own_one (w := w) ⟨0, 1099511627777⟩ (w.alloc (.cells #[.int .i64 4, .int .i64 s, .int .i64 p] 23)) (by simp)
    rw [World.size_alloc] at this
    exact ⟨_, rfl, this, (xbel1 _ _).alloc (by simp) _⟩

theorem cnt_small {s p t : Int} (H : SOk s p t) (h : s.tdiv p ≤ 64) : sCnt s p t ≤ 64 := by
  have ⟨a1, a2, a3⟩ := H.tm
  have hc := H.cnt
  have := H.hp
  have := H.hps
  have e : (s - 1 - t % p).tdiv p ≤ s.tdiv p := by
    rw [Int.tdiv_eq_ediv_of_nonneg (by omega), Int.tdiv_eq_ediv_of_nonneg (by omega)]
    exact Int.ediv_le_ediv (by omega) (by omega)
  omega

theorem refIn_any {k s p t : Int} (hv : validB k s p = true) (h0 : 0 ≤ t) (h1 : t ≤ 1099511627776) (w : World) :
    Calls Tryd.prog 8 #[.agg #[.int .i64 k, .int .i64 s, .int .i64 p], .int .i64 t] w fun e w' => ∃ v, e = .returned v ∧ w'.ownsRow w.heap.size 39 2 v (inL k s p t).length (wcells (inL k s p t)) ∧ Below w.heap.size w w' := by
  unfold validB at hv
  unfold inL
  by_cases e1 : k = 1
  · subst e1
    simp at hv
    have H : SOk s s t := ⟨by omega, by omega, by omega, h0, h1⟩
    have := refIn_step (k := 1) (s := s) (p := p) (t := t) (q := s) (.inl ⟨rfl, rfl⟩) H (cnt_small H (by rw [Int.tdiv_self (by omega)]; omega)) w
    rw [if_pos rfl, upto_length]
    exact this
  by_cases e2 : k = 2
  · subst e2
    simp at hv
    have H : SOk s p t := ⟨by omega, by omega, by omega, h0, h1⟩
    have := refIn_step (k := 2) (s := s) (p := p) (t := t) (q := p) (.inr ⟨rfl, rfl⟩) H (cnt_small H (by omega)) w
    rw [if_neg (by decide), if_pos rfl, upto_length]
    exact this
  by_cases e3 : k = 3
  · subst e3
    simp at hv
    rw [if_neg (by decide), if_neg (by decide), if_pos rfl]
    exact refIn_only (k := 3) (s := s) (p := p) (t := t) (x := ⟨t, t + s⟩) (.inl ⟨rfl, rfl, w64 (by omega) (by omega)⟩) w
  by_cases e4 : k = 4
  · subst e4
    rw [if_neg (by decide), if_neg (by decide), if_neg (by decide)]
    exact refIn_only (k := 4) (s := s) (p := p) (t := t) (x := ⟨0, 1099511627777⟩) (.inr ⟨rfl, rfl⟩) w
  · simp [e1, e2, e3, e4] at hv

theorem inL_len {k s p t : Int} (hv : validB k s p = true) (h0 : 0 ≤ t) (h1 : t ≤ 1099511627776) : (inL k s p t).length ≤ 65 ∧ 1 ≤ (inL k s p t).length := by
  unfold validB at hv
  unfold inL
  by_cases e1 : k = 1
  · subst e1
    simp at hv
    have H : SOk s s t := ⟨by omega, by omega, by omega, h0, h1⟩
    have := cnt_small H (by rw [Int.tdiv_self (by omega)]; omega)
    rw [if_pos rfl, upto_length]; omega
  by_cases e2 : k = 2
  · subst e2
    simp at hv
    have H : SOk s p t := ⟨by omega, by omega, by omega, h0, h1⟩
    have := cnt_small H (by omega)
    rw [if_neg (by decide), if_pos rfl, upto_length]; omega
  rw [if_neg e1, if_neg e2]
  split <;> simp
end Go.Proofs.YtkedbmpnhplmaaaDoor
