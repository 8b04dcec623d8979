import Derived.Test.YtdbboaebigpkoaaGreatDoorAgA
import Derived.Test.YtdbboaebigpkoaaGreatDoorAgM
namespace Go.Proofs.YtdbboaebigpkoaaGreatDoor
open Go.RowKit
set_option linter.unusedVariables false
set_option linter.unusedSimpArgs false
set_option maxRecDepth 100000

def cellsT (o : Tm) : List Value := [.int .i64 o.t, .int .i64 o.v.k, .int .i64 o.v.n, .string o.v.s]
def ptr (g : Nat) : Value := .pointer (some ⟨g, 0, none⟩)

theorem of_at (n : Int) (w : World) : Calls Tryz.prog 25 #[.int .i64 n] w fun e w' => e = .returned (.agg #[.int .i64 1, .int .i64 n, .string ⟨#[]⟩]) ∧ w' = w.alloc (.cells #[.int .i64 1, .int .i64 n, .string ⟨#[]⟩] 25) := by
  go_enter Tryz.func25, Tryz.ntmps25
  go_wp2
  exact bodyPost_ret (v := .agg #[.int .i64 1, .int .i64 n, .string ⟨#[]⟩]) (by simp [results, Tryz.results25, go_sem]) rfl ⟨rfl, rfl⟩
set_option maxHeartbeats 1000000 in
theorem plus_any (g T : Nat) (x : Tm) (m : Int) (w : World) (h : Own w g T 4 (cellsT x)) :
    Calls Tryz.prog 41 #[ptr g, .int .i64 m] w fun e w' => e = .returned (.tuple #[]) ∧ Own w' g T 4 (cellsT ⟨x.t, ⟨1, wrap64 (x.v.n + m), ⟨#[]⟩⟩⟩) ∧ w.grownBy w' (some g) := by
  unfold ptr
  have c2 := h.cell 2 (by decide)
  have c0 := h.cell 0 (by decide)
  have c1 := h.cell 1 (by decide)
  have c3 := h.cell 3 (by decide)
  simp only [cellsT, List.getElem?_cons_zero, List.getElem?_cons_succ] at c0 c1 c2 c3
  have hlt := h.lt
  have s1 := h.soft 1
  have s2 := h.soft 2
  have s3 := h.soft 3
  have H : Hid (Own w g T 4 (cellsT x)) := h
  clear h
  go_enter Tryz.func41, Tryz.ntmps41
  go_wp2_with fail
  refine (of_at _ _).mono ?_
  rintro e w1 ⟨rfl, rfl⟩
  have hne : ¬ w.heap.size = g := by omega
  go_wp2
  go_end0
  have p1 := H.out.put 1 (.int .i64 1)
  have p2 := p1.1.put 2 (.int .i64 (wrap64 (x.v.n + m)))
  have p3 := p2.1.put 3 (.string ⟨#[]⟩)
  refine ⟨rfl, p3.1.later (bel1 _ _), grown_trans (grown_trans (grown_trans p1.2 p2.2) p3.2) (grown_below (bel1 _ _))⟩

/-- A method of a value behind an interface. -/
structure Meth (t : Nat) (p : Value) (name : String) (fn : Nat) (rc : Value) : Prop where
  meth : ∀ W, (method 309 t p name).run Tryz.prog W = .ok (fn, rc) W
  nila : ∀ W, (nilAhead 309 t p name).run Tryz.prog W = .ok (some false) W
  ent : ∀ (a : Array Value) (W : World), (callFunc fn a).run Tryz.prog W = .ok (.enter fn a) W
/-- A way that holds what a list comes to: 'I B W x l'. -/
structure IsWay (kind : Int) (I : Nat → World → Value → List Tm → Prop) : Prop where
  later : ∀ B w w' x l, I B w x l → Below w.heap.size w w' → I B w' x l
  add : ∀ B w x l o, I B w x l → Fits o.v → l.length ≤ 4398046510977 → ∃ t p fn rc, x = .iface t p ∧ Meth t p "streamwright/agg.add" fn rc ∧ Calls Tryz.prog fn #[rc, tmv o] w (fun e w' => e = .returned (.tuple #[]) ∧ I B w' x (l ++ [o]) ∧ Below B w w')
  answer : ∀ B w x l, I B w x l → ∃ t p fn rc, x = .iface t p ∧ Meth t p "streamwright/agg.answer" fn rc ∧ Calls Tryz.prog fn #[rc] w (fun e w' => e = .returned (vv (foldV kind l)) ∧ Below w.heap.size w w')
  beg : ∀ w, Calls Tryz.prog 16 #[.int .i64 kind] w (fun e w' => ∃ x, e = .returned x ∧ I w.heap.size w' x [] ∧ Below w.heap.size w w')

theorem cell4 {w : World} {g T n : Nat} {x : Tm} {r : List Value} (h : Own w g T (n + 4) (cellsT x ++ r)) :
    w.cell? ⟨g, 0, none⟩ = some (.int .i64 x.t) ∧ w.cell? ⟨g, 1, none⟩ = some (.int .i64 x.v.k) ∧ w.cell? ⟨g, 2, none⟩ = some (.int .i64 x.v.n) ∧ w.cell? ⟨g, 3, none⟩ = some (.string x.v.s) :=
  ⟨h.cell 0 (by omega), h.cell 1 (by omega), h.cell 2 (by omega), h.cell 3 (by omega)⟩

set_option maxHeartbeats 1000000 in
theorem answer_any (g T n : Nat) (x : Tm) (r : List Value) (w : World) (h : Own w g T (n + 4) (cellsT x ++ r)) :
    Calls Tryz.prog 85 #[ptr g] w fun e w' => e = .returned (vv x.v) ∧ Below w.heap.size w w' := by
  unfold ptr vv
  obtain ⟨c0, c1, c2, c3⟩ := cell4 h
  have hlt := h.lt
  clear h
  go_enter Tryz.func85, Tryz.ntmps85
  go_wp2
  exact bodyPost_ret (v := .agg #[.int .i64 x.v.k, .int .i64 x.v.n, .string x.v.s]) (by simp [results, Tryz.results85, go_sem]) rfl ⟨rfl, bel1 _ _⟩
set_option maxHeartbeats 1000000 in
theorem empty_any (g T n : Nat) (x : Tm) (r : List Value) (w : World) (h : Own w g T (n + 4) (cellsT x ++ r)) :
    Calls Tryz.prog 86 #[ptr g] w fun e w' => e = .returned (.bool (x.v.k == 0)) ∧ w' = w := by
  unfold ptr
  obtain ⟨c0, c1, c2, c3⟩ := cell4 h
  have hlt := h.lt
  clear h
  go_enter Tryz.func86, Tryz.ntmps86
  go_wp2
  go_ret
  exact ⟨rfl, rfl⟩
set_option maxHeartbeats 1000000 in
theorem countAdd_any (g T : Nat) (x o : Tm) (w : World) (h : Own w g T 4 (cellsT x)) :
    Calls Tryz.prog 84 #[ptr g, tmv o] w fun e w' => e = .returned (.tuple #[]) ∧ Own w' g T 4 (cellsT ⟨x.t, ⟨1, wrap64 (x.v.n + 1), ⟨#[]⟩⟩⟩) ∧ w.grownBy w' (some g) := by
  have HP : Hid (∀ W, Below w.heap.size w W → Calls Tryz.prog 41 #[ptr g, .int .i64 1] W fun e w' => e = .returned (.tuple #[]) ∧ Own w' g T 4 (cellsT ⟨x.t, ⟨1, wrap64 (x.v.n + 1), ⟨#[]⟩⟩⟩) ∧ W.grownBy w' (some g)) := fun W hW => plus_any g T x 1 W (h.later hW)
  clear h
  unfold ptr at *
  unfold tmv
  go_enter Tryz.func84, Tryz.ntmps84
  go_wp2_with fail
  refine (HP.out _ (by first | exact Below.refl _ _ | exact bel1 _ _)).mono ?_
  rintro e w1 ⟨rfl, h1, h2⟩
  have H1 : Hid (Own w1 g T 4 (cellsT ⟨x.t, ⟨1, wrap64 (x.v.n + 1), ⟨#[]⟩⟩⟩)) := h1
  have H2 : Hid (w.grownBy w1 (some g)) := by first | exact h2 | exact grown_trans (grown_below (bel1 w _)) h2 | exact grown_trans (grown_below (bel1 w _).drew) h2
  clear h1 h2
  go_wp2
  go_end0
  exact ⟨rfl, H1.out, H2.out⟩
set_option maxHeartbeats 1000000 in
theorem sumAdd_any (g T : Nat) (x o : Tm) (w : World) (h : Own w g T 4 (cellsT x)) :
    Calls Tryz.prog 89 #[ptr g, tmv o] w fun e w' => e = .returned (.tuple #[]) ∧ Own w' g T 4 (cellsT ⟨x.t, sumF x.v o⟩) ∧ w.grownBy w' (some g) := by
  have H : Hid (Own w g T 4 (cellsT x)) := h
  have HP : Hid (∀ W, Below w.heap.size w W → Calls Tryz.prog 41 #[ptr g, .int .i64 o.v.n] W fun e w' => e = .returned (.tuple #[]) ∧ Own w' g T 4 (cellsT ⟨x.t, ⟨1, wrap64 (x.v.n + o.v.n), ⟨#[]⟩⟩⟩) ∧ W.grownBy w' (some g)) := fun W hW => plus_any g T x o.v.n W (h.later hW)
  clear h
  unfold ptr at *
  unfold tmv
  by_cases hk : o.v.k = 1
  · have E : Hid (sumF x.v o = ⟨1, wrap64 (x.v.n + o.v.n), ⟨#[]⟩⟩) := by unfold Hid sumF; rw [if_pos hk]
    go_enter Tryz.func89, Tryz.ntmps89
    go_wp2
    go_region_with (first | (go_at_call 41; refine (HP.out _ (by first | exact Below.refl _ _ | exact bel1 _ _ | exact (bel1 _ _).drew)).mono ?_; rintro e w1 ⟨rfl, h1, h2⟩))
    have H1 : Hid (Own w1 g T 4 (cellsT ⟨x.t, ⟨1, wrap64 (x.v.n + o.v.n), ⟨#[]⟩⟩⟩)) := h1
    have H2 : Hid (w.grownBy w1 (some g)) := by first | exact h2 | exact grown_trans (grown_below (bel1 w _)) h2 | exact grown_trans (grown_below (bel1 w _).drew) h2
    clear h1 h2
    go_wp2
    go_end0
    exact ⟨rfl, by rw [E.out]; exact H1.out, H2.out⟩
  · have E : Hid (sumF x.v o = x.v) := by unfold Hid sumF; rw [if_neg hk]
    go_enter Tryz.func89, Tryz.ntmps89
    go_wp2_with fail
    go_end0
    exact ⟨rfl, by rw [E.out]; exact H.out.later (by first | exact Below.refl _ _ | exact bel1 _ _), grown_below (by first | exact Below.refl _ _ | exact bel1 _ _)⟩
end Go.Proofs.YtdbboaebigpkoaaGreatDoor
