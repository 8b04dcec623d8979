import Derived.Test.YtdbboaebigpkoaaGreatDoorAgE
namespace Go.Proofs.YtdbboaebigpkoaaGreatDoor
open Go.RowKit
set_option linter.unusedVariables false
set_option linter.unusedSimpArgs false
set_option maxRecDepth 100000

theorem put4 {w : World} {g T : Nat} {x : Tm} {F : Value} (h : Own w g T 5 (cellsT x ++ [F])) (o : Tm) :
    Own ((((w.setCell ⟨g, 0, none⟩ (.int .i64 o.t)).setCell ⟨g, 1, none⟩ (.int .i64 o.v.k)).setCell ⟨g, 2, none⟩ (.int .i64 o.v.n)).setCell ⟨g, 3, none⟩ (.string o.v.s)) g T 5 (cellsT o ++ [F])
    ∧ w.grownBy ((((w.setCell ⟨g, 0, none⟩ (.int .i64 o.t)).setCell ⟨g, 1, none⟩ (.int .i64 o.v.k)).setCell ⟨g, 2, none⟩ (.int .i64 o.v.n)).setCell ⟨g, 3, none⟩ (.string o.v.s)) (some g) := by
  have p0 := h.put 0 (.int .i64 o.t)
  have p1 := p0.1.put 1 (.int .i64 o.v.k)
  have p2 := p1.1.put 2 (.int .i64 o.v.n)
  have p3 := p2.1.put 3 (.string o.v.s)
  exact ⟨p3.1, grown_trans (grown_trans (grown_trans p0.2 p1.2) p2.2) p3.2⟩

set_option maxHeartbeats 2000000 in
theorem pickAdd_0 (g T : Nat) (kind : Int) (x o : Tm) (n : Nat) (cap : Array Value) (w : World) (h : Own w g T 5 (cellsT x ++ [.func (.func n) #[] cap])) (ho : o.v.k = 0) :
    Calls Tryz.prog 90 #[ptr g, tmv o] w fun e w' => e = .returned (.tuple #[]) ∧ Own w' g T 5 (cellsT (pickF kind x o) ++ [.func (.func n) #[] cap]) ∧ w.grownBy w' (some g) := by
  have H : Hid (Own w g T 5 (cellsT x ++ [.func (.func n) #[] cap])) := h
  obtain ⟨c0, c1, c2, c3⟩ := cell4 (n := 1) h
  have c4 : w.cell? ⟨g, 4, none⟩ = some (.func (.func n) #[] cap) := h.cell 4 (by decide)
  have hlt := h.lt
  have s0 := h.soft 0
  have s1 := h.soft 1
  have s2 := h.soft 2
  have s3 := h.soft 3
  clear h
  have hne : ¬ w.heap.size = g := by omega
  unfold ptr tmv at *
  have ho1 : (o.v.k != 0) = false := by simpa using ho
  have E : Hid (pickF kind x o = x) := by unfold Hid pickF; rw [if_neg (fun h => h.1 ho)]
  clear ho
  go_enter Tryz.func90, Tryz.ntmps90
  go_wp2_with fail
  go_quiet (fail)
  go_wp2
  go_end0
  exact ⟨rfl, by rw [E.out]; exact H.out.later (below_drewN (bel1 _ _) _), grown_below (below_drewN (bel1 _ _) _)⟩
set_option maxHeartbeats 2000000 in
theorem pickAdd_1 (g T : Nat) (kind : Int) (x o : Tm) (n : Nat) (cap : Array Value) (w : World) (h : Own w g T 5 (cellsT x ++ [.func (.func n) #[] cap])) (ho : o.v.k ≠ 0) (hk : (x.v.k == 0) = true) :
    Calls Tryz.prog 90 #[ptr g, tmv o] w fun e w' => e = .returned (.tuple #[]) ∧ Own w' g T 5 (cellsT (pickF kind x o) ++ [.func (.func n) #[] cap]) ∧ w.grownBy w' (some g) := by
  have H : Hid (Own w g T 5 (cellsT x ++ [.func (.func n) #[] cap])) := h
  obtain ⟨c0, c1, c2, c3⟩ := cell4 (n := 1) h
  have c4 : w.cell? ⟨g, 4, none⟩ = some (.func (.func n) #[] cap) := h.cell 4 (by decide)
  have hlt := h.lt
  have s0 := h.soft 0
  have s1 := h.soft 1
  have s2 := h.soft 2
  have s3 := h.soft 3
  have HE : Hid (∀ W, Below w.heap.size w W → Calls Tryz.prog 86 #[ptr g] W fun e w' => e = .returned (.bool (x.v.k == 0)) ∧ w' = W) := fun W hW => empty_any g T 1 x [.func (.func n) #[] cap] W (h.later hW)
  clear h
  have hne : ¬ w.heap.size = g := by omega
  unfold ptr tmv at *
  have ho1 : (o.v.k != 0) = true := by simpa using ho
  have E : Hid (pickF kind x o = o) := by unfold Hid pickF; rw [if_pos ⟨ho, .inl (by simpa using hk)⟩]
  rw [hk] at HE
  clear ho
  go_enter Tryz.func90, Tryz.ntmps90
  go_wp2_with fail
  go_quiet ((go_at_call 86; refine Calls.quiet_of_same (HE.out _ (below_drewN (bel1 _ _) _))))
  go_wp2
  go_end0
  rw [E.out]
  have hq := put4 (H.out.later (below_drewN (bel1 w (.cells #[.int .i64 o.t, .int .i64 o.v.k, .int .i64 o.v.n, .string o.v.s] 46)) nq)) o
  exact ⟨rfl, hq.1, grown_trans (grown_below (below_drewN (bel1 w _) nq)) hq.2⟩
end Go.Proofs.YtdbboaebigpkoaaGreatDoor
