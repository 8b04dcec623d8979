import Derived.Test.YtdbboaebigpkoaaGreatDoorAgU
import Derived.Test.YtdbboaebigpkoaaGreatDoorAgK
namespace Go.Proofs.YtdbboaebigpkoaaGreatDoor
open Go.RowKit Go.Maps
set_option linter.unusedVariables false
set_option linter.unusedSimpArgs false
set_option maxRecDepth 100000

set_option maxHeartbeats 1000000 in
theorem sparts_any (g T n : Nat) (x : Tm) (r : List Value) (w : World) (h : Own w g T (n + 4) (cellsT x ++ r)) :
    Calls Tryz.prog 88 #[ptr g] w fun e w' => ∃ y, e = .returned y ∧ OT w' w.heap.size y (if x.v.k = 0 then [] else [x]) ∧ Below w.heap.size w w' := by
  have HE : Hid (∀ W, Below w.heap.size w W → Calls Tryz.prog 86 #[ptr g] W fun e w' => e = .returned (.bool (x.v.k == 0)) ∧ w' = W) := fun W hW => empty_any g T n x r W (h.later hW)
  obtain ⟨c0, c1, c2, c3⟩ := cell4 h
  have hlt := h.lt
  clear h
  unfold ptr at *
  by_cases hk : x.v.k = 0
  · have hk1 : (x.v.k == 0) = true := by simpa using hk
    rw [if_pos hk]
    rw [hk1] at HE
    go_enter Tryz.func88, Tryz.ntmps88
    go_wp2_with fail
    refine (HE.out _ (Below.refl _ _)).mono ?_
    rintro e w1 ⟨rfl, hw1⟩
    subst hw1
    go_wp2_with fail
    go_ret
    exact ⟨_, rfl, World.ownsRow_nil _ _ _ _, Below.refl _ _⟩
  · have hk1 : (x.v.k == 0) = false := by simpa using hk
    rw [if_neg hk]
    rw [hk1] at HE
    go_enter Tryz.func88, Tryz.ntmps88
    go_wp2_with fail
    refine (HE.out _ (Below.refl _ _)).mono ?_
    rintro e w1 ⟨rfl, hw1⟩
    subst hw1
    go_wp2_with fail
    go_ret
    refine ⟨_, rfl, ?_, bel1 _ _⟩
    exact World.ownsRow_lit (base := w1.heap.size) (e := 46) (size := 4) w1 #[.int .i64 x.t, .int .i64 x.v.k, .int .i64 x.v.n, .string x.v.s] 1 (Nat.le_refl _) (by decide) rfl
set_option maxHeartbeats 1000000 in
theorem totalJoin_any (g T : Nat) (x o : Tm) (w : World) (h : Own w g T 4 (cellsT x)) :
    Calls Tryz.prog 87 #[ptr g, tmv o] w fun e w' => e = .returned (.tuple #[]) ∧ Own w' g T 4 (cellsT ⟨x.t, ⟨1, wrap64 (x.v.n + o.v.n), ⟨#[]⟩⟩⟩) ∧ w.grownBy w' (some g) := by
  have HP : Hid (∀ W, Below w.heap.size w W → Calls Tryz.prog 41 #[ptr g, .int .i64 o.v.n] W fun e w' => e = .returned (.tuple #[]) ∧ Own w' g T 4 (cellsT ⟨x.t, ⟨1, wrap64 (x.v.n + o.v.n), ⟨#[]⟩⟩⟩) ∧ W.grownBy w' (some g)) := fun W hW => plus_any g T x o.v.n W (h.later hW)
  have HG : Hid (∀ W w1, Below w.heap.size w W → W.grownBy w1 (some g) → w.grownBy w1 (some g)) := fun W w1 h1 h2 => grown_trans (grown_below h1) h2
  clear h
  unfold ptr at *
  unfold tmv
  go_enter Tryz.func87, Tryz.ntmps87
  go_wp2_with fail
  first
    | (go_region_with (first | (go_at_call 41; refine (HP.out _ (by first | exact Below.refl _ _ | exact bel1 _ _ | exact (bel1 _ _).drew)).mono ?_; rintro e w1 ⟨rfl, h1, h2⟩)))
    | (refine (HP.out _ (by first | exact bel1 _ _ | exact Below.refl _ _)).mono ?_; rintro e w1 ⟨rfl, h1, h2⟩)
  have H1 : Hid (Own w1 g T 4 (cellsT ⟨x.t, ⟨1, wrap64 (x.v.n + o.v.n), ⟨#[]⟩⟩⟩)) := h1
  have H2 : Hid (w.grownBy w1 (some g)) := HG.out _ _ (by first | exact Below.refl _ _ | exact bel1 _ _ | exact (bel1 _ _).drew) h2
  clear h1 h2
  go_wp2
  go_end0
  exact ⟨rfl, H1.out, H2.out⟩
set_option maxHeartbeats 1000000 in
theorem pickJoin_any (g T : Nat) (kind : Int) (x o : Tm) (F : Value) (w : World) (h : Own w g T 5 (cellsT x ++ [F])) (hF : OrdF w g kind F) :
    Calls Tryz.prog 91 #[ptr g, tmv o] w fun e w' => e = .returned (.tuple #[]) ∧ Own w' g T 5 (cellsT (pickF kind x o) ++ [F]) ∧ w.grownBy w' (some g) := by
  have HP : Hid (∀ W, Below w.heap.size w W → Calls Tryz.prog 90 #[ptr g, tmv o] W fun e w' => e = .returned (.tuple #[]) ∧ Own w' g T 5 (cellsT (pickF kind x o) ++ [F]) ∧ W.grownBy w' (some g)) := fun W hW => pickAdd_any g T kind x o F W (h.later hW) (hF.grown (r := none) (grown_below hW) fun k hk => by cases hk)
  have HG : Hid (∀ W w1, Below w.heap.size w W → W.grownBy w1 (some g) → w.grownBy w1 (some g)) := fun W w1 h1 h2 => grown_trans (grown_below h1) h2
  clear h hF
  unfold ptr tmv at *
  go_enter Tryz.func91, Tryz.ntmps91
  go_wp2_with fail
  first
    | (go_region_with (first | (go_at_call 90; refine (HP.out _ (by first | exact Below.refl _ _ | exact bel1 _ _ | exact (bel1 _ _).drew)).mono ?_; rintro e w1 ⟨rfl, h1, h2⟩)))
    | (refine (HP.out _ (by first | exact bel1 _ _ | exact Below.refl _ _)).mono ?_; rintro e w1 ⟨rfl, h1, h2⟩)
  have H1 : Hid (Own w1 g T 5 (cellsT (pickF kind x o) ++ [F])) := h1
  have H2 : Hid (w.grownBy w1 (some g)) := HG.out _ _ (by first | exact Below.refl _ _ | exact bel1 _ _ | exact (bel1 _ _).drew) h2
  clear h1 h2
  go_wp2
  go_end0
  exact ⟨rfl, H1.out, H2.out⟩
set_option maxHeartbeats 1000000 in
/-- Taking in a part of a set is taking in a value. -/
theorem dstJoin_any (g : Nat) (o : Tm) (w : World) (Q : World → World → Prop) (hq : ∀ W w', Below w.heap.size w W → Q W w' → Q w w')
    (h : ∀ W, Below w.heap.size w W → Calls Tryz.prog 92 #[ptr g, tmv o] W fun e w' => e = .returned (.tuple #[]) ∧ Q W w') :
    Calls Tryz.prog 94 #[ptr g, tmv o] w fun e w' => e = .returned (.tuple #[]) ∧ Q w w' := by
  have HP := hidMk h
  have HQ := hidMk hq
  clear h hq
  unfold ptr tmv at *
  go_enter Tryz.func94, Tryz.ntmps94
  go_wp2_with fail
  first
    | (go_region_with (first | (go_at_call 92; refine (HP.out _ (by first | exact Below.refl _ _ | exact bel1 _ _ | exact (bel1 _ _).drew)).mono ?_; rintro e w1 ⟨rfl, h1⟩)))
    | (refine (HP.out _ (by first | exact bel1 _ _ | exact Below.refl _ _)).mono ?_; rintro e w1 ⟨rfl, h1⟩)
  have H1 : Hid (Q w w1) := HQ.out _ _ (by first | exact Below.refl _ _ | exact bel1 _ _ | exact (bel1 _ _).drew) h1
  clear h1
  go_wp2
  go_end0
  exact ⟨rfl, H1.out⟩
end Go.Proofs.YtdbboaebigpkoaaGreatDoor
