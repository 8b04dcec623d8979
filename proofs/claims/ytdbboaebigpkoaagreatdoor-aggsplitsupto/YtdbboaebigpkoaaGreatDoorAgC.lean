import Derived.Test.YtdbboaebigpkoaaGreatDoorAgB
namespace Go.Proofs.YtdbboaebigpkoaaGreatDoor
open Go.RowKit
set_option linter.unusedVariables false
set_option linter.unusedSimpArgs false
set_option maxRecDepth 100000

theorem xent {f : FuncId} {fn : Func} {c : Code} (hf : Tryz.prog.funcs[f]? = some fn) (hname : (fn.name == "runtime.NumGoroutine") = false) (hb : fn.body = some c) (args : Array Value) (w : World) :
    (callFunc f args).run Tryz.prog w = .ok (.enter f args) w := by
  have h1 : fn.name ≠ "runtime.NumGoroutine" := by simpa using hname
  simp [callFunc, hf, h1, hb]

/-- Way 1: how many. -/
def ICnt (B : Nat) (w : World) (x : Value) (l : List Tm) : Prop := ∃ g, x = .iface 77 (ptr g) ∧ B ≤ g ∧ Own w g 119 4 (cellsT ⟨0, ⟨1, l.length, ⟨#[]⟩⟩⟩)
/-- Way 2: the sum. -/
def ISum (B : Nat) (w : World) (x : Value) (l : List Tm) : Prop := ∃ g, x = .iface 79 (ptr g) ∧ B ≤ g ∧ Own w g 85 4 (cellsT ⟨0, sumS l⟩)
theorem below_own {B : Nat} {w w' : World} {g : Nat} (hB : B ≤ g) (hg : g < w.heap.size) (h : w.grownBy w' (some g)) : Below B w w' :=
  ⟨h.os, h.tape, h.output, by have := h.size; omega, fun i hi => h.block i (by omega) (fun e => by have := Option.some.inj e; omega)⟩
theorem meth_cntAdd (g : Nat) : Meth 77 (ptr g) "streamwright/agg.add" 84 (ptr g) := ⟨fun W => by kernel_rfl, fun W => by kernel_rfl, xent Tryz.func84 (by kernel_rfl) (by rfl)⟩
theorem meth_sumAdd (g : Nat) : Meth 79 (ptr g) "streamwright/agg.add" 89 (ptr g) := ⟨fun W => by kernel_rfl, fun W => by kernel_rfl, xent Tryz.func89 (by kernel_rfl) (by rfl)⟩
theorem meth_cntAns (g : Nat) : Meth 77 (ptr g) "streamwright/agg.answer" 85 (ptr g) := ⟨fun W => by kernel_rfl, fun W => by kernel_rfl, xent Tryz.func85 (by kernel_rfl) (by rfl)⟩
theorem meth_sumAns (g : Nat) : Meth 79 (ptr g) "streamwright/agg.answer" 85 (ptr g) := ⟨fun W => by kernel_rfl, fun W => by kernel_rfl, xent Tryz.func85 (by kernel_rfl) (by rfl)⟩

set_option maxHeartbeats 1000000 in
theorem newCount_any (w : World) : Calls Tryz.prog 27 #[] w fun e w' => ∃ g, e = .returned (ptr g) ∧ w.heap.size ≤ g ∧ Own w' g 119 4 (cellsT ⟨0, ⟨1, 0, ⟨#[]⟩⟩⟩) ∧ Below w.heap.size w w' := by
  go_enter Tryz.func27, Tryz.ntmps27
  go_wp2_with fail
  refine (plus_any w.heap.size 119 ⟨0, v0⟩ 0 _ (Own.new _ _ _ _ rfl)).mono ?_
  rintro e w1 ⟨rfl, h1, h2⟩
  have H1 : Hid (Own w1 w.heap.size 119 4 (cellsT ⟨0, ⟨1, 0, ⟨#[]⟩⟩⟩)) := by
    have e : wrap64 ((⟨0, v0⟩ : Tm).v.n + 0) = 0 := by show wrap64 (0 + 0) = 0; rw [w64 (by omega) (by omega)]; rfl
    rw [e] at h1; exact h1
  have H2 : Hid (Below w.heap.size w w1) := (bel1 w _).trans (below_own (Nat.le_refl _) (by simp) h2)
  clear h1 h2
  go_wp2
  go_ret
  exact ⟨_, rfl, Nat.le_refl _, H1.out, H2.out⟩

set_option maxHeartbeats 1000000 in
theorem begun_1 (w : World) : Calls Tryz.prog 16 #[.int .i64 1] w (fun e w' => ∃ x, e = .returned x ∧ ICnt w.heap.size w' x [] ∧ Below w.heap.size w w') := by
  go_enter Tryz.func16, Tryz.ntmps16
  go_wp2_with fail
  refine (newCount_any _).mono ?_
  rintro e w1 ⟨g, rfl, h0, h1, h2⟩
  have H1 : Hid (Own w1 g 119 4 (cellsT ⟨0, ⟨1, 0, ⟨#[]⟩⟩⟩)) := h1
  have H2 : Hid (Below w.heap.size w w1) := h2
  clear h1 h2
  unfold ptr
  go_wp2
  go_ret
  exact ⟨_, rfl, ⟨g, rfl, h0, H1.out⟩, H2.out⟩
set_option maxHeartbeats 1000000 in
theorem begun_2 (w : World) : Calls Tryz.prog 16 #[.int .i64 2] w (fun e w' => ∃ x, e = .returned x ∧ ISum w.heap.size w' x [] ∧ Below w.heap.size w w') := by
  go_enter Tryz.func16, Tryz.ntmps16
  go_wp2
  go_ret
  exact ⟨_, rfl, ⟨w.heap.size, rfl, Nat.le_refl _, Own.new _ _ _ _ rfl⟩, bel1 _ _⟩

theorem way_cnt : IsWay 1 ICnt where
  later B w w' x l h hb := by
    obtain ⟨g, h1, h2, h3⟩ := h
    exact ⟨g, h1, h2, h3.later hb⟩
  add B w x l o h hf hl := by
    obtain ⟨g, rfl, h2, h3⟩ := h
    refine ⟨_, _, _, _, rfl, meth_cntAdd g, (countAdd_any g _ _ o w h3).mono fun e w' ⟨he, h4, h5⟩ => ⟨he, ⟨g, rfl, h2, ?_⟩, below_own h2 h3.lt h5⟩⟩
    have e : wrap64 ((l.length : Int) + 1) = ((l ++ [o]).length : Nat) := by rw [w64 (by omega) (by omega)]; simp
    rw [← e]; exact h4
  answer B w x l h := by
    obtain ⟨g, rfl, h2, h3⟩ := h
    refine ⟨_, _, _, _, rfl, meth_cntAns g, (answer_any g _ 0 (⟨0, ⟨1, l.length, ⟨#[]⟩⟩⟩ : Tm) [] w (by rw [List.append_nil]; exact h3)).mono fun e w' ⟨he, hb⟩ => ⟨?_, hb⟩⟩
    rw [he]; rfl
  beg := begun_1
theorem way_sum : IsWay 2 ISum where
  later B w w' x l h hb := by
    obtain ⟨g, h1, h2, h3⟩ := h
    exact ⟨g, h1, h2, h3.later hb⟩
  add B w x l o h hf hl := by
    obtain ⟨g, rfl, h2, h3⟩ := h
    refine ⟨_, _, _, _, rfl, meth_sumAdd g, (sumAdd_any g _ _ o w h3).mono fun e w' ⟨he, h4, h5⟩ => ⟨he, ⟨g, rfl, h2, ?_⟩, below_own h2 h3.lt h5⟩⟩
    have e : sumS (l ++ [o]) = sumF (sumS l) o := by simp [sumS, List.foldl_append]
    rw [e]; exact h4
  answer B w x l h := by
    obtain ⟨g, rfl, h2, h3⟩ := h
    refine ⟨_, _, _, _, rfl, meth_sumAns g, (answer_any g _ 0 (⟨0, sumS l⟩ : Tm) [] w (by rw [List.append_nil]; exact h3)).mono fun e w' ⟨he, hb⟩ => ⟨?_, hb⟩⟩
    rw [he]; rfl
  beg := begun_2
end Go.Proofs.YtdbboaebigpkoaaGreatDoor
