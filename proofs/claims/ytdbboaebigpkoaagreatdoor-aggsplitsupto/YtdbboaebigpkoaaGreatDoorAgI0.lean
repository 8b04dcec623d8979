import Derived.Test.YtdbboaebigpkoaaGreatDoorAgH
namespace Go.Proofs.YtdbboaebigpkoaaGreatDoor
open Go.RowKit
set_option linter.unusedVariables false
set_option linter.unusedSimpArgs false
set_option maxRecDepth 100000

def okF (kind : Int) (l : List Tm) : Bool := decide (1 ≤ kind) && decide (kind ≤ 7) && l.all tval
set_option maxHeartbeats 2000000 in
theorem taken_bad (kind : Int) (hk : ¬ (1 ≤ kind ∧ kind ≤ 7)) (x : Value) (w : World) :
    Calls Tryz.prog 13 #[.int .i64 kind, x] w fun e w' => e = .returned (.tuple #[.nilIface, errR]) ∧ w' = w := by
  have HV : Hid ((decide (1 ≤ kind) && decide (kind ≤ 7)) = false) := by unfold Hid; simp; omega
  clear hk
  go_enter Tryz.func13, Tryz.ntmps13
  go_wp2_with fail
  refine (valid_kind _ _).mono ?_
  rintro e w0 ⟨rfl, hw0⟩
  subst w0
  rw [HV.out]
  go_wp2_with fail
  go_ret2
  exact ⟨rfl, rfl⟩
theorem resAt {w w2 : World} (hb : Below (w.alloc (.cells #[.int .i64 0, .int .i64 0, .string ⟨#[]⟩] 25)).heap.size (w.alloc (.cells #[.int .i64 0, .int .i64 0, .string ⟨#[]⟩] 25)) w2) :
    Own w2 w.heap.size 25 3 [.int .i64 0, .int .i64 0, .string ⟨#[]⟩] ∧ Below w.heap.size w w2 :=
  ⟨(Own.new w 25 3 #[.int .i64 0, .int .i64 0, .string ⟨#[]⟩] rfl).later hb, (bel1 w _).trans (hb.mono (by simp))⟩
theorem below_set {B : Nat} {w W : World} (h : Below B w W) (a : Addr) (hB : B ≤ a.block) (u : Value) : Below B w (W.setCell a u) :=
  ⟨h.os, h.tape, h.output, by rw [size_set]; exact h.size, fun i hi => (heap_setCell_other W a i u (by omega)).trans (h.block i hi)⟩
theorem resB {w w2 : World} (hb : Below w.heap.size w w2) (a b c : Value) : Below w.heap.size w (((w2.setCell ⟨w.heap.size, 0, none⟩ a).setCell ⟨w.heap.size, 1, none⟩ b).setCell ⟨w.heap.size, 2, none⟩ c) :=
  below_set (below_set (below_set hb _ (Nat.le_refl _) _) _ (Nat.le_refl _) _) _ (Nat.le_refl _) _
end Go.Proofs.YtdbboaebigpkoaaGreatDoor
