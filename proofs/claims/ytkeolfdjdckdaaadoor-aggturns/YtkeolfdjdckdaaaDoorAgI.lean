import Derived.Test.YtkeolfdjdckdaaaDoorAgH
namespace Go.Proofs.YtkeolfdjdckdaaaDoor
open Go.RowKit
set_option linter.unusedVariables false
set_option linter.unusedSimpArgs false
set_option maxRecDepth 100000

def okF (kind : Int) (l : List Tm) : Bool := decide (1 ≤ kind) && decide (kind ≤ 7) && l.all tval
/-- What Fold gives. -/
def FdPost (kind : Int) (l : List Tm) (w : World) (e : Ending) (w' : World) : Prop := Below w.heap.size w w' ∧
  if okF kind l = true then e = .returned (.tuple #[vv (foldV kind l), .nilIface]) else e = .returned (.tuple #[vv v0, errR])
set_option maxHeartbeats 2000000 in
theorem taken_bad (kind : Int) (hk : ¬ (1 ≤ kind ∧ kind ≤ 7)) (x : Value) (w : World) :
    Calls Tryd.prog 10 #[.int .i64 kind, x] w fun e w' => e = .returned (.tuple #[.nilIface, errR]) ∧ w' = w := by
  have HV : Hid ((decide (1 ≤ kind) && decide (kind ≤ 7)) = false) := by unfold Hid; simp; omega
  clear hk
  go_enter Tryd.func10, Tryd.ntmps10
  go_wp2_with fail
  refine (valid_kind _ _).mono ?_
  rintro e w0 ⟨rfl, hw0⟩
  subst w0
  rw [HV.out]
  go_wp2_with fail
  go_ret2
  exact ⟨rfl, rfl⟩
theorem resAt {w w2 : World} (hb : Below (w.alloc (.cells #[.int .i64 0, .int .i64 0, .string ⟨#[]⟩] 25)).heap.size (w.alloc (.cells #[.int .i64 0, .int .i64 0, .string ⟨#[]⟩] 25)) w2) :
    Own w2 w.heap.size 25 3 [.int .i64 0, .int .i64 0, .string ⟨#[]⟩] ∧ Below w.heap.size w w2 :=
  ⟨(Own.new w 25 3 #[.int .i64 0, .int .i64 0, .string ⟨#[]⟩] rfl).later hb, (bel1 w _).trans (hb.mono (by simp))⟩
theorem below_set {B : Nat} {w W : World} (h : Below B w W) (a : Addr) (hB : B ≤ a.block) (u : Value) : Below B w (W.setCell a u) :=
  ⟨h.os, h.tape, h.output, by rw [size_set]; exact h.size, fun i hi => (heap_setCell_other W a i u (by omega)).trans (h.block i hi)⟩
theorem resB {w w2 : World} (hb : Below w.heap.size w w2) (a b c : Value) : Below w.heap.size w (((w2.setCell ⟨w.heap.size, 0, none⟩ a).setCell ⟨w.heap.size, 1, none⟩ b).setCell ⟨w.heap.size, 2, none⟩ c) :=
  below_set (below_set (below_set hb _ (Nat.le_refl _) _) _ (Nat.le_refl _) _) _ (Nat.le_refl _) _
set_option maxHeartbeats 2000000 in
theorem fold_any (kind : Int) (l : List Tm) (a : Option Addr) (c : Nat) (w : World) (hl : TLies w a l) (hg : l.length ≤ 4398046510977 ∧ ∀ o ∈ l, Fits o.v) :
    Calls Tryd.prog 5 #[.int .i64 kind, .slice a l.length c] w (FdPost kind l w) := by
  by_cases hk : 1 ≤ kind ∧ kind ≤ 7
  · obtain ⟨I, K⟩ := way_of kind hk
    have HT : Hid (∀ W, Below w.heap.size w W → Calls Tryd.prog 10 #[.int .i64 kind, .slice a l.length c] W (TkPost I l W)) := fun W hW => taken_any kind hk I K l a c W (hl.later hW) hg
    have HK : Hid (IsWay kind I) := K
    have FIN : Hid (∀ e w', Below w.heap.size w w' → (if l.all tval = true then e = .returned (.tuple #[vv (foldV kind l), .nilIface]) else e = .returned (.tuple #[vv v0, errR])) → FdPost kind l w e w') := fun e w' h1 h2 => ⟨h1, by unfold okF; simpa [hk.1, hk.2] using h2⟩
    clear hl hg K hk
    unfold vv v0 at FIN
    go_enter Tryd.func5, Tryd.ntmps5
    go_wp2_with fail
    refine (HT.out _ (bel1 _ _)).mono ?_
    rintro e w2 ⟨hb2, h2⟩
    cases hv : l.all tval with
    | true =>
      rw [hv] at h2 FIN
      simp only [if_true] at h2 FIN
      obtain ⟨x, rfl, hI⟩ := h2
      obtain ⟨hO, hB⟩ := resAt hb2
      obtain ⟨t, p, fn, rc, rfl, hM, hC⟩ := HK.out.answer _ w2 x l hI
      have m1 := hM.meth
      have m2 := hM.nila
      have m3 := hM.ent
      have HC : Hid (Calls Tryd.prog fn #[rc] w2 fun e w' => e = .returned (.agg #[.int .i64 (foldV kind l).k, .int .i64 (foldV kind l).n, .string (foldV kind l).s]) ∧ Below w2.heap.size w2 w') := hC
      have HO : Hid (Own w2 w.heap.size 25 3 [.int .i64 0, .int .i64 0, .string ⟨#[]⟩]) := hO
      have HB : Hid (Below w.heap.size w w2) := hB
      clear hI hM hC hb2 hO hB HK HT
      generalize foldV kind l = y at *
      go_wp2_with fail
      refine HC.out.mono ?_
      rintro e w3 ⟨rfl, hb3⟩
      have hO := HO.out.later hb3
      have HB3 : Hid (Below w.heap.size w w3) := HB.out.trans (hb3.mono HB.out.size)
      have q0 : w3.cell? ⟨w.heap.size, 0, none⟩ = some (.int .i64 0) := by rw [hO.cell 0 (by decide)]; rfl
      have q1 : w3.cell? ⟨w.heap.size, 1, none⟩ = some (.int .i64 0) := by rw [hO.cell 1 (by decide)]; rfl
      have q2 : w3.cell? ⟨w.heap.size, 2, none⟩ = some (.string ⟨#[]⟩) := by rw [hO.cell 2 (by decide)]; rfl
      have qf0 : w3.frozen? ⟨w.heap.size, 0, none⟩ = false := hO.soft 0
      have qf1 : w3.frozen? ⟨w.heap.size, 1, none⟩ = false := hO.soft 1
      have qf2 : w3.frozen? ⟨w.heap.size, 2, none⟩ = false := hO.soft 2
      have hlr := hO.lt
      have HO3 : Hid (Own w3 w.heap.size 25 3 [.int .i64 0, .int .i64 0, .string ⟨#[]⟩]) := hO
      clear hb3 hO HO HB HC
      go_wp2_with fail
      exact bodyPost_ret (v := .tuple #[.agg #[.int .i64 y.k, .int .i64 y.n, .string y.s], .nilIface]) (by simp [results, Tryd.results5, go_sem, q0, q1, q2, hlr]; try rfl) rfl (FIN.out _ _ (by first | exact resB HB3.out _ _ _ | exact HB3.out) rfl)
    | false =>
      rw [hv] at h2 FIN
      simp only [Bool.false_eq_true, if_false] at h2 FIN
      subst h2
      obtain ⟨hO, hB⟩ := resAt hb2
      have q0 : w2.cell? ⟨w.heap.size, 0, none⟩ = some (.int .i64 0) := by rw [hO.cell 0 (by decide)]; rfl
      have q1 : w2.cell? ⟨w.heap.size, 1, none⟩ = some (.int .i64 0) := by rw [hO.cell 1 (by decide)]; rfl
      have q2 : w2.cell? ⟨w.heap.size, 2, none⟩ = some (.string ⟨#[]⟩) := by rw [hO.cell 2 (by decide)]; rfl
      have qf0 : w2.frozen? ⟨w.heap.size, 0, none⟩ = false := hO.soft 0
      have qf1 : w2.frozen? ⟨w.heap.size, 1, none⟩ = false := hO.soft 1
      have qf2 : w2.frozen? ⟨w.heap.size, 2, none⟩ = false := hO.soft 2
      have hlr := hO.lt
      have HB : Hid (Below w.heap.size w w2) := hB
      clear hO hB hb2 HK HT
      unfold errR at *
      go_wp2_with fail
      exact bodyPost_ret (v := .tuple #[.agg #[.int .i64 0, .int .i64 0, .string ⟨#[]⟩], .iface 30 (.int .i64 4)]) (by simp [results, Tryd.results5, go_sem, q0, q1, q2, hlr]; try rfl) rfl (FIN.out _ _ (by first | exact resB HB.out _ _ _ | exact HB.out) rfl)
  · have FIN : Hid (∀ w', Below w.heap.size w w' → FdPost kind l w (.returned (.tuple #[vv v0, errR])) w') := fun w' h1 => ⟨h1, by
      have : okF kind l = false := by unfold okF; simp; omega
      rw [this]; rfl⟩
    have HT : Hid (∀ W, Calls Tryd.prog 10 #[.int .i64 kind, .slice a l.length c] W fun e w' => e = .returned (.tuple #[.nilIface, errR]) ∧ w' = W) := fun W => taken_bad kind hk _ W
    clear hl hg hk
    unfold vv v0 errR at *
    go_enter Tryd.func5, Tryd.ntmps5
    go_wp2_with fail
    refine (HT.out _).mono ?_
    rintro e w2 ⟨rfl, rfl⟩
    go_wp2_with fail
    exact bodyPost_ret (v := .tuple #[.agg #[.int .i64 0, .int .i64 0, .string ⟨#[]⟩], .iface 30 (.int .i64 4)]) (by simp [results, Tryd.results5, go_sem]; try rfl) rfl (FIN.out _ (by first | exact resB (bel1 w _) _ _ _ | exact bel1 _ _))
end Go.Proofs.YtkeolfdjdckdaaaDoor
