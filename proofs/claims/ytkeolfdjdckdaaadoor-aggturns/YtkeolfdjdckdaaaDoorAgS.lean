import Derived.Test.YtkeolfdjdckdaaaDoorAgL
import Derived.Test.YtkeolfdjdckdaaaDoorAgN
import Derived.Test.YtkeolfdjdckdaaaDoorAgO
import Derived.Test.YtkeolfdjdckdaaaDoorTldB
namespace Go.Proofs.YtkeolfdjdckdaaaDoor
open Go.RowKit
set_option linter.unusedVariables false
set_option linter.unusedSimpArgs false
set_option maxRecDepth 100000

theorem refFold_any (kind : Int) (l : List Tm) (a : Option Addr) (c : Nat) (w : World) (hl : TLies w a l) (hg : l.length ≤ 3518437208781 ∧ ∀ o ∈ l, Fits o.v) (hk : 1 ≤ kind ∧ kind ≤ 7) :
    Calls Tryd.prog 8 #[.int .i64 kind, .slice a l.length c] w fun e w' => e = .returned (vv (foldV kind l)) ∧ Below w.heap.size w w' := by
  by_cases h1 : kind = 1
  · exact refFold_1 kind l a c w hl hg h1
  by_cases h2 : kind = 2
  · exact refFold_2 kind l a c w hl hg h2
  by_cases h7 : kind = 7
  · exact refFold_7 kind l a c w hl hg h7
  exact refFold_p kind l a c w hl hg (by omega)

attribute [local go_sem ↓] neqVal eqlVal
attribute [local go_sem] guardVal
theorem eqB_self (k n : Int) (s : ByteArray) : eqB k n s k n s = true := by simp [eqB]

set_option maxHeartbeats 2000000 in
theorem folds_walk (kind : Int) (l : List Tm) (a : Option Addr) (c : Nat) (w : World) (hl : TLies w a l) (hg : l.length ≤ 3518437208781 ∧ ∀ o ∈ l, Fits o.v) (hE : Ety w) :
    Calls Tryd.prog 3 #[.int .i64 kind, .slice a l.length c] w fun e w' => e = .returned (.bool true) ∧ Below w.heap.size w w' := by
  have HF : Hid (∀ W, Below w.heap.size w W → Calls Tryd.prog 5 #[.int .i64 kind, .slice a l.length c] W (FdPost kind l W)) := fun W hW => fold_any kind l a c W (hl.later hW) ⟨by omega, hg.2⟩
  have HV : Hid (∀ W, Below w.heap.size w W → Calls Tryd.prog 7 #[.slice a l.length c] W fun e w' => e = .returned (.bool (l.all tval)) ∧ Below W.heap.size W w') := fun W hW => lvalid_any l a c W (hl.later hW) ⟨by omega, hg.2⟩
  have HR : Hid ((1 ≤ kind ∧ kind ≤ 7) → ∀ W, Below w.heap.size w W → Calls Tryd.prog 8 #[.int .i64 kind, .slice a l.length c] W fun e w' => e = .returned (.agg #[.int .i64 (foldV kind l).k, .int .i64 (foldV kind l).n, .string (foldV kind l).s]) ∧ Below W.heap.size W w') := fun hk W hW => refFold_any kind l a c W (hl.later hW) hg hk
  have HE := hidMk hE
  clear hl hg hE
  go_enter Tryd.func3, Tryd.ntmps3
  go_wp2_with fail
  refine (HF.out _ (Below.refl _ _)).mono ?_
  rintro e w1 ⟨hb1, h1⟩
  have HB1 := hidMk hb1
  cases hok : okF kind l with
  | true =>
    rw [hok] at h1
    simp only [if_true] at h1
    subst h1
    have hk : (1 ≤ kind ∧ kind ≤ 7) ∧ l.all tval = true := by
      unfold okF at hok
      simp only [Bool.and_eq_true, decide_eq_true_eq] at hok
      exact hok
    have HR2 := hidMk (HR.out hk.1)
    have HV2 := HV
    rw [hk.2] at HV2
    have k1 : decide (kind < 1) = false := decide_eq_false (by omega)
    have k2 : decide (7 < kind) = false := decide_eq_false (by omega)
    clear hb1 HR HV HF hok hk
    generalize foldV kind l = y at *
    unfold vv
    have HQ := hidMk (eqB_self y.k y.n y.s)
    go_wp2_with fail
    refine (told_nil _).mono ?_
    rintro e w2 ⟨rfl, hw2⟩
    subst hw2
    go_wp2_with fail
    have HB2 : Hid (Below w.heap.size w (w1.alloc (.cells #[.int .i64 y.k, .int .i64 y.n, .string y.s] 25))) := HB1.out.alloc HB1.out.size _
    refine (HV2.out _ HB2.out).mono ?_
    rintro e w3 ⟨rfl, hb3⟩
    have q0 := cell_later (a := ⟨w1.heap.size, 0, none⟩) hb3 (v := .int .i64 y.k) (by go_simp)
    have q1 := cell_later (a := ⟨w1.heap.size, 1, none⟩) hb3 (v := .int .i64 y.n) (by go_simp)
    have q2 := cell_later (a := ⟨w1.heap.size, 2, none⟩) hb3 (v := .string y.s) (by go_simp)
    have HB3 : Hid (Below w.heap.size w w3) := HB2.out.trans (hb3.mono HB2.out.size)
    clear hb3 HB2 HB1
    go_wp2_with fail
    try go_quiet (fail)
    try go_wp2_with fail
    refine (HR2.out _ (by first | exact HB3.out | exact below_drewN HB3.out _)).mono ?_
    rintro e w4 ⟨rfl, hb4⟩
    replace q0 := cell_later hb4 q0
    replace q1 := cell_later hb4 q1
    replace q2 := cell_later hb4 q2
    have HB4 : Hid (Below w.heap.size w w4) := HB3.out.trans (hb4.mono HB3.out.size)
    clear hb4 HB3
    have hl4 : w1.heap.size < w4.heap.size := World.block_lt_of_cell? _ _ q0
    go_wp2_with fail
    try go_quiet (fail)
    try go_wp2_with fail
    go_ret
    exact ⟨ret_bool HQ.out, by first | exact HB4.out | exact HB4.out.alloc HB4.out.size _ | exact below_drewN (HB4.out.alloc HB4.out.size _) _ | exact below_drewN HB4.out _⟩
  | false =>
    rw [hok] at h1
    simp only [Bool.false_eq_true, if_false] at h1
    subst h1
    have hE1 : Ety w1 := HE.out.later hb1
    have HE1 := hidMk hE1
    clear hE1 hb1 HR HF
    have hz : eqB 0 0 ⟨#[]⟩ 0 0 ⟨#[]⟩ = true := eqB_self _ _ _
    unfold vv v0 errR
    go_wp2_with fail
    refine (told_errno 4 _ (HE1.out.later (bel1 _ _))).mono ?_
    rintro e w2 ⟨rfl, hb2⟩
    have q0 := cell_later (a := ⟨w1.heap.size, 0, none⟩) hb2 (v := .int .i64 0) (by go_simp)
    have q1 := cell_later (a := ⟨w1.heap.size, 1, none⟩) hb2 (v := .int .i64 0) (by go_simp)
    have q2 := cell_later (a := ⟨w1.heap.size, 2, none⟩) hb2 (v := .string ⟨#[]⟩) (by go_simp)
    have HB2 : Hid (Below w.heap.size w w2) := (HB1.out.alloc HB1.out.size _).trans (hb2.mono (by have := HB1.out.size; simp; omega))
    clear hb2 HB1 HE1
    go_wp2_with fail
    refine (HV.out _ HB2.out).mono ?_
    rintro e w3 ⟨rfl, hb3⟩
    replace q0 := cell_later hb3 q0
    replace q1 := cell_later hb3 q1
    replace q2 := cell_later hb3 q2
    have HB3 : Hid (Below w.heap.size w w3) := HB2.out.trans (hb3.mono HB2.out.size)
    have hl3 : w1.heap.size < w3.heap.size := World.block_lt_of_cell? _ _ q0
    clear hb3 HB2
    by_cases k1 : kind < 1
    · have k1' : decide (kind < 1) = true := decide_eq_true k1
      go_wp2_with fail
      go_ret
      exact ⟨rfl, HB3.out⟩
    · have k1' : decide (kind < 1) = false := decide_eq_false k1
      by_cases k2 : 7 < kind
      · have k2' : decide (7 < kind) = true := decide_eq_true k2
        go_wp2_with fail
        go_ret
        exact ⟨rfl, HB3.out⟩
      · have k2' : decide (7 < kind) = false := decide_eq_false k2
        have hv : l.all tval = false := by
          unfold okF at hok
          rw [decide_eq_true (show 1 ≤ kind by omega), decide_eq_true (show kind ≤ 7 by omega)] at hok
          simpa using hok
        rw [hv]
        go_wp2_with fail
        go_ret
        exact ⟨rfl, HB3.out⟩
end Go.Proofs.YtkeolfdjdckdaaaDoor
