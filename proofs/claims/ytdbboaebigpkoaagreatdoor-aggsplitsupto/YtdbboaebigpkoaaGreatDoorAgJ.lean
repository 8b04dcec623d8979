import Derived.Test.YtdbboaebigpkoaaGreatDoorAgI0
import Derived.Test.YtdbboaebigpkoaaGreatDoorVaR
namespace Go.Proofs.YtdbboaebigpkoaaGreatDoor
open Go.RowKit
set_option linter.unusedVariables false
set_option linter.unusedSimpArgs false
set_option maxRecDepth 100000

set_option maxHeartbeats 2000000 in
theorem lvalid_any (l : List Tm) (a : Option Addr) (c : Nat) (w : World) (hl : TLies w a l) (hg : l.length ≤ 4398046510977 ∧ ∀ o ∈ l, Fits o.v) :
    Calls Tryz.prog 6 #[.slice a l.length c] w fun e w' => e = .returned (.bool (l.all tval)) ∧ Below w.heap.size w w' := by
  have HL : Hid (TLies w a l) := hl
  have HG : Hid (∀ o ∈ l, Fits o.v) := hg.2
  have hm := hg.1
  clear hl hg
  go_enter Tryz.func6, Tryz.ntmps6
  go_wp2_with fail
  go_loopw [3] (fun i w' => ∃ k : Nat, k ≤ l.length ∧ i = .int .i64 k ∧ (l.take k).all tval = true ∧ Below w.heap.size w w') (fun i _ => l.length - (intOf i).toNat)
  case atStart => exact ⟨0, Nat.zero_le _, rfl, rfl, Below.refl _ _⟩
  case round =>
    obtain ⟨k, hk, rfl, hall, hb⟩ := hrel
    have HB : Hid (Below w.heap.size w wr) := hb
    have HA : Hid ((l.take k).all tval = true) := hall
    have hsz := hb.size
    clear hb hall
    by_cases hlt : k < l.length
    · obtain ⟨b, off, rfl, e0, e1, e2, e3⟩ := HL.out k hlt
      replace e0 := cell_later HB.out e0
      replace e1 := cell_later HB.out e1
      replace e2 := cell_later HB.out e2
      replace e3 := cell_later HB.out e3
      have hki : (k : Int) < (l.length : Int) := by omega
      have HF : Hid (Fits l[k].v) := HG.out _ (List.getElem_mem hlt)
      have HT' : Hid _ := take_all tval l k hlt
      have HF' : Hid (tval l[k] = false → l.all tval = false) := all_false tval l k hlt
      generalize l[k] = o at *
      go_wp2_with fail
      refine (refValidV o.v _ HF.out.2.2).mono ?_
      rintro e w2 ⟨rfl, hb2⟩
      have HB3 : Hid (Below w.heap.size w w2) := HB.out.trans (hb2.mono hsz)
      clear hb2
      cases hv : validV o.v with
      | true =>
        have hv' : tval o = true := hv
        rw [hv', HA.out] at HT'
        clear e0 e1 e2 e3
        go_wp2
        go_roundw
        case rel => exact ⟨k + 1, by omega, by go_num, HT'.out, HB3.out⟩
        case measure => simp [intOf]; omega
      | false =>
        have hv' : tval o = false := hv
        have HF2 : Hid (l.all tval = false) := HF'.out hv'
        clear e0 e1 e2 e3
        go_wp2
        go_ret
        exact ⟨ret_bool HF2.out.symm, HB3.out⟩
    · obtain rfl : k = l.length := by omega
      have HA' : Hid (l.all tval = true) := by have := HA.out; rw [List.take_of_length_le (Nat.le_refl _)] at this; exact this
      go_wp2
      go_ret
      exact ⟨ret_bool HA'.out.symm, HB.out⟩
set_option maxHeartbeats 2000000 in
theorem better_any (kind : Int) (a b : Tm) (w : World) (hk : kind = 3 ∨ kind = 4 ∨ kind = 5 ∨ kind = 6) :
    Calls Tryz.prog 12 #[.int .i64 kind, tmv a, tmv b] w fun e w' => e = .returned (.bool (bet kind a b)) ∧ Below w.heap.size w w' := by
  have HV : Hid (∀ (x y : V) W, Calls Tryz.prog 21 #[.agg #[.int .i64 x.k, .int .i64 x.n, .string x.s], .agg #[.int .i64 y.k, .int .i64 y.n, .string y.s]] W fun e w' => e = .returned (.bool (ltW x y)) ∧ Below W.heap.size W w') := fun x y W => before_any _ _ _ _ _ _ W
  unfold tmv
  rcases hk with rfl | rfl | rfl | rfl
  · have E : Hid (bet 3 a b = ltW b.v a.v) := by unfold Hid bet; simp
    go_enter Tryz.func12, Tryz.ntmps12
    go_wp2_with fail
    refine (HV.out b.v a.v _).mono ?_
    rintro e w1 ⟨rfl, hb1⟩
    have q0 := cell_later (a := ⟨w.heap.size, 0, none⟩) hb1 (v := .int .i64 a.t) (by go_simp)
    have q1 := cell_later (a := ⟨w.heap.size, 1, none⟩) hb1 (v := .int .i64 a.v.k) (by go_simp)
    have q2 := cell_later (a := ⟨w.heap.size, 2, none⟩) hb1 (v := .int .i64 a.v.n) (by go_simp)
    have q3 := cell_later (a := ⟨w.heap.size, 3, none⟩) hb1 (v := .string a.v.s) (by go_simp)
    have r0 := cell_later (a := ⟨w.heap.size + 1, 0, none⟩) hb1 (v := .int .i64 b.t) (by go_simp)
    have r1 := cell_later (a := ⟨w.heap.size + 1, 1, none⟩) hb1 (v := .int .i64 b.v.k) (by go_simp)
    have r2 := cell_later (a := ⟨w.heap.size + 1, 2, none⟩) hb1 (v := .int .i64 b.v.n) (by go_simp)
    have r3 := cell_later (a := ⟨w.heap.size + 1, 3, none⟩) hb1 (v := .string b.v.s) (by go_simp)
    have HB1 : Hid (Below w.heap.size w w1) := (bel2 w _ _).trans (hb1.mono (by simp; omega))
    clear hb1
    go_wp2_with fail
    refine (HV.out a.v b.v _).mono ?_
    rintro e w2 ⟨rfl, hb2⟩
    have HB2 : Hid (Below w.heap.size w w2) := HB1.out.trans (hb2.mono HB1.out.size)
    replace q0 := cell_later hb2 q0
    replace r0 := cell_later hb2 r0
    clear hb2 q1 q2 q3 r1 r2 r3 HB1
    generalize ltW b.v a.v = x1 at *
    generalize ltW a.v b.v = x2 at *
    go_wp2_with fail
    go_ret
    exact ⟨ret_bool E.out.symm, HB2.out⟩
  · have E : Hid (bet 4 a b = ltW a.v b.v) := by unfold Hid bet; simp
    go_enter Tryz.func12, Tryz.ntmps12
    go_wp2_with fail
    refine (HV.out b.v a.v _).mono ?_
    rintro e w1 ⟨rfl, hb1⟩
    have q0 := cell_later (a := ⟨w.heap.size, 0, none⟩) hb1 (v := .int .i64 a.t) (by go_simp)
    have q1 := cell_later (a := ⟨w.heap.size, 1, none⟩) hb1 (v := .int .i64 a.v.k) (by go_simp)
    have q2 := cell_later (a := ⟨w.heap.size, 2, none⟩) hb1 (v := .int .i64 a.v.n) (by go_simp)
    have q3 := cell_later (a := ⟨w.heap.size, 3, none⟩) hb1 (v := .string a.v.s) (by go_simp)
    have r0 := cell_later (a := ⟨w.heap.size + 1, 0, none⟩) hb1 (v := .int .i64 b.t) (by go_simp)
    have r1 := cell_later (a := ⟨w.heap.size + 1, 1, none⟩) hb1 (v := .int .i64 b.v.k) (by go_simp)
    have r2 := cell_later (a := ⟨w.heap.size + 1, 2, none⟩) hb1 (v := .int .i64 b.v.n) (by go_simp)
    have r3 := cell_later (a := ⟨w.heap.size + 1, 3, none⟩) hb1 (v := .string b.v.s) (by go_simp)
    have HB1 : Hid (Below w.heap.size w w1) := (bel2 w _ _).trans (hb1.mono (by simp; omega))
    clear hb1
    go_wp2_with fail
    refine (HV.out a.v b.v _).mono ?_
    rintro e w2 ⟨rfl, hb2⟩
    have HB2 : Hid (Below w.heap.size w w2) := HB1.out.trans (hb2.mono HB1.out.size)
    replace q0 := cell_later hb2 q0
    replace r0 := cell_later hb2 r0
    clear hb2 q1 q2 q3 r1 r2 r3 HB1
    generalize ltW b.v a.v = x1 at *
    generalize ltW a.v b.v = x2 at *
    go_wp2_with fail
    go_ret
    exact ⟨ret_bool E.out.symm, HB2.out⟩
  · have E : Hid (bet 5 a b = (decide (b.t < a.t) || (decide (b.t = a.t) && ltW b.v a.v))) := by unfold Hid bet; simp
    go_enter Tryz.func12, Tryz.ntmps12
    go_wp2_with fail
    refine (HV.out b.v a.v _).mono ?_
    rintro e w1 ⟨rfl, hb1⟩
    have q0 := cell_later (a := ⟨w.heap.size, 0, none⟩) hb1 (v := .int .i64 a.t) (by go_simp)
    have q1 := cell_later (a := ⟨w.heap.size, 1, none⟩) hb1 (v := .int .i64 a.v.k) (by go_simp)
    have q2 := cell_later (a := ⟨w.heap.size, 2, none⟩) hb1 (v := .int .i64 a.v.n) (by go_simp)
    have q3 := cell_later (a := ⟨w.heap.size, 3, none⟩) hb1 (v := .string a.v.s) (by go_simp)
    have r0 := cell_later (a := ⟨w.heap.size + 1, 0, none⟩) hb1 (v := .int .i64 b.t) (by go_simp)
    have r1 := cell_later (a := ⟨w.heap.size + 1, 1, none⟩) hb1 (v := .int .i64 b.v.k) (by go_simp)
    have r2 := cell_later (a := ⟨w.heap.size + 1, 2, none⟩) hb1 (v := .int .i64 b.v.n) (by go_simp)
    have r3 := cell_later (a := ⟨w.heap.size + 1, 3, none⟩) hb1 (v := .string b.v.s) (by go_simp)
    have HB1 : Hid (Below w.heap.size w w1) := (bel2 w _ _).trans (hb1.mono (by simp; omega))
    clear hb1
    go_wp2_with fail
    refine (HV.out a.v b.v _).mono ?_
    rintro e w2 ⟨rfl, hb2⟩
    have HB2 : Hid (Below w.heap.size w w2) := HB1.out.trans (hb2.mono HB1.out.size)
    replace q0 := cell_later hb2 q0
    replace r0 := cell_later hb2 r0
    clear hb2 q1 q2 q3 r1 r2 r3 HB1
    generalize ltW b.v a.v = x1 at *
    generalize ltW a.v b.v = x2 at *
    by_cases t1 : b.t < a.t
    · have t1' : decide (b.t < a.t) = true := decide_eq_true t1
      go_wp2_with fail
      try go_quiet (fail)
      try go_wp2_with fail
      go_ret
      exact ⟨ret_bool (by rw [E.out]; simp [t1]), by first | exact HB2.out | exact below_drewN HB2.out _⟩
    · have t1' : decide (b.t < a.t) = false := decide_eq_false t1
      by_cases t2 : b.t = a.t
      · have t2' : (b.t == a.t) = true := by simpa using t2
        have t3' : (a.t == b.t) = true := by simpa using t2.symm
        go_wp2_with fail
        try go_quiet (fail)
        try go_wp2_with fail
        go_ret
        exact ⟨ret_bool (by rw [E.out]; simp [t2]), by first | exact HB2.out | exact below_drewN HB2.out _⟩
      · have t2' : (b.t == a.t) = false := by simpa using t2
        have t3' : (a.t == b.t) = false := by simpa using fun e => t2 e.symm
        go_wp2_with fail
        try go_quiet (fail)
        try go_wp2_with fail
        go_ret
        exact ⟨ret_bool (by rw [E.out]; simp [t1, t2]), by first | exact HB2.out | exact below_drewN HB2.out _⟩
  · have E : Hid (bet 6 a b = (decide (a.t < b.t) || (decide (a.t = b.t) && ltW a.v b.v))) := by unfold Hid bet; simp
    go_enter Tryz.func12, Tryz.ntmps12
    go_wp2_with fail
    refine (HV.out b.v a.v _).mono ?_
    rintro e w1 ⟨rfl, hb1⟩
    have q0 := cell_later (a := ⟨w.heap.size, 0, none⟩) hb1 (v := .int .i64 a.t) (by go_simp)
    have q1 := cell_later (a := ⟨w.heap.size, 1, none⟩) hb1 (v := .int .i64 a.v.k) (by go_simp)
    have q2 := cell_later (a := ⟨w.heap.size, 2, none⟩) hb1 (v := .int .i64 a.v.n) (by go_simp)
    have q3 := cell_later (a := ⟨w.heap.size, 3, none⟩) hb1 (v := .string a.v.s) (by go_simp)
    have r0 := cell_later (a := ⟨w.heap.size + 1, 0, none⟩) hb1 (v := .int .i64 b.t) (by go_simp)
    have r1 := cell_later (a := ⟨w.heap.size + 1, 1, none⟩) hb1 (v := .int .i64 b.v.k) (by go_simp)
    have r2 := cell_later (a := ⟨w.heap.size + 1, 2, none⟩) hb1 (v := .int .i64 b.v.n) (by go_simp)
    have r3 := cell_later (a := ⟨w.heap.size + 1, 3, none⟩) hb1 (v := .string b.v.s) (by go_simp)
    have HB1 : Hid (Below w.heap.size w w1) := (bel2 w _ _).trans (hb1.mono (by simp; omega))
    clear hb1
    go_wp2_with fail
    refine (HV.out a.v b.v _).mono ?_
    rintro e w2 ⟨rfl, hb2⟩
    have HB2 : Hid (Below w.heap.size w w2) := HB1.out.trans (hb2.mono HB1.out.size)
    replace q0 := cell_later hb2 q0
    replace r0 := cell_later hb2 r0
    clear hb2 q1 q2 q3 r1 r2 r3 HB1
    generalize ltW b.v a.v = x1 at *
    generalize ltW a.v b.v = x2 at *
    by_cases t1 : a.t < b.t
    · have t1' : decide (a.t < b.t) = true := decide_eq_true t1
      go_wp2_with fail
      try go_quiet (fail)
      try go_wp2_with fail
      go_ret
      exact ⟨ret_bool (by rw [E.out]; simp [t1]), by first | exact HB2.out | exact below_drewN HB2.out _⟩
    · have t1' : decide (a.t < b.t) = false := decide_eq_false t1
      by_cases t2 : a.t = b.t
      · have t2' : (a.t == b.t) = true := by simpa using t2
        have t3' : (b.t == a.t) = true := by simpa using t2.symm
        go_wp2_with fail
        try go_quiet (fail)
        try go_wp2_with fail
        go_ret
        exact ⟨ret_bool (by rw [E.out]; simp [t2]), by first | exact HB2.out | exact below_drewN HB2.out _⟩
      · have t2' : (a.t == b.t) = false := by simpa using t2
        have t3' : (b.t == a.t) = false := by simpa using fun e => t2 e.symm
        go_wp2_with fail
        try go_quiet (fail)
        try go_wp2_with fail
        go_ret
        exact ⟨ret_bool (by rw [E.out]; simp [t1, t2]), by first | exact HB2.out | exact below_drewN HB2.out _⟩
end Go.Proofs.YtdbboaebigpkoaaGreatDoor
