import Derived.Test.YtplaplhmjpfbjaaGreatDoorOd1
import Derived.Test.YtplaplhmjpfbjaaGreatDoorOe1
import Derived.Test.YtplaplhmjpfbjaaGreatDoorTd1
import Derived.Test.YtplaplhmjpfbjaaGreatDoorChA
import Derived.Test.YtplaplhmjpfbjaaGreatDoorXf1
import Derived.Test.YtplaplhmjpfbjaaGreatDoorDh1
import Derived.WalkKit
import Derived.ProofKit
import Derived.OpenShut
import Derived.ShutString
import Derived.ChangeOld
import Derived.ChangeSlices
import Derived.Below
import Derived.LaidSub
import Derived.LaidHandle
import Derived.LaidLaws
import Derived.Stop.LaidErr
import Derived.SizedLaws
import Derived.Deep.DeepHandedRow
import Derived.Deep.DeepWitnessRowRef
import Derived.Lib.LaidTab
import Derived.Lib.SmallJoins
import Derived.Deep.Slices
import Derived.Deep.Strs
namespace Go.Proofs.YtplaplhmjpfbjaaGreatDoor.Oo
open Go.RowKit
set_option linter.unusedVariables false
set_option linter.unusedSimpArgs false
set_option maxRecDepth 100000

/-- '==' of two columns. -/
def eqC (a : ByteArray) (k : Int) (a' : ByteArray) (k' : Int) : Bool := a.toList == a'.toList && k == k'
theorem eqC_in (a : ByteArray) (k : Int) (a' : ByteArray) (k' : Int) (w : World) : (Op.equalIn 10000 43 (.agg #[.string a, .int .i64 k]) (.agg #[.string a', .int .i64 k'])).run Tryz.prog w = .ok (eqC a k a' k') w := by
  have u24 := Tryz.underlying41
  have u9 := Tryz.underlying9
  have a24 := Tryz.isAgg41
  have z24 := Tryz.sizeOf41
  have a9 := Tryz.isAgg9
  have z9 := Tryz.sizeOf9
  have hS : Tryz.prog.underlying 43 = some (.struct (Tryz.prog.fieldsOf 43)) := by kernel_rfl
  rw [show (10000 : Nat) = 9999 + 1 from rfl, run_equalIn_agg w 9999 43 _ _ hS (by kernel_rfl)]
  simp only [Program.fieldsOf, Tryz.underlying43]
  go_simp
  unfold eqC
  by_cases h1 : a.toList = a'.toList <;> by_cases h2 : k = k' <;> simp [h1, h2]
theorem guardC : Tryz.prog.eqGuardType Tryz.prog.depth 43 = false := by kernel_rfl
theorem neqlC (a : ByteArray) (k : Int) (a' : ByteArray) (k' : Int) (w : World) : (binOp .neq 43 (.agg #[.string a, .int .i64 k]) (.agg #[.string a', .int .i64 k'])).run Tryz.prog w = .ok (.bool (!eqC a k a' k')) w := by
  rw [run_neq_struct, eqC_in]; rfl
theorem eqC_refl (a : ByteArray) (k : Int) : eqC a k a k = true := by unfold eqC; simp
attribute [local go_sem ↓] neqlC
attribute [local go_sem] guardC
theorem mapE_ne {α β : Type} {f : α → Except Nat β} (hf : ∀ x n, f x = .error n → n ≠ 0) : ∀ (l : List α) (n : Nat), mapE f l = .error n → n ≠ 0
  | [], n, h => by simp only [mapE] at h; cases h
  | x :: l, n, h => by
    simp only [mapE] at h
    cases hx : f x with
    | error m => rw [hx] at h; cases h; exact hf x _ hx
    | ok b =>
      rw [hx] at h
      simp only at h
      cases hl : mapE f l with
      | error m => rw [hl] at h; cases h; exact mapE_ne hf l _ hl
      | ok bs => rw [hl] at h; cases h
theorem nameR_ne {r : Except Nat Int} {s : ByteArray} (hr : ∀ n, r = .error n → n ≠ 0) (n : Nat) (h : nameR r s = .error n) : n ≠ 0 := by
  cases r with
  | error m => cases h; exact hr _ rfl
  | ok k => cases h
theorem foldR_ne (c : List Co) (a : Ag) (n : Nat) (h : foldR c a = .error n) : n ≠ 0 := by
  unfold foldR at h
  repeat' split at h
  all_goals first | (cases h; done) | (cases h; decide)
theorem out_ne {ck : ByteArray → Except Nat Int} (hck : ∀ s n, ck s = .error n → n ≠ 0) (o : OpD) (n : Nat) (h : outO ck o = .error n) : n ≠ 0 := by
  unfold outO at h
  split at h
  · cases hr : rawO ck o with
    | error m =>
      rw [hr] at h
      cases h
      unfold rawO at hr
      split at hr
      · unfold whereO at hr
        split at hr
        · rename_i s heq
          cases hs : ck s with
          | error x => simp only [hs] at hr; cases hr; exact hck _ _ hs
          | ok kd =>
            simp only [hs] at hr
            split at hr
            · cases hr
            · cases hr; decide
        · cases hr; decide
      split at hr
      · unfold mapO at hr
        split at hr
        · exact mapE_ne (fun q n hq => nameR_ne (fun n h => hck _ n h) n hq) _ _ hr
        · cases hr; decide
      split at hr
      · unfold windowO at hr
        split at hr
        · cases hm : mapE (fun q : Ag × ByteArray => nameR (foldR o.c q.1) q.2) (o.ag.zip o.nm) with
          | error x => rw [hm] at hr; cases hr; exact mapE_ne (fun q n hq => nameR_ne (fun n h => foldR_ne _ _ n h) n hq) _ _ hm
          | ok l => rw [hm] at hr; cases hr
        · cases hr; decide
      split at hr
      · unfold joinO at hr
        split at hr
        · split at hr
          · cases hr
          · cases hr; decide
        · cases hr; decide
      · cases hr
    | ok l =>
      rw [hr] at h
      simp only at h
      unfold namedO at h
      split at h
      · cases h; decide
      · split at h
        · cases h
        · cases h; decide
  · cases h; decide
end Go.Proofs.YtplaplhmjpfbjaaGreatDoor.Oo
namespace Go.Proofs.YtplaplhmjpfbjaaGreatDoor.Oo
open Go.RowKit
set_option linter.unusedVariables false
set_option linter.unusedSimpArgs false
set_option maxRecDepth 100000
attribute [local go_sem ↓] neqlC
attribute [local go_sem] guardC

set_option maxHeartbeats 8000000 in
/-- The law's walk, over what Out, the document's Out and New answer. -/
theorem outs_walk (o : OpD) (p : OpA) (lo hi : Int) (w : World) (R : Except Nat (List Co)) (hne : ∀ n, R = .error n → n ≠ 0) (hlm : ∀ l, R = .ok l → l.length ≤ 8) (he : Td.Ety w)
    (hO : ∀ W, Below w.heap.size w W → Calls Tryz.prog 4 #[.agg (opCs o p)] W (OutP W R)) (hD : ∀ W, Below w.heap.size w W → Calls Tryz.prog 5 #[.agg (opCs o p)] W (DocP W R)) (hN : ∀ W, Below w.heap.size w W → Calls Tryz.prog 7 #[.agg (opCs o p), .int .i64 lo, .int .i64 hi] W (NewP W R lo hi)) :
    Calls Tryz.prog 3 #[.agg (opCs o p), .int .i64 lo, .int .i64 hi] w fun e w' => e = .returned (.bool true) ∧ Below w.heap.size w w' := by
  obtain ⟨W1, hW1⟩ : ∃ W1, W1 = w.alloc (.cells (opCs o p) 29) := ⟨_, rfl⟩
  have HA : Hid (Below w.heap.size w W1) := by rw [hW1]; exact xbel1 _ _
  have HOw : Hid (Own W1 w.heap.size 29 12 (opCs o p).toList) := by rw [hW1]; exact Own.new w 29 12 (opCs o p) rfl
  have HO := hidO hO
  have HD := hidO hD
  have HN := hidO hN
  have HEt := hidO he
  clear hO hD hN he
  obtain ⟨k, ex, nm, c, r, ks, os, wk, ws, wt, ag, ou⟩ := o
  obtain ⟨ea, ec, na, nc, ca, cc, ra, rc, ka, kc, oa, oc, ga, gc⟩ := p
  unfold opCs at *
  simp only at *
  cases R with
  | error n =>
    have hn0 := hne n rfl
    have hnb : ((n : Int) != 0) = true := by simp; omega
    have hni : ¬ (n : Int) = 0 := by omega
    clear hne hlm
    go_enter Tryz.func3, Tryz.ntmps3
    go_wp2_with fail
    rw [← hW1]
    refine (HO.out _ HA.out).mono ?_
    rintro e w1 ⟨hb1, rfl⟩
    have HB1 : Hid (Below w.heap.size w w1) := HA.out.trans (hb1.mono HA.out.size)
    have HO1 := hidO (HOw.out.later hb1)
    have d0 : w1.cell? ⟨w.heap.size, 0, none⟩ = some (.int .i64 k) := HO1.out.cell 0 (by decide)
    have d1 : w1.cell? ⟨w.heap.size, 1, none⟩ = some (.slice ea ex.length ec) := HO1.out.cell 1 (by decide)
    have d2 : w1.cell? ⟨w.heap.size, 2, none⟩ = some (.slice na nm.length nc) := HO1.out.cell 2 (by decide)
    have d3 : w1.cell? ⟨w.heap.size, 3, none⟩ = some (.slice ca c.length cc) := HO1.out.cell 3 (by decide)
    have d4 : w1.cell? ⟨w.heap.size, 4, none⟩ = some (.slice ra r.length rc) := HO1.out.cell 4 (by decide)
    have d5 : w1.cell? ⟨w.heap.size, 5, none⟩ = some (.slice ka ks.length kc) := HO1.out.cell 5 (by decide)
    have d6 : w1.cell? ⟨w.heap.size, 6, none⟩ = some (.slice oa os.length oc) := HO1.out.cell 6 (by decide)
    have d7 : w1.cell? ⟨w.heap.size, 7, none⟩ = some (.int .i64 wk) := HO1.out.cell 7 (by decide)
    have d8 : w1.cell? ⟨w.heap.size, 8, none⟩ = some (.int .i64 ws) := HO1.out.cell 8 (by decide)
    have d9 : w1.cell? ⟨w.heap.size, 9, none⟩ = some (.int .i64 wt) := HO1.out.cell 9 (by decide)
    have d10 : w1.cell? ⟨w.heap.size, 10, none⟩ = some (.slice ga ag.length gc) := HO1.out.cell 10 (by decide)
    have d11 : w1.cell? ⟨w.heap.size, 11, none⟩ = some (.bool ou) := HO1.out.cell 11 (by decide)
    have hl1 : w.heap.size < w1.heap.size := HO1.out.lt
    clear hb1 hW1
    go_wp2_with fail
    refine (HD.out _ HB1.out).mono ?_
    rintro e w2 ⟨hb2, rfl⟩
    have HB2 : Hid (Below w.heap.size w w2) := HB1.out.trans (hb2.mono HB1.out.size)
    have HO2 := hidO (HO1.out.later hb2)
    clear hb2 d0 d1 d2 d3 d4 d5 d6 d7 d8 d9 d10 d11
    go_wp2_with fail
    refine (Td.told_errno n _ (Td.Ety.later HEt.out HB2.out)).mono ?_
    rintro e w3 ⟨rfl, hb3⟩
    have HB3 : Hid (Below w.heap.size w w3) := HB2.out.trans (hb3.mono HB2.out.size)
    have HO3 := hidO (HO2.out.later hb3)
    have f0 : w3.cell? ⟨w.heap.size, 0, none⟩ = some (.int .i64 k) := HO3.out.cell 0 (by decide)
    have f1 : w3.cell? ⟨w.heap.size, 1, none⟩ = some (.slice ea ex.length ec) := HO3.out.cell 1 (by decide)
    have f2 : w3.cell? ⟨w.heap.size, 2, none⟩ = some (.slice na nm.length nc) := HO3.out.cell 2 (by decide)
    have f3 : w3.cell? ⟨w.heap.size, 3, none⟩ = some (.slice ca c.length cc) := HO3.out.cell 3 (by decide)
    have f4 : w3.cell? ⟨w.heap.size, 4, none⟩ = some (.slice ra r.length rc) := HO3.out.cell 4 (by decide)
    have f5 : w3.cell? ⟨w.heap.size, 5, none⟩ = some (.slice ka ks.length kc) := HO3.out.cell 5 (by decide)
    have f6 : w3.cell? ⟨w.heap.size, 6, none⟩ = some (.slice oa os.length oc) := HO3.out.cell 6 (by decide)
    have f7 : w3.cell? ⟨w.heap.size, 7, none⟩ = some (.int .i64 wk) := HO3.out.cell 7 (by decide)
    have f8 : w3.cell? ⟨w.heap.size, 8, none⟩ = some (.int .i64 ws) := HO3.out.cell 8 (by decide)
    have f9 : w3.cell? ⟨w.heap.size, 9, none⟩ = some (.int .i64 wt) := HO3.out.cell 9 (by decide)
    have f10 : w3.cell? ⟨w.heap.size, 10, none⟩ = some (.slice ga ag.length gc) := HO3.out.cell 10 (by decide)
    have f11 : w3.cell? ⟨w.heap.size, 11, none⟩ = some (.bool ou) := HO3.out.cell 11 (by decide)
    have hl3 : w.heap.size < w3.heap.size := HO3.out.lt
    clear hb3
    go_wp2_with fail
    refine (HN.out _ HB3.out).mono ?_
    rintro e w4 ⟨hb4, rfl⟩
    have HB4 : Hid (Below w.heap.size w w4) := HB3.out.trans (hb4.mono HB3.out.size)
    clear hb4 f0 f1 f2 f3 f4 f5 f6 f7 f8 f9 f10 f11
    go_wp2_with fail
    refine (Td.told_errno n _ (Td.Ety.later HEt.out HB4.out)).mono ?_
    rintro e w5 ⟨rfl, hb5⟩
    have HB5 : Hid (Below w.heap.size w w5) := HB4.out.trans (hb5.mono HB4.out.size)
    clear hb5
    go_wp2_with fail
    go_ret
    exact ⟨by simp, HB5.out⟩
  | ok l =>
    have hl8 := hlm l rfl
    clear hne hlm
    by_cases hlh : 0 ≤ lo ∧ lo ≤ hi ∧ hi ≤ 32
    · have n1 : ¬ lo < 0 := by omega
      have n2 : ¬ (32 : Int) < hi := by omega
      have n3 : ¬ hi < lo := by omega
      have HLH := hidO hlh
      clear hlh
      go_enter Tryz.func3, Tryz.ntmps3
      go_wp2_with fail
      rw [← hW1]
      refine (HO.out _ HA.out).mono ?_
      rintro e w1 ⟨hb1, a1, c1, rfl, hc1⟩
      have HC1 := hidO hc1
      clear hc1
      have HB1 : Hid (Below w.heap.size w w1) := HA.out.trans (hb1.mono HA.out.size)
      have HO1 := hidO (HOw.out.later hb1)
      have d0 : w1.cell? ⟨w.heap.size, 0, none⟩ = some (.int .i64 k) := HO1.out.cell 0 (by decide)
      have d1 : w1.cell? ⟨w.heap.size, 1, none⟩ = some (.slice ea ex.length ec) := HO1.out.cell 1 (by decide)
      have d2 : w1.cell? ⟨w.heap.size, 2, none⟩ = some (.slice na nm.length nc) := HO1.out.cell 2 (by decide)
      have d3 : w1.cell? ⟨w.heap.size, 3, none⟩ = some (.slice ca c.length cc) := HO1.out.cell 3 (by decide)
      have d4 : w1.cell? ⟨w.heap.size, 4, none⟩ = some (.slice ra r.length rc) := HO1.out.cell 4 (by decide)
      have d5 : w1.cell? ⟨w.heap.size, 5, none⟩ = some (.slice ka ks.length kc) := HO1.out.cell 5 (by decide)
      have d6 : w1.cell? ⟨w.heap.size, 6, none⟩ = some (.slice oa os.length oc) := HO1.out.cell 6 (by decide)
      have d7 : w1.cell? ⟨w.heap.size, 7, none⟩ = some (.int .i64 wk) := HO1.out.cell 7 (by decide)
      have d8 : w1.cell? ⟨w.heap.size, 8, none⟩ = some (.int .i64 ws) := HO1.out.cell 8 (by decide)
      have d9 : w1.cell? ⟨w.heap.size, 9, none⟩ = some (.int .i64 wt) := HO1.out.cell 9 (by decide)
      have d10 : w1.cell? ⟨w.heap.size, 10, none⟩ = some (.slice ga ag.length gc) := HO1.out.cell 10 (by decide)
      have d11 : w1.cell? ⟨w.heap.size, 11, none⟩ = some (.bool ou) := HO1.out.cell 11 (by decide)
      have hl1 : w.heap.size < w1.heap.size := HO1.out.lt
      clear hb1 hW1
      go_wp2_with fail
      refine (HD.out _ HB1.out).mono ?_
      rintro e w2 ⟨hb2, a2, c2, rfl, hc2⟩
      have HB2 : Hid (Below w.heap.size w w2) := HB1.out.trans (hb2.mono HB1.out.size)
      have HO2 := hidO (HO1.out.later hb2)
      have HC2 := hidO hc2
      have HC12 := hidO (HC1.out.later hb2)
      clear hb2 hc2 d0 d1 d2 d3 d4 d5 d6 d7 d8 d9 d10 d11
      go_wp2_with fail
      refine (Td.told_nil _).mono ?_
      rintro e w3 ⟨rfl, hw3⟩
      have hw3' := hw3.symm
      subst hw3'
      have f0 : w2.cell? ⟨w.heap.size, 0, none⟩ = some (.int .i64 k) := HO2.out.cell 0 (by decide)
      have f1 : w2.cell? ⟨w.heap.size, 1, none⟩ = some (.slice ea ex.length ec) := HO2.out.cell 1 (by decide)
      have f2 : w2.cell? ⟨w.heap.size, 2, none⟩ = some (.slice na nm.length nc) := HO2.out.cell 2 (by decide)
      have f3 : w2.cell? ⟨w.heap.size, 3, none⟩ = some (.slice ca c.length cc) := HO2.out.cell 3 (by decide)
      have f4 : w2.cell? ⟨w.heap.size, 4, none⟩ = some (.slice ra r.length rc) := HO2.out.cell 4 (by decide)
      have f5 : w2.cell? ⟨w.heap.size, 5, none⟩ = some (.slice ka ks.length kc) := HO2.out.cell 5 (by decide)
      have f6 : w2.cell? ⟨w.heap.size, 6, none⟩ = some (.slice oa os.length oc) := HO2.out.cell 6 (by decide)
      have f7 : w2.cell? ⟨w.heap.size, 7, none⟩ = some (.int .i64 wk) := HO2.out.cell 7 (by decide)
      have f8 : w2.cell? ⟨w.heap.size, 8, none⟩ = some (.int .i64 ws) := HO2.out.cell 8 (by decide)
      have f9 : w2.cell? ⟨w.heap.size, 9, none⟩ = some (.int .i64 wt) := HO2.out.cell 9 (by decide)
      have f10 : w2.cell? ⟨w.heap.size, 10, none⟩ = some (.slice ga ag.length gc) := HO2.out.cell 10 (by decide)
      have f11 : w2.cell? ⟨w.heap.size, 11, none⟩ = some (.bool ou) := HO2.out.cell 11 (by decide)
      have hl3 : w.heap.size < w2.heap.size := HO2.out.lt
      go_wp2_with fail
      refine (HN.out _ HB2.out).mono ?_
      rintro e w4 ⟨hb4, hr4⟩
      have HB4 : Hid (Below w.heap.size w w4) := HB2.out.trans (hb4.mono HB2.out.size)
      have HC4 := hidO (HC12.out.later hb4)
      have HD4 := hidO (HC2.out.later hb4)
      simp only [if_pos HLH.out] at hr4
      obtain ⟨a4, rfl⟩ := hr4
      clear hb4 f0 f1 f2 f3 f4 f5 f6 f7 f8 f9 f10 f11
      go_wp2_with fail
      refine (Td.told_nil _).mono ?_
      rintro e w5 ⟨rfl, hw5⟩
      have hw5' := hw5.symm
      subst hw5'
      have HB5 := HB4
      have HC5 := HC4
      have HD5 := HD4
      go_wp2_with fail
      go_loopw [15] (fun i w' => ∃ (j : Nat), j ≤ l.length ∧ i = .int .i64 j ∧ Below w4.heap.size w4 w') (fun i _ => l.length - (intOf i).toNat)
      case atStart => exact ⟨0, Nat.zero_le _, rfl, Below.refl _ _⟩
      case round =>
        obtain ⟨j, hj, rfl, hb⟩ := hrel
        have HBr := hidO hb
        clear hb
        by_cases hlt : j < l.length
        · have hji : (j : Int) < (l.length : Int) := by omega
          obtain ⟨b1, o1, rfl, e1, e1'⟩ := (HC5.out.later HBr.out) j hlt
          obtain ⟨b2, o2, rfl, e2, e2'⟩ := (HD5.out.later HBr.out) j hlt
          have hq := eqC_refl l[j].nm l[j].k
          have l1 : b1 < wr.heap.size := World.block_lt_of_cell? _ _ e1
          have l2 : b2 < wr.heap.size := World.block_lt_of_cell? _ _ e2
          generalize l[j] = x at *
          obtain ⟨xn, xk⟩ := x
          simp only at e1 e1' e2 e2' hq
          go_wp2_with fail
          go_quiet (fail)
          go_wp2_with fail
          exact ⟨⟨j + 1, by omega, by go_num, by first | exact HBr.out | exact HBr.out.drew | exact belDrew HBr.out⟩, by simp [intOf]; omega⟩
        · obtain rfl : j = l.length := by omega
          have hnl : ¬ (l.length : Int) < (l.length : Int) := by omega
          have HF : Hid (Below w.heap.size w wr) := HB5.out.trans (HBr.out.mono HB5.out.size)
          clear hlt hj
          go_wp2_with fail
          go_ret
          exact ⟨by simp, HF.out⟩
    · have HLH := hidO hlh
      go_enter Tryz.func3, Tryz.ntmps3
      go_wp2_with fail
      rw [← hW1]
      refine (HO.out _ HA.out).mono ?_
      rintro e w1 ⟨hb1, a1, c1, rfl, hc1⟩
      have HC1 := hidO hc1
      clear hc1
      have HB1 : Hid (Below w.heap.size w w1) := HA.out.trans (hb1.mono HA.out.size)
      have HO1 := hidO (HOw.out.later hb1)
      have d0 : w1.cell? ⟨w.heap.size, 0, none⟩ = some (.int .i64 k) := HO1.out.cell 0 (by decide)
      have d1 : w1.cell? ⟨w.heap.size, 1, none⟩ = some (.slice ea ex.length ec) := HO1.out.cell 1 (by decide)
      have d2 : w1.cell? ⟨w.heap.size, 2, none⟩ = some (.slice na nm.length nc) := HO1.out.cell 2 (by decide)
      have d3 : w1.cell? ⟨w.heap.size, 3, none⟩ = some (.slice ca c.length cc) := HO1.out.cell 3 (by decide)
      have d4 : w1.cell? ⟨w.heap.size, 4, none⟩ = some (.slice ra r.length rc) := HO1.out.cell 4 (by decide)
      have d5 : w1.cell? ⟨w.heap.size, 5, none⟩ = some (.slice ka ks.length kc) := HO1.out.cell 5 (by decide)
      have d6 : w1.cell? ⟨w.heap.size, 6, none⟩ = some (.slice oa os.length oc) := HO1.out.cell 6 (by decide)
      have d7 : w1.cell? ⟨w.heap.size, 7, none⟩ = some (.int .i64 wk) := HO1.out.cell 7 (by decide)
      have d8 : w1.cell? ⟨w.heap.size, 8, none⟩ = some (.int .i64 ws) := HO1.out.cell 8 (by decide)
      have d9 : w1.cell? ⟨w.heap.size, 9, none⟩ = some (.int .i64 wt) := HO1.out.cell 9 (by decide)
      have d10 : w1.cell? ⟨w.heap.size, 10, none⟩ = some (.slice ga ag.length gc) := HO1.out.cell 10 (by decide)
      have d11 : w1.cell? ⟨w.heap.size, 11, none⟩ = some (.bool ou) := HO1.out.cell 11 (by decide)
      have hl1 : w.heap.size < w1.heap.size := HO1.out.lt
      clear hb1 hW1
      go_wp2_with fail
      refine (HD.out _ HB1.out).mono ?_
      rintro e w2 ⟨hb2, a2, c2, rfl, hc2⟩
      have HB2 : Hid (Below w.heap.size w w2) := HB1.out.trans (hb2.mono HB1.out.size)
      have HO2 := hidO (HO1.out.later hb2)
      have HC2 := hidO hc2
      have HC12 := hidO (HC1.out.later hb2)
      clear hb2 hc2 d0 d1 d2 d3 d4 d5 d6 d7 d8 d9 d10 d11
      go_wp2_with fail
      refine (Td.told_nil _).mono ?_
      rintro e w3 ⟨rfl, hw3⟩
      have hw3' := hw3.symm
      subst hw3'
      have f0 : w2.cell? ⟨w.heap.size, 0, none⟩ = some (.int .i64 k) := HO2.out.cell 0 (by decide)
      have f1 : w2.cell? ⟨w.heap.size, 1, none⟩ = some (.slice ea ex.length ec) := HO2.out.cell 1 (by decide)
      have f2 : w2.cell? ⟨w.heap.size, 2, none⟩ = some (.slice na nm.length nc) := HO2.out.cell 2 (by decide)
      have f3 : w2.cell? ⟨w.heap.size, 3, none⟩ = some (.slice ca c.length cc) := HO2.out.cell 3 (by decide)
      have f4 : w2.cell? ⟨w.heap.size, 4, none⟩ = some (.slice ra r.length rc) := HO2.out.cell 4 (by decide)
      have f5 : w2.cell? ⟨w.heap.size, 5, none⟩ = some (.slice ka ks.length kc) := HO2.out.cell 5 (by decide)
      have f6 : w2.cell? ⟨w.heap.size, 6, none⟩ = some (.slice oa os.length oc) := HO2.out.cell 6 (by decide)
      have f7 : w2.cell? ⟨w.heap.size, 7, none⟩ = some (.int .i64 wk) := HO2.out.cell 7 (by decide)
      have f8 : w2.cell? ⟨w.heap.size, 8, none⟩ = some (.int .i64 ws) := HO2.out.cell 8 (by decide)
      have f9 : w2.cell? ⟨w.heap.size, 9, none⟩ = some (.int .i64 wt) := HO2.out.cell 9 (by decide)
      have f10 : w2.cell? ⟨w.heap.size, 10, none⟩ = some (.slice ga ag.length gc) := HO2.out.cell 10 (by decide)
      have f11 : w2.cell? ⟨w.heap.size, 11, none⟩ = some (.bool ou) := HO2.out.cell 11 (by decide)
      have hl3 : w.heap.size < w2.heap.size := HO2.out.lt
      go_wp2_with fail
      refine (HN.out _ HB2.out).mono ?_
      rintro e w4 ⟨hb4, hr4⟩
      have HB4 : Hid (Below w.heap.size w w4) := HB2.out.trans (hb4.mono HB2.out.size)
      have HC4 := hidO (HC12.out.later hb4)
      have HD4 := hidO (HC2.out.later hb4)
      simp only [if_neg HLH.out] at hr4
      subst hr4
      clear hb4 f0 f1 f2 f3 f4 f5 f6 f7 f8 f9 f10 f11
      go_wp2_with fail
      refine (Td.told_errno 4 _ (Td.Ety.later HEt.out HB4.out)).mono ?_
      rintro e w5 ⟨rfl, hb5⟩
      have HB5 : Hid (Below w.heap.size w w5) := HB4.out.trans (hb5.mono HB4.out.size)
      have HC5 := hidO (HC4.out.later hb5)
      have HD5 := hidO (HD4.out.later hb5)
      clear hb5
      go_wp2_with fail
      go_loopw [15] (fun i w' => ∃ (j : Nat), j ≤ l.length ∧ i = .int .i64 j ∧ Below w5.heap.size w5 w') (fun i _ => l.length - (intOf i).toNat)
      case atStart => exact ⟨0, Nat.zero_le _, rfl, Below.refl _ _⟩
      case round =>
        obtain ⟨j, hj, rfl, hb⟩ := hrel
        have HBr := hidO hb
        clear hb
        by_cases hlt : j < l.length
        · have hji : (j : Int) < (l.length : Int) := by omega
          obtain ⟨b1, o1, rfl, e1, e1'⟩ := (HC5.out.later HBr.out) j hlt
          obtain ⟨b2, o2, rfl, e2, e2'⟩ := (HD5.out.later HBr.out) j hlt
          have hq := eqC_refl l[j].nm l[j].k
          have l1 : b1 < wr.heap.size := World.block_lt_of_cell? _ _ e1
          have l2 : b2 < wr.heap.size := World.block_lt_of_cell? _ _ e2
          generalize l[j] = x at *
          obtain ⟨xn, xk⟩ := x
          simp only at e1 e1' e2 e2' hq
          go_wp2_with fail
          go_quiet (fail)
          go_wp2_with fail
          exact ⟨⟨j + 1, by omega, by go_num, by first | exact HBr.out | exact HBr.out.drew | exact belDrew HBr.out⟩, by simp [intOf]; omega⟩
        · obtain rfl : j = l.length := by omega
          have hnl : ¬ (l.length : Int) < (l.length : Int) := by omega
          have HF : Hid (Below w.heap.size w wr) := HB5.out.trans (HBr.out.mono HB5.out.size)
          clear hlt hj
          by_cases n1 : lo < 0
          · go_wp2_with fail
            go_ret
            exact ⟨by simp, HF.out⟩
          · by_cases n2 : (32 : Int) < hi
            · go_wp2_with fail
              go_ret
              exact ⟨by simp, HF.out⟩
            · have n3 : hi < lo := by omega
              go_wp2_with fail
              go_ret
              exact ⟨by simp, HF.out⟩
end Go.Proofs.YtplaplhmjpfbjaaGreatDoor.Oo
namespace Go.Proofs.YtplaplhmjpfbjaaGreatDoor.Oo
open Go.RowKit Go.Proofs.YtplaplhmjpfbjaaGreatDoor.Dc
set_option linter.unusedVariables false
set_option linter.unusedSimpArgs false
set_option maxRecDepth 100000

noncomputable def kOfO (r : Except Flt (X × Int)) : Except Nat Int := match r with
  | .ok (_, k) => .ok k
  | .error f => .error f.why
theorem ckO_why {c : List Co} {s : ByteArray} {o : Except Flt X} {f : Flt} (ho : PX LV s o) (h : ckO c o = .error f) : f.why ≠ 0 := by
  cases o with
  | error g =>
    have e : g = f := by simpa [ckO] using h
    subst e
    exact px_why (fun hp => Ps.why hp _ rfl) ho
  | ok y =>
    by_cases hc : colsX c
    · rw [ckO, if_pos hc] at h
      cases hk : kindX c y with
      | error g =>
        rw [hk] at h
        have e : g = f := by simpa [Except.bind] using h
        subst e
        exact kindX_why c y _ hk
      | ok k => rw [hk] at h; simp [Except.bind] at h
    · rw [ckO, if_neg hc] at h
      injection h with e
      rw [← e]; decide
theorem ck_exists (w : World) (h2 : Vl.Sen w) (h3 : Vl.Sen3 w) (ht : Vl.Tab w) (c : List Co) (hm : c.length ≤ maxLen) (hz : ∀ x ∈ c, x.nm.size ≤ 140737488355328) : ∃ ck, CkOk w c ck ∧ CkD w c ck := by
  have hG : ∀ w0 : World, ∀ W W' r, (∀ k, r = some k → w0.heap.size ≤ k) → Below w0.heap.size w0 W → W.grownBy W' r → Below w0.heap.size w0 W' := fun w0 W W' r h1 h2 h3 => xbNew h2 h3 (fun n hn => h1 n hn)
  have hex : ∀ s, ∃ o, PX LV s o := fun s => px_exi oneLV (rdOkLV w h2 h3 ht) s w (hG w) (Below.refl _ _)
  refine ⟨fun s => kOfO (ckO c (Classical.choose (hex s))), fun s W a cc hW hc => ?_, fun s n h => ?_, fun s W a cc hW hc => ?_⟩
  · refine (check_any oneLV (rdOkLV W (Vl.Sen.later h2 hW) (Vl.Sen3.later h3 hW) (Vl.Tab.later ht hW)) s a cc c W (hG W) (Below.refl _ _) hc hm hz).mono ?_
    rintro e w' ⟨hb, o', ho', rfl⟩
    have := ho'.one oneLV (Classical.choose_spec (hex s))
    refine ⟨?_, hb⟩
    simp only
    rw [← this]
    unfold chV
    cases hck : ckO c o' with
    | error f => exact ⟨f.pl, rfl⟩
    | ok q => obtain ⟨x, k⟩ := q; exact ⟨0, rfl⟩
  · simp only at h
    cases hck : ckO c (Classical.choose (hex s)) with
    | error f =>
      rw [hck] at h
      have e : f.why = n := by simpa [kOfO] using h
      rw [← e]
      exact ckO_why (Classical.choose_spec (hex s)) hck
    | ok q => rw [hck] at h; obtain ⟨x, k⟩ := q; simp [kOfO] at h
  · refine (checkD_any dRdLV trueLV falseLV nzLV s a cc c W hc hm hz).mono ?_
    rintro e w' ⟨hb, o', ho', h⟩
    have := ho'.one oneLV (Classical.choose_spec (hex s))
    refine ⟨?_, hb⟩
    simp only
    rw [← this]
    cases hck : ckO c o' with
    | error f =>
      rw [hck] at h
      obtain ⟨pv, rfl⟩ := h
      exact ⟨_, _, rfl⟩
    | ok q =>
      obtain ⟨x, k⟩ := q
      rw [hck] at h
      obtain ⟨b, rfl, -⟩ := h
      exact ⟨_, _, rfl⟩
end Go.Proofs.YtplaplhmjpfbjaaGreatDoor.Oo
namespace Go.Proofs.YtplaplhmjpfbjaaGreatDoor.Oo
open Go.ChangeShapes Go.WideShapes Go.ChangeAt Go.RowKit
open Go.ChangeMaps (open_string shut_string)
open Go.Deep Go.Joins
set_option linter.unusedVariables false
set_option maxRecDepth 100000

theorem own : ownKnob Tryz.prog.godebug = none := by kernel_rfl
theorem laidOut : laidOutB Tryz.prog = true := by kernel_rfl
theorem cellsCol : Tryz.prog.cellsOf 43 = 2 := by kernel_rfl
theorem cellsKind : Tryz.prog.cellsOf 41 = 1 := by kernel_rfl
theorem cellsStr : Tryz.prog.cellsOf 9 = 1 := by kernel_rfl
theorem bytesCol : Tryz.prog.bytesOf 43 = 24 := by kernel_rfl
theorem reach_eq : reachBytes = 140737488351232 := rfl

/-- What a part weighs is among what all weigh. -/
theorem weigh_part {H : Type} {P : Program} {e : TypeId} {d : DataW H} {n : Nat} (hn : n ∈ d.weights P e) (l : List (DataW H)) (hd : d ∈ l) : n ∈ DataW.weightsAll P e l := by
  induction l with
  | nil => cases hd
  | cons x r ih =>
    rw [DataW.weightsAll, List.mem_append]
    cases hd with
    | head => exact .inl hn
    | tail _ h => exact .inr (ih h)

theorem col_in {H : Type} {enc : TypeId × Value → H} {W : World} {fuel : Nat} {cs : List Value} {x : DataW H × List MemPlace} (hlen : cs.length = 2)
    (h : DataW.trod enc Tryz.prog W 0 (fun _ => true) true fuel 43 cs = some x) :
    ∃ o : Co, cs = [.string o.nm, .int .i64 o.k] ∧ ∃ d bs, x.1 = .agg [.lit (.string bs), d] ∧ bs.length = o.nm.size := by
  obtain ⟨y0, y1, n', hDi, _, g0, g1⟩ := trod_struct2 Tryz.underlying43 h
  match cs, hlen with
  | [v0, v1], _ =>
    simp [cellsKind, cellsStr] at g0 g1
    obtain ⟨s, e0, ds, _⟩ := DataW.trod_string Tryz.underlying9 g0
    obtain ⟨k, e1, _, wk⟩ := DataW.trod_int Tryz.underlying41 g1
    simp at e0 e1
    subst e0 e1
    refine ⟨⟨s, k⟩, rfl, y1.1, s.data.toList, ?_, by simp⟩
    rw [hDi]
    simp [ds]

theorem cols_in {H : Type} {enc : TypeId × Value → H} {W : World} {a : Option Addr} {len cap fuel : Nat} {x : DataW H × List MemPlace}
    (hf : DataW.trod enc Tryz.prog W 0 (fun _ => true) true fuel 23 [.slice a len cap] = some x) :
    ∃ l : List Co, l.length = len ∧ ColsAt W a l ∧ (len = 0 ∨ ∃ elems spare, x.1 = .slice elems spare ∧ elems.length = len ∧ ∀ o ∈ l, ∃ d bs, DataW.agg [.lit (.string bs), d] ∈ elems ∧ bs.length = o.nm.size) := by
  rcases open_slice Tryz.underlying23 hf with ⟨hcs, _⟩ | ⟨y, l, c, m, n, D, Pl, hcs, _, hl, hm, hmm, hD, hx⟩
  · simp at hcs
    obtain ⟨rfl, rfl, rfl⟩ := hcs
    exact ⟨[], rfl, fun i hi => absurd hi (by simp), .inl rfl⟩
  · simp at hcs
    obtain ⟨rfl, rfl, rfl⟩ := hcs
    simp at hmm
    subst hmm
    rw [cellsCol] at hx
    have hspot : 0 < len → y.spot = none := by
      intro h0
      obtain ⟨cs', h1, h2⟩ := hx 0 (by omega)
      obtain ⟨_, hlen, hcell⟩ := World.cells?_some h1
      match cs', hlen with
      | [v0, v1], _ =>
        have c0 := hcell 0 (by omega)
        rw [Deep.add_add] at c0
        obtain ⟨b, off, spot⟩ := y
        simpa [Addr.add] using World.cell?_spot c0
    have key : ∀ i, i < len → ∃ o : Co, (∃ b off, some y = some (⟨b, off, none⟩ : Addr) ∧ W.cell? ⟨b, off + i * 2, none⟩ = some (.string o.nm) ∧ W.cell? ⟨b, off + i * 2 + 1, none⟩ = some (.int .i64 o.k)) ∧ ∃ d bs, D i = .agg [.lit (.string bs), d] ∧ bs.length = o.nm.size := by
      intro i hi
      obtain ⟨cs', h1, h2⟩ := hx i (by omega)
      obtain ⟨_, hlen, hcell⟩ := World.cells?_some h1
      obtain ⟨o, rfl, hd⟩ := col_in hlen h2
      have c0 := hcell 0 (by simp)
      have c1 := hcell 1 (by simp)
      rw [Deep.add_add] at c0 c1
      have hs := hspot (by omega)
      obtain ⟨b, off, spot⟩ := y
      simp at hs
      subst hs
      rw [WideShapes.add_plain] at c0 c1
      exact ⟨o, ⟨b, off, rfl, by simpa using c0, by simpa [Nat.add_assoc] using c1⟩, hd⟩
    haveI : Inhabited Co := ⟨⟨⟨#[]⟩, 0⟩⟩
    obtain ⟨f, hf'⟩ := choose_lt key
    refine ⟨(List.range len).map f, by simp, ?_, .inr ⟨_, _, by rw [hD], by simp, ?_⟩⟩
    · intro i hi
      have hi' : i < len := by simpa using hi
      obtain ⟨⟨b, off, e1, e2, e3⟩, -⟩ := hf' i hi'
      exact ⟨b, off, e1, by simpa using e2, by simpa using e3⟩
    · intro v hv
      obtain ⟨i, hi, rfl⟩ := List.mem_map.1 hv
      have hi' := List.mem_range.1 hi
      obtain ⟨-, d, bs, h1, h2⟩ := hf' i hi'
      exact ⟨d, bs, List.mem_map.2 ⟨i, List.mem_range.2 hi', h1⟩, h2⟩

theorem cellsInt : Tryz.prog.cellsOf 3 = 1 := by kernel_rfl
theorem cellsAgg : Tryz.prog.cellsOf 69 = 2 := by kernel_rfl
theorem one_in {H : Type} {enc : TypeId × Value → H} {W : World} {a : Option Addr} {len cap fuel : Nat} {x : DataW H × List MemPlace} {st et : TypeId} {α : Type} [Inhabited α] (val : α → Value) (Dp : α → DataW H → Prop)
    (hst : Tryz.prog.underlying st = some (.slice et)) (hce : Tryz.prog.cellsOf et = 1)
    (hone : ∀ fuel cs (x : DataW H × List MemPlace), cs.length = 1 → DataW.trod enc Tryz.prog W 0 (fun _ => true) true fuel et cs = some x → ∃ o, cs = [val o] ∧ Dp o x.1)
    (hf : DataW.trod enc Tryz.prog W 0 (fun _ => true) true fuel st [.slice a len cap] = some x) :
    ∃ l : List α, l.length = len ∧ (∀ i (h : i < l.length), ∃ b off, a = some ⟨b, off, none⟩ ∧ W.cell? ⟨b, off + i, none⟩ = some (val l[i])) ∧ (len = 0 ∨ ∃ elems spare, x.1 = .slice elems spare ∧ elems.length = len ∧ ∀ o ∈ l, ∃ d ∈ elems, Dp o d) := by
  rcases open_slice hst hf with ⟨hcs, _⟩ | ⟨y, l, c, m, n, D, Pl, hcs, _, hl, hm, hmm, hD, hx⟩
  · simp at hcs
    obtain ⟨rfl, rfl, rfl⟩ := hcs
    exact ⟨[], rfl, fun i hi => absurd hi (by simp), .inl rfl⟩
  · simp at hcs
    obtain ⟨rfl, rfl, rfl⟩ := hcs
    simp at hmm
    subst hmm
    rw [hce] at hx
    have hspot : 0 < len → y.spot = none := by
      intro h0
      obtain ⟨cs', h1, h2⟩ := hx 0 (by omega)
      obtain ⟨_, hlen, hcell⟩ := World.cells?_some h1
      match cs', hlen with
      | [v0], _ =>
        have c0 := hcell 0 (by omega)
        rw [Deep.add_add] at c0
        obtain ⟨b, off, spot⟩ := y
        simpa [Addr.add] using World.cell?_spot c0
    have key : ∀ i, i < len → ∃ o : α, (∃ b off, some y = some (⟨b, off, none⟩ : Addr) ∧ W.cell? ⟨b, off + i, none⟩ = some (val o)) ∧ Dp o (D i) := by
      intro i hi
      obtain ⟨cs', h1, h2⟩ := hx i (by omega)
      obtain ⟨_, hlen, hcell⟩ := World.cells?_some h1
      obtain ⟨o, rfl, hd⟩ := hone _ _ _ hlen h2
      have c0 := hcell 0 (by simp)
      rw [Deep.add_add] at c0
      have hs := hspot (by omega)
      obtain ⟨b, off, spot⟩ := y
      simp at hs
      subst hs
      rw [WideShapes.add_plain] at c0
      exact ⟨o, ⟨b, off, rfl, by simpa using c0⟩, hd⟩
    obtain ⟨f, hf'⟩ := choose_lt key
    refine ⟨(List.range len).map f, by simp, ?_, .inr ⟨_, _, by rw [hD], by simp, ?_⟩⟩
    · intro i hi
      have hi' : i < len := by simpa using hi
      obtain ⟨⟨b, off, e1, e2⟩, -⟩ := hf' i hi'
      exact ⟨b, off, e1, by simpa using e2⟩
    · intro v hv
      obtain ⟨i, hi, rfl⟩ := List.mem_map.1 hv
      have hi' := List.mem_range.1 hi
      exact ⟨_, List.mem_map.2 ⟨i, List.mem_range.2 hi', rfl⟩, (hf' i hi').2⟩
end Go.Proofs.YtplaplhmjpfbjaaGreatDoor.Oo
namespace Go.Proofs.YtplaplhmjpfbjaaGreatDoor.Oo
open Go.ChangeShapes Go.WideShapes Go.ChangeAt Go.RowKit
open Go.ChangeMaps (open_string shut_string)
open Go.Deep Go.Joins
set_option linter.unusedVariables false
set_option maxRecDepth 100000

theorem strs_in {H : Type} {enc : TypeId × Value → H} {W : World} {a : Option Addr} {len cap fuel : Nat} {x : DataW H × List MemPlace}
    (hf : DataW.trod enc Tryz.prog W 0 (fun _ => true) true fuel 22 [.slice a len cap] = some x) :
    ∃ l : List ByteArray, l.length = len ∧ StrsAt W a l ∧ (len = 0 ∨ ∃ elems spare, x.1 = .slice elems spare ∧ elems.length = len ∧ ∀ o ∈ l, ∃ d ∈ elems, ∃ bs, d = .lit (.string bs) ∧ bs.length = o.size) :=
  haveI : Inhabited ByteArray := ⟨⟨#[]⟩⟩
  one_in (fun s => Value.string s) (fun o d => ∃ bs, d = .lit (.string bs) ∧ bs.length = o.size) Tryz.underlying22 cellsStr (fun fuel cs x hl h => by
    match cs, hl with
    | [v], _ =>
      obtain ⟨s, e0, ds, _⟩ := DataW.trod_string Tryz.underlying9 h
      simp at e0
      subst e0
      exact ⟨s, rfl, s.data.toList, by rw [ds], by simp⟩) hf
theorem ints_in {H : Type} {enc : TypeId × Value → H} {W : World} {a : Option Addr} {len cap fuel : Nat} {x : DataW H × List MemPlace}
    (hf : DataW.trod enc Tryz.prog W 0 (fun _ => true) true fuel 24 [.slice a len cap] = some x) :
    ∃ l : List Int, l.length = len ∧ IntsAt W a l ∧ (len = 0 ∨ ∃ elems spare, x.1 = .slice elems spare ∧ elems.length = len) := by
  obtain ⟨l, h1, h2, h3⟩ := one_in (fun n => Value.int .i64 n) (fun _ _ => True) Tryz.underlying24 cellsInt (fun fuel cs x hl h => by
    match cs, hl with
    | [v], _ =>
      obtain ⟨s, e0, _, _⟩ := DataW.trod_int Tryz.underlying3 h
      simp at e0
      subst e0
      exact ⟨s, rfl, trivial⟩) hf
  refine ⟨l, h1, h2, ?_⟩
  rcases h3 with h | ⟨e, s, h4, h5, _⟩
  · exact .inl h
  · exact .inr ⟨e, s, h4, h5⟩
theorem ag_in {H : Type} {enc : TypeId × Value → H} {W : World} {fuel : Nat} {cs : List Value} {x : DataW H × List MemPlace} (hlen : cs.length = 2)
    (h : DataW.trod enc Tryz.prog W 0 (fun _ => true) true fuel 69 cs = some x) : ∃ o : Ag, cs = [.int .i64 o.k, .int .i64 o.at_] := by
  obtain ⟨y0, y1, n', hDi, _, g0, g1⟩ := trod_struct2 Tryz.underlying69 h
  match cs, hlen with
  | [v0, v1], _ =>
    simp [cellsInt] at g0 g1
    obtain ⟨s, e0, _, _⟩ := DataW.trod_int Tryz.underlying3 g0
    obtain ⟨k, e1, _, wk⟩ := DataW.trod_int Tryz.underlying3 g1
    simp at e0 e1
    subst e0 e1
    exact ⟨⟨s, k⟩, rfl⟩
theorem ags_in {H : Type} {enc : TypeId × Value → H} {W : World} {a : Option Addr} {len cap fuel : Nat} {x : DataW H × List MemPlace}
    (hf : DataW.trod enc Tryz.prog W 0 (fun _ => true) true fuel 27 [.slice a len cap] = some x) :
    ∃ l : List Ag, l.length = len ∧ AgsAt W a l ∧ (len = 0 ∨ ∃ elems spare, x.1 = .slice elems spare ∧ elems.length = len) := by
  rcases open_slice Tryz.underlying27 hf with ⟨hcs, _⟩ | ⟨y, l, c, m, n, D, Pl, hcs, _, hl, hm, hmm, hD, hx⟩
  · simp at hcs
    obtain ⟨rfl, rfl, rfl⟩ := hcs
    exact ⟨[], rfl, fun i hi => absurd hi (by simp), .inl rfl⟩
  · simp at hcs
    obtain ⟨rfl, rfl, rfl⟩ := hcs
    simp at hmm
    subst hmm
    rw [cellsAgg] at hx
    have hspot : 0 < len → y.spot = none := by
      intro h0
      obtain ⟨cs', h1, h2⟩ := hx 0 (by omega)
      obtain ⟨_, hlen, hcell⟩ := World.cells?_some h1
      match cs', hlen with
      | [v0, v1], _ =>
        have c0 := hcell 0 (by omega)
        rw [Deep.add_add] at c0
        obtain ⟨b, off, spot⟩ := y
        simpa [Addr.add] using World.cell?_spot c0
    have key : ∀ i, i < len → ∃ o : Ag, ∃ b off, some y = some (⟨b, off, none⟩ : Addr) ∧ W.cell? ⟨b, off + i * 2, none⟩ = some (.int .i64 o.k) ∧ W.cell? ⟨b, off + i * 2 + 1, none⟩ = some (.int .i64 o.at_) := by
      intro i hi
      obtain ⟨cs', h1, h2⟩ := hx i (by omega)
      obtain ⟨_, hlen, hcell⟩ := World.cells?_some h1
      obtain ⟨o, rfl⟩ := ag_in hlen h2
      have c0 := hcell 0 (by simp)
      have c1 := hcell 1 (by simp)
      rw [Deep.add_add] at c0 c1
      have hs := hspot (by omega)
      obtain ⟨b, off, spot⟩ := y
      simp at hs
      subst hs
      rw [WideShapes.add_plain] at c0 c1
      exact ⟨o, b, off, rfl, by simpa using c0, by simpa [Nat.add_assoc] using c1⟩
    haveI : Inhabited Ag := ⟨⟨0, 0⟩⟩
    obtain ⟨f, hf'⟩ := choose_lt key
    refine ⟨(List.range len).map f, by simp, ?_, .inr ⟨_, _, by rw [hD], by simp⟩⟩
    intro i hi
    have hi' : i < len := by simpa using hi
    obtain ⟨b, off, e1, e2, e3⟩ := hf' i hi'
    exact ⟨b, off, e1, by simpa using e2, by simpa using e3⟩
end Go.Proofs.YtplaplhmjpfbjaaGreatDoor.Oo
namespace Go.Proofs.YtplaplhmjpfbjaaGreatDoor.Oo
open Go.ChangeShapes Go.WideShapes Go.ChangeAt Go.RowKit
open Go.ChangeMaps (open_string shut_string)
open Go.Deep Go.Joins
set_option linter.unusedVariables false
set_option maxRecDepth 100000

theorem cellsSl1 : Tryz.prog.cellsOf 22 = 1 := by kernel_rfl
theorem cellsSl2 : Tryz.prog.cellsOf 23 = 1 := by kernel_rfl
theorem cellsSl3 : Tryz.prog.cellsOf 24 = 1 := by kernel_rfl
theorem cellsSl4 : Tryz.prog.cellsOf 27 = 1 := by kernel_rfl
theorem cellsWs : Tryz.prog.cellsOf 26 = 3 := by kernel_rfl
theorem cellsBool : Tryz.prog.cellsOf 4 = 1 := by kernel_rfl
theorem cellsI64 : Tryz.prog.cellsOf 2 = 1 := by kernel_rfl
/-- A slice's one cell. -/
theorem slice_cell {H : Type} {enc : TypeId × Value → H} {W : World} {fuel : Nat} {st et : TypeId} {v : Value} {x : DataW H × List MemPlace} (hst : Tryz.prog.underlying st = some (.slice et)) (h : DataW.trod enc Tryz.prog W 0 (fun _ => true) true fuel st [v] = some x) : ∃ a len cap, v = .slice a len cap := by
  rcases open_slice hst h with ⟨hcs, _⟩ | ⟨y, l, c, m, n, D, Pl, hcs, _⟩
  · simp at hcs; exact ⟨_, _, _, hcs⟩
  · simp at hcs; exact ⟨_, _, _, hcs⟩
set_option maxHeartbeats 2000000 in
theorem op_in {H : Type} {enc : TypeId × Value → H} {W : World} {fuel : Nat} {cs : List Value} {x : DataW H × List MemPlace} (hlen : cs.length = 12)
    (h : DataW.trod enc Tryz.prog W 0 (fun _ => true) true fuel 29 cs = some x) :
    ∃ o p, cs = (opCs o p).toList ∧ OpAt W o p ∧ (Lit.int .i64 o.ws).wf = true ∧ ∃ y0 y1 y2 y3 y4 y5 y6 y7 y8 y9 : DataW H, x.1 = .agg [y0, y1, y2, y3, y4, y5, y6, y7, y8, y9] ∧
      (o.ex.length = 0 ∨ ∃ e s, y1 = .slice e s ∧ e.length = o.ex.length ∧ ∀ q ∈ o.ex, ∃ d ∈ e, ∃ bs, d = .lit (.string bs) ∧ bs.length = q.size) ∧
      (o.nm.length = 0 ∨ ∃ e s, y2 = .slice e s ∧ e.length = o.nm.length ∧ ∀ q ∈ o.nm, ∃ d ∈ e, ∃ bs, d = .lit (.string bs) ∧ bs.length = q.size) ∧
      (o.c.length = 0 ∨ ∃ e s, y3 = .slice e s ∧ e.length = o.c.length ∧ ∀ q ∈ o.c, ∃ d bs, DataW.agg [.lit (.string bs), d] ∈ e ∧ bs.length = q.nm.size) ∧
      (o.r.length = 0 ∨ ∃ e s, y4 = .slice e s ∧ e.length = o.r.length ∧ ∀ q ∈ o.r, ∃ d bs, DataW.agg [.lit (.string bs), d] ∈ e ∧ bs.length = q.nm.size) ∧
      (o.ks.length = 0 ∨ ∃ e s, y5 = .slice e s ∧ e.length = o.ks.length) ∧ (o.os.length = 0 ∨ ∃ e s, y6 = .slice e s ∧ e.length = o.os.length) ∧ (o.ag.length = 0 ∨ ∃ e s, y8 = .slice e s ∧ e.length = o.ag.length) := by
  obtain ⟨xs, n, _, rfl, hl, hln, hf⟩ := DataW.trod_struct Tryz.underlying29 h
  match cs, hlen with
  | [v0, v1, v2, v3, v4, v5, v6, v7, v8, v9, v10, v11], _ =>
    match xs, hln with
    | [y0, y1, y2, y3, y4, y5, y6, y7, y8, y9], _ =>
      have g0 := hf 0 _ rfl
      have g1 := hf 1 _ rfl
      have g2 := hf 2 _ rfl
      have g3 := hf 3 _ rfl
      have g4 := hf 4 _ rfl
      have g5 := hf 5 _ rfl
      have g6 := hf 6 _ rfl
      have g7 := hf 7 _ rfl
      have g8 := hf 8 _ rfl
      have g9 := hf 9 _ rfl
      simp [cellsInt, cellsSl1, cellsSl2, cellsSl3, cellsSl4, cellsWs, cellsBool] at g0 g1 g2 g3 g4 g5 g6 g7 g8 g9
      clear hf
      obtain ⟨k, e0, _, _⟩ := DataW.trod_int Tryz.underlying3 g0
      simp at e0
      subst e0
      obtain ⟨ea, en, ec, rfl⟩ := slice_cell Tryz.underlying22 g1
      obtain ⟨ex, rfl, hE, sE⟩ := strs_in g1
      obtain ⟨na, nn, nc, rfl⟩ := slice_cell Tryz.underlying22 g2
      obtain ⟨nm, rfl, hN, sN⟩ := strs_in g2
      obtain ⟨ca, cn, cc, rfl⟩ := slice_cell Tryz.underlying23 g3
      obtain ⟨c, rfl, hC, sC⟩ := cols_in g3
      obtain ⟨ra, rn, rc, rfl⟩ := slice_cell Tryz.underlying23 g4
      obtain ⟨r, rfl, hR, sR⟩ := cols_in g4
      obtain ⟨ka, kn, kc, rfl⟩ := slice_cell Tryz.underlying24 g5
      obtain ⟨ks, rfl, hK, sK⟩ := ints_in g5
      obtain ⟨oa, on, oc, rfl⟩ := slice_cell Tryz.underlying24 g6
      obtain ⟨os, rfl, hO, sO⟩ := ints_in g6
      obtain ⟨z0, z1, z2, n2, hz, _, w0, w1, w2⟩ := trod_struct3 Tryz.underlying26 g7
      simp [cellsInt, cellsI64] at w0 w1 w2
      obtain ⟨wk, u0, _, _⟩ := DataW.trod_int Tryz.underlying3 w0
      obtain ⟨ws, u1, _, wws⟩ := DataW.trod_int Tryz.underlying2 w1
      obtain ⟨wt, u2, _, _⟩ := DataW.trod_int Tryz.underlying2 w2
      simp at u0 u1 u2
      subst u0 u1 u2
      obtain ⟨ga, gn, gc, rfl⟩ := slice_cell Tryz.underlying27 g8
      obtain ⟨ag, rfl, hG, sG⟩ := ags_in g8
      obtain ⟨ou, e9, _⟩ := DataW.trod_bool Tryz.underlying4 g9
      simp at e9
      subst e9
      exact ⟨⟨k, ex, nm, c, r, ks, os, wk, ws, wt, ag, ou⟩, ⟨ea, ec, na, nc, ca, cc, ra, rc, ka, kc, oa, oc, ga, gc⟩, rfl, ⟨hE, hN, hC, hR, hK, hO, hG⟩, wws, _, _, _, _, _, _, _, _, _, _, rfl, sE, sN, sC, sR, sK, sO, sG⟩
end Go.Proofs.YtplaplhmjpfbjaaGreatDoor.Oo
