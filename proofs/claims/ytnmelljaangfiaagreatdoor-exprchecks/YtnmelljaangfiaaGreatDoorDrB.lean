import Derived.Test.YtnmelljaangfiaaGreatDoorDrA
namespace Go.Proofs.YtnmelljaangfiaaGreatDoor.Dc
open Go.RowKit
set_option linter.unusedVariables false
set_option linter.unusedSimpArgs false
set_option maxRecDepth 100000

/-- What is wrong stays as it was first told. -/
def orE (er e : Int) : Int := if er = 0 then e else er
def orB (er bad pl : Int) : Int := if er = 0 then pl else bad
set_option maxHeartbeats 1000000 in
theorem fail_any (g E p : Nat) (tks : List Tk) (lev er bad e pl : Int) (w : World) (h : RS w g E tks p lev er bad) :
    Calls Tryz.prog 22 #[.pointer (some ⟨g, 0, none⟩), .int .i64 e, .int .i64 pl] w fun en w' => en = .returned (.tuple #[]) ∧ w.grownBy w' (some g) ∧ RS w' g E tks p lev (orE er e) (orB er bad pl) := by
  obtain ⟨b, cap, hbg, hgl, c0, c1, c2, c3, c4, d0, d1, d2, hl⟩ := h.hd
  have HR := hidMk h
  have f3 := h.soft 3
  have f4 := h.soft 4
  unfold orE orB
  clear h d0 d1 d2 hl
  by_cases q : er = 0
  · have q1 : (er == 0) = true := by simp [q]
    simp only [if_pos q]
    have F : Hid (w.grownBy ((w.setCell ⟨g, 3, none⟩ (.int .i64 e)).setCell ⟨g, 4, none⟩ (.int .i64 pl)) (some g) ∧ RS ((w.setCell ⟨g, 3, none⟩ (.int .i64 e)).setCell ⟨g, 4, none⟩ (.int .i64 pl)) g E tks p lev e pl) := ⟨xgTrans (xgSet _ _ _) (xgSet _ _ _), HR.out.put34⟩
    clear HR
    go_enter Tryz.func22, Tryz.ntmps22
    go_wp2
    go_end0
    exact ⟨rfl, F.out⟩
  · have q1 : (er == 0) = false := by simp [q]
    simp only [if_neg q]
    go_enter Tryz.func22, Tryz.ntmps22
    go_wp2
    go_end0
    exact ⟨rfl, xgBelow (Below.refl _ _), HR.out⟩
theorem xgUndrew {a b : World} {r : Option Nat} (h : a.drew.grownBy b r) : a.grownBy b r := ⟨h.os, h.tape, h.output, h.size, h.block⟩
theorem Below.drewN' {B : Nat} {a w : World} {n : Nat} (h : Below B a w) : Below B a (w.drewN n) := ⟨h.os, h.tape, h.output, h.size, h.block⟩
set_option maxHeartbeats 1000000 in
theorem in_any (g E p lev : Nat) (tks : List Tk) (er bad : Int) (w : World) (h : RS w g E tks p lev er bad) (hlev : lev ≤ 12) :
    Calls Tryz.prog 47 #[.pointer (some ⟨g, 0, none⟩)] w fun en w' => en = .returned (.tuple #[]) ∧ w.grownBy w' (some g) ∧ (if lev = 12 then RS w' g E tks p (lev + 1 : Nat) (orE er 4) (orB er bad (hd E (tks.drop p)).pl) else RS w' g E tks p (lev + 1 : Nat) er bad) := by
  obtain ⟨b, cap, hbg, hgl, c0, c1, c2, c3, c4, d0, d1, d2, hl⟩ := h.hd
  have HR := hidMk h
  have f2 := h.soft 2
  have hbl : b < w.heap.size := by omega
  have hbn : ¬ b = g := by omega
  have hp0 : (0 : Int) ≤ (p : Int) := by omega
  have H2 : Hid (RS (w.setCell ⟨g, 2, none⟩ (.int .i64 ((lev + 1 : Nat) : Int))) g E tks p ((lev + 1 : Nat) : Int) er bad) := h.put2
  have HG : Hid (w.grownBy (w.setCell ⟨g, 2, none⟩ (.int .i64 ((lev + 1 : Nat) : Int))) (some g)) := xgSet _ _ _
  have e1 : ((lev + 1 : Nat) : Int) = (lev : Int) + 1 := by omega
  rw [e1] at H2 HG ⊢
  clear h
  by_cases q : lev = 12
  · simp only [if_pos q]
    have q1 : (12 : Int) < (lev : Int) + 1 := by omega
    have hl1 : (lev : Int) ≤ 12 := by omega
    have hl0 : (0 : Int) ≤ (lev : Int) := by omega
    clear q hlev
    go_enter Tryz.func47, Tryz.ntmps47
    go_wp2_with fail
    go_region_with (go_at_call 22; refine (fail_any g E p tks ((lev : Int) + 1) er bad _ _ _ (RS.later H2.out (by first | exact Below.refl _ _ | exact (Below.refl _ _).drew | exact Below.drewN' (Below.refl _ _)))).mono ?_; rintro en w1 ⟨rfl, hg1, hr1⟩)
    all_goals
      have F : Hid (w.grownBy w1 (some g)) := xgTrans HG.out (xgUndrew hg1)
      have F2 := hidMk hr1
      clear hg1 hr1
      go_wp2
      go_end0
      exact ⟨rfl, F.out, F2.out⟩
  · simp only [if_neg q]
    have q1 : ¬ (12 : Int) < (lev : Int) + 1 := by omega
    go_enter Tryz.func47, Tryz.ntmps47
    go_wp2_with fail
    go_end0
    exact ⟨rfl, HG.out, H2.out⟩
def bShutS : ByteArray := bShut
set_option maxHeartbeats 1000000 in
theorem close_any (g E p : Nat) (tks : List Tk) (lev er bad : Int) (w : World) (h : RS w g E tks p lev er bad) (hp : sgB (hd E (tks.drop p)) bShut = true → p < tks.length) :
    Calls Tryz.prog 71 #[.pointer (some ⟨g, 0, none⟩)] w fun en w' => en = .returned (.tuple #[]) ∧ w.grownBy w' (some g) ∧ (if er = 0 ∧ sgB (hd E (tks.drop p)) bShut = true then RS w' g E tks (p + 1) lev er bad else RS w' g E tks p lev (orE er 1) (orB er bad (hd E (tks.drop p)).pl)) := by
  have HS : Hid (∀ W, Below w.heap.size w W → Calls Tryz.prog 46 #[.pointer (some ⟨g, 0, none⟩), .string bShut] W fun e w' => e = .returned (.bool (decide (er = 0) && sgB (hd E (tks.drop p)) bShut)) ∧ Below W.heap.size W w') := fun W hW => sign_any g E p tks lev er bad bShut W (h.later hW)
  have HR := hidMk h
  have hgl := h.lt
  have HP := hidMk hp
  clear h hp
  cases hB : (decide (er = 0) && sgB (hd E (tks.drop p)) bShut)
  · have hn : ¬ (er = 0 ∧ sgB (hd E (tks.drop p)) bShut = true) := fun ⟨a, b⟩ => by simp [a, b] at hB
    simp only [if_neg hn]
    rw [hB] at HS
    clear hB hn HP
    unfold bShut at HS
    go_enter Tryz.func71, Tryz.ntmps71
    go_wp2_with fail
    refine (HS.out _ (Below.refl _ _)).mono ?_
    rintro e w1 ⟨rfl, hb1⟩
    have hR1 := HR.out.later hb1
    have HB1 := hidMk hb1
    obtain ⟨b, cap, hbg, hgl1, c0, c1, c2, c3, c4, d0, d1, d2, hl⟩ := hR1.hd
    have HR1 := hidMk hR1
    have hbl : b < w1.heap.size := by omega
    have hp0 : (0 : Int) ≤ (p : Int) := by omega
    clear hR1 hb1 HR HS
    go_wp2_with fail
    go_region_with (go_at_call 22; refine (fail_any g E p tks lev er bad _ _ _ (RS.later HR1.out (by first | exact Below.refl _ _ | exact (Below.refl _ _).drew | exact Below.drewN' (Below.refl _ _)))).mono ?_; rintro en w2 ⟨rfl, hg2, hr2⟩)
    all_goals
      have F : Hid (w.grownBy w2 (some g)) := xgTrans (xgBelow HB1.out) (xgUndrew hg2)
      have F2 := hidMk hr2
      clear hg2 hr2
      go_wp2
      simp [bodyPost, results, Tryz.results71, go_sem]
      exact ⟨F.out, F2.out⟩
  · have hy : er = 0 ∧ sgB (hd E (tks.drop p)) bShut = true := by simpa using hB
    simp only [if_pos hy]
    have hlt := HP.out hy.2
    rw [hB] at HS
    clear hB hy HP
    unfold bShut at HS
    go_enter Tryz.func71, Tryz.ntmps71
    go_wp2_with fail
    refine (HS.out _ (Below.refl _ _)).mono ?_
    rintro e w1 ⟨rfl, hb1⟩
    have hR1 := HR.out.later hb1
    have HB1 := hidMk hb1
    obtain ⟨b, cap, hbg, hgl1, c0, c1, c2, c3, c4, d0, d1, d2, hl⟩ := hR1.hd
    have f1 := hR1.soft 1
    have e1 : ((p + 1 : Nat) : Int) = (p : Int) + 1 := by omega
    have hpl : tks.length ≤ 200 := by obtain ⟨_, _, _, _, _, h, _⟩ := hR1; exact h
    have F : Hid (w.grownBy (w1.setCell ⟨g, 1, none⟩ (.int .i64 ((p + 1 : Nat) : Int))) (some g) ∧ RS (w1.setCell ⟨g, 1, none⟩ (.int .i64 ((p + 1 : Nat) : Int))) g E tks (p + 1) lev er bad) := ⟨xgTrans (xgBelow HB1.out) (xgSet _ _ _), hR1.put1 hlt⟩
    rw [e1] at F
    clear hR1 hb1 HR HS
    go_wp2_with fail
    go_end0
    exact ⟨rfl, F.out⟩
end Go.Proofs.YtnmelljaangfiaaGreatDoor.Dc
