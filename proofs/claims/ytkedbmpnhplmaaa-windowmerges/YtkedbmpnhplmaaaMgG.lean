import Derived.Test.YtkedbmpnhplmaaaCpK
import Derived.Test.YtkedbmpnhplmaaaMgH
namespace Go.Proofs.Ytkedbmpnhplmaaa
open Go.RowKit Go.Shelf
set_option linter.unusedVariables false
set_option linter.unusedSimpArgs false
set_option maxRecDepth 100000
set_option maxHeartbeats 4000000
theorem merges_walk (v : Value) (xs : List Wn) (x y : Wn) (W : World) (hmax : xs.length * 16 ≤ 140737488355328) (hr : RdW W v xs) :
    Calls Try.prog 3 #[v, .agg #[.int .i64 x.a, .int .i64 x.b], .agg #[.int .i64 y.a, .int .i64 y.b]] W fun e W' => e = .returned (.bool true) ∧ Below W.heap.size W W' := by
  obtain ⟨i0, hi, hz0, hz1, hz2⟩ := info_parts Try.infoWn
  have HR : Hid (RdW W v xs) := hr
  obtain ⟨a, cap, rfl, hcl⟩ := hr
  have hmk : ∀ W : World, (Instr.makeSlice 22 (.int .i64 ((xs.length : Int) + 70)) (.int .i64 ((xs.length : Int) + 70))).run Try.prog W = .ok (.slice (some ⟨W.heap.size, 0, none⟩) (xs.length + 70) (xs.length + 70)) (W.alloc (.cells (madeCells #[.int .i64 0, .int .i64 0] ((xs.length + 70) * 2)) 24)) := fun W => by
    have := run_make (P := Try.prog) W 22 24 i0 (.agg #[.int .i64 0, .int .i64 0]) Try.underlying22 hi hz0 .i64 .i64 ((xs.length : Int) + 70) ((xs.length : Int) + 70) (by omega) (by omega) (by rw [hz2]; omega) (by omega)
    rw [this, hz1]
    rw [show ((xs.length : Int) + 70).toNat = xs.length + 70 by omega]
    rfl
  have HCL : Hid (∀ j u, (wcells xs)[j]? = some u → ∃ b off, a = some ⟨b, off, none⟩ ∧ W.cell? ⟨b, off + j, none⟩ = some u) := by
    intro j u hj
    have hl := (List.getElem?_eq_some_iff.1 hj).1
    rw [wcells_length] at hl
    obtain ⟨z, hz⟩ : ∃ z, xs[j / 2]? = some z := ⟨xs[j / 2]'(by omega), by simp [show j / 2 < xs.length by omega]⟩
    obtain ⟨b, o, e, c1, c2⟩ := hcl _ z hz
    have ⟨d1, d2⟩ := wcells_at xs _ z hz
    refine ⟨b, o, e, ?_⟩
    rcases Nat.mod_two_eq_zero_or_one j with h0 | h0
    · rw [show j / 2 * 2 = j by omega] at c1 d1
      rw [hj] at d1; cases d1; exact c1
    · rw [show o + j / 2 * 2 + 1 = o + j by omega] at c2
      rw [show j / 2 * 2 + 1 = j by omega] at d2
      rw [hj] at d2; cases d2; exact c2
  obtain ⟨W2, hW2⟩ : ∃ W2, W2 = (W.alloc (.cells #[.int .i64 x.a, .int .i64 x.b] 24)).alloc (.cells #[.int .i64 y.a, .int .i64 y.b] 24) := ⟨_, rfl⟩
  have hW2s : W2.heap.size = W.heap.size + 1 + 1 := by rw [hW2]; simp
  have HB2 : Hid (Below W.heap.size W W2) := by unfold Hid; rw [hW2]; exact (xbel1 _ _).trans ((xbel1 _ _).mono (by simp))
  have HX0 : Hid (W2.cell? ⟨W.heap.size, 0, none⟩ = some (.int .i64 x.a)) := by unfold Hid; rw [hW2]; go_simp
  have HX1 : Hid (W2.cell? ⟨W.heap.size, 1, none⟩ = some (.int .i64 x.b)) := by unfold Hid; rw [hW2]; go_simp
  have HY0 : Hid (W2.cell? ⟨W.heap.size + 1, 0, none⟩ = some (.int .i64 y.a)) := by unfold Hid; rw [hW2]; go_simp
  have HY1 : Hid (W2.cell? ⟨W.heap.size + 1, 1, none⟩ = some (.int .i64 y.b)) := by unfold Hid; rw [hW2]; go_simp
  have HG : Hid ((W2.alloc (.cells (madeCells #[.int .i64 0, .int .i64 0] ((xs.length + 70) * 2)) 24)).heap[W2.heap.size]? = some (.cells (wcells (List.replicate (xs.length + 70) ⟨0, 0⟩)).toArray 24 (0, 0))) := by
    rw [Hid, heap_alloc_new, ← zeros_list]
  have hcs' : (wcells xs).length = Nat.min xs.length (xs.length + 70) * 2 := by rw [wcells_length, show Nat.min xs.length (xs.length + 70) = xs.length from Nat.min_eq_left (by omega)]
  have HCS' : Hid ((wcells xs).length = Nat.min xs.length (xs.length + 70) * 2) := hcs'
  have HBZ : Hid (Below W2.heap.size W2 (W2.alloc (.cells (madeCells #[.int .i64 0, .int .i64 0] ((xs.length + 70) * 2)) 24))) := xbel1 _ _
  have HSRC : Hid (0 < (wcells xs).length → ∃ ad, a = some ad ∧ ∀ (j : Nat) v, (wcells xs)[j]? = some v → (W2.alloc (.cells (madeCells #[.int .i64 0, .int .i64 0] ((xs.length + 70) * 2)) 24)).cell? (ad.add j) = some v) := by
    intro hp
    obtain ⟨b, off, e, -⟩ := HCL.out 0 _ (List.getElem?_eq_getElem hp)
    refine ⟨_, e, fun j v hj => ?_⟩
    obtain ⟨b', off', e', hc⟩ := HCL.out j v hj
    rw [e] at e'
    cases e'
    rw [WideShapes.add_plain]
    exact xcell (xbel1 _ _) (xcell HB2.out hc)
  have HFIT : Hid ((wcells xs).length ≤ (wcells (List.replicate (xs.length + 70) (⟨0, 0⟩ : Wn))).length) := by unfold Hid; rw [wcells_length, wcells_length, List.length_replicate]; omega
  have hS1 := slice_toW W2.heap.size 0 (xs.length + 70) (xs.length + 70) xs.length (by omega)
  have hS2 := sliceAt_toW W2.heap.size 0 (xs.length + 70) (xs.length + 70) xs.length (by omega)
  have HC := cmpW_lt x y
  have HC2 := cmpW_gt x y
  clear hcl hcs'
  go_enter Try.func3, Try.ntmps3
  go_upto_region 1 with fail
  rw [← hW2]
  clear hW2
  have HW2S := hidMk hW2s
  clear hW2s
  go_wp2_with (first
    | (refine wpList_copy_k rfl _ _ 22 22 rfl 24 2 Try.underlying22 sizeWn W2.heap.size (xs.length + 70) (xs.length + 70) a xs.length cap rfl rfl _ 24 HG.out (wcells xs) HCS'.out (by decide) HSRC.out HFIT.out (wcells_one xs) W2.heap.size W2 HBZ.out (Nat.le_refl _) ?_))
  intro w1 HG1 hb1
  have HB1 : Hid (Below W2.heap.size W2 w1) := hb1
  have HI1 : Hid (RdW w1 (.slice (some ⟨W2.heap.size, 0, none⟩) xs.length (xs.length + 70)) xs) := RdW.block HG1.out
  have HL1 : Hid (RdW w1 (.slice a xs.length cap) xs) := (HR.out.later HB2.out).later hb1
  have hx0 := xcell hb1 HX0.out
  have hx1 := xcell hb1 HX1.out
  have hy0 := xcell hb1 HY0.out
  have hy1 := xcell hb1 HY1.out
  have hs1 : W2.heap.size ≤ w1.heap.size := hb1.size
  clear HG1 hb1 HG HCS' HBZ HSRC HFIT hmk
  go_wp2_with fail
  refine (callsIn_wide.1 (merge_any w1 _ xs hmax HI1.out)).mono ?_
  rintro e w2 ⟨u2, ps, rfl, hps, hown2, hb2⟩
  have HP : Hid (Srt xs ps) := hps
  have HO2 : Hid (w2.ownsRow w1.heap.size 24 2 u2 (mFold (some_ ps)).length (wcells (mFold (some_ ps)))) := hown2
  have HB12 : Hid (Below w1.heap.size w1 w2) := hb2
  clear hps hown2 hb2
  go_wp2_with fail
  refine (rmerge_any w2 _ xs hmax (HL1.out.later HB12.out)).mono ?_
  rintro e w3 ⟨u3, ys, rfl, hown3, hfin, hlen, hb3⟩
  have hys : mFold (some_ ps) = ys := merge_same HP.out.1 HP.out.2 hfin.1 hfin.2.1 hfin.2.2.1 hfin.2.2.2
  have HO3 : Hid (w3.ownsRow w1.heap.size 24 2 u2 ys.length (wcells ys)) := by unfold Hid; rw [← hys]; exact own_later HO2.out hb3
  have HM3 : Hid (RdW w3 u3 ys) := RdW.own hown3
  have HB13 : Hid (Below w1.heap.size w1 w3) := HB12.out.trans (hb3.mono HB12.out.size)
  have HLEN : Hid (ys.length ≤ xs.length) := hlen
  clear hown3 hfin hlen hb3 hys HO2 HP HB12
  obtain ⟨a2, c2, rfl, -⟩ := RdW.own HO3.out
  obtain ⟨a3, c3, rfl, -⟩ := HM3.out
  go_wp2_with fail
  refine (same_true _ _ ys _ (by have := HLEN.out; omega) (RdW.own HO3.out) HM3.out).mono ?_
  rintro e w4 ⟨rfl, b4⟩
  have HB14 : Hid (Below w1.heap.size w1 w4) := HB13.out.trans (b4.mono HB13.out.size)
  have HO4 : Hid (w4.ownsRow w1.heap.size 24 2 (.slice a2 ys.length c2) ys.length (wcells ys)) := own_later HO3.out b4
  clear b4 HB13 HO3 HM3
  go_wp2_with fail
  refine (same_true _ _ xs _ (by omega) (HI1.out.later HB14.out) (HL1.out.later HB14.out)).mono ?_
  rintro e w5 ⟨rfl, b5⟩
  have HB15 : Hid (Below w1.heap.size w1 w5) := HB14.out.trans (b5.mono HB14.out.size)
  have HO5 : Hid (w5.ownsRow w1.heap.size 24 2 (.slice a2 ys.length c2) ys.length (wcells ys)) := own_later HO4.out b5
  have kx0 := xcell HB15.out hx0
  have kx1 := xcell HB15.out hx1
  have ky0 := xcell HB15.out hy0
  have ky1 := xcell HB15.out hy1
  clear b5 HB14 HO4
  go_wp2_with fail
  refine (meet_any x y _).mono ?_
  rintro e w6 ⟨rfl, e6⟩
  have b6 : Below w5.heap.size w5 w6 := by rw [e6]; exact (xbel1 _ _).trans ((xbel1 _ _).mono (by simp))
  have mx0 := xcell b6 kx0
  have mx1 := xcell b6 kx1
  have my0 := xcell b6 ky0
  have my1 := xcell b6 ky1
  clear e6
  go_wp2_with fail
  refine (rmeet_any x y _).mono ?_
  rintro e w7 ⟨rfl, e7⟩
  have b7 : Below w6.heap.size w6 w7 := by rw [e7]; exact (xbel1 _ _).trans ((xbel1 _ _).mono (by simp))
  have nx0 := xcell b7 mx0
  have nx1 := xcell b7 mx1
  have ny0 := xcell b7 my0
  have ny1 := xcell b7 my1
  clear e7
  go_wp2_with fail
  refine (compare_any x y _).mono ?_
  rintro e w8 ⟨rfl, b8⟩
  have px0 := xcell b8 nx0
  have px1 := xcell b8 nx1
  have py0 := xcell b8 ny0
  have py1 := xcell b8 ny1
  go_wp2_with fail
  refine (before_any x y _).mono ?_
  rintro e w9 ⟨rfl, b9⟩
  have qx0 := xcell b9 px0
  have qx1 := xcell b9 px1
  have qy0 := xcell b9 py0
  have qy1 := xcell b9 py1
  go_wp2_with fail
  refine (before_any y x _).mono ?_
  rintro e w10 ⟨rfl, b10⟩
  have B510 : Below w5.heap.size w5 w10 := b6.trans ((b7.trans ((b8.trans ((b9.trans (b10.mono b9.size)).mono b8.size)).mono b7.size)).mono b6.size)
  have HB10 : Hid (Below w1.heap.size w1 w10) := HB15.out.trans (B510.mono HB15.out.size)
  have HO10 : Hid (w10.ownsRow w1.heap.size 24 2 (.slice a2 ys.length c2) ys.length (wcells ys)) := own_later HO5.out B510
  clear B510 b6 b7 b8 b9 b10 HB15 HO5 kx0 kx1 ky0 ky1 mx0 mx1 my0 my1 nx0 nx1 ny0 ny1 px0 px1 py0 py1 qx0 qx1 qy0 qy1 hx0 hx1 hy0 hy1
  have hyl : ys.length ≤ xs.length := HLEN.out
  go_wp2_with fail
  go_loopg [17] ys.length (fun gk i wr => ∃ (k : Nat) (zs : List Wn), gk + k = ys.length ∧ i = .int .i64 k ∧ zs.length = ys.length ∧ wr.ownsRow w1.heap.size 24 2 (.slice a2 ys.length c2) ys.length (wcells zs) ∧ Below w1.heap.size w1 wr)
  case atStart => exact ⟨0, ys, by omega, rfl, rfl, HO10.out, HB10.out⟩
  case round =>
    clear HO10 HB10
    obtain ⟨k, zs, hgk, rfl, hzl, hrow, hb⟩ := hrel
    by_cases hlt : k < ys.length
    · have hlt' : (k : Int) < (ys.length : Int) := by omega
      obtain ⟨g, rfl⟩ := own_form hrow (by omega)
      obtain ⟨z, hz⟩ : ∃ z, zs[k]? = some z := ⟨zs[k]'(by omega), by simp [show k < zs.length by omega]⟩
      obtain ⟨hc0, hc1⟩ := own_at hrow hz
      have f0 := own_frozen hrow (k * 2)
      have f1 := own_frozen hrow (k * 2 + 1)
      have hg1 := (own_block hrow).1
      have HZL := hidMk hzl
      have HRW := hidMk hrow
      have HZ := hidMk hz
      clear hzl hrow hz
      go_wp2_with fail
      go_roundg (gk - 1)
      case measure => omega
      case rel => exact ⟨k + 1, zs.set k ⟨-9, -9⟩, by omega, by go_num, by rw [List.length_set]; exact HZL.out, own_set2 HRW.out HZ.out, (hb.setCell (p := ⟨g, k * 2, none⟩) hg1 _).setCell (p := ⟨g, k * 2 + 1, none⟩) hg1 _⟩
    · have hlt' : ¬ (k : Int) < (ys.length : Int) := by omega
      have HB := hidMk hb
      clear hb hrow hzl
      go_wp2_with fail
      refine (same_true _ _ xs _ (by omega) (HI1.out.later HB.out) (HL1.out.later HB.out)).mono ?_
      rintro e w11 ⟨rfl, b11⟩
      go_wp2_with fail
      go_ret
      refine ⟨?_, ?_⟩
      · rfl
      · have h1 := HB.out.trans (b11.mono HB.out.size)
        have h2 := HB1.out.trans (h1.mono HB1.out.size)
        exact HB2.out.trans (h2.mono HB2.out.size)
end Go.Proofs.Ytkedbmpnhplmaaa
