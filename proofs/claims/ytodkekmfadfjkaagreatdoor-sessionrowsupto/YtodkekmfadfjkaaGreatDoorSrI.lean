import Derived.Test.YtodkekmfadfjkaaGreatDoorSrH
import Derived.Test.YtodkekmfadfjkaaGreatDoorTdB
namespace Go.Proofs.YtodkekmfadfjkaaGreatDoor
open Go.RowKit
set_option linter.unusedVariables false
set_option linter.unusedSimpArgs false
set_option maxRecDepth 100000
attribute [local go_sem ↓] neqVal eqlVal
attribute [local go_sem] guardVal

set_option maxHeartbeats 2000000 in
/-- Any two lists. -/
theorem same_gen (us vs : List V) (a1 : Option Addr) (c1 : Nat) (a2 : Option Addr) (c2 : Nat) (w : World) (h1 : VLies w a1 us) (h2 : VLies w a2 vs) (hu : us.length ≤ 4398046511104) (hl : vs.length ≤ 4398046511104) :
    Calls Tryz.prog 7 #[.slice a1 us.length c1, .slice a2 vs.length c2] w fun e w' => ∃ b : Bool, e = .returned (.bool b) ∧ (us = vs → b = true) ∧ Below w.heap.size w w' := by
  by_cases he : us = vs
  · subst he
    refine (same_any us a1 c1 a2 c2 w h1 h2 hl).mono ?_
    rintro e w' ⟨rfl, m, hw⟩
    exact ⟨true, rfl, fun _ => rfl, by rw [hw]; exact below_drewN (Below.refl _ _) m⟩
  · have HN := hidMk he
    clear he
    have H1 : Hid (VLies w a1 us) := h1
    have H2 : Hid (VLies w a2 vs) := h2
    clear h1 h2
    by_cases hlen : us.length = vs.length
    · have HLN := hidMk hlen
      have hle : (us.length : Int) = (vs.length : Int) := by omega
      rw [← hlen]
      go_enter Tryz.func7, Tryz.ntmps7
      go_wp2
      go_loopw [5] (fun i w' => ∃ k : Nat, k ≤ us.length ∧ i = .int .i64 k ∧ ∃ m, w' = w.drewN m) (fun i _ => us.length - (intOf i).toNat)
      case atStart => exact ⟨0, Nat.zero_le _, rfl, 0, rfl⟩
      case round =>
        obtain ⟨k, hk, rfl, m, rfl⟩ := hrel
        by_cases hlt : k < us.length
        · have hki : (k : Int) < (us.length : Int) := by omega
          obtain ⟨b, o, rfl, e1, e2, e3⟩ := H1.out k hlt
          obtain ⟨b', o', rfl, g1, g2, g3⟩ := H2.out k (by rw [← HLN.out]; exact hlt)
          cases heq : eqB us[k].k us[k].n us[k].s (vs[k]'(by rw [← HLN.out]; exact hlt)).k (vs[k]'(by rw [← HLN.out]; exact hlt)).n (vs[k]'(by rw [← HLN.out]; exact hlt)).s with
          | true =>
            go_wp2
            go_quiet (fail)
            go_wp2
            go_roundw
            case rel => exact ⟨k + 1, by omega, by go_num, _, rfl⟩
            case measure => simp [intOf]; omega
          | false =>
            go_wp2
            go_quiet (fail)
            go_wp2
            go_ret
            exact ⟨false, rfl, fun h => absurd h HN.out, below_drewN (below_drewN (Below.refl _ _) _) _⟩
        · obtain rfl : k = us.length := by omega
          go_wp2
          go_ret
          exact ⟨true, rfl, fun _ => rfl, below_drewN (Below.refl _ _) m⟩
    · have hle : ¬ (us.length : Int) = (vs.length : Int) := by omega
      clear hlen
      go_enter Tryz.func7, Tryz.ntmps7
      go_wp2
      go_ret
      exact ⟨false, rfl, fun h => absurd h HN.out, Below.refl _ _⟩
set_option maxHeartbeats 8000000 in
/-- The law. -/
theorem rows_walk (l : List UInt8) (t : Int) (vs : List V) (a : Option Addr) (c : Nat) (w : World) (hl : l.length ≤ 1048576) (hvl : VLies w a vs) (hfit : ∀ v ∈ vs, FitV v) (hn : vs.length ≤ 1048576) (ht0 : -9223372036854775808 ≤ t) (ht1 : t ≤ 9223372036854775807) (hsm : (showR t vs).length ≤ 268435456) (hS : ∀ W, Below w.heap.size w W → Vl.Sen W ∧ Vl.Sen3 W ∧ Vl.Tab W ∧ Td.Ety W) :
    Calls Tryz.prog 3 #[.string ⟨l.toArray⟩, .agg #[.int .i64 t, .slice a vs.length c]] w fun e w' => e = .returned (.bool true) ∧ Below w.heap.size w w' := by
  have HVL := hidMk hvl
  have HFT := hidMk hfit
  have HTR := hidMk (And.intro ht0 ht1)
  have HSM := hidMk hsm
  have HS := hidMk hS
  have HG0 := hidMk (Own.new w 24 2 #[.int .i64 t, .slice a vs.length c] rfl)
  have HB0 := hidMk (bel1 w (.cells #[.int .i64 t, .slice a vs.length c] 24))
  clear hvl hfit ht0 ht1 hsm hS
  go_enter Tryz.func3, Tryz.ntmps3
  go_wp2_with fail
  generalize w.alloc (.cells #[.int .i64 t, .slice a vs.length c] 24) = W0 at *
  refine (row_any l W0 (by omega) (fun W hW => ⟨(HS.out _ (HB0.out.trans (hW.mono HB0.out.size))).1, (HS.out _ (HB0.out.trans (hW.mono HB0.out.size))).2.1, (HS.out _ (HB0.out.trans (hW.mono HB0.out.size))).2.2.1⟩)).mono ?_
  rintro e w1 ⟨b1, hr⟩
  have HW1 := hidMk (HB0.out.trans (b1.mono HB0.out.size))
  have HG1 := hidMk (HG0.out.later b1)
  clear b1 HG0 HB0
  rcases hr with ⟨t1, vs1, a1, c1, rfl, hv1, his, hun⟩ | ⟨hno, rfl⟩
  · have HIS := hidMk his
    have HUN := hidMk hun
    have HBX := hidMk (bel1 w1 (.cells #[.int .i64 t1, .slice a1 vs1.length c1] 24))
    have HX1 := hidMk (Own.new w1 24 2 #[.int .i64 t1, .slice a1 vs1.length c1] rfl)
    have HV1 := hidMk (hv1.later HBX.out)
    have HGX := hidMk (HG1.out.later HBX.out)
    have HWX := hidMk (HW1.out.trans (HBX.out.mono HW1.out.size))
    clear hv1 his hun HG1 HW1
    go_wp2_with fail
    generalize w1.alloc (.cells #[.int .i64 t1, .slice a1 vs1.length c1] 24) = W1 at *
    generalize w1.heap.size = gx at *
    refine (rowD_any l W1 hl).mono ?_
    rintro e w2 ⟨b2, t2, vs2, a2, c2, ok, rfl, hv2, hl2, hf2, hy, hn2⟩
    have hok : ok = true := by
      cases ok with
      | true => rfl
      | false => exact absurd HIS.out (hn2 rfl _ _)
    subst hok
    obtain ⟨e1, e2⟩ := HUN.out t2 vs2 (hy rfl)
    subst e1
    subst e2
    have HL8 : Hid (vs2.length ≤ 8) := HIS.out.time.2.2
    have HBY := hidMk (bel1 w2 (.cells #[.int .i64 t2, .slice a2 vs2.length c2] 24))
    have HY2 := hidMk (Own.new w2 24 2 #[.int .i64 t2, .slice a2 vs2.length c2] rfl)
    have HX2 := hidMk ((HX1.out.later b2).later HBY.out)
    have HV2 := hidMk (hv2.later HBY.out)
    have HV1' := hidMk ((HV1.out.later b2).later HBY.out)
    have HG2 := hidMk ((HGX.out.later b2).later HBY.out)
    have HW2 := hidMk ((HWX.out.trans (b2.mono HWX.out.size)).trans (HBY.out.mono (Nat.le_trans HWX.out.size b2.size)))
    clear hv2 hf2 hy hn2 b2 HX1 HGX HWX HV1 HIS HUN HBX
    go_wp2_with fail
    generalize w2.alloc (.cells #[.int .i64 t2, .slice a2 vs2.length c2] 24) = W2 at *
    generalize w2.heap.size = gy at *
    refine (Td.told_nil W2).mono ?_
    rintro e w3 ⟨rfl, hw3⟩
    replace hw3 := hw3.symm; subst hw3
    have HSA := hidMk (same_any vs2 a1 c1 a2 c2 W2 HV1'.out HV2.out (by have := HL8.out; omega))
    have x0 := HX2.out.cell 0 (by decide)
    have x1 := HX2.out.cell 1 (by decide)
    have y0 := HY2.out.cell 0 (by decide)
    have y1 := HY2.out.cell 1 (by decide)
    go_wp2_with fail
    refine HSA.out.mono ?_
    rintro e w4 ⟨rfl, m4, hw4⟩
    have HB4 : Hid (Below W2.heap.size W2 w4) := by rw [Hid, hw4]; exact below_drewN (Below.refl _ _) m4
    have HGW := hidMk (HG2.out.later HB4.out)
    have HWW := hidMk (HW2.out.trans (HB4.out.mono HW2.out.size))
    replace x0 := cell_later HB4.out x0
    replace x1 := cell_later HB4.out x1
    replace y0 := cell_later HB4.out y0
    clear y1 hw4 HB4 HSA HG2 HW2 HV1' HV2 HX2 HY2
    have r0 := HGW.out.cell 0 (by decide)
    have r1 := HGW.out.cell 1 (by decide)
    have HVR := hidMk (refValidRow_any ⟨t, vs⟩ a c w4 (HVL.out.later HWW.out) ⟨by show vs.length ≤ maxLen; unfold maxLen; omega, fun v hv => (HFT.out v hv).1⟩)
    go_wp2_with fail
    refine HVR.out.mono ?_
    rintro e w5 ⟨rfl, b5⟩
    have HG5 := hidMk (HGW.out.later b5)
    have HW5 := hidMk (HWW.out.trans (b5.mono HWW.out.size))
    clear b5 HVR r0 r1 HGW HWW
    have r0 := HG5.out.cell 0 (by decide)
    have r1 := HG5.out.cell 1 (by decide)
    have HSH := hidMk (show_run t vs a c w5 (HVL.out.later HW5.out) HFT.out (by omega) HTR.out.1 HTR.out.2 (HS.out _ HW5.out).2.2.1)
    go_wp2_with fail
    refine HSH.out.mono ?_
    rintro e w6 ⟨rfl, b6⟩
    have HG6 := hidMk (HG5.out.later b6)
    have HW6 := hidMk (HW5.out.trans (b6.mono HW5.out.size))
    clear b6 HSH r0 r1 HG5 HW5
    have r0 := HG6.out.cell 0 (by decide)
    have r1 := HG6.out.cell 1 (by decide)
    have HSD := hidMk (showD_run t vs a c w6 (HVL.out.later HW6.out) HFT.out (by omega) HTR.out.1 HTR.out.2)
    go_wp2_with fail
    refine HSD.out.mono ?_
    rintro e w7 ⟨rfl, b7⟩
    have HG7 := hidMk (HG6.out.later b7)
    have HW7 := hidMk (HW6.out.trans (b7.mono HW6.out.size))
    clear b7 HSD r0 r1 HG6 HW6
    have HRR := hidMk (row_any (showR t vs) w7 HSM.out (fun W hW => ⟨(HS.out _ (HW7.out.trans (hW.mono HW7.out.size))).1, (HS.out _ (HW7.out.trans (hW.mono HW7.out.size))).2.1, (HS.out _ (HW7.out.trans (hW.mono HW7.out.size))).2.2.1⟩))
    have HIL : Hid (validR ⟨t, vs⟩ = true → Is (showR t vs) t vs) := fun h => ⟨h, HFT.out, rfl⟩
    generalize showR t vs = L at *
    generalize validR ⟨t, vs⟩ = vb at *
    go_wp2_with fail
    refine HRR.out.mono ?_
    rintro e w8 ⟨b8, hr⟩
    have HG8 := hidMk (HG7.out.later b8)
    have HW8 := hidMk (HW7.out.trans (b8.mono HW7.out.size))
    have hlt8 := HG8.out.lt
    clear b8 HRR HG7 HW7
    rcases hr with ⟨t3, vs3, a3, c3, rfl, hv3, his3, hun3⟩ | ⟨hno3, rfl⟩
    · have HUN3 : Hid (vb = true → t3 = t ∧ vs3 = vs) := fun h => by
        obtain ⟨q1, q2⟩ := hun3 t vs (HIL.out h)
        exact ⟨q1.symm, q2.symm⟩
      have HL3 : Hid (vs3.length ≤ 8) := his3.time.2.2
      have HB9 := hidMk (bel1 w8 (.cells #[.int .i64 t3, .slice a3 vs3.length c3] 24))
      have HZ9 := hidMk (Own.new w8 24 2 #[.int .i64 t3, .slice a3 vs3.length c3] rfl)
      have HG9 := hidMk (HG8.out.later HB9.out)
      have HW9 := hidMk (HW8.out.trans (HB9.out.mono HW8.out.size))
      have HV3 := hidMk (hv3.later HB9.out)
      have HSA := hidMk (same_gen vs3 vs a3 c3 a c _ HV3.out (HVL.out.later HW9.out) (by have := HL3.out; omega) (by omega))
      have z0 := HZ9.out.cell 0 (by decide)
      have z1 := HZ9.out.cell 1 (by decide)
      have y0 := HG8.out.cell 0 (by decide)
      have y1 := HG8.out.cell 1 (by decide)
      clear hv3 his3 hun3 HIL
      go_wp2_with fail
      generalize w8.alloc (.cells #[.int .i64 t3, .slice a3 vs3.length c3] 24) = W9 at *
      refine HSA.out.mono ?_
      rintro e w9 ⟨bb, rfl, hbb, hw9⟩
      have HB10 : Hid (Below W9.heap.size W9 w9) := hw9
      have HW10 := hidMk (HW9.out.trans (HB10.out.mono HW9.out.size))
      replace z0 := cell_later HB10.out z0
      have y0' := cell_later HB10.out (HG9.out.cell 0 (by decide))
      clear hw9 HSA y0 y1 z1
      cases vb with
      | true =>
        obtain ⟨e1, e2⟩ := HUN3.out rfl
        have hbt := hbb e2
        subst hbt
        rw [e1] at z0
        clear hbb e1 e2 HUN3
        go_wp2_with fail
        go_ret
        exact ⟨by simp, HW10.out⟩
      | false =>
        clear hbb HUN3
        go_wp2_with fail
        go_ret
        exact ⟨by simp, HW10.out⟩
    · have hvb : vb = false := by
        cases vb with
        | true => exact absurd (HIL.out rfl) (hno3 _ _)
        | false => rfl
      subst hvb
      have HB9 := hidMk (bel1 w8 (.cells #[.int .i64 0, .slice none 0 0] 24))
      have HZ9 := hidMk (Own.new w8 24 2 #[.int .i64 0, .slice none 0 0] rfl)
      have HG9 := hidMk (HG8.out.later HB9.out)
      have HW9 := hidMk (HW8.out.trans (HB9.out.mono HW8.out.size))
      have HSA : Hid (Calls Tryz.prog 7 #[.slice none 0 0, .slice a vs.length c] (w8.alloc (.cells #[.int .i64 0, .slice none 0 0] 24)) fun e w' => ∃ b : Bool, e = .returned (.bool b) ∧ (([] : List V) = vs → b = true) ∧ Below (w8.alloc (.cells #[.int .i64 0, .slice none 0 0] 24)).heap.size (w8.alloc (.cells #[.int .i64 0, .slice none 0 0] 24)) w') := same_gen [] vs none 0 a c _ (fun i hi => by simp at hi) (HVL.out.later HW9.out) (by simp) (by omega)
      have y0 := HG8.out.cell 0 (by decide)
      have y1 := HG8.out.cell 1 (by decide)
      clear hno3 HIL
      go_wp2_with fail
      generalize w8.alloc (.cells #[.int .i64 0, .slice none 0 0] 24) = W9 at *
      refine HSA.out.mono ?_
      rintro e w9 ⟨bb, rfl, hbb, hw9⟩
      have HB10 : Hid (Below W9.heap.size W9 w9) := hw9
      have HW10 := hidMk (HW9.out.trans (HB10.out.mono HW9.out.size))
      clear hw9 HSA hbb y0 y1
      go_wp2_with fail
      go_ret
      exact ⟨by simp, HW10.out⟩
  · have HNO := hidMk hno
    have HBX := hidMk (bel1 w1 (.cells #[.int .i64 0, .slice none 0 0] 24))
    have HX1 := hidMk (Own.new w1 24 2 #[.int .i64 0, .slice none 0 0] rfl)
    have HGX := hidMk (HG1.out.later HBX.out)
    have HWX := hidMk (HW1.out.trans (HBX.out.mono HW1.out.size))
    clear hno HG1 HW1
    go_wp2_with fail
    generalize w1.alloc (.cells #[.int .i64 0, .slice none 0 0] 24) = W1 at *
    generalize w1.heap.size = gx at *
    refine (rowD_any l W1 hl).mono ?_
    rintro e w2 ⟨b2, t2, vs2, a2, c2, ok, rfl, hv2, hl2, hf2, hy, hn2⟩
    have hok : ok = false := by
      cases ok with
      | false => rfl
      | true => exact absurd (hy rfl) (HNO.out _ _)
    subst hok
    have HBY := hidMk (bel1 w2 (.cells #[.int .i64 t2, .slice a2 vs2.length c2] 24))
    have HY2 := hidMk (Own.new w2 24 2 #[.int .i64 t2, .slice a2 vs2.length c2] rfl)
    have HX2 := hidMk ((HX1.out.later b2).later HBY.out)
    have HV2 := hidMk (hv2.later HBY.out)
    have HG2 := hidMk ((HGX.out.later b2).later HBY.out)
    have HW2 := hidMk ((HWX.out.trans (b2.mono HWX.out.size)).trans (HBY.out.mono (Nat.le_trans HWX.out.size b2.size)))
    have HTD : Hid (∀ V, Below w.heap.size w V → Calls Tryz.prog 6 #[.iface 31 (.int .i64 1)] V fun e w' => e = .returned (.int .i64 1) ∧ Below V.heap.size V w') := fun V hV => Td.told_errno 1 V (HS.out _ hV).2.2.2
    clear hv2 hf2 hy hn2 b2 HX1 HGX HWX HNO HBX
    go_wp2_with fail
    generalize w2.alloc (.cells #[.int .i64 t2, .slice a2 vs2.length c2] 24) = W2 at *
    generalize w2.heap.size = gy at *
    refine (HTD.out W2 HW2.out).mono ?_
    rintro e w3 ⟨rfl, b3⟩
    have HX3 := hidMk (HX2.out.later b3)
    have HY3 := hidMk (HY2.out.later b3)
    have HV3 := hidMk (HV2.out.later b3)
    have HG3 := hidMk (HG2.out.later b3)
    have HW3 := hidMk (HW2.out.trans (b3.mono HW2.out.size))
    have HSA : Hid (Calls Tryz.prog 7 #[.slice none 0 0, .slice a2 vs2.length c2] w3 fun e w' => ∃ b : Bool, e = .returned (.bool b) ∧ (([] : List V) = vs2 → b = true) ∧ Below w3.heap.size w3 w') := same_gen [] vs2 none 0 a2 c2 w3 (fun i hi => by simp at hi) HV3.out (by simp) (by omega)
    have x0 := HX3.out.cell 0 (by decide)
    have x1 := HX3.out.cell 1 (by decide)
    have y0 := HY3.out.cell 0 (by decide)
    have y1 := HY3.out.cell 1 (by decide)
    clear b3 HX2 HY2 HV2 HG2 HW2 HTD
    go_wp2_with fail
    refine HSA.out.mono ?_
    rintro e w4 ⟨sb, rfl, -, hw4⟩
    have HB4 : Hid (Below w3.heap.size w3 w4) := hw4
    have HGW := hidMk (HG3.out.later HB4.out)
    have HWW := hidMk (HW3.out.trans (HB4.out.mono HW3.out.size))
    replace x0 := cell_later HB4.out x0
    replace x1 := cell_later HB4.out x1
    replace y0 := cell_later HB4.out y0
    clear y1 hw4 HB4 HSA HG3 HW3 HV3 HX3 HY3
    have r0 := HGW.out.cell 0 (by decide)
    have r1 := HGW.out.cell 1 (by decide)
    have HVR := hidMk (refValidRow_any ⟨t, vs⟩ a c w4 (HVL.out.later HWW.out) ⟨by show vs.length ≤ maxLen; unfold maxLen; omega, fun v hv => (HFT.out v hv).1⟩)
    go_wp2_with fail
    refine HVR.out.mono ?_
    rintro e w5 ⟨rfl, b5⟩
    have HG5 := hidMk (HGW.out.later b5)
    have HW5 := hidMk (HWW.out.trans (b5.mono HWW.out.size))
    clear b5 HVR r0 r1 HGW HWW
    have r0 := HG5.out.cell 0 (by decide)
    have r1 := HG5.out.cell 1 (by decide)
    have HSH := hidMk (show_run t vs a c w5 (HVL.out.later HW5.out) HFT.out (by omega) HTR.out.1 HTR.out.2 (HS.out _ HW5.out).2.2.1)
    go_wp2_with fail
    refine HSH.out.mono ?_
    rintro e w6 ⟨rfl, b6⟩
    have HG6 := hidMk (HG5.out.later b6)
    have HW6 := hidMk (HW5.out.trans (b6.mono HW5.out.size))
    clear b6 HSH r0 r1 HG5 HW5
    have r0 := HG6.out.cell 0 (by decide)
    have r1 := HG6.out.cell 1 (by decide)
    have HSD := hidMk (showD_run t vs a c w6 (HVL.out.later HW6.out) HFT.out (by omega) HTR.out.1 HTR.out.2)
    go_wp2_with fail
    refine HSD.out.mono ?_
    rintro e w7 ⟨rfl, b7⟩
    have HG7 := hidMk (HG6.out.later b7)
    have HW7 := hidMk (HW6.out.trans (b7.mono HW6.out.size))
    clear b7 HSD r0 r1 HG6 HW6
    have HRR := hidMk (row_any (showR t vs) w7 HSM.out (fun W hW => ⟨(HS.out _ (HW7.out.trans (hW.mono HW7.out.size))).1, (HS.out _ (HW7.out.trans (hW.mono HW7.out.size))).2.1, (HS.out _ (HW7.out.trans (hW.mono HW7.out.size))).2.2.1⟩))
    have HIL : Hid (validR ⟨t, vs⟩ = true → Is (showR t vs) t vs) := fun h => ⟨h, HFT.out, rfl⟩
    generalize showR t vs = L at *
    generalize validR ⟨t, vs⟩ = vb at *
    go_wp2_with fail
    refine HRR.out.mono ?_
    rintro e w8 ⟨b8, hr⟩
    have HG8 := hidMk (HG7.out.later b8)
    have HW8 := hidMk (HW7.out.trans (b8.mono HW7.out.size))
    have hlt8 := HG8.out.lt
    clear b8 HRR HG7 HW7
    rcases hr with ⟨t3, vs3, a3, c3, rfl, hv3, his3, hun3⟩ | ⟨hno3, rfl⟩
    · have HUN3 : Hid (vb = true → t3 = t ∧ vs3 = vs) := fun h => by
        obtain ⟨q1, q2⟩ := hun3 t vs (HIL.out h)
        exact ⟨q1.symm, q2.symm⟩
      have HL3 : Hid (vs3.length ≤ 8) := his3.time.2.2
      have HB9 := hidMk (bel1 w8 (.cells #[.int .i64 t3, .slice a3 vs3.length c3] 24))
      have HZ9 := hidMk (Own.new w8 24 2 #[.int .i64 t3, .slice a3 vs3.length c3] rfl)
      have HG9 := hidMk (HG8.out.later HB9.out)
      have HW9 := hidMk (HW8.out.trans (HB9.out.mono HW8.out.size))
      have HV3 := hidMk (hv3.later HB9.out)
      have HSA := hidMk (same_gen vs3 vs a3 c3 a c _ HV3.out (HVL.out.later HW9.out) (by have := HL3.out; omega) (by omega))
      have z0 := HZ9.out.cell 0 (by decide)
      have z1 := HZ9.out.cell 1 (by decide)
      have y0 := HG8.out.cell 0 (by decide)
      have y1 := HG8.out.cell 1 (by decide)
      clear hv3 his3 hun3 HIL
      go_wp2_with fail
      generalize w8.alloc (.cells #[.int .i64 t3, .slice a3 vs3.length c3] 24) = W9 at *
      refine HSA.out.mono ?_
      rintro e w9 ⟨bb, rfl, hbb, hw9⟩
      have HB10 : Hid (Below W9.heap.size W9 w9) := hw9
      have HW10 := hidMk (HW9.out.trans (HB10.out.mono HW9.out.size))
      replace z0 := cell_later HB10.out z0
      have y0' := cell_later HB10.out (HG9.out.cell 0 (by decide))
      clear hw9 HSA y0 y1 z1
      cases vb with
      | true =>
        obtain ⟨e1, e2⟩ := HUN3.out rfl
        have hbt := hbb e2
        subst hbt
        rw [e1] at z0
        clear hbb e1 e2 HUN3
        go_wp2_with fail
        go_ret
        exact ⟨by simp, HW10.out⟩
      | false =>
        clear hbb HUN3
        go_wp2_with fail
        go_ret
        exact ⟨by simp, HW10.out⟩
    · have hvb : vb = false := by
        cases vb with
        | true => exact absurd (HIL.out rfl) (hno3 _ _)
        | false => rfl
      subst hvb
      have HB9 := hidMk (bel1 w8 (.cells #[.int .i64 0, .slice none 0 0] 24))
      have HZ9 := hidMk (Own.new w8 24 2 #[.int .i64 0, .slice none 0 0] rfl)
      have HG9 := hidMk (HG8.out.later HB9.out)
      have HW9 := hidMk (HW8.out.trans (HB9.out.mono HW8.out.size))
      have HSA : Hid (Calls Tryz.prog 7 #[.slice none 0 0, .slice a vs.length c] (w8.alloc (.cells #[.int .i64 0, .slice none 0 0] 24)) fun e w' => ∃ b : Bool, e = .returned (.bool b) ∧ (([] : List V) = vs → b = true) ∧ Below (w8.alloc (.cells #[.int .i64 0, .slice none 0 0] 24)).heap.size (w8.alloc (.cells #[.int .i64 0, .slice none 0 0] 24)) w') := same_gen [] vs none 0 a c _ (fun i hi => by simp at hi) (HVL.out.later HW9.out) (by simp) (by omega)
      have y0 := HG8.out.cell 0 (by decide)
      have y1 := HG8.out.cell 1 (by decide)
      clear hno3 HIL
      go_wp2_with fail
      generalize w8.alloc (.cells #[.int .i64 0, .slice none 0 0] 24) = W9 at *
      refine HSA.out.mono ?_
      rintro e w9 ⟨bb, rfl, hbb, hw9⟩
      have HB10 : Hid (Below W9.heap.size W9 w9) := hw9
      have HW10 := hidMk (HW9.out.trans (HB10.out.mono HW9.out.size))
      clear hw9 HSA hbb y0 y1
      go_wp2_with fail
      go_ret
      exact ⟨by simp, HW10.out⟩
end Go.Proofs.YtodkekmfadfjkaaGreatDoor
