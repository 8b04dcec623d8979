import Derived.Test.YtplaplhmjpfbjaaGreatDoorOb1
import Derived.Test.YtplaplhmjpfbjaaGreatDoorXf1
namespace Go.Proofs.YtplaplhmjpfbjaaGreatDoor.Oo
open Go.RowKit
set_option linter.unusedVariables false
set_option linter.unusedSimpArgs false
set_option maxRecDepth 100000
attribute [local go_sem ↓] neqlW eqlW
attribute [local go_sem] guardW

theorem places_at {l : List Int} {m : Nat} (h : placesB l m = true) : l.length ≤ 8 ∧ ∀ j (hj : j < l.length), placeB l[j] m = true := by
  unfold placesB at h
  rw [Bool.and_eq_true] at h
  refine ⟨of_decide_eq_true h.2, fun j hj => ?_⟩
  exact List.all_eq_true.1 h.1 _ (List.getElem_mem hj)
set_option maxHeartbeats 8000000 in
theorem window_any (o : OpD) (p : OpA) (w : World) (hs : OpSz o) (hat : OpAt w o p) :
    Calls Tryz.prog 26 #[.agg (opCs o p)] w (OutP w (windowO o)) := by
  have HC := hidO hat.c
  have HI := hidO hat.k
  have HN := hidO hat.n
  have HG := hidO hat.g
  have hcl := hs.c
  have hkl := hs.k
  have hgl := hs.g
  have HWF := hidO hs.ws
  clear hs hat
  obtain ⟨k, ex, nm, c, r, ks, os, wk, ws, wt, ag, ou⟩ := o
  obtain ⟨ea, ec, na, nc, ca, cc, ra, rc, ka, kc, oa, oc, ga, gc⟩ := p
  unfold opCs
  simp only at *
  obtain ⟨R, hR⟩ : ∃ R, R = windowO ⟨k, ex, nm, c, r, ks, os, wk, ws, wt, ag, ou⟩ := ⟨_, rfl⟩
  have HR0 := hidO hR
  rw [← hR]
  clear hR
  obtain ⟨W1, hW1⟩ : ∃ W1, W1 = w.alloc (.cells #[.int .i64 k, .slice ea ex.length ec, .slice na nm.length nc, .slice ca c.length cc, .slice ra r.length rc, .slice ka ks.length kc, .slice oa os.length oc, .int .i64 wk, .int .i64 ws, .int .i64 wt, .slice ga ag.length gc, .bool ou] 29) := ⟨_, rfl⟩
  have HW : Hid (Below w.heap.size w W1) := by rw [hW1]; exact xbel1 _ _
  have H2 : Hid (W1.cell? ⟨w.heap.size, 2, none⟩ = some (.slice na nm.length nc)) := by rw [hW1]; show _ = _; go_simp
  have H3 : Hid (W1.cell? ⟨w.heap.size, 3, none⟩ = some (.slice ca c.length cc)) := by rw [hW1]; show _ = _; go_simp
  have H5 : Hid (W1.cell? ⟨w.heap.size, 5, none⟩ = some (.slice ka ks.length kc)) := by rw [hW1]; show _ = _; go_simp
  have H7 : Hid (W1.cell? ⟨w.heap.size, 7, none⟩ = some (.int .i64 wk)) := by rw [hW1]; show _ = _; go_simp
  have H8 : Hid (W1.cell? ⟨w.heap.size, 8, none⟩ = some (.int .i64 ws)) := by rw [hW1]; show _ = _; go_simp
  have H9 : Hid (W1.cell? ⟨w.heap.size, 9, none⟩ = some (.int .i64 wt)) := by rw [hW1]; show _ = _; go_simp
  have H10 : Hid (W1.cell? ⟨w.heap.size, 10, none⟩ = some (.slice ga ag.length gc)) := by rw [hW1]; show _ = _; go_simp
  have HPL : Hid (∀ W, Below w.heap.size w W → Calls Tryz.prog 47 #[.slice ka ks.length kc, .slice ca c.length cc] W fun e w' => e = .returned (.bool (placesB ks c.length)) ∧ Below W.heap.size W w') := fun W hW => places_any ks ka kc ca c.length cc W (by omega) hkl (HI.out.later hW)
  have HWV : Hid (∀ W, Calls Tryz.prog 48 #[.agg #[.int .i64 wk, .int .i64 ws, .int .i64 wt]] W fun e w' => e = .returned (.bool (Wn.validB wk ws wt)) ∧ Below W.heap.size W w') := fun W => Wn.valid_any wk ws wt HWF.out W
  have hW1l : w.heap.size < W1.heap.size := World.block_lt_of_cell? _ _ H2.out
  cases hP : placesB ks c.length with
  | false =>
    have HR : Hid (R = .error 4) := by show R = .error 4; rw [HR0.out]; unfold windowO; rw [if_neg]; simp [hP]
    rw [hP] at HPL
    go_enter Tryz.func26, Tryz.ntmps26
    go_wp2_with fail
    rw [← hW1]
    refine (HPL.out _ HW.out).mono ?_
    rintro e w1 ⟨rfl, hb1⟩
    have HB1 : Hid (Below w.heap.size w w1) := HW.out.trans (hb1.mono HW.out.size)
    clear hb1
    go_wp2_with fail
    go_ret2
    rw [HR.out]
    exact outP_err HB1.out rfl
  | true =>
    rw [hP] at HPL
    cases hV : Wn.validB wk ws wt with
    | false =>
      have HR : Hid (R = .error 4) := by show R = .error 4; rw [HR0.out]; unfold windowO winB; rw [if_neg]; simp [hV]
      rw [hV] at HWV
      go_enter Tryz.func26, Tryz.ntmps26
      go_wp2_with fail
      rw [← hW1]
      refine (HPL.out _ HW.out).mono ?_
      rintro e w1 ⟨rfl, hb1⟩
      have HB1 : Hid (Below w.heap.size w w1) := HW.out.trans (hb1.mono HW.out.size)
      have c7 := xcell hb1 H7.out
      have c8 := xcell hb1 H8.out
      have c9 := xcell hb1 H9.out
      have hwl : w.heap.size < w1.heap.size := World.block_lt_of_cell? _ _ c7
      clear hb1
      go_wp2_with fail
      refine (HWV.out _).mono ?_
      rintro e w2 ⟨rfl, hb2⟩
      have HB2 : Hid (Below w.heap.size w w2) := HB1.out.trans (hb2.mono HB1.out.size)
      clear hb2
      go_wp2_with fail
      go_ret2
      rw [HR.out]
      exact outP_err HB2.out rfl
    | true =>
      rw [hV] at HWV
      by_cases hl : nm.length = ag.length
      · have hlb : ((nm.length : Int) != (ag.length : Int)) = false := by simp [hl]
        have HPA := hidO (places_at hP)
        have HR : Hid (R = match mapE (fun q => nameR (foldR c q.1) q.2) (ag.zip nm) with
          | .error n => .error n
          | .ok l => .ok (ks.map (colOf c) ++ l)) := by show R = _; rw [HR0.out]; unfold windowO winB; rw [if_pos ⟨hP, hV, hl⟩]; rfl
        have hzl : (ag.zip nm).length = ag.length := by rw [List.length_zip]; omega
        have HZL := hidO hzl
        have HLL := hidO hl
        clear hl hzl HR0 hP hV
        go_enter Tryz.func26, Tryz.ntmps26
        go_wp2_with fail
        rw [← hW1]
        refine (HPL.out _ HW.out).mono ?_
        rintro e w1 ⟨rfl, hb1⟩
        have HB1 : Hid (Below W1.heap.size W1 w1) := hb1
        have c7 := xcell hb1 H7.out
        have c8 := xcell hb1 H8.out
        have c9 := xcell hb1 H9.out
        have hwl : w.heap.size < w1.heap.size := World.block_lt_of_cell? _ _ c7
        clear hb1
        go_wp2_with fail
        refine (HWV.out _).mono ?_
        rintro e w2 ⟨rfl, hb2⟩
        have HB2 : Hid (Below W1.heap.size W1 w2) := HB1.out.trans (hb2.mono HB1.out.size)
        have d2 := xcell HB2.out H2.out
        have d5 := xcell HB2.out H5.out
        have d10 := xcell HB2.out H10.out
        have hwl2 : w.heap.size < w2.heap.size := World.block_lt_of_cell? _ _ d2
        clear hb2 HPL HWV c7 c8 c9 H7 H8 H9 HB1
        go_wp2_with fail
        go_loopw [4, 36] (fun v i w' => ∃ (j : Nat), j ≤ ks.length ∧ i = .int .i64 j ∧ OC w' W1.heap.size v ((ks.take j).map (colOf c)) ∧ Below W1.heap.size W1 w') (fun _ i _ => ks.length - (intOf i).toNat)
        case atStart => exact ⟨0, Nat.zero_le _, rfl, OC.nil _ _, HB2.out⟩
        case round =>
          obtain ⟨j, hj, rfl, hO, hb⟩ := hrel
          have HO := hidO hO
          have HB := hidO hb
          have HBw : Hid (Below w.heap.size w wr) := HW.out.trans (hb.mono HW.out.size)
          clear hO hb hW1 d2 d5 d10 HB2
          by_cases hlt : j < ks.length
          · have hji : (j : Int) < (ks.length : Int) := by omega
            obtain ⟨t, ht, htl⟩ := place_at (HPA.out.2 j hlt)
            have hti : (t : Int) < (c.length : Int) := by omega
            obtain ⟨b, off, rfl, e1⟩ := (HI.out.later HBw.out) j hlt
            rw [ht] at e1
            obtain ⟨b', off', rfl, f1, f2⟩ := (HC.out.later HBw.out) t htl
            have HNX : Hid ((ks.take (j + 1)).map (colOf c) = (ks.take j).map (colOf c) ++ [c[t]]) := by
              show _ = _
              rw [List.take_succ_eq_append_getElem hlt, List.map_append, List.map_cons, List.map_nil, ht, colOf_at c t htl]
            obtain ⟨x, hx⟩ : ∃ x, x = c[t] := ⟨_, rfl⟩
            rw [← hx] at f1 f2 HNX
            obtain ⟨xn, xk⟩ := x
            simp only at f1 f2
            have c3 := xcell HB.out H3.out
            have hwl3 : w.heap.size < wr.heap.size := World.block_lt_of_cell? _ _ c3
            have hbl : b < wr.heap.size := World.block_lt_of_cell? _ _ e1
            have hbl' : b' < wr.heap.size := World.block_lt_of_cell? _ _ f1
            have hl8 : ((ks.take j).map (colOf c)).length ≤ 8 := by rw [List.length_map, List.length_take]; have := HPA.out.1; omega
            clear hx ht
            go_wp2_with (at_builtin; refine app_C1 rfl _ _ rfl W1.heap.size u4 ((ks.take j).map (colOf c)) ⟨xn, xk⟩ wr.heap.size 1 rfl (OC.later HO.out (xbel1 _ _)) rfl (one_col wr ⟨xn, xk⟩) (by omega) (Nat.le_trans HB.out.size (by simp)) ?_)
            intro v' w3 hO2 hg2
            have HO2 : Hid (OC w3 W1.heap.size v' ((ks.take (j + 1)).map (colOf c))) := by
              show OC w3 W1.heap.size v' ((ks.take (j + 1)).map (colOf c))
              rw [HNX.out]
              first | exact hO2 | (rw [List.map_take]; exact hO2)
            have HB3 : Hid (Below W1.heap.size W1 w3) := (HB.out.trans ((xbel1 wr _).mono HB.out.size)).grown hg2 (Nat.le_trans HB.out.size (by simp)) (fun q hq => (World.ownsRow.lt HO.out q hq).1)
            clear hO2 hg2
            go_wp2_with fail
            exact ⟨⟨j + 1, by omega, by go_num, HO2.out, HB3.out⟩, by simp [intOf]; omega⟩
          · obtain rfl : j = ks.length := by omega
            have hnl : ¬ (ks.length : Int) < (ks.length : Int) := by omega
            have HO' : Hid (OC wr W1.heap.size u4 (ks.map (colOf c) ++ [])) := by
              have := HO.out
              rw [List.take_length] at this
              rw [List.append_nil]
              exact this
            have d10 := xcell HB.out H10.out
            have hwl3 : w.heap.size < wr.heap.size := World.block_lt_of_cell? _ _ d10
            clear hlt hj HO
            go_wp2_with fail
            go_loopw [4, 52] (fun v i w' => ∃ (j : Nat) (acc : List Co), j ≤ ag.length ∧ i = .int .i64 j ∧ OC w' W1.heap.size v (ks.map (colOf c) ++ acc) ∧ mapE (fun q => nameR (foldR c q.1) q.2) ((ag.zip nm).take j) = .ok acc ∧ Below W1.heap.size W1 w') (fun _ i _ => ag.length - (intOf i).toNat)
            case atStart => exact ⟨0, [], Nat.zero_le _, rfl, HO'.out, rfl, HB.out⟩
            case round =>
              clear HO' HB HBw d10 hwl3 hnl hwl hwl2
              obtain ⟨j, acc, hj, rfl, hO, hmp, hb⟩ := hrel
              have HO := hidO hO
              have HB := hidO hb
              have HM := hidO hmp
              have HBw : Hid (Below w.heap.size w wr) := HW.out.trans (hb.mono HW.out.size)
              clear hO hb hmp
              by_cases hlt : j < ag.length
              · have hji : (j : Int) < (ag.length : Int) := by omega
                have hjn : j < nm.length := by have := HLL.out; omega
                have hjni : (j : Int) < (nm.length : Int) := by omega
                obtain ⟨b, off, rfl, e1, e1'⟩ := (HG.out.later HBw.out) j hlt
                obtain ⟨b', off', rfl, e2⟩ := (HN.out.later HBw.out) j hjn
                have hjz : j < (ag.zip nm).length := by rw [HZL.out]; exact hlt
                have hge : (ag.zip nm)[j] = (ag[j], nm[j]) := List.getElem_zip
                obtain ⟨x, hsd⟩ : ∃ x, x = ag[j] := ⟨_, rfl⟩
                obtain ⟨nn, hnd⟩ : ∃ nn, nn = nm[j] := ⟨_, rfl⟩
                rw [← hsd] at e1 e1'
                rw [← hnd] at e2
                have HF : Hid ((fun q : Ag × ByteArray => nameR (foldR c q.1) q.2) (ag.zip nm)[j] = nameR (foldR c x) nn) := by unfold Hid; rw [hge, hsd, hnd]
                have HFK : Hid (∀ W, Below w.heap.size w W → Calls Tryz.prog 49 #[.agg #[.int .i64 x.k, .int .i64 x.at_], .slice ca c.length cc] W fun e w' => e = .returned (retK (foldR c x)) ∧ Below W.heap.size W w') := fun W hW => folded_any x c ca cc W hcl (HC.out.later hW)
                have c3 := xcell HB.out H3.out
                have hbl : b < wr.heap.size := World.block_lt_of_cell? _ _ e1
                have hwl : w.heap.size < wr.heap.size := World.block_lt_of_cell? _ _ c3
                have hal : acc.length = j := by
                  have := mapE_len _ _ _ HM.out
                  rw [List.length_take] at this
                  have := HZL.out
                  omega
                obtain ⟨xk, xa⟩ := x
                simp only at e1 e1' HFK
                clear hsd hnd hge
                have HA : Hid (Below w.heap.size w (wr.alloc (.cells #[.int .i64 xk, .int .i64 xa] 69))) := HBw.out.trans ((xbel1 wr _).mono HBw.out.size)
                have HA1 : Hid (Below W1.heap.size W1 (wr.alloc (.cells #[.int .i64 xk, .int .i64 xa] 69))) := HB.out.trans ((xbel1 wr _).mono HB.out.size)
                cases hfk : foldR c ⟨xk, xa⟩ with
                | error n =>
                  rw [hfk] at HF HFK
                  have HR' : Hid (R = .error n) := by
                    show R = .error n
                    rw [HR.out, mapE_stop HM.out hjz HF.out]
                  unfold retK at HFK
                  simp only at HFK
                  clear hfk e2
                  go_wp2_with fail
                  refine (HFK.out _ HA.out).mono ?_
                  rintro e w3 ⟨rfl, hb3⟩
                  have HB3 : Hid (Below w.heap.size w w3) := HA.out.trans (hb3.mono HA.out.size)
                  clear hb3
                  go_wp2_with fail
                  go_ret2
                  rw [HR'.out]
                  exact outP_err HB3.out rfl
                | ok kd =>
                  rw [hfk] at HF HFK
                  have HM' : Hid (mapE (fun q => nameR (foldR c q.1) q.2) ((ag.zip nm).take (j + 1)) = .ok (acc ++ [⟨nn, kd⟩])) := mapE_next HM.out hjz HF.out
                  unfold retK at HFK
                  simp only at HFK
                  have hl8 : (ks.map (colOf c) ++ acc).length ≤ 8796093022220 := by rw [List.length_append, List.length_map]; have := HPA.out.1; omega
                  clear hfk
                  go_wp2_with fail
                  refine (HFK.out _ HA.out).mono ?_
                  rintro e w3 ⟨rfl, hb3⟩
                  have HB3 : Hid (Below W1.heap.size W1 w3) := HA1.out.trans (hb3.mono HA1.out.size)
                  have e2' := xcell hb3 (xcell (xbel1 wr _) e2)
                  have c2' := xcell HB3.out H2.out
                  have HO3 := hidO (OC.later (OC.later HO.out (xbel1 wr _)) hb3)
                  have hbl' : b' < w3.heap.size := World.block_lt_of_cell? _ _ e2'
                  have hwl3 : w.heap.size < w3.heap.size := World.block_lt_of_cell? _ _ c2'
                  clear hb3 e2 e1 e1' c3 HFK HB HO hbl HA HA1
                  go_wp2_with (at_builtin; refine app_C1 rfl _ _ rfl W1.heap.size u4 (ks.map (colOf c) ++ acc) ⟨nn, kd⟩ w3.heap.size 1 rfl (OC.later HO3.out (xbel1 _ _)) rfl (one_col w3 ⟨nn, kd⟩) (by omega) (Nat.le_trans HB3.out.size (by simp)) ?_)
                  intro v' w4 hO2 hg2
                  have HO2 : Hid (OC w4 W1.heap.size v' (ks.map (colOf c) ++ (acc ++ [⟨nn, kd⟩]))) := by
                    show OC w4 W1.heap.size v' (ks.map (colOf c) ++ (acc ++ [⟨nn, kd⟩]))
                    first | exact hO2 | (rw [← List.append_assoc]; exact hO2)
                  have HB4 : Hid (Below W1.heap.size W1 w4) := (HB3.out.trans ((xbel1 w3 _).mono HB3.out.size)).grown hg2 (Nat.le_trans HB3.out.size (by simp)) (fun q hq => (World.ownsRow.lt HO3.out q hq).1)
                  clear hO2 hg2
                  go_wp2_with fail
                  exact ⟨⟨j + 1, acc ++ [⟨nn, kd⟩], by omega, by go_num, HO2.out, HM'.out, HB4.out⟩, by simp [intOf]; omega⟩
              · obtain rfl : j = ag.length := by omega
                have hnl : ¬ (ag.length : Int) < (ag.length : Int) := by omega
                have HR' : Hid (R = .ok (ks.map (colOf c) ++ acc)) := by
                  show R = .ok (ks.map (colOf c) ++ acc)
                  have h1 := HM.out
                  rw [List.take_of_length_le (by rw [HZL.out]; exact Nat.le_refl _)] at h1
                  rw [HR.out, h1]
                clear hlt hj
                go_wp2_with fail
                obtain ⟨a2, c2, e2, hcc, -⟩ := OC.form HO.out
                cases e2
                go_ret2
                rw [HR'.out]
                exact outP_ok HBw.out rfl hcc
      · have hlb : ((nm.length : Int) != (ag.length : Int)) = true := by simp; omega
        have HR : Hid (R = .error 4) := by show R = .error 4; rw [HR0.out]; unfold windowO; rw [if_neg]; simp [hl]
        go_enter Tryz.func26, Tryz.ntmps26
        go_wp2_with fail
        rw [← hW1]
        refine (HPL.out _ HW.out).mono ?_
        rintro e w1 ⟨rfl, hb1⟩
        have HB1 : Hid (Below W1.heap.size W1 w1) := hb1
        have c7 := xcell hb1 H7.out
        have c8 := xcell hb1 H8.out
        have c9 := xcell hb1 H9.out
        have hwl : w.heap.size < w1.heap.size := World.block_lt_of_cell? _ _ c7
        clear hb1
        go_wp2_with fail
        refine (HWV.out _).mono ?_
        rintro e w2 ⟨rfl, hb2⟩
        have HB2 : Hid (Below W1.heap.size W1 w2) := HB1.out.trans (hb2.mono HB1.out.size)
        have d2 := xcell HB2.out H2.out
        have d10 := xcell HB2.out H10.out
        have hwl2 : w.heap.size < w2.heap.size := World.block_lt_of_cell? _ _ d2
        clear hb2
        go_wp2_with fail
        go_ret2
        rw [HR.out]
        exact outP_err (HW.out.trans (HB2.out.mono HW.out.size)) rfl
end Go.Proofs.YtplaplhmjpfbjaaGreatDoor.Oo
namespace Go.Proofs.YtplaplhmjpfbjaaGreatDoor.Oo
open Go.RowKit
set_option linter.unusedVariables false
set_option linter.unusedSimpArgs false
set_option maxRecDepth 100000
attribute [local go_sem ↓] neqlW eqlW
attribute [local go_sem] guardW

theorem belDrew {B : Nat} {a w : World} {n : Nat} (h : Below B a w) : Below B a (w.drewN n) := ⟨h.os, h.tape, h.output, h.size, h.block⟩
set_option maxHeartbeats 8000000 in
theorem join_any (o : OpD) (p : OpA) (w : World) (hs : OpSz o) (hat : OpAt w o p) (hc8 : o.c.length ≤ 8) (hr8 : o.r.length ≤ 8) :
    Calls Tryz.prog 27 #[.agg (opCs o p)] w (OutP w (joinO o)) := by
  have HC := hidO hat.c
  have HD := hidO hat.r
  have HI := hidO hat.k
  have HJ := hidO hat.o
  have hkl := hs.k
  have hol := hs.o
  have HWF := hidO hs.ws
  clear hs hat
  obtain ⟨k, ex, nm, c, r, ks, os, wk, ws, wt, ag, ou⟩ := o
  obtain ⟨ea, ec, na, nc, ca, cc, ra, rc, ka, kc, oa, oc, ga, gc⟩ := p
  unfold opCs
  simp only at *
  obtain ⟨R, hR⟩ : ∃ R, R = joinO ⟨k, ex, nm, c, r, ks, os, wk, ws, wt, ag, ou⟩ := ⟨_, rfl⟩
  have HR0 := hidO hR
  rw [← hR]
  clear hR
  obtain ⟨W1, hW1⟩ : ∃ W1, W1 = w.alloc (.cells #[.int .i64 k, .slice ea ex.length ec, .slice na nm.length nc, .slice ca c.length cc, .slice ra r.length rc, .slice ka ks.length kc, .slice oa os.length oc, .int .i64 wk, .int .i64 ws, .int .i64 wt, .slice ga ag.length gc, .bool ou] 29) := ⟨_, rfl⟩
  have HW : Hid (Below w.heap.size w W1) := by rw [hW1]; exact xbel1 _ _
  have H3 : Hid (W1.cell? ⟨w.heap.size, 3, none⟩ = some (.slice ca c.length cc)) := by rw [hW1]; show _ = _; go_simp
  have H4 : Hid (W1.cell? ⟨w.heap.size, 4, none⟩ = some (.slice ra r.length rc)) := by rw [hW1]; show _ = _; go_simp
  have H5 : Hid (W1.cell? ⟨w.heap.size, 5, none⟩ = some (.slice ka ks.length kc)) := by rw [hW1]; show _ = _; go_simp
  have H6 : Hid (W1.cell? ⟨w.heap.size, 6, none⟩ = some (.slice oa os.length oc)) := by rw [hW1]; show _ = _; go_simp
  have H7 : Hid (W1.cell? ⟨w.heap.size, 7, none⟩ = some (.int .i64 wk)) := by rw [hW1]; show _ = _; go_simp
  have H8 : Hid (W1.cell? ⟨w.heap.size, 8, none⟩ = some (.int .i64 ws)) := by rw [hW1]; show _ = _; go_simp
  have H9 : Hid (W1.cell? ⟨w.heap.size, 9, none⟩ = some (.int .i64 wt)) := by rw [hW1]; show _ = _; go_simp
  have HPL : Hid (∀ W, Below w.heap.size w W → Calls Tryz.prog 47 #[.slice ka ks.length kc, .slice ca c.length cc] W fun e w' => e = .returned (.bool (placesB ks c.length)) ∧ Below W.heap.size W w') := fun W hW => places_any ks ka kc ca c.length cc W (by omega) hkl (HI.out.later hW)
  have HPR : Hid (∀ W, Below w.heap.size w W → Calls Tryz.prog 47 #[.slice oa os.length oc, .slice ra r.length rc] W fun e w' => e = .returned (.bool (placesB os r.length)) ∧ Below W.heap.size W w') := fun W hW => places_any os oa oc ra r.length rc W (by omega) hol (HJ.out.later hW)
  have HWV : Hid (∀ W, Calls Tryz.prog 48 #[.agg #[.int .i64 wk, .int .i64 ws, .int .i64 wt]] W fun e w' => e = .returned (.bool (Wn.validB wk ws wt)) ∧ Below W.heap.size W w') := fun W => Wn.valid_any wk ws wt HWF.out W
  have hW1l : w.heap.size < W1.heap.size := World.block_lt_of_cell? _ _ H3.out
  cases hP : placesB ks c.length with
  | false =>
    have HR : Hid (R = .error 4) := by show R = .error 4; rw [HR0.out]; unfold joinO; rw [if_neg]; simp [hP]
    rw [hP] at HPL
    go_enter Tryz.func27, Tryz.ntmps27
    go_wp2_with fail
    rw [← hW1]
    refine (HPL.out _ HW.out).mono ?_
    rintro e w1 ⟨rfl, hb1⟩
    have HB1 : Hid (Below w.heap.size w w1) := HW.out.trans (hb1.mono HW.out.size)
    clear hb1
    go_wp2_with fail
    go_ret2
    rw [HR.out]
    exact outP_err HB1.out rfl
  | true =>
    rw [hP] at HPL
    cases hQ : placesB os r.length with
    | false =>
      have HR : Hid (R = .error 4) := by show R = .error 4; rw [HR0.out]; unfold joinO; rw [if_neg]; simp [hQ]
      rw [hQ] at HPR
      go_enter Tryz.func27, Tryz.ntmps27
      go_wp2_with fail
      rw [← hW1]
      refine (HPL.out _ HW.out).mono ?_
      rintro e w1 ⟨rfl, hb1⟩
      have HB1 : Hid (Below w.heap.size w w1) := HW.out.trans (hb1.mono HW.out.size)
      have c4 := xcell hb1 H4.out
      have c6 := xcell hb1 H6.out
      have hwl : w.heap.size < w1.heap.size := World.block_lt_of_cell? _ _ c4
      clear hb1
      go_wp2_with fail
      refine (HPR.out _ HB1.out).mono ?_
      rintro e w2 ⟨rfl, hb2⟩
      have HB2 : Hid (Below w.heap.size w w2) := HB1.out.trans (hb2.mono HB1.out.size)
      clear hb2
      go_wp2_with fail
      go_ret2
      rw [HR.out]
      exact outP_err HB2.out rfl
    | true =>
      rw [hQ] at HPR
      by_cases hl : ks.length = os.length
      · have hlb : ((ks.length : Int) != (os.length : Int)) = false := by simp [hl]
        cases hV : Wn.validB wk ws wt with
        | false =>
          have HR : Hid (R = .error 4) := by show R = .error 4; rw [HR0.out]; unfold joinO winB; rw [if_neg]; simp [hV]
          rw [hV] at HWV
          clear hl
          go_enter Tryz.func27, Tryz.ntmps27
          go_wp2_with fail
          rw [← hW1]
          refine (HPL.out _ HW.out).mono ?_
          rintro e w1 ⟨rfl, hb1⟩
          have HB1 : Hid (Below W1.heap.size W1 w1) := hb1
          have c4 := xcell hb1 H4.out
          have c6 := xcell hb1 H6.out
          have hwl : w.heap.size < w1.heap.size := World.block_lt_of_cell? _ _ c4
          clear hb1
          go_wp2_with fail
          refine (HPR.out _ (HW.out.trans (HB1.out.mono HW.out.size))).mono ?_
          rintro e w2 ⟨rfl, hb2⟩
          have HB2 : Hid (Below W1.heap.size W1 w2) := HB1.out.trans (hb2.mono HB1.out.size)
          have d5 := xcell HB2.out H5.out
          have d6 := xcell HB2.out H6.out
          have d7 := xcell HB2.out H7.out
          have d8 := xcell HB2.out H8.out
          have d9 := xcell HB2.out H9.out
          have hwl2 : w.heap.size < w2.heap.size := World.block_lt_of_cell? _ _ d5
          clear hb2 c4 c6
          go_wp2_with fail
          refine (HWV.out _).mono ?_
          rintro e w3 ⟨rfl, hb3⟩
          have HB3 : Hid (Below W1.heap.size W1 w3) := HB2.out.trans (hb3.mono HB2.out.size)
          clear hb3
          go_wp2_with fail
          go_ret2
          rw [HR.out]
          exact outP_err (HW.out.trans (HB3.out.mono HW.out.size)) rfl
        | true =>
          rw [hV] at HWV
          have HPA := hidO (places_at hP)
          have HQA := hidO (places_at hQ)
          have HR : Hid (R = if kindsB ⟨k, ex, nm, c, r, ks, os, wk, ws, wt, ag, ou⟩ = true then .ok (c ++ r) else .error 3) := by show R = _; rw [HR0.out]; unfold joinO winB; rw [if_pos ⟨hP, hQ, hl, hV⟩]
          have HKB : Hid (kindsB ⟨k, ex, nm, c, r, ks, os, wk, ws, wt, ag, ou⟩ = (ks.zip os).all (fun q => (colOf c q.1).k == (colOf r q.2).k)) := rfl
          have hzl : (ks.zip os).length = ks.length := by rw [List.length_zip]; omega
          have HZL := hidO hzl
          have HLL := hidO hl
          clear hl hzl HR0 hP hQ hV
          go_enter Tryz.func27, Tryz.ntmps27
          go_wp2_with fail
          rw [← hW1]
          refine (HPL.out _ HW.out).mono ?_
          rintro e w1 ⟨rfl, hb1⟩
          have HB1 : Hid (Below W1.heap.size W1 w1) := hb1
          have c4 := xcell hb1 H4.out
          have c6 := xcell hb1 H6.out
          have hwl : w.heap.size < w1.heap.size := World.block_lt_of_cell? _ _ c4
          clear hb1
          go_wp2_with fail
          refine (HPR.out _ (HW.out.trans (HB1.out.mono HW.out.size))).mono ?_
          rintro e w2 ⟨rfl, hb2⟩
          have HB2 : Hid (Below W1.heap.size W1 w2) := HB1.out.trans (hb2.mono HB1.out.size)
          have d5 := xcell HB2.out H5.out
          have d6 := xcell HB2.out H6.out
          have d7 := xcell HB2.out H7.out
          have d8 := xcell HB2.out H8.out
          have d9 := xcell HB2.out H9.out
          have hwl2 : w.heap.size < w2.heap.size := World.block_lt_of_cell? _ _ d5
          clear hb2 c4 c6
          go_wp2_with fail
          refine (HWV.out _).mono ?_
          rintro e w3 ⟨rfl, hb3⟩
          have HB3 : Hid (Below W1.heap.size W1 w3) := HB2.out.trans (hb3.mono HB2.out.size)
          have f5 := xcell HB3.out H5.out
          have hwl3 : w.heap.size < w3.heap.size := World.block_lt_of_cell? _ _ f5
          clear hb3 d5 d6 d7 d8 d9 H7 H8 H9 HB1 HB2 HPL HPR HWV
          go_wp2_with fail
          go_loopw [39] (fun i w' => ∃ (j : Nat), j ≤ ks.length ∧ i = .int .i64 j ∧ ((ks.zip os).take j).all (fun q => (colOf c q.1).k == (colOf r q.2).k) = true ∧ Below W1.heap.size W1 w') (fun i _ => ks.length - (intOf i).toNat)
          case atStart => exact ⟨0, Nat.zero_le _, rfl, rfl, HB3.out⟩
          case round =>
            obtain ⟨j, hj, rfl, hal, hb⟩ := hrel
            have HAL := hidO hal
            have HB := hidO hb
            have HBw : Hid (Below w.heap.size w wr) := HW.out.trans (hb.mono HW.out.size)
            have g3 := xcell hb H3.out
            have g4 := xcell hb H4.out
            have g6 := xcell hb H6.out
            have hwlr : w.heap.size < wr.heap.size := World.block_lt_of_cell? _ _ g3
            clear hal hb hW1 f5 HB3 hwl hwl2 hwl3
            by_cases hlt : j < ks.length
            · have hji : (j : Int) < (ks.length : Int) := by omega
              have hjo : j < os.length := by have := HLL.out; omega
              have hjoi : (j : Int) < (os.length : Int) := by omega
              obtain ⟨t, ht, htl⟩ := place_at (HPA.out.2 j hlt)
              obtain ⟨u, hu, hul⟩ := place_at (HQA.out.2 j hjo)
              have hti : (t : Int) < (c.length : Int) := by omega
              have hui : (u : Int) < (r.length : Int) := by omega
              obtain ⟨b1, o1, rfl, e1⟩ := (HI.out.later HBw.out) j hlt
              obtain ⟨b2, o2, rfl, e2⟩ := (HJ.out.later HBw.out) j hjo
              rw [ht] at e1
              rw [hu] at e2
              obtain ⟨b3, o3, rfl, -, e3⟩ := (HC.out.later HBw.out) t htl
              obtain ⟨b4, o4, rfl, -, e4⟩ := (HD.out.later HBw.out) u hul
              have hjz : j < (ks.zip os).length := by rw [HZL.out]; exact hlt
              have hge : (ks.zip os)[j] = (ks[j], os[j]) := List.getElem_zip
              have HF : Hid (((colOf c (ks.zip os)[j].1).k == (colOf r (ks.zip os)[j].2).k) = (c[t].k == r[u].k)) := by
                show _ = _
                simp only [hge, ht, hu, colOf_at c t htl, colOf_at r u hul]
              obtain ⟨x, hx⟩ : ∃ x, x = c[t].k := ⟨_, rfl⟩
              obtain ⟨y, hy⟩ : ∃ y, y = r[u].k := ⟨_, rfl⟩
              rw [← hx] at e3 HF
              rw [← hy] at e4 HF
              have l1 : b1 < wr.heap.size := World.block_lt_of_cell? _ _ e1
              have l2 : b2 < wr.heap.size := World.block_lt_of_cell? _ _ e2
              have l3 : b3 < wr.heap.size := World.block_lt_of_cell? _ _ e3
              have l4 : b4 < wr.heap.size := World.block_lt_of_cell? _ _ e4
              clear hx hy ht hu hge
              by_cases hxy : x = y
              · subst hxy
                have hb : (x != x) = false := by simp
                have HT : Hid (((ks.zip os).take (j + 1)).all (fun q => (colOf c q.1).k == (colOf r q.2).k) = true) := by
                  rw [Hid, take_allO _ _ j hjz, HAL.out, HF.out]; simp
                go_wp2_with fail
                go_quiet (fail)
                go_wp2_with fail
                exact ⟨⟨j + 1, by omega, by go_num, HT.out, by first | exact HB.out | exact HB.out.drew | exact belDrew HB.out⟩, by simp [intOf]; omega⟩
              · have hb : (x != y) = true := by simp [hxy]
                have HR' : Hid (R = .error 3) := by
                  show R = .error 3
                  rw [HR.out, HKB.out, all_falseO _ _ j hjz (by rw [HF.out]; simp [hxy])]
                  rfl
                go_wp2_with fail
                go_quiet (fail)
                go_wp2_with fail
                go_ret2
                rw [HR'.out]
                exact outP_err (by first | exact HBw.out | exact HBw.out.drew | exact belDrew HBw.out) rfl
            · obtain rfl : j = ks.length := by omega
              have hnl : ¬ (ks.length : Int) < (ks.length : Int) := by omega
              have HR' : Hid (R = .ok (c ++ r)) := by
                show R = .ok (c ++ r)
                have h1 := HAL.out
                rw [List.take_of_length_le (by rw [HZL.out]; exact Nat.le_refl _)] at h1
                rw [HR.out, HKB.out, h1]
                rfl
              have HA : Hid (Below w.heap.size w (wr.alloc (.cells #[.slice ca c.length cc, .slice ra r.length rc] 23))) := HBw.out.trans ((xbel1 wr _).mono HBw.out.size)
              have HOn := hidO (Own.new wr 23 2 #[.slice ca c.length cc, .slice ra r.length rc] rfl)
              clear hlt hj
              go_wp2_with fail
              refine (concat_any ca ra cc rc c r _ hc8 hr8 (HC.out.later HA.out) (HD.out.later HA.out) wr.heap.size (by simp) (HOn.out.cell 0 (by decide)) (HOn.out.cell 1 (by decide))).mono ?_
              rintro e w4 ⟨v, rfl, hO, hb4⟩
              have HB4 : Hid (Below w.heap.size w w4) := HA.out.trans (hb4.mono HA.out.size)
              have HO := hidO hO
              clear hO hb4
              go_wp2_with fail
              obtain ⟨a2, c2, rfl, hcc, -⟩ := OC.form HO.out
              go_ret2
              rw [HR'.out]
              exact outP_ok (c := c2) HB4.out (by simp) hcc
      · have hlb : ((ks.length : Int) != (os.length : Int)) = true := by simp; omega
        have HR : Hid (R = .error 4) := by show R = .error 4; rw [HR0.out]; unfold joinO; rw [if_neg]; simp [hl]
        go_enter Tryz.func27, Tryz.ntmps27
        go_wp2_with fail
        rw [← hW1]
        refine (HPL.out _ HW.out).mono ?_
        rintro e w1 ⟨rfl, hb1⟩
        have HB1 : Hid (Below W1.heap.size W1 w1) := hb1
        have c4 := xcell hb1 H4.out
        have c6 := xcell hb1 H6.out
        have hwl : w.heap.size < w1.heap.size := World.block_lt_of_cell? _ _ c4
        clear hb1
        go_wp2_with fail
        refine (HPR.out _ (HW.out.trans (HB1.out.mono HW.out.size))).mono ?_
        rintro e w2 ⟨rfl, hb2⟩
        have HB2 : Hid (Below W1.heap.size W1 w2) := HB1.out.trans (hb2.mono HB1.out.size)
        have d5 := xcell HB2.out H5.out
        have d6 := xcell HB2.out H6.out
        have hwl2 : w.heap.size < w2.heap.size := World.block_lt_of_cell? _ _ d5
        clear hb2 c4 c6
        go_wp2_with fail
        go_ret2
        rw [HR.out]
        exact outP_err (HW.out.trans (HB2.out.mono HW.out.size)) rfl
end Go.Proofs.YtplaplhmjpfbjaaGreatDoor.Oo
namespace Go.Proofs.YtplaplhmjpfbjaaGreatDoor.Oo
open Go.RowKit
set_option linter.unusedVariables false
set_option linter.unusedSimpArgs false
set_option maxRecDepth 100000
attribute [local go_sem ↓] neqlW eqlW
attribute [local go_sem] guardW

open Classical in
noncomputable def namedO (l : List Co) : Except Nat (List Co) := if 8 < l.length then .error 5 else if colsX l then .ok l else .error 2
open Classical in
/-- What comes out of an operator. -/
noncomputable def outO (ck : ByteArray → Except Nat Int) (o : OpD) : Except Nat (List Co) :=
  if colsX o.c ∧ colsX o.r ∧ usesB o = true then
    match rawO ck o with
    | .error n => .error n
    | .ok l => namedO l
  else .error 4
theorem OutP.more {w w1 w' : World} {r : Except Nat (List Co)} {e : Ending} (h : OutP w1 r e w') (hb : Below w.heap.size w w1) : OutP w r e w' := ⟨hb.trans (h.1.mono hb.size), h.2⟩
set_option maxHeartbeats 4000000 in
theorem comes_any (ck : ByteArray → Except Nat Int) (o : OpD) (p : OpA) (w : World) (hs : OpSz o) (hat : OpAt w o p) (hck : CkOk w o.c ck) (hc8 : o.c.length ≤ 8) (hr8 : o.r.length ≤ 8) :
    Calls Tryz.prog 10 #[.agg (opCs o p)] w (OutP w (rawO ck o)) := by
  have hA : Below w.heap.size w (w.alloc (.cells (opCs o p) 29)) := xbel1 _ _
  have HWh : Hid (Calls Tryz.prog 24 #[.agg (opCs o p)] (w.alloc (.cells (opCs o p) 29)) (OutP (w.alloc (.cells (opCs o p) 29)) (whereO ck o))) := where_any ck o p _ hs (hat.later hA) (hck.later hA)
  have HMp : Hid (Calls Tryz.prog 25 #[.agg (opCs o p)] (w.alloc (.cells (opCs o p) 29)) (OutP (w.alloc (.cells (opCs o p) 29)) (mapO ck o))) := map_any ck o p _ hs (hat.later hA) (hck.later hA)
  have HWi : Hid (Calls Tryz.prog 26 #[.agg (opCs o p)] (w.alloc (.cells (opCs o p) 29)) (OutP (w.alloc (.cells (opCs o p) 29)) (windowO o))) := window_any o p _ hs (hat.later hA)
  have HJo : Hid (Calls Tryz.prog 27 #[.agg (opCs o p)] (w.alloc (.cells (opCs o p) 29)) (OutP (w.alloc (.cells (opCs o p) 29)) (joinO o))) := join_any o p _ hs (hat.later hA) hc8 hr8
  have HCl : Hid (Calls Tryz.prog 28 #[.slice p.ca o.c.length p.cc] (w.alloc (.cells (opCs o p) 29)) fun e w' => OutP (w.alloc (.cells (opCs o p) 29)) (.ok o.c) (match e with | .returned v => .returned (.tuple #[v, .nilIface]) | x => x) w' ∧ ∃ a c, e = .returned (.slice a o.c.length c)) := by
    refine (cloneC p.ca o.c p.cc _ (hat.c.later hA) (by omega)).mono ?_
    rintro e w' ⟨a', c', rfl, hO, hb⟩
    obtain ⟨a2, c2, e2, hcc, -⟩ := OC.form (l := o.c) hO
    cases e2
    exact ⟨⟨hb, _, _, rfl, hcc⟩, _, _, rfl⟩
  have HA := hidO hA
  clear hs hat hck hc8 hr8 hA
  unfold rawO
  generalize whereO ck o = r1 at *
  generalize mapO ck o = r2 at *
  generalize windowO o = r3 at *
  generalize joinO o = r4 at *
  obtain ⟨k, ex, nm, c, r, ks, os, wk, ws, wt, ag, ou⟩ := o
  obtain ⟨ea, ec, na, nc, ca, cc, ra, rc, ka, kc, oa, oc, ga, gc⟩ := p
  unfold opCs at *
  simp only at *
  by_cases h2 : k = 2
  · subst h2
    rw [if_pos rfl]
    go_enter Tryz.func10, Tryz.ntmps10
    go_wp2_with fail
    refine HWh.out.mono ?_
    rintro e w1 ⟨hb1, hr1⟩
    have HB1 : Hid (Below w.heap.size w w1) := HA.out.trans (hb1.mono HA.out.size)
    cases r1 with
    | error n =>
      simp only at hr1
      subst hr1
      clear hb1
      go_wp2_with fail
      go_ret2
      exact outP_err HB1.out rfl
    | ok l =>
      obtain ⟨a, c', rfl, hcc⟩ := hr1
      have HCC := hidO hcc
      clear hb1 hcc
      go_wp2_with fail
      go_ret2
      exact outP_ok HB1.out rfl HCC.out
  rw [if_neg h2]
  have b2 : (k == 2) = false := by simp [h2]
  by_cases h3 : k = 3
  · subst h3
    rw [if_pos rfl]
    go_enter Tryz.func10, Tryz.ntmps10
    go_wp2_with fail
    refine HMp.out.mono ?_
    rintro e w1 ⟨hb1, hr1⟩
    have HB1 : Hid (Below w.heap.size w w1) := HA.out.trans (hb1.mono HA.out.size)
    cases r2 with
    | error n =>
      simp only at hr1
      subst hr1
      clear hb1
      go_wp2_with fail
      go_ret2
      exact outP_err HB1.out rfl
    | ok l =>
      obtain ⟨a, c', rfl, hcc⟩ := hr1
      have HCC := hidO hcc
      clear hb1 hcc
      go_wp2_with fail
      go_ret2
      exact outP_ok HB1.out rfl HCC.out
  rw [if_neg h3]
  have b3 : (k == 3) = false := by simp [h3]
  by_cases h4 : k = 4
  · subst h4
    rw [if_pos rfl]
    go_enter Tryz.func10, Tryz.ntmps10
    go_wp2_with fail
    refine HWi.out.mono ?_
    rintro e w1 ⟨hb1, hr1⟩
    have HB1 : Hid (Below w.heap.size w w1) := HA.out.trans (hb1.mono HA.out.size)
    cases r3 with
    | error n =>
      simp only at hr1
      subst hr1
      clear hb1
      go_wp2_with fail
      go_ret2
      exact outP_err HB1.out rfl
    | ok l =>
      obtain ⟨a, c', rfl, hcc⟩ := hr1
      have HCC := hidO hcc
      clear hb1 hcc
      go_wp2_with fail
      go_ret2
      exact outP_ok HB1.out rfl HCC.out
  rw [if_neg h4]
  have b4 : (k == 4) = false := by simp [h4]
  by_cases h5 : k = 5
  · subst h5
    rw [if_pos rfl]
    go_enter Tryz.func10, Tryz.ntmps10
    go_wp2_with fail
    refine HJo.out.mono ?_
    rintro e w1 ⟨hb1, hr1⟩
    have HB1 : Hid (Below w.heap.size w w1) := HA.out.trans (hb1.mono HA.out.size)
    cases r4 with
    | error n =>
      simp only at hr1
      subst hr1
      clear hb1
      go_wp2_with fail
      go_ret2
      exact outP_err HB1.out rfl
    | ok l =>
      obtain ⟨a, c', rfl, hcc⟩ := hr1
      have HCC := hidO hcc
      clear hb1 hcc
      go_wp2_with fail
      go_ret2
      exact outP_ok HB1.out rfl HCC.out
  rw [if_neg h5]
  have b5 : (k == 5) = false := by simp [h5]
  go_enter Tryz.func10, Tryz.ntmps10
  go_wp2_with fail
  refine HCl.out.mono ?_
  rintro e w1 ⟨hr1, a, c', rfl⟩
  have HR1 : Hid (OutP w (.ok c) (.returned (.tuple #[.slice a c.length c', .nilIface])) w1) := OutP.more hr1 HA.out
  clear hr1
  go_wp2_with fail
  go_ret2
  exact HR1.out
end Go.Proofs.YtplaplhmjpfbjaaGreatDoor.Oo
namespace Go.Proofs.YtplaplhmjpfbjaaGreatDoor.Oo
open Go.RowKit
set_option linter.unusedVariables false
set_option linter.unusedSimpArgs false
set_option maxRecDepth 100000
attribute [local go_sem ↓] neqlW eqlW
attribute [local go_sem] guardW

theorem cols_yes {l : List Co} (h : colsX l) (a : Option Addr) (c : Nat) (w : World) (hc : ColsAt w a l) (hm : l.length ≤ maxLen) (hz : ∀ x ∈ l, x.nm.size ≤ 140737488355328) : Calls Tryz.prog 8 #[.slice a l.length c] w fun e w' => e = .returned (.bool true) ∧ Below w.heap.size w w' := by
  refine (columns_any a c l w hc hm hz).mono ?_
  rintro e w' ⟨⟨b, rfl, hi⟩, hb⟩
  have : b = true := hi.2 h
  subst this
  exact ⟨rfl, hb⟩
theorem cols_no {l : List Co} (h : ¬ colsX l) (a : Option Addr) (c : Nat) (w : World) (hc : ColsAt w a l) (hm : l.length ≤ maxLen) (hz : ∀ x ∈ l, x.nm.size ≤ 140737488355328) : Calls Tryz.prog 8 #[.slice a l.length c] w fun e w' => e = .returned (.bool false) ∧ Below w.heap.size w w' := by
  refine (columns_any a c l w hc hm hz).mono ?_
  rintro e w' ⟨⟨b, rfl, hi⟩, hb⟩
  have : b = false := by
    cases b with
    | false => rfl
    | true => exact absurd (hi.1 rfl) h
  subst this
  exact ⟨rfl, hb⟩
theorem named_long {l : List Co} (h : 8 < l.length) : namedO l = .error 5 := by unfold namedO; rw [if_pos h]
theorem named_yes {l : List Co} (h : colsX l) : namedO l = .ok l := by unfold namedO; rw [if_neg (by have := h.1; omega), if_pos h]
theorem named_no {l : List Co} (h8 : ¬ 8 < l.length) (h : ¬ colsX l) : namedO l = .error 2 := by unfold namedO; rw [if_neg h8, if_neg h]
theorem cs12 (o : OpD) (p : OpA) : (opCs o p).size = 12 := rfl
/-- Names that come out are not too long. -/
theorem nm_g {α : Type} {g : α → Except Nat Co} {key : α → ByteArray} (hg : ∀ q b, g q = .ok b → b.nm = key q) {l : List α} : ∀ {acc : List Co}, mapE g l = .ok acc → ∀ x ∈ acc, ∃ q ∈ l, x.nm = key q := by
  induction l with
  | nil => intro acc h x hx; simp only [mapE] at h; cases h; cases hx
  | cons q l ih =>
    intro acc h x hx
    simp only [mapE] at h
    cases hq : g q with
    | error n => rw [hq] at h; cases h
    | ok k =>
      rw [hq] at h
      simp only at h
      cases hl : mapE g l with
      | error n => rw [hl] at h; cases h
      | ok bs =>
        rw [hl] at h
        cases h
        cases hx with
        | head => exact ⟨q, List.mem_cons_self .., hg _ _ hq⟩
        | tail _ hx => obtain ⟨q', h1, h2⟩ := ih hl x hx; exact ⟨q', List.mem_cons_of_mem _ h1, h2⟩
theorem nameR_nm {r : Except Nat Int} {n : ByteArray} {b : Co} (h : nameR r n = .ok b) : b.nm = n := by
  unfold nameR at h
  cases r with
  | error x => cases h
  | ok k => cases h; rfl
theorem nm_foldR {c : List Co} {l : List (Ag × ByteArray)} {acc : List Co} (h : mapE (fun q => nameR (foldR c q.1) q.2) l = .ok acc) : ∀ x ∈ acc, ∃ q ∈ l, x.nm = q.2 := nm_g (key := fun q : Ag × ByteArray => q.2) (fun q b hq => nameR_nm hq) h
theorem nm_ck {ck : ByteArray → Except Nat Int} {l : List (ByteArray × ByteArray)} {acc : List Co} (h : mapE (fun q => nameR (ck q.1) q.2) l = .ok acc) : ∀ x ∈ acc, ∃ q ∈ l, x.nm = q.2 := nm_g (key := fun q : ByteArray × ByteArray => q.2) (fun q b hq => nameR_nm hq) h
theorem raw_nm {ck : ByteArray → Except Nat Int} {o : OpD} (hs : OpSz o) {l : List Co} (h : rawO ck o = .ok l) : l.length ≤ 8796093022300 ∨ l = o.c ∨ l = o.c ++ o.r := by
  unfold rawO at h
  split at h
  · right; left
    unfold whereO at h
    split at h
    · split at h
      · cases h
      · split at h
        · cases h; rfl
        · cases h
    · cases h
  split at h
  · left
    unfold mapO at h
    split at h
    · have := mapE_len _ _ _ h
      rw [List.length_zip] at this
      have := hs.e
      omega
    · cases h
  split at h
  · left
    unfold windowO at h
    split at h
    · rename_i hcond
      split at h
      · cases h
      · rename_i acc hacc
        cases h
        have := mapE_len _ _ _ hacc
        rw [List.length_zip] at this
        rw [List.length_append, List.length_map]
        have h1 := hs.g
        have h2 := (places_at hcond.1).1
        omega
    · cases h
  split at h
  · right; right
    unfold joinO at h
    split at h
    · split at h
      · cases h; rfl
      · cases h
    · cases h
  · right; left; cases h; rfl
theorem raw_sz {ck : ByteArray → Except Nat Int} {o : OpD} (hs : OpSz o) {l : List Co} (h : rawO ck o = .ok l) : l.length ≤ maxLen ∧ ∀ x ∈ l, x.nm.size ≤ 140737488355328 := by
  have hcn : ∀ x ∈ o.c, x.nm.size ≤ 140737488355328 := fun x hx => by have := hs.cn x hx; omega
  have hrn : ∀ x ∈ o.r, x.nm.size ≤ 140737488355328 := fun x hx => by have := hs.rn x hx; omega
  refine ⟨?_, ?_⟩
  · rcases raw_nm hs h with h1 | rfl | rfl
    · unfold maxLen; omega
    · have := hs.c; unfold maxLen; omega
    · rw [List.length_append]; have := hs.c; have := hs.r; unfold maxLen; omega
  · unfold rawO at h
    split at h
    · unfold whereO at h
      split at h
      · split at h
        · cases h
        · split at h
          · cases h; exact hcn
          · cases h
      · cases h
    split at h
    · unfold mapO at h
      split at h
      · intro x hx
        obtain ⟨q, hq, e⟩ := nm_ck h x hx
        rw [e]
        have := hs.nn q.2 (List.of_mem_zip hq).2
        omega
      · cases h
    split at h
    · unfold windowO at h
      split at h
      · split at h
        · cases h
        · rename_i acc hacc
          cases h
          intro x hx
          rcases List.mem_append.1 hx with hx | hx
          · obtain ⟨n, hn, rfl⟩ := List.mem_map.1 hx
            unfold colOf
            rw [List.getD_eq_getElem?_getD]
            cases hg : o.c[n.toNat]? with
            | none => exact Nat.zero_le _
            | some y => exact hcn y (List.mem_of_getElem? hg)
          · obtain ⟨q, hq, e⟩ := nm_foldR hacc x hx
            rw [e]
            have := hs.nn q.2 (List.of_mem_zip hq).2
            omega
      · cases h
    split at h
    · unfold joinO at h
      split at h
      · split at h
        · cases h
          intro x hx
          rcases List.mem_append.1 hx with hx | hx
          · exact hcn x hx
          · exact hrn x hx
        · cases h
      · cases h
    · cases h; exact hcn
set_option maxHeartbeats 4000000 in
theorem out_any (ck : ByteArray → Except Nat Int) (o : OpD) (p : OpA) (w : World) (hs : OpSz o) (hat : OpAt w o p) (hck : CkOk w o.c ck) :
    Calls Tryz.prog 4 #[.agg (opCs o p)] w (OutP w (outO ck o)) := by
  obtain ⟨W1, hW1⟩ : ∃ W1, W1 = w.alloc (.cells (opCs o p) 29) := ⟨_, rfl⟩
  have hA : Below w.heap.size w W1 := by rw [hW1]; exact xbel1 _ _
  have hOw : Own W1 w.heap.size 29 12 (opCs o p).toList := by rw [hW1]; exact Own.new w 29 12 (opCs o p) rfl
  have hcm : o.c.length ≤ maxLen := by have := hs.c; unfold maxLen; omega
  have hrm : o.r.length ≤ maxLen := by have := hs.r; unfold maxLen; omega
  have hcn : ∀ x ∈ o.c, x.nm.size ≤ 140737488355328 := fun x hx => by have := hs.cn x hx; omega
  have hrn : ∀ x ∈ o.r, x.nm.size ≤ 140737488355328 := fun x hx => by have := hs.rn x hx; omega
  have HA := hidO hA
  have HOw := hidO hOw
  have HUS : Hid (∀ W, Calls Tryz.prog 9 #[.agg (opCs o p)] W fun e w' => e = .returned (.bool (usesB o)) ∧ Below W.heap.size W w') := fun W => uses_any o p W hs
  clear hA hOw
  by_cases hc : colsX o.c
  · have HCY : Hid (∀ W, Below w.heap.size w W → Calls Tryz.prog 8 #[.slice p.ca o.c.length p.cc] W fun e w' => e = .returned (.bool true) ∧ Below W.heap.size W w') := fun W hW => cols_yes hc p.ca p.cc W (hat.c.later hW) hcm hcn
    by_cases hr : colsX o.r
    · have HRY : Hid (∀ W, Below w.heap.size w W → Calls Tryz.prog 8 #[.slice p.ra o.r.length p.rc] W fun e w' => e = .returned (.bool true) ∧ Below W.heap.size W w') := fun W hW => cols_yes hr p.ra p.rc W (hat.r.later hW) hrm hrn
      cases hu : usesB o with
      | true =>
        have HCO : Hid (∀ W, Below w.heap.size w W → Calls Tryz.prog 10 #[.agg (opCs o p)] W (OutP W (rawO ck o))) := fun W hW => comes_any ck o p W hs (hat.later hW) (hck.later hW) hc.1 hr.1
        have HSZ : Hid (∀ l, rawO ck o = .ok l → l.length ≤ maxLen ∧ ∀ x ∈ l, x.nm.size ≤ 140737488355328) := fun l h => raw_sz hs h
        have HR : Hid (outO ck o = match rawO ck o with
          | .error n => .error n
          | .ok l => namedO l) := by unfold Hid outO; rw [if_pos ⟨hc, hr, hu⟩] <;> cases rawO ck o <;> rfl
        rw [hu] at HUS
        generalize outO ck o = R at *
        generalize rawO ck o = R1 at *
        clear hs hat hck hcm hrm hcn hrn hc hr hu
        obtain ⟨k, ex, nm, c, r, ks, os, wk, ws, wt, ag, ou⟩ := o
        obtain ⟨ea, ec, na, nc, ca, cc, ra, rc, ka, kc, oa, oc, ga, gc⟩ := p
        unfold opCs at *
        simp only at *
        go_enter Tryz.func4, Tryz.ntmps4
        go_wp2_with fail
        rw [← hW1]
        refine (HCY.out _ HA.out).mono ?_
        rintro e w2 ⟨rfl, hb2⟩
        have HB2 : Hid (Below w.heap.size w w2) := HA.out.trans (hb2.mono HA.out.size)
        have HO2 := hidO (HOw.out.later hb2)
        have d4 : w2.cell? ⟨w.heap.size, 4, none⟩ = some (.slice ra r.length rc) := HO2.out.cell 4 (by decide)
        have hl2 : w.heap.size < w2.heap.size := HO2.out.lt
        clear hb2
        go_wp2_with fail
        refine (HRY.out _ HB2.out).mono ?_
        rintro e w3 ⟨rfl, hb3⟩
        have HB3 : Hid (Below w.heap.size w w3) := HB2.out.trans (hb3.mono HB2.out.size)
        have HO3 := hidO (HO2.out.later hb3)
        have f0 : w3.cell? ⟨w.heap.size, 0, none⟩ = some (.int .i64 k) := HO3.out.cell 0 (by decide)
        have f1 : w3.cell? ⟨w.heap.size, 1, none⟩ = some (.slice ea ex.length ec) := HO3.out.cell 1 (by decide)
        have f2 : w3.cell? ⟨w.heap.size, 2, none⟩ = some (.slice na nm.length nc) := HO3.out.cell 2 (by decide)
        have f3 : w3.cell? ⟨w.heap.size, 3, none⟩ = some (.slice ca c.length cc) := HO3.out.cell 3 (by decide)
        have f4 : w3.cell? ⟨w.heap.size, 4, none⟩ = some (.slice ra r.length rc) := HO3.out.cell 4 (by decide)
        have f5 : w3.cell? ⟨w.heap.size, 5, none⟩ = some (.slice ka ks.length kc) := HO3.out.cell 5 (by decide)
        have f6 : w3.cell? ⟨w.heap.size, 6, none⟩ = some (.slice oa os.length oc) := HO3.out.cell 6 (by decide)
        have f7 : w3.cell? ⟨w.heap.size, 7, none⟩ = some (.int .i64 wk) := HO3.out.cell 7 (by decide)
        have f8 : w3.cell? ⟨w.heap.size, 8, none⟩ = some (.int .i64 ws) := HO3.out.cell 8 (by decide)
        have f9 : w3.cell? ⟨w.heap.size, 9, none⟩ = some (.int .i64 wt) := HO3.out.cell 9 (by decide)
        have f10 : w3.cell? ⟨w.heap.size, 10, none⟩ = some (.slice ga ag.length gc) := HO3.out.cell 10 (by decide)
        have f11 : w3.cell? ⟨w.heap.size, 11, none⟩ = some (.bool ou) := HO3.out.cell 11 (by decide)
        have hl3 : w.heap.size < w3.heap.size := HO3.out.lt
        clear hb3 d4
        go_wp2_with fail
        refine (HUS.out _).mono ?_
        rintro e w4 ⟨rfl, hb4⟩
        have HB4 : Hid (Below w.heap.size w w4) := HB3.out.trans (hb4.mono HB3.out.size)
        have HO4 := hidO (HO3.out.later hb4)
        clear f0 f1 f2 f3 f4 f5 f6 f7 f8 f9 f10 f11
        have g0 : w4.cell? ⟨w.heap.size, 0, none⟩ = some (.int .i64 k) := HO4.out.cell 0 (by decide)
        have g1 : w4.cell? ⟨w.heap.size, 1, none⟩ = some (.slice ea ex.length ec) := HO4.out.cell 1 (by decide)
        have g2 : w4.cell? ⟨w.heap.size, 2, none⟩ = some (.slice na nm.length nc) := HO4.out.cell 2 (by decide)
        have g3 : w4.cell? ⟨w.heap.size, 3, none⟩ = some (.slice ca c.length cc) := HO4.out.cell 3 (by decide)
        have g4 : w4.cell? ⟨w.heap.size, 4, none⟩ = some (.slice ra r.length rc) := HO4.out.cell 4 (by decide)
        have g5 : w4.cell? ⟨w.heap.size, 5, none⟩ = some (.slice ka ks.length kc) := HO4.out.cell 5 (by decide)
        have g6 : w4.cell? ⟨w.heap.size, 6, none⟩ = some (.slice oa os.length oc) := HO4.out.cell 6 (by decide)
        have g7 : w4.cell? ⟨w.heap.size, 7, none⟩ = some (.int .i64 wk) := HO4.out.cell 7 (by decide)
        have g8 : w4.cell? ⟨w.heap.size, 8, none⟩ = some (.int .i64 ws) := HO4.out.cell 8 (by decide)
        have g9 : w4.cell? ⟨w.heap.size, 9, none⟩ = some (.int .i64 wt) := HO4.out.cell 9 (by decide)
        have g10 : w4.cell? ⟨w.heap.size, 10, none⟩ = some (.slice ga ag.length gc) := HO4.out.cell 10 (by decide)
        have g11 : w4.cell? ⟨w.heap.size, 11, none⟩ = some (.bool ou) := HO4.out.cell 11 (by decide)
        have hl4 : w.heap.size < w4.heap.size := HO4.out.lt
        clear hb4
        go_wp2_with fail
        refine (HCO.out _ HB4.out).mono ?_
        rintro e w5 ⟨hb5, hr5⟩
        have HB5 : Hid (Below w.heap.size w w5) := HB4.out.trans (hb5.mono HB4.out.size)
        clear hb5 g0 g1 g2 g3 g4 g5 g6 g7 g8 g9 g10 g11
        cases R1 with
        | error n =>
          simp only at hr5
          subst hr5
          have HR' : Hid (R = .error n) := HR.out
          go_wp2_with fail
          go_ret2
          rw [HR'.out]
          exact outP_err HB5.out rfl
        | ok l =>
          obtain ⟨a, c', rfl, hcc⟩ := hr5
          have HCC := hidO hcc
          have hsz := HSZ.out l rfl
          have HR' : Hid (R = namedO l) := HR.out
          have hlm : l.length ≤ 9223372036854775807 := hsz.1
          have HZ := hidO hsz
          clear hcc HR hsz
          by_cases h8 : 8 < l.length
          · have h8i : (8 : Int) < (l.length : Int) := by omega
            go_wp2_with fail
            go_ret2
            rw [HR'.out, named_long h8]
            exact outP_err HB5.out rfl
          · have h8i : ¬ (8 : Int) < (l.length : Int) := by omega
            by_cases hcl : colsX l
            · go_wp2_with fail
              refine (cols_yes hcl a c' _ HCC.out HZ.out.1 HZ.out.2).mono ?_
              rintro e w6 ⟨rfl, hb6⟩
              have HB6 : Hid (Below w.heap.size w w6) := HB5.out.trans (hb6.mono HB5.out.size)
              have HC6 := hidO (HCC.out.later hb6)
              clear hb6
              go_wp2_with fail
              go_ret2
              rw [HR'.out, named_yes hcl]
              exact outP_ok HB6.out rfl HC6.out
            · go_wp2_with fail
              refine (cols_no hcl a c' _ HCC.out HZ.out.1 HZ.out.2).mono ?_
              rintro e w6 ⟨rfl, hb6⟩
              have HB6 : Hid (Below w.heap.size w w6) := HB5.out.trans (hb6.mono HB5.out.size)
              clear hb6
              go_wp2_with fail
              go_ret2
              rw [HR'.out, named_no h8 hcl]
              exact outP_err HB6.out rfl
      | false =>
        have HR : Hid (outO ck o = .error 4) := by unfold Hid outO; rw [if_neg]; simp [hu]
        rw [hu] at HUS
        generalize outO ck o = R at *
        clear hs hat hck hcm hrm hcn hrn hc hr hu
        obtain ⟨k, ex, nm, c, r, ks, os, wk, ws, wt, ag, ou⟩ := o
        obtain ⟨ea, ec, na, nc, ca, cc, ra, rc, ka, kc, oa, oc, ga, gc⟩ := p
        unfold opCs at *
        simp only at *
        go_enter Tryz.func4, Tryz.ntmps4
        go_wp2_with fail
        rw [← hW1]
        refine (HCY.out _ HA.out).mono ?_
        rintro e w2 ⟨rfl, hb2⟩
        have HB2 : Hid (Below w.heap.size w w2) := HA.out.trans (hb2.mono HA.out.size)
        have HO2 := hidO (HOw.out.later hb2)
        have d4 : w2.cell? ⟨w.heap.size, 4, none⟩ = some (.slice ra r.length rc) := HO2.out.cell 4 (by decide)
        have hl2 : w.heap.size < w2.heap.size := HO2.out.lt
        clear hb2
        go_wp2_with fail
        refine (HRY.out _ HB2.out).mono ?_
        rintro e w3 ⟨rfl, hb3⟩
        have HB3 : Hid (Below w.heap.size w w3) := HB2.out.trans (hb3.mono HB2.out.size)
        have HO3 := hidO (HO2.out.later hb3)
        have f0 : w3.cell? ⟨w.heap.size, 0, none⟩ = some (.int .i64 k) := HO3.out.cell 0 (by decide)
        have f1 : w3.cell? ⟨w.heap.size, 1, none⟩ = some (.slice ea ex.length ec) := HO3.out.cell 1 (by decide)
        have f2 : w3.cell? ⟨w.heap.size, 2, none⟩ = some (.slice na nm.length nc) := HO3.out.cell 2 (by decide)
        have f3 : w3.cell? ⟨w.heap.size, 3, none⟩ = some (.slice ca c.length cc) := HO3.out.cell 3 (by decide)
        have f4 : w3.cell? ⟨w.heap.size, 4, none⟩ = some (.slice ra r.length rc) := HO3.out.cell 4 (by decide)
        have f5 : w3.cell? ⟨w.heap.size, 5, none⟩ = some (.slice ka ks.length kc) := HO3.out.cell 5 (by decide)
        have f6 : w3.cell? ⟨w.heap.size, 6, none⟩ = some (.slice oa os.length oc) := HO3.out.cell 6 (by decide)
        have f7 : w3.cell? ⟨w.heap.size, 7, none⟩ = some (.int .i64 wk) := HO3.out.cell 7 (by decide)
        have f8 : w3.cell? ⟨w.heap.size, 8, none⟩ = some (.int .i64 ws) := HO3.out.cell 8 (by decide)
        have f9 : w3.cell? ⟨w.heap.size, 9, none⟩ = some (.int .i64 wt) := HO3.out.cell 9 (by decide)
        have f10 : w3.cell? ⟨w.heap.size, 10, none⟩ = some (.slice ga ag.length gc) := HO3.out.cell 10 (by decide)
        have f11 : w3.cell? ⟨w.heap.size, 11, none⟩ = some (.bool ou) := HO3.out.cell 11 (by decide)
        have hl3 : w.heap.size < w3.heap.size := HO3.out.lt
        clear hb3 d4
        go_wp2_with fail
        refine (HUS.out _).mono ?_
        rintro e w4 ⟨rfl, hb4⟩
        have HB4 : Hid (Below w.heap.size w w4) := HB3.out.trans (hb4.mono HB3.out.size)
        have HO4 := hidO (HO3.out.later hb4)
        clear hb4
        go_wp2_with fail
        go_ret2
        rw [HR.out]
        exact outP_err HB4.out rfl
    · have HRN : Hid (∀ W, Below w.heap.size w W → Calls Tryz.prog 8 #[.slice p.ra o.r.length p.rc] W fun e w' => e = .returned (.bool false) ∧ Below W.heap.size W w') := fun W hW => cols_no hr p.ra p.rc W (hat.r.later hW) hrm hrn
      have HR : Hid (outO ck o = .error 4) := by unfold Hid outO; rw [if_neg]; simp [hr]
      generalize outO ck o = R at *
      clear hs hat hck hcm hrm hcn hrn hc hr
      obtain ⟨k, ex, nm, c, r, ks, os, wk, ws, wt, ag, ou⟩ := o
      obtain ⟨ea, ec, na, nc, ca, cc, ra, rc, ka, kc, oa, oc, ga, gc⟩ := p
      unfold opCs at *
      simp only at *
      go_enter Tryz.func4, Tryz.ntmps4
      go_wp2_with fail
      rw [← hW1]
      refine (HCY.out _ HA.out).mono ?_
      rintro e w2 ⟨rfl, hb2⟩
      have HB2 : Hid (Below w.heap.size w w2) := HA.out.trans (hb2.mono HA.out.size)
      have HO2 := hidO (HOw.out.later hb2)
      have d4 : w2.cell? ⟨w.heap.size, 4, none⟩ = some (.slice ra r.length rc) := HO2.out.cell 4 (by decide)
      have hl2 : w.heap.size < w2.heap.size := HO2.out.lt
      clear hb2
      go_wp2_with fail
      refine (HRN.out _ HB2.out).mono ?_
      rintro e w3 ⟨rfl, hb3⟩
      have HB3 : Hid (Below w.heap.size w w3) := HB2.out.trans (hb3.mono HB2.out.size)
      clear hb3
      go_wp2_with fail
      go_ret2
      rw [HR.out]
      exact outP_err HB3.out rfl
  · have HCN : Hid (∀ W, Below w.heap.size w W → Calls Tryz.prog 8 #[.slice p.ca o.c.length p.cc] W fun e w' => e = .returned (.bool false) ∧ Below W.heap.size W w') := fun W hW => cols_no hc p.ca p.cc W (hat.c.later hW) hcm hcn
    have HR : Hid (outO ck o = .error 4) := by unfold Hid outO; rw [if_neg]; simp [hc]
    generalize outO ck o = R at *
    clear hs hat hck hcm hrm hcn hrn hc
    obtain ⟨k, ex, nm, c, r, ks, os, wk, ws, wt, ag, ou⟩ := o
    obtain ⟨ea, ec, na, nc, ca, cc, ra, rc, ka, kc, oa, oc, ga, gc⟩ := p
    unfold opCs at *
    simp only at *
    go_enter Tryz.func4, Tryz.ntmps4
    go_wp2_with fail
    rw [← hW1]
    refine (HCN.out _ HA.out).mono ?_
    rintro e w3 ⟨rfl, hb3⟩
    have HB3 : Hid (Below w.heap.size w w3) := HA.out.trans (hb3.mono HA.out.size)
    clear hb3
    go_wp2_with fail
    go_ret2
    rw [HR.out]
    exact outP_err HB3.out rfl
end Go.Proofs.YtplaplhmjpfbjaaGreatDoor.Oo
