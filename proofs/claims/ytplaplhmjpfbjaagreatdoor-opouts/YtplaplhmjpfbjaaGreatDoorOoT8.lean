import Derived.Test.YtplaplhmjpfbjaaGreatDoorOe1
import Derived.Deep.RegionLaw
namespace Go.Proofs.YtplaplhmjpfbjaaGreatDoor.Oo
open Go.RowKit
set_option linter.unusedVariables false
set_option linter.unusedSimpArgs false
set_option maxRecDepth 100000

theorem belC {w W1 wr : World} (h : Below w.heap.size w W1) (hb : Below W1.heap.size W1 wr) : Below w.heap.size w wr := h.trans (hb.mono h.size)
theorem one_col_at (A : World) (n : Nat) (x : Co) (h : A.heap.size = n) : ColsAt (A.alloc (.cells #[.string x.nm, .int .i64 x.k] 43)) (some ⟨n, 0, none⟩) [x] := by
  subst h
  exact one_col A x
set_option maxHeartbeats 16000000 in
theorem foldedD_any (o : OpD) (p : OpA) (w : World) (hs : OpSz o) (hat : OpAt w o p) :
    Calls Tryz.prog 15 #[.agg (opCs o p)] w (DocP w (thenN (windowO o))) := by
  obtain ⟨i0, hi0, hz0, hz1, hz2⟩ := info_parts infoC
  have HC := hidO hat.c
  have HI := hidO hat.k
  have HN := hidO hat.n
  have HG := hidO hat.g
  have hcl := hs.c
  have hkl := hs.k
  have hgl := hs.g
  have HSZ : Hid (∀ acc, windowO o = .ok acc → acc.length ≤ maxLen ∧ ∀ x ∈ acc, x.nm.size ≤ 140737488355328) := fun acc h => by
    have h1 : rawO (fun _ => .error 0) { o with k := 4 } = .ok acc := by
      unfold rawO
      rw [if_neg (show ¬ (4 : Int) = 2 by decide), if_neg (show ¬ (4 : Int) = 3 by decide), if_pos rfl]
      exact h
    exact raw_sz (o := { o with k := 4 }) ⟨hs.e, hs.n, hs.c, hs.r, hs.k, hs.o, hs.g, hs.cn, hs.rn, hs.nn, hs.ws⟩ h1
  clear hs hat
  obtain ⟨k, ex, nm, c, r, ks, os, wk, ws, wt, ag, ou⟩ := o
  obtain ⟨ea, ec, na, nc, ca, cc, ra, rc, ka, kc, oa, oc, ga, gc⟩ := p
  unfold opCs
  simp only at *
  obtain ⟨R, hR⟩ : ∃ R, R = windowO ⟨k, ex, nm, c, r, ks, os, wk, ws, wt, ag, ou⟩ := ⟨_, rfl⟩
  have HR0 := hidO hR
  rw [← hR] at HSZ ⊢
  clear hR
  obtain ⟨W1, hW1⟩ : ∃ W1, W1 = w.alloc (.cells #[.int .i64 k, .slice ea ex.length ec, .slice na nm.length nc, .slice ca c.length cc, .slice ra r.length rc, .slice ka ks.length kc, .slice oa os.length oc, .int .i64 wk, .int .i64 ws, .int .i64 wt, .slice ga ag.length gc, .bool ou] 29) := ⟨_, rfl⟩
  have HW : Hid (Below w.heap.size w W1) := by rw [hW1]; exact xbel1 _ _
  have H2 : Hid (W1.cell? ⟨w.heap.size, 2, none⟩ = some (.slice na nm.length nc)) := by rw [hW1]; show _ = _; go_simp
  have H3 : Hid (W1.cell? ⟨w.heap.size, 3, none⟩ = some (.slice ca c.length cc)) := by rw [hW1]; show _ = _; go_simp
  have H5 : Hid (W1.cell? ⟨w.heap.size, 5, none⟩ = some (.slice ka ks.length kc)) := by rw [hW1]; show _ = _; go_simp
  have H7 : Hid (W1.cell? ⟨w.heap.size, 7, none⟩ = some (.int .i64 wk)) := by rw [hW1]; show _ = _; go_simp
  have H8 : Hid (W1.cell? ⟨w.heap.size, 8, none⟩ = some (.int .i64 ws)) := by rw [hW1]; show _ = _; go_simp
  have H9 : Hid (W1.cell? ⟨w.heap.size, 9, none⟩ = some (.int .i64 wt)) := by rw [hW1]; show _ = _; go_simp
  have H10 : Hid (W1.cell? ⟨w.heap.size, 10, none⟩ = some (.slice ga ag.length gc)) := by rw [hW1]; show _ = _; go_simp
  have HPL : Hid (∀ W, Below w.heap.size w W → Calls Tryz.prog 32 #[.slice ka ks.length kc, .slice ca c.length cc] W fun e w' => e = .returned (.bool (placesB ks c.length)) ∧ Below W.heap.size W w') := fun W hW => numbers_any ks ka kc ca c.length cc W (by omega) hkl (HI.out.later hW)
  have HWV : Hid (∀ W, Calls Tryz.prog 33 #[.agg #[.int .i64 wk, .int .i64 ws, .int .i64 wt]] W fun e w' => e = .returned (.bool (Wn.validB wk ws wt)) ∧ Below W.heap.size W w') := fun W => Wn.rvalid_any wk ws wt W
  generalize hP : placesB ks c.length = P at *
  generalize hV : Wn.validB wk ws wt = V at *
  have HHP := hidO hP
  have HHV := hidO hV
  clear hP hV
  go_enter Tryz.func15, Tryz.ntmps15
  go_wp2_with fail
  rw [← hW1]
  refine (HPL.out _ HW.out).mono ?_
  rintro e w1 ⟨rfl, hb1⟩
  have HB1 : Hid (Below W1.heap.size W1 w1) := hb1
  have d7 := xcell hb1 H7.out
  have d8 := xcell hb1 H8.out
  have d9 := xcell hb1 H9.out
  have hwl : w.heap.size < w1.heap.size := World.block_lt_of_cell? _ _ d7
  clear hb1
  go_wp2_with fail
  refine (HWV.out _).mono ?_
  rintro e w3 ⟨rfl, hb3⟩
  have HB3 : Hid (Below W1.heap.size W1 w3) := HB1.out.trans (hb3.mono HB1.out.size)
  have f2 := xcell HB3.out H2.out
  have f10 := xcell HB3.out H10.out
  have hwl3 : w.heap.size < w3.heap.size := World.block_lt_of_cell? _ _ f2
  clear hb3 d7 d8 d9 H7 H8 H9 HB1 HPL HWV hwl
  by_cases hok : P = true ∧ V = true ∧ nm.length = ag.length
  · obtain ⟨rfl, rfl, hl⟩ := hok
    have hlb : ((ag.length : Int) != (nm.length : Int)) = false := by simp [hl]
    have HPA := hidO (places_at HHP.out)
    have HR : Hid (R = match mapE (fun q => nameR (foldR c q.1) q.2) (ag.zip nm) with
      | .error n => .error n
      | .ok l => .ok (ks.map (colOf c) ++ l)) := by show R = _; rw [HR0.out]; unfold windowO winB; rw [if_pos ⟨HHP.out, HHV.out, hl⟩]; rfl
    have hzl : (ag.zip nm).length = ag.length := by rw [List.length_zip]; omega
    have HZL := hidO hzl
    have HLL := hidO hl
    clear hl hzl HR0
    go_wp2_with fail
    go_loopw [6, 7] (fun v i w' => ∃ (j : Nat), j ≤ ks.length ∧ i = .int .i64 j ∧ OC w' W1.heap.size v ((ks.take j).map (colOf c)) ∧ Below W1.heap.size W1 w') (fun _ i _ => ks.length - (intOf i).toNat)
    case atStart => exact ⟨0, Nat.zero_le _, rfl, OC.nil _ _, HB3.out⟩
    case round =>
      obtain ⟨j, hj, rfl, hO, hb⟩ := hrel
      have HO := hidO hO
      have HB := hidO hb
      have HBw : Hid (Below w.heap.size w wr) := belC HW.out hb
      have c5 := xcell hb H5.out
      have c3 := xcell hb H3.out
      have hwl3' : w.heap.size < wr.heap.size := World.block_lt_of_cell? _ _ c3
      clear hO hb hW1 f2 f10 HB3 hwl3
      by_cases hlt : j < ks.length
      · have hji : (j : Int) < (ks.length : Int) := by omega
        obtain ⟨t, ht, htl⟩ := place_at (HPA.out.2 j hlt)
        have hti : (t : Int) < (c.length : Int) := by omega
        obtain ⟨b, off, rfl, e1⟩ := (HI.out.later HBw.out) j hlt
        rw [ht] at e1
        obtain ⟨b', off', rfl, f1, f2⟩ := (HC.out.later HBw.out) t htl
        have HNX : Hid ((ks.take (j + 1)).map (colOf c) = (ks.take j).map (colOf c) ++ [c[t]]) := by
          show _ = _
          rw [List.take_succ_eq_append_getElem hlt, List.map_append, List.map_cons, List.map_nil, ht, colOf_at c t htl]
        obtain ⟨x, hx⟩ : ∃ x, x = c[t] := ⟨_, rfl⟩
        rw [← hx] at f1 f2 HNX
        obtain ⟨xn, xk⟩ := x
        simp only at f1 f2
        have hbl : b < wr.heap.size := World.block_lt_of_cell? _ _ e1
        have hbl' : b' < wr.heap.size := World.block_lt_of_cell? _ _ f1
        have hl8 : ((ks.take j).map (colOf c)).length ≤ 8 := by rw [List.length_map, List.length_take]; have := HPA.out.1; omega
        obtain ⟨K, hK⟩ : ∃ K, K = (ks.take j).map (colOf c) := ⟨_, rfl⟩
        rw [← hK] at HO HNX hl8
        have HA1 : Hid ((wr.alloc (.cells #[.string xn, .int .i64 xk] 43)).drew.ownsRow W1.heap.size 43 2 u6 K.length (K.flatMap cellsC)) := World.ownsRow.drew (World.ownsRow.alloc HO.out _)
        have HNEWS : Hid (∀ j u, (cellsC ⟨xn, xk⟩)[j]? = some u → (wr.alloc (.cells #[.string xn, .int .i64 xk] 43)).drew.cell? ((⟨wr.heap.size, 0, none⟩ : Addr).add j) = some u) := World.news_of_block (cs := #[.string xn, .int .i64 xk]) (t := 43) (fr := (0, 0)) (heap_alloc_new wr _)
        have HBA : Hid (Below W1.heap.size W1 (wr.alloc (.cells #[.string xn, .int .i64 xk] 43)).drew) := (HB.out.trans ((xbel1 wr _).mono HB.out.size)).drew
        have hszA : (wr.alloc (.cells #[.string xn, .int .i64 xk] 43)).drew.heap.size = wr.heap.size + 1 := by simp
        have HKK := hidO hK
        clear hx ht hK
        go_wp2_with fail
        go_region_law (refine step_append_lies _ (by rfl) _ _ _ (by rfl) W1.heap.size 43 i0 _ 2 24 Tryz.underlying23 hi0 hz0 hz1 hz2 rfl (by omega) u6 K.length (K.flatMap cellsC) (by rfl) HA1.out ⟨wr.heap.size, 0, none⟩ 1 1 (cellsC ⟨xn, xk⟩) (by rfl) (by rfl) HNEWS.out (one_cellsC _) (by omega) (by unfold maxLen; omega) (by omega) HBA.out.size (wr.heap.size + 1) hszA ?_; intro gg cap w4 hown4 hgrow hat hlt4)
        all_goals
          have HO2 : Hid (OC w4 W1.heap.size (.slice (some ⟨gg, 0, none⟩) (K.length + 1) cap) ((ks.take (j + 1)).map (colOf c))) := by
            show OC w4 W1.heap.size (.slice (some ⟨gg, 0, none⟩) (K.length + 1) cap) ((ks.take (j + 1)).map (colOf c))
            rw [HNX.out]
            unfold OC
            rw [List.length_append, List.flatMap_append]
            simpa using hown4
          have HB4 : Hid (Below W1.heap.size W1 w4) := HBA.out.grown hgrow HBA.out.size (fun q hq => (World.ownsRow.lt HO.out q hq).1)
          clear hown4 hgrow hat
          go_wp2_with fail
          exact ⟨⟨j + 1, by omega, by go_num, HO2.out, by first | exact HB4.out | exact HB4.out.drew | exact belDrew HB4.out⟩, by simp [intOf]; omega⟩
      · obtain rfl : j = ks.length := by omega
        have hnl : ¬ (ks.length : Int) < (ks.length : Int) := by omega
        have HO' : Hid (OC wr W1.heap.size u6 (ks.map (colOf c) ++ [])) := by
          have := HO.out
          rw [List.take_length] at this
          rw [List.append_nil]
          exact this
        have d10 := xcell HB.out H10.out
        clear hlt hj HO
        go_wp2_with fail
        go_loopw [6, 8] (fun v i w' => ∃ (j : Nat) (acc : List Co), j ≤ ag.length ∧ i = .int .i64 j ∧ OC w' W1.heap.size v (ks.map (colOf c) ++ acc) ∧ mapE (fun q => nameR (foldR c q.1) q.2) ((ag.zip nm).take j) = .ok acc ∧ Below W1.heap.size W1 w') (fun _ i _ => ag.length - (intOf i).toNat)
        case atStart => exact ⟨0, [], Nat.zero_le _, rfl, HO'.out, rfl, HB.out⟩
        case round =>
          clear HO' HB HBw d10 c3 c5 hwl3' hnl
          obtain ⟨j, acc, hj, rfl, hO, hmp, hb⟩ := hrel
          have HO := hidO hO
          have HB := hidO hb
          have HM := hidO hmp
          have HBw : Hid (Below w.heap.size w wr) := belC HW.out hb
          have c3 := xcell hb H3.out
          have c10 := xcell hb H10.out
          have c2 := xcell hb H2.out
          have hwlr : w.heap.size < wr.heap.size := World.block_lt_of_cell? _ _ c3
          clear hO hb hmp
          by_cases hlt : j < ag.length
          · have hji : (j : Int) < (ag.length : Int) := by omega
            have hjn : j < nm.length := by have := HLL.out; omega
            have hjni : (j : Int) < (nm.length : Int) := by omega
            obtain ⟨b, off, rfl, e1, e1'⟩ := (HG.out.later HBw.out) j hlt
            obtain ⟨b', off', rfl, e2⟩ := (HN.out.later HBw.out) j hjn
            have hjz : j < (ag.zip nm).length := by rw [HZL.out]; exact hlt
            have hge : (ag.zip nm)[j] = (ag[j], nm[j]) := List.getElem_zip
            obtain ⟨x, hsd⟩ : ∃ x, x = ag[j] := ⟨_, rfl⟩
            obtain ⟨nn, hnd⟩ : ∃ nn, nn = nm[j] := ⟨_, rfl⟩
            rw [← hsd] at e1 e1'
            rw [← hnd] at e2
            have HF : Hid ((fun q : Ag × ByteArray => nameR (foldR c q.1) q.2) (ag.zip nm)[j] = nameR (foldR c x) nn) := by unfold Hid; rw [hge, hsd, hnd]
            have hbl : b < wr.heap.size := World.block_lt_of_cell? _ _ e1
            have hbl' : b' < wr.heap.size := World.block_lt_of_cell? _ _ e2
            have hal : acc.length = j := by
              have := mapE_len _ _ _ HM.out
              rw [List.length_take] at this
              have := HZL.out
              omega
            have hl8 : (ks.map (colOf c) ++ acc).length ≤ 8796093022220 := by rw [List.length_append, List.length_map]; have := HPA.out.1; omega
            obtain ⟨xk, xa⟩ := x
            simp only at e1 e1'
            clear hsd hnd hge
            have HA1 : Hid (Below W1.heap.size W1 (wr.alloc (.cells #[.int .i64 xk, .int .i64 xa] 69))) := HB.out.trans ((xbel1 wr _).mono HB.out.size)
            have HA : Hid (Below w.heap.size w (wr.alloc (.cells #[.int .i64 xk, .int .i64 xa] 69))) := belC HW.out HA1.out
            have HOA : Hid (OC ((wr.alloc (.cells #[.int .i64 xk, .int .i64 xa] 69))) W1.heap.size u6 (ks.map (colOf c) ++ acc)) := OC.later HO.out (xbel1 wr _)
            by_cases hAg : 1 ≤ xk ∧ xk ≤ 7
            · have hAb : aggB xk = true := by unfold aggB; simp; omega
              have g1 : ¬ xk < 1 := by omega
              have g7 : ¬ (7 : Int) < xk := by omega
              by_cases h1 : xk = 1
              · subst h1
                by_cases hx1 : xa = -1
                · subst hx1
                  have hfk : foldR c ⟨1, -1⟩ = .ok 1 := by unfold foldR; simp [hAb]
                  rw [hfk] at HF
                  have HM' : Hid (mapE (fun q => nameR (foldR c q.1) q.2) ((ag.zip nm).take (j + 1)) = .ok (acc ++ [⟨nn, 1⟩])) := mapE_next HM.out hjz HF.out
                  clear hfk
                  go_wp2_with (at_builtin; refine app_C1 rfl _ _ rfl W1.heap.size u6 (ks.map (colOf c) ++ acc) ⟨nn, 1⟩ (wr.heap.size + 1) 1 rfl (OC.later HOA.out (xbel1 _ _)) rfl (one_col_at _ _ _ (by simp)) (by omega) (Nat.le_trans HA1.out.size (by simp)) ?_)
                  intro v' w4 hO2 hg2
                  have HO2 : Hid (OC w4 W1.heap.size v' (ks.map (colOf c) ++ (acc ++ [⟨nn, 1⟩]))) := by
                    show OC w4 W1.heap.size v' (ks.map (colOf c) ++ (acc ++ [⟨nn, 1⟩]))
                    first | exact hO2 | (rw [← List.append_assoc]; exact hO2)
                  have HB4 : Hid (Below W1.heap.size W1 w4) := (HA1.out.trans ((xbel1 _ _).mono HA1.out.size)).grown hg2 (Nat.le_trans HA1.out.size (by simp)) (fun q hq => (World.ownsRow.lt HO.out q hq).1)
                  clear hO2 hg2
                  go_wp2_with fail
                  exact ⟨⟨j + 1, acc ++ [⟨nn, 1⟩], by omega, by go_num, HO2.out, HM'.out, HB4.out⟩, by simp [intOf]; omega⟩
                · have hxb : (xa != -1) = true := by simp [hx1]
                  have hfk : foldR c ⟨1, xa⟩ = .error 4 := by unfold foldR; simp [hAb, hx1]
                  by_cases h0 : 0 ≤ xa
                  · by_cases h2 : xa < (c.length : Int)
                    · rw [hfk] at HF
                      have HR' : Hid (thenN R = .error 4) := by show thenN R = .error 4; rw [HR.out, mapE_stop HM.out hjz HF.out]; rfl
                      clear hfk
                      go_wp2_with fail
                      go_ret2
                      rw [HR'.out]
                      exact docP_err HA.out rfl
                    · rw [hfk] at HF
                      have HR' : Hid (thenN R = .error 4) := by show thenN R = .error 4; rw [HR.out, mapE_stop HM.out hjz HF.out]; rfl
                      clear hfk
                      go_wp2_with fail
                      go_ret2
                      rw [HR'.out]
                      exact docP_err HA.out rfl
                  · rw [hfk] at HF
                    have HR' : Hid (thenN R = .error 4) := by show thenN R = .error 4; rw [HR.out, mapE_stop HM.out hjz HF.out]; rfl
                    clear hfk
                    go_wp2_with fail
                    go_ret2
                    rw [HR'.out]
                    exact docP_err HA.out rfl
              · have h1b : (xk == 1) = false := by simp [h1]
                have h1c : (xk != 1) = true := by simp [h1]
                by_cases hPl : placeB xa c.length = true
                · obtain ⟨t, rfl, htl⟩ := place_at hPl
                  have ht0 : (0 : Int) ≤ (t : Int) := by omega
                  have hti : (t : Int) < (c.length : Int) := by omega
                  obtain ⟨b3, o3, rfl, -, e3⟩ := (HC.out.later HBw.out) t htl
                  have HFK : Hid (foldR c ⟨xk, (t : Int)⟩ = if xk = 2 then (if c[t].k = 1 then .ok 1 else .error 3) else if xk = 7 then .ok 1 else .ok c[t].k) := by
                    unfold Hid foldR; simp [hAb, h1, hPl, colOf_at c t htl]
                  obtain ⟨kd, hkd⟩ : ∃ kd, kd = c[t].k := ⟨_, rfl⟩
                  rw [← hkd] at e3 HFK
                  have l3 : b3 < wr.heap.size := World.block_lt_of_cell? _ _ e3
                  clear hkd hPl hAb
                  by_cases h2 : xk = 2
                  · subst h2
                    by_cases hk1 : kd = 1
                    · subst hk1
                      have hfk : foldR c ⟨2, (t : Int)⟩ = .ok 1 := HFK.out
                      rw [hfk] at HF
                      have HM' : Hid (mapE (fun q => nameR (foldR c q.1) q.2) ((ag.zip nm).take (j + 1)) = .ok (acc ++ [⟨nn, 1⟩])) := mapE_next HM.out hjz HF.out
                      clear hfk
                      go_wp2_with (at_builtin; refine app_C1 rfl _ _ rfl W1.heap.size u6 (ks.map (colOf c) ++ acc) ⟨nn, 1⟩ (wr.heap.size + 1) 1 rfl (OC.later HOA.out (xbel1 _ _)) rfl (one_col_at _ _ _ (by simp)) (by omega) (Nat.le_trans HA1.out.size (by simp)) ?_)
                      intro v' w4 hO2 hg2
                      have HO2 : Hid (OC w4 W1.heap.size v' (ks.map (colOf c) ++ (acc ++ [⟨nn, 1⟩]))) := by
                        show OC w4 W1.heap.size v' (ks.map (colOf c) ++ (acc ++ [⟨nn, 1⟩]))
                        first | exact hO2 | (rw [← List.append_assoc]; exact hO2)
                      have HB4 : Hid (Below W1.heap.size W1 w4) := (HA1.out.trans ((xbel1 _ _).mono HA1.out.size)).grown hg2 (Nat.le_trans HA1.out.size (by simp)) (fun q hq => (World.ownsRow.lt HO.out q hq).1)
                      clear hO2 hg2
                      go_wp2_with fail
                      exact ⟨⟨j + 1, acc ++ [⟨nn, 1⟩], by omega, by go_num, HO2.out, HM'.out, HB4.out⟩, by simp [intOf]; omega⟩
                    · have hkb : (kd != 1) = true := by simp [hk1]
                      have hfk : foldR c ⟨2, (t : Int)⟩ = .error 3 := by have := HFK.out; simpa [hk1] using this
                      rw [hfk] at HF
                      have HR' : Hid (thenN R = .error 3) := by show thenN R = .error 3; rw [HR.out, mapE_stop HM.out hjz HF.out]; rfl
                      clear hfk
                      go_wp2_with fail
                      go_ret2
                      rw [HR'.out]
                      exact docP_err HA.out rfl
                  · have h2b : (xk == 2) = false := by simp [h2]
                    by_cases h7 : xk = 7
                    · subst h7
                      have hfk : foldR c ⟨7, (t : Int)⟩ = .ok 1 := HFK.out
                      rw [hfk] at HF
                      have HM' : Hid (mapE (fun q => nameR (foldR c q.1) q.2) ((ag.zip nm).take (j + 1)) = .ok (acc ++ [⟨nn, 1⟩])) := mapE_next HM.out hjz HF.out
                      clear hfk
                      go_wp2_with (at_builtin; refine app_C1 rfl _ _ rfl W1.heap.size u6 (ks.map (colOf c) ++ acc) ⟨nn, 1⟩ (wr.heap.size + 1) 1 rfl (OC.later HOA.out (xbel1 _ _)) rfl (one_col_at _ _ _ (by simp)) (by omega) (Nat.le_trans HA1.out.size (by simp)) ?_)
                      intro v' w4 hO2 hg2
                      have HO2 : Hid (OC w4 W1.heap.size v' (ks.map (colOf c) ++ (acc ++ [⟨nn, 1⟩]))) := by
                        show OC w4 W1.heap.size v' (ks.map (colOf c) ++ (acc ++ [⟨nn, 1⟩]))
                        first | exact hO2 | (rw [← List.append_assoc]; exact hO2)
                      have HB4 : Hid (Below W1.heap.size W1 w4) := (HA1.out.trans ((xbel1 _ _).mono HA1.out.size)).grown hg2 (Nat.le_trans HA1.out.size (by simp)) (fun q hq => (World.ownsRow.lt HO.out q hq).1)
                      clear hO2 hg2
                      go_wp2_with fail
                      exact ⟨⟨j + 1, acc ++ [⟨nn, 1⟩], by omega, by go_num, HO2.out, HM'.out, HB4.out⟩, by simp [intOf]; omega⟩
                    · have hfk : foldR c ⟨xk, (t : Int)⟩ = .ok kd := by have := HFK.out; simpa [h2, h7] using this
                      have h4 : xk = 3 ∨ xk = 4 ∨ xk = 5 ∨ xk = 6 := by omega
                      clear HFK
                      rcases h4 with rfl | rfl | rfl | rfl
                      all_goals
                        rw [hfk] at HF
                        have HM' : Hid (mapE (fun q => nameR (foldR c q.1) q.2) ((ag.zip nm).take (j + 1)) = .ok (acc ++ [⟨nn, kd⟩])) := mapE_next HM.out hjz HF.out
                        clear hfk
                        go_wp2_with (at_builtin; refine app_C1 rfl _ _ rfl W1.heap.size u6 (ks.map (colOf c) ++ acc) ⟨nn, kd⟩ (wr.heap.size + 1) 1 rfl (OC.later HOA.out (xbel1 _ _)) rfl (one_col_at _ _ _ (by simp)) (by omega) (Nat.le_trans HA1.out.size (by simp)) ?_)
                        intro v' w4 hO2 hg2
                        have HO2 : Hid (OC w4 W1.heap.size v' (ks.map (colOf c) ++ (acc ++ [⟨nn, kd⟩]))) := by
                          show OC w4 W1.heap.size v' (ks.map (colOf c) ++ (acc ++ [⟨nn, kd⟩]))
                          first | exact hO2 | (rw [← List.append_assoc]; exact hO2)
                        have HB4 : Hid (Below W1.heap.size W1 w4) := (HA1.out.trans ((xbel1 _ _).mono HA1.out.size)).grown hg2 (Nat.le_trans HA1.out.size (by simp)) (fun q hq => (World.ownsRow.lt HO.out q hq).1)
                        clear hO2 hg2
                        go_wp2_with fail
                        exact ⟨⟨j + 1, acc ++ [⟨nn, kd⟩], by omega, by go_num, HO2.out, HM'.out, HB4.out⟩, by simp [intOf]; omega⟩
                · have hPf : placeB xa c.length = false := by simpa using hPl
                  have hfk : foldR c ⟨xk, xa⟩ = .error 4 := by unfold foldR; simp [hAb, h1, hPf]
                  by_cases h0 : 0 ≤ xa
                  · have h2 : ¬ xa < (c.length : Int) := by intro h; apply hPl; unfold placeB; simp; omega
                    rw [hfk] at HF
                    have HR' : Hid (thenN R = .error 4) := by show thenN R = .error 4; rw [HR.out, mapE_stop HM.out hjz HF.out]; rfl
                    clear hfk
                    go_wp2_with fail
                    go_ret2
                    rw [HR'.out]
                    exact docP_err HA.out rfl
                  · rw [hfk] at HF
                    have HR' : Hid (thenN R = .error 4) := by show thenN R = .error 4; rw [HR.out, mapE_stop HM.out hjz HF.out]; rfl
                    clear hfk
                    go_wp2_with fail
                    go_ret2
                    rw [HR'.out]
                    exact docP_err HA.out rfl
            · have hAb : aggB xk = false := by unfold aggB; simp; omega
              have hfk : foldR c ⟨xk, xa⟩ = .error 4 := by unfold foldR; simp [hAb]
              by_cases g1 : xk < 1
              · by_cases h0 : 0 ≤ xa
                · by_cases h2 : xa < (c.length : Int)
                  · rw [hfk] at HF
                    have HR' : Hid (thenN R = .error 4) := by show thenN R = .error 4; rw [HR.out, mapE_stop HM.out hjz HF.out]; rfl
                    clear hfk
                    go_wp2_with fail
                    go_ret2
                    rw [HR'.out]
                    exact docP_err HA.out rfl
                  · rw [hfk] at HF
                    have HR' : Hid (thenN R = .error 4) := by show thenN R = .error 4; rw [HR.out, mapE_stop HM.out hjz HF.out]; rfl
                    clear hfk
                    go_wp2_with fail
                    go_ret2
                    rw [HR'.out]
                    exact docP_err HA.out rfl
                · rw [hfk] at HF
                  have HR' : Hid (thenN R = .error 4) := by show thenN R = .error 4; rw [HR.out, mapE_stop HM.out hjz HF.out]; rfl
                  clear hfk
                  go_wp2_with fail
                  go_ret2
                  rw [HR'.out]
                  exact docP_err HA.out rfl
              · have g7 : (7 : Int) < xk := by omega
                by_cases h0 : 0 ≤ xa
                · by_cases h2 : xa < (c.length : Int)
                  · rw [hfk] at HF
                    have HR' : Hid (thenN R = .error 4) := by show thenN R = .error 4; rw [HR.out, mapE_stop HM.out hjz HF.out]; rfl
                    clear hfk
                    go_wp2_with fail
                    go_ret2
                    rw [HR'.out]
                    exact docP_err HA.out rfl
                  · rw [hfk] at HF
                    have HR' : Hid (thenN R = .error 4) := by show thenN R = .error 4; rw [HR.out, mapE_stop HM.out hjz HF.out]; rfl
                    clear hfk
                    go_wp2_with fail
                    go_ret2
                    rw [HR'.out]
                    exact docP_err HA.out rfl
                · rw [hfk] at HF
                  have HR' : Hid (thenN R = .error 4) := by show thenN R = .error 4; rw [HR.out, mapE_stop HM.out hjz HF.out]; rfl
                  clear hfk
                  go_wp2_with fail
                  go_ret2
                  rw [HR'.out]
                  exact docP_err HA.out rfl
          · obtain rfl : j = ag.length := by omega
            have hnl : ¬ (ag.length : Int) < (ag.length : Int) := by omega
            have hRk : R = .ok (ks.map (colOf c) ++ acc) := by
              have h1 := HM.out
              rw [List.take_of_length_le (by rw [HZL.out]; exact Nat.le_refl _)] at h1
              rw [HR.out, h1]
            have hsz := HSZ.out _ hRk
            have HR' : Hid (thenN R = namedO (ks.map (colOf c) ++ acc)) := by
              show thenN R = namedO (ks.map (colOf c) ++ acc)
              rw [hRk]; rfl
            obtain ⟨a2, c2', e2, hcc, -⟩ := OC.form HO.out
            subst e2
            have HND : Hid (Calls Tryz.prog 17 #[.slice a2 (ks.map (colOf c) ++ acc).length c2'] wr (DocP wr (namedO (ks.map (colOf c) ++ acc)))) := namedD_any (ks.map (colOf c) ++ acc) a2 c2' wr hcc hsz.1 hsz.2
            generalize ks.map (colOf c) ++ acc = L at *
            clear hlt hj hcc hsz hRk
            go_wp2_with fail
            refine HND.out.mono ?_
            rintro e w6 ⟨hb6, hr6⟩
            have HB6 : Hid (Below w.heap.size w w6) := HBw.out.trans (hb6.mono HBw.out.size)
            rw [← HR'.out] at hr6
            cases hT : thenN R with
            | error n =>
              rw [hT] at hr6
              simp only at hr6
              subst hr6
              clear hb6 HND HR'
              go_wp2_with fail
              go_ret2
              rw [hT]
              exact docP_err HB6.out rfl
            | ok l =>
              rw [hT] at hr6
              obtain ⟨a3, c3', rfl, hc3⟩ := hr6
              have HC3 := hidO hc3
              clear hb6 HND HR' hc3
              go_wp2_with fail
              go_ret2
              rw [hT]
              exact docP_ok HB6.out rfl HC3.out
  · have HR : Hid (thenN R = .error 4) := by
      show thenN R = .error 4
      rw [HR0.out]
      unfold windowO winB
      rw [if_neg (by rw [HHP.out, HHV.out]; exact hok)]
      rfl
    have HB3w : Hid (Below w.heap.size w w3) := belC HW.out HB3.out
    cases P with
    | false =>
      clear hok
      go_wp2_with fail
      go_ret2
      rw [HR.out]
      exact docP_err HB3w.out rfl
    | true =>
      cases V with
      | false =>
        clear hok
        go_wp2_with fail
        go_ret2
        rw [HR.out]
        exact docP_err HB3w.out rfl
      | true =>
        have hlb : ((ag.length : Int) != (nm.length : Int)) = true := by
          have : nm.length ≠ ag.length := fun h => hok ⟨rfl, rfl, h⟩
          simp; omega
        clear hok
        go_wp2_with fail
        go_ret2
        rw [HR.out]
        exact docP_err HB3w.out rfl
end Go.Proofs.YtplaplhmjpfbjaaGreatDoor.Oo
