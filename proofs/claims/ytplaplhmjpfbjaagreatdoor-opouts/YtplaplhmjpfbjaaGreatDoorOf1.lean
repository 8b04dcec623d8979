import Derived.Test.YtplaplhmjpfbjaaGreatDoorOe1
import Derived.Deep.DeepCutAuto
import Derived.Test.YtplaplhmjpfbjaaGreatDoorOoT8
namespace Go.Proofs.YtplaplhmjpfbjaaGreatDoor.Oo
open Go.RowKit
set_option linter.unusedVariables false
set_option linter.unusedSimpArgs false
set_option maxRecDepth 100000
attribute [local go_sem ↓] neqlW eqlW
attribute [local go_sem] guardW

/-- A letter more, if it is to be. -/
def addL (b : Bool) (s : List UInt8) (x : UInt8) : List UInt8 := if b = true then s ++ [x] else s
def bs (l : List UInt8) : ByteArray := ⟨l.toArray⟩
theorem bs_add (l : List UInt8) (x : UInt8) : bs l ++ ⟨#[x]⟩ = bs (l ++ [x]) := by
  unfold bs
  apply ByteArray.ext
  simp
theorem bs_size (l : List UInt8) : (bs l).size = l.length := by unfold bs; simp [ByteArray.size]
theorem add_yes {b : Bool} {s : List UInt8} {x : UInt8} (h : b = true) : bs s ++ ⟨#[x]⟩ = bs (addL b s x) := by rw [bs_add]; unfold addL; rw [if_pos h]
theorem add_no {b : Bool} {s : List UInt8} {x : UInt8} (h : b = false) : bs s = bs (addL b s x) := by unfold addL; rw [if_neg (by simp [h])]
theorem add_len (b : Bool) (s : List UInt8) (x : UInt8) : (addL b s x).length ≤ s.length + 1 := by unfold addL; split <;> simp
/-- The letters of what an operator has. -/
def hasL (en nn rn kn on gn : Nat) (W ou : Bool) : List UInt8 := addL ou (addL (decide (0 < gn)) (addL W (addL (decide (0 < on)) (addL (decide (0 < kn)) (addL (decide (0 < rn)) (addL (decide (0 < nn)) (addL (decide (0 < en)) [] 101) 110) 114) 107) 111) 119) 97) 117
def bareB (h m : ByteArray) : Bool := h.data.toList.all (fun x => m.data.toList.any (fun y => y == x))
set_option maxHeartbeats 8000000 in
theorem bare_any (o : OpD) (p : OpA) (m : ByteArray) (hm8 : m.size ≤ 8) (w : World) (hs : OpSz o) :
    Calls Tryz.prog 12 #[.agg (opCs o p), .string m] w fun e w' => e = .returned (.bool (bareB (bs (hasL o.ex.length o.nm.length o.r.length o.ks.length o.os.length o.ag.length (!eqW o.wk o.ws o.wt 0 0 0) o.ou)) m)) ∧ Below w.heap.size w w' := by
  have he := hs.e
  have hn := hs.n
  have hr := hs.r
  have hk := hs.k
  have ho := hs.o
  have hg := hs.g
  obtain ⟨k, ex, nm, c, r, ks, os, wk, ws, wt, ag, ou⟩ := o
  obtain ⟨ea, ec, na, nc, ca, cc, ra, rc, ka, kc, oa, oc, ga, gc⟩ := p
  unfold opCs
  simp only at *
  clear hs
  generalize ex.length = en at *
  generalize nm.length = nn at *
  generalize c.length = cn at *
  generalize r.length = rn at *
  generalize ks.length = kn at *
  generalize os.length = on at *
  generalize ag.length = gn at *
  obtain ⟨W1, hW1⟩ : ∃ W1, W1 = w.alloc (.cells #[.int .i64 k, .slice ea en ec, .slice na nn nc, .slice ca cn cc, .slice ra rn rc, .slice ka kn kc, .slice oa on oc, .int .i64 wk, .int .i64 ws, .int .i64 wt, .slice ga gn gc, .bool ou] 29) := ⟨_, rfl⟩
  have HW : Hid (Below w.heap.size w W1) := by rw [hW1]; exact xbel1 _ _
  obtain ⟨HH, hHH⟩ : ∃ HH, HH = hasL en nn rn kn on gn (!eqW wk ws wt 0 0 0) ou := ⟨_, rfl⟩
  have HHS := hidO hHH
  rw [← hHH]
  clear hHH
  have k1 : W1.cell? ⟨w.heap.size, 1, none⟩ = some (.slice ea en ec) := by rw [hW1]; go_simp
  have k2 : W1.cell? ⟨w.heap.size, 2, none⟩ = some (.slice na nn nc) := by rw [hW1]; go_simp
  have k4 : W1.cell? ⟨w.heap.size, 4, none⟩ = some (.slice ra rn rc) := by rw [hW1]; go_simp
  have k5 : W1.cell? ⟨w.heap.size, 5, none⟩ = some (.slice ka kn kc) := by rw [hW1]; go_simp
  have k6 : W1.cell? ⟨w.heap.size, 6, none⟩ = some (.slice oa on oc) := by rw [hW1]; go_simp
  have k7 : W1.cell? ⟨w.heap.size, 7, none⟩ = some (.int .i64 wk) := by rw [hW1]; go_simp
  have k8 : W1.cell? ⟨w.heap.size, 8, none⟩ = some (.int .i64 ws) := by rw [hW1]; go_simp
  have k9 : W1.cell? ⟨w.heap.size, 9, none⟩ = some (.int .i64 wt) := by rw [hW1]; go_simp
  have k10 : W1.cell? ⟨w.heap.size, 10, none⟩ = some (.slice ga gn gc) := by rw [hW1]; go_simp
  have k11 : W1.cell? ⟨w.heap.size, 11, none⟩ = some (.bool ou) := by rw [hW1]; go_simp
  have hl1 : w.heap.size < W1.heap.size := World.block_lt_of_cell? _ _ k1
  go_enter Tryz.func12, Tryz.ntmps12
  go_upto_region 2 with fail
  rw [← hW1]
  clear hW1
  go_upto_if 12 with fail
  go_cut [5] from 12 to 14 (fun v wx => v = .string (bs (addL (decide (0 < en)) [] 101)) ∧ wx = W1)
  case first =>
    by_cases h : 0 < en
    · have hi : (0 : Int) < (en : Int) := by omega
      go_wp2_with fail
      go_meet
      exact ⟨congrArg Value.string (add_yes (s := []) (decide_eq_true h)), rfl⟩
    · have hi : ¬ (0 : Int) < (en : Int) := by omega
      go_wp2_with fail
      go_meet
      exact ⟨congrArg Value.string (add_no (s := []) (decide_eq_false h)), rfl⟩
  case rest =>
    obtain ⟨hv, hw⟩ := hcut
    subst hv
    have hw' := hw.symm
    subst hw'
    obtain ⟨S1, hS1⟩ : ∃ S, S = addL (decide (0 < en)) [] 101 := ⟨_, rfl⟩
    have z1 : S1.length ≤ 1 := by rw [hS1]; have := add_len (decide (0 < en)) [] 101; simp at this ⊢; omega
    have y1 : (bs S1).size ≤ 1 := by rw [bs_size]; exact z1
    rw [← hS1]
    have HS1 := hidO hS1
    clear hS1
    go_upto_if 18 with fail
    go_cut [5] from 18 to 20 (fun v wx => v = .string (bs (addL (decide (0 < nn)) S1 110)) ∧ wx = W1)
    case first =>
      by_cases h : 0 < nn
      · have hi : (0 : Int) < (nn : Int) := by omega
        go_wp2_with fail
        go_meet
        exact ⟨congrArg Value.string (add_yes (s := S1) (decide_eq_true h)), rfl⟩
      · have hi : ¬ (0 : Int) < (nn : Int) := by omega
        go_wp2_with fail
        go_meet
        exact ⟨congrArg Value.string (add_no (s := S1) (decide_eq_false h)), rfl⟩
    case rest =>
      obtain ⟨hv, hw⟩ := hcut
      subst hv
      have hw' := hw.symm
      subst hw'
      obtain ⟨S2, hS2⟩ : ∃ S, S = addL (decide (0 < nn)) S1 110 := ⟨_, rfl⟩
      have z2 : S2.length ≤ 2 := by rw [hS2]; have := add_len (decide (0 < nn)) S1 110; omega
      have y2 : (bs S2).size ≤ 2 := by rw [bs_size]; exact z2
      rw [← hS2]
      have HS2 := hidO hS2
      clear hS2 y1
      go_upto_if 24 with fail
      go_cut [5] from 24 to 26 (fun v wx => v = .string (bs (addL (decide (0 < rn)) S2 114)) ∧ wx = W1)
      case first =>
        by_cases h : 0 < rn
        · have hi : (0 : Int) < (rn : Int) := by omega
          go_wp2_with fail
          go_meet
          exact ⟨congrArg Value.string (add_yes (s := S2) (decide_eq_true h)), rfl⟩
        · have hi : ¬ (0 : Int) < (rn : Int) := by omega
          go_wp2_with fail
          go_meet
          exact ⟨congrArg Value.string (add_no (s := S2) (decide_eq_false h)), rfl⟩
      case rest =>
        obtain ⟨hv, hw⟩ := hcut
        subst hv
        have hw' := hw.symm
        subst hw'
        obtain ⟨S3, hS3⟩ : ∃ S, S = addL (decide (0 < rn)) S2 114 := ⟨_, rfl⟩
        have z3 : S3.length ≤ 3 := by rw [hS3]; have := add_len (decide (0 < rn)) S2 114; omega
        have y3 : (bs S3).size ≤ 3 := by rw [bs_size]; exact z3
        rw [← hS3]
        have HS3 := hidO hS3
        clear hS3 y2
        go_upto_if 30 with fail
        go_cut [5] from 30 to 32 (fun v wx => v = .string (bs (addL (decide (0 < kn)) S3 107)) ∧ wx = W1)
        case first =>
          by_cases h : 0 < kn
          · have hi : (0 : Int) < (kn : Int) := by omega
            go_wp2_with fail
            go_meet
            exact ⟨congrArg Value.string (add_yes (s := S3) (decide_eq_true h)), rfl⟩
          · have hi : ¬ (0 : Int) < (kn : Int) := by omega
            go_wp2_with fail
            go_meet
            exact ⟨congrArg Value.string (add_no (s := S3) (decide_eq_false h)), rfl⟩
        case rest =>
          obtain ⟨hv, hw⟩ := hcut
          subst hv
          have hw' := hw.symm
          subst hw'
          obtain ⟨S4, hS4⟩ : ∃ S, S = addL (decide (0 < kn)) S3 107 := ⟨_, rfl⟩
          have z4 : S4.length ≤ 4 := by rw [hS4]; have := add_len (decide (0 < kn)) S3 107; omega
          have y4 : (bs S4).size ≤ 4 := by rw [bs_size]; exact z4
          rw [← hS4]
          have HS4 := hidO hS4
          clear hS4 y3
          go_upto_if 36 with fail
          go_cut [5] from 36 to 38 (fun v wx => v = .string (bs (addL (decide (0 < on)) S4 111)) ∧ wx = W1)
          case first =>
            by_cases h : 0 < on
            · have hi : (0 : Int) < (on : Int) := by omega
              go_wp2_with fail
              go_meet
              exact ⟨congrArg Value.string (add_yes (s := S4) (decide_eq_true h)), rfl⟩
            · have hi : ¬ (0 : Int) < (on : Int) := by omega
              go_wp2_with fail
              go_meet
              exact ⟨congrArg Value.string (add_no (s := S4) (decide_eq_false h)), rfl⟩
          case rest =>
            obtain ⟨hv, hw⟩ := hcut
            subst hv
            have hw' := hw.symm
            subst hw'
            obtain ⟨S5, hS5⟩ : ∃ S, S = addL (decide (0 < on)) S4 111 := ⟨_, rfl⟩
            have z5 : S5.length ≤ 5 := by rw [hS5]; have := add_len (decide (0 < on)) S4 111; omega
            have y5 : (bs S5).size ≤ 5 := by rw [bs_size]; exact z5
            rw [← hS5]
            have HS5 := hidO hS5
            clear hS5 y4
            go_upto_if 42 with fail
            go_cut [5] from 42 to 44 (fun v wx => v = .string (bs (addL (!eqW wk ws wt 0 0 0) S5 119)) ∧ wx = W1)
            case first =>
              cases h : eqW wk ws wt 0 0 0 with
              | false =>
                go_wp2_with fail
                go_meet
                exact ⟨congrArg Value.string (add_yes (s := S5) (by simp [h])), rfl⟩
              | true =>
                go_wp2_with fail
                go_meet
                exact ⟨congrArg Value.string (add_no (s := S5) (by simp [h])), rfl⟩
            case rest =>
              obtain ⟨hv, hw⟩ := hcut
              subst hv
              have hw' := hw.symm
              subst hw'
              obtain ⟨S6, hS6⟩ : ∃ S, S = addL (!eqW wk ws wt 0 0 0) S5 119 := ⟨_, rfl⟩
              have z6 : S6.length ≤ 6 := by rw [hS6]; have := add_len (!eqW wk ws wt 0 0 0) S5 119; omega
              have y6 : (bs S6).size ≤ 6 := by rw [bs_size]; exact z6
              rw [← hS6]
              have HS6 := hidO hS6
              clear hS6 y5
              go_upto_if 48 with fail
              go_cut [5] from 48 to 50 (fun v wx => v = .string (bs (addL (decide (0 < gn)) S6 97)) ∧ wx = W1)
              case first =>
                by_cases h : 0 < gn
                · have hi : (0 : Int) < (gn : Int) := by omega
                  go_wp2_with fail
                  go_meet
                  exact ⟨congrArg Value.string (add_yes (s := S6) (decide_eq_true h)), rfl⟩
                · have hi : ¬ (0 : Int) < (gn : Int) := by omega
                  go_wp2_with fail
                  go_meet
                  exact ⟨congrArg Value.string (add_no (s := S6) (decide_eq_false h)), rfl⟩
              case rest =>
                obtain ⟨hv, hw⟩ := hcut
                subst hv
                have hw' := hw.symm
                subst hw'
                obtain ⟨S7, hS7⟩ : ∃ S, S = addL (decide (0 < gn)) S6 97 := ⟨_, rfl⟩
                have z7 : S7.length ≤ 7 := by rw [hS7]; have := add_len (decide (0 < gn)) S6 97; omega
                have y7 : (bs S7).size ≤ 7 := by rw [bs_size]; exact z7
                rw [← hS7]
                have HS7 := hidO hS7
                clear hS7 y6
                go_upto_if 52 with fail
                go_cut [5] from 52 to 54 (fun v wx => v = .string (bs (addL (ou) S7 117)) ∧ wx = W1)
                case first =>
                  cases ou with
                  | true =>
                    go_wp2_with fail
                    go_meet
                    exact ⟨congrArg Value.string (add_yes (s := S7) (rfl)), rfl⟩
                  | false =>
                    go_wp2_with fail
                    go_meet
                    exact ⟨congrArg Value.string (add_no (s := S7) (rfl)), rfl⟩
                case rest =>
                  obtain ⟨hv, hw⟩ := hcut
                  subst hv
                  have hw' := hw.symm
                  subst hw'
                  obtain ⟨S8, hS8⟩ : ∃ S, S = addL (ou) S7 117 := ⟨_, rfl⟩
                  have z8 : S8.length ≤ 8 := by rw [hS8]; have := add_len (ou) S7 117; omega
                  have y8 : (bs S8).size ≤ 8 := by rw [bs_size]; exact z8
                  rw [← hS8]
                  have HS8 := hidO hS8
                  clear hS8 y7
                  have HHE : Hid (HH = S8) := by
                    show HH = S8
                    rw [HHS.out, HS8.out, HS7.out, HS6.out, HS5.out, HS4.out, HS3.out, HS2.out, HS1.out]
                    rfl
                  clear HHS HS8 HS7 HS6 HS5 HS4 HS3 HS2 HS1
                  obtain ⟨h, hh⟩ : ∃ h, h = bs S8 := ⟨_, rfl⟩
                  rw [← hh] at y8 ⊢
                  have HE9 : Hid (bs HH = h) := by show bs HH = h; rw [HHE.out, hh]
                  clear hh
                  go_wp2_with fail
                  go_loopw [6] (fun i w' => ∃ (j : Nat), j ≤ h.size ∧ i = .int .i64 j ∧ (h.data.toList.take j).all (fun x => m.data.toList.any (fun y => y == x)) = true ∧ Below W1.heap.size W1 w') (fun i _ => h.size - (intOf i).toNat)
                  case atStart => exact ⟨0, Nat.zero_le _, rfl, rfl, Below.refl _ _⟩
                  case round =>
                    obtain ⟨j, hj, rfl, hal, hb⟩ := hrel
                    have HAL := hidO hal
                    have HB := hidO hb
                    clear hal hb
                    have hlen : h.data.toList.length = h.size := by simp
                    by_cases hlt : j < h.size
                    · have hji : (j : Int) < (h.size : Int) := by omega
                      have hjl : j < h.data.toList.length := by omega
                      have hx : h.data.toList[j] = h[j] := by simp [ByteArray.getElem_eq_getElem_data]
                      have HX := hidO hx
                      clear hx
                      go_wp2_with fail
                      go_loopw [7, 8] (fun b i w' => ∃ (q : Nat), q ≤ m.size ∧ i = .int .i64 q ∧ b = .bool ((m.data.toList.take q).any (fun y => y == h[j])) ∧ Below W1.heap.size W1 w') (fun _ i _ => m.size - (intOf i).toNat)
                      case atStart => exact ⟨0, Nat.zero_le _, rfl, rfl, HB.out⟩
                      case round =>
                        obtain ⟨q, hq, rfl, rfl, hb⟩ := hrel
                        have HBq := hidO hb
                        have hmlen : m.data.toList.length = m.size := by simp
                        clear hb
                        by_cases hlq : q < m.size
                        · have hqi : (q : Int) < (m.size : Int) := by omega
                          have hql : q < m.data.toList.length := by omega
                          have hmx : m.data.toList[q] = m[q] := by simp [ByteArray.getElem_eq_getElem_data]
                          have HTK : Hid ((m.data.toList.take (q + 1)).any (fun y => y == h[j]) = ((m.data.toList.take q).any (fun y => y == h[j]) || (m[q] == h[j]))) := by
                            show _ = _
                            rw [List.take_succ_eq_append_getElem hql, List.any_append, List.any_cons, List.any_nil, Bool.or_false, hmx]
                          clear hmx
                          generalize hA : (m.data.toList.take q).any (fun y => y == h[j]) = A at *
                          clear hA
                          cases A with
                          | true =>
                            have HT : Hid ((m.data.toList.take (q + 1)).any (fun y => y == h[j]) = true) := HTK.out
                            go_wp2_with fail
                            go_quiet (fail)
                            go_wp2_with fail
                            exact ⟨⟨q + 1, by omega, by go_num, by first | rw [HT.out] | (rw [HT.out]; rfl), by first | exact HBq.out | exact HBq.out.drew | exact belDrew HBq.out⟩, by simp [intOf]; omega⟩
                          | false =>
                            by_cases hE : m[q] = h[j]
                            · have HT : Hid ((m.data.toList.take (q + 1)).any (fun y => y == h[j]) = true) := by show _ = true; rw [HTK.out, hE]; simp
                              have hEn : ((m[q].toNat : Int) == (h[j].toNat : Int)) = true := by rw [hE]; simp
                              clear hE
                              go_wp2_with fail
                              go_quiet (fail)
                              go_wp2_with fail
                              exact ⟨⟨q + 1, by omega, by go_num, by first | rw [HT.out] | (rw [HT.out]; rfl), by first | exact HBq.out | exact HBq.out.drew | exact belDrew HBq.out⟩, by simp [intOf]; omega⟩
                            · have HT : Hid ((m.data.toList.take (q + 1)).any (fun y => y == h[j]) = false) := by show _ = false; rw [HTK.out]; simp [hE]
                              have hEn : ((m[q].toNat : Int) == (h[j].toNat : Int)) = false := by
                                have : m[q].toNat ≠ h[j].toNat := fun e => hE (UInt8.toNat_inj.1 e)
                                simp; omega
                              clear hE
                              go_wp2_with fail
                              go_quiet (fail)
                              go_wp2_with fail
                              exact ⟨⟨q + 1, by omega, by go_num, by first | rw [HT.out] | (rw [HT.out]; rfl), by first | exact HBq.out | exact HBq.out.drew | exact belDrew HBq.out⟩, by simp [intOf]; omega⟩
                        · obtain rfl : q = m.size := by omega
                          have hnq : ¬ (m.size : Int) < (m.size : Int) := by omega
                          have HFull : Hid ((m.data.toList.take m.size) = m.data.toList) := by show _ = _; rw [List.take_of_length_le (by omega)]
                          have HNJ : Hid ((h.data.toList.take (j + 1)).all (fun x => m.data.toList.any (fun y => y == x)) = m.data.toList.any (fun y => y == h[j])) := by
                            show _ = _
                            rw [take_allO _ _ j hjl, HAL.out, Bool.true_and, HX.out]
                          rw [HFull.out]
                          generalize hA : m.data.toList.any (fun y => y == h[j]) = A at *
                          have HAA := hidO hA
                          clear hA hlq
                          cases A with
                          | true =>
                            go_wp2_with fail
                            exact ⟨⟨j + 1, by omega, by go_num, HNJ.out, HBq.out⟩, by simp [intOf]; omega⟩
                          | false =>
                            have HF : Hid (bareB h m = false) := by
                              show bareB h m = false
                              unfold bareB
                              exact all_falseO _ _ j hjl (by rw [HX.out]; exact HAA.out)
                            go_wp2_with fail
                            go_ret
                            exact ⟨by rw [HE9.out, HF.out]; rfl, HW.out.trans (HBq.out.mono HW.out.size)⟩
                    · obtain rfl : j = h.size := by omega
                      have hnl : ¬ (h.size : Int) < (h.size : Int) := by omega
                      have HT : Hid (bareB h m = true) := by
                        show bareB h m = true
                        unfold bareB
                        have := HAL.out
                        rw [List.take_of_length_le (by omega)] at this
                        exact this
                      clear hlt hj
                      go_wp2_with fail
                      go_ret
                      exact ⟨by rw [HE9.out, HT.out]; rfl, HW.out.trans (HB.out.mono HW.out.size)⟩
end Go.Proofs.YtplaplhmjpfbjaaGreatDoor.Oo
namespace Go.Proofs.YtplaplhmjpfbjaaGreatDoor.Oo
open Go.RowKit
set_option linter.unusedVariables false
set_option linter.unusedSimpArgs false
set_option maxRecDepth 100000

theorem colsD_bool (l : List Co) (hm : l.length ≤ maxLen) (hz : ∀ x ∈ l, x.nm.size ≤ 140737488355328) : ∃ A : Bool, (A = true ↔ colsX l) ∧ ∀ (a : Option Addr) (c : Nat) (w : World), ColsAt w a l → Calls Tryz.prog 11 #[.slice a l.length c] w fun e w' => e = .returned (.bool A) ∧ Below w.heap.size w w' := by
  by_cases h : colsX l
  · exact ⟨true, ⟨fun _ => h, fun _ => rfl⟩, fun a c w hc => colsD_yes h a c w hc hm hz⟩
  · exact ⟨false, ⟨fun h' => (by cases h'), fun h' => absurd h' h⟩, fun a c w hc => colsD_no h a c w hc hm hz⟩
theorem sum5 (a b c d e : Nat) : decide (a + b + c + d + e = 0) = (!decide (0 < a) && (!decide (0 < b) && (!decide (0 < c) && (!decide (0 < d) && !decide (0 < e))))) := by
  rw [Bool.eq_iff_iff]; simp; omega
theorem sum4 (a b c d : Nat) : decide (a + b + c + d = 0) = (!decide (0 < a) && (!decide (0 < b) && (!decide (0 < c) && !decide (0 < d)))) := by
  rw [Bool.eq_iff_iff]; simp; omega
theorem sum3 (a b c : Nat) : decide (a + b + c = 0) = (!decide (0 < a) && (!decide (0 < b) && !decide (0 < c))) := by
  rw [Bool.eq_iff_iff]; simp; omega
theorem sum6 (a b c d e f : Nat) : decide (a + b + c + d + e + f = 0) = (!decide (0 < a) && (!decide (0 < b) && (!decide (0 < c) && (!decide (0 < d) && (!decide (0 < e) && !decide (0 < f)))))) := by
  rw [Bool.eq_iff_iff]; simp; omega
def hasB (e n r k o g W u : Bool) : List UInt8 := addL u (addL g (addL W (addL o (addL k (addL r (addL n (addL e [] 101) 110) 114) 107) 111) 119) 97) 117
theorem has_eq (en nn rn kn on gn : Nat) (W ou : Bool) : hasL en nn rn kn on gn W ou = hasB (decide (0 < en)) (decide (0 < nn)) (decide (0 < rn)) (decide (0 < kn)) (decide (0 < on)) (decide (0 < gn)) W ou := rfl
theorem zw_eq (o : OpD) : zw o = eqW o.wk o.ws o.wt 0 0 0 := rfl
def mayK (k : Int) : ByteArray := if k = 2 then ⟨#[101]⟩ else if k = 3 then ⟨#[101, 110]⟩ else if k = 4 then ⟨#[107, 119, 97, 110]⟩ else if k = 5 then ⟨#[107, 111, 114, 119, 117]⟩ else ⟨#[]⟩
theorem p2 : ∀ e n r k o g W u : Bool, bareB (bs (hasB e n r k o g (!W) u)) ⟨#[101]⟩ = ((!n && (!r && (!k && (!o && !g)))) && (W && !u)) := by decide +kernel
theorem p3 : ∀ e n r k o g W u : Bool, bareB (bs (hasB e n r k o g (!W) u)) ⟨#[101, 110]⟩ = ((!r && (!k && (!o && !g))) && (W && !u)) := by decide +kernel
theorem p4 : ∀ e n r k o g W u : Bool, bareB (bs (hasB e n r k o g (!W) u)) ⟨#[107, 119, 97, 110]⟩ = ((!e && (!r && !o)) && !u) := by decide +kernel
theorem p5 : ∀ e n r k o g W u : Bool, bareB (bs (hasB e n r k o g (!W) u)) ⟨#[107, 111, 114, 119, 117]⟩ = (!e && (!n && !g)) := by decide +kernel
theorem p6 : ∀ e n r k o g W u : Bool, bareB (bs (hasB e n r k o g (!W) u)) ⟨#[]⟩ = ((!e && (!n && (!r && (!k && (!o && !g))))) && (W && !u)) := by decide +kernel
theorem uses_bare (o : OpD) (hk : o.k = 2 ∨ o.k = 3 ∨ o.k = 4 ∨ o.k = 5 ∨ o.k = 6 ∨ o.k = 7) : bareB (bs (hasL o.ex.length o.nm.length o.r.length o.ks.length o.os.length o.ag.length (!eqW o.wk o.ws o.wt 0 0 0) o.ou)) (mayK o.k) = usesB o := by
  rw [has_eq]
  obtain ⟨k, ex, nm, c, r, ks, os, wk, ws, wt, ag, ou⟩ := o
  simp only at hk ⊢
  rcases hk with rfl | rfl | rfl | rfl | rfl | rfl
  · have e1 : mayK 2 = ⟨#[101]⟩ := rfl
    have e2 : usesB ⟨2, ex, nm, c, r, ks, os, wk, ws, wt, ag, ou⟩ = (decide (nm.length + r.length + ks.length + os.length + ag.length = 0) && (eqW wk ws wt 0 0 0 && !ou)) := rfl
    rw [e1, e2, p2, sum5]
  · have e1 : mayK 3 = ⟨#[101, 110]⟩ := rfl
    have e2 : usesB ⟨3, ex, nm, c, r, ks, os, wk, ws, wt, ag, ou⟩ = (decide (r.length + ks.length + os.length + ag.length = 0) && (eqW wk ws wt 0 0 0 && !ou)) := rfl
    rw [e1, e2, p3, sum4]
  · have e1 : mayK 4 = ⟨#[107, 119, 97, 110]⟩ := rfl
    have e2 : usesB ⟨4, ex, nm, c, r, ks, os, wk, ws, wt, ag, ou⟩ = (decide (ex.length + r.length + os.length = 0) && !ou) := rfl
    rw [e1, e2, p4, sum3]
  · have e1 : mayK 5 = ⟨#[107, 111, 114, 119, 117]⟩ := rfl
    have e2 : usesB ⟨5, ex, nm, c, r, ks, os, wk, ws, wt, ag, ou⟩ = (decide (ex.length + nm.length + ag.length = 0)) := rfl
    rw [e1, e2, p5, sum3]
  · have e1 : mayK 6 = ⟨#[]⟩ := rfl
    have e2 : usesB ⟨6, ex, nm, c, r, ks, os, wk, ws, wt, ag, ou⟩ = (decide (ex.length + nm.length + r.length + ks.length + os.length + ag.length = 0) && (eqW wk ws wt 0 0 0 && !ou)) := rfl
    rw [e1, e2, p6, sum6]
  · have e1 : mayK 7 = ⟨#[]⟩ := rfl
    have e2 : usesB ⟨7, ex, nm, c, r, ks, os, wk, ws, wt, ag, ou⟩ = (decide (ex.length + nm.length + r.length + ks.length + os.length + ag.length = 0) && (eqW wk ws wt 0 0 0 && !ou)) := rfl
    rw [e1, e2, p6, sum6]
theorem may8 (k : Int) : (mayK k).size ≤ 8 := by
  unfold mayK
  repeat' split
  all_goals decide

set_option maxHeartbeats 8000000 in
theorem outD_3 (ck : ByteArray → Except Nat Int) (o : OpD) (p : OpA) (w : World) (hs : OpSz o) (hat : OpAt w o p) (hck : CkD w o.c ck) (hk : o.k = 3) :
    Calls Tryz.prog 5 #[.agg (opCs o p)] w (DocP w (outO ck o)) := by
  obtain ⟨W1, hW1⟩ : ∃ W1, W1 = w.alloc (.cells (opCs o p) 29) := ⟨_, rfl⟩
  have hA : Below w.heap.size w W1 := by rw [hW1]; exact xbel1 _ _
  have hOw : Own W1 w.heap.size 29 12 (opCs o p).toList := by rw [hW1]; exact Own.new w 29 12 (opCs o p) rfl
  have hcm : o.c.length ≤ maxLen := by have := hs.c; unfold maxLen; omega
  have hrm : o.r.length ≤ maxLen := by have := hs.r; unfold maxLen; omega
  have hcn : ∀ x ∈ o.c, x.nm.size ≤ 140737488355328 := fun x hx => by have := hs.cn x hx; omega
  have hrn : ∀ x ∈ o.r, x.nm.size ≤ 140737488355328 := fun x hx => by have := hs.rn x hx; omega
  have HA := hidO hA
  have HOw := hidO hOw
  obtain ⟨A, hAi, hAc⟩ := colsD_bool o.c hcm hcn
  obtain ⟨B, hBi, hBc⟩ := colsD_bool o.r hrm hrn
  have HCA : Hid (∀ W, Below w.heap.size w W → Calls Tryz.prog 11 #[.slice p.ca o.c.length p.cc] W fun e w' => e = .returned (.bool A) ∧ Below W.heap.size W w') := fun W hW => hAc p.ca p.cc W (hat.c.later hW)
  have HCB : Hid (∀ W, Below w.heap.size w W → Calls Tryz.prog 11 #[.slice p.ra o.r.length p.rc] W fun e w' => e = .returned (.bool B) ∧ Below W.heap.size W w') := fun W hW => hBc p.ra p.rc W (hat.r.later hW)
  have HBR : Hid (∀ W, Calls Tryz.prog 12 #[.agg (opCs o p), .string ⟨#[101, 110]⟩] W fun e w' => e = .returned (.bool (usesB o)) ∧ Below W.heap.size W w') := fun W => by
    have h1 := bare_any o p (mayK o.k) (may8 _) W hs
    rw [uses_bare o (by rw [hk]; decide)] at h1
    have h2 : mayK o.k = ⟨#[101, 110]⟩ := by rw [hk]; rfl
    rw [h2] at h1
    exact h1
  have HRk : Hid (A = true → B = true → usesB o = true → outO ck o = thenN (rawO ck o)) := fun h1 h2 h3 => by unfold outO; rw [if_pos ⟨hAi.1 h1, hBi.1 h2, h3⟩]; unfold thenN; cases rawO ck o <;> rfl
  have HRn : Hid (¬ (A = true ∧ B = true ∧ usesB o = true) → outO ck o = .error 4) := fun h => by unfold outO; rw [if_neg (fun h' => h ⟨hAi.2 h'.1, hBi.2 h'.2.1, h'.2.2⟩)]
  have HRw : Hid (rawO ck o = mapO ck o) := by show rawO ck o = mapO ck o; unfold rawO; rw [hk]; rfl
  have HFN : Hid (∀ W, Below w.heap.size w W → Calls Tryz.prog 14 #[.agg (opCs o p)] W (DocP W (thenN (mapO ck o)))) := fun W hW => mappedD_any ck o p W hs (hat.later hW) (hck.later hW)
  clear hA hOw hcm hrm hcn hrn hAi hAc hBi hBc hs hat hck
  generalize outO ck o = R at *
  generalize usesB o = U at *
  obtain ⟨k, ex, nm, c, r, ks, os, wk, ws, wt, ag, ou⟩ := o
  obtain ⟨ea, ec, na, nc, ca, cc, ra, rc, ka, kc, oa, oc, ga, gc⟩ := p
  unfold opCs at *
  simp only at *
  subst hk
  go_enter Tryz.func5, Tryz.ntmps5
  go_wp2_with fail
  rw [← hW1]
  refine (HCA.out _ HA.out).mono ?_
  rintro e w2 ⟨rfl, hb2⟩
  have HB2 : Hid (Below w.heap.size w w2) := HA.out.trans (hb2.mono HA.out.size)
  have HO2 := hidO (HOw.out.later hb2)
  have d4 : w2.cell? ⟨w.heap.size, 4, none⟩ = some (.slice ra r.length rc) := HO2.out.cell 4 (by decide)
  have hl2 : w.heap.size < w2.heap.size := HO2.out.lt
  clear hb2 hW1
  go_wp2_with fail
  refine (HCB.out _ HB2.out).mono ?_
  rintro e w3 ⟨rfl, hb3⟩
  have HB3 : Hid (Below w.heap.size w w3) := HB2.out.trans (hb3.mono HB2.out.size)
  have HO3 := hidO (HO2.out.later hb3)
  have f0 : w3.cell? ⟨w.heap.size, 0, none⟩ = some (.int .i64 3) := HO3.out.cell 0 (by decide)
  have f1 : w3.cell? ⟨w.heap.size, 1, none⟩ = some (.slice ea ex.length ec) := HO3.out.cell 1 (by decide)
  have f2 : w3.cell? ⟨w.heap.size, 2, none⟩ = some (.slice na nm.length nc) := HO3.out.cell 2 (by decide)
  have f3 : w3.cell? ⟨w.heap.size, 3, none⟩ = some (.slice ca c.length cc) := HO3.out.cell 3 (by decide)
  have f4 : w3.cell? ⟨w.heap.size, 4, none⟩ = some (.slice ra r.length rc) := HO3.out.cell 4 (by decide)
  have f5 : w3.cell? ⟨w.heap.size, 5, none⟩ = some (.slice ka ks.length kc) := HO3.out.cell 5 (by decide)
  have f6 : w3.cell? ⟨w.heap.size, 6, none⟩ = some (.slice oa os.length oc) := HO3.out.cell 6 (by decide)
  have f7 : w3.cell? ⟨w.heap.size, 7, none⟩ = some (.int .i64 wk) := HO3.out.cell 7 (by decide)
  have f8 : w3.cell? ⟨w.heap.size, 8, none⟩ = some (.int .i64 ws) := HO3.out.cell 8 (by decide)
  have f9 : w3.cell? ⟨w.heap.size, 9, none⟩ = some (.int .i64 wt) := HO3.out.cell 9 (by decide)
  have f10 : w3.cell? ⟨w.heap.size, 10, none⟩ = some (.slice ga ag.length gc) := HO3.out.cell 10 (by decide)
  have f11 : w3.cell? ⟨w.heap.size, 11, none⟩ = some (.bool ou) := HO3.out.cell 11 (by decide)
  have hl3 : w.heap.size < w3.heap.size := HO3.out.lt
  clear hb3 d4
  go_wp2_with fail
  refine (HBR.out _).mono ?_
  rintro e w4 ⟨rfl, hb4⟩
  have HB4 : Hid (Below w.heap.size w w4) := HB3.out.trans (hb4.mono HB3.out.size)
  have HO4 := hidO (HO3.out.later hb4)
  clear hb4 f0 f1 f2 f3 f4 f5 f6 f7 f8 f9 f10 f11
  have g0 : w4.cell? ⟨w.heap.size, 0, none⟩ = some (.int .i64 3) := HO4.out.cell 0 (by decide)
  have g1 : w4.cell? ⟨w.heap.size, 1, none⟩ = some (.slice ea ex.length ec) := HO4.out.cell 1 (by decide)
  have g2 : w4.cell? ⟨w.heap.size, 2, none⟩ = some (.slice na nm.length nc) := HO4.out.cell 2 (by decide)
  have g3 : w4.cell? ⟨w.heap.size, 3, none⟩ = some (.slice ca c.length cc) := HO4.out.cell 3 (by decide)
  have g4 : w4.cell? ⟨w.heap.size, 4, none⟩ = some (.slice ra r.length rc) := HO4.out.cell 4 (by decide)
  have g5 : w4.cell? ⟨w.heap.size, 5, none⟩ = some (.slice ka ks.length kc) := HO4.out.cell 5 (by decide)
  have g6 : w4.cell? ⟨w.heap.size, 6, none⟩ = some (.slice oa os.length oc) := HO4.out.cell 6 (by decide)
  have g7 : w4.cell? ⟨w.heap.size, 7, none⟩ = some (.int .i64 wk) := HO4.out.cell 7 (by decide)
  have g8 : w4.cell? ⟨w.heap.size, 8, none⟩ = some (.int .i64 ws) := HO4.out.cell 8 (by decide)
  have g9 : w4.cell? ⟨w.heap.size, 9, none⟩ = some (.int .i64 wt) := HO4.out.cell 9 (by decide)
  have g10 : w4.cell? ⟨w.heap.size, 10, none⟩ = some (.slice ga ag.length gc) := HO4.out.cell 10 (by decide)
  have g11 : w4.cell? ⟨w.heap.size, 11, none⟩ = some (.bool ou) := HO4.out.cell 11 (by decide)
  have hl4 : w.heap.size < w4.heap.size := HO4.out.lt
  by_cases hok : A = true ∧ B = true ∧ U = true
  · obtain ⟨rfl, rfl, rfl⟩ := hok
    have HR : Hid (R = thenN (rawO ck ⟨3, ex, nm, c, r, ks, os, wk, ws, wt, ag, ou⟩)) := HRk.out rfl rfl rfl
    rw [HRw.out] at HR
    go_wp2_with fail
    refine (HFN.out _ HB4.out).mono ?_
    rintro e w5 ⟨hb5, hr5⟩
    have HB5 : Hid (Below w.heap.size w w5) := HB4.out.trans (hb5.mono HB4.out.size)
    rw [← HR.out] at hr5
    cases R with
    | error n =>
      simp only at hr5
      subst hr5
      clear hb5 g0 g1 g2 g3 g4 g5 g6 g7 g8 g9 g10 g11
      go_wp2_with fail
      go_ret2
      exact docP_err HB5.out rfl
    | ok l =>
      obtain ⟨a3, c3', rfl, hc3⟩ := hr5
      have HC3 := hidO hc3
      clear hb5 hc3 g0 g1 g2 g3 g4 g5 g6 g7 g8 g9 g10 g11
      go_wp2_with fail
      go_ret2
      exact docP_ok HB5.out rfl HC3.out
  · have HR4 : Hid (R = .error 4) := HRn.out hok
    cases A with
    | false =>
      clear hok HRk HRn
      go_wp2_with fail
      go_ret2
      rw [HR4.out]
      exact docP_err HB4.out rfl
    | true =>
      cases B with
      | false =>
        clear hok HRk HRn
        go_wp2_with fail
        go_ret2
        rw [HR4.out]
        exact docP_err HB4.out rfl
      | true =>
        cases U with
        | false =>
          clear hok HRk HRn
          go_wp2_with fail
          go_ret2
          rw [HR4.out]
          exact docP_err HB4.out rfl
        | true => exact absurd ⟨rfl, rfl, rfl⟩ hok

set_option maxHeartbeats 8000000 in
theorem outD_4 (ck : ByteArray → Except Nat Int) (o : OpD) (p : OpA) (w : World) (hs : OpSz o) (hat : OpAt w o p) (hck : CkD w o.c ck) (hk : o.k = 4) :
    Calls Tryz.prog 5 #[.agg (opCs o p)] w (DocP w (outO ck o)) := by
  obtain ⟨W1, hW1⟩ : ∃ W1, W1 = w.alloc (.cells (opCs o p) 29) := ⟨_, rfl⟩
  have hA : Below w.heap.size w W1 := by rw [hW1]; exact xbel1 _ _
  have hOw : Own W1 w.heap.size 29 12 (opCs o p).toList := by rw [hW1]; exact Own.new w 29 12 (opCs o p) rfl
  have hcm : o.c.length ≤ maxLen := by have := hs.c; unfold maxLen; omega
  have hrm : o.r.length ≤ maxLen := by have := hs.r; unfold maxLen; omega
  have hcn : ∀ x ∈ o.c, x.nm.size ≤ 140737488355328 := fun x hx => by have := hs.cn x hx; omega
  have hrn : ∀ x ∈ o.r, x.nm.size ≤ 140737488355328 := fun x hx => by have := hs.rn x hx; omega
  have HA := hidO hA
  have HOw := hidO hOw
  obtain ⟨A, hAi, hAc⟩ := colsD_bool o.c hcm hcn
  obtain ⟨B, hBi, hBc⟩ := colsD_bool o.r hrm hrn
  have HCA : Hid (∀ W, Below w.heap.size w W → Calls Tryz.prog 11 #[.slice p.ca o.c.length p.cc] W fun e w' => e = .returned (.bool A) ∧ Below W.heap.size W w') := fun W hW => hAc p.ca p.cc W (hat.c.later hW)
  have HCB : Hid (∀ W, Below w.heap.size w W → Calls Tryz.prog 11 #[.slice p.ra o.r.length p.rc] W fun e w' => e = .returned (.bool B) ∧ Below W.heap.size W w') := fun W hW => hBc p.ra p.rc W (hat.r.later hW)
  have HBR : Hid (∀ W, Calls Tryz.prog 12 #[.agg (opCs o p), .string ⟨#[107, 119, 97, 110]⟩] W fun e w' => e = .returned (.bool (usesB o)) ∧ Below W.heap.size W w') := fun W => by
    have h1 := bare_any o p (mayK o.k) (may8 _) W hs
    rw [uses_bare o (by rw [hk]; decide)] at h1
    have h2 : mayK o.k = ⟨#[107, 119, 97, 110]⟩ := by rw [hk]; rfl
    rw [h2] at h1
    exact h1
  have HRk : Hid (A = true → B = true → usesB o = true → outO ck o = thenN (rawO ck o)) := fun h1 h2 h3 => by unfold outO; rw [if_pos ⟨hAi.1 h1, hBi.1 h2, h3⟩]; unfold thenN; cases rawO ck o <;> rfl
  have HRn : Hid (¬ (A = true ∧ B = true ∧ usesB o = true) → outO ck o = .error 4) := fun h => by unfold outO; rw [if_neg (fun h' => h ⟨hAi.2 h'.1, hBi.2 h'.2.1, h'.2.2⟩)]
  have HRw : Hid (rawO ck o = windowO o) := by show rawO ck o = windowO o; unfold rawO; rw [hk]; rfl
  have HFN : Hid (∀ W, Below w.heap.size w W → Calls Tryz.prog 15 #[.agg (opCs o p)] W (DocP W (thenN (windowO o)))) := fun W hW => foldedD_any o p W hs (hat.later hW)
  clear hA hOw hcm hrm hcn hrn hAi hAc hBi hBc hs hat hck
  generalize outO ck o = R at *
  generalize usesB o = U at *
  obtain ⟨k, ex, nm, c, r, ks, os, wk, ws, wt, ag, ou⟩ := o
  obtain ⟨ea, ec, na, nc, ca, cc, ra, rc, ka, kc, oa, oc, ga, gc⟩ := p
  unfold opCs at *
  simp only at *
  subst hk
  go_enter Tryz.func5, Tryz.ntmps5
  go_wp2_with fail
  rw [← hW1]
  refine (HCA.out _ HA.out).mono ?_
  rintro e w2 ⟨rfl, hb2⟩
  have HB2 : Hid (Below w.heap.size w w2) := HA.out.trans (hb2.mono HA.out.size)
  have HO2 := hidO (HOw.out.later hb2)
  have d4 : w2.cell? ⟨w.heap.size, 4, none⟩ = some (.slice ra r.length rc) := HO2.out.cell 4 (by decide)
  have hl2 : w.heap.size < w2.heap.size := HO2.out.lt
  clear hb2 hW1
  go_wp2_with fail
  refine (HCB.out _ HB2.out).mono ?_
  rintro e w3 ⟨rfl, hb3⟩
  have HB3 : Hid (Below w.heap.size w w3) := HB2.out.trans (hb3.mono HB2.out.size)
  have HO3 := hidO (HO2.out.later hb3)
  have f0 : w3.cell? ⟨w.heap.size, 0, none⟩ = some (.int .i64 4) := HO3.out.cell 0 (by decide)
  have f1 : w3.cell? ⟨w.heap.size, 1, none⟩ = some (.slice ea ex.length ec) := HO3.out.cell 1 (by decide)
  have f2 : w3.cell? ⟨w.heap.size, 2, none⟩ = some (.slice na nm.length nc) := HO3.out.cell 2 (by decide)
  have f3 : w3.cell? ⟨w.heap.size, 3, none⟩ = some (.slice ca c.length cc) := HO3.out.cell 3 (by decide)
  have f4 : w3.cell? ⟨w.heap.size, 4, none⟩ = some (.slice ra r.length rc) := HO3.out.cell 4 (by decide)
  have f5 : w3.cell? ⟨w.heap.size, 5, none⟩ = some (.slice ka ks.length kc) := HO3.out.cell 5 (by decide)
  have f6 : w3.cell? ⟨w.heap.size, 6, none⟩ = some (.slice oa os.length oc) := HO3.out.cell 6 (by decide)
  have f7 : w3.cell? ⟨w.heap.size, 7, none⟩ = some (.int .i64 wk) := HO3.out.cell 7 (by decide)
  have f8 : w3.cell? ⟨w.heap.size, 8, none⟩ = some (.int .i64 ws) := HO3.out.cell 8 (by decide)
  have f9 : w3.cell? ⟨w.heap.size, 9, none⟩ = some (.int .i64 wt) := HO3.out.cell 9 (by decide)
  have f10 : w3.cell? ⟨w.heap.size, 10, none⟩ = some (.slice ga ag.length gc) := HO3.out.cell 10 (by decide)
  have f11 : w3.cell? ⟨w.heap.size, 11, none⟩ = some (.bool ou) := HO3.out.cell 11 (by decide)
  have hl3 : w.heap.size < w3.heap.size := HO3.out.lt
  clear hb3 d4
  go_wp2_with fail
  refine (HBR.out _).mono ?_
  rintro e w4 ⟨rfl, hb4⟩
  have HB4 : Hid (Below w.heap.size w w4) := HB3.out.trans (hb4.mono HB3.out.size)
  have HO4 := hidO (HO3.out.later hb4)
  clear hb4 f0 f1 f2 f3 f4 f5 f6 f7 f8 f9 f10 f11
  have g0 : w4.cell? ⟨w.heap.size, 0, none⟩ = some (.int .i64 4) := HO4.out.cell 0 (by decide)
  have g1 : w4.cell? ⟨w.heap.size, 1, none⟩ = some (.slice ea ex.length ec) := HO4.out.cell 1 (by decide)
  have g2 : w4.cell? ⟨w.heap.size, 2, none⟩ = some (.slice na nm.length nc) := HO4.out.cell 2 (by decide)
  have g3 : w4.cell? ⟨w.heap.size, 3, none⟩ = some (.slice ca c.length cc) := HO4.out.cell 3 (by decide)
  have g4 : w4.cell? ⟨w.heap.size, 4, none⟩ = some (.slice ra r.length rc) := HO4.out.cell 4 (by decide)
  have g5 : w4.cell? ⟨w.heap.size, 5, none⟩ = some (.slice ka ks.length kc) := HO4.out.cell 5 (by decide)
  have g6 : w4.cell? ⟨w.heap.size, 6, none⟩ = some (.slice oa os.length oc) := HO4.out.cell 6 (by decide)
  have g7 : w4.cell? ⟨w.heap.size, 7, none⟩ = some (.int .i64 wk) := HO4.out.cell 7 (by decide)
  have g8 : w4.cell? ⟨w.heap.size, 8, none⟩ = some (.int .i64 ws) := HO4.out.cell 8 (by decide)
  have g9 : w4.cell? ⟨w.heap.size, 9, none⟩ = some (.int .i64 wt) := HO4.out.cell 9 (by decide)
  have g10 : w4.cell? ⟨w.heap.size, 10, none⟩ = some (.slice ga ag.length gc) := HO4.out.cell 10 (by decide)
  have g11 : w4.cell? ⟨w.heap.size, 11, none⟩ = some (.bool ou) := HO4.out.cell 11 (by decide)
  have hl4 : w.heap.size < w4.heap.size := HO4.out.lt
  by_cases hok : A = true ∧ B = true ∧ U = true
  · obtain ⟨rfl, rfl, rfl⟩ := hok
    have HR : Hid (R = thenN (rawO ck ⟨4, ex, nm, c, r, ks, os, wk, ws, wt, ag, ou⟩)) := HRk.out rfl rfl rfl
    rw [HRw.out] at HR
    go_wp2_with fail
    refine (HFN.out _ HB4.out).mono ?_
    rintro e w5 ⟨hb5, hr5⟩
    have HB5 : Hid (Below w.heap.size w w5) := HB4.out.trans (hb5.mono HB4.out.size)
    rw [← HR.out] at hr5
    cases R with
    | error n =>
      simp only at hr5
      subst hr5
      clear hb5 g0 g1 g2 g3 g4 g5 g6 g7 g8 g9 g10 g11
      go_wp2_with fail
      go_ret2
      exact docP_err HB5.out rfl
    | ok l =>
      obtain ⟨a3, c3', rfl, hc3⟩ := hr5
      have HC3 := hidO hc3
      clear hb5 hc3 g0 g1 g2 g3 g4 g5 g6 g7 g8 g9 g10 g11
      go_wp2_with fail
      go_ret2
      exact docP_ok HB5.out rfl HC3.out
  · have HR4 : Hid (R = .error 4) := HRn.out hok
    cases A with
    | false =>
      clear hok HRk HRn
      go_wp2_with fail
      go_ret2
      rw [HR4.out]
      exact docP_err HB4.out rfl
    | true =>
      cases B with
      | false =>
        clear hok HRk HRn
        go_wp2_with fail
        go_ret2
        rw [HR4.out]
        exact docP_err HB4.out rfl
      | true =>
        cases U with
        | false =>
          clear hok HRk HRn
          go_wp2_with fail
          go_ret2
          rw [HR4.out]
          exact docP_err HB4.out rfl
        | true => exact absurd ⟨rfl, rfl, rfl⟩ hok

set_option maxHeartbeats 8000000 in
theorem outD_5 (ck : ByteArray → Except Nat Int) (o : OpD) (p : OpA) (w : World) (hs : OpSz o) (hat : OpAt w o p) (hck : CkD w o.c ck) (hk : o.k = 5) :
    Calls Tryz.prog 5 #[.agg (opCs o p)] w (DocP w (outO ck o)) := by
  obtain ⟨W1, hW1⟩ : ∃ W1, W1 = w.alloc (.cells (opCs o p) 29) := ⟨_, rfl⟩
  have hA : Below w.heap.size w W1 := by rw [hW1]; exact xbel1 _ _
  have hOw : Own W1 w.heap.size 29 12 (opCs o p).toList := by rw [hW1]; exact Own.new w 29 12 (opCs o p) rfl
  have hcm : o.c.length ≤ maxLen := by have := hs.c; unfold maxLen; omega
  have hrm : o.r.length ≤ maxLen := by have := hs.r; unfold maxLen; omega
  have hcn : ∀ x ∈ o.c, x.nm.size ≤ 140737488355328 := fun x hx => by have := hs.cn x hx; omega
  have hrn : ∀ x ∈ o.r, x.nm.size ≤ 140737488355328 := fun x hx => by have := hs.rn x hx; omega
  have HA := hidO hA
  have HOw := hidO hOw
  obtain ⟨A, hAi, hAc⟩ := colsD_bool o.c hcm hcn
  obtain ⟨B, hBi, hBc⟩ := colsD_bool o.r hrm hrn
  have HCA : Hid (∀ W, Below w.heap.size w W → Calls Tryz.prog 11 #[.slice p.ca o.c.length p.cc] W fun e w' => e = .returned (.bool A) ∧ Below W.heap.size W w') := fun W hW => hAc p.ca p.cc W (hat.c.later hW)
  have HCB : Hid (∀ W, Below w.heap.size w W → Calls Tryz.prog 11 #[.slice p.ra o.r.length p.rc] W fun e w' => e = .returned (.bool B) ∧ Below W.heap.size W w') := fun W hW => hBc p.ra p.rc W (hat.r.later hW)
  have HBR : Hid (∀ W, Calls Tryz.prog 12 #[.agg (opCs o p), .string ⟨#[107, 111, 114, 119, 117]⟩] W fun e w' => e = .returned (.bool (usesB o)) ∧ Below W.heap.size W w') := fun W => by
    have h1 := bare_any o p (mayK o.k) (may8 _) W hs
    rw [uses_bare o (by rw [hk]; decide)] at h1
    have h2 : mayK o.k = ⟨#[107, 111, 114, 119, 117]⟩ := by rw [hk]; rfl
    rw [h2] at h1
    exact h1
  have HRk : Hid (A = true → B = true → usesB o = true → outO ck o = thenN (rawO ck o)) := fun h1 h2 h3 => by unfold outO; rw [if_pos ⟨hAi.1 h1, hBi.1 h2, h3⟩]; unfold thenN; cases rawO ck o <;> rfl
  have HRn : Hid (¬ (A = true ∧ B = true ∧ usesB o = true) → outO ck o = .error 4) := fun h => by unfold outO; rw [if_neg (fun h' => h ⟨hAi.2 h'.1, hBi.2 h'.2.1, h'.2.2⟩)]
  have HRw : Hid (rawO ck o = joinO o) := by show rawO ck o = joinO o; unfold rawO; rw [hk]; rfl
  have HFN : Hid (A = true → B = true → ∀ W, Below w.heap.size w W → Calls Tryz.prog 16 #[.agg (opCs o p)] W (DocP W (thenN (joinO o)))) := fun h1 h2 W hW => joinedD_any o p W hs (hat.later hW) (hAi.1 h1).1 (hBi.1 h2).1
  clear hA hOw hcm hrm hcn hrn hAi hAc hBi hBc hs hat hck
  generalize outO ck o = R at *
  generalize usesB o = U at *
  obtain ⟨k, ex, nm, c, r, ks, os, wk, ws, wt, ag, ou⟩ := o
  obtain ⟨ea, ec, na, nc, ca, cc, ra, rc, ka, kc, oa, oc, ga, gc⟩ := p
  unfold opCs at *
  simp only at *
  subst hk
  go_enter Tryz.func5, Tryz.ntmps5
  go_wp2_with fail
  rw [← hW1]
  refine (HCA.out _ HA.out).mono ?_
  rintro e w2 ⟨rfl, hb2⟩
  have HB2 : Hid (Below w.heap.size w w2) := HA.out.trans (hb2.mono HA.out.size)
  have HO2 := hidO (HOw.out.later hb2)
  have d4 : w2.cell? ⟨w.heap.size, 4, none⟩ = some (.slice ra r.length rc) := HO2.out.cell 4 (by decide)
  have hl2 : w.heap.size < w2.heap.size := HO2.out.lt
  clear hb2 hW1
  go_wp2_with fail
  refine (HCB.out _ HB2.out).mono ?_
  rintro e w3 ⟨rfl, hb3⟩
  have HB3 : Hid (Below w.heap.size w w3) := HB2.out.trans (hb3.mono HB2.out.size)
  have HO3 := hidO (HO2.out.later hb3)
  have f0 : w3.cell? ⟨w.heap.size, 0, none⟩ = some (.int .i64 5) := HO3.out.cell 0 (by decide)
  have f1 : w3.cell? ⟨w.heap.size, 1, none⟩ = some (.slice ea ex.length ec) := HO3.out.cell 1 (by decide)
  have f2 : w3.cell? ⟨w.heap.size, 2, none⟩ = some (.slice na nm.length nc) := HO3.out.cell 2 (by decide)
  have f3 : w3.cell? ⟨w.heap.size, 3, none⟩ = some (.slice ca c.length cc) := HO3.out.cell 3 (by decide)
  have f4 : w3.cell? ⟨w.heap.size, 4, none⟩ = some (.slice ra r.length rc) := HO3.out.cell 4 (by decide)
  have f5 : w3.cell? ⟨w.heap.size, 5, none⟩ = some (.slice ka ks.length kc) := HO3.out.cell 5 (by decide)
  have f6 : w3.cell? ⟨w.heap.size, 6, none⟩ = some (.slice oa os.length oc) := HO3.out.cell 6 (by decide)
  have f7 : w3.cell? ⟨w.heap.size, 7, none⟩ = some (.int .i64 wk) := HO3.out.cell 7 (by decide)
  have f8 : w3.cell? ⟨w.heap.size, 8, none⟩ = some (.int .i64 ws) := HO3.out.cell 8 (by decide)
  have f9 : w3.cell? ⟨w.heap.size, 9, none⟩ = some (.int .i64 wt) := HO3.out.cell 9 (by decide)
  have f10 : w3.cell? ⟨w.heap.size, 10, none⟩ = some (.slice ga ag.length gc) := HO3.out.cell 10 (by decide)
  have f11 : w3.cell? ⟨w.heap.size, 11, none⟩ = some (.bool ou) := HO3.out.cell 11 (by decide)
  have hl3 : w.heap.size < w3.heap.size := HO3.out.lt
  clear hb3 d4
  go_wp2_with fail
  refine (HBR.out _).mono ?_
  rintro e w4 ⟨rfl, hb4⟩
  have HB4 : Hid (Below w.heap.size w w4) := HB3.out.trans (hb4.mono HB3.out.size)
  have HO4 := hidO (HO3.out.later hb4)
  clear hb4 f0 f1 f2 f3 f4 f5 f6 f7 f8 f9 f10 f11
  have g0 : w4.cell? ⟨w.heap.size, 0, none⟩ = some (.int .i64 5) := HO4.out.cell 0 (by decide)
  have g1 : w4.cell? ⟨w.heap.size, 1, none⟩ = some (.slice ea ex.length ec) := HO4.out.cell 1 (by decide)
  have g2 : w4.cell? ⟨w.heap.size, 2, none⟩ = some (.slice na nm.length nc) := HO4.out.cell 2 (by decide)
  have g3 : w4.cell? ⟨w.heap.size, 3, none⟩ = some (.slice ca c.length cc) := HO4.out.cell 3 (by decide)
  have g4 : w4.cell? ⟨w.heap.size, 4, none⟩ = some (.slice ra r.length rc) := HO4.out.cell 4 (by decide)
  have g5 : w4.cell? ⟨w.heap.size, 5, none⟩ = some (.slice ka ks.length kc) := HO4.out.cell 5 (by decide)
  have g6 : w4.cell? ⟨w.heap.size, 6, none⟩ = some (.slice oa os.length oc) := HO4.out.cell 6 (by decide)
  have g7 : w4.cell? ⟨w.heap.size, 7, none⟩ = some (.int .i64 wk) := HO4.out.cell 7 (by decide)
  have g8 : w4.cell? ⟨w.heap.size, 8, none⟩ = some (.int .i64 ws) := HO4.out.cell 8 (by decide)
  have g9 : w4.cell? ⟨w.heap.size, 9, none⟩ = some (.int .i64 wt) := HO4.out.cell 9 (by decide)
  have g10 : w4.cell? ⟨w.heap.size, 10, none⟩ = some (.slice ga ag.length gc) := HO4.out.cell 10 (by decide)
  have g11 : w4.cell? ⟨w.heap.size, 11, none⟩ = some (.bool ou) := HO4.out.cell 11 (by decide)
  have hl4 : w.heap.size < w4.heap.size := HO4.out.lt
  by_cases hok : A = true ∧ B = true ∧ U = true
  · obtain ⟨rfl, rfl, rfl⟩ := hok
    have HR : Hid (R = thenN (rawO ck ⟨5, ex, nm, c, r, ks, os, wk, ws, wt, ag, ou⟩)) := HRk.out rfl rfl rfl
    rw [HRw.out] at HR
    have HFN2 := hidO (HFN.out rfl rfl)
    clear HFN HRk HRn
    go_wp2_with fail
    refine (HFN2.out _ HB4.out).mono ?_
    rintro e w5 ⟨hb5, hr5⟩
    have HB5 : Hid (Below w.heap.size w w5) := HB4.out.trans (hb5.mono HB4.out.size)
    rw [← HR.out] at hr5
    cases R with
    | error n =>
      simp only at hr5
      subst hr5
      clear hb5 g0 g1 g2 g3 g4 g5 g6 g7 g8 g9 g10 g11
      go_wp2_with fail
      go_ret2
      exact docP_err HB5.out rfl
    | ok l =>
      obtain ⟨a3, c3', rfl, hc3⟩ := hr5
      have HC3 := hidO hc3
      clear hb5 hc3 g0 g1 g2 g3 g4 g5 g6 g7 g8 g9 g10 g11
      go_wp2_with fail
      go_ret2
      exact docP_ok HB5.out rfl HC3.out
  · have HR4 : Hid (R = .error 4) := HRn.out hok
    cases A with
    | false =>
      clear hok HRk HRn
      go_wp2_with fail
      go_ret2
      rw [HR4.out]
      exact docP_err HB4.out rfl
    | true =>
      cases B with
      | false =>
        clear hok HRk HRn
        go_wp2_with fail
        go_ret2
        rw [HR4.out]
        exact docP_err HB4.out rfl
      | true =>
        cases U with
        | false =>
          clear hok HRk HRn
          go_wp2_with fail
          go_ret2
          rw [HR4.out]
          exact docP_err HB4.out rfl
        | true => exact absurd ⟨rfl, rfl, rfl⟩ hok

set_option maxHeartbeats 8000000 in
theorem outD_6 (ck : ByteArray → Except Nat Int) (o : OpD) (p : OpA) (w : World) (hs : OpSz o) (hat : OpAt w o p) (hck : CkD w o.c ck) (hk : o.k = 6) :
    Calls Tryz.prog 5 #[.agg (opCs o p)] w (DocP w (outO ck o)) := by
  obtain ⟨W1, hW1⟩ : ∃ W1, W1 = w.alloc (.cells (opCs o p) 29) := ⟨_, rfl⟩
  have hA : Below w.heap.size w W1 := by rw [hW1]; exact xbel1 _ _
  have hOw : Own W1 w.heap.size 29 12 (opCs o p).toList := by rw [hW1]; exact Own.new w 29 12 (opCs o p) rfl
  have hcm : o.c.length ≤ maxLen := by have := hs.c; unfold maxLen; omega
  have hrm : o.r.length ≤ maxLen := by have := hs.r; unfold maxLen; omega
  have hcn : ∀ x ∈ o.c, x.nm.size ≤ 140737488355328 := fun x hx => by have := hs.cn x hx; omega
  have hrn : ∀ x ∈ o.r, x.nm.size ≤ 140737488355328 := fun x hx => by have := hs.rn x hx; omega
  have HA := hidO hA
  have HOw := hidO hOw
  obtain ⟨A, hAi, hAc⟩ := colsD_bool o.c hcm hcn
  obtain ⟨B, hBi, hBc⟩ := colsD_bool o.r hrm hrn
  have HCA : Hid (∀ W, Below w.heap.size w W → Calls Tryz.prog 11 #[.slice p.ca o.c.length p.cc] W fun e w' => e = .returned (.bool A) ∧ Below W.heap.size W w') := fun W hW => hAc p.ca p.cc W (hat.c.later hW)
  have HCB : Hid (∀ W, Below w.heap.size w W → Calls Tryz.prog 11 #[.slice p.ra o.r.length p.rc] W fun e w' => e = .returned (.bool B) ∧ Below W.heap.size W w') := fun W hW => hBc p.ra p.rc W (hat.r.later hW)
  have HBR : Hid (∀ W, Calls Tryz.prog 12 #[.agg (opCs o p), .string ⟨#[]⟩] W fun e w' => e = .returned (.bool (usesB o)) ∧ Below W.heap.size W w') := fun W => by
    have h1 := bare_any o p (mayK o.k) (may8 _) W hs
    rw [uses_bare o (by rw [hk]; decide)] at h1
    have h2 : mayK o.k = ⟨#[]⟩ := by rw [hk]; rfl
    rw [h2] at h1
    exact h1
  have HRk : Hid (A = true → B = true → usesB o = true → outO ck o = thenN (rawO ck o)) := fun h1 h2 h3 => by unfold outO; rw [if_pos ⟨hAi.1 h1, hBi.1 h2, h3⟩]; unfold thenN; cases rawO ck o <;> rfl
  have HRn : Hid (¬ (A = true ∧ B = true ∧ usesB o = true) → outO ck o = .error 4) := fun h => by unfold outO; rw [if_neg (fun h' => h ⟨hAi.2 h'.1, hBi.2 h'.2.1, h'.2.2⟩)]
  have HRw : Hid (rawO ck o = .ok o.c) := by show rawO ck o = .ok o.c; unfold rawO; rw [hk]; rfl
  have HND : Hid (∀ W, Below w.heap.size w W → Calls Tryz.prog 17 #[.slice p.ca o.c.length p.cc] W (DocP W (namedO o.c))) := fun W hW => namedD_any o.c p.ca p.cc W (hat.c.later hW) hcm hcn
  clear hA hOw hcm hrm hcn hrn hAi hAc hBi hBc hs hat hck
  generalize outO ck o = R at *
  generalize usesB o = U at *
  obtain ⟨k, ex, nm, c, r, ks, os, wk, ws, wt, ag, ou⟩ := o
  obtain ⟨ea, ec, na, nc, ca, cc, ra, rc, ka, kc, oa, oc, ga, gc⟩ := p
  unfold opCs at *
  simp only at *
  subst hk
  go_enter Tryz.func5, Tryz.ntmps5
  go_wp2_with fail
  rw [← hW1]
  refine (HCA.out _ HA.out).mono ?_
  rintro e w2 ⟨rfl, hb2⟩
  have HB2 : Hid (Below w.heap.size w w2) := HA.out.trans (hb2.mono HA.out.size)
  have HO2 := hidO (HOw.out.later hb2)
  have d4 : w2.cell? ⟨w.heap.size, 4, none⟩ = some (.slice ra r.length rc) := HO2.out.cell 4 (by decide)
  have hl2 : w.heap.size < w2.heap.size := HO2.out.lt
  clear hb2 hW1
  go_wp2_with fail
  refine (HCB.out _ HB2.out).mono ?_
  rintro e w3 ⟨rfl, hb3⟩
  have HB3 : Hid (Below w.heap.size w w3) := HB2.out.trans (hb3.mono HB2.out.size)
  have HO3 := hidO (HO2.out.later hb3)
  have f0 : w3.cell? ⟨w.heap.size, 0, none⟩ = some (.int .i64 6) := HO3.out.cell 0 (by decide)
  have f1 : w3.cell? ⟨w.heap.size, 1, none⟩ = some (.slice ea ex.length ec) := HO3.out.cell 1 (by decide)
  have f2 : w3.cell? ⟨w.heap.size, 2, none⟩ = some (.slice na nm.length nc) := HO3.out.cell 2 (by decide)
  have f3 : w3.cell? ⟨w.heap.size, 3, none⟩ = some (.slice ca c.length cc) := HO3.out.cell 3 (by decide)
  have f4 : w3.cell? ⟨w.heap.size, 4, none⟩ = some (.slice ra r.length rc) := HO3.out.cell 4 (by decide)
  have f5 : w3.cell? ⟨w.heap.size, 5, none⟩ = some (.slice ka ks.length kc) := HO3.out.cell 5 (by decide)
  have f6 : w3.cell? ⟨w.heap.size, 6, none⟩ = some (.slice oa os.length oc) := HO3.out.cell 6 (by decide)
  have f7 : w3.cell? ⟨w.heap.size, 7, none⟩ = some (.int .i64 wk) := HO3.out.cell 7 (by decide)
  have f8 : w3.cell? ⟨w.heap.size, 8, none⟩ = some (.int .i64 ws) := HO3.out.cell 8 (by decide)
  have f9 : w3.cell? ⟨w.heap.size, 9, none⟩ = some (.int .i64 wt) := HO3.out.cell 9 (by decide)
  have f10 : w3.cell? ⟨w.heap.size, 10, none⟩ = some (.slice ga ag.length gc) := HO3.out.cell 10 (by decide)
  have f11 : w3.cell? ⟨w.heap.size, 11, none⟩ = some (.bool ou) := HO3.out.cell 11 (by decide)
  have hl3 : w.heap.size < w3.heap.size := HO3.out.lt
  clear hb3 d4
  go_wp2_with fail
  refine (HBR.out _).mono ?_
  rintro e w4 ⟨rfl, hb4⟩
  have HB4 : Hid (Below w.heap.size w w4) := HB3.out.trans (hb4.mono HB3.out.size)
  have HO4 := hidO (HO3.out.later hb4)
  clear hb4 f0 f1 f2 f3 f4 f5 f6 f7 f8 f9 f10 f11
  have g0 : w4.cell? ⟨w.heap.size, 0, none⟩ = some (.int .i64 6) := HO4.out.cell 0 (by decide)
  have g1 : w4.cell? ⟨w.heap.size, 1, none⟩ = some (.slice ea ex.length ec) := HO4.out.cell 1 (by decide)
  have g2 : w4.cell? ⟨w.heap.size, 2, none⟩ = some (.slice na nm.length nc) := HO4.out.cell 2 (by decide)
  have g3 : w4.cell? ⟨w.heap.size, 3, none⟩ = some (.slice ca c.length cc) := HO4.out.cell 3 (by decide)
  have g4 : w4.cell? ⟨w.heap.size, 4, none⟩ = some (.slice ra r.length rc) := HO4.out.cell 4 (by decide)
  have g5 : w4.cell? ⟨w.heap.size, 5, none⟩ = some (.slice ka ks.length kc) := HO4.out.cell 5 (by decide)
  have g6 : w4.cell? ⟨w.heap.size, 6, none⟩ = some (.slice oa os.length oc) := HO4.out.cell 6 (by decide)
  have g7 : w4.cell? ⟨w.heap.size, 7, none⟩ = some (.int .i64 wk) := HO4.out.cell 7 (by decide)
  have g8 : w4.cell? ⟨w.heap.size, 8, none⟩ = some (.int .i64 ws) := HO4.out.cell 8 (by decide)
  have g9 : w4.cell? ⟨w.heap.size, 9, none⟩ = some (.int .i64 wt) := HO4.out.cell 9 (by decide)
  have g10 : w4.cell? ⟨w.heap.size, 10, none⟩ = some (.slice ga ag.length gc) := HO4.out.cell 10 (by decide)
  have g11 : w4.cell? ⟨w.heap.size, 11, none⟩ = some (.bool ou) := HO4.out.cell 11 (by decide)
  have hl4 : w.heap.size < w4.heap.size := HO4.out.lt
  by_cases hok : A = true ∧ B = true ∧ U = true
  · obtain ⟨rfl, rfl, rfl⟩ := hok
    have HR : Hid (R = thenN (rawO ck ⟨6, ex, nm, c, r, ks, os, wk, ws, wt, ag, ou⟩)) := HRk.out rfl rfl rfl
    rw [HRw.out] at HR
    have HR2 : Hid (R = namedO c) := HR.out
    go_wp2_with fail
    refine (HND.out _ HB4.out).mono ?_
    rintro e w5 ⟨hb5, hr5⟩
    have HB5 : Hid (Below w.heap.size w w5) := HB4.out.trans (hb5.mono HB4.out.size)
    rw [← HR2.out] at hr5
    cases R with
    | error n =>
      simp only at hr5
      subst hr5
      clear hb5 g0 g1 g2 g3 g4 g5 g6 g7 g8 g9 g10 g11
      go_wp2_with fail
      go_ret2
      exact docP_err HB5.out rfl
    | ok l =>
      obtain ⟨a3, c3', rfl, hc3⟩ := hr5
      have HC3 := hidO hc3
      clear hb5 hc3 g0 g1 g2 g3 g4 g5 g6 g7 g8 g9 g10 g11
      go_wp2_with fail
      go_ret2
      exact docP_ok HB5.out rfl HC3.out
  · have HR4 : Hid (R = .error 4) := HRn.out hok
    cases A with
    | false =>
      clear hok HRk HRn
      go_wp2_with fail
      go_ret2
      rw [HR4.out]
      exact docP_err HB4.out rfl
    | true =>
      cases B with
      | false =>
        clear hok HRk HRn
        go_wp2_with fail
        go_ret2
        rw [HR4.out]
        exact docP_err HB4.out rfl
      | true =>
        cases U with
        | false =>
          clear hok HRk HRn
          go_wp2_with fail
          go_ret2
          rw [HR4.out]
          exact docP_err HB4.out rfl
        | true => exact absurd ⟨rfl, rfl, rfl⟩ hok

set_option maxHeartbeats 8000000 in
theorem outD_7 (ck : ByteArray → Except Nat Int) (o : OpD) (p : OpA) (w : World) (hs : OpSz o) (hat : OpAt w o p) (hck : CkD w o.c ck) (hk : o.k = 7) :
    Calls Tryz.prog 5 #[.agg (opCs o p)] w (DocP w (outO ck o)) := by
  obtain ⟨W1, hW1⟩ : ∃ W1, W1 = w.alloc (.cells (opCs o p) 29) := ⟨_, rfl⟩
  have hA : Below w.heap.size w W1 := by rw [hW1]; exact xbel1 _ _
  have hOw : Own W1 w.heap.size 29 12 (opCs o p).toList := by rw [hW1]; exact Own.new w 29 12 (opCs o p) rfl
  have hcm : o.c.length ≤ maxLen := by have := hs.c; unfold maxLen; omega
  have hrm : o.r.length ≤ maxLen := by have := hs.r; unfold maxLen; omega
  have hcn : ∀ x ∈ o.c, x.nm.size ≤ 140737488355328 := fun x hx => by have := hs.cn x hx; omega
  have hrn : ∀ x ∈ o.r, x.nm.size ≤ 140737488355328 := fun x hx => by have := hs.rn x hx; omega
  have HA := hidO hA
  have HOw := hidO hOw
  obtain ⟨A, hAi, hAc⟩ := colsD_bool o.c hcm hcn
  obtain ⟨B, hBi, hBc⟩ := colsD_bool o.r hrm hrn
  have HCA : Hid (∀ W, Below w.heap.size w W → Calls Tryz.prog 11 #[.slice p.ca o.c.length p.cc] W fun e w' => e = .returned (.bool A) ∧ Below W.heap.size W w') := fun W hW => hAc p.ca p.cc W (hat.c.later hW)
  have HCB : Hid (∀ W, Below w.heap.size w W → Calls Tryz.prog 11 #[.slice p.ra o.r.length p.rc] W fun e w' => e = .returned (.bool B) ∧ Below W.heap.size W w') := fun W hW => hBc p.ra p.rc W (hat.r.later hW)
  have HBR : Hid (∀ W, Calls Tryz.prog 12 #[.agg (opCs o p), .string ⟨#[]⟩] W fun e w' => e = .returned (.bool (usesB o)) ∧ Below W.heap.size W w') := fun W => by
    have h1 := bare_any o p (mayK o.k) (may8 _) W hs
    rw [uses_bare o (by rw [hk]; decide)] at h1
    have h2 : mayK o.k = ⟨#[]⟩ := by rw [hk]; rfl
    rw [h2] at h1
    exact h1
  have HRk : Hid (A = true → B = true → usesB o = true → outO ck o = thenN (rawO ck o)) := fun h1 h2 h3 => by unfold outO; rw [if_pos ⟨hAi.1 h1, hBi.1 h2, h3⟩]; unfold thenN; cases rawO ck o <;> rfl
  have HRn : Hid (¬ (A = true ∧ B = true ∧ usesB o = true) → outO ck o = .error 4) := fun h => by unfold outO; rw [if_neg (fun h' => h ⟨hAi.2 h'.1, hBi.2 h'.2.1, h'.2.2⟩)]
  have HRw : Hid (rawO ck o = .ok o.c) := by show rawO ck o = .ok o.c; unfold rawO; rw [hk]; rfl
  have HND : Hid (∀ W, Below w.heap.size w W → Calls Tryz.prog 17 #[.slice p.ca o.c.length p.cc] W (DocP W (namedO o.c))) := fun W hW => namedD_any o.c p.ca p.cc W (hat.c.later hW) hcm hcn
  clear hA hOw hcm hrm hcn hrn hAi hAc hBi hBc hs hat hck
  generalize outO ck o = R at *
  generalize usesB o = U at *
  obtain ⟨k, ex, nm, c, r, ks, os, wk, ws, wt, ag, ou⟩ := o
  obtain ⟨ea, ec, na, nc, ca, cc, ra, rc, ka, kc, oa, oc, ga, gc⟩ := p
  unfold opCs at *
  simp only at *
  subst hk
  go_enter Tryz.func5, Tryz.ntmps5
  go_wp2_with fail
  rw [← hW1]
  refine (HCA.out _ HA.out).mono ?_
  rintro e w2 ⟨rfl, hb2⟩
  have HB2 : Hid (Below w.heap.size w w2) := HA.out.trans (hb2.mono HA.out.size)
  have HO2 := hidO (HOw.out.later hb2)
  have d4 : w2.cell? ⟨w.heap.size, 4, none⟩ = some (.slice ra r.length rc) := HO2.out.cell 4 (by decide)
  have hl2 : w.heap.size < w2.heap.size := HO2.out.lt
  clear hb2 hW1
  go_wp2_with fail
  refine (HCB.out _ HB2.out).mono ?_
  rintro e w3 ⟨rfl, hb3⟩
  have HB3 : Hid (Below w.heap.size w w3) := HB2.out.trans (hb3.mono HB2.out.size)
  have HO3 := hidO (HO2.out.later hb3)
  have f0 : w3.cell? ⟨w.heap.size, 0, none⟩ = some (.int .i64 7) := HO3.out.cell 0 (by decide)
  have f1 : w3.cell? ⟨w.heap.size, 1, none⟩ = some (.slice ea ex.length ec) := HO3.out.cell 1 (by decide)
  have f2 : w3.cell? ⟨w.heap.size, 2, none⟩ = some (.slice na nm.length nc) := HO3.out.cell 2 (by decide)
  have f3 : w3.cell? ⟨w.heap.size, 3, none⟩ = some (.slice ca c.length cc) := HO3.out.cell 3 (by decide)
  have f4 : w3.cell? ⟨w.heap.size, 4, none⟩ = some (.slice ra r.length rc) := HO3.out.cell 4 (by decide)
  have f5 : w3.cell? ⟨w.heap.size, 5, none⟩ = some (.slice ka ks.length kc) := HO3.out.cell 5 (by decide)
  have f6 : w3.cell? ⟨w.heap.size, 6, none⟩ = some (.slice oa os.length oc) := HO3.out.cell 6 (by decide)
  have f7 : w3.cell? ⟨w.heap.size, 7, none⟩ = some (.int .i64 wk) := HO3.out.cell 7 (by decide)
  have f8 : w3.cell? ⟨w.heap.size, 8, none⟩ = some (.int .i64 ws) := HO3.out.cell 8 (by decide)
  have f9 : w3.cell? ⟨w.heap.size, 9, none⟩ = some (.int .i64 wt) := HO3.out.cell 9 (by decide)
  have f10 : w3.cell? ⟨w.heap.size, 10, none⟩ = some (.slice ga ag.length gc) := HO3.out.cell 10 (by decide)
  have f11 : w3.cell? ⟨w.heap.size, 11, none⟩ = some (.bool ou) := HO3.out.cell 11 (by decide)
  have hl3 : w.heap.size < w3.heap.size := HO3.out.lt
  clear hb3 d4
  go_wp2_with fail
  refine (HBR.out _).mono ?_
  rintro e w4 ⟨rfl, hb4⟩
  have HB4 : Hid (Below w.heap.size w w4) := HB3.out.trans (hb4.mono HB3.out.size)
  have HO4 := hidO (HO3.out.later hb4)
  clear hb4 f0 f1 f2 f3 f4 f5 f6 f7 f8 f9 f10 f11
  have g0 : w4.cell? ⟨w.heap.size, 0, none⟩ = some (.int .i64 7) := HO4.out.cell 0 (by decide)
  have g1 : w4.cell? ⟨w.heap.size, 1, none⟩ = some (.slice ea ex.length ec) := HO4.out.cell 1 (by decide)
  have g2 : w4.cell? ⟨w.heap.size, 2, none⟩ = some (.slice na nm.length nc) := HO4.out.cell 2 (by decide)
  have g3 : w4.cell? ⟨w.heap.size, 3, none⟩ = some (.slice ca c.length cc) := HO4.out.cell 3 (by decide)
  have g4 : w4.cell? ⟨w.heap.size, 4, none⟩ = some (.slice ra r.length rc) := HO4.out.cell 4 (by decide)
  have g5 : w4.cell? ⟨w.heap.size, 5, none⟩ = some (.slice ka ks.length kc) := HO4.out.cell 5 (by decide)
  have g6 : w4.cell? ⟨w.heap.size, 6, none⟩ = some (.slice oa os.length oc) := HO4.out.cell 6 (by decide)
  have g7 : w4.cell? ⟨w.heap.size, 7, none⟩ = some (.int .i64 wk) := HO4.out.cell 7 (by decide)
  have g8 : w4.cell? ⟨w.heap.size, 8, none⟩ = some (.int .i64 ws) := HO4.out.cell 8 (by decide)
  have g9 : w4.cell? ⟨w.heap.size, 9, none⟩ = some (.int .i64 wt) := HO4.out.cell 9 (by decide)
  have g10 : w4.cell? ⟨w.heap.size, 10, none⟩ = some (.slice ga ag.length gc) := HO4.out.cell 10 (by decide)
  have g11 : w4.cell? ⟨w.heap.size, 11, none⟩ = some (.bool ou) := HO4.out.cell 11 (by decide)
  have hl4 : w.heap.size < w4.heap.size := HO4.out.lt
  by_cases hok : A = true ∧ B = true ∧ U = true
  · obtain ⟨rfl, rfl, rfl⟩ := hok
    have HR : Hid (R = thenN (rawO ck ⟨7, ex, nm, c, r, ks, os, wk, ws, wt, ag, ou⟩)) := HRk.out rfl rfl rfl
    rw [HRw.out] at HR
    have HR2 : Hid (R = namedO c) := HR.out
    go_wp2_with fail
    refine (HND.out _ HB4.out).mono ?_
    rintro e w5 ⟨hb5, hr5⟩
    have HB5 : Hid (Below w.heap.size w w5) := HB4.out.trans (hb5.mono HB4.out.size)
    rw [← HR2.out] at hr5
    cases R with
    | error n =>
      simp only at hr5
      subst hr5
      clear hb5 g0 g1 g2 g3 g4 g5 g6 g7 g8 g9 g10 g11
      go_wp2_with fail
      go_ret2
      exact docP_err HB5.out rfl
    | ok l =>
      obtain ⟨a3, c3', rfl, hc3⟩ := hr5
      have HC3 := hidO hc3
      clear hb5 hc3 g0 g1 g2 g3 g4 g5 g6 g7 g8 g9 g10 g11
      go_wp2_with fail
      go_ret2
      exact docP_ok HB5.out rfl HC3.out
  · have HR4 : Hid (R = .error 4) := HRn.out hok
    cases A with
    | false =>
      clear hok HRk HRn
      go_wp2_with fail
      go_ret2
      rw [HR4.out]
      exact docP_err HB4.out rfl
    | true =>
      cases B with
      | false =>
        clear hok HRk HRn
        go_wp2_with fail
        go_ret2
        rw [HR4.out]
        exact docP_err HB4.out rfl
      | true =>
        cases U with
        | false =>
          clear hok HRk HRn
          go_wp2_with fail
          go_ret2
          rw [HR4.out]
          exact docP_err HB4.out rfl
        | true => exact absurd ⟨rfl, rfl, rfl⟩ hok

set_option maxHeartbeats 8000000 in
theorem outD_x (ck : ByteArray → Except Nat Int) (o : OpD) (p : OpA) (w : World) (hs : OpSz o) (hat : OpAt w o p) (hck : CkD w o.c ck) (hk : o.k < 2 ∨ 7 < o.k) :
    Calls Tryz.prog 5 #[.agg (opCs o p)] w (DocP w (outO ck o)) := by
  obtain ⟨W1, hW1⟩ : ∃ W1, W1 = w.alloc (.cells (opCs o p) 29) := ⟨_, rfl⟩
  have hA : Below w.heap.size w W1 := by rw [hW1]; exact xbel1 _ _
  have hOw : Own W1 w.heap.size 29 12 (opCs o p).toList := by rw [hW1]; exact Own.new w 29 12 (opCs o p) rfl
  have hcm : o.c.length ≤ maxLen := by have := hs.c; unfold maxLen; omega
  have hrm : o.r.length ≤ maxLen := by have := hs.r; unfold maxLen; omega
  have hcn : ∀ x ∈ o.c, x.nm.size ≤ 140737488355328 := fun x hx => by have := hs.cn x hx; omega
  have hrn : ∀ x ∈ o.r, x.nm.size ≤ 140737488355328 := fun x hx => by have := hs.rn x hx; omega
  have HA := hidO hA
  have HOw := hidO hOw
  obtain ⟨A, hAi, hAc⟩ := colsD_bool o.c hcm hcn
  obtain ⟨B, hBi, hBc⟩ := colsD_bool o.r hrm hrn
  have HCA : Hid (∀ W, Below w.heap.size w W → Calls Tryz.prog 11 #[.slice p.ca o.c.length p.cc] W fun e w' => e = .returned (.bool A) ∧ Below W.heap.size W w') := fun W hW => hAc p.ca p.cc W (hat.c.later hW)
  have HCB : Hid (∀ W, Below w.heap.size w W → Calls Tryz.prog 11 #[.slice p.ra o.r.length p.rc] W fun e w' => e = .returned (.bool B) ∧ Below W.heap.size W w') := fun W hW => hBc p.ra p.rc W (hat.r.later hW)
  have HBR : Hid (∀ W, ∃ U : Bool, Calls Tryz.prog 12 #[.agg (opCs o p), .string ⟨#[]⟩] W fun e w' => e = .returned (.bool U) ∧ Below W.heap.size W w') := fun W => ⟨_, bare_any o p ⟨#[]⟩ (by decide) W hs⟩
  have HR4 : Hid (outO ck o = .error 4) := by
    show outO ck o = .error 4
    unfold outO
    rw [if_neg]
    intro h
    have h3 := h.2.2
    unfold usesB at h3
    rw [if_neg (by omega), if_neg (by omega), if_neg (by omega), if_neg (by omega), if_neg (by omega)] at h3
    cases h3
  clear hA hOw hcm hrm hcn hrn hAi hAc hBi hBc hs hat hck
  generalize outO ck o = R at *
  obtain ⟨k, ex, nm, c, r, ks, os, wk, ws, wt, ag, ou⟩ := o
  obtain ⟨ea, ec, na, nc, ca, cc, ra, rc, ka, kc, oa, oc, ga, gc⟩ := p
  unfold opCs at *
  simp only at *
  have b2 : (k == 2) = false := by simp; omega
  have b3 : (k == 3) = false := by simp; omega
  have b4 : (k == 4) = false := by simp; omega
  have b5 : (k == 5) = false := by simp; omega
  go_enter Tryz.func5, Tryz.ntmps5
  go_wp2_with fail
  rw [← hW1]
  refine (HCA.out _ HA.out).mono ?_
  rintro e w2 ⟨rfl, hb2⟩
  have HB2 : Hid (Below w.heap.size w w2) := HA.out.trans (hb2.mono HA.out.size)
  have HO2 := hidO (HOw.out.later hb2)
  have d4 : w2.cell? ⟨w.heap.size, 4, none⟩ = some (.slice ra r.length rc) := HO2.out.cell 4 (by decide)
  have hl2 : w.heap.size < w2.heap.size := HO2.out.lt
  clear hb2 hW1
  go_wp2_with fail
  refine (HCB.out _ HB2.out).mono ?_
  rintro e w3 ⟨rfl, hb3⟩
  have HB3 : Hid (Below w.heap.size w w3) := HB2.out.trans (hb3.mono HB2.out.size)
  have HO3 := hidO (HO2.out.later hb3)
  have f0 : w3.cell? ⟨w.heap.size, 0, none⟩ = some (.int .i64 k) := HO3.out.cell 0 (by decide)
  have f1 : w3.cell? ⟨w.heap.size, 1, none⟩ = some (.slice ea ex.length ec) := HO3.out.cell 1 (by decide)
  have f2 : w3.cell? ⟨w.heap.size, 2, none⟩ = some (.slice na nm.length nc) := HO3.out.cell 2 (by decide)
  have f3 : w3.cell? ⟨w.heap.size, 3, none⟩ = some (.slice ca c.length cc) := HO3.out.cell 3 (by decide)
  have f4 : w3.cell? ⟨w.heap.size, 4, none⟩ = some (.slice ra r.length rc) := HO3.out.cell 4 (by decide)
  have f5 : w3.cell? ⟨w.heap.size, 5, none⟩ = some (.slice ka ks.length kc) := HO3.out.cell 5 (by decide)
  have f6 : w3.cell? ⟨w.heap.size, 6, none⟩ = some (.slice oa os.length oc) := HO3.out.cell 6 (by decide)
  have f7 : w3.cell? ⟨w.heap.size, 7, none⟩ = some (.int .i64 wk) := HO3.out.cell 7 (by decide)
  have f8 : w3.cell? ⟨w.heap.size, 8, none⟩ = some (.int .i64 ws) := HO3.out.cell 8 (by decide)
  have f9 : w3.cell? ⟨w.heap.size, 9, none⟩ = some (.int .i64 wt) := HO3.out.cell 9 (by decide)
  have f10 : w3.cell? ⟨w.heap.size, 10, none⟩ = some (.slice ga ag.length gc) := HO3.out.cell 10 (by decide)
  have f11 : w3.cell? ⟨w.heap.size, 11, none⟩ = some (.bool ou) := HO3.out.cell 11 (by decide)
  have hl3 : w.heap.size < w3.heap.size := HO3.out.lt
  clear hb3 d4
  go_wp2_with fail
  obtain ⟨U, hU⟩ := HBR.out w3
  refine hU.mono ?_
  rintro e w4 ⟨rfl, hb4⟩
  have HB4 : Hid (Below w.heap.size w w4) := HB3.out.trans (hb4.mono HB3.out.size)
  have HO4 := hidO (HO3.out.later hb4)
  clear hb4 f0 f1 f2 f3 f4 f5 f6 f7 f8 f9 f10 f11
  have g0 : w4.cell? ⟨w.heap.size, 0, none⟩ = some (.int .i64 k) := HO4.out.cell 0 (by decide)
  have g1 : w4.cell? ⟨w.heap.size, 1, none⟩ = some (.slice ea ex.length ec) := HO4.out.cell 1 (by decide)
  have g2 : w4.cell? ⟨w.heap.size, 2, none⟩ = some (.slice na nm.length nc) := HO4.out.cell 2 (by decide)
  have g3 : w4.cell? ⟨w.heap.size, 3, none⟩ = some (.slice ca c.length cc) := HO4.out.cell 3 (by decide)
  have g4 : w4.cell? ⟨w.heap.size, 4, none⟩ = some (.slice ra r.length rc) := HO4.out.cell 4 (by decide)
  have g5 : w4.cell? ⟨w.heap.size, 5, none⟩ = some (.slice ka ks.length kc) := HO4.out.cell 5 (by decide)
  have g6 : w4.cell? ⟨w.heap.size, 6, none⟩ = some (.slice oa os.length oc) := HO4.out.cell 6 (by decide)
  have g7 : w4.cell? ⟨w.heap.size, 7, none⟩ = some (.int .i64 wk) := HO4.out.cell 7 (by decide)
  have g8 : w4.cell? ⟨w.heap.size, 8, none⟩ = some (.int .i64 ws) := HO4.out.cell 8 (by decide)
  have g9 : w4.cell? ⟨w.heap.size, 9, none⟩ = some (.int .i64 wt) := HO4.out.cell 9 (by decide)
  have g10 : w4.cell? ⟨w.heap.size, 10, none⟩ = some (.slice ga ag.length gc) := HO4.out.cell 10 (by decide)
  have g11 : w4.cell? ⟨w.heap.size, 11, none⟩ = some (.bool ou) := HO4.out.cell 11 (by decide)
  have hl4 : w.heap.size < w4.heap.size := HO4.out.lt
  clear hU
  by_cases hk2 : k < 2
  · clear hk
    go_wp2_with fail
    go_ret2
    rw [HR4.out]
    exact docP_err HB4.out rfl
  · have hk7 : (7 : Int) < k := by omega
    clear hk
    go_wp2_with fail
    go_ret2
    rw [HR4.out]
    exact docP_err HB4.out rfl
end Go.Proofs.YtplaplhmjpfbjaaGreatDoor.Oo
