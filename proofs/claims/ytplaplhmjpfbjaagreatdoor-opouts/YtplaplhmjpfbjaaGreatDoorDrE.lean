import Derived.Test.YtplaplhmjpfbjaaGreatDoorDa1
import Derived.Maps.AppendAt
import Derived.Laws.AppendOwn
namespace Go.Proofs.YtplaplhmjpfbjaaGreatDoor.Dc
open Go.RowKit
set_option linter.unusedVariables false
set_option linter.unusedSimpArgs false
set_option maxRecDepth 100000

theorem b39 : ∀ c : UInt8, ((c.toNat : Int) == 39) = (c == 39) := allB (P := fun c => ((c.toNat : Int) == 39) = (c == 39)) (by decide +kernel)
theorem sgs_size : ∀ c (h : c < sgs.length), 1 ≤ sgs[c].size ∧ sgs[c].size ≤ 2 := by decide +kernel
theorem slice_mid (s : ByteArray) (k n : Nat) (h : k + n ≤ s.size) (w : World) :
    (Instr.slice 9 (.string s) (some (.int .i64 k)) (some (.int .i64 ((k : Int) + (n : Int)))) none).run Tryz.prog w = .ok (.string ⟨((s.data.toList.drop k).take n).toArray⟩) w := by
  rw [run_slice_string w 9 s .i64 .i64 (k : Int) ((k : Int) + (n : Int)) Tryz.underlying9 (by omega) (by omega) (by omega)]
  rw [show ((k : Int)).toNat = k by omega, show ((k : Int) + (n : Int)).toNat = k + n by omega]
  congr 2
  apply ByteArray.ext
  apply Array.toList_inj.1
  rw [ByteArray.data_extract]
  simp [List.drop_take]
set_option maxHeartbeats 20000000 in
theorem tokensD_any (s : ByteArray) (w : World) (hs : s.size ≤ 200) :
    Calls Tryz.prog 54 #[.string s] w (ToksD w s) := by
  obtain ⟨i0, hi0, hz0, hz1, hz2⟩ := info_parts infoTD
  have hlen : s.data.toList.length = s.size := by simp
  have HD : Hid (∀ (c : UInt8) (w : World), Calls Tryz.prog 52 #[.int .u8 c.toNat] w fun e w' => e = .returned (.bool (isDg c)) ∧ w' = w) := digitD_any
  have HL : Hid (∀ (c : UInt8) (w : World), Calls Tryz.prog 51 #[.int .u8 c.toNat] w fun e w' => e = .returned (.bool (isLt c)) ∧ w' = w) := letterD_any
  have HSG : Hid (∀ W, Calls Tryz.prog 72 #[] W (SgsPost W)) := signs_any
  go_enter Tryz.func54, Tryz.ntmps54
  go_wp2
  go_loopw [4, 5] (fun l i w' => ∃ (k m : Nat) (acc : List Tk), k ≤ s.size ∧ i = .int .i64 k ∧ s.size - k ≤ m ∧ tok s.size 0 s.data.toList = (tok m k (s.data.toList.drop k)).map (acc ++ ·) ∧ OD w' w.heap.size l acc ∧ Below w.heap.size w w' ∧ acc.length ≤ k) (fun _ i _ => s.size - (intOf i).toNat)
  case atStart =>
    refine ⟨0, s.size, [], Nat.zero_le _, rfl, by omega, ?_, World.ownsRow_nil _ _ _ _, Below.refl _ _, Nat.le_refl _⟩
    rw [List.drop_zero]
    cases tok s.size 0 s.data.toList <;> rfl
  case round =>
    obtain ⟨k, m, acc, hk, rfl, hm, htok, hOT, hB, hacc⟩ := hrel
    have HO := hidMk hOT
    have HB := hidMk hB
    have HTK0 := hidMk htok
    clear htok hOT hB
    by_cases hlt : k < s.size
    · have hki : (k : Int) < (s.size : Int) := by omega
      have hk2 : k < s.data.toList.length := by omega
      have he : s.data.toList[k] = s[k] := by simp [ByteArray.getElem_eq_getElem_data]
      have HNE : Hid (s.data.toList.drop k = s[k] :: s.data.toList.drop (k + 1)) := by rw [Hid, List.drop_eq_getElem_cons hk2, he]
      have HNE0 := hidMk he
      obtain ⟨m', rfl⟩ : ∃ m', m = m' + 1 := ⟨m - 1, by omega⟩
      have hspi : isSp s[k] = (((s[k].toNat : Int) == 32) || ((s[k].toNat : Int) == 9) || ((s[k].toNat : Int) == 10)) := allB (P := fun c => isSp c = (((c.toNat : Int) == 32) || ((c.toNat : Int) == 9) || ((c.toNat : Int) == 10))) (by decide +kernel) s[k]
      clear he
      cases hb : isSp s[k]
      · rw [hb] at hspi
        have HSP : Hid (isSp s[k] = false) := hb
        have HTK : Hid (tok s.size 0 s.data.toList = (tok (m' + 1) k (s.data.toList.drop k)).map (acc ++ ·)) := HTK0.out
        have q1 : ((s[k].toNat : Int) == 32) = false := by revert hspi; cases ((s[k].toNat : Int) == 32) <;> simp
        have q2 : ((s[k].toNat : Int) == 9) = false := by revert hspi; cases ((s[k].toNat : Int) == 9) <;> simp
        have q3 : ((s[k].toNat : Int) == 10) = false := by revert hspi; cases ((s[k].toNat : Int) == 10) <;> simp
        clear HTK0 hspi hb
        cases hd : isDg s[k]
        · cases hl : isLt s[k]
          · have hc39i := b39 s[k]
            cases hc39b : (s[k] == 39)
            · rw [hc39b] at hc39i
              have HC39 : Hid (¬ s[k] = 39) := by rw [Hid]; exact fun e => by rw [e] at hc39b; exact absurd hc39b (by decide)
              clear hc39b
              have HTA : Hid (tokAt (s.data.toList.drop k) = if 0 < sLen (s.data.toList.drop k) then some (4, sLen (s.data.toList.drop k)) else none) := by
                rw [Hid, HNE.out, tokAt, if_neg (by rw [hd]; decide), if_neg (by rw [isWb_lt, hl, hd]; decide), if_neg HC39.out]
              clear HNE0 HC39
              go_wp2_with (first
                                | (go_at_call 51; refine (HL.out _ _).mono ?_; rintro e w1 ⟨rfl, h⟩; (have := h.symm); subst this; rw [hl])
                                | (go_at_call 52; refine (HD.out _ _).mono ?_; rintro e w1 ⟨rfl, h⟩; (have := h.symm); subst this; rw [hd]))
              refine (HSG.out _).mono ?_
              rintro e w2 ⟨sb, rfl, hb2, hsb, hsg⟩
              have HSC := hidMk hsg
              have hBw : Below wr.heap.size wr w2 := (xbel1 _ _).trans (hb2.mono (by simp))
              have HOw : Hid (Own w2 wr.heap.size 106 3 [.int .u8 111, .string ⟨#[]⟩, .int .i64 k]) := (Own.new wr 106 3 #[.int .u8 111, .string ⟨#[]⟩, .int .i64 k] rfl).later hb2
              have HBw : Hid (Below w.heap.size w w2) := HB.out.trans (hBw.mono HB.out.size)
              have HO2 : Hid (OD w2 w.heap.size u4 acc) := xownLater HO.out hBw
              have HU : Hid (∀ g, u4.ownBlock = some g → w.heap.size ≤ g ∧ g < wr.heap.size) := fun g hg => World.ownsRow.lt HO.out g hg
              have hN1 := HB.out.size
              have hN2 : wr.heap.size < w2.heap.size := HOw.out.lt
              have hN3 : sb < w2.heap.size := World.block_lt_of_cell? _ _ (hsg 0 (by decide))
              have hN4 : wr.heap.size ≠ sb := by simp at hsb; omega
              clear hsg hb2 hl hd hsb HO HB hBw HSG HL HD
              generalize wr.heap.size = N0 at *
              go_wp2_with fail
              go_loopw [14, 15] (fun n q w' => ∃ c N d : Nat, c ≤ 15 ∧ q = .int .i64 c ∧ n = .int .i64 N ∧ ((N = 0 ∧ fl sgs (s.data.toList.drop k) = fl (sgs.drop c) (s.data.toList.drop k)) ∨ (N ≠ 0 ∧ N = fl sgs (s.data.toList.drop k))) ∧ w' = w2.drewN d) (fun _ q _ => 15 - (intOf q).toNat)
              case atStart => exact ⟨0, 0, 0, by omega, rfl, rfl, .inl ⟨rfl, rfl⟩, rfl⟩
              case round =>
                obtain ⟨c, N, d, hc, rfl, rfl, hcase, rfl⟩ := hrel
                rcases hcase with ⟨rfl, hfl⟩ | ⟨hN0, hfl⟩
                · by_cases hc15 : c < 15
                  · have hcl : c < sgs.length := hc15
                    have hci : (c : Int) < 15 := by omega
                    have cG := HSC.out c hcl
                    have hGs := sgs_size c hcl
                    have HFL := hidMk hfl
                    have HCO : Hid (sgs.drop c = sgs[c] :: sgs.drop (c + 1)) := List.drop_eq_getElem_cons hcl
                    have hlL : (s.data.toList.drop k).length = s.size - k := by rw [List.length_drop, hlen]
                    clear hfl
                    generalize sgs[c] = GG at *
                    have hGl : GG.data.toList.length = GG.size := by simp
                    by_cases hfit : k + GG.size ≤ s.size
                    · have hfi : (k : Int) + (GG.size : Int) ≤ (s.size : Int) := by omega
                      obtain ⟨Y, hY⟩ : ∃ Y : ByteArray, Y = ⟨((s.data.toList.drop k).take GG.size).toArray⟩ := ⟨_, rfl⟩
                      have hsl : ∀ W : World, (Instr.slice 9 (.string s) (some (.int .i64 k)) (some (.int .i64 ((k : Int) + (GG.size : Int)))) none).run Tryz.prog W = .ok (.string Y) W := fun W => by
                        rw [hY]; exact slice_mid s k GG.size hfit W
                      have HPX : Hid ((Y.toList == GG.toList) = decide (GG.data.toList <+: s.data.toList.drop k)) := by
                        rw [Hid, hY, Bool.eq_iff_iff, decide_eq_true_iff, List.prefix_iff_eq_take, beq_iff_eq, ByteArray.toList_eq, ByteArray.toList_eq, hGl]
                        exact eq_comm
                      clear hY
                      by_cases hpre : GG.data.toList <+: s.data.toList.drop k
                      · have hcmp : (Y.toList == GG.toList) = true := by rw [HPX.out]; exact decide_eq_true hpre
                        have HF2 : Hid (GG.size = fl sgs (s.data.toList.drop k)) := by
                          rw [Hid, HFL.out, HCO.out, fl, if_pos hpre, hGl]
                        clear HPX hpre HFL HCO
                        go_wp2_with fail
                        go_quiet (fail)
                        go_wp2_with fail
                        refine ⟨⟨c + 1, GG.size, _, by omega, by go_num, by first | rfl | trivial, .inr ⟨by omega, HF2.out⟩, by first | rfl | trivial⟩, by simp [intOf]; omega⟩
                      · have hcmp : (Y.toList == GG.toList) = false := by rw [HPX.out]; exact decide_eq_false hpre
                        have HF2 : Hid (fl sgs (s.data.toList.drop k) = fl (sgs.drop (c + 1)) (s.data.toList.drop k)) := by
                          rw [Hid, HFL.out, HCO.out, fl, if_neg hpre]
                        clear HPX hpre HFL HCO
                        go_wp2_with fail
                        go_quiet (fail)
                        go_wp2_with fail
                        refine ⟨⟨c + 1, 0, _, by omega, by go_num, by first | rfl | trivial, .inl ⟨rfl, HF2.out⟩, by first | rfl | trivial⟩, by simp [intOf]; omega⟩
                    · have hfi : decide ((k : Int) + (GG.size : Int) ≤ (s.size : Int)) = false := by rw [decide_eq_false_iff_not]; omega
                      have hfi2 : ¬ (k : Int) + (GG.size : Int) ≤ (s.size : Int) := by omega
                      have HF2 : Hid (fl sgs (s.data.toList.drop k) = fl (sgs.drop (c + 1)) (s.data.toList.drop k)) := by
                        rw [Hid, HFL.out, HCO.out, fl, if_neg (fun h => by have := h.length_le; omega)]
                      clear HFL HCO
                      go_wp2_with fail
                      go_quiet (fail)
                      go_wp2_with fail
                      refine ⟨⟨c + 1, 0, _, by omega, by go_num, by first | rfl | trivial, .inl ⟨rfl, HF2.out⟩, by first | rfl | trivial⟩, by simp [intOf]; omega⟩
                  · obtain rfl : c = 15 := by omega
                    have HTN : Hid (tokAt (s.data.toList.drop k) = none) := by
                      have h0 : sLen (s.data.toList.drop k) = 0 := by rw [← fl_sLen, hfl]; rfl
                      rw [Hid, HTA.out, h0]; rfl
                    have hT : tok s.size 0 s.data.toList = .error k := by rw [HTK.out, HNE.out, tok_none HSP.out (by rw [← HNE.out]; exact HTN.out)]; rfl
                    have FIN : Hid (ToksD w s (.returned (.tuple #[.slice none 0 0, .int .i64 k])) (w2.drewN d)) := by
                      unfold Hid ToksD
                      rw [hT]
                      exact ⟨Below.drewN' HBw.out, rfl⟩
                    clear HTA HTN HTK hT hfl
                    go_wp2_with fail
                    go_ret2
                    exact FIN.out
                · have HT : Hid (tokAt (s.data.toList.drop k) = some (4, N)) := by
                    rw [Hid, HTA.out, ← fl_sLen, ← hfl, if_pos (by omega)]
                  have hle : k + N ≤ s.size := by
                    have := (tokAt_len HT.out).2
                    rw [List.length_drop, hlen] at this
                    omega
                  have hNb : ((N : Int) == 0) = false := by rw [beq_eq_false_iff_ne]; omega
                  clear HTA hfl
                  by_cases hc15 : (c : Int) < 15
                  all_goals
                    have hn0 := (tokAt_len HT.out).1
                    have HT2 : Hid (tok s.size 0 s.data.toList = (tok m' (k + N) (s.data.toList.drop (k + N))).map ((acc ++ [⟨k, 4, ⟨((s.data.toList.drop k).take N).toArray⟩⟩]) ++ ·)) := by
                      unfold Hid
                      rw [HTK.out, HNE.out, tok_some HSP.out (by rw [← HNE.out]; exact HT.out), ← HNE.out, List.drop_drop]
                      cases tok m' (k + N) (s.data.toList.drop (k + N)) <;> simp [Except.map]
                    obtain ⟨X, hX⟩ : ∃ X : ByteArray, X = ⟨((s.data.toList.drop k).take N).toArray⟩ := ⟨_, rfl⟩
                    rw [← hX] at HT2
                    have hlei : ¬ (s.size : Int) < (k : Int) + (N : Int) := by omega
                    have hsl : ∀ W : World, (Instr.slice 9 (.string s) (some (.int .i64 k)) (some (.int .i64 ((k : Int) + (N : Int)))) none).run Tryz.prog W = .ok (.string X) W := fun W => by
                      rw [hX]; exact slice_mid s k N (by omega) W
                    have hOw := HOw.out.later (w' := w2.drewN d) (Below.drewN' (Below.refl _ _))
                    have HO3 : Hid (OD (w2.drewN d) w.heap.size u4 acc) := xownLater HO2.out (Below.drewN' (Below.refl _ _))
                    have HB3 : Hid (Below w.heap.size w (w2.drewN d)) := Below.drewN' HBw.out
                    have hs3 : (w2.drewN d).heap.size = w2.heap.size := rfl
                    clear hX HTK HT HOw HO2 HBw
                    generalize w2.drewN d = W at *
                    rw [← hs3] at hN2 hN3
                    clear hs3
                    have c0 : W.cell? ⟨N0, 0, none⟩ = some (.int .u8 111) := by rw [hOw.cell 0 (by decide)]; rfl
                    have c1 : W.cell? ⟨N0, 1, none⟩ = some (.string ⟨#[]⟩) := by rw [hOw.cell 1 (by decide)]; rfl
                    have c2 : W.cell? ⟨N0, 2, none⟩ = some (.int .i64 k) := by rw [hOw.cell 2 (by decide)]; rfl
                    have f1 := hOw.soft 1
                    have HG1 : Hid (W.grownBy (W.setCell ⟨N0, 1, none⟩ (.string X)) (some N0)) := xgSet _ _ _
                    have HO1 : Hid (OD (W.setCell ⟨N0, 1, none⟩ (.string X)) w.heap.size u4 acc) := xownGrown HO3.out HG1.out (fun g hg e => by have := (HU.out g hg).2; simp at e; omega)
                    have hz9 : (W.setCell ⟨N0, 1, none⟩ (.string X)).heap.size = W.heap.size := by simp
                    clear hOw
                    go_wp2_with (first
                      | (at_builtin; (refine wpList_append_own_at _ rfl _ _ 98 rfl w.heap.size 106 i0 (.agg #[.int .u8 0, .string ⟨#[]⟩, .int .i64 0]) 3 32 Tryz.underlying98 hi0 hz0 hz1 hz2 rfl (by decide) _ acc.length (acc.flatMap cellsD) rfl (World.ownsRow.alloc HO1.out _) ⟨W.heap.size, 0, none⟩ 1 1 (cellsD ⟨k, 4, X⟩) rfl rfl ?c1 ?c2 ?c3 ?c4 ?c5 ?_)))
                    case c1 =>
                      intro j u hj
                      match j, hj with
                      | 0, hj => simp [cellsD] at hj; subst hj; simp [Addr.add, srt]
                      | 1, hj => simp [cellsD] at hj; subst hj; simp [Addr.add]
                      | 2, hj => simp [cellsD] at hj; subst hj; simp [Addr.add]
                    case c2 => intro u hu; simp [cellsD] at hu; rcases hu with rfl | rfl | rfl <;> rfl
                    case c3 => unfold maxLen; omega
                    case c4 => omega
                    case c5 => have := HB3.out.size; simp; omega
                    · intro v' w5 hown' hgrow _ hat
                      have hne : ∀ g, u4.ownBlock = some g → w.heap.size ≤ g := fun g hg => (HU.out g hg).1
                      have hb4 : Below w.heap.size w (W.setCell ⟨N0, 1, none⟩ (.string X)) := xbNew HB3.out HG1.out (fun n hn => by cases hn; exact hN1)
                      have HB5 : Hid (Below w.heap.size w w5) := xbNew (hb4.alloc hb4.size _) hgrow hne
                      have HO5 : Hid (OD w5 w.heap.size v' (acc ++ [⟨k, 4, X⟩])) := by
                        unfold Hid OD
                        rw [List.length_append, List.flatMap_append]
                        simpa using hown'
                      clear hown' hgrow hat hne hb4 HB3 HO1 HO3 HU HSC HG1
                      go_wp2
                      refine ⟨⟨k + N, m', acc ++ [⟨k, 4, X⟩], by omega, by go_num, by omega, HT2.out, HO5.out, HB5.out, by simp; omega⟩, by simp [intOf]; omega⟩

            · rw [hc39b] at hc39i
              have HC39 : Hid (s[k] = 39) := by rw [Hid]; exact beq_iff_eq.1 hc39b
              clear hc39b
              go_wp2_with (first
                                | (go_at_call 51; refine (HL.out _ _).mono ?_; rintro e w1 ⟨rfl, h⟩; (have := h.symm); subst this; rw [hl])
                                | (go_at_call 52; refine (HD.out _ _).mono ?_; rintro e w1 ⟨rfl, h⟩; (have := h.symm); subst this; rw [hd]))
              have HTA : Hid (tokAt (s.data.toList.drop k) = ((s.data.toList.drop (k + 1)).findIdx? (· == 39)).map (fun i => (3, i + 2))) := by
                rw [Hid, HNE.out, tokAt]
                rw [HC39.out, if_neg (by decide), if_neg (by decide), if_pos rfl]
              clear hl hd HNE0 HC39
              go_loopw [10] (fun e w' => ∃ j : Nat, 1 ≤ j ∧ k + j ≤ s.size ∧ e = .int .i64 ((k + j : Nat) : Int) ∧ (s.data.toList.drop (k + 1)).findIdx? (· == 39) = ((s.data.toList.drop (k + j)).findIdx? (· == 39)).map (· + (j - 1)) ∧ w' = wr.alloc (.cells #[.int .u8 39, .string ⟨#[]⟩, .int .i64 k] 106)) (fun e _ => s.size - (intOf e).toNat)
              case atStart => exact ⟨1, by omega, by omega, by go_num, by simp, rfl⟩
              case round =>
                obtain ⟨j, hj1, hle, rfl, hwl, rfl⟩ := hrel
                have HWL := hidMk hwl
                clear hwl
                rw [show ((k + j : Nat) : Int) = (k : Int) + (j : Int) by omega]
                by_cases hjl : k + j < s.size
                · have hjli : (k : Int) + (j : Int) < (s.size : Int) := by omega
                  have hix : ((k : Int) + (j : Int)).toNat = k + j := by omega
                  have hej : s.data.toList[k + j]'(by omega) = s[k + j] := by simp [ByteArray.getElem_eq_getElem_data]
                  have hdr : s.data.toList.drop (k + j) = s[k + j] :: s.data.toList.drop (k + j + 1) := by rw [List.drop_eq_getElem_cons (by omega), hej]
                  have hq := b39 s[k + j]
                  cases hj39 : (s[k + j] == 39)
                  · rw [hj39] at hq
                    have hq2 : ((s[k + j].toNat : Int) != 39) = true := by rw [bne, hq]; rfl
                    have HW2 : Hid ((s.data.toList.drop (k + 1)).findIdx? (· == 39) = ((s.data.toList.drop (k + (j + 1))).findIdx? (· == 39)).map (· + (j + 1 - 1))) := by
                      rw [Hid, HWL.out, hdr, List.findIdx?_cons, hj39, show k + (j + 1) = k + j + 1 by omega]
                      generalize List.findIdx? (· == 39) (s.data.toList.drop (k + j + 1)) = fi
                      cases fi with
                      | none => rfl
                      | some i =>
                        simp
                        omega
                    clear HTA HWL hdr hej hj39
                    go_wp2_with fail
                    refine ⟨⟨j + 1, by omega, by omega, by go_num, HW2.out, by first | rfl | trivial⟩, by simp [intOf]; omega⟩
                  · rw [hj39] at hq
                    have hq2 : ((s[k + j].toNat : Int) != 39) = false := by rw [bne, hq]; rfl
                    have HT : Hid (tokAt (s.data.toList.drop k) = some (3, j + 1)) := by
                      rw [Hid, HTA.out, HWL.out, hdr, List.findIdx?_cons, hj39]
                      simp
                      omega
                    have hle2 : k + (j + 1) ≤ s.size := by omega
                    clear HTA HWL hdr hej hj39 hle
                    have hn0 := (tokAt_len HT.out).1
                    have HT2 : Hid (tok s.size 0 s.data.toList = (tok m' (k + (j + 1)) (s.data.toList.drop (k + (j + 1)))).map ((acc ++ [⟨k, 3, ⟨((s.data.toList.drop k).take (j + 1)).toArray⟩⟩]) ++ ·)) := by
                      unfold Hid
                      rw [HTK.out, HNE.out, tok_some HSP.out (by rw [← HNE.out]; exact HT.out), ← HNE.out, List.drop_drop]
                      cases tok m' (k + (j + 1)) (s.data.toList.drop (k + (j + 1))) <;> simp [Except.map]
                    obtain ⟨X, hX⟩ : ∃ X : ByteArray, X = ⟨((s.data.toList.drop k).take (j + 1)).toArray⟩ := ⟨_, rfl⟩
                    rw [← hX] at HT2
                    have hlei : ¬ (s.size : Int) < (k : Int) + (j : Int) + 1 := by omega
                    have hsl : ∀ W : World, (Instr.slice 9 (.string s) (some (.int .i64 k)) (some (.int .i64 ((k : Int) + (j : Int) + 1))) none).run Tryz.prog W = .ok (.string X) W := fun W => by
                      rw [hX, show (k : Int) + (j : Int) + 1 = (k : Int) + (((j + 1) : Nat) : Int) by omega]; exact slice_mid s k (j + 1) (by omega) W
                    have hO1 := World.ownsRow.alloc HO.out (.cells #[.int .u8 39, .string X, .int .i64 k] 106)
                    have HO1 : Hid (OD (wr.alloc (.cells #[.int .u8 39, .string X, .int .i64 k] 106)) w.heap.size u4 acc) := hO1
                    clear hX HTK HT hO1
                    go_wp2_with (first
                      | (at_builtin; refine wpList_append_own_at _ rfl _ _ 98 rfl w.heap.size 106 i0 (.agg #[.int .u8 0, .string ⟨#[]⟩, .int .i64 0]) 3 32 Tryz.underlying98 hi0 hz0 hz1 hz2 rfl (by decide) _ acc.length (acc.flatMap cellsD) rfl (World.ownsRow.alloc HO1.out _) ⟨wr.heap.size + 1, 0, none⟩ 1 1 (cellsD ⟨k, 3, X⟩) rfl rfl ?c1 ?c2 ?c3 ?c4 ?c5 ?_))
                    case c1 =>
                      intro j u hj
                      match j, hj with
                      | 0, hj => simp [cellsD] at hj; subst hj; simp [Addr.add, srt]
                      | 1, hj => simp [cellsD] at hj; subst hj; simp [Addr.add]
                      | 2, hj => simp [cellsD] at hj; subst hj; simp [Addr.add]
                    case c2 => intro u hu; simp [cellsD] at hu; rcases hu with rfl | rfl | rfl <;> rfl
                    case c3 => unfold maxLen; omega
                    case c4 => omega
                    case c5 => have := HB.out.size; simp; omega
                    · intro v' w5 hown' hgrow _ hat
                      have hne : ∀ g, u4.ownBlock = some g → w.heap.size ≤ g := fun g hg => (World.ownsRow.lt HO.out g hg).1
                      have hb2 : Below wr.heap.size wr ((wr.alloc (.cells #[.int .u8 39, .string X, .int .i64 k] 106)).alloc (.cells #[.int .u8 39, .string X, .int .i64 k] 106)) := (xbel1 _ _).alloc (by simp) _
                      have HB5 : Hid (Below w.heap.size w w5) := xbNew (HB.out.trans (hb2.mono HB.out.size)) hgrow hne
                      have HO5 : Hid (OD w5 w.heap.size v' (acc ++ [⟨k, 3, X⟩])) := by
                        unfold Hid OD
                        rw [List.length_append, List.flatMap_append]
                        simpa using hown'
                      clear hown' hgrow hat hne hb2 HB HO1 HO
                      go_wp2
                      refine ⟨⟨k + (j + 1), m', acc ++ [⟨k, 3, X⟩], by omega, by go_num, by omega, HT2.out, HO5.out, HB5.out, by simp; omega⟩, by simp [intOf]; omega⟩

                · have hjli : ¬ (k : Int) + (j : Int) < (s.size : Int) := by omega
                  have HTN : Hid (tokAt (s.data.toList.drop k) = none) := by
                    rw [Hid, HTA.out, HWL.out, List.drop_eq_nil_of_le (by omega)]; rfl
                  have hT : tok s.size 0 s.data.toList = .error k := by rw [HTK.out, HNE.out, tok_none HSP.out (by rw [← HNE.out]; exact HTN.out)]; rfl
                  have FIN : Hid (ToksD w s (.returned (.tuple #[.slice none 0 0, .int .i64 k])) (wr.alloc (.cells #[.int .u8 39, .string ⟨#[]⟩, .int .i64 k] 106))) := by
                    unfold Hid ToksD
                    rw [hT]
                    exact ⟨HB.out.trans ((xbel1 _ _).mono HB.out.size), rfl⟩
                  have hgt : (s.size : Int) < (k : Int) + (j : Int) + 1 := by omega
                  clear HTA HWL HTN HTK hT HB HO
                  go_wp2_with fail
                  go_ret2
                  exact FIN.out


          · go_wp2_with (first
              | (go_at_call 51; refine (HL.out _ _).mono ?_; rintro e w1 ⟨rfl, h⟩; (have := h.symm); subst this; rw [hl])
              | (go_at_call 52; refine (HD.out _ _).mono ?_; rintro e w1 ⟨rfl, h⟩; (have := h.symm); subst this; rw [hd]))
            have HTA : Hid (tokAt (s.data.toList.drop k) = some (1, wLen (s.data.toList.drop k))) := by
              rw [Hid, HNE.out, tokAt]
              simp [hd, isWb_lt, hl]
            have HW1 : Hid (wLen (s.data.toList.drop k) = 1 + wLen ((s.data.toList.drop k).drop 1)) := by
              rw [Hid, HNE.out]
              conv => lhs; rw [wLen, if_pos (by rw [isWb_lt, hl, hd]; rfl)]
              rw [List.drop_one, List.tail_cons]; omega
            clear hl hd HNE0
            go_loopw [10] (fun e w' => ∃ j : Nat, 1 ≤ j ∧ k + j ≤ s.size ∧ e = .int .i64 ((k + j : Nat) : Int) ∧ wLen (s.data.toList.drop k) = j + wLen ((s.data.toList.drop k).drop j) ∧ w' = wr.alloc (.cells #[.int .u8 110, .string ⟨#[]⟩, .int .i64 k] 106)) (fun e _ => s.size - (intOf e).toNat)
            case atStart => exact ⟨1, by omega, by omega, by go_num, HW1.out, rfl⟩
            case round =>
              obtain ⟨j, hj1, hle, rfl, hwl, rfl⟩ := hrel
              have HWL := hidMk hwl
              clear hwl HW1
              rw [show ((k + j : Nat) : Int) = (k : Int) + (j : Int) by omega]
              by_cases hjl : k + j < s.size
              · have hjli : (k : Int) + (j : Int) < (s.size : Int) := by omega
                have hj2 : j < (s.data.toList.drop k).length := by rw [List.length_drop]; omega
                have hej : (s.data.toList.drop k)[j] = s[k + j] := by simp [ByteArray.getElem_eq_getElem_data]
                have hix : ((k : Int) + (j : Int)).toNat = k + j := by omega
                cases hdj : isDg s[k + j] <;> cases hlj : isLt s[k + j]
                · have HT : Hid (tokAt (s.data.toList.drop k) = some (1, j)) := by
                    have := wLen_off hj2 (by rw [hej, isWb_lt, hdj, hlj]; rfl) HWL.out
                    rw [Hid, HTA.out, this]
                  clear HTA HWL
                  have hn0 := (tokAt_len HT.out).1
                  have HT2 : Hid (tok s.size 0 s.data.toList = (tok m' (k + j) (s.data.toList.drop (k + j))).map ((acc ++ [⟨k, 1, ⟨((s.data.toList.drop k).take j).toArray⟩⟩]) ++ ·)) := by
                    unfold Hid
                    rw [HTK.out, HNE.out, tok_some HSP.out (by rw [← HNE.out]; exact HT.out), ← HNE.out, List.drop_drop]
                    cases tok m' (k + j) (s.data.toList.drop (k + j)) <;> simp [Except.map]
                  obtain ⟨X, hX⟩ : ∃ X : ByteArray, X = ⟨((s.data.toList.drop k).take j).toArray⟩ := ⟨_, rfl⟩
                  rw [← hX] at HT2
                  have hlei : ¬ (s.size : Int) < (k : Int) + (j : Int) := by omega
                  have hsl : ∀ W : World, (Instr.slice 9 (.string s) (some (.int .i64 k)) (some (.int .i64 ((k : Int) + (j : Int)))) none).run Tryz.prog W = .ok (.string X) W := fun W => by
                    rw [hX, show (k : Int) + (j : Int) = (k : Int) + ((j : Nat) : Int) by omega]; exact slice_mid s k j (by omega) W
                  have hO1 := World.ownsRow.alloc HO.out (.cells #[.int .u8 110, .string X, .int .i64 k] 106)
                  have HO1 : Hid (OD (wr.alloc (.cells #[.int .u8 110, .string X, .int .i64 k] 106)) w.heap.size u4 acc) := hO1
                  clear hX HTK HT hO1
                  go_wp2_with (first
                    | (at_builtin; refine wpList_append_own_at _ rfl _ _ 98 rfl w.heap.size 106 i0 (.agg #[.int .u8 0, .string ⟨#[]⟩, .int .i64 0]) 3 32 Tryz.underlying98 hi0 hz0 hz1 hz2 rfl (by decide) _ acc.length (acc.flatMap cellsD) rfl (World.ownsRow.alloc HO1.out _) ⟨wr.heap.size + 1, 0, none⟩ 1 1 (cellsD ⟨k, 1, X⟩) rfl rfl ?c1 ?c2 ?c3 ?c4 ?c5 ?_)
                                | (go_at_call 51; refine (HL.out _ _).mono ?_; rintro e w1 ⟨rfl, h⟩; (have := h.symm); subst this; rw [hlj])
                                | (go_at_call 52; refine (HD.out _ _).mono ?_; rintro e w1 ⟨rfl, h⟩; (have := h.symm); subst this; rw [hdj]))
                  case c1 =>
                    intro j u hj
                    match j, hj with
                    | 0, hj => simp [cellsD] at hj; subst hj; simp [Addr.add, srt]
                    | 1, hj => simp [cellsD] at hj; subst hj; simp [Addr.add]
                    | 2, hj => simp [cellsD] at hj; subst hj; simp [Addr.add]
                  case c2 => intro u hu; simp [cellsD] at hu; rcases hu with rfl | rfl | rfl <;> rfl
                  case c3 => unfold maxLen; omega
                  case c4 => omega
                  case c5 => have := HB.out.size; simp; omega
                  · intro v' w5 hown' hgrow _ hat
                    have hne : ∀ g, u4.ownBlock = some g → w.heap.size ≤ g := fun g hg => (World.ownsRow.lt HO.out g hg).1
                    have hb2 : Below wr.heap.size wr ((wr.alloc (.cells #[.int .u8 110, .string X, .int .i64 k] 106)).alloc (.cells #[.int .u8 110, .string X, .int .i64 k] 106)) := (xbel1 _ _).alloc (by simp) _
                    have HB5 : Hid (Below w.heap.size w w5) := xbNew (HB.out.trans (hb2.mono HB.out.size)) hgrow hne
                    have HO5 : Hid (OD w5 w.heap.size v' (acc ++ [⟨k, 1, X⟩])) := by
                      unfold Hid OD
                      rw [List.length_append, List.flatMap_append]
                      simpa using hown'
                    clear hown' hgrow hat hne hb2 HB HO1 HO
                    go_wp2
                    refine ⟨⟨k + j, m', acc ++ [⟨k, 1, X⟩], by omega, by go_num, by omega, HT2.out, HO5.out, HB5.out, by simp; omega⟩, by simp [intOf]; omega⟩
                all_goals
                  have HW2 : Hid (wLen (s.data.toList.drop k) = (j + 1) + wLen ((s.data.toList.drop k).drop (j + 1))) := wLen_on hj2 (by rw [hej, isWb_lt, hdj, hlj]; rfl) HWL.out
                  clear HTA HWL
                  go_wp2_with (first
                    | (go_at_call 51; refine (HL.out _ _).mono ?_; rintro e w1 ⟨rfl, h⟩; (have := h.symm); subst this; rw [hlj])
                    | (go_at_call 52; refine (HD.out _ _).mono ?_; rintro e w1 ⟨rfl, h⟩; (have := h.symm); subst this; rw [hdj]))
                  refine ⟨⟨j + 1, by omega, by omega, by go_num, HW2.out, by first | rfl | trivial⟩, by simp [intOf]; omega⟩
              · have hjli : ¬ (k : Int) + (j : Int) < (s.size : Int) := by omega
                have HT : Hid (tokAt (s.data.toList.drop k) = some (1, j)) := by
                  have := HWL.out
                  rw [List.drop_eq_nil_of_le (show (s.data.toList.drop k).length ≤ j by rw [List.length_drop]; omega)] at this
                  rw [Hid, HTA.out, this]; rfl
                clear HTA HWL
                have hn0 := (tokAt_len HT.out).1
                have HT2 : Hid (tok s.size 0 s.data.toList = (tok m' (k + j) (s.data.toList.drop (k + j))).map ((acc ++ [⟨k, 1, ⟨((s.data.toList.drop k).take j).toArray⟩⟩]) ++ ·)) := by
                  unfold Hid
                  rw [HTK.out, HNE.out, tok_some HSP.out (by rw [← HNE.out]; exact HT.out), ← HNE.out, List.drop_drop]
                  cases tok m' (k + j) (s.data.toList.drop (k + j)) <;> simp [Except.map]
                obtain ⟨X, hX⟩ : ∃ X : ByteArray, X = ⟨((s.data.toList.drop k).take j).toArray⟩ := ⟨_, rfl⟩
                rw [← hX] at HT2
                have hlei : ¬ (s.size : Int) < (k : Int) + (j : Int) := by omega
                have hsl : ∀ W : World, (Instr.slice 9 (.string s) (some (.int .i64 k)) (some (.int .i64 ((k : Int) + (j : Int)))) none).run Tryz.prog W = .ok (.string X) W := fun W => by
                  rw [hX, show (k : Int) + (j : Int) = (k : Int) + ((j : Nat) : Int) by omega]; exact slice_mid s k j (by omega) W
                have hO1 := World.ownsRow.alloc HO.out (.cells #[.int .u8 110, .string X, .int .i64 k] 106)
                have HO1 : Hid (OD (wr.alloc (.cells #[.int .u8 110, .string X, .int .i64 k] 106)) w.heap.size u4 acc) := hO1
                clear hX HTK HT hO1
                go_wp2_with (first
                  | (at_builtin; refine wpList_append_own_at _ rfl _ _ 98 rfl w.heap.size 106 i0 (.agg #[.int .u8 0, .string ⟨#[]⟩, .int .i64 0]) 3 32 Tryz.underlying98 hi0 hz0 hz1 hz2 rfl (by decide) _ acc.length (acc.flatMap cellsD) rfl (World.ownsRow.alloc HO1.out _) ⟨wr.heap.size + 1, 0, none⟩ 1 1 (cellsD ⟨k, 1, X⟩) rfl rfl ?c1 ?c2 ?c3 ?c4 ?c5 ?_))
                case c1 =>
                  intro j u hj
                  match j, hj with
                  | 0, hj => simp [cellsD] at hj; subst hj; simp [Addr.add, srt]
                  | 1, hj => simp [cellsD] at hj; subst hj; simp [Addr.add]
                  | 2, hj => simp [cellsD] at hj; subst hj; simp [Addr.add]
                case c2 => intro u hu; simp [cellsD] at hu; rcases hu with rfl | rfl | rfl <;> rfl
                case c3 => unfold maxLen; omega
                case c4 => omega
                case c5 => have := HB.out.size; simp; omega
                · intro v' w5 hown' hgrow _ hat
                  have hne : ∀ g, u4.ownBlock = some g → w.heap.size ≤ g := fun g hg => (World.ownsRow.lt HO.out g hg).1
                  have hb2 : Below wr.heap.size wr ((wr.alloc (.cells #[.int .u8 110, .string X, .int .i64 k] 106)).alloc (.cells #[.int .u8 110, .string X, .int .i64 k] 106)) := (xbel1 _ _).alloc (by simp) _
                  have HB5 : Hid (Below w.heap.size w w5) := xbNew (HB.out.trans (hb2.mono HB.out.size)) hgrow hne
                  have HO5 : Hid (OD w5 w.heap.size v' (acc ++ [⟨k, 1, X⟩])) := by
                    unfold Hid OD
                    rw [List.length_append, List.flatMap_append]
                    simpa using hown'
                  clear hown' hgrow hat hne hb2 HB HO1 HO
                  go_wp2
                  refine ⟨⟨k + j, m', acc ++ [⟨k, 1, X⟩], by omega, by go_num, by omega, HT2.out, HO5.out, HB5.out, by simp; omega⟩, by simp [intOf]; omega⟩

        · have hl : isLt s[k] = false := isLt_dg _ hd
          go_wp2_with (first
            | (go_at_call 51; refine (HL.out _ _).mono ?_; rintro e w1 ⟨rfl, h⟩; (have := h.symm); subst this; rw [hl])
            | (go_at_call 52; refine (HD.out _ _).mono ?_; rintro e w1 ⟨rfl, h⟩; (have := h.symm); subst this; rw [hd]))
          have HTA : Hid (tokAt (s.data.toList.drop k) = some (2, wLen (s.data.toList.drop k))) := by
            rw [Hid, HNE.out, tokAt]
            simp [hd, isWb_lt, hl]
          have HW1 : Hid (wLen (s.data.toList.drop k) = 1 + wLen ((s.data.toList.drop k).drop 1)) := by
            rw [Hid, HNE.out]
            conv => lhs; rw [wLen, if_pos (by rw [isWb_lt, hl, hd]; rfl)]
            rw [List.drop_one, List.tail_cons]; omega
          clear hl hd HNE0
          go_loopw [10] (fun e w' => ∃ j : Nat, 1 ≤ j ∧ k + j ≤ s.size ∧ e = .int .i64 ((k + j : Nat) : Int) ∧ wLen (s.data.toList.drop k) = j + wLen ((s.data.toList.drop k).drop j) ∧ w' = wr.alloc (.cells #[.int .u8 48, .string ⟨#[]⟩, .int .i64 k] 106)) (fun e _ => s.size - (intOf e).toNat)
          case atStart => exact ⟨1, by omega, by omega, by go_num, HW1.out, rfl⟩
          case round =>
            obtain ⟨j, hj1, hle, rfl, hwl, rfl⟩ := hrel
            have HWL := hidMk hwl
            clear hwl HW1
            rw [show ((k + j : Nat) : Int) = (k : Int) + (j : Int) by omega]
            by_cases hjl : k + j < s.size
            · have hjli : (k : Int) + (j : Int) < (s.size : Int) := by omega
              have hj2 : j < (s.data.toList.drop k).length := by rw [List.length_drop]; omega
              have hej : (s.data.toList.drop k)[j] = s[k + j] := by simp [ByteArray.getElem_eq_getElem_data]
              have hix : ((k : Int) + (j : Int)).toNat = k + j := by omega
              cases hdj : isDg s[k + j] <;> cases hlj : isLt s[k + j]
              · have HT : Hid (tokAt (s.data.toList.drop k) = some (2, j)) := by
                  have := wLen_off hj2 (by rw [hej, isWb_lt, hdj, hlj]; rfl) HWL.out
                  rw [Hid, HTA.out, this]
                clear HTA HWL
                have hn0 := (tokAt_len HT.out).1
                have HT2 : Hid (tok s.size 0 s.data.toList = (tok m' (k + j) (s.data.toList.drop (k + j))).map ((acc ++ [⟨k, 2, ⟨((s.data.toList.drop k).take j).toArray⟩⟩]) ++ ·)) := by
                  unfold Hid
                  rw [HTK.out, HNE.out, tok_some HSP.out (by rw [← HNE.out]; exact HT.out), ← HNE.out, List.drop_drop]
                  cases tok m' (k + j) (s.data.toList.drop (k + j)) <;> simp [Except.map]
                obtain ⟨X, hX⟩ : ∃ X : ByteArray, X = ⟨((s.data.toList.drop k).take j).toArray⟩ := ⟨_, rfl⟩
                rw [← hX] at HT2
                have hlei : ¬ (s.size : Int) < (k : Int) + (j : Int) := by omega
                have hsl : ∀ W : World, (Instr.slice 9 (.string s) (some (.int .i64 k)) (some (.int .i64 ((k : Int) + (j : Int)))) none).run Tryz.prog W = .ok (.string X) W := fun W => by
                  rw [hX, show (k : Int) + (j : Int) = (k : Int) + ((j : Nat) : Int) by omega]; exact slice_mid s k j (by omega) W
                have hO1 := World.ownsRow.alloc HO.out (.cells #[.int .u8 48, .string X, .int .i64 k] 106)
                have HO1 : Hid (OD (wr.alloc (.cells #[.int .u8 48, .string X, .int .i64 k] 106)) w.heap.size u4 acc) := hO1
                clear hX HTK HT hO1
                go_wp2_with (first
                  | (at_builtin; refine wpList_append_own_at _ rfl _ _ 98 rfl w.heap.size 106 i0 (.agg #[.int .u8 0, .string ⟨#[]⟩, .int .i64 0]) 3 32 Tryz.underlying98 hi0 hz0 hz1 hz2 rfl (by decide) _ acc.length (acc.flatMap cellsD) rfl (World.ownsRow.alloc HO1.out _) ⟨wr.heap.size + 1, 0, none⟩ 1 1 (cellsD ⟨k, 2, X⟩) rfl rfl ?c1 ?c2 ?c3 ?c4 ?c5 ?_)
                                | (go_at_call 51; refine (HL.out _ _).mono ?_; rintro e w1 ⟨rfl, h⟩; (have := h.symm); subst this; rw [hlj])
                                | (go_at_call 52; refine (HD.out _ _).mono ?_; rintro e w1 ⟨rfl, h⟩; (have := h.symm); subst this; rw [hdj]))
                case c1 =>
                  intro j u hj
                  match j, hj with
                  | 0, hj => simp [cellsD] at hj; subst hj; simp [Addr.add, srt]
                  | 1, hj => simp [cellsD] at hj; subst hj; simp [Addr.add]
                  | 2, hj => simp [cellsD] at hj; subst hj; simp [Addr.add]
                case c2 => intro u hu; simp [cellsD] at hu; rcases hu with rfl | rfl | rfl <;> rfl
                case c3 => unfold maxLen; omega
                case c4 => omega
                case c5 => have := HB.out.size; simp; omega
                · intro v' w5 hown' hgrow _ hat
                  have hne : ∀ g, u4.ownBlock = some g → w.heap.size ≤ g := fun g hg => (World.ownsRow.lt HO.out g hg).1
                  have hb2 : Below wr.heap.size wr ((wr.alloc (.cells #[.int .u8 48, .string X, .int .i64 k] 106)).alloc (.cells #[.int .u8 48, .string X, .int .i64 k] 106)) := (xbel1 _ _).alloc (by simp) _
                  have HB5 : Hid (Below w.heap.size w w5) := xbNew (HB.out.trans (hb2.mono HB.out.size)) hgrow hne
                  have HO5 : Hid (OD w5 w.heap.size v' (acc ++ [⟨k, 2, X⟩])) := by
                    unfold Hid OD
                    rw [List.length_append, List.flatMap_append]
                    simpa using hown'
                  clear hown' hgrow hat hne hb2 HB HO1 HO
                  go_wp2
                  refine ⟨⟨k + j, m', acc ++ [⟨k, 2, X⟩], by omega, by go_num, by omega, HT2.out, HO5.out, HB5.out, by simp; omega⟩, by simp [intOf]; omega⟩
              all_goals
                have HW2 : Hid (wLen (s.data.toList.drop k) = (j + 1) + wLen ((s.data.toList.drop k).drop (j + 1))) := wLen_on hj2 (by rw [hej, isWb_lt, hdj, hlj]; rfl) HWL.out
                clear HTA HWL
                go_wp2_with (first
                  | (go_at_call 51; refine (HL.out _ _).mono ?_; rintro e w1 ⟨rfl, h⟩; (have := h.symm); subst this; rw [hlj])
                  | (go_at_call 52; refine (HD.out _ _).mono ?_; rintro e w1 ⟨rfl, h⟩; (have := h.symm); subst this; rw [hdj]))
                refine ⟨⟨j + 1, by omega, by omega, by go_num, HW2.out, by first | rfl | trivial⟩, by simp [intOf]; omega⟩
            · have hjli : ¬ (k : Int) + (j : Int) < (s.size : Int) := by omega
              have HT : Hid (tokAt (s.data.toList.drop k) = some (2, j)) := by
                have := HWL.out
                rw [List.drop_eq_nil_of_le (show (s.data.toList.drop k).length ≤ j by rw [List.length_drop]; omega)] at this
                rw [Hid, HTA.out, this]; rfl
              clear HTA HWL
              have hn0 := (tokAt_len HT.out).1
              have HT2 : Hid (tok s.size 0 s.data.toList = (tok m' (k + j) (s.data.toList.drop (k + j))).map ((acc ++ [⟨k, 2, ⟨((s.data.toList.drop k).take j).toArray⟩⟩]) ++ ·)) := by
                unfold Hid
                rw [HTK.out, HNE.out, tok_some HSP.out (by rw [← HNE.out]; exact HT.out), ← HNE.out, List.drop_drop]
                cases tok m' (k + j) (s.data.toList.drop (k + j)) <;> simp [Except.map]
              obtain ⟨X, hX⟩ : ∃ X : ByteArray, X = ⟨((s.data.toList.drop k).take j).toArray⟩ := ⟨_, rfl⟩
              rw [← hX] at HT2
              have hlei : ¬ (s.size : Int) < (k : Int) + (j : Int) := by omega
              have hsl : ∀ W : World, (Instr.slice 9 (.string s) (some (.int .i64 k)) (some (.int .i64 ((k : Int) + (j : Int)))) none).run Tryz.prog W = .ok (.string X) W := fun W => by
                rw [hX, show (k : Int) + (j : Int) = (k : Int) + ((j : Nat) : Int) by omega]; exact slice_mid s k j (by omega) W
              have hO1 := World.ownsRow.alloc HO.out (.cells #[.int .u8 48, .string X, .int .i64 k] 106)
              have HO1 : Hid (OD (wr.alloc (.cells #[.int .u8 48, .string X, .int .i64 k] 106)) w.heap.size u4 acc) := hO1
              clear hX HTK HT hO1
              go_wp2_with (first
                | (at_builtin; refine wpList_append_own_at _ rfl _ _ 98 rfl w.heap.size 106 i0 (.agg #[.int .u8 0, .string ⟨#[]⟩, .int .i64 0]) 3 32 Tryz.underlying98 hi0 hz0 hz1 hz2 rfl (by decide) _ acc.length (acc.flatMap cellsD) rfl (World.ownsRow.alloc HO1.out _) ⟨wr.heap.size + 1, 0, none⟩ 1 1 (cellsD ⟨k, 2, X⟩) rfl rfl ?c1 ?c2 ?c3 ?c4 ?c5 ?_))
              case c1 =>
                intro j u hj
                match j, hj with
                | 0, hj => simp [cellsD] at hj; subst hj; simp [Addr.add, srt]
                | 1, hj => simp [cellsD] at hj; subst hj; simp [Addr.add]
                | 2, hj => simp [cellsD] at hj; subst hj; simp [Addr.add]
              case c2 => intro u hu; simp [cellsD] at hu; rcases hu with rfl | rfl | rfl <;> rfl
              case c3 => unfold maxLen; omega
              case c4 => omega
              case c5 => have := HB.out.size; simp; omega
              · intro v' w5 hown' hgrow _ hat
                have hne : ∀ g, u4.ownBlock = some g → w.heap.size ≤ g := fun g hg => (World.ownsRow.lt HO.out g hg).1
                have hb2 : Below wr.heap.size wr ((wr.alloc (.cells #[.int .u8 48, .string X, .int .i64 k] 106)).alloc (.cells #[.int .u8 48, .string X, .int .i64 k] 106)) := (xbel1 _ _).alloc (by simp) _
                have HB5 : Hid (Below w.heap.size w w5) := xbNew (HB.out.trans (hb2.mono HB.out.size)) hgrow hne
                have HO5 : Hid (OD w5 w.heap.size v' (acc ++ [⟨k, 2, X⟩])) := by
                  unfold Hid OD
                  rw [List.length_append, List.flatMap_append]
                  simpa using hown'
                clear hown' hgrow hat hne hb2 HB HO1 HO
                go_wp2
                refine ⟨⟨k + j, m', acc ++ [⟨k, 2, X⟩], by omega, by go_num, by omega, HT2.out, HO5.out, HB5.out, by simp; omega⟩, by simp [intOf]; omega⟩


      · have HT2 : Hid (tok s.size 0 s.data.toList = (tok m' (k + 1) (s.data.toList.drop (k + 1))).map (acc ++ ·)) := by rw [Hid, HTK0.out, HNE.out, tok_space hb]
        rw [hb] at hspi
        clear HTK0 HNE HNE0 hb
        cases q1 : ((s[k].toNat : Int) == 32)
        · cases q2 : ((s[k].toNat : Int) == 9)
          · have q3 : ((s[k].toNat : Int) == 10) = true := by rw [q1, q2] at hspi; simpa using hspi.symm
            clear hspi
            go_wp2
            exact ⟨⟨k + 1, m', acc, by omega, by go_num, by omega, HT2.out, HO.out, HB.out, by omega⟩, by simp [intOf]; omega⟩
          · clear hspi
            go_wp2
            exact ⟨⟨k + 1, m', acc, by omega, by go_num, by omega, HT2.out, HO.out, HB.out, by omega⟩, by simp [intOf]; omega⟩
        · clear hspi
          go_wp2
          exact ⟨⟨k + 1, m', acc, by omega, by go_num, by omega, HT2.out, HO.out, HB.out, by omega⟩, by simp [intOf]; omega⟩
    · obtain rfl : k = s.size := by omega
      have HT2 : Hid (tok s.size 0 s.data.toList = .ok acc) := by
        rw [Hid, HTK0.out, List.drop_eq_nil_of_le (by omega)]
        unfold tok
        simp [Except.map]
      clear HTK0 HSG HL HD
      go_wp2_with (first
        | (at_builtin; refine wpList_append_own_at _ rfl _ _ 98 rfl w.heap.size 106 i0 (.agg #[.int .u8 0, .string ⟨#[]⟩, .int .i64 0]) 3 32 Tryz.underlying98 hi0 hz0 hz1 hz2 rfl (by decide) _ acc.length (acc.flatMap cellsD) rfl (World.ownsRow.alloc HO.out _) ⟨wr.heap.size, 0, none⟩ 1 1 (cellsD (endT s.size)) rfl rfl ?c1 ?c2 ?c3 ?c4 ?c5 ?_))
      case c1 =>
        intro j u hj
        match j, hj with
        | 0, hj => simp [cellsD] at hj; subst hj; simp [Addr.add, srt, endT]
        | 1, hj => simp [cellsD] at hj; subst hj; simp [Addr.add, endT]
        | 2, hj => simp [cellsD] at hj; subst hj; simp [Addr.add, endT]
      case c2 => intro u hu; simp [cellsD] at hu; rcases hu with rfl | rfl | rfl <;> rfl
      case c3 => unfold maxLen; omega
      case c4 => omega
      case c5 => have := HB.out.size; simp; omega
      · intro v' w5 hown' hgrow _ hat
        have hne : ∀ g, u4.ownBlock = some g → w.heap.size ≤ g := fun g hg => (World.ownsRow.lt HO.out g hg).1
        have HB5 : Hid (Below w.heap.size w w5) := xbNew (HB.out.trans ((xbel1 _ _).mono HB.out.size)) hgrow hne
        have HO5 : Hid (OD w5 w.heap.size v' (acc ++ [endT s.size])) := by
          unfold Hid OD
          rw [List.length_append, List.flatMap_append]
          simpa using hown'
        have FIN : Hid (ToksD w s (.returned (.tuple #[v', .int .i64 (-1)])) w5) := by
          unfold Hid ToksD
          rw [HT2.out]
          exact ⟨HB5.out, v', rfl, HO5.out⟩
        clear hown' hgrow hat hne HB HO HO5 HB5
        go_wp2
        go_ret2
        exact FIN.out
end Go.Proofs.YtplaplhmjpfbjaaGreatDoor.Dc
