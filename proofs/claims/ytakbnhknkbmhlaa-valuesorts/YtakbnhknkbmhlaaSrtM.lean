import Derived.Test.YtakbnhknkbmhlaaSrtN
namespace Go.Proofs.Ytakbnhknkbmhlaa
open Go.RowKit
set_option linter.unusedVariables false
set_option maxRecDepth 100000

set_option maxHeartbeats 16000000 in
theorem sorts_walk (rs : List Rw) (a : Option Addr) (c : Nat) (w : World) (h : RLies w a rs) (hl : rs.length ≤ 4398046510976) (hv : ∀ r ∈ rs, r.vs.length ≤ 4398046510976) :
    Calls Try.prog 4 #[.slice a rs.length c] w fun e w' => e = .returned (.bool true) ∧ Below w.heap.size w w' := by
  obtain ⟨i0, hi0, hz0, hz1, hz2⟩ := info_parts info30
  have HR : Hid (RLies w a rs) := h
  have HV : Hid (∀ r ∈ rs, r.vs.length ≤ 4398046510976) := hv
  have HV' : Hid (∀ r ∈ rs, r.vs.length ≤ 4398046511104) := fun r hr => Nat.le_trans (hv r hr) (by decide)
  have hmk : ∀ W : World, (Instr.makeSlice 34 (.int .i64 ((rs.length : Int) + 70)) (.int .i64 ((rs.length : Int) + 70))).run Try.prog W = .ok (.slice (some ⟨W.heap.size, 0, none⟩) (rs.length + 70) (rs.length + 70)) (W.alloc (.cells (madeCells #[.int .i64 0, .slice none 0 0] ((rs.length + 70) * 2)) 30)) := fun W => by
    have := run_make (P := Try.prog) W 34 30 i0 (.agg #[.int .i64 0, .slice none 0 0]) Try.underlying34 hi0 hz0 .i64 .i64 ((rs.length : Int) + 70) ((rs.length : Int) + 70) (by omega) (by omega) (by rw [hz2]; omega) (by omega)
    rw [this, hz1]
    rw [show ((rs.length : Int) + 70).toNat = rs.length + 70 by omega]
    rfl
  obtain ⟨qs, hq1, hq2, hq3⟩ := h.stored
  have hql : qs.length = rs.length := by rw [← hq1, List.length_map]
  obtain ⟨ZS, hZS⟩ : ∃ ZS, ZS = (List.replicate (rs.length + 70) zq).flatMap cellsR := ⟨_, rfl⟩
  obtain ⟨CS, hCSE⟩ : ∃ CS, CS = qs.flatMap cellsR := ⟨_, rfl⟩
  have HZS : Hid (ZS = (List.replicate (rs.length + 70) zq).flatMap cellsR) := hZS
  have HCE : Hid (CS = qs.flatMap cellsR) := hCSE
  have HG : Hid ((w.alloc (.cells (madeCells #[.int .i64 0, .slice none 0 0] ((rs.length + 70) * 2)) 30)).heap[w.heap.size]? = some (.cells ZS.toArray 30 (0, 0))) := by
    rw [Hid, heap_alloc_new, hZS, ← flat_zq]
  have HQ1 : Hid (qs.map (·.r) = rs) := hq1
  have HQ2 : Hid (∀ i (hi : i < qs.length), VLies w qs[i].a qs[i].r.vs) := hq2
  have HQ3 : Hid (∀ j u, CS[j]? = some u → ∃ b off, a = some ⟨b, off, none⟩ ∧ w.cell? ⟨b, off + j, none⟩ = some u) := by rw [hCSE]; exact hq3
  have hcs : CS.length = rs.length * 2 := by rw [hCSE, len_cellsR, hql]
  have hcs' : CS.length = Nat.min rs.length (rs.length + 70) * 2 := by rw [hcs, show Nat.min rs.length (rs.length + 70) = rs.length from Nat.min_eq_left (by omega)]
  have HCS : Hid (CS.length = rs.length * 2) := hcs
  have HCS' : Hid (CS.length = Nat.min rs.length (rs.length + 70) * 2) := hcs'
  clear h hv hq1 hq2 hq3 hcs hcs' hZS hCSE
  have hn0 : (0 : Int) ≤ (rs.length : Int) := by omega
  go_enter Try.func4, Try.ntmps4
  go_wp2_with (first
    | (refine wpList_copy_k rfl _ _ 34 34 rfl 30 2 Try.underlying34 size30 w.heap.size (rs.length + 70) (rs.length + 70) a rs.length c rfl rfl ZS 30 HG.out CS HCS'.out (by decide) ?c1 ?c2 ?c3 w.heap.size w (bel1 w _) (Nat.le_refl _) ?_))
  case c1 =>
    intro hp
    have hp' : 0 < rs.length * 2 := by rw [← HCS.out]; exact hp
    obtain ⟨b, off, e, -⟩ := HQ3.out 0 _ (List.getElem?_eq_getElem hp)
    subst e
    refine ⟨_, rfl, fun j v hj => ?_⟩
    obtain ⟨b', off', e', hc⟩ := HQ3.out j v hj
    cases e'
    rw [WideShapes.add_plain]
    exact cell_later (bel1 w _) hc
  case c2 => rw [HCS.out, HZS.out, len_cellsR, List.length_replicate]; omega
  case c3 => intro u hu; rw [HCE.out] at hu; obtain ⟨q, _, hu⟩ := List.mem_flatMap.1 hu; exact one_cellsR q u hu
  intro w1 HG1 hb1
  have hG1 := HG1.out
  rw [HCS.out, HCE.out, HZS.out, flat_rep, show rs.length + 70 - rs.length = 70 by omega, ← List.flatMap_append] at hG1
  have HGA : Hid (w1.heap[w.heap.size]? = some (.cells ((qs ++ List.replicate 70 zq).flatMap cellsR).toArray 30 (0, 0))) := hG1
  have HB1 : Hid (Below w.heap.size w w1) := hb1
  have hA1 : w.heap.size < w1.heap.size := by
    rcases Nat.lt_or_ge w.heap.size w1.heap.size with h | h
    · exact h
    · rw [Array.getElem?_eq_none h] at hG1; cases hG1
  have HRA : Hid (RLies w1 (some ⟨w.heap.size, 0, none⟩) rs) := fun i hi => by
    have hi' : i < qs.length := by omega
    obtain ⟨h1, h2⟩ := block_row HGA.out i (by simp; omega)
    have e1 : (qs ++ List.replicate 70 zq)[i]'(by simp; omega) = qs[i] := List.getElem_append_left hi'
    have e2 : qs[i].r = rs[i] := by simp only [← HQ1.out, List.getElem_map]
    rw [e1] at h1 h2
    refine ⟨w.heap.size, 0, qs[i].a, qs[i].c, rfl, ?_, ?_, ?_⟩
    · rw [Nat.zero_add, ← e2]; exact h1
    · rw [Nat.zero_add, ← e2]; exact h2
    · rw [← e2]; exact (HQ2.out i hi').later HB1.out
  clear HG1 hG1 hb1 HG HCS HCS' HQ3 hmk HZS HCE
  go_wp2_with fail
  refine (sorted_any rs (some ⟨w.heap.size, 0, none⟩) (rs.length + 70) w1 HRA.out (by omega) HV'.out).mono ?_
  rintro e w2 ⟨O, ps, rfl, hD, hP, hA, hb2⟩
  have HPL : Hid (ps.length = rs.length) := by have := hP.length_eq; rwa [List.length_map] at this
  have hps : ps.length ≤ 4398046510976 := by have := HPL.out; omega
  have hps0 : (0 : Int) ≤ (ps.length : Int) := by omega
  have HD : Hid (Done w2 w1.heap.size O ps) := hD
  have HP : Hid ((ps.map (·.r)).Perm rs) := hP
  have HA : Hid (Asc (ps.map (·.r))) := hA
  have HB2 : Hid (Below w1.heap.size w1 w2) := hb2
  have hOB := World.ownsRow.lt hD.own O rfl
  have HPV : Hid (∀ q ∈ ps, q.r.vs.length ≤ 4398046510976) := fun q hq => HV.out _ (hP.subset (List.mem_map.2 ⟨q, hq, rfl⟩))
  clear hD hP hA hb2
  go_wp2_with fail
  refine (refSorted_any rs a c w2 ((HR.out.later HB1.out).later HB2.out) (by omega) HV'.out).mono ?_
  rintro e w3 ⟨a3, c3, ps3, rfl, hR3, hP3, hA3, hb3⟩
  have e3 : ps3 = ps.map (·.r) := asc_unique (hP3.trans HP.out.symm) hA3 HA.out
  subst e3
  have hb13 : Below w1.heap.size w1 w3 := HB2.out.trans (hb3.mono HB2.out.size)
  have HB13 : Hid (Below w1.heap.size w1 w3) := hb13
  have HB23 : Hid (Below w2.heap.size w2 w3) := hb3
  have hsame1 : Calls Try.prog 12 #[.slice (some ⟨O, 0, none⟩) ps.length ps.length, .slice a3 ps.length c3] w3 fun e w' => e = .returned (.bool true) ∧ Below w3.heap.size w3 w' := by
    have := sameRows_any (ps.map (·.r)) (some ⟨O, 0, none⟩) ps.length a3 c3 w3 (HD.out.rlies hb3) hR3 (by rw [List.length_map]; omega) (fun r hr => by obtain ⟨q, hq, rfl⟩ := List.mem_map.1 hr; exact Nat.le_trans (HPV.out q hq) (by decide))
    rwa [List.length_map] at this
  have HS1 : Hid (Calls Try.prog 12 #[.slice (some ⟨O, 0, none⟩) ps.length ps.length, .slice a3 ps.length c3] w3 fun e w' => e = .returned (.bool true) ∧ Below w3.heap.size w3 w') := hsame1
  rw [List.length_map]
  clear hR3 hP3 hA3 hb3 hb13 hsame1
  go_wp2_with fail
  refine Calls.mono HS1.out ?_
  rintro e w4 ⟨rfl, hb4⟩
  have HB14 : Hid (Below w1.heap.size w1 w4) := HB13.out.trans (hb4.mono HB13.out.size)
  have HB24 : Hid (Below w2.heap.size w2 w4) := HB23.out.trans (hb4.mono HB23.out.size)
  clear hb4 HS1 HB13 HB23
  go_wp2_with fail
  refine (sameRows_any rs (some ⟨w.heap.size, 0, none⟩) (rs.length + 70) a c w4 (HRA.out.later HB14.out) ((HR.out.later HB1.out).later HB14.out) (by omega) HV'.out).mono ?_
  rintro e w5 ⟨rfl, hb5⟩
  have HB15 : Hid (Below w1.heap.size w1 w5) := HB14.out.trans (hb5.mono HB14.out.size)
  have HB25 : Hid (Below w2.heap.size w2 w5) := HB24.out.trans (hb5.mono HB24.out.size)
  clear hb5 HB14 HB24
  have HAT : Hid (∀ j (hj : j < ps.length), ps[j].a = none ∨ ∃ g, ps[j].a = some ⟨g, 0, none⟩ ∧ g ≠ O ∧ g < w5.heap.size) := fun j hj => by
    rcases HD.out.at j hj with h | ⟨g, h1, h2, h3, h4⟩
    · exact .inl h
    · exact .inr ⟨g, h1, h2, Nat.lt_of_lt_of_le h4 HB25.out.size⟩
  have HNE : Hid (∀ i j (hi : i < ps.length) (hj : j < ps.length), i ≠ j → ∀ y z, ps[i].a = some y → ps[j].a = some z → y.block ≠ z.block) := HD.out.ne
  have hO5 : O < w5.heap.size := Nat.lt_of_lt_of_le hOB.2 HB25.out.size
  obtain ⟨i26, hi26, hz26, hs26, hb26⟩ := info_parts info26
  go_wp2
  go_loopw [8] (fun u w' => ∃ (i : Nat) (f : Nat → List V), i ≤ ps.length ∧ u = .int .i64 i ∧ Ph w' w1.heap.size O ps i f ∧ Below w1.heap.size w1 w' ∧ w5.heap.size ≤ w'.heap.size) (fun u _ => ps.length - (intOf u).toNat)
  case atStart => exact ⟨0, _, Nat.zero_le _, rfl, Ph.start HD.out HB25.out, HB15.out, Nat.le_refl _⟩
  case round =>
    obtain ⟨i, f, hi, rfl, hPh, hBr, hs5⟩ := hrel
    have HPh : Hid (Ph wr w1.heap.size O ps i f) := hPh
    have HBr : Hid (Below w1.heap.size w1 wr) := hBr
    clear hPh hBr
    by_cases hlt : i < ps.length
    · have hii : (i : Int) < (ps.length : Int) := by omega
      have hi0' : (0 : Int) ≤ (i : Int) := by omega
      have HPVi := HPV.out _ (List.getElem_mem hlt)
      obtain ⟨q, hq⟩ : ∃ q, q = ps[i] := ⟨_, rfl⟩
      have HQE : Hid (ps[i] = q) := hq.symm
      rw [← hq] at HPVi
      clear hq
      have hrow := HPh.out.row i hlt
      rw [HQE.out] at hrow
      obtain ⟨w6, hw6⟩ : ∃ w6, w6 = wr := ⟨_, rfl⟩
      subst hw6
      go_wp2
      go_loopw [9] (fun u w' => ∃ (n : Nat) (g : Nat → List V), n ≤ q.r.vs.length ∧ u = .int .i64 n ∧ Ph w' w1.heap.size O ps i g ∧ (∀ k (hk : k < (g i).length), k < n → (g i)[k].n = (i : Int)) ∧ Below w1.heap.size w1 w' ∧ w5.heap.size ≤ w'.heap.size) (fun u _ => q.r.vs.length - (intOf u).toNat)
      case atStart => exact ⟨0, f, Nat.zero_le _, rfl, HPh.out, (fun k hk h => absurd h (by omega)), HBr.out, hs5⟩
      case round =>
        obtain ⟨n, g, hn, rfl, hPg, hmk, hBg, hs6⟩ := hrel
        have hrow' := hPg.row i hlt
        rw [HQE.out] at hrow'
        have hlen : (g i).length = q.r.vs.length := by have := hPg.len i hlt; rwa [HQE.out] at this
        have HPg : Hid (Ph wr w1.heap.size O ps i g) := hPg
        have HMK : Hid (∀ k (hk : k < (g i).length), k < n → (g i)[k].n = (i : Int)) := hmk
        have HBg : Hid (Below w1.heap.size w1 wr) := hBg
        clear hPg hmk hBg
        by_cases hnt : n < q.r.vs.length
        · have hni : (n : Int) < (q.r.vs.length : Int) := by omega
          have hmine := HPg.out.mine i hlt (Nat.le_refl _)
          rw [HQE.out] at hmine
          obtain ⟨gb, hqa, hgO, hg5⟩ : ∃ gb, q.a = some ⟨gb, 0, none⟩ ∧ gb ≠ O ∧ gb < w5.heap.size := by
            rcases HAT.out i hlt with h | ⟨gb, h1, h2, h3⟩
            · rcases hmine.at with ⟨-, h2⟩ | ⟨g', h2, -⟩
              · rw [h2] at hlen; simp at hlen; omega
              · rw [HQE.out] at h; rw [h] at h2; cases h2
            · rw [HQE.out] at h1; exact ⟨gb, h1, h2, h3⟩
          rw [hqa] at hmine hrow'
          obtain ⟨x1, x2, x3⟩ := hmine.cells hlen.symm n (by omega)
          have y1 := hmine.soft hlen.symm (n * 3)
          have y2 := hmine.soft hlen.symm (n * 3 + 1)
          have y3 := hmine.soft hlen.symm (n * 3 + 2)
          obtain ⟨hO', hg'⟩ := hmine.set hlen.symm n (by omega) ⟨99, (i : Int), ⟨#[]⟩⟩
          have hPh' := HPg.out.put (vs := (g i).set n ⟨99, (i : Int), ⟨#[]⟩⟩) hlt hg' hgO (fun j hj hji y hy e => HNE.out j i hj hlt hji y ⟨gb, 0, none⟩ hy (by rw [HQE.out]; exact hqa) e) (by rw [HQE.out, hqa]; exact hO') (by rw [List.length_set, HQE.out]; exact hlen)
          have hB' : Below w1.heap.size w1 (((wr.setCell ⟨gb, n * 3, none⟩ (.int .i64 99)).setCell ⟨gb, n * 3 + 1, none⟩ (.int .i64 (i : Int))).setCell ⟨gb, n * 3 + 2, none⟩ (.string ⟨#[]⟩)) := HBg.out.grown hg' HBg.out.size (fun k hk => by cases hk; rcases hmine.at with ⟨h2, -⟩ | ⟨g', h2, h3, -⟩; cases h2; cases h2; exact h3)
          have HW : Hid (∃ (n' : Nat) (g' : Nat → List V), n' ≤ q.r.vs.length ∧ Value.int .i64 ((n : Int) + 1) = .int .i64 n' ∧ Ph (((wr.setCell ⟨gb, n * 3, none⟩ (.int .i64 99)).setCell ⟨gb, n * 3 + 1, none⟩ (.int .i64 (i : Int))).setCell ⟨gb, n * 3 + 2, none⟩ (.string ⟨#[]⟩)) w1.heap.size O ps i g' ∧ (∀ k (hk : k < (g' i).length), k < n' → (g' i)[k].n = (i : Int)) ∧ Below w1.heap.size w1 (((wr.setCell ⟨gb, n * 3, none⟩ (.int .i64 99)).setCell ⟨gb, n * 3 + 1, none⟩ (.int .i64 (i : Int))).setCell ⟨gb, n * 3 + 2, none⟩ (.string ⟨#[]⟩)) ∧ w5.heap.size ≤ (((wr.setCell ⟨gb, n * 3, none⟩ (.int .i64 99)).setCell ⟨gb, n * 3 + 1, none⟩ (.int .i64 (i : Int))).setCell ⟨gb, n * 3 + 2, none⟩ (.string ⟨#[]⟩)).heap.size) := by
            refine ⟨n + 1, _, by omega, by simp, hPh', fun k hk hkn => ?_, hB', Nat.le_trans hs6 hg'.size⟩
            simp only [if_true] at hk ⊢
            rw [List.getElem_set]
            by_cases e : n = k
            · rw [if_pos e]
            · rw [if_neg e]
              exact HMK.out k (by simpa using hk) (by omega)
          generalize (g i)[n] = zz at x1 x2 x3
          clear hmine hO' hg' hPh' hB'
          go_wp2
          go_roundw
          case rel => exact HW.out
          case measure => simp [intOf]; omega
        · obtain rfl : n = q.r.vs.length := by omega
          have hmine := HPg.out.mine i hlt (Nat.le_refl _)
          rw [HQE.out] at hmine
          have HOX : Hid (wr.ownsRow w1.heap.size 26 3 (.slice q.a q.r.vs.length q.c) (q.r.vs.length + 0) ((g i).flatMap cellsV ++ [])) := by
            rw [Hid, List.append_nil, Nat.add_zero, ← hlen]
            rw [← hlen] at hmine
            exact hmine
          have HPn : Hid (Ph wr w1.heap.size O ps (i + 1) g) := HPg.out.next fun v hv => by
            obtain ⟨k, hk, rfl⟩ := List.getElem_of_mem hv
            exact HMK.out k hk (by omega)
          clear hmine
          obtain ⟨w7, hw7⟩ : ∃ w7, w7 = wr := ⟨_, rfl⟩
          subst hw7
          go_wp2
          go_loopw [10, 11] (fun x u w' => ∃ (m : Nat) (ex : List Value), m ≤ 12 ∧ u = .int .i64 m ∧ w'.ownsRow w1.heap.size 26 3 x (q.r.vs.length + m) ((g i).flatMap cellsV ++ ex) ∧ (x.ownBlock = (Value.slice q.a 0 0).ownBlock ∨ ∀ k, x.ownBlock = some k → w5.heap.size ≤ k) ∧ Ph w' w1.heap.size O ps (i + 1) g ∧ Below w1.heap.size w1 w' ∧ w5.heap.size ≤ w'.heap.size) (fun _ u _ => 12 - (intOf u).toNat)
          case atStart => exact ⟨0, [], by decide, rfl, HOX.out, .inl (by cases q.a <;> rfl), HPn.out, HBg.out, hs6⟩
          case round =>
            obtain ⟨m, ex, hm, rfl, hox, hxx, hPm, hBm, hs7⟩ := hrel
            obtain ⟨ax, cx, rfl⟩ : ∃ ax cx, u10 = .slice ax (q.r.vs.length + m) cx := by
              rcases hox.2 with ⟨h1, h2⟩ | ⟨g', cap, cur, h1, -⟩
              · exact ⟨none, 0, by rw [h1, h2]⟩
              · exact ⟨_, _, h1⟩
            have hrow7 := hPm.row i hlt
            rw [HQE.out] at hrow7
            have HOx : Hid (wr.ownsRow w1.heap.size 26 3 (.slice ax (q.r.vs.length + m) cx) (q.r.vs.length + m) ((g i).flatMap cellsV ++ ex)) := hox
            have HXX : Hid ((Value.slice ax (q.r.vs.length + m) cx).ownBlock = (Value.slice q.a 0 0).ownBlock ∨ ∀ k, (Value.slice ax (q.r.vs.length + m) cx).ownBlock = some k → w5.heap.size ≤ k) := hxx
            have HPm : Hid (Ph wr w1.heap.size O ps (i + 1) g) := hPm
            have HBm : Hid (Below w1.heap.size w1 wr) := hBm
            clear hox hxx hPm hBm
            by_cases hmt : m < 12
            · have hmi : (m : Int) < 12 := by omega
              go_wp2_with (first
                | (at_builtin; refine wpList_append_keep rfl _ _ 22 rfl w1.heap.size 26 i26 (.agg #[.int .i64 0, .int .i64 0, .string ⟨#[]⟩]) 3 32 Try.underlying22 hi26 hz26 hs26 hb26 rfl (by decide) _ (q.r.vs.length + m) ((g i).flatMap cellsV ++ ex) rfl (World.ownsRow.alloc HOx.out _) ⟨wr.heap.size, 0, none⟩ 1 1 (cellsV ⟨98, 0, ⟨#[]⟩⟩) rfl rfl ?c1 ?c2 ?c3 ?c4 ?c5 ?_))
              case c1 =>
                intro j u hj
                match j, hj with
                | 0, hj => simp [cellsV] at hj; subst hj; simp [Addr.add]
                | 1, hj => simp [cellsV] at hj; subst hj; simp [Addr.add]
                | 2, hj => simp [cellsV] at hj; subst hj; simp [Addr.add]
              case c2 => exact one_cellsV _
              case c3 => unfold maxLen; omega
              case c4 => omega
              case c5 => simp; have := HBm.out.size; omega
              intro v' w8 hown' hgrow hat
              rw [← List.append_assoc] at hown'
              have hW : Below wr.heap.size wr (wr.alloc (.cells #[.int .i64 98, .int .i64 0, .string ⟨#[]⟩] 26)) := bel1 _ _
              obtain ⟨hP8, hx8⟩ := Ph.more hlt HAT.out HNE.out hO5 (HPm.out.later hW) (by rw [HQE.out]; exact HXX.out) (Nat.le_trans hs7 hW.size) hown' hgrow (by simpa using hat)
              rw [HQE.out] at hx8
              have hB8 : Below w1.heap.size w1 w8 := (HBm.out.trans (hW.mono HBm.out.size)).grown hgrow (Nat.le_trans HBm.out.size hW.size) (fun k hk => (World.ownsRow.lt HOx.out k hk).1)
              have HW : Hid (∃ (m' : Nat) (ex' : List Value), m' ≤ 12 ∧ Value.int .i64 ((m : Int) + 1) = .int .i64 m' ∧ w8.ownsRow w1.heap.size 26 3 v' (q.r.vs.length + m') ((g i).flatMap cellsV ++ ex') ∧ (v'.ownBlock = (Value.slice q.a 0 0).ownBlock ∨ ∀ k, v'.ownBlock = some k → w5.heap.size ≤ k) ∧ Ph w8 w1.heap.size O ps (i + 1) g ∧ Below w1.heap.size w1 w8 ∧ w5.heap.size ≤ w8.heap.size) :=
                ⟨m + 1, ex ++ cellsV ⟨98, 0, ⟨#[]⟩⟩, by omega, by simp, by rw [← List.append_assoc]; exact hown', hx8, hP8, hB8, Nat.le_trans hs7 (Nat.le_trans hW.size hgrow.size)⟩
              clear hown' hgrow hat hW hP8 hx8 hB8
              go_wp2
              go_roundw
              case rel => exact HW.out
              case measure => simp [intOf]; omega
            · have hm12 : m = 12 := by omega
              subst hm12
              have HW : Hid (∃ (i' : Nat) (f : Nat → List V), i' ≤ ps.length ∧ Value.int .i64 ((i : Int) + 1) = .int .i64 i' ∧ Ph wr w1.heap.size O ps i' f ∧ Below w1.heap.size w1 wr ∧ w5.heap.size ≤ wr.heap.size) := ⟨i + 1, g, by omega, by simp, HPm.out, HBm.out, hs7⟩
              go_wp2
              go_roundw
              case rel => exact HW.out
              case measure => simp [intOf]; omega
    · have hil : i = ps.length := by omega
      have q22 : ∀ (w : World) (a : Option Addr) (n c n' c' : Nat), (binOp .eql 22 (.slice a n c) (.slice none n' c')).run Try.prog w = .ok (.bool a.isNone) w := fun w a n c n' c' => Lib.run_eql_slice_nil w _ _ a n c n' c' Try.underlying22
      have HPe : Hid (Ph wr w1.heap.size O ps ps.length f) := by rw [Hid, ← hil]; exact HPh.out
      have hii : ¬ (i : Int) < (ps.length : Int) := by omega
      clear hil
      go_wp2_with fail
      refine (sameRows_any rs (some ⟨w.heap.size, 0, none⟩) (rs.length + 70) a c wr (HRA.out.later HBr.out) ((HR.out.later HB1.out).later HBr.out) (by omega) HV'.out).mono ?_
      rintro e w9 ⟨rfl, hb9⟩
      have HB9 : Hid (Below w1.heap.size w1 w9) := HBr.out.trans (hb9.mono HBr.out.size)
      have HM9 : Hid (Calls Try.prog 13 #[.slice (some ⟨O, 0, none⟩) ps.length ps.length] w9 fun e w' => e = .returned (.bool true) ∧ w' = w9) := by
        have := marked_any (nowR ps f) (some ⟨O, 0, none⟩) ps.length w9 (HPe.out.rlies hb9) HPe.out.marks (by rw [nowR_len]; omega) (HPe.out.short fun q hq => Nat.le_trans (HPV.out q hq) (by decide))
        rwa [nowR_len] at this
      have HG9 : Hid (w9.heap[w.heap.size]? = some (.cells ((qs ++ List.replicate 70 zq).flatMap cellsR).toArray 30 (0, 0))) := (HB9.out.block _ hA1).trans HGA.out
      clear hb9
      go_wp2
      go_loopw [12, 13] (fun m u w' => ∃ k : Nat, rs.length ≤ k ∧ k ≤ rs.length + 70 ∧ m = .bool true ∧ u = .int .i64 k ∧ w' = w9) (fun _ u _ => rs.length + 70 - (intOf u).toNat)
      case atStart => exact ⟨rs.length, Nat.le_refl _, by omega, rfl, rfl, rfl⟩
      case round =>
        obtain ⟨k, hk1, hk2, rfl, rfl, rfl⟩ := hrel
        have hk0 : (0 : Int) ≤ (k : Int) := by omega
        by_cases hkt : k < rs.length + 70
        · have hki : (k : Int) < (rs.length : Int) + 70 := by omega
          obtain ⟨z1, z2⟩ := block_row HG9.out k (by simp; omega)
          have ez : (qs ++ List.replicate 70 zq)[k]'(by simp; omega) = zq := by
            rw [List.getElem_append_right (by omega), List.getElem_replicate]
          rw [ez] at z1 z2
          have z1' : wr.cell? ⟨w.heap.size, k * 2, none⟩ = some (.int .i64 0) := z1
          have z2' : wr.cell? ⟨w.heap.size, k * 2 + 1, none⟩ = some (.slice none 0 0) := z2
          clear z1 z2 ez
          go_wp2
          go_roundw
          case rel => exact ⟨k + 1, by omega, by omega, rfl, by go_num, trivial⟩
          case measure => simp [intOf]; omega
        · have hki : ¬ (k : Int) < (rs.length : Int) + 70 := by omega
          go_wp2_with (first | (go_at_call 13; refine Calls.mono HM9.out ?_; rintro e w10 ⟨rfl, rfl⟩))
          go_ret
          exact ⟨rfl, HB1.out.trans (HB9.out.mono (Nat.le_of_lt hA1))⟩
end Go.Proofs.Ytakbnhknkbmhlaa
