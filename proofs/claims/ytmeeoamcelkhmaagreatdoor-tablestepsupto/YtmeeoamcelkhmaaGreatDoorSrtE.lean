import Derived.Test.YtmeeoamcelkhmaaGreatDoorSrtD
namespace Go.Proofs.YtmeeoamcelkhmaaGreatDoor
open Go.RowKit
set_option linter.unusedVariables false
set_option maxRecDepth 100000

theorem rowBefore_r (r s : Rw) (a1 : Option Addr) (c1 : Nat) (a2 : Option Addr) (c2 : Nat) (w : World) (h1 : VLies w a1 r.vs) (h2 : VLies w a2 s.vs) (m1 : r.vs.length ≤ 4398046511104) (m2 : s.vs.length ≤ 4398046511104) :
    Calls Tryz.prog 34 #[.agg #[.int .i64 r.t, .slice a1 r.vs.length c1], .agg #[.int .i64 s.t, .slice a2 s.vs.length c2]] w fun e w' => e = .returned (.bool (ltR r s)) ∧ Below w.heap.size w w' :=
  rowBefore_any r.t s.t a1 _ c1 a2 _ c2 (vat r.vs) (vat s.vs) w h1.lies h2.lies (by unfold maxLen; omega) (by unfold maxLen; omega)

/-- What the document's Sorted gives. -/
def RSPost (w : World) (rs : List Rw) (e : Ending) (w' : World) : Prop := ∃ (a : Option Addr) (c : Nat) (ps : List Rw), e = .returned (.slice a ps.length c) ∧ RLies w' a ps ∧ ps.Perm rs ∧ Asc ps ∧ Below w.heap.size w w'

set_option maxHeartbeats 8000000 in
theorem refSorted_any (rs : List Rw) (a : Option Addr) (c : Nat) (w : World) (h : RLies w a rs) (hl : rs.length ≤ 4398046511104) (hv : ∀ r ∈ rs, r.vs.length ≤ 4398046511104) :
    Calls Tryz.prog 21 #[.slice a rs.length c] w (RSPost w rs) := by
  obtain ⟨i0, hi0, hz0, hz1, hz2⟩ := info_parts info30
  have HR : Hid (RLies w a rs) := h
  have HV : Hid (∀ r ∈ rs, r.vs.length ≤ 4398046511104) := hv
  clear h hv
  go_enter Tryz.func21, Tryz.ntmps21
  go_wp2
  go_loopw [3, 4] (fun x i w' => ∃ (k : Nat) (qs : List Q), k ≤ rs.length ∧ qs.length = k ∧ i = .int .i64 k ∧ OR w' w.heap.size x qs ∧ (qs.map (·.r)).Perm (rs.take k) ∧ Asc (qs.map (·.r)) ∧ Below w.heap.size w w') (fun _ i _ => rs.length - (intOf i).toNat)
  case atStart => exact ⟨0, [], Nat.zero_le _, rfl, rfl, OR.nil _ _, by simp, List.Pairwise.nil, Below.refl _ _⟩
  case round =>
    obtain ⟨k, qs, hk, hqk, rfl, hOR, hP, hA, hb⟩ := hrel
    obtain ⟨ax, cx, rfl, hRL⟩ := hOR.form
    subst hqk
    have HOR : Hid (OR wr w.heap.size (.slice ax qs.length cx) qs) := hOR
    have HP : Hid ((qs.map (·.r)).Perm (rs.take qs.length)) := hP
    have HA : Hid (Asc (qs.map (·.r))) := hA
    have HB : Hid (Below w.heap.size w wr) := hb
    have HRL : Hid (RLies wr ax (qs.map (·.r))) := hRL
    have hsz := hb.size
    clear hOR hP hA hb hRL
    by_cases hlt : qs.length < rs.length
    · have hki : (qs.length : Int) < (rs.length : Int) := by omega
      obtain ⟨b, o, av, cv, rfl, e1, e2, e3⟩ := HR.out.later HB.out qs.length hlt
      have HV3 : Hid (VLies wr av rs[qs.length].vs) := e3
      have hvk := HV.out _ (List.getElem_mem hlt)
      have HQV : Hid (∀ q ∈ qs, q.r.vs.length ≤ 4398046511104) := fun q hq => HV.out _ (List.mem_of_mem_take (HP.out.subset (List.mem_map.2 ⟨q, hq, rfl⟩)))
      have HTK : Hid (rs.take (qs.length + 1) = rs.take qs.length ++ [rs[qs.length]]) := List.take_succ_eq_append_getElem hlt
      clear e3
      generalize hr : rs[qs.length] = r at *
      go_wp2
      obtain ⟨w0, hw0⟩ : ∃ w0, w0 = wr := ⟨_, rfl⟩
      subst hw0
      go_loopw [5] (fun u w' => ∃ j : Nat, j ≤ qs.length ∧ u = .int .i64 j ∧ (∀ i (hi : i < qs.length), j ≤ i → ltR r qs[i].r = true) ∧ Below w0.heap.size w0 w') (fun u _ => (intOf u).toNat)
      case atStart => exact ⟨qs.length, Nat.le_refl _, by simp, (fun i hi h => absurd hi (by omega)), Below.refl _ _⟩
      case round =>
        obtain ⟨j, hj, rfl, hall, hb1⟩ := hrel
        have HALL : Hid (∀ i (hi : i < qs.length), j ≤ i → ltR r qs[i].r = true) := hall
        have HBR : Hid (Below w0.heap.size w0 wr) := hb1
        clear hall hb1
        by_cases hj0 : j = 0
        · have HLOW : Hid (∀ i (hi : i < qs.length), j = i + 1 → ltR r qs[i].r = false) := fun i hi h0 => by omega
          have hjn : ¬ (0 : Int) < (j : Int) := by omega
          obtain ⟨w1, hw1⟩ : ∃ w1, w1 = wr := ⟨_, rfl⟩
          subst hw1
          have HB1 : Hid (Below w0.heap.size w0 w1) := HBR.out
          clear hj0
          have HO1 : Hid (OR w1 w.heap.size (.slice ax qs.length cx) qs) := HOR.out.later HB1.out
          have HV1 : Hid (VLies w1 av r.vs) := HV3.out.later HB1.out
          have d1 := cell_later HB1.out e1
          have d2 := cell_later HB1.out e2
          go_wp2_with fail
          refine (copy_any r.t av r.vs cv w1 HV1.out hvk).mono ?_
          rintro e w2 ⟨a', c', rfl, hOV2, hb2⟩
          have HO2 : Hid (OR w2 w.heap.size (.slice ax qs.length cx) qs) := HO1.out.later hb2
          have HB2 : Hid (Below w.heap.size w w2) := (HB.out.trans (HB1.out.mono hsz)).trans (hb2.mono (Nat.le_trans hsz HB1.out.size))
          obtain ⟨a2, c2, hx2, hVL2, hA2⟩ := hOV2.form
          cases hx2
          have HVL2 : Hid (VLies w2 a' r.vs) := hVL2
          have HA2 : Hid (∀ y, a' = some y → w1.heap.size ≤ y.block ∧ y.block < w2.heap.size) := hA2
          have hs12 := hb2.size
          have hs01 := HB1.out.size
          clear hOV2 hb2 hVL2 hA2 HV1 d1 d2
          go_wp2_with (first
            | (at_builtin; refine wpList_append_own_at _ rfl _ _ 28 rfl w.heap.size 34 i0 (.agg #[.int .i64 0, .slice none 0 0]) 2 32 Tryz.underlying28 hi0 hz0 hz1 hz2 rfl (by decide) _ qs.length (qs.flatMap cellsR) rfl ((World.ownsRow.alloc HO2.out.own _).alloc _) ⟨w2.heap.size + 1, 0, none⟩ 1 1 (cellsR ⟨r, a', c'⟩) rfl rfl ?c1 ?c2 ?c3 ?c4 ?c5 ?_))
          case c1 =>
            intro j u hj
            match j, hj with
            | 0, hj => simp [cellsR] at hj; subst hj; simp [Addr.add]
            | 1, hj => simp [cellsR] at hj; subst hj; simp [Addr.add]
          case c2 => exact one_cellsR _
          case c3 => unfold maxLen; omega
          case c4 => omega
          case c5 => simp; have := HB2.out.size; omega
          · intro v' w5 hown' hgrow _ hat
            have hb5 : Below w2.heap.size w2 ((w2.alloc (.cells #[.int .i64 r.t, .slice a' r.vs.length c'] 34)).alloc (.cells #[.int .i64 r.t, .slice a' r.vs.length c'] 34)) := bel2 _ _ _
            have hOR5 : OR w5 w.heap.size v' (qs ++ [⟨r, a', c'⟩]) := OR.more (q := ⟨r, a', c'⟩) HO1.out (HO2.out.later hb5) hown' hgrow (by simpa using hat) (Nat.le_trans hsz hs01) (HVL2.out.later hb5) (fun y hy => by have h1 := HA2.out y hy; have h2 := hb5.size; omega)
            have hx1 : ∀ gq, (Value.slice ax qs.length cx).ownBlock = some gq → gq < w2.heap.size := fun gq hg => (HO2.out.base gq hg).2
            have hOc : Own w5 w2.heap.size 34 2 [.int .i64 r.t, .slice a' r.vs.length c'] := ((Own.new w2 34 2 #[.int .i64 r.t, .slice a' r.vs.length c'] rfl).later (bel1 _ _)).grown hgrow (fun e => by have := hx1 _ e.symm; omega)
            have hB5 : Below w.heap.size w w5 := (HB2.out.trans (hb5.mono HB2.out.size)).grown hgrow (by simp; have := HB2.out.size; omega) (fun gq hg => (HO2.out.base gq hg).1)
            obtain ⟨g', cap, rfl⟩ : ∃ g' cap, v' = .slice (some ⟨g', 0, none⟩) (qs.length + 1) cap := by
              rcases hown'.2 with ⟨h1, h2⟩ | ⟨g', cap, cur, h1, -⟩
              · omega
              · exact ⟨g', cap, h1⟩
            have hgc : g' ≠ w2.heap.size := by
              rcases hat with h | h
              · intro e
                have := hx1 g' h.symm
                omega
              · simp [Value.ownBlock] at h; omega
            have HOX : Hid (OR w5 w.heap.size (.slice (some ⟨g', 0, none⟩) (qs.length + 1) cap) (qs.take qs.length ++ ⟨r, a', c'⟩ :: qs.drop qs.length)) := by
              rw [Hid, List.take_length, List.drop_length]; exact hOR5
            have HVX : Hid (VLies w5 a' r.vs) := hOR5.lies ⟨r, a', c'⟩ (by simp)
            have HAX : Hid (∀ y, a' = some y → w.heap.size ≤ y.block ∧ y.block < w5.heap.size ∧ some y.block ≠ some g') := hOR5.apart ⟨r, a', c'⟩ (by simp)
            have HOC : Hid (Own w5 w2.heap.size 34 2 [.int .i64 r.t, .slice a' r.vs.length c']) := hOc
            have HB5 : Hid (Below w.heap.size w w5) := hB5
            clear hown' hgrow hat hb5 hOR5 hx1 hOc hB5
            go_wp2
            go_loopw [8] (fun u w' => ∃ (m : Nat) (z : Q), j ≤ m ∧ m ≤ qs.length ∧ u = .int .i64 m ∧ OR w' w.heap.size (.slice (some ⟨g', 0, none⟩) (qs.length + 1) cap) (qs.take m ++ z :: qs.drop m) ∧ VLies w' a' r.vs ∧ Own w' w2.heap.size 34 2 [.int .i64 r.t, .slice a' r.vs.length c'] ∧ Below w.heap.size w w' ∧ w5.heap.size ≤ w'.heap.size) (fun u _ => (intOf u).toNat)
            case atStart => exact ⟨qs.length, ⟨r, a', c'⟩, hj, Nat.le_refl _, by go_num, HOX.out, HVX.out, HOC.out, HB5.out, Nat.le_refl _⟩
            case round =>
              obtain ⟨m, z, hjm, hmk, rfl, hO, hVX, hOC, hBm, hs5⟩ := hrel
              have hlen := ins_len qs m hmk z
              have HO : Hid (OR wr w.heap.size (.slice (some ⟨g', 0, none⟩) (qs.length + 1) cap) (qs.take m ++ z :: qs.drop m)) := hO
              have HVm : Hid (VLies wr a' r.vs) := hVX
              have HOCm : Hid (Own wr w2.heap.size 34 2 [.int .i64 r.t, .slice a' r.vs.length c']) := hOC
              have HBm : Hid (Below w.heap.size w wr) := hBm
              obtain ⟨x1, x2⟩ := hO.cells hlen.symm m (by omega)
              have y1 := hO.soft hlen.symm (m * 2)
              have y2 := hO.soft hlen.symm (m * 2 + 1)
              generalize (qs.take m ++ z :: qs.drop m)[m] = zz at x1 x2
              have hm0 : (0 : Int) ≤ (m : Int) := by omega
              have hmi : (m : Int) < (qs.length : Int) + 1 := by omega
              by_cases hmj : j < m
              · obtain ⟨i', hi'⟩ : ∃ i, m = i + 1 := ⟨m - 1, by omega⟩
                have hiq : i' < qs.length := by omega
                have hgt := ins_get qs i' hiq z
                rw [← hi'] at hgt
                obtain ⟨x3, x4⟩ := hO.cells hlen.symm i' (by omega)
                have hget : (qs.take m ++ z :: qs.drop m)[i']'(by omega) = qs[i'] := by
                  have := List.getElem?_eq_getElem (l := qs.take m ++ z :: qs.drop m) (i := i') (by omega)
                  rw [hgt] at this
                  exact (Option.some.inj this).symm
                rw [hget] at x3 x4
                have hmem : qs[i'] ∈ qs.take m ++ z :: qs.drop m := by rw [← hget]; exact List.getElem_mem _
                obtain ⟨hO', hg'⟩ := hO.set hlen.symm m (by omega) qs[i'] (hO.lies _ hmem) (hO.apart _ hmem)
                rw [ins_set qs m hmk, show qs.take m ++ qs[i'] :: qs.drop m = qs.take i' ++ qs[i'] :: qs.drop i' by rw [hi']; exact ins_step qs i' hiq] at hO'
                have hVX' := HVm.out.grown hg' (fun y hy => (HAX.out y hy).2.2)
                have hOC' := HOCm.out.grown hg' (fun e => hgc (Option.some.inj e).symm)
                have hB' := HBm.out.grown hg' HBm.out.size (fun k hk => by cases hk; exact (HO.out.base g' rfl).1)
                have hs' := Nat.le_trans hs5 hg'.size
                have hji : (j : Int) < (m : Int) := by omega
                have hzm : IntKind.i64.wrap ((m : Int) - 1) = (i' : Int) := by rw [hi']; simp [IntKind.wrap, IntKind.bits, IntKind.signed]; omega
                have hi1 : (0 : Int) ≤ (i' : Int) := by omega
                have hi2 : (i' : Int) < (qs.length : Int) + 1 := by omega
                have HI' : Hid (m = i' + 1) := hi'
                generalize hqi : qs[i'] = q' at *
                have HW : Hid (∃ (m' : Nat) (z : Q), j ≤ m' ∧ m' ≤ qs.length ∧ Value.int .i64 (i' : Int) = .int .i64 m' ∧ OR ((wr.setCell ⟨g', m * 2, none⟩ (.int .i64 q'.r.t)).setCell ⟨g', m * 2 + 1, none⟩ (.slice q'.a q'.r.vs.length q'.c)) w.heap.size (.slice (some ⟨g', 0, none⟩) (qs.length + 1) cap) (qs.take m' ++ z :: qs.drop m') ∧ VLies ((wr.setCell ⟨g', m * 2, none⟩ (.int .i64 q'.r.t)).setCell ⟨g', m * 2 + 1, none⟩ (.slice q'.a q'.r.vs.length q'.c)) a' r.vs ∧ Own ((wr.setCell ⟨g', m * 2, none⟩ (.int .i64 q'.r.t)).setCell ⟨g', m * 2 + 1, none⟩ (.slice q'.a q'.r.vs.length q'.c)) w2.heap.size 34 2 [.int .i64 r.t, .slice a' r.vs.length c'] ∧ Below w.heap.size w ((wr.setCell ⟨g', m * 2, none⟩ (.int .i64 q'.r.t)).setCell ⟨g', m * 2 + 1, none⟩ (.slice q'.a q'.r.vs.length q'.c)) ∧ w5.heap.size ≤ ((wr.setCell ⟨g', m * 2, none⟩ (.int .i64 q'.r.t)).setCell ⟨g', m * 2 + 1, none⟩ (.slice q'.a q'.r.vs.length q'.c)).heap.size) :=
                  ⟨i', q', by omega, by omega, rfl, hO', hVX', hOC', hB', hs'⟩
                clear hO hVX hOC hBm hO' hVX' hOC' hB' hs' hg' hgt hget hmem hi' hqi
                go_wp2
                go_roundw
                case rel => exact HW.out
                case measure => have := HI'.out; simp [intOf]; omega
              · have hmj' : m = j := by omega
                have hji : ¬ (j : Int) < (m : Int) := by omega
                obtain ⟨hO', hg'⟩ := hO.set hlen.symm m (by omega) ⟨r, a', c'⟩ HVm.out (fun y hy => by obtain ⟨h1, h2, h3⟩ := HAX.out y hy; exact ⟨h1, by omega, h3⟩)
                rw [ins_set qs m hmk] at hO'
                have hB' := HBm.out.grown hg' HBm.out.size (fun k hk => by cases hk; exact (HO.out.base g' rfl).1)
                have o1 : wr.cell? ⟨w2.heap.size, 0, none⟩ = some (.int .i64 r.t) := by rw [hOC.cell 0 (by decide)]; rfl
                have o2 : wr.cell? ⟨w2.heap.size, 1, none⟩ = some (.slice a' r.vs.length c') := by rw [hOC.cell 1 (by decide)]; rfl
                have hperm : ((qs.take m ++ ⟨r, a', c'⟩ :: qs.drop m).map (·.r)).Perm (rs.take (qs.length + 1)) := by
                  rw [HTK.out]
                  refine ((ins_perm qs m ⟨r, a', c'⟩).map (·.r)).trans ?_
                  rw [List.map_append]
                  exact HP.out.append_right [r]
                have hasc : Asc ((qs.take m ++ ⟨r, a', c'⟩ :: qs.drop m).map (·.r)) := by
                  rw [ins_map]
                  refine asc_insert r m HA.out (by simpa using hmk) (fun i hi h => ?_) (fun h0 => ?_)
                  · rw [List.getElem_map]; exact HALL.out i (by simpa using hi) (by omega)
                  · rw [List.getElem_map]; exact HLOW.out (m - 1) (by omega) (by omega)
                have HW : Hid (∃ (k : Nat) (qs' : List Q), k ≤ rs.length ∧ qs'.length = k ∧ Value.int .i64 ((qs.length : Int) + 1) = .int .i64 k ∧ OR ((wr.setCell ⟨g', m * 2, none⟩ (.int .i64 r.t)).setCell ⟨g', m * 2 + 1, none⟩ (.slice a' r.vs.length c')) w.heap.size (.slice (some ⟨g', 0, none⟩) (qs.length + 1) cap) qs' ∧ (qs'.map (·.r)).Perm (rs.take k) ∧ Asc (qs'.map (·.r)) ∧ Below w.heap.size w ((wr.setCell ⟨g', m * 2, none⟩ (.int .i64 r.t)).setCell ⟨g', m * 2 + 1, none⟩ (.slice a' r.vs.length c'))) :=
                  ⟨qs.length + 1, qs.take m ++ ⟨r, a', c'⟩ :: qs.drop m, by omega, ins_len qs m hmk _, by simp, hO', hperm, hasc, hB'⟩
                clear hO hVX hOC hBm hO' hB' hg' hperm hasc
                subst hmj'
                go_wp2
                go_roundw
                case rel => exact HW.out
                case measure => simp [intOf]; omega
        · obtain ⟨i, hi1⟩ : ∃ i, j = i + 1 := ⟨j - 1, by omega⟩
          have hjq : i < qs.length := by omega
          obtain ⟨g, rfl⟩ : ∃ g, ax = some ⟨g, 0, none⟩ := by
            rcases HOR.out.own.2 with ⟨h1, h2⟩ | ⟨g, cap, cur, h1, -⟩
            · omega
            · cases h1; exact ⟨g, rfl⟩
          obtain ⟨f1, f2⟩ := (HOR.out.later HBR.out).cells rfl i hjq
          have HQ : Hid (VLies wr qs[i].a qs[i].r.vs) := (HOR.out.later HBR.out).lies _ (List.getElem_mem hjq)
          have HVr : Hid (VLies wr av r.vs) := HV3.out.later HBR.out
          have hqv := HQV.out _ (List.getElem_mem hjq)
          have d1 := cell_later HBR.out e1
          have d2 := cell_later HBR.out e2
          have hj1 : (i : Int) < (qs.length : Int) := by omega
          have hjp : (0 : Int) < (j : Int) := by omega
          have hip : (0 : Int) ≤ (i : Int) := by omega
          have hzw : IntKind.i64.wrap ((j : Int) - 1) = (i : Int) := by rw [hi1]; simp [IntKind.wrap, IntKind.bits, IntKind.signed]; omega
          have HI : Hid (j = i + 1) := hi1
          have HQE : Hid (∃ q, qs[i] = q) := ⟨_, rfl⟩
          obtain ⟨q, hq0⟩ := HQE.out
          have HQE' : Hid (qs[i] = q) := hq0
          rw [hq0] at f1 f2 HQ hqv
          clear hi1 hq0 HQE hj0
          go_wp2
          go_region_held3 (fun w' => w'.cell? ⟨b, o + qs.length * 2, none⟩ = some (.int .i64 r.t) ∧ w'.cell? ⟨b, o + qs.length * 2 + 1, none⟩ = some (.slice av r.vs.length cv) ∧ w'.cell? ⟨g, i * 2, none⟩ = some (.int .i64 q.r.t) ∧ w'.cell? ⟨g, i * 2 + 1, none⟩ = some (.slice q.a q.r.vs.length q.c))
            (first | go_keep | (go_split_ands; exact ⟨cell_later ‹_› ‹_›, cell_later ‹_› ‹_›, cell_later ‹_› ‹_›, cell_later ‹_› ‹_›⟩))
            (first | (go_at_call 34; refine (rowBefore_r r q.r av cv q.a q.c _ (HVr.out.later (below_drewN (Below.refl _ _) _)) (HQ.out.later (below_drewN (Below.refl _ _) _)) hvk hqv).mono ?_; rintro e w1 ⟨rfl, hbb⟩))
          have HB1 : Hid (Below w0.heap.size w0 w1) := HBR.out.trans (((below_drewN (Below.refl _ wr) _).trans hbb).mono HBR.out.size)
          clear f1 f2 d1 d2 HQ HVr
          cases hlq : ltR r q.r with
          | true =>
            go_wp2
            go_roundw
            case rel =>
              refine ⟨i, by have := HI.out; omega, rfl, fun i' hi' h' => ?_, HB1.out⟩
              by_cases e : i' = i
              · subst e; rw [HQE'.out]; exact hlq
              · exact HALL.out i' hi' (by have := HI.out; omega)
            case measure => have := HI.out; simp [intOf]; omega
          | false =>
            have HLOW : Hid (∀ i (hi : i < qs.length), j = i + 1 → ltR r qs[i].r = false) := fun i' hi' h0 => by
              have e : i' = i := by have := HI.out; omega
              subst e
              rw [HQE'.out]
              exact hlq
            clear hlq hbb hzw
            have HO1 : Hid (OR w1 w.heap.size (.slice (some ⟨g, 0, none⟩) qs.length cx) qs) := HOR.out.later HB1.out
            have HV1 : Hid (VLies w1 av r.vs) := HV3.out.later HB1.out
            have d1 := cell_later HB1.out e1
            have d2 := cell_later HB1.out e2
            go_wp2_with fail
            refine (copy_any r.t av r.vs cv w1 HV1.out hvk).mono ?_
            rintro e w2 ⟨a', c', rfl, hOV2, hb2⟩
            have HO2 : Hid (OR w2 w.heap.size (.slice (some ⟨g, 0, none⟩) qs.length cx) qs) := HO1.out.later hb2
            have HB2 : Hid (Below w.heap.size w w2) := (HB.out.trans (HB1.out.mono hsz)).trans (hb2.mono (Nat.le_trans hsz HB1.out.size))
            obtain ⟨a2, c2, hx2, hVL2, hA2⟩ := hOV2.form
            cases hx2
            have HVL2 : Hid (VLies w2 a' r.vs) := hVL2
            have HA2 : Hid (∀ y, a' = some y → w1.heap.size ≤ y.block ∧ y.block < w2.heap.size) := hA2
            have hs12 := hb2.size
            have hs01 := HB1.out.size
            clear hOV2 hb2 hVL2 hA2 HV1 d1 d2
            go_wp2_with (first
              | (at_builtin; refine wpList_append_own_at _ rfl _ _ 28 rfl w.heap.size 34 i0 (.agg #[.int .i64 0, .slice none 0 0]) 2 32 Tryz.underlying28 hi0 hz0 hz1 hz2 rfl (by decide) _ qs.length (qs.flatMap cellsR) rfl ((World.ownsRow.alloc HO2.out.own _).alloc _) ⟨w2.heap.size + 1, 0, none⟩ 1 1 (cellsR ⟨r, a', c'⟩) rfl rfl ?c1 ?c2 ?c3 ?c4 ?c5 ?_))
            case c1 =>
              intro j u hj
              match j, hj with
              | 0, hj => simp [cellsR] at hj; subst hj; simp [Addr.add]
              | 1, hj => simp [cellsR] at hj; subst hj; simp [Addr.add]
            case c2 => exact one_cellsR _
            case c3 => unfold maxLen; omega
            case c4 => omega
            case c5 => simp; have := HB2.out.size; omega
            · intro v' w5 hown' hgrow _ hat
              have hb5 : Below w2.heap.size w2 ((w2.alloc (.cells #[.int .i64 r.t, .slice a' r.vs.length c'] 34)).alloc (.cells #[.int .i64 r.t, .slice a' r.vs.length c'] 34)) := bel2 _ _ _
              have hOR5 : OR w5 w.heap.size v' (qs ++ [⟨r, a', c'⟩]) := OR.more (q := ⟨r, a', c'⟩) HO1.out (HO2.out.later hb5) hown' hgrow (by simpa using hat) (Nat.le_trans hsz hs01) (HVL2.out.later hb5) (fun y hy => by have h1 := HA2.out y hy; have h2 := hb5.size; omega)
              have hx1 : ∀ gq, (Value.slice (some ⟨g, 0, none⟩) qs.length cx).ownBlock = some gq → gq < w2.heap.size := fun gq hg => (HO2.out.base gq hg).2
              have hOc : Own w5 w2.heap.size 34 2 [.int .i64 r.t, .slice a' r.vs.length c'] := ((Own.new w2 34 2 #[.int .i64 r.t, .slice a' r.vs.length c'] rfl).later (bel1 _ _)).grown hgrow (fun e => by have := hx1 _ e.symm; omega)
              have hB5 : Below w.heap.size w w5 := (HB2.out.trans (hb5.mono HB2.out.size)).grown hgrow (by simp; have := HB2.out.size; omega) (fun gq hg => (HO2.out.base gq hg).1)
              obtain ⟨g', cap, rfl⟩ : ∃ g' cap, v' = .slice (some ⟨g', 0, none⟩) (qs.length + 1) cap := by
                rcases hown'.2 with ⟨h1, h2⟩ | ⟨g', cap, cur, h1, -⟩
                · omega
                · exact ⟨g', cap, h1⟩
              have hgc : g' ≠ w2.heap.size := by
                rcases hat with h | h
                · intro e
                  have := hx1 g' h.symm
                  omega
                · simp [Value.ownBlock] at h; omega
              have HOX : Hid (OR w5 w.heap.size (.slice (some ⟨g', 0, none⟩) (qs.length + 1) cap) (qs.take qs.length ++ ⟨r, a', c'⟩ :: qs.drop qs.length)) := by
                rw [Hid, List.take_length, List.drop_length]; exact hOR5
              have HVX : Hid (VLies w5 a' r.vs) := hOR5.lies ⟨r, a', c'⟩ (by simp)
              have HAX : Hid (∀ y, a' = some y → w.heap.size ≤ y.block ∧ y.block < w5.heap.size ∧ some y.block ≠ some g') := hOR5.apart ⟨r, a', c'⟩ (by simp)
              have HOC : Hid (Own w5 w2.heap.size 34 2 [.int .i64 r.t, .slice a' r.vs.length c']) := hOc
              have HB5 : Hid (Below w.heap.size w w5) := hB5
              clear hown' hgrow hat hb5 hOR5 hx1 hOc hB5
              go_wp2
              go_loopw [8] (fun u w' => ∃ (m : Nat) (z : Q), j ≤ m ∧ m ≤ qs.length ∧ u = .int .i64 m ∧ OR w' w.heap.size (.slice (some ⟨g', 0, none⟩) (qs.length + 1) cap) (qs.take m ++ z :: qs.drop m) ∧ VLies w' a' r.vs ∧ Own w' w2.heap.size 34 2 [.int .i64 r.t, .slice a' r.vs.length c'] ∧ Below w.heap.size w w' ∧ w5.heap.size ≤ w'.heap.size) (fun u _ => (intOf u).toNat)
              case atStart => exact ⟨qs.length, ⟨r, a', c'⟩, hj, Nat.le_refl _, by go_num, HOX.out, HVX.out, HOC.out, HB5.out, Nat.le_refl _⟩
              case round =>
                obtain ⟨m, z, hjm, hmk, rfl, hO, hVX, hOC, hBm, hs5⟩ := hrel
                have hlen := ins_len qs m hmk z
                have HO : Hid (OR wr w.heap.size (.slice (some ⟨g', 0, none⟩) (qs.length + 1) cap) (qs.take m ++ z :: qs.drop m)) := hO
                have HVm : Hid (VLies wr a' r.vs) := hVX
                have HOCm : Hid (Own wr w2.heap.size 34 2 [.int .i64 r.t, .slice a' r.vs.length c']) := hOC
                have HBm : Hid (Below w.heap.size w wr) := hBm
                obtain ⟨x1, x2⟩ := hO.cells hlen.symm m (by omega)
                have y1 := hO.soft hlen.symm (m * 2)
                have y2 := hO.soft hlen.symm (m * 2 + 1)
                generalize (qs.take m ++ z :: qs.drop m)[m] = zz at x1 x2
                have hm0 : (0 : Int) ≤ (m : Int) := by omega
                have hmi : (m : Int) < (qs.length : Int) + 1 := by omega
                by_cases hmj : j < m
                · obtain ⟨i', hi'⟩ : ∃ i, m = i + 1 := ⟨m - 1, by omega⟩
                  have hiq : i' < qs.length := by omega
                  have hgt := ins_get qs i' hiq z
                  rw [← hi'] at hgt
                  obtain ⟨x3, x4⟩ := hO.cells hlen.symm i' (by omega)
                  have hget : (qs.take m ++ z :: qs.drop m)[i']'(by omega) = qs[i'] := by
                    have := List.getElem?_eq_getElem (l := qs.take m ++ z :: qs.drop m) (i := i') (by omega)
                    rw [hgt] at this
                    exact (Option.some.inj this).symm
                  rw [hget] at x3 x4
                  have hmem : qs[i'] ∈ qs.take m ++ z :: qs.drop m := by rw [← hget]; exact List.getElem_mem _
                  obtain ⟨hO', hg'⟩ := hO.set hlen.symm m (by omega) qs[i'] (hO.lies _ hmem) (hO.apart _ hmem)
                  rw [ins_set qs m hmk, show qs.take m ++ qs[i'] :: qs.drop m = qs.take i' ++ qs[i'] :: qs.drop i' by rw [hi']; exact ins_step qs i' hiq] at hO'
                  have hVX' := HVm.out.grown hg' (fun y hy => (HAX.out y hy).2.2)
                  have hOC' := HOCm.out.grown hg' (fun e => hgc (Option.some.inj e).symm)
                  have hB' := HBm.out.grown hg' HBm.out.size (fun k hk => by cases hk; exact (HO.out.base g' rfl).1)
                  have hs' := Nat.le_trans hs5 hg'.size
                  have hji : (j : Int) < (m : Int) := by omega
                  have hzm : IntKind.i64.wrap ((m : Int) - 1) = (i' : Int) := by rw [hi']; simp [IntKind.wrap, IntKind.bits, IntKind.signed]; omega
                  have hi1 : (0 : Int) ≤ (i' : Int) := by omega
                  have hi2 : (i' : Int) < (qs.length : Int) + 1 := by omega
                  have HI' : Hid (m = i' + 1) := hi'
                  generalize hqi : qs[i'] = q' at *
                  have HW : Hid (∃ (m' : Nat) (z : Q), j ≤ m' ∧ m' ≤ qs.length ∧ Value.int .i64 (i' : Int) = .int .i64 m' ∧ OR ((wr.setCell ⟨g', m * 2, none⟩ (.int .i64 q'.r.t)).setCell ⟨g', m * 2 + 1, none⟩ (.slice q'.a q'.r.vs.length q'.c)) w.heap.size (.slice (some ⟨g', 0, none⟩) (qs.length + 1) cap) (qs.take m' ++ z :: qs.drop m') ∧ VLies ((wr.setCell ⟨g', m * 2, none⟩ (.int .i64 q'.r.t)).setCell ⟨g', m * 2 + 1, none⟩ (.slice q'.a q'.r.vs.length q'.c)) a' r.vs ∧ Own ((wr.setCell ⟨g', m * 2, none⟩ (.int .i64 q'.r.t)).setCell ⟨g', m * 2 + 1, none⟩ (.slice q'.a q'.r.vs.length q'.c)) w2.heap.size 34 2 [.int .i64 r.t, .slice a' r.vs.length c'] ∧ Below w.heap.size w ((wr.setCell ⟨g', m * 2, none⟩ (.int .i64 q'.r.t)).setCell ⟨g', m * 2 + 1, none⟩ (.slice q'.a q'.r.vs.length q'.c)) ∧ w5.heap.size ≤ ((wr.setCell ⟨g', m * 2, none⟩ (.int .i64 q'.r.t)).setCell ⟨g', m * 2 + 1, none⟩ (.slice q'.a q'.r.vs.length q'.c)).heap.size) :=
                    ⟨i', q', by omega, by omega, rfl, hO', hVX', hOC', hB', hs'⟩
                  clear hO hVX hOC hBm hO' hVX' hOC' hB' hs' hg' hgt hget hmem hi' hqi
                  go_wp2
                  go_roundw
                  case rel => exact HW.out
                  case measure => have := HI'.out; simp [intOf]; omega
                · have hmj' : m = j := by omega
                  have hji : ¬ (j : Int) < (m : Int) := by omega
                  obtain ⟨hO', hg'⟩ := hO.set hlen.symm m (by omega) ⟨r, a', c'⟩ HVm.out (fun y hy => by obtain ⟨h1, h2, h3⟩ := HAX.out y hy; exact ⟨h1, by omega, h3⟩)
                  rw [ins_set qs m hmk] at hO'
                  have hB' := HBm.out.grown hg' HBm.out.size (fun k hk => by cases hk; exact (HO.out.base g' rfl).1)
                  have o1 : wr.cell? ⟨w2.heap.size, 0, none⟩ = some (.int .i64 r.t) := by rw [hOC.cell 0 (by decide)]; rfl
                  have o2 : wr.cell? ⟨w2.heap.size, 1, none⟩ = some (.slice a' r.vs.length c') := by rw [hOC.cell 1 (by decide)]; rfl
                  have hperm : ((qs.take m ++ ⟨r, a', c'⟩ :: qs.drop m).map (·.r)).Perm (rs.take (qs.length + 1)) := by
                    rw [HTK.out]
                    refine ((ins_perm qs m ⟨r, a', c'⟩).map (·.r)).trans ?_
                    rw [List.map_append]
                    exact HP.out.append_right [r]
                  have hasc : Asc ((qs.take m ++ ⟨r, a', c'⟩ :: qs.drop m).map (·.r)) := by
                    rw [ins_map]
                    refine asc_insert r m HA.out (by simpa using hmk) (fun i hi h => ?_) (fun h0 => ?_)
                    · rw [List.getElem_map]; exact HALL.out i (by simpa using hi) (by omega)
                    · rw [List.getElem_map]; exact HLOW.out (m - 1) (by omega) (by omega)
                  have HW : Hid (∃ (k : Nat) (qs' : List Q), k ≤ rs.length ∧ qs'.length = k ∧ Value.int .i64 ((qs.length : Int) + 1) = .int .i64 k ∧ OR ((wr.setCell ⟨g', m * 2, none⟩ (.int .i64 r.t)).setCell ⟨g', m * 2 + 1, none⟩ (.slice a' r.vs.length c')) w.heap.size (.slice (some ⟨g', 0, none⟩) (qs.length + 1) cap) qs' ∧ (qs'.map (·.r)).Perm (rs.take k) ∧ Asc (qs'.map (·.r)) ∧ Below w.heap.size w ((wr.setCell ⟨g', m * 2, none⟩ (.int .i64 r.t)).setCell ⟨g', m * 2 + 1, none⟩ (.slice a' r.vs.length c'))) :=
                    ⟨qs.length + 1, qs.take m ++ ⟨r, a', c'⟩ :: qs.drop m, by omega, ins_len qs m hmk _, by simp, hO', hperm, hasc, hB'⟩
                  clear hO hVX hOC hBm hO' hB' hg' hperm hasc
                  subst hmj'
                  go_wp2
                  go_roundw
                  case rel => exact HW.out
                  case measure => simp [intOf]; omega
    · have hkl : qs.length = rs.length := by omega
      have HF : Hid (RSPost w rs (.returned (.slice ax qs.length cx)) wr) := ⟨ax, cx, qs.map (·.r), by rw [List.length_map], HRL.out, by have := HP.out; rwa [hkl, List.take_length] at this, HA.out, HB.out⟩
      go_wp2
      go_ret
      exact HF.out
end Go.Proofs.YtmeeoamcelkhmaaGreatDoor
