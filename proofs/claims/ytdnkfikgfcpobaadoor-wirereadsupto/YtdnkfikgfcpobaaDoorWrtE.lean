import Derived.Test.YtdnkfikgfcpobaaDoorWrtD
namespace Go.Proofs.YtdnkfikgfcpobaaDoor
open Go.RowKit
set_option linter.unusedVariables false
set_option maxRecDepth 100000

theorem OL.grown {w w' : World} {B : Nat} {v : Value} {l : List UInt8} {r : Option Nat} (h : OL w B v l) (hg : w.grownBy w' r) (hne : ∀ g, v.ownBlock = some g → some g ≠ r) : OL w' B v l := by
  refine ⟨h.1, ?_⟩
  rcases h.2 with h2 | ⟨g, cap, cur, h1, h2, h3, h4⟩
  · exact .inl h2
  · refine .inr ⟨g, cap, cur, h1, h2, ?_, h4⟩
    have hlt : g < w.heap.size := by
      rcases Nat.lt_or_ge g w.heap.size with h | h
      · exact h
      · rw [Array.getElem?_eq_none h] at h3; cases h3
    rw [hg.block g hlt (hne g (by rw [h1]; rfl))]; exact h3

/-- 'append(b, more...)': both rows are one's own. -/
theorem wpList_append_ol {w : World} {ops : Array Oper} {rest : List Oper} {o : Oper} {a : Act} {Q : Exit → Act → World → Prop} (hgd : o.guard = none) (s x : Operand)
    (ho : o.op = .call { callee := .builtin .append, args := #[s, x], argTypes := #[22, 22] })
    (B : Nat) (v : Value) (l : List UInt8) (hs : a.eval s = v) (hown : OL w B v l) (B2 : Nat) (v2 : Value) (E : List UInt8) (hx : a.eval x = v2) (h2 : OL w B2 v2 E) (hE : 0 < E.length)
    (hlen : l.length + E.length ≤ 140737488355328) (hbase : B ≤ w.heap.size)
    (h : ∀ v' w', OL w' B v' (l ++ E) → w.grownBy w' v.ownBlock → (v'.ownBlock = v.ownBlock ∨ v'.ownBlock = some w.heap.size) → wpList Tryd.prog ops Q rest (a.put o.dst v') w') : wpList Tryd.prog ops Q (o :: rest) a w := by
  obtain ⟨i0, hi0, hz0, hz1, hz2⟩ := info_parts info5
  obtain ⟨g5, cap5, hv2, hg5, hlt5⟩ := World.ownsRow.form h2 hE
  rw [hv2] at hx h2
  refine wpList_append_own_at _ hgd s x 22 ho B 5 i0 (.int .u8 0) 1 1 Tryd.underlying22 hi0 hz0 hz1 hz2 rfl (by decide) v l.length (l.map u8v) hs hown ⟨g5, 0, none⟩ E.length cap5 (E.map u8v) hx (by simp) ?_ ?_ (by unfold maxLen; omega) (by omega) hbase ?_
  · intro j u hj
    have hj' : j < E.length * 1 := by
      have := (List.getElem?_eq_some_iff.1 hj).1
      rw [List.length_map] at this
      omega
    rw [WideShapes.add_plain, Nat.zero_add, World.ownsRow.cellAt h2 j hj']
    exact hj
  · intro u hu; obtain ⟨z, _, rfl⟩ := List.mem_map.1 hu; rfl
  · intro v' w' h3 h4 _ h5
    refine h v' w' ?_ h4 h5
    unfold OL
    rw [List.length_append, List.map_append]
    exact h3

theorem encVal_pos (x : V) : 0 < (encVal x).length := by unfold encVal; simp

set_option maxHeartbeats 4000000 in
theorem refRows_any (w : World) (a : Option Addr) (cap : Nat) (rs : List Rw) (hl : RLies w a rs) (hg : ∀ r ∈ rs, GoodR r) (hr : rs.length ≤ 549755813888) (hlen : (encRows rs).length ≤ 549755813888) :
    Calls Tryd.prog 10 #[.slice a rs.length cap] w fun e w' => ∃ v', e = .returned v' ∧ OL w' w.heap.size v' (encRows rs) ∧ Below w.heap.size w w' := by
  have HL : Hid (RLies w a rs) := hl
  have HG : Hid (∀ r ∈ rs, GoodR r) := hg
  have HE : Hid (encRows rs = encInt (rs.length : Int) ++ rs.flatMap encRow) := rfl
  have hE : (encRows rs).length = (encInt (rs.length : Int)).length + (rs.flatMap encRow).length := by rw [HE.out, List.length_append]
  clear hl hg
  go_enter Tryd.func10, Tryd.ntmps10
  go_wp2_with fail
  refine (refInt_ol (rs.length : Int) w (by omega) (by omega)).mono ?_
  rintro e w1 ⟨v1, rfl, ho1, hb1⟩
  have HB1 : Hid (Below w.heap.size w w1) := hb1
  have H1 : Hid (OL w1 w.heap.size v1 (encInt (rs.length : Int))) := ho1
  clear ho1 hb1
  go_wp2
  go_loopw [3, 4] (fun v i w' => ∃ k : Nat, k ≤ rs.length ∧ i = .int .i64 k ∧ OL w' w.heap.size v (encInt (rs.length : Int) ++ (rs.take k).flatMap encRow) ∧ Below w.heap.size w w') (fun _ i _ => rs.length - (intOf i).toNat)
  case atStart => exact ⟨0, Nat.zero_le _, rfl, by simpa using H1.out, HB1.out⟩
  case round =>
    obtain ⟨k, hk, rfl, ho, hb⟩ := hrel
    have HBK : Hid (Below w.heap.size w wr) := hb
    have hsz := hb.size
    have HOK : Hid (OL wr w.heap.size u3 (encInt (rs.length : Int) ++ (rs.take k).flatMap encRow)) := ho
    have hlt0 : ∀ g, u3.ownBlock = some g → g < wr.heap.size := fun g h => (ho.lt g h).2
    clear ho hb H1 HB1
    by_cases hlt : k < rs.length
    · obtain ⟨b, off, av, cv, rfl, c1w, c2w, hv⟩ := HL.out k hlt
      have c1 := cell_later HBK.out c1w
      have c2 := cell_later HBK.out c2w
      have C2 : Hid (w.cell? ⟨b, off + k * 2 + 1, none⟩ = some (.slice av rs[k].vs.length cv)) := c2w
      have HV : Hid (VLies w av rs[k].vs) := hv
      have HGK : Hid (GoodR rs[k]) := HG.out _ (List.getElem_mem hlt)
      have hfl := flat_lt encRow rs k hlt
      have HF : Hid ((rs.take (k + 1)).flatMap encRow = (rs.take k).flatMap encRow ++ encRow rs[k]) := take_flat encRow rs k hlt
      have HER : Hid (encRow rs[k] = encInt rs[k].t ++ (encInt (rs[k].vs.length : Int) ++ rs[k].vs.flatMap encVal)) := rfl
      have hER : (encRow rs[k]).length = (encInt rs[k].t).length + ((encInt (rs[k].vs.length : Int)).length + (rs[k].vs.flatMap encVal).length) := by rw [HER.out, List.length_append, List.length_append]
      have ht := HGK.out.1
      have ht2 := HGK.out.2.1
      have hvl := HGK.out.2.2.1
      have hki : (k : Int) < (rs.length : Int) := by omega
      clear hv c1w c2w
      have HGV : Hid (∀ v ∈ rs[k].vs, GoodV v) := HGK.out.2.2.2
      obtain ⟨L, hL⟩ : ∃ L, L = encInt (rs.length : Int) ++ (rs.take k).flatMap encRow := ⟨_, rfl⟩
      have hLl : L.length = (encInt (rs.length : Int)).length + ((rs.take k).flatMap encRow).length := by rw [hL, List.length_append]
      have HLN : Hid (encInt (rs.length : Int) ++ (rs.take (k + 1)).flatMap encRow = L ++ encInt rs[k].t ++ encInt (rs[k].vs.length : Int) ++ rs[k].vs.flatMap encVal) := by
        unfold Hid
        rw [HF.out, HER.out, hL]
        simp only [List.append_assoc]
      rw [← hL] at HOK
      clear HF HER HGK hL
      generalize rs[k].vs = vs at *
      generalize rs[k].t = T at *
      go_wp2_with fail
      refine (refInt_ol T wr ht ht2).mono ?_
      rintro e w2 ⟨v2, rfl, ho2, hb2⟩
      have d2 := cell_later hb2 c2
      have H2 : Hid (OL w2 wr.heap.size v2 (encInt T)) := ho2
      have HB2 : Hid (Below wr.heap.size wr w2) := hb2
      have hs2 := hb2.size
      clear ho2 hb2
      go_wp2_with fail
      refine (refInt_ol (vs.length : Int) w2 (by omega) (by omega)).mono ?_
      rintro e w3 ⟨v3, rfl, ho3, hb3⟩
      have H3 : Hid (OL w3 w2.heap.size v3 (encInt (vs.length : Int))) := ho3
      have HB3 : Hid (Below wr.heap.size wr w3) := HB2.out.trans (hb3.mono hs2)
      have H2' : Hid (OL w3 wr.heap.size v2 (encInt T)) := H2.out.later hb3
      have HO3 : Hid (OL w3 w.heap.size u3 L) := HOK.out.later HB3.out
      have hs3 := hb3.size
      clear ho3 hb3 H2 HB2 HOK
      go_wp2_with (first
        | (at_builtin; refine wpList_append_ol rfl _ _ rfl w.heap.size _ L rfl HO3.out wr.heap.size _ (encInt T) rfl H2'.out (encInt_pos _) ?c1 ?c2 ?_))
      case c1 => omega
      case c2 => omega
      · intro v4 w4 ho4 hg4 ha4
        have hb4 : Below w.heap.size w w4 := (HBK.out.trans (HB3.out.mono hsz)).grown hg4 (by omega) (fun j hj => (HO3.out.lt j hj).1)
        have H4 : Hid (OL w4 w.heap.size v4 (L ++ encInt T)) := ho4
        have H3' : Hid (OL w4 w2.heap.size v3 (encInt (vs.length : Int))) := H3.out.grown hg4 (fun g hg e => by
          have h1 := (H3.out.lt g hg).1
          have h2 := hlt0 g e.symm
          omega)
        have HB4 : Hid (Below w.heap.size w w4) := hb4
        have hs4 := hb4.size
        have hl4 : (L ++ encInt T).length = L.length + (encInt T).length := List.length_append
        clear ho4 hg4 ha4 hb4 H2' HO3 H3
        go_wp2_with (first
          | (at_builtin; refine wpList_append_ol rfl _ _ rfl w.heap.size _ (L ++ encInt T) rfl H4.out w2.heap.size _ (encInt (vs.length : Int)) rfl H3'.out (encInt_pos _) ?c1 ?c2 ?_))
        case c1 => omega
        case c2 => omega
        · intro v5 w5 ho5 hg5 ha5
          have hb5 : Below w.heap.size w w5 := HB4.out.grown hg5 hs4 (fun j hj => (H4.out.lt j hj).1)
          have H5 : Hid (OL w5 w.heap.size v5 (L ++ encInt T ++ encInt (vs.length : Int))) := by rw [Hid, List.append_assoc]; exact ho5
          have HB5 : Hid (Below w.heap.size w w5) := hb5
          have hl5 : (L ++ encInt T ++ encInt (vs.length : Int)).length = (L ++ encInt T).length + (encInt (vs.length : Int)).length := List.length_append
          clear ho5 hg5 ha5 hb5 H4 H3' HB4 c1 c2 d2
          generalize L ++ encInt T ++ encInt (vs.length : Int) = M at *
          go_wp2
          go_loopw [3, 7] (fun v i w' => ∃ j : Nat, j ≤ vs.length ∧ i = .int .i64 j ∧ OL w' w.heap.size v (M ++ (vs.take j).flatMap encVal) ∧ Below w.heap.size w w') (fun _ i _ => vs.length - (intOf i).toNat)
          case atStart => exact ⟨0, Nat.zero_le _, rfl, by simpa using H5.out, HB5.out⟩
          case round =>
            obtain ⟨j, hj, rfl, ho, hb⟩ := hrel
            have HBJ : Hid (Below w.heap.size w wr) := hb
            have HOJ : Hid (OL wr w.heap.size u3 (M ++ (vs.take j).flatMap encVal)) := ho
            have hszj := hb.size
            have c2 := cell_later HBJ.out C2.out
            clear ho hb H5 HB5
            by_cases hjt : j < vs.length
            · obtain ⟨b', off', rfl, e1, e2, e3⟩ := HV.out j hjt
              replace e1 := cell_later HBJ.out e1
              replace e2 := cell_later HBJ.out e2
              replace e3 := cell_later HBJ.out e3
              have HGJ : Hid (GoodV vs[j]) := HGV.out _ (List.getElem_mem hjt)
              have hji : (j : Int) < (vs.length : Int) := by omega
              have hfj := flat_lt encVal vs j hjt
              have hmj : (M ++ (vs.take j).flatMap encVal).length = M.length + ((vs.take j).flatMap encVal).length := List.length_append
              have HFJ : Hid (M ++ (vs.take (j + 1)).flatMap encVal = M ++ (vs.take j).flatMap encVal ++ encVal vs[j]) := by unfold Hid; rw [take_flat encVal vs j hjt, List.append_assoc]
              go_wp2_with fail
              refine (refValue_ol vs[j] wr HGJ.out).mono ?_
              rintro e w6 ⟨v6, rfl, ho6, hb6⟩
              have H6 : Hid (OL w6 wr.heap.size v6 (encVal vs[j])) := ho6
              have HO6 : Hid (OL w6 w.heap.size u3 (M ++ (vs.take j).flatMap encVal)) := HOJ.out.later hb6
              have HB6 : Hid (Below w.heap.size w w6) := HBJ.out.trans (hb6.mono hszj)
              have hs6 := HB6.out.size
              clear ho6 hb6 HOJ
              go_wp2_with (first
                | (at_builtin; refine wpList_append_ol rfl _ _ rfl w.heap.size _ (M ++ (vs.take j).flatMap encVal) rfl HO6.out wr.heap.size _ (encVal vs[j]) rfl H6.out (encVal_pos _) ?c1 ?c2 ?_))
              case c1 => omega
              case c2 => omega
              · intro v7 w7 ho7 hg7 ha7
                have hb7 : Below w.heap.size w w7 := HB6.out.grown hg7 hs6 (fun j hj => (HO6.out.lt j hj).1)
                have H7 : Hid (OL w7 w.heap.size v7 (M ++ (vs.take (j + 1)).flatMap encVal)) := by rw [Hid, HFJ.out, List.append_assoc]; exact ho7
                have HB7 : Hid (Below w.heap.size w w7) := hb7
                clear ho7 hg7 ha7 hb7 H6 HO6 HFJ
                go_wp2
                go_roundw
                case rel => exact ⟨j + 1, by omega, by go_num, H7.out, HB7.out⟩
                case measure => simp [intOf]; omega
            · obtain rfl : j = vs.length := by omega
              have HE5 : Hid (OL wr w.heap.size u3 (encInt (rs.length : Int) ++ (rs.take (k + 1)).flatMap encRow)) := by
                rw [Hid, HLN.out]
                have := HOJ.out
                rw [List.take_of_length_le (Nat.le_refl _)] at this
                exact this
              clear HOJ
              go_wp2
              go_roundw
              case rel => exact ⟨k + 1, by omega, by go_num, HE5.out, HBJ.out⟩
              case measure => simp [intOf]; omega
    · obtain rfl : k = rs.length := by omega
      go_wp2
      go_ret
      refine ⟨u3, rfl, ?_, HBK.out⟩
      have := HOK.out
      rw [List.take_of_length_le (Nat.le_refl _), ← HE.out] at this
      exact this
end Go.Proofs.YtdnkfikgfcpobaaDoor
