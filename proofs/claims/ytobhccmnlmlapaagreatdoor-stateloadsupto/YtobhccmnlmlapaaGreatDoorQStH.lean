import Derived.Test.YtobhccmnlmlapaaGreatDoorGo
namespace Go.Proofs.YtobhccmnlmlapaaGreatDoor
open Go.RowKit Go.Maps
attribute [local go_sem] fld0 fld1
set_option linter.unusedVariables false
set_option linter.unusedSimpArgs false
set_option maxRecDepth 100000

theorem ss_len : ∀ (ss : List Sh), (∀ s ∈ ss, s.ds ≠ []) → ss.length ≤ (ces ss).length
  | [], _ => by simp
  | s :: ss, hne => by
    have h1 := ss_len ss (fun s hs => hne s (by simp [hs]))
    have h2 := hne s (by simp)
    have h3 : 0 < s.ds.length := List.length_pos_iff.2 h2
    have e : ces (s :: ss) = cesS s ++ ces ss := rfl
    have e2 : (cesS s).length = s.ds.length := by unfold cesS; simp
    rw [e, List.length_append, List.length_cons, e2]
    omega
theorem PQ.few {w : World} {B t mp : Nat} {lo hi nc nw : Int} {ss : List Sh} (h : PQ w B t mp lo hi nc nw ss) : ss.length ≤ 2097152 := by
  have h1 := wt_len (ces ss)
  have h2 := h.wl
  have h3 := ss_len ss (fun s hs => (h.sho s hs).ne)
  omega
set_option maxHeartbeats 1000000 in
theorem shelfFor_new (vs : List V) (a : Option Addr) (c : Nat) (w : World) (B t mp : Nat) (lo hi : Int) {nc nw : Int} (ss : List Sh) (h : PQ w B t mp lo hi nc nw ss) (hl : VLies w a vs) (hg : GoodK vs) (hk : vk vs = true) (hs : shOf ss vs = none) :
    Calls Tryz.prog 38 #[.pointer (some ⟨t, 0, none⟩), .slice a vs.length c] w fun e w' => ∃ ka kc mb, e = .returned (.agg #[.slice ka vs.length kc, .map (some mb)]) ∧ OV w' w.heap.size (.slice ka vs.length kc) vs ∧ MP w' wk mb [] ∧ MP w' sk mp (ss.map entS ++ [(nameOf vs, .agg #[.slice ka vs.length kc, .map (some mb)])]) ∧ Gs (fun i => i = mp) w w' ∧ w.heap.size ≤ mb ∧ some mb ≠ (Value.slice ka vs.length kc).ownBlock := by
  have HF : Hid (∀ W, Below w.heap.size w W → W.cell? ⟨t, 2, none⟩ = some (.map (some mp)) ∧ (Instr.lookup 80 (.map (some mp)) (.string (nameOf vs)) true).run Tryz.prog W = .ok (.tuple #[.agg #[.slice none 0 0, .map none], .bool false]) W) := fun W hb => by
    have := look_for (h.later hb) vs hg hk
    rw [hs] at this
    exact ⟨(h.later hb).cells.2.2.1, this⟩
  have HN : Hid (∀ W, Below w.heap.size w W → Calls Tryz.prog 52 #[.slice a vs.length c] W fun e w' => e = .returned (.string (nameOf vs)) ∧ Below W.heap.size W w') := fun W hb => name_any vs a c W (hl.later hb) hg hk
  have HC : Hid (∀ W, Below w.heap.size w W → Calls Tryz.prog 41 #[.slice a vs.length c] W fun e w' => ∃ a' c', e = .returned (.slice a' vs.length c') ∧ OV w' W.heap.size (.slice a' vs.length c') vs ∧ Below W.heap.size W w') := fun W hb => clone_any a vs c W (hl.later hb) (by have := vk_len hk; omega)
  have HB1 := hidMk (below_drewN (bel1 w zSh) 1)
  have c2 := (HF.out _ HB1.out).1
  have c2a := (HF.out _ (HB1.out.alloc HB1.out.size zSh)).1
  have c2w := (HF.out _ (Below.refl _ _)).1
  have htl : t < w.heap.size := (h.lt (.inl (.inl rfl))).2
  have hne : t ≠ w.heap.size := by omega
  have hne2 : t ≠ w.heap.size + 1 := by omega
  have HO := hidMk (show Own (w.alloc zSh).drew w.heap.size 87 2 [.slice none 0 0, .map none] from Own.new w 87 2 #[.slice none 0 0, .map none] rfl)
  have HP := hidMk h
  have HS := hidMk hs
  have HG := hidMk hg
  have HK := hidMk hk
  clear hl hg hk h hs
  go_enter Tryz.func38, Tryz.ntmps38
  go_wp2_with fail
  rename_i K hK
  have HKX : Hid (∀ bk W, Own W bk 87 2 [.slice none 0 0, .map none] → Own W w.heap.size 87 2 [.slice none 0 0, .map none] → Below w.heap.size w W → w.heap.size < bk → K { tmps := #[.pointer (some ⟨t, 0, none⟩), .slice a vs.length c, undef, undef, .pointer (some ⟨w.heap.size, 0, none⟩), .pointer (some ⟨bk, 0, none⟩), .bool false, .tuple #[.agg #[.slice none 0 0, .map none], .bool false], .pointer (some ⟨t, 0, none⟩), .pointer (some ⟨t, 0, none⟩), .pointer (some ⟨t, 2, none⟩), .map (some mp), .slice a vs.length c, .string (nameOf vs), .tuple #[.agg #[.slice none 0 0, .map none], .bool false], .agg #[.slice none 0 0, .map none], .bool false, undef, undef, undef, undef, undef, undef, undef, undef, undef, undef, undef, undef, undef, undef], defers := [] } W) := by
    intro bk W hO1 hO2 hB hbk
    have HW1 := hidMk hO1
    have HW2 := hidMk hO2
    have HBW := hidMk hB
    clear hO1 hO2 hB
    apply hK
    go_wp2_with fail
    refine (HC.out _ HBW.out).mono ?_
    rintro e w3 ⟨ka, kc, rfl, hov, hb3⟩
    have HOV := hidMk hov
    have HB3 := hidMk (HBW.out.trans (hb3.mono HBW.out.size))
    have HSZ3 := hidMk hb3.size
    have HX1 := hidMk (HW1.out.later hb3)
    have HX2 := hidMk (HW2.out.later hb3)
    obtain ⟨e0, e1, f0, f1⟩ := HX1.out.two
    have hmm := @run_makeMap Tryz.prog
    have hlb : bk < w3.heap.size := HX1.out.lt
    have hnb : bk ≠ w3.heap.size := by omega
    clear hov hb3 HC
    have hWl := HBW.out.size
    have hrl : w.heap.size < W.heap.size := HW2.out.lt
    have hbl : bk < W.heap.size := HW1.out.lt
    have hOV' : OV w3 W.heap.size (.slice ka vs.length kc) vs := HOV.out
    have hW3 : W.heap.size ≤ w3.heap.size := HSZ3.out
    have HQ : Hid (∀ W4, W4 = ((w3.setCell ⟨bk, 0, none⟩ (.slice ka vs.length kc)).setCell ⟨bk, 1, none⟩ (.map (some w3.heap.size))).alloc (.map #[] 0) → (W4.drew.cell? ⟨t, 2, none⟩ = some (.map (some mp)) ∧ W4.drew.cell? ⟨bk, 0, none⟩ = some (.slice ka vs.length kc) ∧ W4.drew.cell? ⟨bk, 1, none⟩ = some (.map (some w3.heap.size))) ∧ Below w.heap.size w W4.drew ∧ ∀ w5, Below W4.drew.heap.size W4.drew w5 → (w5.cell? ⟨t, 2, none⟩ = some (.map (some mp)) ∧ w5.cell? ⟨bk, 0, none⟩ = some (.slice ka vs.length kc) ∧ w5.cell? ⟨bk, 1, none⟩ = some (.map (some w3.heap.size))) ∧ ∃ w6, (Instr.mapUpdate 80 (.map (some mp)) (.string (nameOf vs)) (.agg #[.slice ka vs.length kc, .map (some w3.heap.size)])).run Tryz.prog w5 = .ok () w6 ∧ (w6.cell? ⟨t, 2, none⟩ = some (.map (some mp)) ∧ w6.cell? ⟨bk, 0, none⟩ = some (.slice ka vs.length kc) ∧ w6.cell? ⟨bk, 1, none⟩ = some (.map (some w3.heap.size))) ∧ Own w6 w.heap.size 87 2 [.slice none 0 0, .map none] ∧ OV w6 W.heap.size (.slice ka vs.length kc) vs ∧ MP w6 wk w3.heap.size [] ∧ MP w6 sk mp (ss.map entS ++ [(nameOf vs, .agg #[.slice ka vs.length kc, .map (some w3.heap.size)])]) ∧ Gs (fun i => i = mp) w w6) := by
      rintro W4 rfl
      have hmp := (HP.out.lt (.inl (.inr (.inl rfl)))).2
      have htm := HP.out.ne.1
      have p1 := HX1.out.put 0 (.slice ka vs.length kc)
      have p2 := p1.1.put 1 (.map (some w3.heap.size))
      have gg : w3.grownBy ((w3.setCell ⟨bk, 0, none⟩ (.slice ka vs.length kc)).setCell ⟨bk, 1, none⟩ (.map (some w3.heap.size))) (some bk) := grown_trans p1.2 p2.2
      have bb : Below w.heap.size w ((w3.setCell ⟨bk, 0, none⟩ (.slice ka vs.length kc)).setCell ⟨bk, 1, none⟩ (.map (some w3.heap.size))) := HB3.out.grown gg HB3.out.size (fun j e => by cases e; omega)
      have q1 : Own (((w3.setCell ⟨bk, 0, none⟩ (.slice ka vs.length kc)).setCell ⟨bk, 1, none⟩ (.map (some w3.heap.size))).alloc (.map #[] 0)) bk 87 2 [.slice ka vs.length kc, .map (some w3.heap.size)] := p2.1.later (bel1 _ _)
      have q2 : Own (((w3.setCell ⟨bk, 0, none⟩ (.slice ka vs.length kc)).setCell ⟨bk, 1, none⟩ (.map (some w3.heap.size))).alloc (.map #[] 0)) w.heap.size 87 2 [.slice none 0 0, .map none] := (HX2.out.grown gg (by simp; omega)).later (bel1 _ _)
      have q3 : OV (((w3.setCell ⟨bk, 0, none⟩ (.slice ka vs.length kc)).setCell ⟨bk, 1, none⟩ (.map (some w3.heap.size))).alloc (.map #[] 0)) W.heap.size (.slice ka vs.length kc) vs := (hOV'.grown gg (fun k e => by cases e; exact hbl)).later (bel1 _ _)
      have q4 : MP (((w3.setCell ⟨bk, 0, none⟩ (.slice ka vs.length kc)).setCell ⟨bk, 1, none⟩ (.map (some w3.heap.size))).alloc (.map #[] 0)) wk w3.heap.size [] := by
        have := MP.made ((w3.setCell ⟨bk, 0, none⟩ (.slice ka vs.length kc)).setCell ⟨bk, 1, none⟩ (.map (some w3.heap.size))) wk
        simpa using this
      have q5 : Below w.heap.size w (((w3.setCell ⟨bk, 0, none⟩ (.slice ka vs.length kc)).setCell ⟨bk, 1, none⟩ (.map (some w3.heap.size))).alloc (.map #[] 0)) := bb.alloc bb.size _
      have q6 := (HP.out.later q5)
      generalize ((w3.setCell ⟨bk, 0, none⟩ (.slice ka vs.length kc)).setCell ⟨bk, 1, none⟩ (.map (some w3.heap.size))).alloc (.map #[] 0) = W4 at *
      have dd : Below W4.heap.size W4 W4.drew := below_drewN (Below.refl _ _) 1
      refine ⟨⟨q6.cells.2.2.1, q1.two.1, q1.two.2.1⟩, below_drewN q5 1, fun w5 hb5 => ?_⟩
      have hb : Below W4.heap.size W4 w5 := dd.trans (hb5.mono (Nat.le_refl _))
      have h5 := q6.later hb
      have o5 := q1.later hb
      refine ⟨⟨h5.cells.2.2.1, o5.two.1, o5.two.2.1⟩, ?_⟩
      obtain ⟨w6, hr, hm, ht⟩ := h5.mpo.store K9 Tryz.underlying80 (nameOf vs) (name_size vs HK.out HG.out) (.agg #[.slice ka vs.length kc, .map (some w3.heap.size)]) (by
        have := HP.out.few
        unfold maxLen
        simp
        omega)
      have g6 := ht.grown
      have nin : nameOf vs ∉ (ss.map entS).map (·.1) := by
        rw [List.map_map]
        intro hin
        obtain ⟨s, hs, e⟩ := List.mem_map.1 hin
        exact shOf_none HS.out s hs (enc_inj (HP.out.sho s hs).val HK.out e)
      have hput : put (ss.map entS) (nameOf vs) (.agg #[.slice ka vs.length kc, .map (some w3.heap.size)]) = ss.map entS ++ [(nameOf vs, .agg #[.slice ka vs.length kc, .map (some w3.heap.size)])] := by unfold put; rw [if_neg nin]
      rw [hput] at hm
      have s5 := hb.size
      have o6 := o5.grown g6 (by simp; omega)
      refine ⟨w6, hr, ⟨g6.cell h5.cells.2.2.1 (by simp; omega), o6.two.1, o6.two.2.1⟩, (q2.later hb).grown g6 (by simp; omega), (q3.later hb).grown g6 (fun k e => by cases e; omega), (q4.kept (grown_below (r := none) hb) (by simp)).kept g6 (by simp; omega), hm, ?_⟩
      exact (Gs.below (q5.trans (hb.mono q5.size))).trans (Gs.one g6 (fun k e => (Option.some.inj e).symm))
    have HOVl := hidMk hOV'
    clear HOV HX2 hOV'
    go_wp2_with fail
    generalize hW4 : ((w3.setCell ⟨bk, 0, none⟩ (.slice ka vs.length kc)).setCell ⟨bk, 1, none⟩ (.map (some w3.heap.size))).alloc (.map #[] 0) = W4
    obtain ⟨⟨d0, d1, d2⟩, hB4, HQ5⟩ := HQ.out W4 hW4.symm
    have HB4 := hidMk hB4
    have HQ6 := hidMk HQ5
    generalize hmb : w3.heap.size = mb at *
    clear HQ hB4 HQ5 hW4 e0 e1 f0 f1 HX1 c2 c2a c2w
    go_region_held3 (fun W => W.cell? ⟨t, 2, none⟩ = some (.map (some mp)) ∧ W.cell? ⟨bk, 0, none⟩ = some (.slice ka vs.length kc) ∧ W.cell? ⟨bk, 1, none⟩ = some (.map (some mb)))
      (first | exact ⟨d0, d1, d2⟩ | exact s5 | exact s6 | go_keep)
      ((go_at_call 52; refine (HN.out _ HB4.out).mono ?_; rintro e w5 ⟨rfl, hb5⟩; obtain ⟨s5, w6, hr6, s6, x1, x2, x3, x4, x5⟩ := HQ6.out _ hb5; have HX1 := hidMk x1; have HX2 := hidMk x2; have HX3 := hidMk x3; have HX4 := hidMk x4; have HX5 := hidMk x5; clear hb5 x1 x2 x3 x4 x5))
    all_goals
      obtain ⟨y0, y1, y2⟩ := s6
      obtain ⟨r0, r1, q0, q1⟩ := HX1.out.two
      have HA := hidMk ((HX1.out.put 0 (.slice ka vs.length kc)).1.put 1 (.map (some mb))).1
      have HE : Hid (OV ((w6.setCell ⟨w.heap.size, 0, none⟩ (.slice ka vs.length kc)).setCell ⟨w.heap.size, 1, none⟩ (.map (some mb))) w.heap.size (.slice ka vs.length kc) vs ∧ MP ((w6.setCell ⟨w.heap.size, 0, none⟩ (.slice ka vs.length kc)).setCell ⟨w.heap.size, 1, none⟩ (.map (some mb))) wk mb [] ∧ MP ((w6.setCell ⟨w.heap.size, 0, none⟩ (.slice ka vs.length kc)).setCell ⟨w.heap.size, 1, none⟩ (.map (some mb))) sk mp (ss.map entS ++ [(nameOf vs, .agg #[.slice ka vs.length kc, .map (some mb)])]) ∧ Gs (fun i => i = mp) w ((w6.setCell ⟨w.heap.size, 0, none⟩ (.slice ka vs.length kc)).setCell ⟨w.heap.size, 1, none⟩ (.map (some mb))) ∧ w.heap.size ≤ mb ∧ some mb ≠ (Value.slice ka vs.length kc).ownBlock) := by
        have hmp := (HP.out.lt (.inl (.inr (.inl rfl)))).2
        have gr : w6.grownBy ((w6.setCell ⟨w.heap.size, 0, none⟩ (.slice ka vs.length kc)).setCell ⟨w.heap.size, 1, none⟩ (.map (some mb))) (some w.heap.size) := grown_trans (HX1.out.put 0 (.slice ka vs.length kc)).2 ((HX1.out.put 0 (.slice ka vs.length kc)).1.put 1 (.map (some mb))).2
        refine ⟨(HX2.out.grown gr (fun k e => by cases e; exact hrl)).base (by omega), HX3.out.kept gr (by simp; omega), HX4.out.kept gr (by simp; omega), HX5.out.new (Gs.one (S := fun i => i = w.heap.size) gr (fun k e => (Option.some.inj e).symm)) (fun i e hi => by omega), by omega, ?_⟩
        intro e
        have := (World.ownsRow.lt HOVl.out mb e.symm).2
        omega
      go_wp2_with fail
      exact bodyPost_ret (v := .agg #[.slice ka vs.length kc, .map (some mb)]) (by have g0 := HA.out.two.1; have g1 := HA.out.two.2.1; simp [results, Tryz.results38, go_sem] at g0 g1 ⊢; simp [g0, g1]) rfl ⟨ka, kc, mb, rfl, HE.out⟩
  clear hK
  go_region_with (first | (go_at_call 52; refine (HN.out _ (by first | exact HB1.out | exact HB1.out.alloc HB1.out.size _)).mono ?_; rintro e w2 ⟨rfl, hb⟩; have hB2 : Below w.heap.size w w2 := (by first | exact HB1.out.trans (hb.mono HB1.out.size) | exact (HB1.out.alloc HB1.out.size _).trans (hb.mono (HB1.out.alloc HB1.out.size _).size)); obtain ⟨c2q, hL⟩ := HF.out _ hB2; have hL3 := (HF.out _ (hB2.alloc hB2.size zSh)).2; have c2r := (HF.out _ (hB2.alloc hB2.size zSh)).1; have HB2 := hidMk hB2; try (have hO := (Own.new (w.alloc zSh).drew 87 2 #[.slice none 0 0, .map none] rfl).later hb; rw [show (w.alloc zSh).drew.heap.size = w.heap.size + 1 by simp] at hO; obtain ⟨e0, e1, f0, f1⟩ := Own.two hO)))
  all_goals
    have hOw := HO.out.later (w' := w2) (by first | exact hb | exact ((Below.refl _ _).alloc (Nat.le_refl _) _).trans (hb.mono (by simp)))
    have hlw : w.heap.size < w2.heap.size := hOw.lt
    first
    | exact HKX.out w2.heap.size _ (Own.new w2 87 2 #[.slice none 0 0, .map none] rfl) (hOw.later (bel1 _ _)) (HB2.out.alloc HB2.out.size _) hlw
    | (have hO' := (Own.new (w.alloc zSh).drew 87 2 #[.slice none 0 0, .map none] rfl).later hb
       rw [show (w.alloc zSh).drew.heap.size = w.heap.size + 1 by simp] at hO'
       have p1 := hO'.put 0 (.slice none 0 0)
       have p2 := p1.1.put 1 (.map none)
       exact HKX.out (w.heap.size + 1) _ p2.1 ((hOw.grown p1.2 (by simp)).grown p2.2 (by simp)) ((HB2.out.grown p1.2 HB2.out.size (fun j e => by cases e; omega)).grown p2.2 (by simp; omega) (fun j e => by cases e; omega)) (by omega))
end Go.Proofs.YtobhccmnlmlapaaGreatDoor
