import Derived.Test.YtnmelljaangfiaaGreatDoorDrH
namespace Go.Proofs.YtnmelljaangfiaaGreatDoor.Dc
open Go.RowKit
set_option linter.unusedVariables false
set_option linter.unusedSimpArgs false
set_option maxRecDepth 100000

theorem notLit_of {t : Tk} (h : Wf t) {s : ByteArray} (hs : okS s) (e : t.tx = s) (h1 : s ≠ bTrue) (h2 : s ≠ bFalse) : ¬ isLit t := by
  rintro (h' | h' | h' | h')
  · rcases h.notNum hs.1 e with h3 | h3 <;> omega
  · rcases h.notNum hs.1 e with h3 | h3 <;> omega
  · exact h1 (e.symm.trans h')
  · exact h2 (e.symm.trans h')
theorem open_fin {L : ByteArray → Int → Int → ByteArray → Prop} {w w4 W : World} {lo g E p p4 lev PL K kb : Nat} {tks ts : List Tk} {X : ByteArray} {er bad : Int} (ho : PreOut L w4 lo E tks p p4 lev 0 PL kb er bad) (ht : tks.drop p = ⟨PL, K, X⟩ :: ts) (ht1 : tks.drop (p + 1) = ts) (hX : X = bOpen) (hw : ∀ t ∈ tks, Wf t)
    (hg : w.grownBy W (some g)) (hR : if er = 0 ∧ sgB (hd E (tks.drop p4)) bShut = true then RS W g E tks (p4 + 1) lev er bad else RS W g E tks p4 lev (orE er 1) (orB er bad (hd E (tks.drop p4)).pl)) (hlo : w.heap.size ≤ lo) (h4 : w4.heap.size ≤ W.heap.size) (hk : ∀ (b i : Nat) (u : Value), lo ≤ b → b < w4.heap.size → w4.cell? ⟨b, i, none⟩ = some u → W.cell? ⟨b, i, none⟩ = some u) :
    CPost L w g E tks p lev 6 (.returned (ptrE kb)) W := by
  have hwt : Wf ⟨PL, K, X⟩ := hw _ (List.mem_of_mem_drop (by rw [ht]; simp))
  have hnl : ¬ isLit ⟨PL, K, X⟩ := notLit_of hwt ok_open hX (by decide) (by decide)
  have hnm : (hd E (tks.drop p)).tx ≠ bMinus := by rw [ht]; simp only [hd]; rw [hX]; decide
  have hw4 : ∀ t' ∈ tks.drop p4, Wf t' := fun t' h' => hw t' (List.mem_of_mem_drop h')
  refine ⟨hg, kb, rfl, ?_⟩
  rcases ho with ⟨h1, h2, h3⟩ | ⟨h1, h2, h3, x, h4', h5⟩ | ⟨h1, f, h2, h3, h4', h5⟩
  · rw [if_neg (by rw [h2]; simp)] at hR
    refine .inr ⟨⟨PL, 4⟩, p4, by simp, ?_, .pnone (.inr ⟨rfl, rfl⟩) hnm ?_⟩
    · rw [h2, h3] at hR; exact hR
    · rw [ht, h1]; exact .odeep hnl hX
  · rw [h2, h3] at hR
    by_cases hc : sgB (hd E (tks.drop p4)) bShut = true
    · rw [if_pos ⟨rfl, hc⟩] at hR
      rw [sg_hd hw4 ok_shut] at hc
      have hc' : (hd E (tks.drop p4)).tx = bShut := of_decide_eq_true hc
      cases hd4 : tks.drop p4 with
      | nil => rw [hd4] at hc'; exact absurd hc' (by simp only [hd]; decide)
      | cons t1 ts1 =>
        rw [hd4] at hc'
        have h6 := (drop_cons hd4).1
        refine .inl ⟨x, p4 + 1, hR, .pnone (.inr ⟨rfl, rfl⟩) hnm ?_, Et.keep hk hlo h4 x _ h5⟩
        rw [ht, h6]
        rw [ht1, hd4] at h4'
        exact .ook hnl hX h1 h4' hc'
    · rw [if_neg (fun h => hc h.2)] at hR
      refine .inr ⟨⟨(hd E (tks.drop p4)).pl, 1⟩, p4, by simp, hR, .pnone (.inr ⟨rfl, rfl⟩) hnm ?_⟩
      rw [ht]
      rw [ht1] at h4'
      refine .oopen hnl hX h1 h4' (fun e => hc ?_)
      rw [sg_hd hw4 ok_shut]; exact decide_eq_true e
  · have h3' : er ≠ 0 := by omega
    rw [if_neg (fun h => h3' h.1)] at hR
    unfold orE orB at hR
    rw [if_neg h3', if_neg h3', h3, h4'] at hR
    refine .inr ⟨f, p4, h2, hR, .pnone (.inr ⟨rfl, rfl⟩) hnm ?_⟩
    rw [ht]
    rw [ht1] at h5
    exact .obad hnl hX h1 h5
set_option maxHeartbeats 8000000 in
theorem first_open {L : ByteArray → Int → Int → ByteArray → Prop} (g E p lev : Nat) (tks : List Tk) (t : Tk) (ts : List Tk) (w : World) (h : RS w g E tks p lev 0 0) (hlev : lev ≤ 12) (hw : ∀ t ∈ tks, Wf t) (ht : tks.drop p = t :: ts) (htx : t.tx = bOpen) (ih : ClimbOk L g E tks p) :
    Calls Tryz.prog 48 #[.pointer (some ⟨g, 0, none⟩)] w (CPost L w g E tks p lev 6) := by
  have hwt : ∀ t' ∈ tks.drop p, Wf t' := fun t' h' => hw t' (List.mem_of_mem_drop h')
  have HSm : Hid (∀ W, Below w.heap.size w W → Calls Tryz.prog 46 #[.pointer (some ⟨g, 0, none⟩), .string bMinus] W fun e w' => e = .returned (.bool false) ∧ Below W.heap.size W w') := fun W hW => by
    refine (sign_any g E p tks lev 0 0 bMinus W (h.later hW)).mono ?_
    rintro e w' ⟨rfl, hb⟩
    refine ⟨?_, hb⟩
    rw [sg_hd hwt ok_minus, ht]
    simp only [hd]
    have hne : ¬ t.tx = bMinus := by rw [htx]; decide
    simp [hne]
  have HSo : Hid (∀ W, Below w.heap.size w W → Calls Tryz.prog 46 #[.pointer (some ⟨g, 0, none⟩), .string bOpen] W fun e w' => e = .returned (.bool true) ∧ Below W.heap.size W w') := fun W hW => by
    refine (sign_any g E p tks lev 0 0 bOpen W (h.later hW)).mono ?_
    rintro e w' ⟨rfl, hb⟩
    refine ⟨?_, hb⟩
    rw [sg_hd hwt ok_open, ht]
    simp only [hd]
    simp [htx]
  obtain ⟨b, cap, hbg, hgl, c0, c1, c2, c3, c4, d0, d1, d2, hl⟩ := h.hd
  obtain ⟨ht1, hpl⟩ := drop_cons ht
  rw [ht] at d0 d1 d2
  simp only [hd] at d0 d1 d2
  have HR := hidMk h
  have HWF := hidMk hw
  have hbl : b < w.heap.size := by omega
  have hp0 : (0 : Int) ≤ (p : Int) := by omega
  have HT := hidMk ht
  have HT1 := hidMk ht1
  have hl200 := h.few
  clear h ht ht1 hwt hw
  have HX := hidMk htx
  have HIH := hidMk ih
  clear htx ih
  obtain ⟨PL, K, X⟩ := t
  simp only at *
  generalize srt K = KK at *
  unfold bMinus at HSm
  unfold bOpen at HSo
  go_enter Tryz.func48, Tryz.ntmps48
  go_wp2
  go_region_held3 (fun w' => w'.cell? ⟨g, 0, none⟩ = some (.slice (some ⟨b, 0, none⟩) (tks.length + 1) cap) ∧ w'.cell? ⟨g, 1, none⟩ = some (.int .i64 p) ∧ w'.cell? ⟨b, p * 3, none⟩ = some (.int .u8 KK) ∧ w'.cell? ⟨b, p * 3 + 1, none⟩ = some (.string X) ∧ w'.cell? ⟨b, p * 3 + 2, none⟩ = some (.int .i64 PL)) (first | go_keep) (first | fail)
  clear c0 c1 c2 c4 d0 d1 d2
  go_wp2_with fail
  refine (HSm.out _ (xbel1 _ _).drew).mono ?_
  rintro e w0 ⟨rfl, hb0⟩
  have HB0 : Hid (Below w.heap.size w w0) := (xbel1 _ _).drew.trans (hb0.mono (by simp))
  have HTo0 : Hid (OTk w0 w.heap.size KK X PL) := (OTk.new w KK X PL).later hb0
  clear hb0 HSm
  go_wp2_with fail
  refine (HSo.out _ HB0.out).mono ?_
  rintro e w1 ⟨rfl, hb1⟩
  have HB1 : Hid (Below w.heap.size w w1) := HB0.out.trans (hb1.mono HB0.out.size)
  have HTo1 : Hid (OTk w1 w.heap.size KK X PL) := Own.later HTo0.out hb1
  have HR1 : Hid (RS w1 g E tks p lev 0 0) := HR.out.later HB1.out
  clear hb1 HSo HR HB0 HTo0
  go_wp2_with fail
  refine (in_any g E p lev tks 0 0 w1 HR1.out hlev).mono ?_
  rintro e w2 ⟨rfl, hg2, hr2⟩
  have HG2 : Hid (w.grownBy w2 (some g)) := xgTrans (xgBelow HB1.out) hg2
  clear hg2 HTo1 HR1 HB1
  have hN2 : w.heap.size ≤ w2.heap.size := HG2.out.size
  have KEY : Hid (∃ er2 bad2 : Int, RS w2 g E tks p (lev + 1 : Nat) er2 bad2 ∧ ∀ W, RS W g E tks (p + 1) (lev + 1 : Nat) er2 bad2 → W.heap.size = w2.heap.size → Calls Tryz.prog 21 #[.pointer (some ⟨g, 0, none⟩), .int .i64 0] W fun e w' => W.grownBy w' (some g) ∧ ∃ kb p4 er bad, e = .returned (ptrE kb) ∧ RS w' g E tks p4 (lev + 1 : Nat) er bad ∧ PreOut L w' w2.heap.size E tks p p4 lev 0 PL kb er bad) := by
    by_cases q : lev = 12
    · rw [if_pos q] at hr2
      have hd1 : (hd E (tks.drop p)).pl = PL := by rw [HT.out]; rfl
      rw [hd1] at hr2
      refine ⟨4, PL, hr2, fun W hW hsz => ?_⟩
      refine (climb_err g E (p + 1) tks _ 4 PL 0 W hW (by decide)).mono ?_
      rintro e w' ⟨hb, kb, rfl⟩
      exact ⟨xgBelow hb, kb, p + 1, 4, PL, rfl, hW.later hb, .inl ⟨q, rfl, rfl⟩⟩
    · rw [if_neg q] at hr2
      refine ⟨0, 0, hr2, fun W hW hsz => ?_⟩
      refine (HIH.out (p + 1) (lev + 1) 0 0 W (by omega) (by omega) (by omega) (by omega) (.inr ⟨rfl, rfl⟩) hW).mono ?_
      rintro e w' ⟨hg, kb, rfl, ⟨x, p4, h1, h2, h3⟩ | ⟨f, p4, h1, h2, h3⟩⟩
      · exact ⟨hg, kb, p4, 0, 0, rfl, h1, .inr (.inl ⟨q, rfl, rfl, x, h2, by rw [← hsz]; exact h3⟩)⟩
      · exact ⟨hg, kb, p4, _, _, rfl, h2, .inr (.inr ⟨q, f, h1, rfl, rfl, h3⟩)⟩
  clear hr2 HIH
  obtain ⟨er2, bad2, hr2, hcall⟩ := KEY.out
  have HCALL := hidMk hcall
  clear KEY hcall
  obtain ⟨a1, a2, a3, f1, f2, hgl2⟩ := hr2.f
  have HR3 : Hid (RS (w2.setCell ⟨g, 1, none⟩ (.int .i64 ((p + 1 : Nat) : Int))) g E tks (p + 1) (lev + 1 : Nat) er2 bad2) := hr2.put1 (by omega)
  have HG3 : Hid (w.grownBy (w2.setCell ⟨g, 1, none⟩ (.int .i64 ((p + 1 : Nat) : Int))) (some g)) := xgTrans HG2.out (xgSet _ _ _)
  clear hr2 HG2
  rw [show ((p + 1 : Nat) : Int) = (p : Int) + 1 by omega] at HR3 HG3
  go_wp2_with fail
  refine (HCALL.out _ HR3.out (by simp)).mono ?_
  rintro e w4 ⟨hg4, kb, p4, er, bad, rfl, hr4, hout⟩
  have HOUT := hidMk hout
  have HG4 : Hid (w.grownBy w4 (some g)) := xgTrans HG3.out hg4
  have hN4 : w2.heap.size ≤ w4.heap.size := by have := hg4.size; simpa using this
  have HR4 := hidMk hr4
  clear hout hg4 HR3 HCALL a1 a2 a3 f1 f2 hr4
  unfold ptrE
  go_wp2_with fail
  refine (close_any g E p4 tks _ er bad w4 HR4.out (fun hc => by
    rw [sg_hd (fun t' h' => HWF.out t' (List.mem_of_mem_drop h')) ok_shut] at hc
    have hc' : (hd E (tks.drop p4)).tx = bShut := of_decide_eq_true hc
    cases hd4 : tks.drop p4 with
    | nil => rw [hd4] at hc'; exact absurd hc' (by simp only [hd]; decide)
    | cons t1 ts1 => exact (drop_cons hd4).2)).mono ?_
  rintro e w5 ⟨rfl, hg5, hr5⟩
  have HG5 : Hid (w.grownBy w5 (some g)) := xgTrans HG4.out hg5
  have HK5 := hidMk hg5
  have hN5 : w4.heap.size ≤ w5.heap.size := hg5.size
  have KEY2 : Hid (∃ p5 er5 bad5, RS w5 g E tks p5 (lev + 1 : Nat) er5 bad5 ∧ ∀ W, RS W g E tks p5 (lev : Nat) er5 bad5 → if er = 0 ∧ sgB (hd E (tks.drop p4)) bShut = true then RS W g E tks (p4 + 1) lev er bad else RS W g E tks p4 lev (orE er 1) (orB er bad (hd E (tks.drop p4)).pl)) := by
    by_cases hc : er = 0 ∧ sgB (hd E (tks.drop p4)) bShut = true
    · rw [if_pos hc] at hr5
      exact ⟨_, _, _, hr5, fun W hW => by rw [if_pos hc]; exact hW⟩
    · rw [if_neg hc] at hr5
      exact ⟨_, _, _, hr5, fun W hW => by rw [if_neg hc]; exact hW⟩
  clear hr5 hg5 HR4 HG4
  obtain ⟨p5, er5, bad5, hr5, hback⟩ := KEY2.out
  have HBK := hidMk hback
  clear KEY2 hback
  obtain ⟨a1, a2, a3, f1, f2, hgl5⟩ := hr5.f
  have HR6 : Hid (RS (w5.setCell ⟨g, 2, none⟩ (.int .i64 (lev : Int))) g E tks p5 lev er5 bad5) := hr5.put2
  have HG6 : Hid (w.grownBy (w5.setCell ⟨g, 2, none⟩ (.int .i64 (lev : Int))) (some g)) := xgTrans HG5.out (xgSet _ _ _)
  have HK6 : Hid (w4.grownBy (w5.setCell ⟨g, 2, none⟩ (.int .i64 (lev : Int))) (some g)) := xgTrans HK5.out (xgSet _ _ _)
  clear hr5
  go_wp2_with fail
  go_ret
  exact open_fin HOUT.out HT.out HT1.out HX.out HWF.out HG6.out (HBK.out _ HR6.out) hN2 (by simp; omega) (keepG HK6.out hgl2)
end Go.Proofs.YtnmelljaangfiaaGreatDoor.Dc
