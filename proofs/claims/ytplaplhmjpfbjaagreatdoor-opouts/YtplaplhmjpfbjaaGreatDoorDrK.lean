import Derived.Test.YtplaplhmjpfbjaaGreatDoorDrJ
namespace Go.Proofs.YtplaplhmjpfbjaaGreatDoor.Dc
open Go.RowKit
set_option linter.unusedVariables false
set_option linter.unusedSimpArgs false
set_option maxRecDepth 100000

theorem RS.put11 {w : World} {g E p : Nat} {tks : List Tk} {lev er bad : Int} {v : Value} (h : RS w g E tks p lev er bad) : RS ((w.setCell ⟨g, 1, none⟩ v).setCell ⟨g, 1, none⟩ (.int .i64 p)) g E tks p lev er bad := by
  obtain ⟨b, cap, h1, h2, h3, h4, h5⟩ := h
  have k1 := h1.put 1 v
  have k2 := k1.1.put 1 (.int .i64 p)
  exact ⟨b, cap, k2.1, h2, (h3.grown k1.2 (fun e => by simp at e; omega)).grown k2.2 (fun e => by simp at e; omega), h4, h5⟩
set_option maxHeartbeats 8000000 in
theorem first_none4 {L : ByteArray → Int → Int → ByteArray → Prop} (g E p lev : Nat) (tks : List Tk) (t : Tk) (w : World) (h : RS w g E tks p lev 0 0) (hw : ∀ t ∈ tks, Wf t) (hh : hd E (tks.drop p) = t) (hkd : t.kd = 4) (hbMinus : t.tx ≠ bMinus) (hbOpen : t.tx ≠ bOpen) (hps : Ps L E (.D 7) lev (tks.drop p) (.error ⟨t.pl, 1⟩)) :
    Calls Tryz.prog 75 #[.pointer (some ⟨g, 0, none⟩)] w (CPost L w g E tks p lev 6) := by
  have hwt : ∀ t' ∈ tks.drop p, Wf t' := fun t' h' => hw t' (List.mem_of_mem_drop h')
  have HSm : Hid (∀ W, Below w.heap.size w W → Calls Tryz.prog 73 #[.pointer (some ⟨g, 0, none⟩), .string bMinus] W fun e w' => e = .returned (.bool false) ∧ Below W.heap.size W w') := fun W hW => by
    refine (sign_any g E p tks lev 0 0 bMinus W (h.later hW)).mono ?_
    rintro e w' ⟨rfl, hb⟩
    refine ⟨?_, hb⟩
    rw [sg_hd hwt ok_minus, hh]
    have hne : ¬ t.tx = bMinus := hbMinus
    simp [hne]
  have HSo : Hid (∀ W, Below w.heap.size w W → Calls Tryz.prog 73 #[.pointer (some ⟨g, 0, none⟩), .string bOpen] W fun e w' => e = .returned (.bool false) ∧ Below W.heap.size W w') := fun W hW => by
    refine (sign_any g E p tks lev 0 0 bOpen W (h.later hW)).mono ?_
    rintro e w' ⟨rfl, hb⟩
    refine ⟨?_, hb⟩
    rw [sg_hd hwt ok_open, hh]
    have hne : ¬ t.tx = bOpen := hbOpen
    simp [hne]
  obtain ⟨b, cap, hbg, hgl, c0, c1, c2, c3, c4, d0, d1, d2, hl⟩ := h.hd
  rw [hh] at d0 d1 d2
  have HR := hidMk h
  have HWF := hidMk hw
  have hbl : b < w.heap.size := by omega
  have hp0 : (0 : Int) ≤ (p : Int) := by omega
  have HH := hidMk hh
  have hl200 := h.few
  have hpl := h.place
  clear h hh hwt hw
  have HX := hidMk hbMinus
  have HPS := hidMk hps
  have HWD : Hid (∀ W, Calls Tryz.prog 53 #[.string t.tx] W fun e w' => e = .returned (.bool (decide (res t.tx))) ∧ w' = W) := fun W => word_any t.tx W

  clear hbMinus hbOpen hps
  obtain ⟨PL, K, X⟩ := t
  simp only at *
  subst hkd
  simp only [srt] at d0
  generalize decide (res X) = RB at *
  unfold bMinus at HSm
  unfold bOpen at HSo
  go_enter Tryz.func75, Tryz.ntmps75
  go_wp2
  go_region_held3 (fun w' => w'.cell? ⟨g, 0, none⟩ = some (.slice (some ⟨b, 0, none⟩) (tks.length + 1) cap) ∧ w'.cell? ⟨g, 1, none⟩ = some (.int .i64 p) ∧ w'.cell? ⟨b, p * 3, none⟩ = some (.int .u8 111) ∧ w'.cell? ⟨b, p * 3 + 1, none⟩ = some (.string X) ∧ w'.cell? ⟨b, p * 3 + 2, none⟩ = some (.int .i64 PL)) (first | go_keep) (first | fail)
  clear c0 c1 c2 c4 d0 d1 d2
  go_wp2_with fail
  refine (HSm.out _ (xbel1 _ _).drew).mono ?_
  rintro e w0 ⟨rfl, hb0⟩
  have HB0 : Hid (Below w.heap.size w w0) := (xbel1 _ _).drew.trans (hb0.mono (by simp))
  have HTo0 : Hid (OTk w0 w.heap.size 111 X PL) := (OTk.new w 111 X PL).later hb0
  clear hb0 HSm
  go_wp2_with fail
  refine (HSo.out _ HB0.out).mono ?_
  rintro e w1 ⟨rfl, hb1⟩
  have HB1 : Hid (Below w.heap.size w w1) := HB0.out.trans (hb1.mono HB0.out.size)
  have HTo1 : Hid (OTk w1 w.heap.size 111 X PL) := Own.later HTo0.out hb1
  have HR1 : Hid (RS w1 g E tks p lev 0 0) := HR.out.later HB1.out
  clear hb1 HSo HR HB0 HTo0
  obtain ⟨a1, a2, a3, f1, f2, hgl1⟩ := HR1.out.f
  obtain ⟨t0, t1, t2, htl⟩ := HTo1.out.cells
  have hgw : ¬ w.heap.size = g := by omega
  have HR2 : Hid (RS ((w1.setCell ⟨g, 1, none⟩ (.int .i64 ((p : Int) + 1))).setCell ⟨g, 1, none⟩ (.int .i64 p)) g E tks p lev 0 0) := HR1.out.put11
  have HG2 : Hid (w.grownBy ((w1.setCell ⟨g, 1, none⟩ (.int .i64 ((p : Int) + 1))).setCell ⟨g, 1, none⟩ (.int .i64 p)) (some g)) := xgTrans (xgTrans (xgBelow HB1.out) (xgSet _ _ _)) (xgSet _ _ _)
  have HTo2 : Hid (OTk ((w1.setCell ⟨g, 1, none⟩ (.int .i64 ((p : Int) + 1))).setCell ⟨g, 1, none⟩ (.int .i64 p)) w.heap.size 111 X PL) := Own.grown (Own.grown HTo1.out (xgSet _ _ _) (by simp; omega)) (xgSet _ _ _) (by simp; omega)
  clear HR1 HB1 HTo1
  go_wp2_with fail
  refine (HWD.out _).mono ?_
  rintro e w3 ⟨rfl, hw3⟩
  subst hw3
  go_wp2_with fail
  refine (fail_any g E p tks lev 0 0 _ _ _ HR2.out).mono ?_
  rintro e w4 ⟨rfl, hg4, hr4⟩
  have HR4 : Hid (RS w4 g E tks p lev 1 PL) := hr4
  have HG4 : Hid (w.grownBy w4 (some g)) := xgTrans HG2.out hg4
  clear hr4 hg4 HR2 HG2 HTo2 a1 a2 a3 f1 f2 t0 t1 t2
  go_wp2_with fail
  go_ret
  exact bad_fin (f := ⟨PL, 1⟩) (p' := p) (by rw [HH.out]; exact HX.out) (by simp) HPS.out (xgTrans HG4.out (xgBelow (xbel1 _ _))) (HR4.out.later (xbel1 _ _))
set_option maxHeartbeats 8000000 in
theorem first_none0 {L : ByteArray → Int → Int → ByteArray → Prop} (g E p lev : Nat) (tks : List Tk) (t : Tk) (w : World) (h : RS w g E tks p lev 0 0) (hw : ∀ t ∈ tks, Wf t) (hh : hd E (tks.drop p) = t) (hkd : t.kd = 0) (hbMinus : t.tx ≠ bMinus) (hbOpen : t.tx ≠ bOpen) (hps : Ps L E (.D 7) lev (tks.drop p) (.error ⟨t.pl, 1⟩)) :
    Calls Tryz.prog 75 #[.pointer (some ⟨g, 0, none⟩)] w (CPost L w g E tks p lev 6) := by
  have hwt : ∀ t' ∈ tks.drop p, Wf t' := fun t' h' => hw t' (List.mem_of_mem_drop h')
  have HSm : Hid (∀ W, Below w.heap.size w W → Calls Tryz.prog 73 #[.pointer (some ⟨g, 0, none⟩), .string bMinus] W fun e w' => e = .returned (.bool false) ∧ Below W.heap.size W w') := fun W hW => by
    refine (sign_any g E p tks lev 0 0 bMinus W (h.later hW)).mono ?_
    rintro e w' ⟨rfl, hb⟩
    refine ⟨?_, hb⟩
    rw [sg_hd hwt ok_minus, hh]
    have hne : ¬ t.tx = bMinus := hbMinus
    simp [hne]
  have HSo : Hid (∀ W, Below w.heap.size w W → Calls Tryz.prog 73 #[.pointer (some ⟨g, 0, none⟩), .string bOpen] W fun e w' => e = .returned (.bool false) ∧ Below W.heap.size W w') := fun W hW => by
    refine (sign_any g E p tks lev 0 0 bOpen W (h.later hW)).mono ?_
    rintro e w' ⟨rfl, hb⟩
    refine ⟨?_, hb⟩
    rw [sg_hd hwt ok_open, hh]
    have hne : ¬ t.tx = bOpen := hbOpen
    simp [hne]
  obtain ⟨b, cap, hbg, hgl, c0, c1, c2, c3, c4, d0, d1, d2, hl⟩ := h.hd
  rw [hh] at d0 d1 d2
  have HR := hidMk h
  have HWF := hidMk hw
  have hbl : b < w.heap.size := by omega
  have hp0 : (0 : Int) ≤ (p : Int) := by omega
  have HH := hidMk hh
  have hl200 := h.few
  have hpl := h.place
  clear h hh hwt hw
  have HX := hidMk hbMinus
  have HPS := hidMk hps
  have HWD : Hid (∀ W, Calls Tryz.prog 53 #[.string t.tx] W fun e w' => e = .returned (.bool (decide (res t.tx))) ∧ w' = W) := fun W => word_any t.tx W

  clear hbMinus hbOpen hps
  obtain ⟨PL, K, X⟩ := t
  simp only at *
  subst hkd
  simp only [srt] at d0
  generalize decide (res X) = RB at *
  unfold bMinus at HSm
  unfold bOpen at HSo
  go_enter Tryz.func75, Tryz.ntmps75
  go_wp2
  go_region_held3 (fun w' => w'.cell? ⟨g, 0, none⟩ = some (.slice (some ⟨b, 0, none⟩) (tks.length + 1) cap) ∧ w'.cell? ⟨g, 1, none⟩ = some (.int .i64 p) ∧ w'.cell? ⟨b, p * 3, none⟩ = some (.int .u8 101) ∧ w'.cell? ⟨b, p * 3 + 1, none⟩ = some (.string X) ∧ w'.cell? ⟨b, p * 3 + 2, none⟩ = some (.int .i64 PL)) (first | go_keep) (first | fail)
  clear c0 c1 c2 c4 d0 d1 d2
  go_wp2_with fail
  refine (HSm.out _ (xbel1 _ _).drew).mono ?_
  rintro e w0 ⟨rfl, hb0⟩
  have HB0 : Hid (Below w.heap.size w w0) := (xbel1 _ _).drew.trans (hb0.mono (by simp))
  have HTo0 : Hid (OTk w0 w.heap.size 101 X PL) := (OTk.new w 101 X PL).later hb0
  clear hb0 HSm
  go_wp2_with fail
  refine (HSo.out _ HB0.out).mono ?_
  rintro e w1 ⟨rfl, hb1⟩
  have HB1 : Hid (Below w.heap.size w w1) := HB0.out.trans (hb1.mono HB0.out.size)
  have HTo1 : Hid (OTk w1 w.heap.size 101 X PL) := Own.later HTo0.out hb1
  have HR1 : Hid (RS w1 g E tks p lev 0 0) := HR.out.later HB1.out
  clear hb1 HSo HR HB0 HTo0
  obtain ⟨a1, a2, a3, f1, f2, hgl1⟩ := HR1.out.f
  obtain ⟨t0, t1, t2, htl⟩ := HTo1.out.cells
  have hgw : ¬ w.heap.size = g := by omega
  have HR2 : Hid (RS ((w1.setCell ⟨g, 1, none⟩ (.int .i64 ((p : Int) + 1))).setCell ⟨g, 1, none⟩ (.int .i64 p)) g E tks p lev 0 0) := HR1.out.put11
  have HG2 : Hid (w.grownBy ((w1.setCell ⟨g, 1, none⟩ (.int .i64 ((p : Int) + 1))).setCell ⟨g, 1, none⟩ (.int .i64 p)) (some g)) := xgTrans (xgTrans (xgBelow HB1.out) (xgSet _ _ _)) (xgSet _ _ _)
  have HTo2 : Hid (OTk ((w1.setCell ⟨g, 1, none⟩ (.int .i64 ((p : Int) + 1))).setCell ⟨g, 1, none⟩ (.int .i64 p)) w.heap.size 101 X PL) := Own.grown (Own.grown HTo1.out (xgSet _ _ _) (by simp; omega)) (xgSet _ _ _) (by simp; omega)
  clear HR1 HB1 HTo1
  go_wp2_with fail
  refine (HWD.out _).mono ?_
  rintro e w3 ⟨rfl, hw3⟩
  subst hw3
  go_wp2_with fail
  refine (fail_any g E p tks lev 0 0 _ _ _ HR2.out).mono ?_
  rintro e w4 ⟨rfl, hg4, hr4⟩
  have HR4 : Hid (RS w4 g E tks p lev 1 PL) := hr4
  have HG4 : Hid (w.grownBy w4 (some g)) := xgTrans HG2.out hg4
  clear hr4 hg4 HR2 HG2 HTo2 a1 a2 a3 f1 f2 t0 t1 t2
  go_wp2_with fail
  go_ret
  exact bad_fin (f := ⟨PL, 1⟩) (p' := p) (by rw [HH.out]; exact HX.out) (by simp) HPS.out (xgTrans HG4.out (xgBelow (xbel1 _ _))) (HR4.out.later (xbel1 _ _))
set_option maxHeartbeats 8000000 in
theorem first_none1 {L : ByteArray → Int → Int → ByteArray → Prop} (g E p lev : Nat) (tks : List Tk) (t : Tk) (w : World) (h : RS w g E tks p lev 0 0) (hw : ∀ t ∈ tks, Wf t) (hh : hd E (tks.drop p) = t) (hkd : t.kd = 1) (hnT : t.tx ≠ bTrue) (hnF : t.tx ≠ bFalse) (hres : res t.tx) (hbMinus : t.tx ≠ bMinus) (hbOpen : t.tx ≠ bOpen) (hps : Ps L E (.D 7) lev (tks.drop p) (.error ⟨t.pl, 1⟩)) :
    Calls Tryz.prog 75 #[.pointer (some ⟨g, 0, none⟩)] w (CPost L w g E tks p lev 6) := by
  have hwt : ∀ t' ∈ tks.drop p, Wf t' := fun t' h' => hw t' (List.mem_of_mem_drop h')
  have HSm : Hid (∀ W, Below w.heap.size w W → Calls Tryz.prog 73 #[.pointer (some ⟨g, 0, none⟩), .string bMinus] W fun e w' => e = .returned (.bool false) ∧ Below W.heap.size W w') := fun W hW => by
    refine (sign_any g E p tks lev 0 0 bMinus W (h.later hW)).mono ?_
    rintro e w' ⟨rfl, hb⟩
    refine ⟨?_, hb⟩
    rw [sg_hd hwt ok_minus, hh]
    have hne : ¬ t.tx = bMinus := hbMinus
    simp [hne]
  have HSo : Hid (∀ W, Below w.heap.size w W → Calls Tryz.prog 73 #[.pointer (some ⟨g, 0, none⟩), .string bOpen] W fun e w' => e = .returned (.bool false) ∧ Below W.heap.size W w') := fun W hW => by
    refine (sign_any g E p tks lev 0 0 bOpen W (h.later hW)).mono ?_
    rintro e w' ⟨rfl, hb⟩
    refine ⟨?_, hb⟩
    rw [sg_hd hwt ok_open, hh]
    have hne : ¬ t.tx = bOpen := hbOpen
    simp [hne]
  obtain ⟨b, cap, hbg, hgl, c0, c1, c2, c3, c4, d0, d1, d2, hl⟩ := h.hd
  rw [hh] at d0 d1 d2
  have HR := hidMk h
  have HWF := hidMk hw
  have hbl : b < w.heap.size := by omega
  have hp0 : (0 : Int) ≤ (p : Int) := by omega
  have HH := hidMk hh
  have hl200 := h.few
  have hpl := h.place
  clear h hh hwt hw
  have HX := hidMk hbMinus
  have HPS := hidMk hps
  have HWD : Hid (∀ W, Calls Tryz.prog 53 #[.string t.tx] W fun e w' => e = .returned (.bool (decide (res t.tx))) ∧ w' = W) := fun W => word_any t.tx W
  have hx1 : (t.tx.toList == [116, 114, 117, 101]) = false := xnl hnT
  have hx2 : (t.tx.toList == [102, 97, 108, 115, 101]) = false := xnl hnF
  have hrs : decide (res t.tx) = true := decide_eq_true hres
  clear hbMinus hbOpen hps hnT hnF hres
  obtain ⟨PL, K, X⟩ := t
  simp only at *
  subst hkd
  simp only [srt] at d0
  rw [hrs] at HWD
  clear hrs
  unfold bMinus at HSm
  unfold bOpen at HSo
  go_enter Tryz.func75, Tryz.ntmps75
  go_wp2
  go_region_held3 (fun w' => w'.cell? ⟨g, 0, none⟩ = some (.slice (some ⟨b, 0, none⟩) (tks.length + 1) cap) ∧ w'.cell? ⟨g, 1, none⟩ = some (.int .i64 p) ∧ w'.cell? ⟨b, p * 3, none⟩ = some (.int .u8 110) ∧ w'.cell? ⟨b, p * 3 + 1, none⟩ = some (.string X) ∧ w'.cell? ⟨b, p * 3 + 2, none⟩ = some (.int .i64 PL)) (first | go_keep) (first | fail)
  clear c0 c1 c2 c4 d0 d1 d2
  go_wp2_with fail
  refine (HSm.out _ (xbel1 _ _).drew).mono ?_
  rintro e w0 ⟨rfl, hb0⟩
  have HB0 : Hid (Below w.heap.size w w0) := (xbel1 _ _).drew.trans (hb0.mono (by simp))
  have HTo0 : Hid (OTk w0 w.heap.size 110 X PL) := (OTk.new w 110 X PL).later hb0
  clear hb0 HSm
  go_wp2_with fail
  refine (HSo.out _ HB0.out).mono ?_
  rintro e w1 ⟨rfl, hb1⟩
  have HB1 : Hid (Below w.heap.size w w1) := HB0.out.trans (hb1.mono HB0.out.size)
  have HTo1 : Hid (OTk w1 w.heap.size 110 X PL) := Own.later HTo0.out hb1
  have HR1 : Hid (RS w1 g E tks p lev 0 0) := HR.out.later HB1.out
  clear hb1 HSo HR HB0 HTo0
  obtain ⟨a1, a2, a3, f1, f2, hgl1⟩ := HR1.out.f
  obtain ⟨t0, t1, t2, htl⟩ := HTo1.out.cells
  have hgw : ¬ w.heap.size = g := by omega
  have HR2 : Hid (RS ((w1.setCell ⟨g, 1, none⟩ (.int .i64 ((p : Int) + 1))).setCell ⟨g, 1, none⟩ (.int .i64 p)) g E tks p lev 0 0) := HR1.out.put11
  have HG2 : Hid (w.grownBy ((w1.setCell ⟨g, 1, none⟩ (.int .i64 ((p : Int) + 1))).setCell ⟨g, 1, none⟩ (.int .i64 p)) (some g)) := xgTrans (xgTrans (xgBelow HB1.out) (xgSet _ _ _)) (xgSet _ _ _)
  have HTo2 : Hid (OTk ((w1.setCell ⟨g, 1, none⟩ (.int .i64 ((p : Int) + 1))).setCell ⟨g, 1, none⟩ (.int .i64 p)) w.heap.size 110 X PL) := Own.grown (Own.grown HTo1.out (xgSet _ _ _) (by simp; omega)) (xgSet _ _ _) (by simp; omega)
  clear HR1 HB1 HTo1
  go_wp2_with fail
  refine (HWD.out _).mono ?_
  rintro e w3 ⟨rfl, hw3⟩
  subst hw3
  go_wp2_with fail
  refine (fail_any g E p tks lev 0 0 _ _ _ HR2.out).mono ?_
  rintro e w4 ⟨rfl, hg4, hr4⟩
  have HR4 : Hid (RS w4 g E tks p lev 1 PL) := hr4
  have HG4 : Hid (w.grownBy w4 (some g)) := xgTrans HG2.out hg4
  clear hr4 hg4 HR2 HG2 HTo2 a1 a2 a3 f1 f2 t0 t1 t2
  go_wp2_with fail
  go_ret
  exact bad_fin (f := ⟨PL, 1⟩) (p' := p) (by rw [HH.out]; exact HX.out) (by simp) HPS.out (xgTrans HG4.out (xgBelow (xbel1 _ _))) (HR4.out.later (xbel1 _ _))
set_option maxHeartbeats 8000000 in
theorem first_long {L : ByteArray → Int → Int → ByteArray → Prop} (g E p lev : Nat) (tks : List Tk) (t : Tk) (w : World) (h : RS w g E tks p lev 0 0) (hw : ∀ t ∈ tks, Wf t) (hh : hd E (tks.drop p) = t) (hp1 : p < tks.length) (hkd : t.kd = 1) (hnT : t.tx ≠ bTrue) (hnF : t.tx ≠ bFalse) (hres : ¬ res t.tx) (hsz : 12 < t.tx.size) (hbMinus : t.tx ≠ bMinus) (hbOpen : t.tx ≠ bOpen) (hps : Ps L E (.D 7) lev (tks.drop p) (.error ⟨t.pl, 4⟩)) :
    Calls Tryz.prog 75 #[.pointer (some ⟨g, 0, none⟩)] w (CPost L w g E tks p lev 6) := by
  have hwt : ∀ t' ∈ tks.drop p, Wf t' := fun t' h' => hw t' (List.mem_of_mem_drop h')
  have HSm : Hid (∀ W, Below w.heap.size w W → Calls Tryz.prog 73 #[.pointer (some ⟨g, 0, none⟩), .string bMinus] W fun e w' => e = .returned (.bool false) ∧ Below W.heap.size W w') := fun W hW => by
    refine (sign_any g E p tks lev 0 0 bMinus W (h.later hW)).mono ?_
    rintro e w' ⟨rfl, hb⟩
    refine ⟨?_, hb⟩
    rw [sg_hd hwt ok_minus, hh]
    have hne : ¬ t.tx = bMinus := hbMinus
    simp [hne]
  have HSo : Hid (∀ W, Below w.heap.size w W → Calls Tryz.prog 73 #[.pointer (some ⟨g, 0, none⟩), .string bOpen] W fun e w' => e = .returned (.bool false) ∧ Below W.heap.size W w') := fun W hW => by
    refine (sign_any g E p tks lev 0 0 bOpen W (h.later hW)).mono ?_
    rintro e w' ⟨rfl, hb⟩
    refine ⟨?_, hb⟩
    rw [sg_hd hwt ok_open, hh]
    have hne : ¬ t.tx = bOpen := hbOpen
    simp [hne]
  obtain ⟨b, cap, hbg, hgl, c0, c1, c2, c3, c4, d0, d1, d2, hl⟩ := h.hd
  rw [hh] at d0 d1 d2
  have HR := hidMk h
  have HWF := hidMk hw
  have hbl : b < w.heap.size := by omega
  have hp0 : (0 : Int) ≤ (p : Int) := by omega
  have HH := hidMk hh
  have hl200 := h.few
  have hpl := h.place
  clear h hh hwt hw
  have HX := hidMk hbMinus
  have HPS := hidMk hps
  have HWD : Hid (∀ W, Calls Tryz.prog 53 #[.string t.tx] W fun e w' => e = .returned (.bool (decide (res t.tx))) ∧ w' = W) := fun W => word_any t.tx W
  have hx1 : (t.tx.toList == [116, 114, 117, 101]) = false := xnl hnT
  have hx2 : (t.tx.toList == [102, 97, 108, 115, 101]) = false := xnl hnF
  rw [decide_eq_false hres] at HWD
  have hszi : (12 : Int) < (t.tx.size : Int) := by omega
  clear hbMinus hbOpen hps hnT hnF hres hsz
  obtain ⟨PL, K, X⟩ := t
  simp only at *
  subst hkd
  simp only [srt] at d0
  unfold bMinus at HSm
  unfold bOpen at HSo
  go_enter Tryz.func75, Tryz.ntmps75
  go_wp2
  go_region_held3 (fun w' => w'.cell? ⟨g, 0, none⟩ = some (.slice (some ⟨b, 0, none⟩) (tks.length + 1) cap) ∧ w'.cell? ⟨g, 1, none⟩ = some (.int .i64 p) ∧ w'.cell? ⟨b, p * 3, none⟩ = some (.int .u8 110) ∧ w'.cell? ⟨b, p * 3 + 1, none⟩ = some (.string X) ∧ w'.cell? ⟨b, p * 3 + 2, none⟩ = some (.int .i64 PL)) (first | go_keep) (first | fail)
  clear c0 c1 c2 c4 d0 d1 d2
  go_wp2_with fail
  refine (HSm.out _ (xbel1 _ _).drew).mono ?_
  rintro e w0 ⟨rfl, hb0⟩
  have HB0 : Hid (Below w.heap.size w w0) := (xbel1 _ _).drew.trans (hb0.mono (by simp))
  have HTo0 : Hid (OTk w0 w.heap.size 110 X PL) := (OTk.new w 110 X PL).later hb0
  clear hb0 HSm
  go_wp2_with fail
  refine (HSo.out _ HB0.out).mono ?_
  rintro e w1 ⟨rfl, hb1⟩
  have HB1 : Hid (Below w.heap.size w w1) := HB0.out.trans (hb1.mono HB0.out.size)
  have HTo1 : Hid (OTk w1 w.heap.size 110 X PL) := Own.later HTo0.out hb1
  have HR1 : Hid (RS w1 g E tks p lev 0 0) := HR.out.later HB1.out
  clear hb1 HSo HR HB0 HTo0
  obtain ⟨a1, a2, a3, f1, f2, hgl1⟩ := HR1.out.f
  obtain ⟨t0, t1, t2, htl⟩ := HTo1.out.cells
  have hgw : ¬ w.heap.size = g := by omega
  have HR2 : Hid (RS (w1.setCell ⟨g, 1, none⟩ (.int .i64 ((p + 1 : Nat) : Int))) g E tks (p + 1) lev 0 0) := HR1.out.put1 (by omega)
  have HG2 : Hid (w.grownBy (w1.setCell ⟨g, 1, none⟩ (.int .i64 ((p + 1 : Nat) : Int))) (some g)) := xgTrans (xgBelow HB1.out) (xgSet _ _ _)
  rw [show ((p + 1 : Nat) : Int) = (p : Int) + 1 by omega] at HR2 HG2
  clear HR1 HB1 HTo1
  go_wp2_with fail
  refine (HWD.out _).mono ?_
  rintro e w3 ⟨rfl, hw3⟩
  subst hw3
  go_wp2_with fail
  refine (fail_any g E (p + 1) tks lev 0 0 _ _ _ HR2.out).mono ?_
  rintro e w4 ⟨rfl, hg4, hr4⟩
  have HR4 : Hid (RS w4 g E tks (p + 1) lev 4 PL) := hr4
  have HG4 : Hid (w.grownBy w4 (some g)) := xgTrans HG2.out hg4
  clear hr4 hg4 HR2 HG2 a1 a2 a3 f1 f2 t0 t1 t2
  go_wp2_with fail
  go_ret
  exact bad_fin (f := ⟨PL, 4⟩) (p' := p + 1) (by rw [HH.out]; exact HX.out) (by simp) HPS.out (xgTrans HG4.out (xgBelow (xbel1 _ _))) (HR4.out.later (xbel1 _ _))
set_option maxHeartbeats 8000000 in
theorem first_col {L : ByteArray → Int → Int → ByteArray → Prop} (g E p lev : Nat) (tks : List Tk) (t : Tk) (w : World) (h : RS w g E tks p lev 0 0) (hw : ∀ t ∈ tks, Wf t) (hh : hd E (tks.drop p) = t) (hp1 : p < tks.length) (hkd : t.kd = 1) (hnT : t.tx ≠ bTrue) (hnF : t.tx ≠ bFalse) (hres : ¬ res t.tx) (hsz : t.tx.size ≤ 12) (hno : (hd E (tks.drop (p + 1))).tx ≠ bOpen) (hbMinus : t.tx ≠ bMinus) (hbOpen : t.tx ≠ bOpen) (hps : Ps L E (.D 7) lev (tks.drop p) (.ok (.col t.pl t.tx, tks.drop (p + 1)))) :
    Calls Tryz.prog 75 #[.pointer (some ⟨g, 0, none⟩)] w (CPost L w g E tks p lev 6) := by
  have hwt : ∀ t' ∈ tks.drop p, Wf t' := fun t' h' => hw t' (List.mem_of_mem_drop h')
  have HSm : Hid (∀ W, Below w.heap.size w W → Calls Tryz.prog 73 #[.pointer (some ⟨g, 0, none⟩), .string bMinus] W fun e w' => e = .returned (.bool false) ∧ Below W.heap.size W w') := fun W hW => by
    refine (sign_any g E p tks lev 0 0 bMinus W (h.later hW)).mono ?_
    rintro e w' ⟨rfl, hb⟩
    refine ⟨?_, hb⟩
    rw [sg_hd hwt ok_minus, hh]
    have hne : ¬ t.tx = bMinus := hbMinus
    simp [hne]
  have HSo : Hid (∀ W, Below w.heap.size w W → Calls Tryz.prog 73 #[.pointer (some ⟨g, 0, none⟩), .string bOpen] W fun e w' => e = .returned (.bool false) ∧ Below W.heap.size W w') := fun W hW => by
    refine (sign_any g E p tks lev 0 0 bOpen W (h.later hW)).mono ?_
    rintro e w' ⟨rfl, hb⟩
    refine ⟨?_, hb⟩
    rw [sg_hd hwt ok_open, hh]
    have hne : ¬ t.tx = bOpen := hbOpen
    simp [hne]
  obtain ⟨b, cap, hbg, hgl, c0, c1, c2, c3, c4, d0, d1, d2, hl⟩ := h.hd
  rw [hh] at d0 d1 d2
  have HR := hidMk h
  have HWF := hidMk hw
  have hbl : b < w.heap.size := by omega
  have hp0 : (0 : Int) ≤ (p : Int) := by omega
  have HH := hidMk hh
  have hl200 := h.few
  have hpl := h.place
  clear h hh hwt hw
  have HX := hidMk hbMinus
  have HPS := hidMk hps
  have HWD : Hid (∀ W, Calls Tryz.prog 53 #[.string t.tx] W fun e w' => e = .returned (.bool (decide (res t.tx))) ∧ w' = W) := fun W => word_any t.tx W
  have hx1 : (t.tx.toList == [116, 114, 117, 101]) = false := xnl hnT
  have hx2 : (t.tx.toList == [102, 97, 108, 115, 101]) = false := xnl hnF
  rw [decide_eq_false hres] at HWD
  have hszi : ¬ (12 : Int) < (t.tx.size : Int) := by omega
  have HNO := hidMk hno
  clear hbMinus hbOpen hps hnT hnF hres hsz hno
  obtain ⟨PL, K, X⟩ := t
  simp only at *
  subst hkd
  simp only [srt] at d0
  unfold bMinus at HSm
  unfold bOpen at HSo
  go_enter Tryz.func75, Tryz.ntmps75
  go_wp2
  go_region_held3 (fun w' => w'.cell? ⟨g, 0, none⟩ = some (.slice (some ⟨b, 0, none⟩) (tks.length + 1) cap) ∧ w'.cell? ⟨g, 1, none⟩ = some (.int .i64 p) ∧ w'.cell? ⟨b, p * 3, none⟩ = some (.int .u8 110) ∧ w'.cell? ⟨b, p * 3 + 1, none⟩ = some (.string X) ∧ w'.cell? ⟨b, p * 3 + 2, none⟩ = some (.int .i64 PL)) (first | go_keep) (first | fail)
  clear c0 c1 c2 c4 d0 d1 d2
  go_wp2_with fail
  refine (HSm.out _ (xbel1 _ _).drew).mono ?_
  rintro e w0 ⟨rfl, hb0⟩
  have HB0 : Hid (Below w.heap.size w w0) := (xbel1 _ _).drew.trans (hb0.mono (by simp))
  have HTo0 : Hid (OTk w0 w.heap.size 110 X PL) := (OTk.new w 110 X PL).later hb0
  clear hb0 HSm
  go_wp2_with fail
  refine (HSo.out _ HB0.out).mono ?_
  rintro e w1 ⟨rfl, hb1⟩
  have HB1 : Hid (Below w.heap.size w w1) := HB0.out.trans (hb1.mono HB0.out.size)
  have HTo1 : Hid (OTk w1 w.heap.size 110 X PL) := Own.later HTo0.out hb1
  have HR1 : Hid (RS w1 g E tks p lev 0 0) := HR.out.later HB1.out
  clear hb1 HSo HR HB0 HTo0
  obtain ⟨a1, a2, a3, f1, f2, hgl1⟩ := HR1.out.f
  obtain ⟨t0, t1, t2, htl⟩ := HTo1.out.cells
  have hgw : ¬ w.heap.size = g := by omega
  have HR2 : Hid (RS (w1.setCell ⟨g, 1, none⟩ (.int .i64 ((p + 1 : Nat) : Int))) g E tks (p + 1) lev 0 0) := HR1.out.put1 (by omega)
  have HG2 : Hid (w.grownBy (w1.setCell ⟨g, 1, none⟩ (.int .i64 ((p + 1 : Nat) : Int))) (some g)) := xgTrans (xgBelow HB1.out) (xgSet _ _ _)
  have HTo2 : Hid (OTk (w1.setCell ⟨g, 1, none⟩ (.int .i64 ((p + 1 : Nat) : Int))) w.heap.size 110 X PL) := Own.grown HTo1.out (xgSet _ _ _) (by simp; omega)
  rw [show ((p + 1 : Nat) : Int) = (p : Int) + 1 by omega] at HR2 HG2 HTo2
  clear HR1 HB1 HTo1
  go_wp2_with fail
  refine (HWD.out _).mono ?_
  rintro e w3 ⟨rfl, hw3⟩
  subst hw3
  go_wp2_with fail
  refine (sign_any g E (p + 1) tks lev 0 0 _ _ HR2.out).mono ?_
  rintro e w4 ⟨rfl, hb4⟩
  have hsg : (decide ((0 : Int) = 0) && sgB (hd E (tks.drop (p + 1))) (⟨#[40]⟩ : ByteArray)) = false := by
    have hx := sg_hd (E := E) (ts := tks.drop (p + 1)) (fun t' h' => HWF.out t' (List.mem_of_mem_drop h')) ok_open
    rw [show (⟨#[40]⟩ : ByteArray) = bOpen from rfl, hx]
    have hne := HNO.out
    simp [hne]
  rw [hsg]
  have HR4 : Hid (RS w4 g E tks (p + 1) lev 0 0) := HR2.out.later hb4
  have HG4 : Hid (w.grownBy w4 (some g)) := xgTrans HG2.out (xgBelow hb4)
  have HTo4 : Hid (OTk w4 w.heap.size 110 X PL) := Own.later HTo2.out hb4
  have hN4 : w.heap.size ≤ w4.heap.size := HG4.out.size
  clear hb4 HR2 HG2 a1 a2 a3 f1 f2 t0 t1 t2 htl hsg
  obtain ⟨t0, t1, t2, htl⟩ := HTo4.out.cells
  go_wp2_with fail
  go_ret
  have hB6 : Below w4.heap.size w4 (w4.alloc (.cells #[.string ⟨#[110, 97, 109, 101]⟩, .int .i64 PL, .slice none 0 0, .int .i64 0, .int .i64 0, .string ⟨#[]⟩, .string X] 112)) := xbel1 _ _
  refine ⟨xgTrans HG4.out (xgBelow hB6), w4.heap.size, rfl, .inl ⟨.col PL X, p + 1, HR4.out.later hB6, .pnone (.inr ⟨rfl, rfl⟩) (by rw [HH.out]; exact HX.out) HPS.out, ?_⟩⟩
  rw [Et]
  refine ⟨w4.heap.size, rfl, by omega, by simp, ?_, ?_, ?_⟩
  · unfold bName; go_simp
  · go_simp
  · go_simp
end Go.Proofs.YtplaplhmjpfbjaaGreatDoor.Dc
