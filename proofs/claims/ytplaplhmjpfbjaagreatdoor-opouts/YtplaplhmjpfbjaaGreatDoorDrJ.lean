import Derived.Test.YtplaplhmjpfbjaaGreatDoorDb1
namespace Go.Proofs.YtplaplhmjpfbjaaGreatDoor.Dc
open Go.RowKit
set_option linter.unusedVariables false
set_option linter.unusedSimpArgs false
set_option maxRecDepth 100000

/-- The document's Read. -/
def DRd (L : ByteArray → Int → Int → ByteArray → Prop) : Prop := ∀ (s : ByteArray) (W : World), s.size ≤ 200 → Calls Tryz.prog 81 #[.string s] W fun e w' => Below W.heap.size W w' ∧ ∃ (k n : Int) (t : ByteArray) (ok : Bool), e = .returned (.tuple #[.agg #[.int .i64 k, .int .i64 n, .string t], .bool ok]) ∧ (ok = true → L s k n t) ∧ (ok = false → ∀ k n t, ¬ L s k n t)
theorem lit_fin {L : ByteArray → Int → Int → ByteArray → Prop} {w W : World} {g E p lev PL K eb : Nat} {tks ts : List Tk} {X T : ByteArray} {k n : Int} (ht : tks.drop p = ⟨PL, K, X⟩ :: ts) (ht1 : tks.drop (p + 1) = ts) (hX : X ≠ bMinus) (hl : isLit ⟨PL, K, X⟩) (hL : L X k n T) (hg : w.grownBy W (some g)) (hR : RS W g E tks (p + 1) lev 0 0) (he0 : w.heap.size ≤ eb) (he1 : eb < W.heap.size)
    (c0 : W.cell? ⟨eb, 0, none⟩ = some (.string bValue)) (c3 : W.cell? ⟨eb, 3, none⟩ = some (.int .i64 k)) (c4 : W.cell? ⟨eb, 4, none⟩ = some (.int .i64 n)) (c5 : W.cell? ⟨eb, 5, none⟩ = some (.string T)) : CPost L w g E tks p lev 6 (.returned (ptrE eb)) W := by
  refine ⟨hg, eb, rfl, .inl ⟨.lit k n T, p + 1, hR, .pnone (.inr ⟨rfl, rfl⟩) (by rw [ht]; exact hX) ?_, ?_⟩⟩
  · rw [ht, ht1]; exact .lit hl hL
  · rw [Et]; exact ⟨eb, rfl, he0, he1, c0, c3, c4, c5⟩
theorem bad_fin {L : ByteArray → Int → Int → ByteArray → Prop} {w W : World} {g E p p' lev eb : Nat} {tks : List Tk} {f : Flt} (hX : (hd E (tks.drop p)).tx ≠ bMinus) (hf : f.why ≠ 0) (hp : Ps L E (.D 7) lev (tks.drop p) (.error f)) (hg : w.grownBy W (some g)) (hR : RS W g E tks p' lev f.why f.pl) : CPost L w g E tks p lev 6 (.returned (ptrE eb)) W :=
  ⟨hg, eb, rfl, .inr ⟨f, p', hf, hR, .pnone (.inr ⟨rfl, rfl⟩) hX hp⟩⟩
set_option maxHeartbeats 8000000 in
theorem first_lit2 {L : ByteArray → Int → Int → ByteArray → Prop} (hD : DRd L) (g E p lev : Nat) (tks : List Tk) (t : Tk) (ts : List Tk) (w : World) (h : RS w g E tks p lev 0 0) (hw : ∀ t ∈ tks, Wf t) (ht : tks.drop p = t :: ts) (hkd : t.kd = 2) (hlit : isLit t) (hbMinus : t.tx ≠ bMinus) (hbOpen : t.tx ≠ bOpen) :
    Calls Tryz.prog 75 #[.pointer (some ⟨g, 0, none⟩)] w (CPost L w g E tks p lev 6) := by
  have hwt : ∀ t' ∈ tks.drop p, Wf t' := fun t' h' => hw t' (List.mem_of_mem_drop h')
  have HSm : Hid (∀ W, Below w.heap.size w W → Calls Tryz.prog 73 #[.pointer (some ⟨g, 0, none⟩), .string bMinus] W fun e w' => e = .returned (.bool false) ∧ Below W.heap.size W w') := fun W hW => by
    refine (sign_any g E p tks lev 0 0 bMinus W (h.later hW)).mono ?_
    rintro e w' ⟨rfl, hb⟩
    refine ⟨?_, hb⟩
    rw [sg_hd hwt ok_minus, ht]
    simp only [hd]
    have hne : ¬ t.tx = bMinus := hbMinus
    simp [hne]
  have HSo : Hid (∀ W, Below w.heap.size w W → Calls Tryz.prog 73 #[.pointer (some ⟨g, 0, none⟩), .string bOpen] W fun e w' => e = .returned (.bool false) ∧ Below W.heap.size W w') := fun W hW => by
    refine (sign_any g E p tks lev 0 0 bOpen W (h.later hW)).mono ?_
    rintro e w' ⟨rfl, hb⟩
    refine ⟨?_, hb⟩
    rw [sg_hd hwt ok_open, ht]
    simp only [hd]
    have hne : ¬ t.tx = bOpen := hbOpen
    simp [hne]
  obtain ⟨b, cap, hbg, hgl, c0, c1, c2, c3, c4, d0, d1, d2, hl⟩ := h.hd
  obtain ⟨ht1, hpl⟩ := drop_cons ht
  rw [ht] at d0 d1 d2
  simp only [hd] at d0 d1 d2
  have HR := hidMk h
  have HWF := hidMk hw
  have hbl : b < w.heap.size := by omega
  have hp0 : (0 : Int) ≤ (p : Int) := by omega
  have HT := hidMk ht
  have HT1 := hidMk ht1
  have hl200 := h.few
  clear h ht ht1 hwt hw
  have HX := hidMk hbMinus
  have HLIT := hidMk hlit
  have hsz : t.tx.size ≤ 200 := (HWF.out t (List.mem_of_mem_drop (by rw [HT.out]; simp))).1
  have HD := hidMk (hD t.tx)

  clear hbMinus hbOpen hlit hD
  obtain ⟨PL, K, X⟩ := t
  simp only at *
  subst hkd
  simp only [srt] at d0
  unfold bMinus at HSm
  unfold bOpen at HSo
  go_enter Tryz.func75, Tryz.ntmps75
  go_wp2
  go_region_held3 (fun w' => w'.cell? ⟨g, 0, none⟩ = some (.slice (some ⟨b, 0, none⟩) (tks.length + 1) cap) ∧ w'.cell? ⟨g, 1, none⟩ = some (.int .i64 p) ∧ w'.cell? ⟨b, p * 3, none⟩ = some (.int .u8 48) ∧ w'.cell? ⟨b, p * 3 + 1, none⟩ = some (.string X) ∧ w'.cell? ⟨b, p * 3 + 2, none⟩ = some (.int .i64 PL)) (first | go_keep) (first | fail)
  clear c0 c1 c2 c4 d0 d1 d2
  go_wp2_with fail
  refine (HSm.out _ (xbel1 _ _).drew).mono ?_
  rintro e w0 ⟨rfl, hb0⟩
  have HB0 : Hid (Below w.heap.size w w0) := (xbel1 _ _).drew.trans (hb0.mono (by simp))
  have HTo0 : Hid (OTk w0 w.heap.size 48 X PL) := (OTk.new w 48 X PL).later hb0
  clear hb0 HSm
  go_wp2_with fail
  refine (HSo.out _ HB0.out).mono ?_
  rintro e w1 ⟨rfl, hb1⟩
  have HB1 : Hid (Below w.heap.size w w1) := HB0.out.trans (hb1.mono HB0.out.size)
  have HTo1 : Hid (OTk w1 w.heap.size 48 X PL) := Own.later HTo0.out hb1
  have HR1 : Hid (RS w1 g E tks p lev 0 0) := HR.out.later HB1.out
  clear hb1 HSo HR HB0 HTo0
  obtain ⟨a1, a2, a3, f1, f2, hgl1⟩ := HR1.out.f
  obtain ⟨t0, t1, t2, htl⟩ := HTo1.out.cells
  have hgw : ¬ w.heap.size = g := by omega
  have HR2 : Hid (RS (w1.setCell ⟨g, 1, none⟩ (.int .i64 ((p + 1 : Nat) : Int))) g E tks (p + 1) lev 0 0) := HR1.out.put1 (by omega)
  have HG2 : Hid (w.grownBy (w1.setCell ⟨g, 1, none⟩ (.int .i64 ((p + 1 : Nat) : Int))) (some g)) := xgTrans (xgBelow HB1.out) (xgSet _ _ _)
  have HTo2 : Hid (OTk (w1.setCell ⟨g, 1, none⟩ (.int .i64 ((p + 1 : Nat) : Int))) w.heap.size 48 X PL) := Own.grown HTo1.out (xgSet _ _ _) (by simp; omega)
  rw [show ((p + 1 : Nat) : Int) = (p : Int) + 1 by omega] at HR2 HG2 HTo2
  clear HR1 HB1 HTo1
  go_wp2_with fail
  refine (HD.out _ hsz).mono ?_
  rintro e w3 ⟨hb3, k, n, T, ok, rfl, hy, hn⟩
  have HR3 : Hid (RS w3 g E tks (p + 1) lev 0 0) := HR2.out.later hb3
  have HG3 : Hid (w.grownBy w3 (some g)) := xgTrans HG2.out (xgBelow hb3)
  have HTo3 : Hid (OTk w3 w.heap.size 48 X PL) := Own.later HTo2.out hb3
  have hN3 : w.heap.size ≤ w3.heap.size := HG3.out.size
  clear hb3 HR2 HG2 HTo2 a1 a2 a3 f1 f2 t0 t1 t2 htl
  obtain ⟨t0, t1, t2, htl⟩ := HTo3.out.cells
  cases ok with
  | true =>
    have HLL := hidMk (hy rfl)
    clear hy hn
    go_wp2_with fail
    go_ret
    have hB6 : Below w3.heap.size w3 ((w3.alloc (.cells #[.int .i64 k, .int .i64 n, .string T] 110)).alloc (.cells #[.string ⟨#[118, 97, 108, 117, 101]⟩, .int .i64 PL, .slice none 0 0, .int .i64 k, .int .i64 n, .string T, .string ⟨#[]⟩] 112)) := (xbel1 _ _).alloc (by simp) _
    refine lit_fin (eb := w3.heap.size + 1) HT.out HT1.out HX.out HLIT.out HLL.out (xgTrans HG3.out (xgBelow hB6)) (HR3.out.later hB6) (by omega) (by simp) ?_ ?_ ?_ ?_
    · unfold bValue; go_simp
    · go_simp
    · go_simp
    · go_simp
  | false =>
    have HLN := hidMk (hn rfl)
    clear hy hn
    go_wp2_with fail
    refine (fail_any g E (p + 1) tks lev 0 0 _ _ _ (HR3.out.later (xbel1 _ _))).mono ?_
    rintro e w4 ⟨rfl, hg4, hr4⟩
    have HR4 : Hid (RS w4 g E tks (p + 1) lev 1 PL) := hr4
    have HG4 : Hid (w.grownBy w4 (some g)) := xgTrans (xgTrans HG3.out (xgBelow (xbel1 _ _))) hg4
    have HTo4 : Hid (OTk w4 w.heap.size 48 X PL) := Own.grown (Own.later HTo3.out (xbel1 _ _)) hg4 (by simp; omega)
    have hV4 : Own w4 w3.heap.size 110 3 [.int .i64 k, .int .i64 n, .string T] := (Own.new w3 110 3 #[.int .i64 k, .int .i64 n, .string T] rfl).grown hg4 (by simp; omega)
    have v0 : w4.cell? ⟨w3.heap.size, 0, none⟩ = some (.int .i64 k) := by rw [hV4.cell 0 (by decide)]; rfl
    have v1 : w4.cell? ⟨w3.heap.size, 1, none⟩ = some (.int .i64 n) := by rw [hV4.cell 1 (by decide)]; rfl
    have v2 : w4.cell? ⟨w3.heap.size, 2, none⟩ = some (.string T) := by rw [hV4.cell 2 (by decide)]; rfl
    have vl := hV4.lt
    clear hr4 hg4 t0 t1 t2 htl hV4
    obtain ⟨t0, t1, t2, htl⟩ := HTo4.out.cells
    go_wp2_with fail
    go_ret
    refine bad_fin (f := ⟨PL, 1⟩) (p' := p + 1) (by rw [HT.out]; exact HX.out) (by simp) (by rw [HT.out]; exact .lbad HLIT.out HLN.out) (xgTrans HG4.out (xgBelow (xbel1 _ _))) (HR4.out.later (xbel1 _ _))
set_option maxHeartbeats 8000000 in
theorem first_lit3 {L : ByteArray → Int → Int → ByteArray → Prop} (hD : DRd L) (g E p lev : Nat) (tks : List Tk) (t : Tk) (ts : List Tk) (w : World) (h : RS w g E tks p lev 0 0) (hw : ∀ t ∈ tks, Wf t) (ht : tks.drop p = t :: ts) (hkd : t.kd = 3) (hlit : isLit t) (hbMinus : t.tx ≠ bMinus) (hbOpen : t.tx ≠ bOpen) :
    Calls Tryz.prog 75 #[.pointer (some ⟨g, 0, none⟩)] w (CPost L w g E tks p lev 6) := by
  have hwt : ∀ t' ∈ tks.drop p, Wf t' := fun t' h' => hw t' (List.mem_of_mem_drop h')
  have HSm : Hid (∀ W, Below w.heap.size w W → Calls Tryz.prog 73 #[.pointer (some ⟨g, 0, none⟩), .string bMinus] W fun e w' => e = .returned (.bool false) ∧ Below W.heap.size W w') := fun W hW => by
    refine (sign_any g E p tks lev 0 0 bMinus W (h.later hW)).mono ?_
    rintro e w' ⟨rfl, hb⟩
    refine ⟨?_, hb⟩
    rw [sg_hd hwt ok_minus, ht]
    simp only [hd]
    have hne : ¬ t.tx = bMinus := hbMinus
    simp [hne]
  have HSo : Hid (∀ W, Below w.heap.size w W → Calls Tryz.prog 73 #[.pointer (some ⟨g, 0, none⟩), .string bOpen] W fun e w' => e = .returned (.bool false) ∧ Below W.heap.size W w') := fun W hW => by
    refine (sign_any g E p tks lev 0 0 bOpen W (h.later hW)).mono ?_
    rintro e w' ⟨rfl, hb⟩
    refine ⟨?_, hb⟩
    rw [sg_hd hwt ok_open, ht]
    simp only [hd]
    have hne : ¬ t.tx = bOpen := hbOpen
    simp [hne]
  obtain ⟨b, cap, hbg, hgl, c0, c1, c2, c3, c4, d0, d1, d2, hl⟩ := h.hd
  obtain ⟨ht1, hpl⟩ := drop_cons ht
  rw [ht] at d0 d1 d2
  simp only [hd] at d0 d1 d2
  have HR := hidMk h
  have HWF := hidMk hw
  have hbl : b < w.heap.size := by omega
  have hp0 : (0 : Int) ≤ (p : Int) := by omega
  have HT := hidMk ht
  have HT1 := hidMk ht1
  have hl200 := h.few
  clear h ht ht1 hwt hw
  have HX := hidMk hbMinus
  have HLIT := hidMk hlit
  have hsz : t.tx.size ≤ 200 := (HWF.out t (List.mem_of_mem_drop (by rw [HT.out]; simp))).1
  have HD := hidMk (hD t.tx)

  clear hbMinus hbOpen hlit hD
  obtain ⟨PL, K, X⟩ := t
  simp only at *
  subst hkd
  simp only [srt] at d0
  unfold bMinus at HSm
  unfold bOpen at HSo
  go_enter Tryz.func75, Tryz.ntmps75
  go_wp2
  go_region_held3 (fun w' => w'.cell? ⟨g, 0, none⟩ = some (.slice (some ⟨b, 0, none⟩) (tks.length + 1) cap) ∧ w'.cell? ⟨g, 1, none⟩ = some (.int .i64 p) ∧ w'.cell? ⟨b, p * 3, none⟩ = some (.int .u8 39) ∧ w'.cell? ⟨b, p * 3 + 1, none⟩ = some (.string X) ∧ w'.cell? ⟨b, p * 3 + 2, none⟩ = some (.int .i64 PL)) (first | go_keep) (first | fail)
  clear c0 c1 c2 c4 d0 d1 d2
  go_wp2_with fail
  refine (HSm.out _ (xbel1 _ _).drew).mono ?_
  rintro e w0 ⟨rfl, hb0⟩
  have HB0 : Hid (Below w.heap.size w w0) := (xbel1 _ _).drew.trans (hb0.mono (by simp))
  have HTo0 : Hid (OTk w0 w.heap.size 39 X PL) := (OTk.new w 39 X PL).later hb0
  clear hb0 HSm
  go_wp2_with fail
  refine (HSo.out _ HB0.out).mono ?_
  rintro e w1 ⟨rfl, hb1⟩
  have HB1 : Hid (Below w.heap.size w w1) := HB0.out.trans (hb1.mono HB0.out.size)
  have HTo1 : Hid (OTk w1 w.heap.size 39 X PL) := Own.later HTo0.out hb1
  have HR1 : Hid (RS w1 g E tks p lev 0 0) := HR.out.later HB1.out
  clear hb1 HSo HR HB0 HTo0
  obtain ⟨a1, a2, a3, f1, f2, hgl1⟩ := HR1.out.f
  obtain ⟨t0, t1, t2, htl⟩ := HTo1.out.cells
  have hgw : ¬ w.heap.size = g := by omega
  have HR2 : Hid (RS (w1.setCell ⟨g, 1, none⟩ (.int .i64 ((p + 1 : Nat) : Int))) g E tks (p + 1) lev 0 0) := HR1.out.put1 (by omega)
  have HG2 : Hid (w.grownBy (w1.setCell ⟨g, 1, none⟩ (.int .i64 ((p + 1 : Nat) : Int))) (some g)) := xgTrans (xgBelow HB1.out) (xgSet _ _ _)
  have HTo2 : Hid (OTk (w1.setCell ⟨g, 1, none⟩ (.int .i64 ((p + 1 : Nat) : Int))) w.heap.size 39 X PL) := Own.grown HTo1.out (xgSet _ _ _) (by simp; omega)
  rw [show ((p + 1 : Nat) : Int) = (p : Int) + 1 by omega] at HR2 HG2 HTo2
  clear HR1 HB1 HTo1
  go_wp2_with fail
  refine (HD.out _ hsz).mono ?_
  rintro e w3 ⟨hb3, k, n, T, ok, rfl, hy, hn⟩
  have HR3 : Hid (RS w3 g E tks (p + 1) lev 0 0) := HR2.out.later hb3
  have HG3 : Hid (w.grownBy w3 (some g)) := xgTrans HG2.out (xgBelow hb3)
  have HTo3 : Hid (OTk w3 w.heap.size 39 X PL) := Own.later HTo2.out hb3
  have hN3 : w.heap.size ≤ w3.heap.size := HG3.out.size
  clear hb3 HR2 HG2 HTo2 a1 a2 a3 f1 f2 t0 t1 t2 htl
  obtain ⟨t0, t1, t2, htl⟩ := HTo3.out.cells
  cases ok with
  | true =>
    have HLL := hidMk (hy rfl)
    clear hy hn
    go_wp2_with fail
    go_ret
    have hB6 : Below w3.heap.size w3 ((w3.alloc (.cells #[.int .i64 k, .int .i64 n, .string T] 110)).alloc (.cells #[.string ⟨#[118, 97, 108, 117, 101]⟩, .int .i64 PL, .slice none 0 0, .int .i64 k, .int .i64 n, .string T, .string ⟨#[]⟩] 112)) := (xbel1 _ _).alloc (by simp) _
    refine lit_fin (eb := w3.heap.size + 1) HT.out HT1.out HX.out HLIT.out HLL.out (xgTrans HG3.out (xgBelow hB6)) (HR3.out.later hB6) (by omega) (by simp) ?_ ?_ ?_ ?_
    · unfold bValue; go_simp
    · go_simp
    · go_simp
    · go_simp
  | false =>
    have HLN := hidMk (hn rfl)
    clear hy hn
    go_wp2_with fail
    refine (fail_any g E (p + 1) tks lev 0 0 _ _ _ (HR3.out.later (xbel1 _ _))).mono ?_
    rintro e w4 ⟨rfl, hg4, hr4⟩
    have HR4 : Hid (RS w4 g E tks (p + 1) lev 1 PL) := hr4
    have HG4 : Hid (w.grownBy w4 (some g)) := xgTrans (xgTrans HG3.out (xgBelow (xbel1 _ _))) hg4
    have HTo4 : Hid (OTk w4 w.heap.size 39 X PL) := Own.grown (Own.later HTo3.out (xbel1 _ _)) hg4 (by simp; omega)
    have hV4 : Own w4 w3.heap.size 110 3 [.int .i64 k, .int .i64 n, .string T] := (Own.new w3 110 3 #[.int .i64 k, .int .i64 n, .string T] rfl).grown hg4 (by simp; omega)
    have v0 : w4.cell? ⟨w3.heap.size, 0, none⟩ = some (.int .i64 k) := by rw [hV4.cell 0 (by decide)]; rfl
    have v1 : w4.cell? ⟨w3.heap.size, 1, none⟩ = some (.int .i64 n) := by rw [hV4.cell 1 (by decide)]; rfl
    have v2 : w4.cell? ⟨w3.heap.size, 2, none⟩ = some (.string T) := by rw [hV4.cell 2 (by decide)]; rfl
    have vl := hV4.lt
    clear hr4 hg4 t0 t1 t2 htl hV4
    obtain ⟨t0, t1, t2, htl⟩ := HTo4.out.cells
    go_wp2_with fail
    go_ret
    refine bad_fin (f := ⟨PL, 1⟩) (p' := p + 1) (by rw [HT.out]; exact HX.out) (by simp) (by rw [HT.out]; exact .lbad HLIT.out HLN.out) (xgTrans HG4.out (xgBelow (xbel1 _ _))) (HR4.out.later (xbel1 _ _))
set_option maxHeartbeats 8000000 in
theorem first_true {L : ByteArray → Int → Int → ByteArray → Prop} (hD : DRd L) (htr : ∃ k n s, L bTrue k n s) (g E p lev : Nat) (tks : List Tk) (t : Tk) (ts : List Tk) (w : World) (h : RS w g E tks p lev 0 0) (hw : ∀ t ∈ tks, Wf t) (ht : tks.drop p = t :: ts) (hkd : t.kd = 1) (hlit : isLit t) (htx : t.tx = bTrue) (hbMinus : t.tx ≠ bMinus) (hbOpen : t.tx ≠ bOpen) :
    Calls Tryz.prog 75 #[.pointer (some ⟨g, 0, none⟩)] w (CPost L w g E tks p lev 6) := by
  have hwt : ∀ t' ∈ tks.drop p, Wf t' := fun t' h' => hw t' (List.mem_of_mem_drop h')
  have HSm : Hid (∀ W, Below w.heap.size w W → Calls Tryz.prog 73 #[.pointer (some ⟨g, 0, none⟩), .string bMinus] W fun e w' => e = .returned (.bool false) ∧ Below W.heap.size W w') := fun W hW => by
    refine (sign_any g E p tks lev 0 0 bMinus W (h.later hW)).mono ?_
    rintro e w' ⟨rfl, hb⟩
    refine ⟨?_, hb⟩
    rw [sg_hd hwt ok_minus, ht]
    simp only [hd]
    have hne : ¬ t.tx = bMinus := hbMinus
    simp [hne]
  have HSo : Hid (∀ W, Below w.heap.size w W → Calls Tryz.prog 73 #[.pointer (some ⟨g, 0, none⟩), .string bOpen] W fun e w' => e = .returned (.bool false) ∧ Below W.heap.size W w') := fun W hW => by
    refine (sign_any g E p tks lev 0 0 bOpen W (h.later hW)).mono ?_
    rintro e w' ⟨rfl, hb⟩
    refine ⟨?_, hb⟩
    rw [sg_hd hwt ok_open, ht]
    simp only [hd]
    have hne : ¬ t.tx = bOpen := hbOpen
    simp [hne]
  obtain ⟨b, cap, hbg, hgl, c0, c1, c2, c3, c4, d0, d1, d2, hl⟩ := h.hd
  obtain ⟨ht1, hpl⟩ := drop_cons ht
  rw [ht] at d0 d1 d2
  simp only [hd] at d0 d1 d2
  have HR := hidMk h
  have HWF := hidMk hw
  have hbl : b < w.heap.size := by omega
  have hp0 : (0 : Int) ≤ (p : Int) := by omega
  have HT := hidMk ht
  have HT1 := hidMk ht1
  have hl200 := h.few
  clear h ht ht1 hwt hw
  have HX := hidMk hbMinus
  have HLIT := hidMk hlit
  have hsz : t.tx.size ≤ 200 := (HWF.out t (List.mem_of_mem_drop (by rw [HT.out]; simp))).1
  have HD := hidMk (hD t.tx)
  have HTR := hidMk htr
  have HTX := hidMk htx
  clear hbMinus hbOpen hlit hD htx htr
  obtain ⟨PL, K, X⟩ := t
  simp only at *
  subst hkd
  simp only [srt] at d0
  unfold bMinus at HSm
  unfold bOpen at HSo
  go_enter Tryz.func75, Tryz.ntmps75
  go_wp2
  go_region_held3 (fun w' => w'.cell? ⟨g, 0, none⟩ = some (.slice (some ⟨b, 0, none⟩) (tks.length + 1) cap) ∧ w'.cell? ⟨g, 1, none⟩ = some (.int .i64 p) ∧ w'.cell? ⟨b, p * 3, none⟩ = some (.int .u8 110) ∧ w'.cell? ⟨b, p * 3 + 1, none⟩ = some (.string X) ∧ w'.cell? ⟨b, p * 3 + 2, none⟩ = some (.int .i64 PL)) (first | go_keep) (first | fail)
  clear c0 c1 c2 c4 d0 d1 d2
  go_wp2_with fail
  refine (HSm.out _ (xbel1 _ _).drew).mono ?_
  rintro e w0 ⟨rfl, hb0⟩
  have HB0 : Hid (Below w.heap.size w w0) := (xbel1 _ _).drew.trans (hb0.mono (by simp))
  have HTo0 : Hid (OTk w0 w.heap.size 110 X PL) := (OTk.new w 110 X PL).later hb0
  clear hb0 HSm
  go_wp2_with fail
  refine (HSo.out _ HB0.out).mono ?_
  rintro e w1 ⟨rfl, hb1⟩
  have HB1 : Hid (Below w.heap.size w w1) := HB0.out.trans (hb1.mono HB0.out.size)
  have HTo1 : Hid (OTk w1 w.heap.size 110 X PL) := Own.later HTo0.out hb1
  have HR1 : Hid (RS w1 g E tks p lev 0 0) := HR.out.later HB1.out
  clear hb1 HSo HR HB0 HTo0
  obtain ⟨a1, a2, a3, f1, f2, hgl1⟩ := HR1.out.f
  obtain ⟨t0, t1, t2, htl⟩ := HTo1.out.cells
  have hgw : ¬ w.heap.size = g := by omega
  have HR2 : Hid (RS (w1.setCell ⟨g, 1, none⟩ (.int .i64 ((p + 1 : Nat) : Int))) g E tks (p + 1) lev 0 0) := HR1.out.put1 (by omega)
  have HG2 : Hid (w.grownBy (w1.setCell ⟨g, 1, none⟩ (.int .i64 ((p + 1 : Nat) : Int))) (some g)) := xgTrans (xgBelow HB1.out) (xgSet _ _ _)
  have HTo2 : Hid (OTk (w1.setCell ⟨g, 1, none⟩ (.int .i64 ((p + 1 : Nat) : Int))) w.heap.size 110 X PL) := Own.grown HTo1.out (xgSet _ _ _) (by simp; omega)
  rw [show ((p + 1 : Nat) : Int) = (p : Int) + 1 by omega] at HR2 HG2 HTo2
  clear HR1 HB1 HTo1
  have hTX := HTX.out
  have hx1 : (X.toList == [116, 114, 117, 101]) = true := by rw [hTX]; decide +kernel
  clear hTX
  go_wp2_with fail
  refine (HD.out _ hsz).mono ?_
  rintro e w3 ⟨hb3, k, n, T, ok, rfl, hy, hn⟩
  have HR3 : Hid (RS w3 g E tks (p + 1) lev 0 0) := HR2.out.later hb3
  have HG3 : Hid (w.grownBy w3 (some g)) := xgTrans HG2.out (xgBelow hb3)
  have HTo3 : Hid (OTk w3 w.heap.size 110 X PL) := Own.later HTo2.out hb3
  have hN3 : w.heap.size ≤ w3.heap.size := HG3.out.size
  clear hb3 HR2 HG2 HTo2 a1 a2 a3 f1 f2 t0 t1 t2 htl
  obtain ⟨t0, t1, t2, htl⟩ := HTo3.out.cells
  cases ok with
  | true =>
    have HLL := hidMk (hy rfl)
    clear hy hn
    go_wp2_with fail
    go_ret
    have hB6 : Below w3.heap.size w3 ((w3.alloc (.cells #[.int .i64 k, .int .i64 n, .string T] 110)).alloc (.cells #[.string ⟨#[118, 97, 108, 117, 101]⟩, .int .i64 PL, .slice none 0 0, .int .i64 k, .int .i64 n, .string T, .string ⟨#[]⟩] 112)) := (xbel1 _ _).alloc (by simp) _
    refine lit_fin (eb := w3.heap.size + 1) HT.out HT1.out HX.out HLIT.out HLL.out (xgTrans HG3.out (xgBelow hB6)) (HR3.out.later hB6) (by omega) (by simp) ?_ ?_ ?_ ?_
    · unfold bValue; go_simp
    · go_simp
    · go_simp
    · go_simp
  | false =>
    exfalso
    obtain ⟨k', n', s', h'⟩ := HTR.out
    exact hn rfl k' n' s' (by rw [HTX.out]; exact h')
set_option maxHeartbeats 8000000 in
theorem first_false {L : ByteArray → Int → Int → ByteArray → Prop} (hD : DRd L) (htr : ∃ k n s, L bFalse k n s) (g E p lev : Nat) (tks : List Tk) (t : Tk) (ts : List Tk) (w : World) (h : RS w g E tks p lev 0 0) (hw : ∀ t ∈ tks, Wf t) (ht : tks.drop p = t :: ts) (hkd : t.kd = 1) (hlit : isLit t) (htx : t.tx = bFalse) (hbMinus : t.tx ≠ bMinus) (hbOpen : t.tx ≠ bOpen) :
    Calls Tryz.prog 75 #[.pointer (some ⟨g, 0, none⟩)] w (CPost L w g E tks p lev 6) := by
  have hwt : ∀ t' ∈ tks.drop p, Wf t' := fun t' h' => hw t' (List.mem_of_mem_drop h')
  have HSm : Hid (∀ W, Below w.heap.size w W → Calls Tryz.prog 73 #[.pointer (some ⟨g, 0, none⟩), .string bMinus] W fun e w' => e = .returned (.bool false) ∧ Below W.heap.size W w') := fun W hW => by
    refine (sign_any g E p tks lev 0 0 bMinus W (h.later hW)).mono ?_
    rintro e w' ⟨rfl, hb⟩
    refine ⟨?_, hb⟩
    rw [sg_hd hwt ok_minus, ht]
    simp only [hd]
    have hne : ¬ t.tx = bMinus := hbMinus
    simp [hne]
  have HSo : Hid (∀ W, Below w.heap.size w W → Calls Tryz.prog 73 #[.pointer (some ⟨g, 0, none⟩), .string bOpen] W fun e w' => e = .returned (.bool false) ∧ Below W.heap.size W w') := fun W hW => by
    refine (sign_any g E p tks lev 0 0 bOpen W (h.later hW)).mono ?_
    rintro e w' ⟨rfl, hb⟩
    refine ⟨?_, hb⟩
    rw [sg_hd hwt ok_open, ht]
    simp only [hd]
    have hne : ¬ t.tx = bOpen := hbOpen
    simp [hne]
  obtain ⟨b, cap, hbg, hgl, c0, c1, c2, c3, c4, d0, d1, d2, hl⟩ := h.hd
  obtain ⟨ht1, hpl⟩ := drop_cons ht
  rw [ht] at d0 d1 d2
  simp only [hd] at d0 d1 d2
  have HR := hidMk h
  have HWF := hidMk hw
  have hbl : b < w.heap.size := by omega
  have hp0 : (0 : Int) ≤ (p : Int) := by omega
  have HT := hidMk ht
  have HT1 := hidMk ht1
  have hl200 := h.few
  clear h ht ht1 hwt hw
  have HX := hidMk hbMinus
  have HLIT := hidMk hlit
  have hsz : t.tx.size ≤ 200 := (HWF.out t (List.mem_of_mem_drop (by rw [HT.out]; simp))).1
  have HD := hidMk (hD t.tx)
  have HTR := hidMk htr
  have HTX := hidMk htx
  clear hbMinus hbOpen hlit hD htx htr
  obtain ⟨PL, K, X⟩ := t
  simp only at *
  subst hkd
  simp only [srt] at d0
  unfold bMinus at HSm
  unfold bOpen at HSo
  go_enter Tryz.func75, Tryz.ntmps75
  go_wp2
  go_region_held3 (fun w' => w'.cell? ⟨g, 0, none⟩ = some (.slice (some ⟨b, 0, none⟩) (tks.length + 1) cap) ∧ w'.cell? ⟨g, 1, none⟩ = some (.int .i64 p) ∧ w'.cell? ⟨b, p * 3, none⟩ = some (.int .u8 110) ∧ w'.cell? ⟨b, p * 3 + 1, none⟩ = some (.string X) ∧ w'.cell? ⟨b, p * 3 + 2, none⟩ = some (.int .i64 PL)) (first | go_keep) (first | fail)
  clear c0 c1 c2 c4 d0 d1 d2
  go_wp2_with fail
  refine (HSm.out _ (xbel1 _ _).drew).mono ?_
  rintro e w0 ⟨rfl, hb0⟩
  have HB0 : Hid (Below w.heap.size w w0) := (xbel1 _ _).drew.trans (hb0.mono (by simp))
  have HTo0 : Hid (OTk w0 w.heap.size 110 X PL) := (OTk.new w 110 X PL).later hb0
  clear hb0 HSm
  go_wp2_with fail
  refine (HSo.out _ HB0.out).mono ?_
  rintro e w1 ⟨rfl, hb1⟩
  have HB1 : Hid (Below w.heap.size w w1) := HB0.out.trans (hb1.mono HB0.out.size)
  have HTo1 : Hid (OTk w1 w.heap.size 110 X PL) := Own.later HTo0.out hb1
  have HR1 : Hid (RS w1 g E tks p lev 0 0) := HR.out.later HB1.out
  clear hb1 HSo HR HB0 HTo0
  obtain ⟨a1, a2, a3, f1, f2, hgl1⟩ := HR1.out.f
  obtain ⟨t0, t1, t2, htl⟩ := HTo1.out.cells
  have hgw : ¬ w.heap.size = g := by omega
  have HR2 : Hid (RS (w1.setCell ⟨g, 1, none⟩ (.int .i64 ((p + 1 : Nat) : Int))) g E tks (p + 1) lev 0 0) := HR1.out.put1 (by omega)
  have HG2 : Hid (w.grownBy (w1.setCell ⟨g, 1, none⟩ (.int .i64 ((p + 1 : Nat) : Int))) (some g)) := xgTrans (xgBelow HB1.out) (xgSet _ _ _)
  have HTo2 : Hid (OTk (w1.setCell ⟨g, 1, none⟩ (.int .i64 ((p + 1 : Nat) : Int))) w.heap.size 110 X PL) := Own.grown HTo1.out (xgSet _ _ _) (by simp; omega)
  rw [show ((p + 1 : Nat) : Int) = (p : Int) + 1 by omega] at HR2 HG2 HTo2
  clear HR1 HB1 HTo1
  have hTX := HTX.out
  have hx1 : (X.toList == [102, 97, 108, 115, 101]) = true := by rw [hTX]; decide +kernel
  have hx2 : (X.toList == [116, 114, 117, 101]) = false := by rw [hTX]; decide +kernel
  clear hTX
  go_wp2_with fail
  refine (HD.out _ hsz).mono ?_
  rintro e w3 ⟨hb3, k, n, T, ok, rfl, hy, hn⟩
  have HR3 : Hid (RS w3 g E tks (p + 1) lev 0 0) := HR2.out.later hb3
  have HG3 : Hid (w.grownBy w3 (some g)) := xgTrans HG2.out (xgBelow hb3)
  have HTo3 : Hid (OTk w3 w.heap.size 110 X PL) := Own.later HTo2.out hb3
  have hN3 : w.heap.size ≤ w3.heap.size := HG3.out.size
  clear hb3 HR2 HG2 HTo2 a1 a2 a3 f1 f2 t0 t1 t2 htl
  obtain ⟨t0, t1, t2, htl⟩ := HTo3.out.cells
  cases ok with
  | true =>
    have HLL := hidMk (hy rfl)
    clear hy hn
    go_wp2_with fail
    go_ret
    have hB6 : Below w3.heap.size w3 ((w3.alloc (.cells #[.int .i64 k, .int .i64 n, .string T] 110)).alloc (.cells #[.string ⟨#[118, 97, 108, 117, 101]⟩, .int .i64 PL, .slice none 0 0, .int .i64 k, .int .i64 n, .string T, .string ⟨#[]⟩] 112)) := (xbel1 _ _).alloc (by simp) _
    refine lit_fin (eb := w3.heap.size + 1) HT.out HT1.out HX.out HLIT.out HLL.out (xgTrans HG3.out (xgBelow hB6)) (HR3.out.later hB6) (by omega) (by simp) ?_ ?_ ?_ ?_
    · unfold bValue; go_simp
    · go_simp
    · go_simp
    · go_simp
  | false =>
    exfalso
    obtain ⟨k', n', s', h'⟩ := HTR.out
    exact hn rfl k' n' s' (by rw [HTX.out]; exact h')
end Go.Proofs.YtplaplhmjpfbjaaGreatDoor.Dc
