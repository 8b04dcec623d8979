import Derived.Test.YtnmelljaangfiaaGreatDoorDrG
namespace Go.Proofs.YtnmelljaangfiaaGreatDoor.Dc
open Go.RowKit
set_option linter.unusedVariables false
set_option linter.unusedSimpArgs false
set_option maxRecDepth 100000


/-- What the document's readers do further on. -/
def FirstOk (L : ByteArray → Int → Int → ByteArray → Prop) (g E : Nat) (tks : List Tk) (p0 : Nat) : Prop := ∀ (p lev : Nat) (W : World), p0 < p → p ≤ tks.length → lev ≤ 12 → RS W g E tks p lev 0 0 → Calls Tryz.prog 48 #[.pointer (some ⟨g, 0, none⟩)] W (CPost L W g E tks p lev 6)
def ClimbOk (L : ByteArray → Int → Int → ByteArray → Prop) (g E : Nat) (tks : List Tk) (p0 : Nat) : Prop := ∀ (p lev r0 : Nat) (least : Int) (W : World), p0 < p → p ≤ tks.length → lev ≤ 12 → r0 ≤ 6 → (least = (r0 : Int) + 1 ∨ (least = 0 ∧ r0 = 0)) → RS W g E tks p lev 0 0 → Calls Tryz.prog 21 #[.pointer (some ⟨g, 0, none⟩), .int .i64 least] W (CPost L W g E tks p lev r0)
theorem RS.few {w : World} {g E p : Nat} {tks : List Tk} {lev er bad : Int} (h : RS w g E tks p lev er bad) : tks.length ≤ 200 := by obtain ⟨_, _, _, _, _, h, _⟩ := h; exact h
theorem RS.place {w : World} {g E p : Nat} {tks : List Tk} {lev er bad : Int} (h : RS w g E tks p lev er bad) : p ≤ tks.length := by obtain ⟨_, _, _, _, _, _, h⟩ := h; exact h
/-- A token of its own. -/
def OTk (w : World) (n : Nat) (K : Int) (X : ByteArray) (PL : Nat) : Prop := Own w n 61 3 [.int .u8 K, .string X, .int .i64 PL]
theorem OTk.new (w : World) (K : Int) (X : ByteArray) (PL : Nat) : OTk (w.alloc (.cells #[.int .u8 K, .string X, .int .i64 PL] 61)).drew w.heap.size K X PL := (Own.new w 61 3 #[.int .u8 K, .string X, .int .i64 PL] rfl).later (Below.refl _ _).drew
theorem OTk.cells {w : World} {n : Nat} {K : Int} {X : ByteArray} {PL : Nat} (h : OTk w n K X PL) : w.cell? ⟨n, 0, none⟩ = some (.int .u8 K) ∧ w.cell? ⟨n, 1, none⟩ = some (.string X) ∧ w.cell? ⟨n, 2, none⟩ = some (.int .i64 PL) ∧ n < w.heap.size := by
  refine ⟨?_, ?_, ?_, Own.lt h⟩
  · rw [Own.cell h 0 (by decide)]; rfl
  · rw [Own.cell h 1 (by decide)]; rfl
  · rw [Own.cell h 2 (by decide)]; rfl
theorem RS.f {w : World} {g E p : Nat} {tks : List Tk} {lev er bad : Int} (h : RS w g E tks p lev er bad) : w.cell? ⟨g, 1, none⟩ = some (.int .i64 p) ∧ w.cell? ⟨g, 2, none⟩ = some (.int .i64 lev) ∧ w.cell? ⟨g, 3, none⟩ = some (.int .i64 er) ∧ w.frozen? ⟨g, 1, none⟩ = false ∧ w.frozen? ⟨g, 2, none⟩ = false ∧ g < w.heap.size := by
  obtain ⟨b, cap, hbg, hgl, c0, c1, c2, c3, c4, _⟩ := h.hd
  exact ⟨c1, c2, c3, h.soft 1, h.soft 2, hgl⟩

/-- What comes of reading behind a sign ahead. -/
def PreOut (L : ByteArray → Int → Int → ByteArray → Prop) (w4 : World) (lo E : Nat) (tks : List Tk) (p p4 lev r PL kb : Nat) (er bad : Int) : Prop :=
  (lev = 12 ∧ er = 4 ∧ bad = PL) ∨ (lev ≠ 12 ∧ er = 0 ∧ bad = 0 ∧ ∃ x, Ps L E (.D r) (lev + 1) (tks.drop (p + 1)) (.ok (x, tks.drop p4)) ∧ Et w4 lo w4.heap.size x (ptrE kb)) ∨ (lev ≠ 12 ∧ ∃ f : Flt, f.why ≠ 0 ∧ er = f.why ∧ bad = f.pl ∧ Ps L E (.D r) (lev + 1) (tks.drop (p + 1)) (.error f))
theorem pre_fin {L : ByteArray → Int → Int → ByteArray → Prop} {w w4 W : World} {lo g E p p4 lev r PL K kb eb sb : Nat} {tks ts : List Tk} {X : ByteArray} {er bad : Int} (ho : PreOut L w4 lo E tks p p4 lev r PL kb er bad) (hpr : pr r X) (ht : tks.drop p = ⟨PL, K, X⟩ :: ts) (ht1 : tks.drop (p + 1) = ts)
    (hg : w.grownBy W (some g)) (hR : RS W g E tks p4 lev er bad) (hlo : w.heap.size ≤ lo) (h4 : w4.heap.size ≤ W.heap.size) (hk : ∀ (b i : Nat) (u : Value), lo ≤ b → b < w4.heap.size → w4.cell? ⟨b, i, none⟩ = some u → W.cell? ⟨b, i, none⟩ = some u)
    (he0 : w.heap.size ≤ eb) (he1 : eb < W.heap.size) (hs0 : w.heap.size ≤ sb) (hs1 : sb < W.heap.size) (c0 : W.cell? ⟨eb, 0, none⟩ = some (.string (wPre X))) (c1 : W.cell? ⟨eb, 1, none⟩ = some (.int .i64 PL)) (c2 : W.cell? ⟨eb, 2, none⟩ = some (.slice (some ⟨sb, 0, none⟩) 1 1)) (ck : W.cell? ⟨sb, 0, none⟩ = some (ptrE kb)) :
    CPost L w g E tks p lev r (.returned (ptrE eb)) W := by
  refine ⟨hg, eb, rfl, ?_⟩
  rcases ho with ⟨h1, h2, h3⟩ | ⟨h1, h2, h3, x, h4', h5⟩ | ⟨h1, f, h2, h3, h4', h5⟩
  · refine .inr ⟨⟨PL, 4⟩, p4, by simp, ?_, ?_⟩
    · rw [h2, h3] at hR; exact hR
    · rw [ht, h1]; exact .pdeep hpr rfl
  · refine .inl ⟨.pre PL X x, p4, ?_, ?_, ?_⟩
    · rw [h2, h3] at hR; exact hR
    · rw [ht]; rw [ht1] at h4'; exact .pok (t := ⟨PL, K, X⟩) hpr rfl h1 h4'
    · rw [Et]
      have hka : KAt W w.heap.size W.heap.size (.slice (some ⟨sb, 0, none⟩) 1 1) [ptrE kb] := by
        refine ⟨some ⟨sb, 0, none⟩, 1, rfl, fun i hi => ?_⟩
        obtain rfl : i = 0 := by simp at hi; exact hi
        exact ⟨sb, rfl, hs0, hs1, ck⟩
      exact ⟨eb, _, ptrE kb, rfl, he0, he1, c0, c1, c2, hka, Et.keep hk hlo h4 x _ h5⟩
  · refine .inr ⟨f, p4, h2, ?_, ?_⟩
    · rw [h3, h4'] at hR; exact hR
    · rw [ht]; rw [ht1] at h5; exact .pbad (t := ⟨PL, K, X⟩) hpr rfl h1 h5
theorem wPre_minus : wPre bMinus = bMinusW := by decide +kernel
theorem keepG {w W : World} {g lo hi : Nat} (hg : w.grownBy W (some g)) (hlo : g < lo) : ∀ (b i : Nat) (u : Value), lo ≤ b → b < hi → w.cell? ⟨b, i, none⟩ = some u → W.cell? ⟨b, i, none⟩ = some u := fun b i u h1 h2 h3 => hg.cell h3 (fun e => by simp at e; omega)
set_option maxHeartbeats 8000000 in
theorem first_minus {L : ByteArray → Int → Int → ByteArray → Prop} (g E p lev : Nat) (tks : List Tk) (t : Tk) (ts : List Tk) (w : World) (h : RS w g E tks p lev 0 0) (hlev : lev ≤ 12) (hw : ∀ t ∈ tks, Wf t) (ht : tks.drop p = t :: ts) (htx : t.tx = bMinus) (ih : FirstOk L g E tks p) :
    Calls Tryz.prog 48 #[.pointer (some ⟨g, 0, none⟩)] w (CPost L w g E tks p lev 6) := by
  have hwt : ∀ t' ∈ tks.drop p, Wf t' := fun t' h' => hw t' (List.mem_of_mem_drop h')
  have HS : Hid (∀ W, Below w.heap.size w W → Calls Tryz.prog 46 #[.pointer (some ⟨g, 0, none⟩), .string bMinus] W fun e w' => e = .returned (.bool true) ∧ Below W.heap.size W w') := fun W hW => by
    refine (sign_any g E p tks lev 0 0 bMinus W (h.later hW)).mono ?_
    rintro e w' ⟨rfl, hb⟩
    refine ⟨?_, hb⟩
    rw [sg_hd hwt ok_minus, ht]
    simp [hd, htx]
  obtain ⟨b, cap, hbg, hgl, c0, c1, c2, c3, c4, d0, d1, d2, hl⟩ := h.hd
  obtain ⟨ht1, hpl⟩ := drop_cons ht
  rw [ht] at d0 d1 d2
  simp only [hd] at d0 d1 d2
  have HR := hidMk h
  have HIH := hidMk ih
  have hbl : b < w.heap.size := by omega
  have hp0 : (0 : Int) ≤ (p : Int) := by omega
  have HT := hidMk ht
  have HT1 := hidMk ht1
  have HX := hidMk htx
  have hl200 := h.few
  clear h ih ht ht1 htx hwt hw
  obtain ⟨PL, K, X⟩ := t
  simp only at *
  generalize srt K = KK at *
  unfold bMinus at HS
  go_enter Tryz.func48, Tryz.ntmps48
  go_wp2
  go_region_held3 (fun w' => w'.cell? ⟨g, 0, none⟩ = some (.slice (some ⟨b, 0, none⟩) (tks.length + 1) cap) ∧ w'.cell? ⟨g, 1, none⟩ = some (.int .i64 p) ∧ w'.cell? ⟨b, p * 3, none⟩ = some (.int .u8 KK) ∧ w'.cell? ⟨b, p * 3 + 1, none⟩ = some (.string X) ∧ w'.cell? ⟨b, p * 3 + 2, none⟩ = some (.int .i64 PL)) (first | go_keep) (first | fail)
  clear c0 c1 c2 c4 d0 d1 d2
  go_wp2_with fail
  refine (HS.out _ (xbel1 _ _).drew).mono ?_
  rintro e w1 ⟨rfl, hb1⟩
  have HB1 : Hid (Below w.heap.size w w1) := (xbel1 _ _).drew.trans (hb1.mono (by simp))
  have HTo1 : Hid (OTk w1 w.heap.size KK X PL) := (OTk.new w KK X PL).later hb1
  have HR1 : Hid (RS w1 g E tks p lev 0 0) := HR.out.later HB1.out
  clear hb1 HS HR
  go_wp2_with fail
  refine (in_any g E p lev tks 0 0 w1 HR1.out hlev).mono ?_
  rintro e w2 ⟨rfl, hg2, hr2⟩
  have HG2 : Hid (w.grownBy w2 (some g)) := xgTrans (xgBelow HB1.out) hg2
  have HTo2 : Hid (OTk w2 w.heap.size KK X PL) := Own.grown HTo1.out hg2 (by simp; omega)
  clear hg2 HTo1 HR1 HB1
  have hN2 : w.heap.size ≤ w2.heap.size := HG2.out.size
  have KEY : Hid (∃ er2 bad2 : Int, RS w2 g E tks p (lev + 1 : Nat) er2 bad2 ∧ ∀ W, RS W g E tks (p + 1) (lev + 1 : Nat) er2 bad2 → W.heap.size = w2.heap.size → Calls Tryz.prog 48 #[.pointer (some ⟨g, 0, none⟩)] W fun e w' => W.grownBy w' (some g) ∧ ∃ kb p4 er bad, e = .returned (ptrE kb) ∧ RS w' g E tks p4 (lev + 1 : Nat) er bad ∧ PreOut L w' w2.heap.size E tks p p4 lev 6 PL kb er bad) := by
    by_cases q : lev = 12
    · rw [if_pos q] at hr2
      have hd1 : (hd E (tks.drop p)).pl = PL := by rw [HT.out]; rfl
      rw [hd1] at hr2
      refine ⟨4, PL, hr2, fun W hW hsz => ?_⟩
      refine (first_err g E (p + 1) tks _ 4 PL W hW (by decide)).mono ?_
      rintro e w' ⟨hb, kb, rfl⟩
      exact ⟨xgBelow hb, kb, p + 1, 4, PL, rfl, hW.later hb, .inl ⟨q, rfl, rfl⟩⟩
    · rw [if_neg q] at hr2
      refine ⟨0, 0, hr2, fun W hW hsz => ?_⟩
      refine (HIH.out (p + 1) (lev + 1) W (by omega) (by omega) (by omega) hW).mono ?_
      rintro e w' ⟨hg, kb, rfl, ⟨x, p4, h1, h2, h3⟩ | ⟨f, p4, h1, h2, h3⟩⟩
      · exact ⟨hg, kb, p4, 0, 0, rfl, h1, .inr (.inl ⟨q, rfl, rfl, x, h2, by rw [← hsz]; exact h3⟩)⟩
      · exact ⟨hg, kb, p4, _, _, rfl, h2, .inr (.inr ⟨q, f, h1, rfl, rfl, h3⟩)⟩
  clear hr2 HIH
  obtain ⟨er2, bad2, hr2, hcall⟩ := KEY.out
  have HCALL := hidMk hcall
  clear KEY hcall
  obtain ⟨a1, a2, a3, f1, f2, hgl2⟩ := hr2.f
  have HR3 : Hid (RS (w2.setCell ⟨g, 1, none⟩ (.int .i64 ((p + 1 : Nat) : Int))) g E tks (p + 1) (lev + 1 : Nat) er2 bad2) := hr2.put1 (by omega)
  have HG3 : Hid (w.grownBy (w2.setCell ⟨g, 1, none⟩ (.int .i64 ((p + 1 : Nat) : Int))) (some g)) := xgTrans HG2.out (xgSet _ _ _)
  have HTo3 : Hid (OTk (w2.setCell ⟨g, 1, none⟩ (.int .i64 ((p + 1 : Nat) : Int))) w.heap.size KK X PL) := Own.grown HTo2.out (xgSet _ _ _) (by simp; omega)
  clear hr2 HG2 HTo2
  rw [show ((p + 1 : Nat) : Int) = (p : Int) + 1 by omega] at HR3 HG3 HTo3
  go_wp2_with fail
  refine (HCALL.out _ HR3.out (by simp)).mono ?_
  rintro e w4 ⟨hg4, kb, p4, er, bad, rfl, hr4, hout⟩
  have HOUT := hidMk hout
  have HG4 : Hid (w.grownBy w4 (some g)) := xgTrans HG3.out hg4
  have HTo4 : Hid (OTk w4 w.heap.size KK X PL) := Own.grown HTo3.out hg4 (by simp; omega)
  have hN4 : w2.heap.size ≤ w4.heap.size := by have := hg4.size; simpa using this
  clear hout hg4 HTo3 HR3 HCALL a1 a2 a3 f1 f2
  obtain ⟨a1, a2, a3, f1, f2, hgl4⟩ := hr4.f
  obtain ⟨t0, t1, t2, htl⟩ := HTo4.out.cells
  have HR5 : Hid (RS (w4.setCell ⟨g, 2, none⟩ (.int .i64 (lev : Int))) g E tks p4 lev er bad) := hr4.put2
  have HG5 : Hid (w.grownBy (w4.setCell ⟨g, 2, none⟩ (.int .i64 (lev : Int))) (some g)) := xgTrans HG4.out (xgSet _ _ _)
  have HK5 : Hid (w4.grownBy (w4.setCell ⟨g, 2, none⟩ (.int .i64 (lev : Int))) (some g)) := xgSet _ _ _
  have hgw : ¬ w.heap.size = g := by omega
  clear hr4
  unfold ptrE
  go_wp2_with fail
  go_ret
  have hB6 : Below (w4.setCell ⟨g, 2, none⟩ (.int .i64 (lev : Int))).heap.size (w4.setCell ⟨g, 2, none⟩ (.int .i64 (lev : Int))) (((w4.setCell ⟨g, 2, none⟩ (.int .i64 (lev : Int))).alloc (.cells #[.pointer (some ⟨kb, 0, none⟩)] 28)).alloc (.cells #[.string ⟨#[109, 105, 110, 117, 115]⟩, .int .i64 PL, .slice (some ⟨w4.heap.size, 0, none⟩) 1 1, .int .i64 0, .int .i64 0, .string ⟨#[]⟩, .string ⟨#[]⟩] 67)) := (xbel1 _ _).alloc (by simp) _
  refine pre_fin (sb := w4.heap.size) (eb := w4.heap.size + 1) HOUT.out (.inr ⟨rfl, HX.out⟩) HT.out HT1.out (xgTrans HG5.out (xgBelow hB6)) (HR5.out.later hB6) hN2 (by simp; omega) (keepG (xgTrans HK5.out (xgBelow hB6)) hgl2) (by omega) (by simp) (by omega) (by simp; omega) ?_ ?_ ?_ ?_
  · rw [HX.out, wPre_minus]; unfold bMinusW; go_simp
  · go_simp
  · go_simp
  · unfold ptrE; go_simp
end Go.Proofs.YtnmelljaangfiaaGreatDoor.Dc
