import Derived.Test.YtplaplhmjpfbjaaGreatDoorDc1
import Derived.Deep.LoopGhost
namespace Go.Proofs.YtplaplhmjpfbjaaGreatDoor.Dc
open Go.RowKit
set_option linter.unusedVariables false
set_option linter.unusedSimpArgs false
set_option maxRecDepth 100000

set_option maxHeartbeats 16000000 in
theorem climb_not {L : ByteArray → Int → Int → ByteArray → Prop} (g E p lev r0 : Nat) (least : Int) (tks : List Tk) (t : Tk) (ts : List Tk) (w : World) (h : RS w g E tks p lev 0 0) (hlev : lev ≤ 12) (hr0 : r0 ≤ 6) (hleast : least = (r0 : Int) + 1 ∨ (least = 0 ∧ r0 = 0)) (hw : ∀ t ∈ tks, Wf t) (ihC : ClimbOk L g E tks p) (ht : tks.drop p = t :: ts) (htx : t.tx = bNot) (hl3 : least ≤ 3) :
    Calls Tryz.prog 55 #[.pointer (some ⟨g, 0, none⟩), .int .i64 least] w (CPost L w g E tks p lev r0) := by
  have hwt : ∀ t' ∈ tks.drop p, Wf t' := fun t' h' => hw t' (List.mem_of_mem_drop h')
  have HS : Hid (∀ W, Below w.heap.size w W → Calls Tryz.prog 73 #[.pointer (some ⟨g, 0, none⟩), .string bNot] W fun e w' => e = .returned (.bool true) ∧ Below W.heap.size W w') := fun W hW => by
    refine (sign_any g E p tks lev 0 0 bNot W (h.later hW)).mono ?_
    rintro e w' ⟨rfl, hb⟩
    refine ⟨?_, hb⟩
    rw [sg_hd hwt ok_not, ht]
    simp [hd, htx]
  obtain ⟨ht1, hpl⟩ := drop_cons ht
  have HR := hidMk h
  have hgl := h.lt
  have HWF := hidMk hw
  have HIH := hidMk ihC
  have HT := hidMk ht
  have HT1 := hidMk ht1
  have HX := hidMk htx
  unfold bNot at HS
  clear h hw hwt ihC ht ht1 htx
  obtain ⟨PL, K, X⟩ := t
  simp only at *
  go_enter Tryz.func55, Tryz.ntmps55
  go_wp2_with fail
  refine (HS.out _ (by first | exact Below.refl _ _ | exact xbel1 _ _)).mono ?_
  rintro e w1 ⟨rfl, hb1⟩
  have HB1 : Hid (Below w.heap.size w w1) := by first | exact hb1 | exact (xbel1 _ _).trans (hb1.mono (by simp))
  have HR1 : Hid (RS w1 g E tks p lev 0 0) := HR.out.later HB1.out
  clear hb1 HS HR
  go_wp2_with fail
  refine (in_any g E p lev tks 0 0 w1 HR1.out hlev).mono ?_
  rintro e w2 ⟨rfl, hg2, hr2⟩
  have HG2 : Hid (w.grownBy w2 (some g)) := xgTrans (xgBelow HB1.out) hg2
  clear hg2 HR1 HB1
  have hN2 : w.heap.size ≤ w2.heap.size := HG2.out.size
  have KEY : Hid (∃ er2 bad2 : Int, RS w2 g E tks p (lev + 1 : Nat) er2 bad2 ∧ ∀ W lo, RS W g E tks (p + 1) (lev + 1 : Nat) er2 bad2 → W.heap.size = lo → Calls Tryz.prog 55 #[.pointer (some ⟨g, 0, none⟩), .int .i64 3] W fun e w' => W.grownBy w' (some g) ∧ ∃ kb p4 er bad, e = .returned (ptrE kb) ∧ RS w' g E tks p4 (lev + 1 : Nat) er bad ∧ PreOut L w' lo E tks p p4 lev 2 PL kb er bad) := by
    by_cases q : lev = 12
    · rw [if_pos q] at hr2
      have hd1 : (hd E (tks.drop p)).pl = PL := by rw [HT.out]; rfl
      rw [hd1] at hr2
      refine ⟨4, PL, hr2, fun W lo hW hsz => ?_⟩
      refine (climb_err g E (p + 1) tks _ 4 PL 3 W hW (by decide)).mono ?_
      rintro e w' ⟨hb, kb, rfl⟩
      exact ⟨xgBelow hb, kb, p + 1, 4, PL, rfl, hW.later hb, .inl ⟨q, rfl, rfl⟩⟩
    · rw [if_neg q] at hr2
      refine ⟨0, 0, hr2, fun W lo hW hsz => ?_⟩
      refine (HIH.out (p + 1) (lev + 1) 2 3 W (by omega) (by omega) (by omega) (by omega) (.inl rfl) hW).mono ?_
      rintro e w' ⟨hg, kb, rfl, ⟨x, p4, h1, h2, h3⟩ | ⟨f, p4, h1, h2, h3⟩⟩
      · exact ⟨hg, kb, p4, 0, 0, rfl, h1, .inr (.inl ⟨q, rfl, rfl, x, h2, by rw [← hsz]; exact h3⟩)⟩
      · exact ⟨hg, kb, p4, _, _, rfl, h2, .inr (.inr ⟨q, f, h1, rfl, rfl, h3⟩)⟩
  clear hr2
  obtain ⟨er2, bad2, hr2, hcall⟩ := KEY.out
  have HCALL := hidMk hcall
  clear KEY hcall
  obtain ⟨b, cap, hbg, hgl2, c0, c1, c2, c3, c4, d0, d1, d2, hl⟩ := hr2.hd
  rw [HT.out] at d0 d1 d2
  simp only [hd] at d0 d1 d2
  generalize srt K = KK at *
  have hbl : b < w2.heap.size := by omega
  have hp0 : (0 : Int) ≤ (p : Int) := by omega
  have f1 := hr2.soft 1
  have HR2 := hidMk hr2
  have hl200 := hr2.few
  clear hr2
  go_wp2_with fail
  go_region_held3 (fun w' => w'.cell? ⟨g, 0, none⟩ = some (.slice (some ⟨b, 0, none⟩) (tks.length + 1) cap) ∧ w'.cell? ⟨g, 1, none⟩ = some (.int .i64 p) ∧ w'.cell? ⟨b, p * 3, none⟩ = some (.int .u8 KK) ∧ w'.cell? ⟨b, p * 3 + 1, none⟩ = some (.string X) ∧ w'.cell? ⟨b, p * 3 + 2, none⟩ = some (.int .i64 PL)) (first | go_keep) (first | fail)
  have HR3 : Hid (RS (((w2.setCell ⟨g, 1, none⟩ (.int .i64 ((p + 1 : Nat) : Int))).alloc (.cells #[.string ⟨#[110, 111, 116]⟩, .int .i64 PL, .slice none 0 0, .int .i64 0, .int .i64 0, .string ⟨#[]⟩, .string ⟨#[]⟩] 112)).drew) g E tks (p + 1) (lev + 1 : Nat) er2 bad2) := RS.later (HR2.out.put1 (by omega)) (xbel1 _ _).drew
  have HG3 : Hid (w.grownBy (((w2.setCell ⟨g, 1, none⟩ (.int .i64 ((p + 1 : Nat) : Int))).alloc (.cells #[.string ⟨#[110, 111, 116]⟩, .int .i64 PL, .slice none 0 0, .int .i64 0, .int .i64 0, .string ⟨#[]⟩, .string ⟨#[]⟩] 112)).drew) (some g)) := xgTrans (xgTrans HG2.out (xgSet _ _ _)) (xgBelow (xbel1 _ _).drew)
  have HO3 : Hid (Own (((w2.setCell ⟨g, 1, none⟩ (.int .i64 ((p + 1 : Nat) : Int))).alloc (.cells #[.string ⟨#[110, 111, 116]⟩, .int .i64 PL, .slice none 0 0, .int .i64 0, .int .i64 0, .string ⟨#[]⟩, .string ⟨#[]⟩] 112)).drew) w2.heap.size 112 7 [.string bNot, .int .i64 PL, .slice none 0 0, .int .i64 0, .int .i64 0, .string ⟨#[]⟩, .string ⟨#[]⟩]) := by
    have h0 := (Own.new (w2.setCell ⟨g, 1, none⟩ (.int .i64 ((p + 1 : Nat) : Int))) 112 7 #[.string ⟨#[110, 111, 116]⟩, .int .i64 PL, .slice none 0 0, .int .i64 0, .int .i64 0, .string ⟨#[]⟩, .string ⟨#[]⟩] rfl).later (Below.refl _ _).drew
    rw [show (w2.setCell ⟨g, 1, none⟩ (.int .i64 ((p + 1 : Nat) : Int))).heap.size = w2.heap.size by simp] at h0
    exact h0
  rw [show ((p + 1 : Nat) : Int) = (p : Int) + 1 by omega] at HR3 HG3 HO3
  go_wp2_with fail
  refine (HCALL.out _ (w2.heap.size + 1) HR3.out (by simp)).mono ?_
  rintro e w4 ⟨hg4, kb, p4, er, bad, rfl, hr4, hout⟩
  have HOUT := hidMk hout
  have HG4 : Hid (w.grownBy w4 (some g)) := xgTrans HG3.out hg4
  have hO4 : Own w4 w2.heap.size 112 7 [.string bNot, .int .i64 PL, .slice none 0 0, .int .i64 0, .int .i64 0, .string ⟨#[]⟩, .string ⟨#[]⟩] := HO3.out.grown hg4 (by simp; omega)
  have HO4 := hidMk hO4
  have HR4 := hidMk hr4
  have hN4 : w2.heap.size + 1 ≤ w4.heap.size := by have := hg4.size; simpa using this
  clear hout hg4 HR3 HG3 HO3 HCALL c0 c1 c2 c3 c4 d0 d1 d2 f1 HR2 HG2 hbl hgl2
  obtain ⟨a1, a2, a3, f1, f2, hgl4⟩ := hr4.f
  have x2 : w4.cell? ⟨w2.heap.size, 2, none⟩ = some (.slice none 0 0) := by rw [hO4.cell 2 (by decide)]; rfl
  have x2s := hO4.soft 2
  have hxg : ¬ w2.heap.size = g := by omega
  have hxl : w2.heap.size < w4.heap.size := by omega
  clear hr4 hO4
  have hs1 := xgSet w4 ⟨w2.heap.size, 2, none⟩ (.slice (some ⟨w4.heap.size, 0, none⟩) 1 1)
  have hs2 := xgSet (w4.setCell ⟨w2.heap.size, 2, none⟩ (.slice (some ⟨w4.heap.size, 0, none⟩) 1 1)) ⟨g, 2, none⟩ (.int .i64 (lev : Int))
  have hB7 : Below ((w4.setCell ⟨w2.heap.size, 2, none⟩ (.slice (some ⟨w4.heap.size, 0, none⟩) 1 1)).setCell ⟨g, 2, none⟩ (.int .i64 (lev : Int))).heap.size ((w4.setCell ⟨w2.heap.size, 2, none⟩ (.slice (some ⟨w4.heap.size, 0, none⟩) 1 1)).setCell ⟨g, 2, none⟩ (.int .i64 (lev : Int))) (((w4.setCell ⟨w2.heap.size, 2, none⟩ (.slice (some ⟨w4.heap.size, 0, none⟩) 1 1)).setCell ⟨g, 2, none⟩ (.int .i64 (lev : Int))).alloc (.cells #[.pointer (some ⟨kb, 0, none⟩)] 48)) := xbel1 _ _
  have hO7 : Own (((w4.setCell ⟨w2.heap.size, 2, none⟩ (.slice (some ⟨w4.heap.size, 0, none⟩) 1 1)).setCell ⟨g, 2, none⟩ (.int .i64 (lev : Int))).alloc (.cells #[.pointer (some ⟨kb, 0, none⟩)] 48)) w2.heap.size 112 7 [.string bNot, .int .i64 PL, .slice (some ⟨w4.heap.size, 0, none⟩) 1 1, .int .i64 0, .int .i64 0, .string ⟨#[]⟩, .string ⟨#[]⟩] := ((HO4.out.put 2 (.slice (some ⟨w4.heap.size, 0, none⟩) 1 1)).1.grown hs2 (by simp; omega)).later hB7
  have KEY7 : Hid (∃ G0, LI L w g E tks p lev r0 G0 (ptrE w2.heap.size) (.bool true) (.int .i64 9) (((w4.setCell ⟨w2.heap.size, 2, none⟩ (.slice (some ⟨w4.heap.size, 0, none⟩) 1 1)).setCell ⟨g, 2, none⟩ (.int .i64 (lev : Int))).alloc (.cells #[.pointer (some ⟨kb, 0, none⟩)] 48))) := by
    refine not_fin (sb := w4.heap.size) (eb := w2.heap.size) HOUT.out (by omega) HX.out HT.out HT1.out (xgTrans (xgTrans (xgNew HG4.out hs1 (fun n hn => by cases hn; exact hN2)) hs2) (xgBelow hB7)) (((HR4.out.grown hs1 (fun k hk => by cases hk; show g < w2.heap.size; omega)).put2).later hB7) (by omega) (by simp) ?_ hN2 (by simp; omega) (by omega) (by simp) ?_ ?_ ?_ ?_
    · intro b' i u h1 h2 h3
      have h4 := hs1.cell h3 (fun e => by simp at e; omega)
      have h5 := hs2.cell h4 (fun e => by simp at e; omega)
      exact xcell hB7 h5
    · rw [hO7.cell 0 (by decide)]; rfl
    · rw [hO7.cell 1 (by decide)]; rfl
    · rw [hO7.cell 2 (by decide)]; rfl
    · unfold ptrE; go_simp
  clear hs1 hs2 hB7 hO7 HOUT HG4 HO4 HR4
  unfold ptrE
  go_wp2_with fail
  obtain ⟨G0, hst⟩ := KEY7.out
  have HST := hidMk hst
  clear KEY7 hst a1 a2 a3 f1 f2 x2 x2s
  go_loopg [5, 6, 8] G0 (fun gk xv nv mv wr => LI L w g E tks p lev r0 gk xv nv mv wr)
  case atStart => exact HST.out
  case round =>
    clear HST
    obtain ⟨xb, q, er, bad, rfl, hRS, hG, hcase⟩ := hrel
    have HR7 := hidMk hRS
    have HG7 := hidMk hG
    obtain ⟨b, cap, hbg, hgl7, c0, c1, c2, c3, c4, d0, d1, d2, hl⟩ := hRS.hd
    rcases hcase with ⟨rfl, rfl, hgk, hpq, x, m, nb, mo, rfl, rfl, het, hcont, hmo⟩ | ⟨f, hf1, hf2, hf3, hf4⟩
    · have HET := hidMk het
      have HCONT := hidMk hcont
      have HMO := hidMk hmo
      have hkd := hd_kd (E := E) (ts := tks.drop q) (fun t' h' => HWF.out t' (List.mem_of_mem_drop h'))
      obtain ⟨xb', S, hxb, hlo, hhi, cW⟩ := het.what
      obtain rfl : xb = xb' := by unfold ptrE at hxb; simpa using hxb
      have hq200 := hRS.few
      have hqp := hRS.place
      have hbl : b < wr.heap.size := by omega
      have hq0 : (0 : Int) ≤ (q : Int) := by omega
      obtain ⟨T, hT⟩ : ∃ T, T = hd E (tks.drop q) := ⟨_, rfl⟩
      rw [← hT] at d0 d1 d2 hkd
      have HT := hidMk hT
      have HPW : Hid (∀ W, Calls Tryz.prog 76 #[.string T.tx] W fun e w' => e = .returned (.int .i64 (pow T.tx)) ∧ w' = W) := fun W => power_any T.tx W
      clear het hcont hmo hRS hG hT hxb
      obtain ⟨PL, K, X⟩ := T
      simp only at *
      obtain ⟨KK, hKK⟩ : ∃ KK, KK = srt K := ⟨_, rfl⟩
      rw [← hKK] at d0
      have HKK := hidMk hKK
      clear hKK
      unfold ptrE
      go_wp2_with fail
      go_region_held3 (fun w' => w'.cell? ⟨g, 0, none⟩ = some (.slice (some ⟨b, 0, none⟩) (tks.length + 1) cap) ∧ w'.cell? ⟨g, 1, none⟩ = some (.int .i64 q) ∧ w'.cell? ⟨b, q * 3, none⟩ = some (.int .u8 KK) ∧ w'.cell? ⟨b, q * 3 + 1, none⟩ = some (.string X) ∧ w'.cell? ⟨b, q * 3 + 2, none⟩ = some (.int .i64 PL)) (first | go_keep) (first | fail)
      clear c0 c1 c2 c4 d0 d1 d2
      go_wp2_with fail
      refine (HPW.out _).mono ?_
      rintro e wP ⟨rfl, hwP⟩
      subst hwP
      by_cases hgo : r0 ≤ sgn X ∧ sgn X ≤ m
      · obtain ⟨hK, hP, hs5, hPz, hPl, hPm, hPn⟩ := go_facts HMO.out hkd hleast hgo.1 hgo.2
        have hKn : KK = 110 ∨ KK = 111 := by rw [HKK.out]; exact srt_w hK
        clear hkd hleast
        have HHP := hidMk hP
        have HGO := hidMk hgo
        have hP6 : pow X ≤ 6 := by omega
        have hP1 : 1 ≤ pow X := by omega
        have HK := hidMk hK
        have HS5 := hidMk hs5
        have hPzb : (pow X == 0) = false := by rw [beq_eq_false_iff_ne]; exact hPz
        have HP2 : Hid ((S.toList == [110, 111, 116]) = false ∨ ((S.toList == [110, 111, 116]) = true ∧ (2 : Int) < pow X ∧ nb = false) ∨ ((S.toList == [110, 111, 116]) = true ∧ ¬ (2 : Int) < pow X)) := by
          cases (S.toList == [110, 111, 116])
          · exact .inl rfl
          · by_cases h2 : (2 : Int) < pow X
            · exact .inr (.inl ⟨rfl, h2, by cases nb with | false => rfl | true => exact absurd h2 (hPn rfl)⟩)
            · exact .inr (.inr ⟨rfl, h2⟩)
        have hRS := HR7.out
        have f1 := hRS.soft 1
        have HR8 : Hid (RS (((wr.setCell ⟨g, 1, none⟩ (.int .i64 ((q + 1 : Nat) : Int))).alloc (.cells #[.int .u8 KK, .string X, .int .i64 PL] 106)).drew) g E tks (q + 1) lev 0 0) := RS.later (hRS.put1 (by
          have h0 := HT.out
          cases hd4 : tks.drop q with
          | nil =>
            rw [hd4] at h0
            have : K = 0 := congrArg Tk.kd h0
            omega
          | cons t1 ts1 => have := (drop_cons hd4).2; omega)) (xbel1 _ _).drew
        have HG8 : Hid (w.grownBy (((wr.setCell ⟨g, 1, none⟩ (.int .i64 ((q + 1 : Nat) : Int))).alloc (.cells #[.int .u8 KK, .string X, .int .i64 PL] 106)).drew) (some g)) := xgTrans (xgTrans HG7.out (xgSet _ _ _)) (xgBelow (xbel1 _ _).drew)
        have HTo8 : Hid (OTk (((wr.setCell ⟨g, 1, none⟩ (.int .i64 ((q + 1 : Nat) : Int))).alloc (.cells #[.int .u8 KK, .string X, .int .i64 PL] 106)).drew) wr.heap.size KK X PL) := by
          have h0 := OTk.new (wr.setCell ⟨g, 1, none⟩ (.int .i64 ((q + 1 : Nat) : Int))) KK X PL
          rw [show (wr.setCell ⟨g, 1, none⟩ (.int .i64 ((q + 1 : Nat) : Int))).heap.size = wr.heap.size by simp] at h0
          exact h0
        have HK8 : Hid (wr.grownBy (((wr.setCell ⟨g, 1, none⟩ (.int .i64 ((q + 1 : Nat) : Int))).alloc (.cells #[.int .u8 KK, .string X, .int .i64 PL] 106)).drew) (some g)) := xgTrans (xgSet _ _ _) (xgBelow (xbel1 _ _).drew)
        rw [show ((q + 1 : Nat) : Int) = (q : Int) + 1 by omega] at HR8 HG8 HTo8 HK8
        have hqlen : q + 1 ≤ tks.length := HR8.out.place
        have HCL : Hid (∀ W, RS W g E tks (q + 1) lev 0 0 → Calls Tryz.prog 55 #[.pointer (some ⟨g, 0, none⟩), .int .i64 (pow X + 1)] W (CPost L W g E tks (q + 1) lev (sgn X + 1))) := fun W hW => HIH.out (q + 1) lev (sgn X + 1) (pow X + 1) W (by omega) (by omega) hlev (by omega) (.inl (by omega)) hW
        have hgw : ¬ wr.heap.size = g := by omega
        have HP4 : Hid (((pow X == 4) = true ∧ (3 : Int) = if sgn X = 3 then 3 else (sgn X : Int) + 1) ∨ ((pow X == 4) = false ∧ pow X = if sgn X = 3 then 3 else (sgn X : Int) + 1)) := by
          by_cases h4 : sgn X = 3
          · left; exact ⟨by rw [hP, h4]; rfl, by rw [if_pos h4]⟩
          · right; exact ⟨by rw [beq_eq_false_iff_ne]; omega, by rw [if_neg h4]; exact hP⟩
        clear hgo hP hPz hPn hK hs5 hRS HKK
        generalize pow X = PW at *
        rcases hKn with rfl | rfl
        all_goals
          rcases HP2.out with hS | ⟨hS, h2p, rfl⟩ | ⟨hS, h2p⟩
          all_goals
            clear HP2
            go_wp2_with fail
            refine (HCL.out _ HR8.out).mono ?_
            rintro e w9 ⟨hg9, yb, rfl, hres⟩
            have HRES := hidMk hres
            have hN9 := hg9.size
            have hN8 := HK8.out.size
            have HG9 : Hid (w.grownBy w9 (some g)) := xgTrans HG8.out hg9
            have HK9 : Hid (wr.grownBy w9 (some g)) := xgTrans HK8.out hg9
            have HTo9 : Hid (OTk w9 wr.heap.size _ X PL) := Own.grown HTo8.out hg9 (by simp; omega)
            have KEY9 : Hid (∃ q9 er bad, RS w9 g E tks q9 lev er bad ∧ ((er = 0 ∧ bad = 0 ∧ ∃ y, Ps L E (.D (sgn X + 1)) lev (tks.drop (q + 1)) (.ok (y, tks.drop q9)) ∧ Et w9 wr.heap.size w9.heap.size y (ptrE yb)) ∨ (∃ f : Flt, f.why ≠ 0 ∧ er = f.why ∧ bad = f.pl ∧ Ps L E (.D (sgn X + 1)) lev (tks.drop (q + 1)) (.error f)))) := by
              rcases hres with ⟨y, q9, h1, h2, h3⟩ | ⟨f, q9, h1, h2, h3⟩
              · exact ⟨q9, 0, 0, h1, .inl ⟨rfl, rfl, y, h2, Et.keep (fun _ _ _ _ _ h => h) hN8 (Nat.le_refl _) y _ h3⟩⟩
              · exact ⟨q9, _, _, h2, .inr ⟨f, h1, rfl, rfl, h3⟩⟩
            clear hres hg9 HRES HR8 HG8 HTo8 HK8 HCL
            obtain ⟨q9, er, bad, hr9, hout9⟩ := KEY9.out
            have HR9 := hidMk hr9
            have HOUT9 := hidMk hout9
            clear KEY9 hr9 hout9
            obtain ⟨t0, t1, t2, htl⟩ := HTo9.out.cells
            have hN9' : wr.heap.size ≤ w9.heap.size := HK9.out.size
            have hNw : w.heap.size ≤ wr.heap.size := HG7.out.size
            unfold ptrE
            rcases HP4.out with ⟨h4, h4'⟩ | ⟨h4, h4'⟩
            all_goals
              have H4 := hidMk h4'
              clear HP4 h4'
              go_wp2_with fail
              have hB6 : Below w9.heap.size w9 ((w9.alloc (.cells #[.pointer (some ⟨xb, 0, none⟩), .pointer (some ⟨yb, 0, none⟩)] 48)).alloc (.cells #[.string X, .int .i64 PL, .slice (some ⟨w9.heap.size, 0, none⟩) 2 2, .int .i64 0, .int .i64 0, .string ⟨#[]⟩, .string ⟨#[]⟩] 112)) := (xbel1 _ _).alloc (by simp) _
              have hkeep := keepG (lo := w.heap.size) (hi := wr.heap.size) (xgTrans HK9.out (xgBelow hB6)) hgl
              obtain ⟨G9, hG9, hLI⟩ := step_fin (sb := w9.heap.size) (eb := w9.heap.size + 1) (W := (w9.alloc (.cells #[.pointer (some ⟨xb, 0, none⟩), .pointer (some ⟨yb, 0, none⟩)] 48)).alloc (.cells #[.string X, .int .i64 PL, .slice (some ⟨w9.heap.size, 0, none⟩) 2 2, .int .i64 0, .int .i64 0, .string ⟨#[]⟩, .string ⟨#[]⟩] 112)) HT.out HK.out HGO.out.1 HGO.out.2 HS5.out H4.out HCONT.out hgk hpq (xgTrans HG9.out (xgBelow hB6)) (HR9.out.later hB6) (by
                rcases HOUT9.out with ⟨e1, e2, y, h1, h2⟩ | h
                · exact .inl ⟨e1, e2, y, h1, Et.keep (fun b i u _ hb hc => xcell hB6 hc) (by omega) hB6.size y _ h2⟩
                · exact .inr h) (Et.keep hkeep (Nat.le_refl _) (by have := hB6.size; omega) x _ HET.out) (by omega) (by simp) (by omega) (by simp; omega) (by go_simp) (by go_simp) (by go_simp) (by unfold ptrE; go_simp) (by unfold ptrE; go_simp)
              go_roundg G9
              case rel => exact hLI
              case measure => omega
      · have hB0 : Below wr.heap.size wr (wr.alloc (.cells #[.int .u8 KK, .string X, .int .i64 PL] 106)).drew := (xbel1 _ _).drew
        have FIN : Hid (CPost L w g E tks p lev r0 (.returned (ptrE xb)) (wr.alloc (.cells #[.int .u8 KK, .string X, .int .i64 PL] 106)).drew) := by
          refine ⟨xgTrans HG7.out (xgBelow hB0), xb, rfl, .inl ⟨x, q, HR7.out.later hB0, HCONT.out _ (.stop ?_), Et.keep (fun b i u _ hb hc => xcell hB0 hc) (Nat.le_refl _) hB0.size x _ HET.out⟩⟩
          rw [← HT.out]; exact hgo
        have hst := stop_facts HMO.out hkd hleast hgo
        have HKS : Hid ((KK = 101 ∨ KK = 48 ∨ KK = 39) ∨ ((KK = 110 ∨ KK = 111) ∧ (pow X = 0 ∨ ((pow X == 0) = false ∧ pow X < least) ∨ ((pow X == 0) = false ∧ ¬ pow X < least ∧ mo < pow X) ∨ ((pow X == 0) = false ∧ ¬ pow X < least ∧ ¬ mo < pow X ∧ nb = true ∧ (2 : Int) < pow X ∧ (S.toList == [110, 111, 116]) = true)))) := by
          rcases hst with h | ⟨h, h2⟩
          · exact .inl (by rw [HKK.out]; exact srt_o h)
          · refine .inr ⟨by rw [HKK.out]; exact srt_w h, ?_⟩
            rcases h2 with h2 | h2 | h2 | ⟨a, b, c, d, e, pl, y, hx⟩
            · exact .inl h2
            · exact .inr (.inl ⟨beq_eq_false_iff_ne.2 h2.1, h2.2⟩)
            · exact .inr (.inr (.inl ⟨beq_eq_false_iff_ne.2 h2.1, h2.2⟩))
            · refine .inr (.inr (.inr ⟨beq_eq_false_iff_ne.2 a, b, c, d, e, ?_⟩))
              have h3 := HET.out
              rw [hx, Et] at h3
              obtain ⟨b', kv, u, e1, _, _, e2, _⟩ := h3
              obtain rfl : xb = b' := by unfold ptrE at e1; simpa using e1
              rw [cW, wPre_not] at e2
              have e3 : S = bNot := by simpa using e2
              rw [e3]; decide +kernel
        clear hst hkd hleast hgo HKK HMO HCONT HET hB0 HR7 HIH
        generalize pow X = PW at *
        rcases HKS.out with (rfl | rfl | rfl) | ⟨rfl | rfl, h0 | ⟨h0, h1⟩ | ⟨h0, h1, h2⟩ | ⟨h0, h1, h2, rfl, h3, h4⟩⟩
        all_goals
          clear HKS
          go_wp2_with fail
          all_goals
            go_ret
            exact FIN.out
    · have hne : ¬ er = 0 := by omega
      have hneb : (er == 0) = false := by simp [hne]
      have FIN : Hid (CPost L w g E tks p lev r0 (.returned (ptrE xb)) wr) := ⟨HG7.out, xb, rfl, .inr ⟨f, q, hf1, by rw [← hf2, ← hf3]; exact HR7.out, hf4⟩⟩
      clear hf1 hf2 hf3 hf4 hRS hG hne d0 d1 d2 c4
      unfold ptrE
      go_wp2_with fail
      go_ret
      exact FIN.out
end Go.Proofs.YtplaplhmjpfbjaaGreatDoor.Dc
