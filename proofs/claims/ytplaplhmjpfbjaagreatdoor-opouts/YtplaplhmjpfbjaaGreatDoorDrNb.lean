import Derived.Test.YtplaplhmjpfbjaaGreatDoorDc1
import Derived.Deep.LoopGhost
namespace Go.Proofs.YtplaplhmjpfbjaaGreatDoor.Dc
open Go.RowKit
set_option linter.unusedVariables false
set_option linter.unusedSimpArgs false
set_option maxRecDepth 100000

set_option maxHeartbeats 16000000 in
theorem climb_first4 {L : ByteArray → Int → Int → ByteArray → Prop} (g E p lev r0 : Nat) (least : Int) (tks : List Tk) (w : World) (h : RS w g E tks p lev 0 0) (hlev : lev ≤ 12) (hr0 : r0 ≤ 6) (hleast : least = (r0 : Int) + 1 ∨ (least = 0 ∧ r0 = 0)) (hw : ∀ t ∈ tks, Wf t) (ihC : ClimbOk L g E tks p) (hfirst : ∀ W, RS W g E tks p lev 0 0 → Calls Tryz.prog 75 #[.pointer (some ⟨g, 0, none⟩)] W (CPost L W g E tks p lev 6)) (hl3 : ¬ least ≤ 3) (hno : ¬ (least ≤ 3 ∧ (hd E (tks.drop p)).tx = bNot)) :
    Calls Tryz.prog 55 #[.pointer (some ⟨g, 0, none⟩), .int .i64 least] w (CPost L w g E tks p lev r0) := by
  have hwt : ∀ t' ∈ tks.drop p, Wf t' := fun t' h' => hw t' (List.mem_of_mem_drop h')
  obtain ⟨nb0, hnb0⟩ : ∃ nb0, nb0 = decide ((hd E (tks.drop p)).tx = bNot) := ⟨_, rfl⟩
  have HS : Hid (∀ W, Below w.heap.size w W → Calls Tryz.prog 73 #[.pointer (some ⟨g, 0, none⟩), .string bNot] W fun e w' => e = .returned (.bool nb0) ∧ Below W.heap.size W w') := fun W hW => by
    refine (sign_any g E p tks lev 0 0 bNot W (h.later hW)).mono ?_
    rintro e w' ⟨rfl, hb⟩
    refine ⟨?_, hb⟩
    rw [sg_hd hwt ok_not, hnb0]
    simp
  have HR := hidMk h
  have hgl := h.lt
  have HWF := hidMk hw
  have HF := hidMk hfirst
  have HIH := hidMk ihC
  have HNB := hidMk hnb0
  have HNO := hidMk hno
  unfold bNot at HS
  clear h hw hwt hfirst ihC hnb0 hno
  have HB3 : Hid (least ≤ 3 → nb0 = false) := fun h => by rw [HNB.out]; exact decide_eq_false (fun e => HNO.out ⟨h, e⟩)
  clear HB3
  go_enter Tryz.func55, Tryz.ntmps55
  go_wp2_with fail
  refine (HS.out _ (by first | exact Below.refl _ _ | exact xbel1 _ _)).mono ?_
  rintro e w1 ⟨rfl, hb1⟩
  have HB1 : Hid (Below w.heap.size w w1) := by first | exact hb1 | exact (xbel1 _ _).trans (hb1.mono (by simp))
  have HR1 : Hid (RS w1 g E tks p lev 0 0) := HR.out.later HB1.out
  clear hb1 HS HR
  go_wp2_with fail
  refine (HF.out _ HR1.out).mono ?_
  rintro e w2 ⟨hg2, xb, rfl, hres⟩
  have KEY : Hid (∃ G0, LI L w g E tks p lev r0 G0 (ptrE xb) (.bool nb0) (.int .i64 9) w2) := by
    have hG : w.grownBy w2 (some g) := xgTrans (xgBelow HB1.out) hg2
    rcases hres with ⟨x, p', h1, h2, h3⟩ | ⟨f, p', h1, h2, h3⟩
    · have hp' := h1.place
      have hnh := ok_notHead (fun t' h' => HWF.out t' (List.mem_of_mem_drop h')) h2
      have hsh := (h2.shorter _ _ rfl).2 (by intros; simp)
      rw [List.length_drop, List.length_drop] at hsh
      refine ⟨tks.length + 1 - p', xb, p', 0, 0, rfl, h1, hG, .inl ⟨rfl, rfl, by omega, by omega, x, 5, _, 9, rfl, rfl, Et.keep (fun _ _ _ _ _ h => h) HB1.out.size (Nat.le_refl _) x _ h3, fun o ho => St.first hr0 h2 ho (fun _ => hnh), .inl ⟨?_, .inl ⟨rfl, rfl⟩⟩⟩⟩
      first
        | rfl
        | exact HNB.out.trans (decide_eq_false hnh)
    · refine ⟨0, xb, p', _, _, rfl, h2, hG, .inr ⟨f, h1, rfl, rfl, St.firstBad hr0 h3 (fun h => fun e => HNO.out ⟨by omega, e⟩)⟩⟩
  obtain ⟨G0, hst⟩ := KEY.out
  have HST := hidMk hst
  clear KEY hst hres hg2 HR1 HB1 HF HNB HNO
  unfold ptrE
  go_wp2_with fail
  go_loopg [5, 6, 8] G0 (fun gk xv nv mv wr => LI L w g E tks p lev r0 gk xv nv mv wr)
  case atStart => exact HST.out
  case round =>
    clear HST
    obtain ⟨xb, q, er, bad, rfl, hRS, hG, hcase⟩ := hrel
    have HR7 := hidMk hRS
    have HG7 := hidMk hG
    obtain ⟨b, cap, hbg, hgl7, c0, c1, c2, c3, c4, d0, d1, d2, hl⟩ := hRS.hd
    rcases hcase with ⟨rfl, rfl, hgk, hpq, x, m, nb, mo, rfl, rfl, het, hcont, hmo⟩ | ⟨f, hf1, hf2, hf3, hf4⟩
    · have HET := hidMk het
      have HCONT := hidMk hcont
      have HMO := hidMk hmo
      have hkd := hd_kd (E := E) (ts := tks.drop q) (fun t' h' => HWF.out t' (List.mem_of_mem_drop h'))
      obtain ⟨xb', S, hxb, hlo, hhi, cW⟩ := het.what
      obtain rfl : xb = xb' := by unfold ptrE at hxb; simpa using hxb
      have hq200 := hRS.few
      have hqp := hRS.place
      have hbl : b < wr.heap.size := by omega
      have hq0 : (0 : Int) ≤ (q : Int) := by omega
      obtain ⟨T, hT⟩ : ∃ T, T = hd E (tks.drop q) := ⟨_, rfl⟩
      rw [← hT] at d0 d1 d2 hkd
      have HT := hidMk hT
      have HPW : Hid (∀ W, Calls Tryz.prog 76 #[.string T.tx] W fun e w' => e = .returned (.int .i64 (pow T.tx)) ∧ w' = W) := fun W => power_any T.tx W
      clear het hcont hmo hRS hG hT hxb
      obtain ⟨PL, K, X⟩ := T
      simp only at *
      obtain ⟨KK, hKK⟩ : ∃ KK, KK = srt K := ⟨_, rfl⟩
      rw [← hKK] at d0
      have HKK := hidMk hKK
      clear hKK
      unfold ptrE
      go_wp2_with fail
      go_region_held3 (fun w' => w'.cell? ⟨g, 0, none⟩ = some (.slice (some ⟨b, 0, none⟩) (tks.length + 1) cap) ∧ w'.cell? ⟨g, 1, none⟩ = some (.int .i64 q) ∧ w'.cell? ⟨b, q * 3, none⟩ = some (.int .u8 KK) ∧ w'.cell? ⟨b, q * 3 + 1, none⟩ = some (.string X) ∧ w'.cell? ⟨b, q * 3 + 2, none⟩ = some (.int .i64 PL)) (first | go_keep) (first | fail)
      clear c0 c1 c2 c4 d0 d1 d2
      go_wp2_with fail
      refine (HPW.out _).mono ?_
      rintro e wP ⟨rfl, hwP⟩
      subst hwP
      by_cases hgo : r0 ≤ sgn X ∧ sgn X ≤ m
      · obtain ⟨hK, hP, hs5, hPz, hPl, hPm, hPn⟩ := go_facts HMO.out hkd hleast hgo.1 hgo.2
        have hKn : KK = 110 ∨ KK = 111 := by rw [HKK.out]; exact srt_w hK
        clear hkd hleast
        have HHP := hidMk hP
        have HGO := hidMk hgo
        have hP6 : pow X ≤ 6 := by omega
        have hP1 : 1 ≤ pow X := by omega
        have HK := hidMk hK
        have HS5 := hidMk hs5
        have hPzb : (pow X == 0) = false := by rw [beq_eq_false_iff_ne]; exact hPz
        have HP2 : Hid ((S.toList == [110, 111, 116]) = false ∨ ((S.toList == [110, 111, 116]) = true ∧ (2 : Int) < pow X ∧ nb = false) ∨ ((S.toList == [110, 111, 116]) = true ∧ ¬ (2 : Int) < pow X)) := by
          cases (S.toList == [110, 111, 116])
          · exact .inl rfl
          · by_cases h2 : (2 : Int) < pow X
            · exact .inr (.inl ⟨rfl, h2, by cases nb with | false => rfl | true => exact absurd h2 (hPn rfl)⟩)
            · exact .inr (.inr ⟨rfl, h2⟩)
        have hRS := HR7.out
        have f1 := hRS.soft 1
        have HR8 : Hid (RS (((wr.setCell ⟨g, 1, none⟩ (.int .i64 ((q + 1 : Nat) : Int))).alloc (.cells #[.int .u8 KK, .string X, .int .i64 PL] 106)).drew) g E tks (q + 1) lev 0 0) := RS.later (hRS.put1 (by
          have h0 := HT.out
          cases hd4 : tks.drop q with
          | nil =>
            rw [hd4] at h0
            have : K = 0 := congrArg Tk.kd h0
            omega
          | cons t1 ts1 => have := (drop_cons hd4).2; omega)) (xbel1 _ _).drew
        have HG8 : Hid (w.grownBy (((wr.setCell ⟨g, 1, none⟩ (.int .i64 ((q + 1 : Nat) : Int))).alloc (.cells #[.int .u8 KK, .string X, .int .i64 PL] 106)).drew) (some g)) := xgTrans (xgTrans HG7.out (xgSet _ _ _)) (xgBelow (xbel1 _ _).drew)
        have HTo8 : Hid (OTk (((wr.setCell ⟨g, 1, none⟩ (.int .i64 ((q + 1 : Nat) : Int))).alloc (.cells #[.int .u8 KK, .string X, .int .i64 PL] 106)).drew) wr.heap.size KK X PL) := by
          have h0 := OTk.new (wr.setCell ⟨g, 1, none⟩ (.int .i64 ((q + 1 : Nat) : Int))) KK X PL
          rw [show (wr.setCell ⟨g, 1, none⟩ (.int .i64 ((q + 1 : Nat) : Int))).heap.size = wr.heap.size by simp] at h0
          exact h0
        have HK8 : Hid (wr.grownBy (((wr.setCell ⟨g, 1, none⟩ (.int .i64 ((q + 1 : Nat) : Int))).alloc (.cells #[.int .u8 KK, .string X, .int .i64 PL] 106)).drew) (some g)) := xgTrans (xgSet _ _ _) (xgBelow (xbel1 _ _).drew)
        rw [show ((q + 1 : Nat) : Int) = (q : Int) + 1 by omega] at HR8 HG8 HTo8 HK8
        have hqlen : q + 1 ≤ tks.length := HR8.out.place
        have HCL : Hid (∀ W, RS W g E tks (q + 1) lev 0 0 → Calls Tryz.prog 55 #[.pointer (some ⟨g, 0, none⟩), .int .i64 (pow X + 1)] W (CPost L W g E tks (q + 1) lev (sgn X + 1))) := fun W hW => HIH.out (q + 1) lev (sgn X + 1) (pow X + 1) W (by omega) (by omega) hlev (by omega) (.inl (by omega)) hW
        have hgw : ¬ wr.heap.size = g := by omega
        have HP4 : Hid (((pow X == 4) = true ∧ (3 : Int) = if sgn X = 3 then 3 else (sgn X : Int) + 1) ∨ ((pow X == 4) = false ∧ pow X = if sgn X = 3 then 3 else (sgn X : Int) + 1)) := by
          by_cases h4 : sgn X = 3
          · left; exact ⟨by rw [hP, h4]; rfl, by rw [if_pos h4]⟩
          · right; exact ⟨by rw [beq_eq_false_iff_ne]; omega, by rw [if_neg h4]; exact hP⟩
        clear hgo hP hPz hPn hK hs5 hRS HKK
        generalize pow X = PW at *
        rcases hKn with rfl | rfl
        all_goals
          rcases HP2.out with hS | ⟨hS, h2p, rfl⟩ | ⟨hS, h2p⟩
          all_goals try (exfalso; omega)
          all_goals
            clear HP2
            go_wp2_with fail
            refine (HCL.out _ HR8.out).mono ?_
            rintro e w9 ⟨hg9, yb, rfl, hres⟩
            have HRES := hidMk hres
            have hN9 := hg9.size
            have hN8 := HK8.out.size
            have HG9 : Hid (w.grownBy w9 (some g)) := xgTrans HG8.out hg9
            have HK9 : Hid (wr.grownBy w9 (some g)) := xgTrans HK8.out hg9
            have HTo9 : Hid (OTk w9 wr.heap.size _ X PL) := Own.grown HTo8.out hg9 (by simp; omega)
            have KEY9 : Hid (∃ q9 er bad, RS w9 g E tks q9 lev er bad ∧ ((er = 0 ∧ bad = 0 ∧ ∃ y, Ps L E (.D (sgn X + 1)) lev (tks.drop (q + 1)) (.ok (y, tks.drop q9)) ∧ Et w9 wr.heap.size w9.heap.size y (ptrE yb)) ∨ (∃ f : Flt, f.why ≠ 0 ∧ er = f.why ∧ bad = f.pl ∧ Ps L E (.D (sgn X + 1)) lev (tks.drop (q + 1)) (.error f)))) := by
              rcases hres with ⟨y, q9, h1, h2, h3⟩ | ⟨f, q9, h1, h2, h3⟩
              · exact ⟨q9, 0, 0, h1, .inl ⟨rfl, rfl, y, h2, Et.keep (fun _ _ _ _ _ h => h) hN8 (Nat.le_refl _) y _ h3⟩⟩
              · exact ⟨q9, _, _, h2, .inr ⟨f, h1, rfl, rfl, h3⟩⟩
            clear hres hg9 HRES HR8 HG8 HTo8 HK8 HCL
            obtain ⟨q9, er, bad, hr9, hout9⟩ := KEY9.out
            have HR9 := hidMk hr9
            have HOUT9 := hidMk hout9
            clear KEY9 hr9 hout9
            obtain ⟨t0, t1, t2, htl⟩ := HTo9.out.cells
            have hN9' : wr.heap.size ≤ w9.heap.size := HK9.out.size
            have hNw : w.heap.size ≤ wr.heap.size := HG7.out.size
            unfold ptrE
            rcases HP4.out with ⟨h4, h4'⟩ | ⟨h4, h4'⟩
            all_goals
              have H4 := hidMk h4'
              clear HP4 h4'
              go_wp2_with fail
              have hB6 : Below w9.heap.size w9 ((w9.alloc (.cells #[.pointer (some ⟨xb, 0, none⟩), .pointer (some ⟨yb, 0, none⟩)] 48)).alloc (.cells #[.string X, .int .i64 PL, .slice (some ⟨w9.heap.size, 0, none⟩) 2 2, .int .i64 0, .int .i64 0, .string ⟨#[]⟩, .string ⟨#[]⟩] 112)) := (xbel1 _ _).alloc (by simp) _
              have hkeep := keepG (lo := w.heap.size) (hi := wr.heap.size) (xgTrans HK9.out (xgBelow hB6)) hgl
              obtain ⟨G9, hG9, hLI⟩ := step_fin (sb := w9.heap.size) (eb := w9.heap.size + 1) (W := (w9.alloc (.cells #[.pointer (some ⟨xb, 0, none⟩), .pointer (some ⟨yb, 0, none⟩)] 48)).alloc (.cells #[.string X, .int .i64 PL, .slice (some ⟨w9.heap.size, 0, none⟩) 2 2, .int .i64 0, .int .i64 0, .string ⟨#[]⟩, .string ⟨#[]⟩] 112)) HT.out HK.out HGO.out.1 HGO.out.2 HS5.out H4.out HCONT.out hgk hpq (xgTrans HG9.out (xgBelow hB6)) (HR9.out.later hB6) (by
                rcases HOUT9.out with ⟨e1, e2, y, h1, h2⟩ | h
                · exact .inl ⟨e1, e2, y, h1, Et.keep (fun b i u _ hb hc => xcell hB6 hc) (by omega) hB6.size y _ h2⟩
                · exact .inr h) (Et.keep hkeep (Nat.le_refl _) (by have := hB6.size; omega) x _ HET.out) (by omega) (by simp) (by omega) (by simp; omega) (by go_simp) (by go_simp) (by go_simp) (by unfold ptrE; go_simp) (by unfold ptrE; go_simp)
              go_roundg G9
              case rel => exact hLI
              case measure => omega
      · have hB0 : Below wr.heap.size wr (wr.alloc (.cells #[.int .u8 KK, .string X, .int .i64 PL] 106)).drew := (xbel1 _ _).drew
        have FIN : Hid (CPost L w g E tks p lev r0 (.returned (ptrE xb)) (wr.alloc (.cells #[.int .u8 KK, .string X, .int .i64 PL] 106)).drew) := by
          refine ⟨xgTrans HG7.out (xgBelow hB0), xb, rfl, .inl ⟨x, q, HR7.out.later hB0, HCONT.out _ (.stop ?_), Et.keep (fun b i u _ hb hc => xcell hB0 hc) (Nat.le_refl _) hB0.size x _ HET.out⟩⟩
          rw [← HT.out]; exact hgo
        have hst := stop_facts HMO.out hkd hleast hgo
        have HKS : Hid ((KK = 101 ∨ KK = 48 ∨ KK = 39) ∨ ((KK = 110 ∨ KK = 111) ∧ (pow X = 0 ∨ ((pow X == 0) = false ∧ pow X < least) ∨ ((pow X == 0) = false ∧ ¬ pow X < least ∧ mo < pow X) ∨ ((pow X == 0) = false ∧ ¬ pow X < least ∧ ¬ mo < pow X ∧ nb = true ∧ (2 : Int) < pow X ∧ (S.toList == [110, 111, 116]) = true)))) := by
          rcases hst with h | ⟨h, h2⟩
          · exact .inl (by rw [HKK.out]; exact srt_o h)
          · refine .inr ⟨by rw [HKK.out]; exact srt_w h, ?_⟩
            rcases h2 with h2 | h2 | h2 | ⟨a, b, c, d, e, pl, y, hx⟩
            · exact .inl h2
            · exact .inr (.inl ⟨beq_eq_false_iff_ne.2 h2.1, h2.2⟩)
            · exact .inr (.inr (.inl ⟨beq_eq_false_iff_ne.2 h2.1, h2.2⟩))
            · refine .inr (.inr (.inr ⟨beq_eq_false_iff_ne.2 a, b, c, d, e, ?_⟩))
              have h3 := HET.out
              rw [hx, Et] at h3
              obtain ⟨b', kv, u, e1, _, _, e2, _⟩ := h3
              obtain rfl : xb = b' := by unfold ptrE at e1; simpa using e1
              rw [cW, wPre_not] at e2
              have e3 : S = bNot := by simpa using e2
              rw [e3]; decide +kernel
        clear hst hkd hleast hgo HKK HMO HCONT HET hB0 HR7 HIH
        generalize pow X = PW at *
        rcases HKS.out with (rfl | rfl | rfl) | ⟨rfl | rfl, h0 | ⟨h0, h1⟩ | ⟨h0, h1, h2⟩ | ⟨h0, h1, h2, rfl, h3, h4⟩⟩
        all_goals
          clear HKS
          go_wp2_with fail
          all_goals
            go_ret
            exact FIN.out
    · have hne : ¬ er = 0 := by omega
      have hneb : (er == 0) = false := by simp [hne]
      have FIN : Hid (CPost L w g E tks p lev r0 (.returned (ptrE xb)) wr) := ⟨HG7.out, xb, rfl, .inr ⟨f, q, hf1, by rw [← hf2, ← hf3]; exact HR7.out, hf4⟩⟩
      clear hf1 hf2 hf3 hf4 hRS hG hne d0 d1 d2 c4
      unfold ptrE
      go_wp2_with fail
      go_ret
      exact FIN.out
end Go.Proofs.YtplaplhmjpfbjaaGreatDoor.Dc
