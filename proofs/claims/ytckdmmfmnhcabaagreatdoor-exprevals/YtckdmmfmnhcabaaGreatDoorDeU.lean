import Derived.Test.YtckdmmfmnhcabaaGreatDoorEa1
import Derived.Deep.LoopGhost
import Derived.Deep.DeepCutAuto
namespace Go.Proofs.YtckdmmfmnhcabaaGreatDoor.Dc
open Go.RowKit
set_option linter.unusedVariables false
set_option linter.unusedSimpArgs false
set_option maxRecDepth 100000
attribute [local go_sem ↓] neqlV eqlV
attribute [local go_sem] guardV
set_option maxHeartbeats 8000000 in
theorem evN_fun (c : List Co) (a : Option Addr) (cc : Nat) (ra : Option Addr) (rn rc : Nat) (b : Nat) (kv : Value) (us : List Value) (vals : List Vl) (lo hi : Nat) (w : World) (nm : ByteArray) (hn1 : (nm.toList == [105, 115, 110, 117, 108, 108]) = false) (hn2 : (nm.toList == [99, 111, 97, 108, 101, 115, 99, 101]) = false) (hn3 : (nm.toList == [105, 102]) = false) (c0 : w.cell? ⟨b, 0, none⟩ = some (.string bCall)) (c6 : w.cell? ⟨b, 6, none⟩ = some (.string nm)) (RS : Vl) (hst : ∀ W, Below w.heap.size w W → Calls Tryz.prog 36 #[.pointer (some ⟨b, 0, none⟩), .agg #[.int .i64 (vals.getD 0 vNull).k, .int .i64 (vals.getD 0 vNull).n, .string (vals.getD 0 vNull).t], .agg #[.int .i64 (vals.getD 1 vNull).k, .int .i64 (vals.getD 1 vNull).n, .string (vals.getD 1 vNull).t]] W fun e w' => e = .returned (vV RS) ∧ Below W.heap.size W w') (c2 : w.cell? ⟨b, 2, none⟩ = some kv) (hka : KAt w lo hi kv us) (hlen : us.length = vals.length) (hmax : vals.length ≤ 3)
   (hfam : ∀ i (h : i < vals.length) (h' : i < us.length) W, Below w.heap.size w W → Calls Tryz.prog 16 #[us[i], .slice a c.length cc, .slice ra rn rc] W (EvD W vals[i])) :
   Calls Tryz.prog 16 #[.pointer (some ⟨b, 0, none⟩), .slice a c.length cc, .slice ra rn rc] w (EvD w (strD (nl vals) RS)) := by
 obtain ⟨ka, kc, rfl, hk⟩ := hka
 have HK := hidMk' hk
 have HFAM := hidMk' hfam
 have hbl : b < w.heap.size := World.block_lt_of_cell? _ _ c0
 have hlz : (us.length : Int) ≤ 3 := by omega
 clear hk hfam
 have HST := hidMk' hst
 clear hst
 have HTr : Hid (∀ b W, Calls Tryz.prog 35 #[.bool b] W fun e w' => e = .returned (.agg #[.int .i64 2, .int .i64 (if b then 1 else 0), .string ⟨#[]⟩]) ∧ Below W.heap.size W w') := truthD
 unfold bCall at c0
 go_enter Tryz.func16, Tryz.ntmps16
 go_wp2_with fail
 have HR0 : Hid (Own ((w.alloc (.cells #[.int .i64 0, .int .i64 0, .string ⟨#[]⟩] 42)).alloc (.cells #[.int .i64 0, .int .i64 0, .string ⟨#[]⟩, .int .i64 0, .int .i64 0, .string ⟨#[]⟩, .int .i64 0, .int .i64 0, .string ⟨#[]⟩] 42)) w.heap.size 42 3 [.int .i64 0, .int .i64 0, .string ⟨#[]⟩]) := (Own.new w 42 3 #[.int .i64 0, .int .i64 0, .string ⟨#[]⟩] rfl).later (xbel1 _ _)
 have HO0 : Hid (Own ((w.alloc (.cells #[.int .i64 0, .int .i64 0, .string ⟨#[]⟩] 42)).alloc (.cells #[.int .i64 0, .int .i64 0, .string ⟨#[]⟩, .int .i64 0, .int .i64 0, .string ⟨#[]⟩, .int .i64 0, .int .i64 0, .string ⟨#[]⟩] 42)) (w.heap.size + 1) 42 9 (cells9 [])) := by
   have := Own.new (w.alloc (.cells #[.int .i64 0, .int .i64 0, .string ⟨#[]⟩] 42)) 42 9 #[.int .i64 0, .int .i64 0, .string ⟨#[]⟩, .int .i64 0, .int .i64 0, .string ⟨#[]⟩, .int .i64 0, .int .i64 0, .string ⟨#[]⟩] rfl
   rw [show (w.alloc (.cells #[.int .i64 0, .int .i64 0, .string ⟨#[]⟩] 42)).heap.size = w.heap.size + 1 from by simp] at this
   exact this
 go_loopw [9, 10] (fun nu i w' => ∃ (j : Nat), j ≤ vals.length ∧ i = .int .i64 j ∧ nu = .int .i64 (nl (vals.take j) : Nat) ∧ Own w' (w.heap.size + 1) 42 9 (cells9 (vals.take j)) ∧ Own w' w.heap.size 42 3 [.int .i64 0, .int .i64 0, .string ⟨#[]⟩] ∧ Below w.heap.size w w') (fun _ i _ => vals.length - (intOf i).toNat)
 case atStart => exact ⟨0, Nat.zero_le _, rfl, rfl, HO0.out, HR0.out, (xbel1 w _).alloc (by simp) _⟩
 case round =>
   clear HO0 HR0
   obtain ⟨j, hj, rfl, rfl, hO, hR, hb⟩ := hrel
   have HO := hidMk' hO
   have HR := hidMk' hR
   have HB := hidMk' hb
   have c0' := xcell hb c0
   have c2' := xcell hb c2
   have hwl := hO.lt
   have hwl0 := hR.lt
   clear hO hb hR
   by_cases hlt : j < vals.length
   · have hlu : j < us.length := by omega
     have hji : (j : Int) < (us.length : Int) := by omega
     obtain ⟨sb, rfl, hs1, hs2, e0⟩ := HK.out j hlu
     have hsbl : sb < w.heap.size := World.block_lt_of_cell? _ _ e0
     have e0' := xcell HB.out e0
     have HF : Hid (∀ W, Below w.heap.size w W → Calls Tryz.prog 16 #[us[j], .slice a c.length cc, .slice ra rn rc] W (EvD W vals[j])) := HFAM.out j hlt hlu
     have hsb2 : sb < wr.heap.size := by omega
     have HTS := hidMk' (take_snocV vals j hlt)
     have HNS := hidMk' (nl_snoc (vals.take j) vals[j])
     have hnl : nl (vals.take j) ≤ 3 := Nat.le_trans (nl_le _) (by rw [List.length_take]; omega)
     generalize hN : nl (vals.take j) = N at *
     clear hN
     have htl : (vals.take j).length = j := by rw [List.length_take]; omega
     have HTL := hidMk' htl
     clear htl
     generalize us[j] = U at *
     generalize vals[j] = V at *
     clear e0 c0 c2
     go_wp2_with fail
     refine (HF.out _ HB.out).mono ?_
     rintro e w2 ⟨hb2, rfl⟩
     have HB2 : Hid (Below w.heap.size w w2) := HB.out.trans (hb2.mono HB.out.size)
     have HO2 : Hid (Own w2 (w.heap.size + 1) 42 9 (cells9 (vals.take j))) := HO.out.later hb2
     have HR2 : Hid (Own w2 w.heap.size 42 3 [.int .i64 0, .int .i64 0, .string ⟨#[]⟩]) := HR.out.later hb2
     have hwl2 := HO2.out.lt
     have hwl02 := HR2.out.lt
     clear hb2 HO HB HR c0' c2' e0' HF HFAM HK
     unfold vV
     rcases (show j = 0 ∨ j = 1 ∨ j = 2 by omega) with hj0 | hj0 | hj0
     · subst hj0
       have q0 := HO2.out.cell 0 (by decide)
       have q1 := HO2.out.cell 1 (by decide)
       have q2 := HO2.out.cell 2 (by decide)
       simp only [cells9, List.getElem?_cons_zero, List.getElem?_cons_succ] at q0 q1 q2
       have f0 := HO2.out.soft 0
       have f1 := HO2.out.soft 1
       have f2 := HO2.out.soft 2
       have HP := hidMk' (putsV HO2.out 0 1 2 (.int .i64 V.k) (.int .i64 V.n) (.string V.t))
       by_cases hk0 : V.k = 0
       · have hkb : (V.k == 0) = true := by rw [beq_iff_eq]; exact hk0
         have HN1 := HNS.out
         rw [if_pos hk0] at HN1
         have HN2 := hidMk' HN1
         clear HN1 HNS hk0
         go_wp2_with fail
         refine ⟨⟨1, by omega, rfl, by rw [show vals.take 1 = vals.take 0 ++ [V] from HTS.out, HN2.out]; first | rfl | go_num | (simp; done), ?_, HR2.out.grown HP.out.2 (by simp), xbNew HB2.out HP.out.2 (fun n hn => by cases hn; omega)⟩, by simp [intOf]; omega⟩
         rw [show vals.take 1 = vals.take 0 ++ [V] from HTS.out, ← cells9_0 _ V HTL.out]
         exact HP.out.1
       · have hkb : (V.k == 0) = false := by rw [beq_eq_false_iff_ne]; exact hk0
         have HN1 := HNS.out
         rw [if_neg hk0] at HN1
         have HN2 := hidMk' HN1
         clear HN1 HNS hk0
         go_wp2_with fail
         refine ⟨⟨1, by omega, rfl, by rw [show vals.take 1 = vals.take 0 ++ [V] from HTS.out, HN2.out]; first | rfl | go_num | (simp; done), ?_, HR2.out.grown HP.out.2 (by simp), xbNew HB2.out HP.out.2 (fun n hn => by cases hn; omega)⟩, by simp [intOf]; omega⟩
         rw [show vals.take 1 = vals.take 0 ++ [V] from HTS.out, ← cells9_0 _ V HTL.out]
         exact HP.out.1
     · subst hj0
       have q0 := HO2.out.cell 3 (by decide)
       have q1 := HO2.out.cell 4 (by decide)
       have q2 := HO2.out.cell 5 (by decide)
       simp only [cells9, List.getElem?_cons_zero, List.getElem?_cons_succ] at q0 q1 q2
       have f0 := HO2.out.soft 3
       have f1 := HO2.out.soft 4
       have f2 := HO2.out.soft 5
       have HP := hidMk' (putsV HO2.out 3 4 5 (.int .i64 V.k) (.int .i64 V.n) (.string V.t))
       by_cases hk0 : V.k = 0
       · have hkb : (V.k == 0) = true := by rw [beq_iff_eq]; exact hk0
         have HN1 := HNS.out
         rw [if_pos hk0] at HN1
         have HN2 := hidMk' HN1
         clear HN1 HNS hk0
         go_wp2_with fail
         refine ⟨⟨2, by omega, rfl, by rw [show vals.take 2 = vals.take 1 ++ [V] from HTS.out, HN2.out]; first | rfl | go_num | (simp; done), ?_, HR2.out.grown HP.out.2 (by simp), xbNew HB2.out HP.out.2 (fun n hn => by cases hn; omega)⟩, by simp [intOf]; omega⟩
         rw [show vals.take 2 = vals.take 1 ++ [V] from HTS.out, ← cells9_1 _ V HTL.out]
         exact HP.out.1
       · have hkb : (V.k == 0) = false := by rw [beq_eq_false_iff_ne]; exact hk0
         have HN1 := HNS.out
         rw [if_neg hk0] at HN1
         have HN2 := hidMk' HN1
         clear HN1 HNS hk0
         go_wp2_with fail
         refine ⟨⟨2, by omega, rfl, by rw [show vals.take 2 = vals.take 1 ++ [V] from HTS.out, HN2.out]; first | rfl | go_num | (simp; done), ?_, HR2.out.grown HP.out.2 (by simp), xbNew HB2.out HP.out.2 (fun n hn => by cases hn; omega)⟩, by simp [intOf]; omega⟩
         rw [show vals.take 2 = vals.take 1 ++ [V] from HTS.out, ← cells9_1 _ V HTL.out]
         exact HP.out.1
     · subst hj0
       have q0 := HO2.out.cell 6 (by decide)
       have q1 := HO2.out.cell 7 (by decide)
       have q2 := HO2.out.cell 8 (by decide)
       simp only [cells9, List.getElem?_cons_zero, List.getElem?_cons_succ] at q0 q1 q2
       have f0 := HO2.out.soft 6
       have f1 := HO2.out.soft 7
       have f2 := HO2.out.soft 8
       have HP := hidMk' (putsV HO2.out 6 7 8 (.int .i64 V.k) (.int .i64 V.n) (.string V.t))
       by_cases hk0 : V.k = 0
       · have hkb : (V.k == 0) = true := by rw [beq_iff_eq]; exact hk0
         have HN1 := HNS.out
         rw [if_pos hk0] at HN1
         have HN2 := hidMk' HN1
         clear HN1 HNS hk0
         go_wp2_with fail
         refine ⟨⟨3, by omega, rfl, by rw [show vals.take 3 = vals.take 2 ++ [V] from HTS.out, HN2.out]; first | rfl | go_num | (simp; done), ?_, HR2.out.grown HP.out.2 (by simp), xbNew HB2.out HP.out.2 (fun n hn => by cases hn; omega)⟩, by simp [intOf]; omega⟩
         rw [show vals.take 3 = vals.take 2 ++ [V] from HTS.out, ← cells9_2 _ V HTL.out]
         exact HP.out.1
       · have hkb : (V.k == 0) = false := by rw [beq_eq_false_iff_ne]; exact hk0
         have HN1 := HNS.out
         rw [if_neg hk0] at HN1
         have HN2 := hidMk' HN1
         clear HN1 HNS hk0
         go_wp2_with fail
         refine ⟨⟨3, by omega, rfl, by rw [show vals.take 3 = vals.take 2 ++ [V] from HTS.out, HN2.out]; first | rfl | go_num | (simp; done), ?_, HR2.out.grown HP.out.2 (by simp), xbNew HB2.out HP.out.2 (fun n hn => by cases hn; omega)⟩, by simp [intOf]; omega⟩
         rw [show vals.take 3 = vals.take 2 ++ [V] from HTS.out, ← cells9_2 _ V HTL.out]
         exact HP.out.1
   · obtain rfl : j = vals.length := by omega
     have hxl : ¬ ((vals.length : Nat) : Int) < (us.length : Int) := by omega
     rw [List.take_length] at HO ⊢
     clear HFAM HK c2
     go_wp2_with fail
     refine (HTr.out false _).mono ?_
     rintro e w1 ⟨rfl, hb1⟩
     have HB1 : Hid (Below w.heap.size w w1) := HB.out.trans (hb1.mono HB.out.size)
     have HO1 := hidMk' (HO.out.later hb1)
     have HR1 := hidMk' (HR.out.later hb1)
     clear hb1 HO HR HB c0' c2'
     go_wp2_with fail
     refine (HTr.out true _).mono ?_
     rintro e w2 ⟨rfl, hb2⟩
     have HB2 : Hid (Below w.heap.size w w2) := (HB1.out.trans ((xbel1 w1 _).mono HB1.out.size)).trans (hb2.mono (by simp; have := HB1.out.size; omega))
     have hNo := (Own.new w1 42 3 #[.int .i64 2, .int .i64 0, .string ⟨#[]⟩] rfl).later hb2
     have HO2 := hidMk' ((HO1.out.later (xbel1 w1 _)).later hb2)
     have HR2 := hidMk' ((HR1.out.later (xbel1 w1 _)).later hb2)
     have n0 : w2.cell? ⟨w1.heap.size, 0, none⟩ = some (.int .i64 2) := hNo.cell 0 (by decide)
     have n1 : w2.cell? ⟨w1.heap.size, 1, none⟩ = some (.int .i64 0) := hNo.cell 1 (by decide)
     have n2 : w2.cell? ⟨w1.heap.size, 2, none⟩ = some (.string ⟨#[]⟩) := hNo.cell 2 (by decide)
     have hnl := hNo.lt
     have c02 := xcell HB2.out c0
     have c62 := xcell HB2.out c6
     have hbl2 : b < w2.heap.size := World.block_lt_of_cell? _ _ c02
     have q0 := HO2.out.cell 0 (by decide)
     have q1 := HO2.out.cell 1 (by decide)
     have q2 := HO2.out.cell 2 (by decide)
     have q3 := HO2.out.cell 3 (by decide)
     have q4 := HO2.out.cell 4 (by decide)
     have q5 := HO2.out.cell 5 (by decide)
     have q6 := HO2.out.cell 6 (by decide)
     have q7 := HO2.out.cell 7 (by decide)
     have q8 := HO2.out.cell 8 (by decide)
     simp only [cells9, List.getElem?_cons_zero, List.getElem?_cons_succ] at q0 q1 q2 q3 q4 q5 q6 q7 q8
     have hol2 := HO2.out.lt
     have r0 : w2.cell? ⟨w.heap.size, 0, none⟩ = some (.int .i64 0) := HR2.out.cell 0 (by decide)
     have r1 : w2.cell? ⟨w.heap.size, 1, none⟩ = some (.int .i64 0) := HR2.out.cell 1 (by decide)
     have r2 : w2.cell? ⟨w.heap.size, 2, none⟩ = some (.string ⟨#[]⟩) := HR2.out.cell 2 (by decide)
     have rf0 := HR2.out.soft 0
     have rf1 := HR2.out.soft 1
     have rf2 := HR2.out.soft 2
     have hrl2 := HR2.out.lt
     clear hb2 hNo HO1 HR1 HB1 HO2 c0 c6
     have HBY : Hid (Below w.heap.size w (w2.alloc (.cells #[.int .i64 2, .int .i64 1, .string ⟨#[]⟩] 42))) := HB2.out.trans ((xbel1 w2 _).mono HB2.out.size)
     generalize nl vals = N at *
     generalize vals.getD 0 vNull = x at *
     generalize vals.getD 1 vNull = y at *
     generalize vals.getD 2 vNull = z at *
     by_cases hN : N = 0
     · subst hN
       have HV : Hid (strD 0 RS = RS) := if_pos rfl
       go_wp2_with fail
       go_quiet (fail)
       go_wp2_with fail
       go_quiet (fail)
       go_wp2_with fail
       go_cut [13] (fun p wx => StR w RS p wx)
       case first =>
         go_region_with (first | (go_at_call 36; refine (HST.out _ (by repeat (first | exact HBY.out | refine Below.drewN' ?_ | refine Below.drew ?_ | refine Below.alloc ?_ (by simp; omega) _))).mono ?_; rintro e w3 ⟨rfl, hb3⟩; unfold vV; have H3 : Hid (Below w2.heap.size w2 w3) := Below.trans (by repeat (first | exact xbel1 _ _ | refine Below.drewN' ?_ | refine Below.drew ?_ | refine Below.alloc ?_ (by simp <;> omega) _)) (hb3.mono (by simp <;> omega)); have s0 : w3.cell? ⟨w.heap.size, 0, none⟩ = some (.int .i64 0) := (HR2.out.later H3.out).cell 0 (by decide); have s1 : w3.cell? ⟨w.heap.size, 1, none⟩ = some (.int .i64 0) := (HR2.out.later H3.out).cell 1 (by decide); have s2 : w3.cell? ⟨w.heap.size, 2, none⟩ = some (.string ⟨#[]⟩) := (HR2.out.later H3.out).cell 2 (by decide); have sf0 := (HR2.out.later H3.out).soft 0; have sf1 := (HR2.out.later H3.out).soft 1; have sf2 := (HR2.out.later H3.out).soft 2; have hrl3 := (HR2.out.later H3.out).lt; try (have HO3 := hidMk' (ownAt (g := w2.heap.size + 1) hb3 (by show (World.alloc _ _).heap.size = _; simp) rfl); have u0 : w3.cell? ⟨w2.heap.size + 1, 0, none⟩ = some (.int .i64 0) := HO3.out.cell 0 (by decide); have u1 : w3.cell? ⟨w2.heap.size + 1, 1, none⟩ = some (.int .i64 0) := HO3.out.cell 1 (by decide); have u2 : w3.cell? ⟨w2.heap.size + 1, 2, none⟩ = some (.string ⟨#[]⟩) := HO3.out.cell 2 (by decide); have uf0 := HO3.out.soft 0; have uf1 := HO3.out.soft 1; have uf2 := HO3.out.soft 2; have hul := HO3.out.lt); clear hb3))
         all_goals
           have hB3 : Below w.heap.size w w3 := HB2.out.trans (H3.out.mono HB2.out.size)
           have hl3 := H3.out.size
           have hR3 := HR2.out.later H3.out
           try go_wp2
           go_meet
           first
           | (have hN := Own.new w3 42 3 #[.int .i64 RS.k, .int .i64 RS.n, .string RS.t] rfl; exact ⟨w3.heap.size, rfl, hN.cell 0 (by decide), hN.cell 1 (by decide), hN.cell 2 (by decide), by omega, hN.lt, hR3.later (xbel1 _ _), hB3.trans ((xbel1 w3 _).mono hB3.size)⟩)
           | (have hP := putsV HO3.out 0 1 2 (.int .i64 RS.k) (.int .i64 RS.n) (.string RS.t); exact ⟨w2.heap.size + 1, rfl, hP.1.cell 0 (by decide), hP.1.cell 1 (by decide), hP.1.cell 2 (by decide), by omega, hP.1.lt, hR3.grown hP.2 (by simp; omega), xbNew hB3 hP.2 (fun n hn => by cases hn; omega)⟩)
       case rest =>
         obtain ⟨g, rfl, g0, g1, g2, gl, gl2, hRc, hBc⟩ := hcut
         have s0 : wc.cell? ⟨w.heap.size, 0, none⟩ = some (.int .i64 0) := hRc.cell 0 (by decide)
         have s1 : wc.cell? ⟨w.heap.size, 1, none⟩ = some (.int .i64 0) := hRc.cell 1 (by decide)
         have s2 : wc.cell? ⟨w.heap.size, 2, none⟩ = some (.string ⟨#[]⟩) := hRc.cell 2 (by decide)
         have sf0 := hRc.soft 0
         have sf1 := hRc.soft 1
         have sf2 := hRc.soft 2
         have hrl3 := hRc.lt
         have HBc := hidMk' hBc
         clear hRc hBc
         go_wp2_with fail
         exact bodyPost_ret (v := .agg #[.int .i64 RS.k, .int .i64 RS.n, .string RS.t]) (by simp [results, Tryz.results16, go_sem, s0, s1, s2, hrl3]; try rfl) rfl ⟨by repeat (first | exact HBc.out | refine Below.drewN' ?_ | refine Below.drew ?_ | refine Below.setCell ?_ (by first | omega | (simp; done) | (simp; omega)) _ | refine Below.alloc ?_ (by first | omega | (simp; done) | (simp; omega)) _), by rw [HV.out]; rfl⟩
     · have hN1 : (0 : Int) < (N : Int) := by omega
       have HV : Hid (strD N RS = vNull) := if_neg hN
       clear hN
       go_wp2_with fail
       go_quiet (fail)
       go_wp2_with fail
       go_quiet (fail)
       go_wp2_with fail
       exact bodyPost_ret (v := .agg #[.int .i64 0, .int .i64 0, .string ⟨#[]⟩]) (by simp [results, Tryz.results16, go_sem, r0, r1, r2, hrl2]; try rfl) rfl ⟨by repeat (first | exact HBY.out | refine Below.drewN' ?_ | refine Below.drew ?_ | refine Below.setCell ?_ (by simp; try omega) _), by rw [HV.out]; rfl⟩

end Go.Proofs.YtckdmmfmnhcabaaGreatDoor.Dc
