import Derived.Test.YtckdmmfmnhcabaaGreatDoorEa1
namespace Go.Proofs.YtckdmmfmnhcabaaGreatDoor.Dc
open Go.RowKit
set_option linter.unusedVariables false
set_option linter.unusedSimpArgs false
set_option maxRecDepth 100000
attribute [local go_sem ↓] neqlV eqlV
attribute [local go_sem] guardV

theorem own3 {W : World} {g : Nat} (h : Own W g 42 3 [.int .i64 0, .int .i64 0, .string ⟨#[]⟩]) : W.cell? ⟨g, 0, none⟩ = some (.int .i64 0) ∧ W.cell? ⟨g, 1, none⟩ = some (.int .i64 0) ∧ W.cell? ⟨g, 2, none⟩ = some (.string ⟨#[]⟩) ∧ W.frozen? ⟨g, 0, none⟩ = false ∧ W.frozen? ⟨g, 1, none⟩ = false ∧ W.frozen? ⟨g, 2, none⟩ = false ∧ g < W.heap.size := ⟨h.cell 0 (by decide), h.cell 1 (by decide), h.cell 2 (by decide), h.soft 0, h.soft 1, h.soft 2, h.lt⟩
def StD (p : Nat) (x y R : Vl) (W : World) : Prop := Calls Tryz.prog 36 #[.pointer (some ⟨p, 0, none⟩), .agg #[.int .i64 x.k, .int .i64 x.n, .string x.t], .agg #[.int .i64 y.k, .int .i64 y.n, .string y.t]] W fun e w' => e = .returned (vV R) ∧ Below W.heap.size W w'
inductive Sg (a b : Vl) : ByteArray → ByteArray → Vl → Prop
 | cplus {nm} : Sg a b bPlus nm (vInt (wrap64 (a.n + b.n)))
 | cminus2 {nm} : Sg a b bMinus nm (vInt (wrap64 (a.n - b.n)))
 | cmul {nm} : Sg a b bMul nm (vInt (wrap64 (a.n * b.n)))
 | cdiv {nm} (hb : b.n ≠ 0) : Sg a b bDiv nm (vInt (wrap64 (a.n.tdiv b.n)))
 | cmod {nm} (hb : b.n ≠ 0) : Sg a b bMod nm (vInt (a.n.tmod b.n))
 | cneg {nm} : Sg a b bMinusW nm (vInt (wrap64 (-a.n)))
 | cdiv0 {nm} (hb : b.n = 0) : Sg a b bDiv nm (vNull)
 | cmod0 {nm} (hb : b.n = 0) : Sg a b bMod nm (vNull)
 | cnot {nm} : Sg a b bNot nm (vTru (a.n == 0))
 | ceq {nm} : Sg a b bEq nm (vTru (eqB a.k a.n a.t b.k b.n b.t))
 | cne {nm} : Sg a b bNe nm (vTru (!eqB a.k a.n a.t b.k b.n b.t))
 | clt {nm} : Sg a b bLt nm (vTru (Vc.ltV a.k a.n a.t b.k b.n b.t))
 | cle {nm} : Sg a b bLe nm (vTru (Vc.ltV a.k a.n a.t b.k b.n b.t || eqB a.k a.n a.t b.k b.n b.t))
 | cgt {nm} : Sg a b bGt nm (vTru (!Vc.ltV a.k a.n a.t b.k b.n b.t && !eqB a.k a.n a.t b.k b.n b.t))
 | cge {nm} : Sg a b bGe nm (vTru (!Vc.ltV a.k a.n a.t b.k b.n b.t))
 | cand {nm} : Sg a b bAnd nm (vTru true)
 | cor {nm} : Sg a b bOr nm (vTru false)
 | ccat {nm} (hs : a.t.size + b.t.size ≤ 60) : Sg a b bCat nm (vTxt (a.t ++ b.t))
 | ccatL {nm} (hs : 60 < a.t.size + b.t.size) (hs2 : a.t.size + b.t.size ≤ 9223372036854775807) : Sg a b bCat nm (vTxt ⟨((a.t ++ b.t).data.toList.take 60).toArray⟩)
 | clen : Sg a b bCall bLen (vInt (a.t.size : Nat))
 | cabs (hneg : a.n < 0) : Sg a b bCall bAbs (vInt (wrap64 (-a.n)))
 | cabsP (hpos : ¬ a.n < 0) : Sg a b bCall bAbs (a)
 | ccut0 (hb : b.n < 0) : Sg a b bCall bCut (vTxt ⟨(a.t.data.toList.take 0).toArray⟩)
 | ccut1 (N : Nat) (hb : b.n = (N : Int)) (hb2 : N ≤ a.t.size) : Sg a b bCall bCut (vTxt ⟨(a.t.data.toList.take N).toArray⟩)
 | ccut2 (hb : (a.t.size : Int) < b.n) : Sg a b bCall bCut (vTxt ⟨(a.t.data.toList.take a.t.size).toArray⟩)
set_option maxHeartbeats 16000000 in
theorem strict_sg {S nm : ByteArray} {V : Vl} (p : Nat) (a b : Vl) (w : World) (hc : Sg a b S nm V) (h0 : w.cell? ⟨p, 0, none⟩ = some (.string S)) (hn : S = bCall → w.cell? ⟨p, 6, none⟩ = some (.string nm)) : StD p a b V w := by
 unfold StD
 have HN : Hid (∀ n W, Calls Tryz.prog 64 #[.int .i64 n] W fun e w' => e = .returned (.agg #[.int .i64 1, .int .i64 n, .string ⟨#[]⟩]) ∧ Below W.heap.size W w') := numberD
 have HTr : Hid (∀ b W, Calls Tryz.prog 35 #[.bool b] W fun e w' => e = .returned (.agg #[.int .i64 2, .int .i64 (if b then 1 else 0), .string ⟨#[]⟩]) ∧ Below W.heap.size W w') := truthD
 have HTx : Hid (∀ s W, Calls Tryz.prog 65 #[.string s] W fun e w' => e = .returned (.agg #[.int .i64 3, .int .i64 0, .string s]) ∧ Below W.heap.size W w') := textD
 have hp := World.block_lt_of_cell? _ _ h0
 have hp' : p < w.heap.size := hp
 obtain ⟨W3, hW3⟩ : ∃ W3, W3 = ((w.alloc (.cells #[.int .i64 a.k, .int .i64 a.n, .string a.t] 42)).alloc (.cells #[.int .i64 b.k, .int .i64 b.n, .string b.t] 42)).alloc (.cells #[.int .i64 0, .int .i64 0, .string ⟨#[]⟩] 42) := ⟨_, rfl⟩
 have HA : Hid (Own W3 w.heap.size 42 3 [.int .i64 a.k, .int .i64 a.n, .string a.t]) := by
   unfold Hid; rw [hW3]; exact ((Own.new w 42 3 #[.int .i64 a.k, .int .i64 a.n, .string a.t] rfl).later (xbel1 _ _)).later (xbel1 _ _)
 have HBk : Hid (Own W3 (w.heap.size + 1) 42 3 [.int .i64 b.k, .int .i64 b.n, .string b.t]) := by
   have := (Own.new (w.alloc (.cells #[.int .i64 a.k, .int .i64 a.n, .string a.t] 42)) 42 3 #[.int .i64 b.k, .int .i64 b.n, .string b.t] rfl).later (xbel1 _ (.cells #[.int .i64 0, .int .i64 0, .string ⟨#[]⟩] 42))
   rw [show (w.alloc (.cells #[.int .i64 a.k, .int .i64 a.n, .string a.t] 42)).heap.size = w.heap.size + 1 from by simp] at this
   unfold Hid; rw [hW3]; exact this
 have HZ : Hid (Own W3 (w.heap.size + 1 + 1) 42 3 [.int .i64 0, .int .i64 0, .string ⟨#[]⟩]) := by
   have := Own.new ((w.alloc (.cells #[.int .i64 a.k, .int .i64 a.n, .string a.t] 42)).alloc (.cells #[.int .i64 b.k, .int .i64 b.n, .string b.t] 42)) 42 3 #[.int .i64 0, .int .i64 0, .string ⟨#[]⟩] rfl
   rw [show ((w.alloc (.cells #[.int .i64 a.k, .int .i64 a.n, .string a.t] 42)).alloc (.cells #[.int .i64 b.k, .int .i64 b.n, .string b.t] 42)).heap.size = w.heap.size + 1 + 1 from by simp] at this
   unfold Hid; rw [hW3]; exact this
 have HB3 : Hid (Below w.heap.size w W3) := by unfold Hid; rw [hW3]; exact ((xbel1 w _).alloc (by simp) _).alloc (by simp; omega) _
 obtain ⟨R, hR⟩ : ∃ R, R = Vc.ltV a.k a.n a.t b.k b.n b.t := ⟨_, rfl⟩
 have HBe : Hid (∀ W, Calls Tryz.prog 63 #[.agg #[.int .i64 a.k, .int .i64 a.n, .string a.t], .agg #[.int .i64 b.k, .int .i64 b.n, .string b.t]] W fun e w' => e = .returned (.bool R) ∧ Below W.heap.size W w') := fun W => by rw [hR]; exact Vc.before_any a.k a.n a.t b.k b.n b.t W
 go_enter Tryz.func36, Tryz.ntmps36
 go_wp2_with fail
 rw [← hW3]
 clear hW3
 refine (HBe.out _).mono ?_
 rintro e w1 ⟨rfl, hb1⟩
 have HB1 : Hid (Below w.heap.size w w1) := HB3.out.trans (hb1.mono HB3.out.size)
 have a0 : w1.cell? ⟨w.heap.size, 0, none⟩ = some (.int .i64 a.k) := (HA.out.later hb1).cell 0 (by decide)
 have a1 : w1.cell? ⟨w.heap.size, 1, none⟩ = some (.int .i64 a.n) := (HA.out.later hb1).cell 1 (by decide)
 have a2 : w1.cell? ⟨w.heap.size, 2, none⟩ = some (.string a.t) := (HA.out.later hb1).cell 2 (by decide)
 have b0 : w1.cell? ⟨w.heap.size + 1, 0, none⟩ = some (.int .i64 b.k) := (HBk.out.later hb1).cell 0 (by decide)
 have b1 : w1.cell? ⟨w.heap.size + 1, 1, none⟩ = some (.int .i64 b.n) := (HBk.out.later hb1).cell 1 (by decide)
 have b2 : w1.cell? ⟨w.heap.size + 1, 2, none⟩ = some (.string b.t) := (HBk.out.later hb1).cell 2 (by decide)
 have h1 := xcell HB1.out h0
 have h6 : S = bCall → w1.cell? ⟨p, 6, none⟩ = some (.string nm) := fun e => xcell HB1.out (hn e)
 have HZ1 := Vc.hidMk (HZ.out.later hb1)
 have hl1 := HB1.out.size
 clear hb1 HB3 HA HBk HZ HBe h0 hn
 have ZB : Hid (∀ W, Below w1.heap.size w1 W → Own W (w.heap.size + 1 + 1) 42 3 [.int .i64 0, .int .i64 0, .string ⟨#[]⟩] ∧ Below w.heap.size w W) := fun W h => ⟨HZ1.out.later h, HB1.out.trans (h.mono HB1.out.size)⟩
 clear HZ1 HB1
 cases hc with
 | cplus =>
   unfold bPlus at h1
   clear h6
   clear hR
   go_wp2_with fail
   refine (HN.out (wrap64 (a.n + b.n)) _).mono ?_
   rintro e w2 ⟨rfl, hb2⟩
   obtain ⟨hO, hBF⟩ := ZB.out w2 hb2
   obtain ⟨q0, q1, q2, qf0, qf1, qf2, hl⟩ := own3 hO
   have HBF := Vc.hidMk hBF
   clear hO hBF ZB
   go_wp2_with fail
   exact bodyPost_ret (v := .agg #[.int .i64 1, .int .i64 (wrap64 (a.n + b.n)), .string ⟨#[]⟩]) (by simp [results, Tryz.results36, go_sem, q0, q1, q2, hl]; try rfl) rfl ⟨by first | rfl | (rw [hq]; rfl) | (rw [← HR2.out]; rfl) | (rw [← HR2.out, hq]; rfl) | (rw [← hX]; rfl), by repeat (first | exact HBF.out | refine Below.setCell ?_ (by simp; try omega) _)⟩
 | cminus2 =>
   unfold bMinus at h1
   clear h6
   clear hR
   go_wp2_with fail
   refine (HN.out (wrap64 (a.n - b.n)) _).mono ?_
   rintro e w2 ⟨rfl, hb2⟩
   obtain ⟨hO, hBF⟩ := ZB.out w2 hb2
   obtain ⟨q0, q1, q2, qf0, qf1, qf2, hl⟩ := own3 hO
   have HBF := Vc.hidMk hBF
   clear hO hBF ZB
   go_wp2_with fail
   exact bodyPost_ret (v := .agg #[.int .i64 1, .int .i64 (wrap64 (a.n - b.n)), .string ⟨#[]⟩]) (by simp [results, Tryz.results36, go_sem, q0, q1, q2, hl]; try rfl) rfl ⟨by first | rfl | (rw [hq]; rfl) | (rw [← HR2.out]; rfl) | (rw [← HR2.out, hq]; rfl) | (rw [← hX]; rfl), by repeat (first | exact HBF.out | refine Below.setCell ?_ (by simp; try omega) _)⟩
 | cmul =>
   unfold bMul at h1
   clear h6
   clear hR
   go_wp2_with fail
   refine (HN.out (wrap64 (a.n * b.n)) _).mono ?_
   rintro e w2 ⟨rfl, hb2⟩
   obtain ⟨hO, hBF⟩ := ZB.out w2 hb2
   obtain ⟨q0, q1, q2, qf0, qf1, qf2, hl⟩ := own3 hO
   have HBF := Vc.hidMk hBF
   clear hO hBF ZB
   go_wp2_with fail
   exact bodyPost_ret (v := .agg #[.int .i64 1, .int .i64 (wrap64 (a.n * b.n)), .string ⟨#[]⟩]) (by simp [results, Tryz.results36, go_sem, q0, q1, q2, hl]; try rfl) rfl ⟨by first | rfl | (rw [hq]; rfl) | (rw [← HR2.out]; rfl) | (rw [← HR2.out, hq]; rfl) | (rw [← hX]; rfl), by repeat (first | exact HBF.out | refine Below.setCell ?_ (by simp; try omega) _)⟩
 | cdiv hb =>
   unfold bDiv at h1
   clear h6
   have hbz : (b.n == 0) = false := by rw [beq_eq_false_iff_ne]; exact hb
   clear hR
   go_wp2_with fail
   refine (HN.out (wrap64 (a.n.tdiv b.n)) _).mono ?_
   rintro e w2 ⟨rfl, hb2⟩
   obtain ⟨hO, hBF⟩ := ZB.out w2 hb2
   obtain ⟨q0, q1, q2, qf0, qf1, qf2, hl⟩ := own3 hO
   have HBF := Vc.hidMk hBF
   clear hO hBF ZB
   go_wp2_with fail
   exact bodyPost_ret (v := .agg #[.int .i64 1, .int .i64 (wrap64 (a.n.tdiv b.n)), .string ⟨#[]⟩]) (by simp [results, Tryz.results36, go_sem, q0, q1, q2, hl]; try rfl) rfl ⟨by first | rfl | (rw [hq]; rfl) | (rw [← HR2.out]; rfl) | (rw [← HR2.out, hq]; rfl) | (rw [← hX]; rfl), by repeat (first | exact HBF.out | refine Below.setCell ?_ (by simp; try omega) _)⟩
 | cmod hb =>
   unfold bMod at h1
   clear h6
   have hbz : (b.n == 0) = false := by rw [beq_eq_false_iff_ne]; exact hb
   clear hR
   go_wp2_with fail
   refine (HN.out (a.n.tmod b.n) _).mono ?_
   rintro e w2 ⟨rfl, hb2⟩
   obtain ⟨hO, hBF⟩ := ZB.out w2 hb2
   obtain ⟨q0, q1, q2, qf0, qf1, qf2, hl⟩ := own3 hO
   have HBF := Vc.hidMk hBF
   clear hO hBF ZB
   go_wp2_with fail
   exact bodyPost_ret (v := .agg #[.int .i64 1, .int .i64 (a.n.tmod b.n), .string ⟨#[]⟩]) (by simp [results, Tryz.results36, go_sem, q0, q1, q2, hl]; try rfl) rfl ⟨by first | rfl | (rw [hq]; rfl) | (rw [← HR2.out]; rfl) | (rw [← HR2.out, hq]; rfl) | (rw [← hX]; rfl), by repeat (first | exact HBF.out | refine Below.setCell ?_ (by simp; try omega) _)⟩
 | cneg =>
   unfold bMinusW at h1
   clear h6
   clear hR
   go_wp2_with fail
   refine (HN.out (wrap64 (-a.n)) _).mono ?_
   rintro e w2 ⟨rfl, hb2⟩
   obtain ⟨hO, hBF⟩ := ZB.out w2 hb2
   obtain ⟨q0, q1, q2, qf0, qf1, qf2, hl⟩ := own3 hO
   have HBF := Vc.hidMk hBF
   clear hO hBF ZB
   go_wp2_with fail
   exact bodyPost_ret (v := .agg #[.int .i64 1, .int .i64 (wrap64 (-a.n)), .string ⟨#[]⟩]) (by simp [results, Tryz.results36, go_sem, q0, q1, q2, hl]; try rfl) rfl ⟨by first | rfl | (rw [hq]; rfl) | (rw [← HR2.out]; rfl) | (rw [← HR2.out, hq]; rfl) | (rw [← hX]; rfl), by repeat (first | exact HBF.out | refine Below.setCell ?_ (by simp; try omega) _)⟩
 | cdiv0 hb =>
   unfold bDiv at h1
   clear h6
   have hbz : (b.n == 0) = true := by rw [beq_iff_eq]; exact hb
   clear hb
   clear hR
   obtain ⟨hO, hBF⟩ := ZB.out w1 (Below.refl _ _)
   obtain ⟨q0, q1, q2, qf0, qf1, qf2, hl⟩ := own3 hO
   have HBF := Vc.hidMk hBF
   clear hO hBF ZB
   go_wp2_with fail
   exact bodyPost_ret (v := .agg #[.int .i64 0, .int .i64 0, .string ⟨#[]⟩]) (by simp [results, Tryz.results36, go_sem, q0, q1, q2, hl]; try rfl) rfl ⟨by first | rfl | (rw [hq]; rfl) | (rw [← HR2.out]; rfl) | (rw [← HR2.out, hq]; rfl) | (rw [← hX]; rfl), by repeat (first | exact HBF.out | refine Below.setCell ?_ (by simp; try omega) _)⟩
 | cmod0 hb =>
   unfold bMod at h1
   clear h6
   have hbz : (b.n == 0) = true := by rw [beq_iff_eq]; exact hb
   clear hb
   clear hR
   obtain ⟨hO, hBF⟩ := ZB.out w1 (Below.refl _ _)
   obtain ⟨q0, q1, q2, qf0, qf1, qf2, hl⟩ := own3 hO
   have HBF := Vc.hidMk hBF
   clear hO hBF ZB
   go_wp2_with fail
   exact bodyPost_ret (v := .agg #[.int .i64 0, .int .i64 0, .string ⟨#[]⟩]) (by simp [results, Tryz.results36, go_sem, q0, q1, q2, hl]; try rfl) rfl ⟨by first | rfl | (rw [hq]; rfl) | (rw [← HR2.out]; rfl) | (rw [← HR2.out, hq]; rfl) | (rw [← hX]; rfl), by repeat (first | exact HBF.out | refine Below.setCell ?_ (by simp; try omega) _)⟩
 | cnot =>
   unfold bNot at h1
   clear h6
   clear hR
   cases hq : (a.n == 0)
   all_goals
     go_wp2_with fail
     refine (HTr.out _ _).mono ?_
     rintro e w2 ⟨rfl, hb2⟩
     obtain ⟨hO, hBF⟩ := ZB.out w2 hb2
     obtain ⟨q0, q1, q2, qf0, qf1, qf2, hl⟩ := own3 hO
     have HBF := Vc.hidMk hBF
     clear hO hBF ZB
     go_wp2_with fail
     first
     | exact bodyPost_ret (v := .agg #[.int .i64 2, .int .i64 1, .string ⟨#[]⟩]) (by simp [results, Tryz.results36, go_sem, q0, q1, q2, hl]; try rfl) rfl ⟨by first | rfl | (rw [hq]; rfl) | (rw [← HR2.out]; rfl) | (rw [← HR2.out, hq]; rfl) | (rw [← hX]; rfl), by repeat (first | exact HBF.out | refine Below.setCell ?_ (by simp; try omega) _)⟩
     | exact bodyPost_ret (v := .agg #[.int .i64 2, .int .i64 0, .string ⟨#[]⟩]) (by simp [results, Tryz.results36, go_sem, q0, q1, q2, hl]; try rfl) rfl ⟨by first | rfl | (rw [hq]; rfl) | (rw [← HR2.out]; rfl) | (rw [← HR2.out, hq]; rfl) | (rw [← hX]; rfl), by repeat (first | exact HBF.out | refine Below.setCell ?_ (by simp; try omega) _)⟩
 | ceq =>
   unfold bEq at h1
   clear h6
   clear hR
   cases hq : eqB a.k a.n a.t b.k b.n b.t
   all_goals
     go_wp2_with fail
     refine (HTr.out _ _).mono ?_
     rintro e w2 ⟨rfl, hb2⟩
     obtain ⟨hO, hBF⟩ := ZB.out w2 hb2
     obtain ⟨q0, q1, q2, qf0, qf1, qf2, hl⟩ := own3 hO
     have HBF := Vc.hidMk hBF
     clear hO hBF ZB
     go_wp2_with fail
     first
     | exact bodyPost_ret (v := .agg #[.int .i64 2, .int .i64 1, .string ⟨#[]⟩]) (by simp [results, Tryz.results36, go_sem, q0, q1, q2, hl]; try rfl) rfl ⟨by first | rfl | (rw [hq]; rfl) | (rw [← HR2.out]; rfl) | (rw [← HR2.out, hq]; rfl) | (rw [← hX]; rfl), by repeat (first | exact HBF.out | refine Below.setCell ?_ (by simp; try omega) _)⟩
     | exact bodyPost_ret (v := .agg #[.int .i64 2, .int .i64 0, .string ⟨#[]⟩]) (by simp [results, Tryz.results36, go_sem, q0, q1, q2, hl]; try rfl) rfl ⟨by first | rfl | (rw [hq]; rfl) | (rw [← HR2.out]; rfl) | (rw [← HR2.out, hq]; rfl) | (rw [← hX]; rfl), by repeat (first | exact HBF.out | refine Below.setCell ?_ (by simp; try omega) _)⟩
 | cne =>
   unfold bNe at h1
   clear h6
   clear hR
   cases hq : eqB a.k a.n a.t b.k b.n b.t
   all_goals
     go_wp2_with fail
     refine (HTr.out _ _).mono ?_
     rintro e w2 ⟨rfl, hb2⟩
     obtain ⟨hO, hBF⟩ := ZB.out w2 hb2
     obtain ⟨q0, q1, q2, qf0, qf1, qf2, hl⟩ := own3 hO
     have HBF := Vc.hidMk hBF
     clear hO hBF ZB
     go_wp2_with fail
     first
     | exact bodyPost_ret (v := .agg #[.int .i64 2, .int .i64 1, .string ⟨#[]⟩]) (by simp [results, Tryz.results36, go_sem, q0, q1, q2, hl]; try rfl) rfl ⟨by first | rfl | (rw [hq]; rfl) | (rw [← HR2.out]; rfl) | (rw [← HR2.out, hq]; rfl) | (rw [← hX]; rfl), by repeat (first | exact HBF.out | refine Below.setCell ?_ (by simp; try omega) _)⟩
     | exact bodyPost_ret (v := .agg #[.int .i64 2, .int .i64 0, .string ⟨#[]⟩]) (by simp [results, Tryz.results36, go_sem, q0, q1, q2, hl]; try rfl) rfl ⟨by first | rfl | (rw [hq]; rfl) | (rw [← HR2.out]; rfl) | (rw [← HR2.out, hq]; rfl) | (rw [← hX]; rfl), by repeat (first | exact HBF.out | refine Below.setCell ?_ (by simp; try omega) _)⟩
 | clt =>
   unfold bLt at h1
   clear h6
   have HR2 := Vc.hidMk hR
   clear hR
   cases R
   all_goals
     go_wp2_with fail
     refine (HTr.out _ _).mono ?_
     rintro e w2 ⟨rfl, hb2⟩
     obtain ⟨hO, hBF⟩ := ZB.out w2 hb2
     obtain ⟨q0, q1, q2, qf0, qf1, qf2, hl⟩ := own3 hO
     have HBF := Vc.hidMk hBF
     clear hO hBF ZB
     go_wp2_with fail
     first
     | exact bodyPost_ret (v := .agg #[.int .i64 2, .int .i64 1, .string ⟨#[]⟩]) (by simp [results, Tryz.results36, go_sem, q0, q1, q2, hl]; try rfl) rfl ⟨by first | rfl | (rw [hq]; rfl) | (rw [← HR2.out]; rfl) | (rw [← HR2.out, hq]; rfl) | (rw [← hX]; rfl), by repeat (first | exact HBF.out | refine Below.setCell ?_ (by simp; try omega) _)⟩
     | exact bodyPost_ret (v := .agg #[.int .i64 2, .int .i64 0, .string ⟨#[]⟩]) (by simp [results, Tryz.results36, go_sem, q0, q1, q2, hl]; try rfl) rfl ⟨by first | rfl | (rw [hq]; rfl) | (rw [← HR2.out]; rfl) | (rw [← HR2.out, hq]; rfl) | (rw [← hX]; rfl), by repeat (first | exact HBF.out | refine Below.setCell ?_ (by simp; try omega) _)⟩
 | cle =>
   unfold bLe at h1
   clear h6
   have HR2 := Vc.hidMk hR
   clear hR
   cases R <;> cases hq : eqB a.k a.n a.t b.k b.n b.t
   all_goals
     go_wp2_with fail
     refine (HTr.out _ _).mono ?_
     rintro e w2 ⟨rfl, hb2⟩
     obtain ⟨hO, hBF⟩ := ZB.out w2 hb2
     obtain ⟨q0, q1, q2, qf0, qf1, qf2, hl⟩ := own3 hO
     have HBF := Vc.hidMk hBF
     clear hO hBF ZB
     go_wp2_with fail
     first
     | exact bodyPost_ret (v := .agg #[.int .i64 2, .int .i64 1, .string ⟨#[]⟩]) (by simp [results, Tryz.results36, go_sem, q0, q1, q2, hl]; try rfl) rfl ⟨by first | rfl | (rw [hq]; rfl) | (rw [← HR2.out]; rfl) | (rw [← HR2.out, hq]; rfl) | (rw [← hX]; rfl), by repeat (first | exact HBF.out | refine Below.setCell ?_ (by simp; try omega) _)⟩
     | exact bodyPost_ret (v := .agg #[.int .i64 2, .int .i64 0, .string ⟨#[]⟩]) (by simp [results, Tryz.results36, go_sem, q0, q1, q2, hl]; try rfl) rfl ⟨by first | rfl | (rw [hq]; rfl) | (rw [← HR2.out]; rfl) | (rw [← HR2.out, hq]; rfl) | (rw [← hX]; rfl), by repeat (first | exact HBF.out | refine Below.setCell ?_ (by simp; try omega) _)⟩
 | cgt =>
   unfold bGt at h1
   clear h6
   have HR2 := Vc.hidMk hR
   clear hR
   cases R <;> cases hq : eqB a.k a.n a.t b.k b.n b.t
   all_goals
     go_wp2_with fail
     refine (HTr.out _ _).mono ?_
     rintro e w2 ⟨rfl, hb2⟩
     obtain ⟨hO, hBF⟩ := ZB.out w2 hb2
     obtain ⟨q0, q1, q2, qf0, qf1, qf2, hl⟩ := own3 hO
     have HBF := Vc.hidMk hBF
     clear hO hBF ZB
     go_wp2_with fail
     first
     | exact bodyPost_ret (v := .agg #[.int .i64 2, .int .i64 1, .string ⟨#[]⟩]) (by simp [results, Tryz.results36, go_sem, q0, q1, q2, hl]; try rfl) rfl ⟨by first | rfl | (rw [hq]; rfl) | (rw [← HR2.out]; rfl) | (rw [← HR2.out, hq]; rfl) | (rw [← hX]; rfl), by repeat (first | exact HBF.out | refine Below.setCell ?_ (by simp; try omega) _)⟩
     | exact bodyPost_ret (v := .agg #[.int .i64 2, .int .i64 0, .string ⟨#[]⟩]) (by simp [results, Tryz.results36, go_sem, q0, q1, q2, hl]; try rfl) rfl ⟨by first | rfl | (rw [hq]; rfl) | (rw [← HR2.out]; rfl) | (rw [← HR2.out, hq]; rfl) | (rw [← hX]; rfl), by repeat (first | exact HBF.out | refine Below.setCell ?_ (by simp; try omega) _)⟩
 | cge =>
   unfold bGe at h1
   clear h6
   have HR2 := Vc.hidMk hR
   clear hR
   cases R
   all_goals
     go_wp2_with fail
     refine (HTr.out _ _).mono ?_
     rintro e w2 ⟨rfl, hb2⟩
     obtain ⟨hO, hBF⟩ := ZB.out w2 hb2
     obtain ⟨q0, q1, q2, qf0, qf1, qf2, hl⟩ := own3 hO
     have HBF := Vc.hidMk hBF
     clear hO hBF ZB
     go_wp2_with fail
     first
     | exact bodyPost_ret (v := .agg #[.int .i64 2, .int .i64 1, .string ⟨#[]⟩]) (by simp [results, Tryz.results36, go_sem, q0, q1, q2, hl]; try rfl) rfl ⟨by first | rfl | (rw [hq]; rfl) | (rw [← HR2.out]; rfl) | (rw [← HR2.out, hq]; rfl) | (rw [← hX]; rfl), by repeat (first | exact HBF.out | refine Below.setCell ?_ (by simp; try omega) _)⟩
     | exact bodyPost_ret (v := .agg #[.int .i64 2, .int .i64 0, .string ⟨#[]⟩]) (by simp [results, Tryz.results36, go_sem, q0, q1, q2, hl]; try rfl) rfl ⟨by first | rfl | (rw [hq]; rfl) | (rw [← HR2.out]; rfl) | (rw [← HR2.out, hq]; rfl) | (rw [← hX]; rfl), by repeat (first | exact HBF.out | refine Below.setCell ?_ (by simp; try omega) _)⟩
 | cand =>
   unfold bAnd at h1
   clear h6
   clear hR
   skip
   all_goals
     go_wp2_with fail
     refine (HTr.out _ _).mono ?_
     rintro e w2 ⟨rfl, hb2⟩
     obtain ⟨hO, hBF⟩ := ZB.out w2 hb2
     obtain ⟨q0, q1, q2, qf0, qf1, qf2, hl⟩ := own3 hO
     have HBF := Vc.hidMk hBF
     clear hO hBF ZB
     go_wp2_with fail
     first
     | exact bodyPost_ret (v := .agg #[.int .i64 2, .int .i64 1, .string ⟨#[]⟩]) (by simp [results, Tryz.results36, go_sem, q0, q1, q2, hl]; try rfl) rfl ⟨by first | rfl | (rw [hq]; rfl) | (rw [← HR2.out]; rfl) | (rw [← HR2.out, hq]; rfl) | (rw [← hX]; rfl), by repeat (first | exact HBF.out | refine Below.setCell ?_ (by simp; try omega) _)⟩
     | exact bodyPost_ret (v := .agg #[.int .i64 2, .int .i64 0, .string ⟨#[]⟩]) (by simp [results, Tryz.results36, go_sem, q0, q1, q2, hl]; try rfl) rfl ⟨by first | rfl | (rw [hq]; rfl) | (rw [← HR2.out]; rfl) | (rw [← HR2.out, hq]; rfl) | (rw [← hX]; rfl), by repeat (first | exact HBF.out | refine Below.setCell ?_ (by simp; try omega) _)⟩
 | cor =>
   unfold bOr at h1
   clear h6
   clear hR
   skip
   all_goals
     go_wp2_with fail
     refine (HTr.out _ _).mono ?_
     rintro e w2 ⟨rfl, hb2⟩
     obtain ⟨hO, hBF⟩ := ZB.out w2 hb2
     obtain ⟨q0, q1, q2, qf0, qf1, qf2, hl⟩ := own3 hO
     have HBF := Vc.hidMk hBF
     clear hO hBF ZB
     go_wp2_with fail
     first
     | exact bodyPost_ret (v := .agg #[.int .i64 2, .int .i64 1, .string ⟨#[]⟩]) (by simp [results, Tryz.results36, go_sem, q0, q1, q2, hl]; try rfl) rfl ⟨by first | rfl | (rw [hq]; rfl) | (rw [← HR2.out]; rfl) | (rw [← HR2.out, hq]; rfl) | (rw [← hX]; rfl), by repeat (first | exact HBF.out | refine Below.setCell ?_ (by simp; try omega) _)⟩
     | exact bodyPost_ret (v := .agg #[.int .i64 2, .int .i64 0, .string ⟨#[]⟩]) (by simp [results, Tryz.results36, go_sem, q0, q1, q2, hl]; try rfl) rfl ⟨by first | rfl | (rw [hq]; rfl) | (rw [← HR2.out]; rfl) | (rw [← HR2.out, hq]; rfl) | (rw [← hX]; rfl), by repeat (first | exact HBF.out | refine Below.setCell ?_ (by simp; try omega) _)⟩
 | ccat hs =>
   unfold bCat at h1
   clear h6
   have hj : (9223372036854775807 < a.t.size + b.t.size) = False := by simp; omega
   have hj2 : ¬ (60 : Int) < ((a.t ++ b.t).size : Int) := by rw [ByteArray.size_append]; omega
   have hj3 : ¬ (60 : Int) < ((a.t.size + b.t.size : Nat) : Int) := by omega
   have hj4 : ¬ (60 : Int) < (a.t.size : Int) + (b.t.size : Int) := by omega
   clear hR
   go_wp2_with fail
   refine (HTx.out (a.t ++ b.t) _).mono ?_
   rintro e w2 ⟨rfl, hb2⟩
   obtain ⟨hO, hBF⟩ := ZB.out w2 hb2
   obtain ⟨q0, q1, q2, qf0, qf1, qf2, hl⟩ := own3 hO
   have HBF := Vc.hidMk hBF
   clear hO hBF ZB
   go_wp2_with fail
   exact bodyPost_ret (v := .agg #[.int .i64 3, .int .i64 0, .string (a.t ++ b.t)]) (by simp [results, Tryz.results36, go_sem, q0, q1, q2, hl]; try rfl) rfl ⟨by first | rfl | (rw [hq]; rfl) | (rw [← HR2.out]; rfl) | (rw [← HR2.out, hq]; rfl) | (rw [← hX]; rfl), by repeat (first | exact HBF.out | refine Below.setCell ?_ (by simp; try omega) _)⟩
 | ccatL hs hs2 =>
   unfold bCat at h1
   clear h6
   have hj : (9223372036854775807 < a.t.size + b.t.size) = False := by simp; omega
   have hj2 : (60 : Int) < ((a.t ++ b.t).size : Int) := by rw [ByteArray.size_append]; omega
   have hj3 : (60 : Int) < ((a.t.size + b.t.size : Nat) : Int) := by omega
   have hj4 : (60 : Int) < (a.t.size : Int) + (b.t.size : Int) := by omega
   have hsl : ∀ w : World, (Instr.slice 9 (.string (a.t ++ b.t)) none (some (.int .i64 60)) none).run Tryz.prog w = .ok (.string ⟨((a.t ++ b.t).data.toList.take 60).toArray⟩) w := fun w => slice_hi (a.t ++ b.t) 60 (by rw [ByteArray.size_append]; omega) w
   clear hR
   go_wp2_with fail
   refine (HTx.out ⟨((a.t ++ b.t).data.toList.take 60).toArray⟩ _).mono ?_
   rintro e w2 ⟨rfl, hb2⟩
   obtain ⟨hO, hBF⟩ := ZB.out w2 hb2
   obtain ⟨q0, q1, q2, qf0, qf1, qf2, hl⟩ := own3 hO
   have HBF := Vc.hidMk hBF
   clear hO hBF ZB
   go_wp2_with fail
   exact bodyPost_ret (v := .agg #[.int .i64 3, .int .i64 0, .string ⟨((a.t ++ b.t).data.toList.take 60).toArray⟩]) (by simp [results, Tryz.results36, go_sem, q0, q1, q2, hl]; try rfl) rfl ⟨by first | rfl | (rw [hq]; rfl) | (rw [← HR2.out]; rfl) | (rw [← HR2.out, hq]; rfl) | (rw [← hX]; rfl), by repeat (first | exact HBF.out | refine Below.setCell ?_ (by simp; try omega) _)⟩
 | clen =>
   unfold bCall at h1
   have h7 := h6 rfl
   unfold bLen at h7
   clear h6
   clear hR
   go_wp2_with fail
   refine (HN.out ((a.t.size : Nat) : Int) _).mono ?_
   rintro e w2 ⟨rfl, hb2⟩
   obtain ⟨hO, hBF⟩ := ZB.out w2 hb2
   obtain ⟨q0, q1, q2, qf0, qf1, qf2, hl⟩ := own3 hO
   have HBF := Vc.hidMk hBF
   clear hO hBF ZB
   go_wp2_with fail
   exact bodyPost_ret (v := .agg #[.int .i64 1, .int .i64 ((a.t.size : Nat) : Int), .string ⟨#[]⟩]) (by simp [results, Tryz.results36, go_sem, q0, q1, q2, hl]; try rfl) rfl ⟨by first | rfl | (rw [hq]; rfl) | (rw [← HR2.out]; rfl) | (rw [← HR2.out, hq]; rfl) | (rw [← hX]; rfl), by repeat (first | exact HBF.out | refine Below.setCell ?_ (by simp; try omega) _)⟩
 | cabs hneg =>
   unfold bCall at h1
   have h7 := h6 rfl
   unfold bAbs at h7
   clear h6
   clear hR
   go_wp2_with fail
   refine (HN.out (wrap64 (-a.n)) _).mono ?_
   rintro e w2 ⟨rfl, hb2⟩
   obtain ⟨hO, hBF⟩ := ZB.out w2 hb2
   obtain ⟨q0, q1, q2, qf0, qf1, qf2, hl⟩ := own3 hO
   have HBF := Vc.hidMk hBF
   clear hO hBF ZB
   go_wp2_with fail
   exact bodyPost_ret (v := .agg #[.int .i64 1, .int .i64 (wrap64 (-a.n)), .string ⟨#[]⟩]) (by simp [results, Tryz.results36, go_sem, q0, q1, q2, hl]; try rfl) rfl ⟨by first | rfl | (rw [hq]; rfl) | (rw [← HR2.out]; rfl) | (rw [← HR2.out, hq]; rfl) | (rw [← hX]; rfl), by repeat (first | exact HBF.out | refine Below.setCell ?_ (by simp; try omega) _)⟩
 | cabsP hpos =>
   unfold bCall at h1
   have h7 := h6 rfl
   unfold bAbs at h7
   clear h6
   clear hR
   obtain ⟨hO, hBF⟩ := ZB.out w1 (Below.refl _ _)
   obtain ⟨q0, q1, q2, qf0, qf1, qf2, hl⟩ := own3 hO
   have HBF := Vc.hidMk hBF
   clear hO hBF ZB
   go_wp2_with fail
   exact bodyPost_ret (v := .agg #[.int .i64 V.k, .int .i64 V.n, .string V.t]) (by simp [results, Tryz.results36, go_sem, q0, q1, q2, hl]; try rfl) rfl ⟨by first | rfl | (rw [hq]; rfl) | (rw [← HR2.out]; rfl) | (rw [← HR2.out, hq]; rfl) | (rw [← hX]; rfl), by repeat (first | exact HBF.out | refine Below.setCell ?_ (by simp; try omega) _)⟩
 | ccut0 hb =>
   unfold bCall at h1
   have h7 := h6 rfl
   unfold bCut at h7
   clear h6
   have hsl : ∀ w : World, (Instr.slice 9 (.string a.t) none (some (.int .i64 0)) none).run Tryz.prog w = .ok (.string ⟨(a.t.data.toList.take 0).toArray⟩) w := fun w => slice_hi a.t 0 (by omega) w
   have hz0 : ¬ (a.t.size : Int) < 0 := by omega
   generalize hX : (⟨(a.t.data.toList.take 0).toArray⟩ : ByteArray) = X at *
   clear hR
   go_wp2_with fail
   refine (HTx.out X _).mono ?_
   rintro e w2 ⟨rfl, hb2⟩
   obtain ⟨hO, hBF⟩ := ZB.out w2 hb2
   obtain ⟨q0, q1, q2, qf0, qf1, qf2, hl⟩ := own3 hO
   have HBF := Vc.hidMk hBF
   clear hO hBF ZB
   go_wp2_with fail
   exact bodyPost_ret (v := .agg #[.int .i64 3, .int .i64 0, .string X]) (by simp [results, Tryz.results36, go_sem, q0, q1, q2, hl]; try rfl) rfl ⟨by first | rfl | (rw [hq]; rfl) | (rw [← HR2.out]; rfl) | (rw [← HR2.out, hq]; rfl) | (rw [← hX]; rfl), by repeat (first | exact HBF.out | refine Below.setCell ?_ (by simp; try omega) _)⟩
 | ccut1 N hb hb2 =>
   unfold bCall at h1
   have h7 := h6 rfl
   unfold bCut at h7
   clear h6
   have hsl : ∀ w : World, (Instr.slice 9 (.string a.t) none (some (.int .i64 b.n)) none).run Tryz.prog w = .ok (.string ⟨(a.t.data.toList.take N).toArray⟩) w := fun w => by rw [hb]; exact slice_hi a.t N hb2 w
   have hz0 : ¬ b.n < 0 := by omega
   have hz1 : ¬ (a.t.size : Int) < b.n := by omega
   clear hb hb2
   clear hR
   go_wp2_with fail
   refine (HTx.out ⟨(a.t.data.toList.take N).toArray⟩ _).mono ?_
   rintro e w2 ⟨rfl, hb2⟩
   obtain ⟨hO, hBF⟩ := ZB.out w2 hb2
   obtain ⟨q0, q1, q2, qf0, qf1, qf2, hl⟩ := own3 hO
   have HBF := Vc.hidMk hBF
   clear hO hBF ZB
   go_wp2_with fail
   exact bodyPost_ret (v := .agg #[.int .i64 3, .int .i64 0, .string ⟨(a.t.data.toList.take N).toArray⟩]) (by simp [results, Tryz.results36, go_sem, q0, q1, q2, hl]; try rfl) rfl ⟨by first | rfl | (rw [hq]; rfl) | (rw [← HR2.out]; rfl) | (rw [← HR2.out, hq]; rfl) | (rw [← hX]; rfl), by repeat (first | exact HBF.out | refine Below.setCell ?_ (by simp; try omega) _)⟩
 | ccut2 hb =>
   unfold bCall at h1
   have h7 := h6 rfl
   unfold bCut at h7
   clear h6
   have hsl : ∀ w : World, (Instr.slice 9 (.string a.t) none (some (.int .i64 (a.t.size : Nat))) none).run Tryz.prog w = .ok (.string ⟨(a.t.data.toList.take a.t.size).toArray⟩) w := fun w => slice_hi a.t a.t.size (by omega) w
   have hz0 : ¬ b.n < 0 := by omega
   clear hR
   go_wp2_with fail
   refine (HTx.out ⟨(a.t.data.toList.take a.t.size).toArray⟩ _).mono ?_
   rintro e w2 ⟨rfl, hb2⟩
   obtain ⟨hO, hBF⟩ := ZB.out w2 hb2
   obtain ⟨q0, q1, q2, qf0, qf1, qf2, hl⟩ := own3 hO
   have HBF := Vc.hidMk hBF
   clear hO hBF ZB
   go_wp2_with fail
   exact bodyPost_ret (v := .agg #[.int .i64 3, .int .i64 0, .string ⟨(a.t.data.toList.take a.t.size).toArray⟩]) (by simp [results, Tryz.results36, go_sem, q0, q1, q2, hl]; try rfl) rfl ⟨by first | rfl | (rw [hq]; rfl) | (rw [← HR2.out]; rfl) | (rw [← HR2.out, hq]; rfl) | (rw [← hX]; rfl), by repeat (first | exact HBF.out | refine Below.setCell ?_ (by simp; try omega) _)⟩
theorem strict_plus (p : Nat) (a b : Vl) (w : World) (h0 : w.cell? ⟨p, 0, none⟩ = some (.string bPlus)) : StD p a b (vInt (wrap64 (a.n + b.n))) w := strict_sg (nm := bCall) p a b w (.cplus ) h0 (fun e => absurd e (by decide +kernel))
theorem strict_minus2 (p : Nat) (a b : Vl) (w : World) (h0 : w.cell? ⟨p, 0, none⟩ = some (.string bMinus)) : StD p a b (vInt (wrap64 (a.n - b.n))) w := strict_sg (nm := bCall) p a b w (.cminus2 ) h0 (fun e => absurd e (by decide +kernel))
theorem strict_mul (p : Nat) (a b : Vl) (w : World) (h0 : w.cell? ⟨p, 0, none⟩ = some (.string bMul)) : StD p a b (vInt (wrap64 (a.n * b.n))) w := strict_sg (nm := bCall) p a b w (.cmul ) h0 (fun e => absurd e (by decide +kernel))
theorem strict_div (p : Nat) (a b : Vl) (w : World) (h0 : w.cell? ⟨p, 0, none⟩ = some (.string bDiv)) (hb : b.n ≠ 0) : StD p a b (vInt (wrap64 (a.n.tdiv b.n))) w := strict_sg (nm := bCall) p a b w (.cdiv hb) h0 (fun e => absurd e (by decide +kernel))
theorem strict_mod (p : Nat) (a b : Vl) (w : World) (h0 : w.cell? ⟨p, 0, none⟩ = some (.string bMod)) (hb : b.n ≠ 0) : StD p a b (vInt (a.n.tmod b.n)) w := strict_sg (nm := bCall) p a b w (.cmod hb) h0 (fun e => absurd e (by decide +kernel))
theorem strict_neg (p : Nat) (a b : Vl) (w : World) (h0 : w.cell? ⟨p, 0, none⟩ = some (.string bMinusW)) : StD p a b (vInt (wrap64 (-a.n))) w := strict_sg (nm := bCall) p a b w (.cneg ) h0 (fun e => absurd e (by decide +kernel))
theorem strict_div0 (p : Nat) (a b : Vl) (w : World) (h0 : w.cell? ⟨p, 0, none⟩ = some (.string bDiv)) (hb : b.n = 0) : StD p a b (vNull) w := strict_sg (nm := bCall) p a b w (.cdiv0 hb) h0 (fun e => absurd e (by decide +kernel))
theorem strict_mod0 (p : Nat) (a b : Vl) (w : World) (h0 : w.cell? ⟨p, 0, none⟩ = some (.string bMod)) (hb : b.n = 0) : StD p a b (vNull) w := strict_sg (nm := bCall) p a b w (.cmod0 hb) h0 (fun e => absurd e (by decide +kernel))
theorem strict_not (p : Nat) (a b : Vl) (w : World) (h0 : w.cell? ⟨p, 0, none⟩ = some (.string bNot)) : StD p a b (vTru (a.n == 0)) w := strict_sg (nm := bCall) p a b w (.cnot ) h0 (fun e => absurd e (by decide +kernel))
theorem strict_eq (p : Nat) (a b : Vl) (w : World) (h0 : w.cell? ⟨p, 0, none⟩ = some (.string bEq)) : StD p a b (vTru (eqB a.k a.n a.t b.k b.n b.t)) w := strict_sg (nm := bCall) p a b w (.ceq ) h0 (fun e => absurd e (by decide +kernel))
theorem strict_ne (p : Nat) (a b : Vl) (w : World) (h0 : w.cell? ⟨p, 0, none⟩ = some (.string bNe)) : StD p a b (vTru (!eqB a.k a.n a.t b.k b.n b.t)) w := strict_sg (nm := bCall) p a b w (.cne ) h0 (fun e => absurd e (by decide +kernel))
theorem strict_lt (p : Nat) (a b : Vl) (w : World) (h0 : w.cell? ⟨p, 0, none⟩ = some (.string bLt)) : StD p a b (vTru (Vc.ltV a.k a.n a.t b.k b.n b.t)) w := strict_sg (nm := bCall) p a b w (.clt ) h0 (fun e => absurd e (by decide +kernel))
theorem strict_le (p : Nat) (a b : Vl) (w : World) (h0 : w.cell? ⟨p, 0, none⟩ = some (.string bLe)) : StD p a b (vTru (Vc.ltV a.k a.n a.t b.k b.n b.t || eqB a.k a.n a.t b.k b.n b.t)) w := strict_sg (nm := bCall) p a b w (.cle ) h0 (fun e => absurd e (by decide +kernel))
theorem strict_gt (p : Nat) (a b : Vl) (w : World) (h0 : w.cell? ⟨p, 0, none⟩ = some (.string bGt)) : StD p a b (vTru (!Vc.ltV a.k a.n a.t b.k b.n b.t && !eqB a.k a.n a.t b.k b.n b.t)) w := strict_sg (nm := bCall) p a b w (.cgt ) h0 (fun e => absurd e (by decide +kernel))
theorem strict_ge (p : Nat) (a b : Vl) (w : World) (h0 : w.cell? ⟨p, 0, none⟩ = some (.string bGe)) : StD p a b (vTru (!Vc.ltV a.k a.n a.t b.k b.n b.t)) w := strict_sg (nm := bCall) p a b w (.cge ) h0 (fun e => absurd e (by decide +kernel))
theorem strict_and (p : Nat) (a b : Vl) (w : World) (h0 : w.cell? ⟨p, 0, none⟩ = some (.string bAnd)) : StD p a b (vTru true) w := strict_sg (nm := bCall) p a b w (.cand ) h0 (fun e => absurd e (by decide +kernel))
theorem strict_or (p : Nat) (a b : Vl) (w : World) (h0 : w.cell? ⟨p, 0, none⟩ = some (.string bOr)) : StD p a b (vTru false) w := strict_sg (nm := bCall) p a b w (.cor ) h0 (fun e => absurd e (by decide +kernel))
theorem strict_cat (p : Nat) (a b : Vl) (w : World) (h0 : w.cell? ⟨p, 0, none⟩ = some (.string bCat)) (hs : a.t.size + b.t.size ≤ 60) : StD p a b (vTxt (a.t ++ b.t)) w := strict_sg (nm := bCall) p a b w (.ccat hs) h0 (fun e => absurd e (by decide +kernel))
theorem strict_catL (p : Nat) (a b : Vl) (w : World) (h0 : w.cell? ⟨p, 0, none⟩ = some (.string bCat)) (hs : 60 < a.t.size + b.t.size) (hs2 : a.t.size + b.t.size ≤ 9223372036854775807) : StD p a b (vTxt ⟨((a.t ++ b.t).data.toList.take 60).toArray⟩) w := strict_sg (nm := bCall) p a b w (.ccatL hs hs2) h0 (fun e => absurd e (by decide +kernel))
theorem strict_len (p : Nat) (a b : Vl) (w : World) (h0 : w.cell? ⟨p, 0, none⟩ = some (.string bCall)) (hn : w.cell? ⟨p, 6, none⟩ = some (.string bLen)) : StD p a b (vInt (a.t.size : Nat)) w := strict_sg p a b w (.clen ) h0 (fun _ => hn)
theorem strict_abs (p : Nat) (a b : Vl) (w : World) (h0 : w.cell? ⟨p, 0, none⟩ = some (.string bCall)) (hn : w.cell? ⟨p, 6, none⟩ = some (.string bAbs)) (hneg : a.n < 0) : StD p a b (vInt (wrap64 (-a.n))) w := strict_sg p a b w (.cabs hneg) h0 (fun _ => hn)
theorem strict_absP (p : Nat) (a b : Vl) (w : World) (h0 : w.cell? ⟨p, 0, none⟩ = some (.string bCall)) (hn : w.cell? ⟨p, 6, none⟩ = some (.string bAbs)) (hpos : ¬ a.n < 0) : StD p a b (a) w := strict_sg p a b w (.cabsP hpos) h0 (fun _ => hn)
theorem strict_cut0 (p : Nat) (a b : Vl) (w : World) (h0 : w.cell? ⟨p, 0, none⟩ = some (.string bCall)) (hn : w.cell? ⟨p, 6, none⟩ = some (.string bCut)) (hb : b.n < 0) : StD p a b (vTxt ⟨(a.t.data.toList.take 0).toArray⟩) w := strict_sg p a b w (.ccut0 hb) h0 (fun _ => hn)
theorem strict_cut1 (p : Nat) (a b : Vl) (w : World) (h0 : w.cell? ⟨p, 0, none⟩ = some (.string bCall)) (hn : w.cell? ⟨p, 6, none⟩ = some (.string bCut)) (N : Nat) (hb : b.n = (N : Int)) (hb2 : N ≤ a.t.size) : StD p a b (vTxt ⟨(a.t.data.toList.take N).toArray⟩) w := strict_sg p a b w (.ccut1 N hb hb2) h0 (fun _ => hn)
theorem strict_cut2 (p : Nat) (a b : Vl) (w : World) (h0 : w.cell? ⟨p, 0, none⟩ = some (.string bCall)) (hn : w.cell? ⟨p, 6, none⟩ = some (.string bCut)) (hb : (a.t.size : Int) < b.n) : StD p a b (vTxt ⟨(a.t.data.toList.take a.t.size).toArray⟩) w := strict_sg p a b w (.ccut2 hb) h0 (fun _ => hn)
end Go.Proofs.YtckdmmfmnhcabaaGreatDoor.Dc
