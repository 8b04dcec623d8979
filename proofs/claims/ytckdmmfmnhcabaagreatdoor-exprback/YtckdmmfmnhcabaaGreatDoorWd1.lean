import Derived.Test.YtckdmmfmnhcabaaGreatDoorWb1
import Derived.Test.YtckdmmfmnhcabaaGreatDoorWa1
import Derived.Lib.MinMax
namespace Go.Proofs.YtckdmmfmnhcabaaGreatDoor
open Go.RowKit
set_option linter.unusedVariables false
set_option linter.unusedSimpArgs false
set_option maxRecDepth 100000

set_option maxHeartbeats 2000000 in
theorem negF (x : Vl) (a : Option Addr) (c : Nat) (w : World) (hv : VsAt w a [x]) :
   Calls Tryz.prog 170 #[.slice a 1 c] w fun e w' => e = .returned (vV (vInt (wrap64 (-x.n)))) ∧ Below w.heap.size w w' := by
 have HO : Hid (∀ n W, Calls Tryz.prog 85 #[.int .i64 n] W fun e w' => e = .returned (.agg #[.int .i64 1, .int .i64 n, .string ⟨#[]⟩]) ∧ Below W.heap.size W w') := of_any
 obtain ⟨b, off, rfl, h0, h1, h2⟩ := hv 0 (by simp)
 simp only [List.getElem_cons_zero, List.getElem_cons_succ, Nat.zero_mul, Nat.add_zero, Nat.one_mul] at h0 h1 h2
 have hbl2 : b < w.heap.size := World.block_lt_of_cell? _ _ h1
 clear hv
 go_enter Tryz.func170, Tryz.ntmps170
 go_wp2_with fail
 refine (HO.out _ _).mono ?_
 rintro e w2 ⟨rfl, hb2⟩
 obtain ⟨hO, hB⟩ := resAt hb2
 have q0 : w2.cell? ⟨w.heap.size, 0, none⟩ = some (.int .i64 0) := by rw [hO.cell 0 (by decide)]; rfl
 have q1 : w2.cell? ⟨w.heap.size, 1, none⟩ = some (.int .i64 0) := by rw [hO.cell 1 (by decide)]; rfl
 have q2 : w2.cell? ⟨w.heap.size, 2, none⟩ = some (.string ⟨#[]⟩) := by rw [hO.cell 2 (by decide)]; rfl
 have qf0 : w2.frozen? ⟨w.heap.size, 0, none⟩ = false := hO.soft 0
 have qf1 : w2.frozen? ⟨w.heap.size, 1, none⟩ = false := hO.soft 1
 have qf2 : w2.frozen? ⟨w.heap.size, 2, none⟩ = false := hO.soft 2
 have hl := hO.lt
 have HB : Hid (Below w.heap.size w w2) := hB
 clear hb2 hO hB HO
 go_wp2_with fail
 exact bodyPost_ret (v := .agg #[.int .i64 1, .int .i64 (wrap64 (-x.n)), .string ⟨#[]⟩]) (by simp [results, Tryz.results170, go_sem, q0, q1, q2, hl]; try rfl) rfl ⟨rfl, resB HB.out _ _ _⟩
set_option maxHeartbeats 2000000 in
theorem lenF (x : Vl) (a : Option Addr) (c : Nat) (w : World) (hv : VsAt w a [x]) :
   Calls Tryz.prog 191 #[.slice a 1 c] w fun e w' => e = .returned (vV (vInt (x.t.size : Nat))) ∧ Below w.heap.size w w' := by
 have HO : Hid (∀ n W, Calls Tryz.prog 85 #[.int .i64 n] W fun e w' => e = .returned (.agg #[.int .i64 1, .int .i64 n, .string ⟨#[]⟩]) ∧ Below W.heap.size W w') := of_any
 obtain ⟨b, off, rfl, h0, h1, h2⟩ := hv 0 (by simp)
 simp only [List.getElem_cons_zero, List.getElem_cons_succ, Nat.zero_mul, Nat.add_zero, Nat.one_mul] at h0 h1 h2
 have hbl2 : b < w.heap.size := World.block_lt_of_cell? _ _ h1
 clear hv
 go_enter Tryz.func191, Tryz.ntmps191
 go_wp2_with fail
 refine (HO.out _ _).mono ?_
 rintro e w2 ⟨rfl, hb2⟩
 obtain ⟨hO, hB⟩ := resAt hb2
 have q0 : w2.cell? ⟨w.heap.size, 0, none⟩ = some (.int .i64 0) := by rw [hO.cell 0 (by decide)]; rfl
 have q1 : w2.cell? ⟨w.heap.size, 1, none⟩ = some (.int .i64 0) := by rw [hO.cell 1 (by decide)]; rfl
 have q2 : w2.cell? ⟨w.heap.size, 2, none⟩ = some (.string ⟨#[]⟩) := by rw [hO.cell 2 (by decide)]; rfl
 have qf0 : w2.frozen? ⟨w.heap.size, 0, none⟩ = false := hO.soft 0
 have qf1 : w2.frozen? ⟨w.heap.size, 1, none⟩ = false := hO.soft 1
 have qf2 : w2.frozen? ⟨w.heap.size, 2, none⟩ = false := hO.soft 2
 have hl := hO.lt
 have HB : Hid (Below w.heap.size w w2) := hB
 clear hb2 hO hB HO
 go_wp2_with fail
 exact bodyPost_ret (v := .agg #[.int .i64 1, .int .i64 (x.t.size : Nat), .string ⟨#[]⟩]) (by simp [results, Tryz.results191, go_sem, q0, q1, q2, hl]; try rfl) rfl ⟨rfl, resB HB.out _ _ _⟩
end Go.Proofs.YtckdmmfmnhcabaaGreatDoor
namespace Go.Proofs.YtckdmmfmnhcabaaGreatDoor
open Go.RowKit
set_option linter.unusedVariables false
set_option linter.unusedSimpArgs false
set_option maxRecDepth 100000
attribute [local go_sem ↓] neqlV eqlV
attribute [local go_sem] guardV

set_option maxHeartbeats 2000000 in
theorem isnullF (l : List Vl) (a : Option Addr) (c : Nat) (w : World) (hv : VsAt w a l) (hm : l.length ≤ maxLen) :
   Calls Tryz.prog 194 #[.slice a l.length c] w fun e w' => e = .returned (vV (vTru (decide (vNull ∈ l)))) ∧ Below w.heap.size w w' := by
 have HN : Hid (∀ W, Below w.heap.size w W → Calls Tryz.prog 153 #[.slice a l.length c] W fun e w' => e = .returned (.bool (decide (vNull ∈ l))) ∧ Below W.heap.size W w') := fun W hW => hasNull_any a c l W (hv.later hW) hm
 have HO : Hid (∀ b W, Calls Tryz.prog 86 #[.bool b] W fun e w' => e = .returned (.agg #[.int .i64 2, .int .i64 (if b then 1 else 0), .string ⟨#[]⟩]) ∧ Below W.heap.size W w') := truth_any
 generalize decide (vNull ∈ l) = B at *
 clear hv hm
 go_enter Tryz.func194, Tryz.ntmps194
 go_wp2_with fail
 refine (HN.out _ (xbel1 _ _)).mono ?_
 rintro e w1 ⟨rfl, hb1⟩
 have HB1 : Hid (Below (w.alloc (.cells #[.int .i64 0, .int .i64 0, .string ⟨#[]⟩] 42)).heap.size (w.alloc (.cells #[.int .i64 0, .int .i64 0, .string ⟨#[]⟩] 42)) w1) := hb1
 clear hb1 HN
 go_wp2_with fail
 refine (HO.out _ _).mono ?_
 rintro e w2 ⟨rfl, hb2'⟩
 have hb2 := HB1.out.trans (hb2'.mono HB1.out.size)
 generalize hX : (if B = true then (1 : Int) else 0) = X at *
 have HX : Hid ((if B = true then (1 : Int) else 0) = X) := hX
 clear hb2' HO hX
 obtain ⟨hO, hB⟩ := resAt hb2
 have q0 : w2.cell? ⟨w.heap.size, 0, none⟩ = some (.int .i64 0) := by rw [hO.cell 0 (by decide)]; rfl
 have q1 : w2.cell? ⟨w.heap.size, 1, none⟩ = some (.int .i64 0) := by rw [hO.cell 1 (by decide)]; rfl
 have q2 : w2.cell? ⟨w.heap.size, 2, none⟩ = some (.string ⟨#[]⟩) := by rw [hO.cell 2 (by decide)]; rfl
 have qf0 : w2.frozen? ⟨w.heap.size, 0, none⟩ = false := hO.soft 0
 have qf1 : w2.frozen? ⟨w.heap.size, 1, none⟩ = false := hO.soft 1
 have qf2 : w2.frozen? ⟨w.heap.size, 2, none⟩ = false := hO.soft 2
 have hl := hO.lt
 have HB : Hid (Below w.heap.size w w2) := hB
 clear hb2 hO hB
 go_wp2_with fail
 exact bodyPost_ret (v := .agg #[.int .i64 2, .int .i64 X, .string ⟨#[]⟩]) (by simp [results, Tryz.results194, go_sem, q0, q1, q2, hl]; try rfl) rfl ⟨by rw [← HX.out]; rfl, resB HB.out _ _ _⟩

end Go.Proofs.YtckdmmfmnhcabaaGreatDoor
namespace Go.Proofs.YtckdmmfmnhcabaaGreatDoor
open Go.RowKit
set_option linter.unusedVariables false
set_option linter.unusedSimpArgs false
set_option maxRecDepth 100000
attribute [local go_sem ↓] neqlV eqlV
attribute [local go_sem] guardV

set_option maxHeartbeats 4000000 in
theorem decF (B : Bool) (l : List Vl) (a : Option Addr) (c p : Nat) (w : World) (hv : VsAt w a l) (hm : l.length ≤ maxLen) (hp : w.cell? ⟨p, 0, none⟩ = some (.bool B)) :
   Calls Tryz.prog 151 #[.slice a l.length c, .pointer (some ⟨p, 0, none⟩)] w fun e w' => e = .returned (vV (if vTru B ∈ l then vTru B else if vNull ∈ l then vNull else vTru (!B))) ∧ Below w.heap.size w w' := by
 have HT : Hid (∀ b W, Calls Tryz.prog 86 #[.bool b] W fun e w' => e = .returned (.agg #[.int .i64 2, .int .i64 (if b then 1 else 0), .string ⟨#[]⟩]) ∧ Below W.heap.size W w') := truth_any
 have HN : Hid (∀ W, Below w.heap.size w W → Calls Tryz.prog 153 #[.slice a l.length c] W fun e w' => e = .returned (.bool (decide (vNull ∈ l))) ∧ Below W.heap.size W w') := fun W hW => hasNull_any a c l W (hv.later hW) hm
 have HI : Hid (∀ W, Below w.heap.size w W → Calls Tryz.prog 152 #[.slice a l.length c, .agg #[.int .i64 2, .int .i64 (if B then 1 else 0), .string ⟨#[]⟩]] W fun e w' => e = .returned (.bool (decide (vTru B ∈ l))) ∧ Below W.heap.size W w') := fun W hW => contains_any (vTru B) a c l W (hv.later hW) hm
 have hpl2 : p < w.heap.size := World.block_lt_of_cell? _ _ hp
 clear hv hm
 generalize hX : (if B = true then (1 : Int) else 0) = X at *
 have HX := Vc.hidMk hX
 clear hX
 have HTB : Hid (∀ W, Calls Tryz.prog 86 #[.bool B] W fun e w' => e = .returned (.agg #[.int .i64 2, .int .i64 X, .string ⟨#[]⟩]) ∧ Below W.heap.size W w') := fun W => by rw [← HX.out]; exact HT.out B W
 have CELLS : ∀ W, Own W w.heap.size 42 3 [.int .i64 0, .int .i64 0, .string ⟨#[]⟩] → (W.cell? ⟨w.heap.size, 0, none⟩ = some (.int .i64 0) ∧ W.cell? ⟨w.heap.size, 1, none⟩ = some (.int .i64 0) ∧ W.cell? ⟨w.heap.size, 2, none⟩ = some (.string ⟨#[]⟩) ∧ W.frozen? ⟨w.heap.size, 0, none⟩ = false ∧ W.frozen? ⟨w.heap.size, 1, none⟩ = false ∧ W.frozen? ⟨w.heap.size, 2, none⟩ = false ∧ w.heap.size < W.heap.size) := fun W hO => ⟨hO.cell 0 (by decide), hO.cell 1 (by decide), hO.cell 2 (by decide), hO.soft 0, hO.soft 1, hO.soft 2, hO.lt⟩
 have HCE := Vc.hidMk CELLS
 clear CELLS
 by_cases hin : vTru B ∈ l
 · rw [if_pos hin]
   rw [decide_eq_true hin] at HI
   clear hin HN
   go_enter Tryz.func151, Tryz.ntmps151
   go_wp2_with fail
   refine (HTB.out _).mono ?_
   rintro e w1 ⟨rfl, hb1⟩
   have HB1 : Hid (Below w.heap.size w w1) := (xbel1 w _).trans (hb1.mono (by simp))
   have HO1 : Hid (Own w1 w.heap.size 42 3 [.int .i64 0, .int .i64 0, .string ⟨#[]⟩]) := (Own.new w 42 3 #[.int .i64 0, .int .i64 0, .string ⟨#[]⟩] rfl).later hb1
   clear hb1
   go_wp2_with fail
   refine (HI.out _ HB1.out).mono ?_
   rintro e w2 ⟨rfl, hb2⟩
   have HB2 : Hid (Below w.heap.size w w2) := HB1.out.trans (hb2.mono HB1.out.size)
   have HO2 := Vc.hidMk (HO1.out.later hb2)
   have hp2 := xcell HB2.out hp
   clear hb2 HB1 HO1 HI
   go_wp2_with fail
   refine (HTB.out _).mono ?_
   rintro e w3 ⟨rfl, hb3⟩
   have HB : Hid (Below w.heap.size w w3) := HB2.out.trans (hb3.mono HB2.out.size)
   obtain ⟨q0, q1, q2, qf0, qf1, qf2, hl⟩ := HCE.out w3 (HO2.out.later hb3)
   clear hb3 HB2 HO2 HCE HTB HT
   go_wp2_with fail
   exact bodyPost_ret (v := .agg #[.int .i64 2, .int .i64 X, .string ⟨#[]⟩]) (by simp [results, Tryz.results151, go_sem, q0, q1, q2, hl]; try rfl) rfl ⟨by rw [← HX.out]; rfl, resB HB.out _ _ _⟩
 · rw [if_neg hin]
   rw [decide_eq_false hin] at HI
   clear hin
   by_cases hnl : vNull ∈ l
   · rw [if_pos hnl]
     rw [decide_eq_true hnl] at HN
     clear hnl
     go_enter Tryz.func151, Tryz.ntmps151
     go_wp2_with fail
     refine (HTB.out _).mono ?_
     rintro e w1 ⟨rfl, hb1⟩
     have HB1 : Hid (Below w.heap.size w w1) := (xbel1 w _).trans (hb1.mono (by simp))
     have HO1 : Hid (Own w1 w.heap.size 42 3 [.int .i64 0, .int .i64 0, .string ⟨#[]⟩]) := (Own.new w 42 3 #[.int .i64 0, .int .i64 0, .string ⟨#[]⟩] rfl).later hb1
     clear hb1
     go_wp2_with fail
     refine (HI.out _ HB1.out).mono ?_
     rintro e w2 ⟨rfl, hb2⟩
     have HB2 : Hid (Below w.heap.size w w2) := HB1.out.trans (hb2.mono HB1.out.size)
     have HO2 := Vc.hidMk (HO1.out.later hb2)
     have hp2 := xcell HB2.out hp
     clear hb2 HB1 HO1 HI
     clear HTB
     go_wp2_with fail
     refine (HN.out _ HB2.out).mono ?_
     rintro e w3 ⟨rfl, hb3⟩
     have HB3 : Hid (Below w.heap.size w w3) := HB2.out.trans (hb3.mono HB2.out.size)
     have HO3 := Vc.hidMk (HO2.out.later hb3)
     have hp3 := xcell hb3 hp2
     clear hb3 HB2 HO2 HN hp2
     obtain ⟨q0, q1, q2, qf0, qf1, qf2, hl⟩ := HCE.out w3 HO3.out
     clear HCE HT HO3
     go_wp2_with fail
     exact bodyPost_ret (v := .agg #[.int .i64 0, .int .i64 0, .string ⟨#[]⟩]) (by simp [results, Tryz.results151, go_sem, q0, q1, q2, hl]; try rfl) rfl ⟨rfl, by first | exact resB HB3.out _ _ _ | exact HB3.out⟩
   · rw [if_neg hnl]
     rw [decide_eq_false hnl] at HN
     clear hnl
     go_enter Tryz.func151, Tryz.ntmps151
     go_wp2_with fail
     refine (HTB.out _).mono ?_
     rintro e w1 ⟨rfl, hb1⟩
     have HB1 : Hid (Below w.heap.size w w1) := (xbel1 w _).trans (hb1.mono (by simp))
     have HO1 : Hid (Own w1 w.heap.size 42 3 [.int .i64 0, .int .i64 0, .string ⟨#[]⟩]) := (Own.new w 42 3 #[.int .i64 0, .int .i64 0, .string ⟨#[]⟩] rfl).later hb1
     clear hb1
     go_wp2_with fail
     refine (HI.out _ HB1.out).mono ?_
     rintro e w2 ⟨rfl, hb2⟩
     have HB2 : Hid (Below w.heap.size w w2) := HB1.out.trans (hb2.mono HB1.out.size)
     have HO2 := Vc.hidMk (HO1.out.later hb2)
     have hp2 := xcell HB2.out hp
     clear hb2 HB1 HO1 HI
     clear HTB
     go_wp2_with fail
     refine (HN.out _ HB2.out).mono ?_
     rintro e w3 ⟨rfl, hb3⟩
     have HB3 : Hid (Below w.heap.size w w3) := HB2.out.trans (hb3.mono HB2.out.size)
     have HO3 := Vc.hidMk (HO2.out.later hb3)
     have hp3 := xcell hb3 hp2
     clear hb3 HB2 HO2 HN hp2
     obtain ⟨Y, hY⟩ : ∃ Y, Y = (if (!B) = true then (1 : Int) else 0) := ⟨_, rfl⟩
     have HY := Vc.hidMk hY
     have HTC : Hid (∀ W, Calls Tryz.prog 86 #[.bool (!B)] W fun e w' => e = .returned (.agg #[.int .i64 2, .int .i64 Y, .string ⟨#[]⟩]) ∧ Below W.heap.size W w') := fun W => by rw [hY]; exact HT.out (!B) W
     clear hY HT
     go_wp2_with fail
     refine (HTC.out _).mono ?_
     rintro e w4 ⟨rfl, hb4⟩
     have HB : Hid (Below w.heap.size w w4) := HB3.out.trans (hb4.mono HB3.out.size)
     obtain ⟨q0, q1, q2, qf0, qf1, qf2, hl⟩ := HCE.out w4 (HO3.out.later hb4)
     clear hb4 HB3 HO3 HCE HTC
     go_wp2_with fail
     exact bodyPost_ret (v := .agg #[.int .i64 2, .int .i64 Y, .string ⟨#[]⟩]) (by simp [results, Tryz.results151, go_sem, q0, q1, q2, hl]; try rfl) rfl ⟨by rw [HY.out]; rfl, resB HB.out _ _ _⟩
end Go.Proofs.YtckdmmfmnhcabaaGreatDoor
namespace Go.Proofs.YtckdmmfmnhcabaaGreatDoor
open Go.RowKit
set_option linter.unusedVariables false
set_option linter.unusedSimpArgs false
set_option maxRecDepth 100000
attribute [local go_sem ↓] neqlV eqlV
attribute [local go_sem] guardV

set_option maxHeartbeats 4000000 in
theorem notF (x : Vl) (a : Option Addr) (c : Nat) (w : World) (hv : VsAt w a [x]) :
   Calls Tryz.prog 169 #[.slice a 1 c] w fun e w' => e = .returned (vV (vTru (decide (x = vTru false)))) ∧ Below w.heap.size w w' := by
 obtain ⟨b, off, rfl, h0, h1, h2⟩ := hv 0 (by simp)
 simp only [List.getElem_cons_zero, List.getElem_cons_succ, Nat.zero_mul, Nat.add_zero, Nat.one_mul] at h0 h1 h2
 have hbl2 : b < w.heap.size := World.block_lt_of_cell? _ _ h1
 have HC0 : Hid (∀ W : World, (W.cell? ⟨b, off, none⟩ = some (.int .i64 x.k) ∧ W.cell? ⟨b, off + 1, none⟩ = some (.int .i64 x.n) ∧ W.cell? ⟨b, off + 2, none⟩ = some (.string x.t) ∧ W.cell? ⟨w.heap.size, 0, none⟩ = some (.int .i64 0) ∧ W.cell? ⟨w.heap.size, 1, none⟩ = some (.int .i64 0) ∧ W.cell? ⟨w.heap.size, 2, none⟩ = some (.string ⟨#[]⟩) ∧ W.frozen? ⟨w.heap.size, 0, none⟩ = false ∧ W.frozen? ⟨w.heap.size, 1, none⟩ = false ∧ W.frozen? ⟨w.heap.size, 2, none⟩ = false ∧ w.heap.size < W.heap.size ∧ Below w.heap.size w W) → Calls Tryz.prog 86 #[.bool false] W fun e w' => e = .returned (.agg #[.int .i64 2, .int .i64 0, .string ⟨#[]⟩]) ∧ (w'.cell? ⟨b, off, none⟩ = some (.int .i64 x.k) ∧ w'.cell? ⟨b, off + 1, none⟩ = some (.int .i64 x.n) ∧ w'.cell? ⟨b, off + 2, none⟩ = some (.string x.t) ∧ w'.cell? ⟨w.heap.size, 0, none⟩ = some (.int .i64 0) ∧ w'.cell? ⟨w.heap.size, 1, none⟩ = some (.int .i64 0) ∧ w'.cell? ⟨w.heap.size, 2, none⟩ = some (.string ⟨#[]⟩) ∧ w'.frozen? ⟨w.heap.size, 0, none⟩ = false ∧ w'.frozen? ⟨w.heap.size, 1, none⟩ = false ∧ w'.frozen? ⟨w.heap.size, 2, none⟩ = false ∧ w.heap.size < w'.heap.size ∧ Below w.heap.size w w')) := fun W h => (truth_any false W).mono (by rintro e w' ⟨he, hb⟩; exact ⟨he, ⟨xcell hb h.1, xcell hb h.2.1, xcell hb h.2.2.1, xcell hb h.2.2.2.1, xcell hb h.2.2.2.2.1, xcell hb h.2.2.2.2.2.1, xfroz hb h.2.2.2.2.2.2.2.2.2.1 h.2.2.2.2.2.2.1, xfroz hb h.2.2.2.2.2.2.2.2.2.1 h.2.2.2.2.2.2.2.1, xfroz hb h.2.2.2.2.2.2.2.2.2.1 h.2.2.2.2.2.2.2.2.1, Nat.lt_of_lt_of_le h.2.2.2.2.2.2.2.2.2.1 hb.size, h.2.2.2.2.2.2.2.2.2.2.trans (hb.mono (Nat.le_of_lt h.2.2.2.2.2.2.2.2.2.1))⟩⟩)
 have HC1 : Hid (∀ W : World, (W.cell? ⟨b, off, none⟩ = some (.int .i64 x.k) ∧ W.cell? ⟨b, off + 1, none⟩ = some (.int .i64 x.n) ∧ W.cell? ⟨b, off + 2, none⟩ = some (.string x.t) ∧ W.cell? ⟨w.heap.size, 0, none⟩ = some (.int .i64 0) ∧ W.cell? ⟨w.heap.size, 1, none⟩ = some (.int .i64 0) ∧ W.cell? ⟨w.heap.size, 2, none⟩ = some (.string ⟨#[]⟩) ∧ W.frozen? ⟨w.heap.size, 0, none⟩ = false ∧ W.frozen? ⟨w.heap.size, 1, none⟩ = false ∧ W.frozen? ⟨w.heap.size, 2, none⟩ = false ∧ w.heap.size < W.heap.size ∧ Below w.heap.size w W) → Calls Tryz.prog 86 #[.bool true] W fun e w' => e = .returned (.agg #[.int .i64 2, .int .i64 1, .string ⟨#[]⟩]) ∧ (w'.cell? ⟨b, off, none⟩ = some (.int .i64 x.k) ∧ w'.cell? ⟨b, off + 1, none⟩ = some (.int .i64 x.n) ∧ w'.cell? ⟨b, off + 2, none⟩ = some (.string x.t) ∧ w'.cell? ⟨w.heap.size, 0, none⟩ = some (.int .i64 0) ∧ w'.cell? ⟨w.heap.size, 1, none⟩ = some (.int .i64 0) ∧ w'.cell? ⟨w.heap.size, 2, none⟩ = some (.string ⟨#[]⟩) ∧ w'.frozen? ⟨w.heap.size, 0, none⟩ = false ∧ w'.frozen? ⟨w.heap.size, 1, none⟩ = false ∧ w'.frozen? ⟨w.heap.size, 2, none⟩ = false ∧ w.heap.size < w'.heap.size ∧ Below w.heap.size w w')) := fun W h => (truth_any true W).mono (by rintro e w' ⟨he, hb⟩; exact ⟨he, ⟨xcell hb h.1, xcell hb h.2.1, xcell hb h.2.2.1, xcell hb h.2.2.2.1, xcell hb h.2.2.2.2.1, xcell hb h.2.2.2.2.2.1, xfroz hb h.2.2.2.2.2.2.2.2.2.1 h.2.2.2.2.2.2.1, xfroz hb h.2.2.2.2.2.2.2.2.2.1 h.2.2.2.2.2.2.2.1, xfroz hb h.2.2.2.2.2.2.2.2.2.1 h.2.2.2.2.2.2.2.2.1, Nat.lt_of_lt_of_le h.2.2.2.2.2.2.2.2.2.1 hb.size, h.2.2.2.2.2.2.2.2.2.2.trans (hb.mono (Nat.le_of_lt h.2.2.2.2.2.2.2.2.2.1))⟩⟩)
 have he : eqB x.k x.n x.t 2 0 ⟨#[]⟩ = decide (x = vTru false) := eqB_iff x (vTru false)
 clear hv
 obtain ⟨W1, hW1⟩ : ∃ W1, W1 = w.alloc (.cells #[.int .i64 0, .int .i64 0, .string ⟨#[]⟩] 42) := ⟨_, rfl⟩
 have HS0 : Hid (W1.cell? ⟨b, off, none⟩ = some (.int .i64 x.k) ∧ W1.cell? ⟨b, off + 1, none⟩ = some (.int .i64 x.n) ∧ W1.cell? ⟨b, off + 2, none⟩ = some (.string x.t) ∧ W1.cell? ⟨w.heap.size, 0, none⟩ = some (.int .i64 0) ∧ W1.cell? ⟨w.heap.size, 1, none⟩ = some (.int .i64 0) ∧ W1.cell? ⟨w.heap.size, 2, none⟩ = some (.string ⟨#[]⟩) ∧ W1.frozen? ⟨w.heap.size, 0, none⟩ = false ∧ W1.frozen? ⟨w.heap.size, 1, none⟩ = false ∧ W1.frozen? ⟨w.heap.size, 2, none⟩ = false ∧ w.heap.size < W1.heap.size ∧ Below w.heap.size w W1) := by
   unfold Hid
   have hO : Own W1 w.heap.size 42 3 [.int .i64 0, .int .i64 0, .string ⟨#[]⟩] := by rw [hW1]; exact Own.new w 42 3 #[.int .i64 0, .int .i64 0, .string ⟨#[]⟩] rfl
   have hb : Below w.heap.size w W1 := by rw [hW1]; exact xbel1 _ _
   exact ⟨xcell hb h0, xcell hb h1, xcell hb h2, hO.cell 0 (by decide), hO.cell 1 (by decide), hO.cell 2 (by decide), hO.soft 0, hO.soft 1, hO.soft 2, hO.lt, hb⟩
 clear h0 h1 h2
 cases hd : decide (x = vTru false) with
 | false =>
   rw [hd] at he
   go_enter Tryz.func169, Tryz.ntmps169
   go_wp2_with fail
   rw [← hW1]
   clear hW1 hd
   obtain ⟨k0, k1, k2, q0, q1, q2, qf0, qf1, qf2, hl, HB⟩ := HS0.out
   go_region_with (first
     | (go_at_call 86; refine (HC0.out _ (by first | exact hKP | exact ⟨HS0.out.1, HS0.out.2.1, HS0.out.2.2.1, HS0.out.2.2.2.1, HS0.out.2.2.2.2.1, HS0.out.2.2.2.2.2.1, HS0.out.2.2.2.2.2.2.1, HS0.out.2.2.2.2.2.2.2.1, HS0.out.2.2.2.2.2.2.2.2.1, HS0.out.2.2.2.2.2.2.2.2.2.1, HS0.out.2.2.2.2.2.2.2.2.2.2.drew⟩)).mono ?_; rintro e w' ⟨rfl, hKP⟩; have hKQ := hKP; obtain ⟨k0, k1, k2, q0, q1, q2, qf0, qf1, qf2, hl, HB⟩ := hKQ)
     | (go_at_call 86; refine (HC1.out _ (by first | exact hKP | exact ⟨HS0.out.1, HS0.out.2.1, HS0.out.2.2.1, HS0.out.2.2.2.1, HS0.out.2.2.2.2.1, HS0.out.2.2.2.2.2.1, HS0.out.2.2.2.2.2.2.1, HS0.out.2.2.2.2.2.2.2.1, HS0.out.2.2.2.2.2.2.2.2.1, HS0.out.2.2.2.2.2.2.2.2.2.1, HS0.out.2.2.2.2.2.2.2.2.2.2.drew⟩)).mono ?_; rintro e w' ⟨rfl, hKP⟩; have hKQ := hKP; obtain ⟨k0, k1, k2, q0, q1, q2, qf0, qf1, qf2, hl, HB⟩ := hKQ))
   all_goals
     go_wp2
     exact bodyPost_ret (v := .agg #[.int .i64 2, .int .i64 0, .string ⟨#[]⟩]) (by simp [results, Tryz.results169, go_sem, q0, q1, q2, hl]; try rfl) rfl ⟨rfl, resB HB _ _ _⟩
 | true =>
   rw [hd] at he
   go_enter Tryz.func169, Tryz.ntmps169
   go_wp2_with fail
   rw [← hW1]
   clear hW1 hd
   obtain ⟨k0, k1, k2, q0, q1, q2, qf0, qf1, qf2, hl, HB⟩ := HS0.out
   go_region_with (first
     | (go_at_call 86; refine (HC0.out _ (by first | exact hKP | exact ⟨HS0.out.1, HS0.out.2.1, HS0.out.2.2.1, HS0.out.2.2.2.1, HS0.out.2.2.2.2.1, HS0.out.2.2.2.2.2.1, HS0.out.2.2.2.2.2.2.1, HS0.out.2.2.2.2.2.2.2.1, HS0.out.2.2.2.2.2.2.2.2.1, HS0.out.2.2.2.2.2.2.2.2.2.1, HS0.out.2.2.2.2.2.2.2.2.2.2.drew⟩)).mono ?_; rintro e w' ⟨rfl, hKP⟩; have hKQ := hKP; obtain ⟨k0, k1, k2, q0, q1, q2, qf0, qf1, qf2, hl, HB⟩ := hKQ)
     | (go_at_call 86; refine (HC1.out _ (by first | exact hKP | exact ⟨HS0.out.1, HS0.out.2.1, HS0.out.2.2.1, HS0.out.2.2.2.1, HS0.out.2.2.2.2.1, HS0.out.2.2.2.2.2.1, HS0.out.2.2.2.2.2.2.1, HS0.out.2.2.2.2.2.2.2.1, HS0.out.2.2.2.2.2.2.2.2.1, HS0.out.2.2.2.2.2.2.2.2.2.1, HS0.out.2.2.2.2.2.2.2.2.2.2.drew⟩)).mono ?_; rintro e w' ⟨rfl, hKP⟩; have hKQ := hKP; obtain ⟨k0, k1, k2, q0, q1, q2, qf0, qf1, qf2, hl, HB⟩ := hKQ))
   all_goals
     go_wp2
     exact bodyPost_ret (v := .agg #[.int .i64 2, .int .i64 1, .string ⟨#[]⟩]) (by simp [results, Tryz.results169, go_sem, q0, q1, q2, hl]; try rfl) rfl ⟨rfl, resB HB _ _ _⟩
end Go.Proofs.YtckdmmfmnhcabaaGreatDoor
namespace Go.Proofs.YtckdmmfmnhcabaaGreatDoor
open Go.RowKit
set_option linter.unusedVariables false
set_option linter.unusedSimpArgs false
set_option maxRecDepth 100000
attribute [local go_sem ↓] neqlV eqlV
attribute [local go_sem] guardV

set_option maxHeartbeats 4000000 in
theorem catF (x y : Vl) (a : Option Addr) (c : Nat) (w : World) (hv : VsAt w a [x, y]) (hx : x.t.size ≤ 1000) (hy : y.t.size ≤ 1000) :
   Calls Tryz.prog 135 #[.slice a 2 c] w fun e w' => e = .returned (vV (vTxt (cutX (x.t ++ y.t) 60))) ∧ Below w.heap.size w w' := by
 obtain ⟨b, off, rfl, h0, h1, h2⟩ := hv 0 (by simp)
 obtain ⟨b', off', hh, g0, g1, g2⟩ := hv 1 (by simp)
 cases hh
 simp only [List.getElem_cons_zero, List.getElem_cons_succ, Nat.zero_mul, Nat.add_zero, Nat.one_mul] at h0 h1 h2 g0 g1 g2
 have hbl2 : b < w.heap.size := World.block_lt_of_cell? _ _ h1
 clear hv
 have hj : (9223372036854775807 < x.t.size + y.t.size) = False := by simp; omega
 have HK : Hid (∀ W : World, (W.cell? ⟨b, off, none⟩ = some (.int .i64 x.k) ∧ W.cell? ⟨b, off + 1, none⟩ = some (.int .i64 x.n) ∧ W.cell? ⟨b, off + 2, none⟩ = some (.string x.t) ∧ W.cell? ⟨b, off + 3, none⟩ = some (.int .i64 y.k) ∧ W.cell? ⟨b, off + 3 + 1, none⟩ = some (.int .i64 y.n) ∧ W.cell? ⟨b, off + 3 + 2, none⟩ = some (.string y.t) ∧ W.cell? ⟨w.heap.size, 0, none⟩ = some (.int .i64 0) ∧ W.cell? ⟨w.heap.size, 1, none⟩ = some (.int .i64 0) ∧ W.cell? ⟨w.heap.size, 2, none⟩ = some (.string ⟨#[]⟩) ∧ W.frozen? ⟨w.heap.size, 0, none⟩ = false ∧ W.frozen? ⟨w.heap.size, 1, none⟩ = false ∧ W.frozen? ⟨w.heap.size, 2, none⟩ = false ∧ w.heap.size < W.heap.size ∧ Below w.heap.size w W) → Calls Tryz.prog 136 #[.string (x.t ++ y.t), .int .i64 60] W fun e w' => e = .returned (.string (cutX (x.t ++ y.t) 60)) ∧ (w'.cell? ⟨b, off, none⟩ = some (.int .i64 x.k) ∧ w'.cell? ⟨b, off + 1, none⟩ = some (.int .i64 x.n) ∧ w'.cell? ⟨b, off + 2, none⟩ = some (.string x.t) ∧ w'.cell? ⟨b, off + 3, none⟩ = some (.int .i64 y.k) ∧ w'.cell? ⟨b, off + 3 + 1, none⟩ = some (.int .i64 y.n) ∧ w'.cell? ⟨b, off + 3 + 2, none⟩ = some (.string y.t) ∧ w'.cell? ⟨w.heap.size, 0, none⟩ = some (.int .i64 0) ∧ w'.cell? ⟨w.heap.size, 1, none⟩ = some (.int .i64 0) ∧ w'.cell? ⟨w.heap.size, 2, none⟩ = some (.string ⟨#[]⟩) ∧ w'.frozen? ⟨w.heap.size, 0, none⟩ = false ∧ w'.frozen? ⟨w.heap.size, 1, none⟩ = false ∧ w'.frozen? ⟨w.heap.size, 2, none⟩ = false ∧ w.heap.size < w'.heap.size ∧ Below w.heap.size w w')) := fun W h => (cutF_any _ _ W (by rw [ByteArray.size_append]; omega) (by omega)).mono (by rintro e w' ⟨he, hw⟩; subst hw; exact ⟨he, h⟩)
 generalize cutX (x.t ++ y.t) 60 = R at *
 have HW1 : Hid (∀ W : World, (W.cell? ⟨b, off, none⟩ = some (.int .i64 x.k) ∧ W.cell? ⟨b, off + 1, none⟩ = some (.int .i64 x.n) ∧ W.cell? ⟨b, off + 2, none⟩ = some (.string x.t) ∧ W.cell? ⟨b, off + 3, none⟩ = some (.int .i64 y.k) ∧ W.cell? ⟨b, off + 3 + 1, none⟩ = some (.int .i64 y.n) ∧ W.cell? ⟨b, off + 3 + 2, none⟩ = some (.string y.t) ∧ W.cell? ⟨w.heap.size, 0, none⟩ = some (.int .i64 0) ∧ W.cell? ⟨w.heap.size, 1, none⟩ = some (.int .i64 0) ∧ W.cell? ⟨w.heap.size, 2, none⟩ = some (.string ⟨#[]⟩) ∧ W.frozen? ⟨w.heap.size, 0, none⟩ = false ∧ W.frozen? ⟨w.heap.size, 1, none⟩ = false ∧ W.frozen? ⟨w.heap.size, 2, none⟩ = false ∧ w.heap.size < W.heap.size ∧ Below w.heap.size w W) → Calls Tryz.prog 87 #[.string R] W fun e w' => e = .returned (.agg #[.int .i64 3, .int .i64 0, .string R]) ∧ (w'.cell? ⟨b, off, none⟩ = some (.int .i64 x.k) ∧ w'.cell? ⟨b, off + 1, none⟩ = some (.int .i64 x.n) ∧ w'.cell? ⟨b, off + 2, none⟩ = some (.string x.t) ∧ w'.cell? ⟨b, off + 3, none⟩ = some (.int .i64 y.k) ∧ w'.cell? ⟨b, off + 3 + 1, none⟩ = some (.int .i64 y.n) ∧ w'.cell? ⟨b, off + 3 + 2, none⟩ = some (.string y.t) ∧ w'.cell? ⟨w.heap.size, 0, none⟩ = some (.int .i64 0) ∧ w'.cell? ⟨w.heap.size, 1, none⟩ = some (.int .i64 0) ∧ w'.cell? ⟨w.heap.size, 2, none⟩ = some (.string ⟨#[]⟩) ∧ w'.frozen? ⟨w.heap.size, 0, none⟩ = false ∧ w'.frozen? ⟨w.heap.size, 1, none⟩ = false ∧ w'.frozen? ⟨w.heap.size, 2, none⟩ = false ∧ w.heap.size < w'.heap.size ∧ Below w.heap.size w w')) := fun W h => (words_any R W).mono (by rintro e w' ⟨he, hb⟩; exact ⟨he, ⟨xcell hb h.1, xcell hb h.2.1, xcell hb h.2.2.1, xcell hb h.2.2.2.1, xcell hb h.2.2.2.2.1, xcell hb h.2.2.2.2.2.1, xcell hb h.2.2.2.2.2.2.1, xcell hb h.2.2.2.2.2.2.2.1, xcell hb h.2.2.2.2.2.2.2.2.1, xfroz hb h.2.2.2.2.2.2.2.2.2.2.2.2.1 h.2.2.2.2.2.2.2.2.2.1, xfroz hb h.2.2.2.2.2.2.2.2.2.2.2.2.1 h.2.2.2.2.2.2.2.2.2.2.1, xfroz hb h.2.2.2.2.2.2.2.2.2.2.2.2.1 h.2.2.2.2.2.2.2.2.2.2.2.1, Nat.lt_of_lt_of_le h.2.2.2.2.2.2.2.2.2.2.2.2.1 hb.size, h.2.2.2.2.2.2.2.2.2.2.2.2.2.trans (hb.mono (Nat.le_of_lt h.2.2.2.2.2.2.2.2.2.2.2.2.1))⟩⟩)
 obtain ⟨W1, hW1⟩ : ∃ W1, W1 = w.alloc (.cells #[.int .i64 0, .int .i64 0, .string ⟨#[]⟩] 42) := ⟨_, rfl⟩
 have HS0 : Hid (W1.cell? ⟨b, off, none⟩ = some (.int .i64 x.k) ∧ W1.cell? ⟨b, off + 1, none⟩ = some (.int .i64 x.n) ∧ W1.cell? ⟨b, off + 2, none⟩ = some (.string x.t) ∧ W1.cell? ⟨b, off + 3, none⟩ = some (.int .i64 y.k) ∧ W1.cell? ⟨b, off + 3 + 1, none⟩ = some (.int .i64 y.n) ∧ W1.cell? ⟨b, off + 3 + 2, none⟩ = some (.string y.t) ∧ W1.cell? ⟨w.heap.size, 0, none⟩ = some (.int .i64 0) ∧ W1.cell? ⟨w.heap.size, 1, none⟩ = some (.int .i64 0) ∧ W1.cell? ⟨w.heap.size, 2, none⟩ = some (.string ⟨#[]⟩) ∧ W1.frozen? ⟨w.heap.size, 0, none⟩ = false ∧ W1.frozen? ⟨w.heap.size, 1, none⟩ = false ∧ W1.frozen? ⟨w.heap.size, 2, none⟩ = false ∧ w.heap.size < W1.heap.size ∧ Below w.heap.size w W1) := by
   unfold Hid
   have hO : Own W1 w.heap.size 42 3 [.int .i64 0, .int .i64 0, .string ⟨#[]⟩] := by rw [hW1]; exact Own.new w 42 3 #[.int .i64 0, .int .i64 0, .string ⟨#[]⟩] rfl
   have hb : Below w.heap.size w W1 := by rw [hW1]; exact xbel1 _ _
   exact ⟨xcell hb h0, xcell hb h1, xcell hb h2, xcell hb g0, xcell hb g1, xcell hb g2, hO.cell 0 (by decide), hO.cell 1 (by decide), hO.cell 2 (by decide), hO.soft 0, hO.soft 1, hO.soft 2, hO.lt, hb⟩
 clear h0 h1 h2 g0 g1 g2
 go_enter Tryz.func135, Tryz.ntmps135
 go_wp2_with fail
 rw [← hW1]
 clear hW1
 obtain ⟨k0, k1, k2, k3, k4, k5, q0, q1, q2, qf0, qf1, qf2, hl, HB⟩ := HS0.out
 go_region_with (first
   | (go_at_call 136; refine (HK.out _ (by first | exact hKP | exact ⟨HS0.out.1, HS0.out.2.1, HS0.out.2.2.1, HS0.out.2.2.2.1, HS0.out.2.2.2.2.1, HS0.out.2.2.2.2.2.1, HS0.out.2.2.2.2.2.2.1, HS0.out.2.2.2.2.2.2.2.1, HS0.out.2.2.2.2.2.2.2.2.1, HS0.out.2.2.2.2.2.2.2.2.2.1, HS0.out.2.2.2.2.2.2.2.2.2.2.1, HS0.out.2.2.2.2.2.2.2.2.2.2.2.1, HS0.out.2.2.2.2.2.2.2.2.2.2.2.2.1, HS0.out.2.2.2.2.2.2.2.2.2.2.2.2.2.drew⟩)).mono ?_; rintro e w' ⟨rfl, hKP⟩; have hKQ := hKP; obtain ⟨k0, k1, k2, k3, k4, k5, q0, q1, q2, qf0, qf1, qf2, hl, HB⟩ := hKQ)
   | (go_at_call 87; refine (HW1.out _ (by first | exact hKP | exact ⟨HS0.out.1, HS0.out.2.1, HS0.out.2.2.1, HS0.out.2.2.2.1, HS0.out.2.2.2.2.1, HS0.out.2.2.2.2.2.1, HS0.out.2.2.2.2.2.2.1, HS0.out.2.2.2.2.2.2.2.1, HS0.out.2.2.2.2.2.2.2.2.1, HS0.out.2.2.2.2.2.2.2.2.2.1, HS0.out.2.2.2.2.2.2.2.2.2.2.1, HS0.out.2.2.2.2.2.2.2.2.2.2.2.1, HS0.out.2.2.2.2.2.2.2.2.2.2.2.2.1, HS0.out.2.2.2.2.2.2.2.2.2.2.2.2.2.drew⟩)).mono ?_; rintro e w' ⟨rfl, hKP⟩; have hKQ := hKP; obtain ⟨k0, k1, k2, k3, k4, k5, q0, q1, q2, qf0, qf1, qf2, hl, HB⟩ := hKQ))
 all_goals
   go_wp2
   exact bodyPost_ret (v := .agg #[.int .i64 3, .int .i64 0, .string R]) (by simp [results, Tryz.results135, go_sem, q0, q1, q2, hl]; try rfl) rfl ⟨rfl, resB HB _ _ _⟩
end Go.Proofs.YtckdmmfmnhcabaaGreatDoor
namespace Go.Proofs.YtckdmmfmnhcabaaGreatDoor
open Go.RowKit
set_option linter.unusedVariables false
set_option linter.unusedSimpArgs false
set_option maxRecDepth 100000
attribute [local go_sem ↓] neqlV eqlV
attribute [local go_sem] guardV

theorem wrapE (n : Int) : IntKind.i64.wrap n = wrap64 n := by
 unfold wrap64
 simp [IntKind.wrap, IntKind.bits, IntKind.signed]
 split <;> omega
set_option maxHeartbeats 4000000 in
theorem absF (x : Vl) (a : Option Addr) (c : Nat) (w : World) (hv : VsAt w a [x]) :
   Calls Tryz.prog 192 #[.slice a 1 c] w fun e w' => e = .returned (vV (vInt (max x.n (wrap64 (-x.n))))) ∧ Below w.heap.size w w' := by
 obtain ⟨b, off, rfl, h0, h1, h2⟩ := hv 0 (by simp)
 simp only [List.getElem_cons_zero, List.getElem_cons_succ, Nat.zero_mul, Nat.add_zero, Nat.one_mul] at h0 h1 h2
 have hbl2 : b < w.heap.size := World.block_lt_of_cell? _ _ h1
 clear hv
 have HC1 : Hid (∀ (R : Int) (W : World), (W.cell? ⟨b, off, none⟩ = some (.int .i64 x.k) ∧ W.cell? ⟨b, off + 1, none⟩ = some (.int .i64 x.n) ∧ W.cell? ⟨b, off + 2, none⟩ = some (.string x.t) ∧ W.cell? ⟨w.heap.size, 0, none⟩ = some (.int .i64 0) ∧ W.cell? ⟨w.heap.size, 1, none⟩ = some (.int .i64 0) ∧ W.cell? ⟨w.heap.size, 2, none⟩ = some (.string ⟨#[]⟩) ∧ W.frozen? ⟨w.heap.size, 0, none⟩ = false ∧ W.frozen? ⟨w.heap.size, 1, none⟩ = false ∧ W.frozen? ⟨w.heap.size, 2, none⟩ = false ∧ w.heap.size < W.heap.size ∧ Below w.heap.size w W) → Calls Tryz.prog 85 #[.int .i64 R] W fun e w' => e = .returned (.agg #[.int .i64 1, .int .i64 R, .string ⟨#[]⟩]) ∧ (w'.cell? ⟨b, off, none⟩ = some (.int .i64 x.k) ∧ w'.cell? ⟨b, off + 1, none⟩ = some (.int .i64 x.n) ∧ w'.cell? ⟨b, off + 2, none⟩ = some (.string x.t) ∧ w'.cell? ⟨w.heap.size, 0, none⟩ = some (.int .i64 0) ∧ w'.cell? ⟨w.heap.size, 1, none⟩ = some (.int .i64 0) ∧ w'.cell? ⟨w.heap.size, 2, none⟩ = some (.string ⟨#[]⟩) ∧ w'.frozen? ⟨w.heap.size, 0, none⟩ = false ∧ w'.frozen? ⟨w.heap.size, 1, none⟩ = false ∧ w'.frozen? ⟨w.heap.size, 2, none⟩ = false ∧ w.heap.size < w'.heap.size ∧ Below w.heap.size w w')) := fun R W h => (of_any R W).mono (by rintro e w' ⟨he, hb⟩; exact ⟨he, ⟨xcell hb h.1, xcell hb h.2.1, xcell hb h.2.2.1, xcell hb h.2.2.2.1, xcell hb h.2.2.2.2.1, xcell hb h.2.2.2.2.2.1, xfroz hb h.2.2.2.2.2.2.2.2.2.1 h.2.2.2.2.2.2.1, xfroz hb h.2.2.2.2.2.2.2.2.2.1 h.2.2.2.2.2.2.2.1, xfroz hb h.2.2.2.2.2.2.2.2.2.1 h.2.2.2.2.2.2.2.2.1, Nat.lt_of_lt_of_le h.2.2.2.2.2.2.2.2.2.1 hb.size, h.2.2.2.2.2.2.2.2.2.2.trans (hb.mono (Nat.le_of_lt h.2.2.2.2.2.2.2.2.2.1))⟩⟩)
 obtain ⟨W1, hW1⟩ : ∃ W1, W1 = w.alloc (.cells #[.int .i64 0, .int .i64 0, .string ⟨#[]⟩] 42) := ⟨_, rfl⟩
 have HS0 : Hid (W1.cell? ⟨b, off, none⟩ = some (.int .i64 x.k) ∧ W1.cell? ⟨b, off + 1, none⟩ = some (.int .i64 x.n) ∧ W1.cell? ⟨b, off + 2, none⟩ = some (.string x.t) ∧ W1.cell? ⟨w.heap.size, 0, none⟩ = some (.int .i64 0) ∧ W1.cell? ⟨w.heap.size, 1, none⟩ = some (.int .i64 0) ∧ W1.cell? ⟨w.heap.size, 2, none⟩ = some (.string ⟨#[]⟩) ∧ W1.frozen? ⟨w.heap.size, 0, none⟩ = false ∧ W1.frozen? ⟨w.heap.size, 1, none⟩ = false ∧ W1.frozen? ⟨w.heap.size, 2, none⟩ = false ∧ w.heap.size < W1.heap.size ∧ Below w.heap.size w W1) := by
   unfold Hid
   have hO : Own W1 w.heap.size 42 3 [.int .i64 0, .int .i64 0, .string ⟨#[]⟩] := by rw [hW1]; exact Own.new w 42 3 #[.int .i64 0, .int .i64 0, .string ⟨#[]⟩] rfl
   have hb : Below w.heap.size w W1 := by rw [hW1]; exact xbel1 _ _
   exact ⟨xcell hb h0, xcell hb h1, xcell hb h2, hO.cell 0 (by decide), hO.cell 1 (by decide), hO.cell 2 (by decide), hO.soft 0, hO.soft 1, hO.soft 2, hO.lt, hb⟩
 clear h0 h1 h2
 obtain ⟨R, hR⟩ : ∃ R, R = max x.n (wrap64 (-x.n)) := ⟨_, rfl⟩
 have HR := Vc.hidMk hR
 clear hR
 go_enter Tryz.func192, Tryz.ntmps192
 go_wp2_with fail
 rw [← hW1]
 clear hW1
 obtain ⟨k0, k1, k2, q0, q1, q2, qf0, qf1, qf2, hl, HB⟩ := HS0.out
 go_region_with (first
   | (go_at_call 85; refine (HC1.out _ _ (by first | exact hKP | exact ⟨HS0.out.1, HS0.out.2.1, HS0.out.2.2.1, HS0.out.2.2.2.1, HS0.out.2.2.2.2.1, HS0.out.2.2.2.2.2.1, HS0.out.2.2.2.2.2.2.1, HS0.out.2.2.2.2.2.2.2.1, HS0.out.2.2.2.2.2.2.2.2.1, HS0.out.2.2.2.2.2.2.2.2.2.1, HS0.out.2.2.2.2.2.2.2.2.2.2.drew⟩)).mono ?_; rintro e w' ⟨rfl, hKP⟩; have hKQ := hKP; obtain ⟨k0, k1, k2, q0, q1, q2, qf0, qf1, qf2, hl, HB⟩ := hKQ))
 all_goals
   go_wp2
   exact bodyPost_ret (v := .agg #[.int .i64 1, .int .i64 (max x.n (IntKind.i64.wrap (-x.n))), .string ⟨#[]⟩]) (by simp [results, Tryz.results192, go_sem, q0, q1, q2, hl]; try rfl) rfl ⟨by rw [show IntKind.i64.wrap (-x.n) = wrap64 (-x.n) from wrapE _]; rfl, resB HB _ _ _⟩
end Go.Proofs.YtckdmmfmnhcabaaGreatDoor
namespace Go.Proofs.YtckdmmfmnhcabaaGreatDoor
open Go.RowKit
set_option linter.unusedVariables false
set_option linter.unusedSimpArgs false
set_option maxRecDepth 100000
attribute [local go_sem ↓] neqlV eqlV
attribute [local go_sem] guardV

set_option maxHeartbeats 4000000 in
theorem cutF (x y : Vl) (a : Option Addr) (c : Nat) (w : World) (hv : VsAt w a [x, y]) (hx : x.t.size ≤ 1000) (hy : -9223372036854775808 ≤ y.n ∧ y.n ≤ 9223372036854775807) :
   Calls Tryz.prog 193 #[.slice a 2 c] w fun e w' => e = .returned (vV (vTxt (cutX x.t y.n))) ∧ Below w.heap.size w w' := by
 obtain ⟨b, off, rfl, h0, h1, h2⟩ := hv 0 (by simp)
 obtain ⟨b', off', hh, g0, g1, g2⟩ := hv 1 (by simp)
 cases hh
 simp only [List.getElem_cons_zero, List.getElem_cons_succ, Nat.zero_mul, Nat.add_zero, Nat.one_mul] at h0 h1 h2 g0 g1 g2
 have hbl2 : b < w.heap.size := World.block_lt_of_cell? _ _ h1
 clear hv
 have HK : Hid (∀ W : World, (W.cell? ⟨b, off, none⟩ = some (.int .i64 x.k) ∧ W.cell? ⟨b, off + 1, none⟩ = some (.int .i64 x.n) ∧ W.cell? ⟨b, off + 2, none⟩ = some (.string x.t) ∧ W.cell? ⟨b, off + 3, none⟩ = some (.int .i64 y.k) ∧ W.cell? ⟨b, off + 3 + 1, none⟩ = some (.int .i64 y.n) ∧ W.cell? ⟨b, off + 3 + 2, none⟩ = some (.string y.t) ∧ W.cell? ⟨w.heap.size, 0, none⟩ = some (.int .i64 0) ∧ W.cell? ⟨w.heap.size, 1, none⟩ = some (.int .i64 0) ∧ W.cell? ⟨w.heap.size, 2, none⟩ = some (.string ⟨#[]⟩) ∧ W.frozen? ⟨w.heap.size, 0, none⟩ = false ∧ W.frozen? ⟨w.heap.size, 1, none⟩ = false ∧ W.frozen? ⟨w.heap.size, 2, none⟩ = false ∧ w.heap.size < W.heap.size ∧ Below w.heap.size w W) → Calls Tryz.prog 136 #[.string x.t, .int .i64 y.n] W fun e w' => e = .returned (.string (cutX x.t y.n)) ∧ (w'.cell? ⟨b, off, none⟩ = some (.int .i64 x.k) ∧ w'.cell? ⟨b, off + 1, none⟩ = some (.int .i64 x.n) ∧ w'.cell? ⟨b, off + 2, none⟩ = some (.string x.t) ∧ w'.cell? ⟨b, off + 3, none⟩ = some (.int .i64 y.k) ∧ w'.cell? ⟨b, off + 3 + 1, none⟩ = some (.int .i64 y.n) ∧ w'.cell? ⟨b, off + 3 + 2, none⟩ = some (.string y.t) ∧ w'.cell? ⟨w.heap.size, 0, none⟩ = some (.int .i64 0) ∧ w'.cell? ⟨w.heap.size, 1, none⟩ = some (.int .i64 0) ∧ w'.cell? ⟨w.heap.size, 2, none⟩ = some (.string ⟨#[]⟩) ∧ w'.frozen? ⟨w.heap.size, 0, none⟩ = false ∧ w'.frozen? ⟨w.heap.size, 1, none⟩ = false ∧ w'.frozen? ⟨w.heap.size, 2, none⟩ = false ∧ w.heap.size < w'.heap.size ∧ Below w.heap.size w w')) := fun W h => (cutF_any _ _ W (by omega) hy).mono (by rintro e w' ⟨he, hw⟩; subst hw; exact ⟨he, h⟩)
 generalize cutX x.t y.n = R at *
 have HW1 : Hid (∀ W : World, (W.cell? ⟨b, off, none⟩ = some (.int .i64 x.k) ∧ W.cell? ⟨b, off + 1, none⟩ = some (.int .i64 x.n) ∧ W.cell? ⟨b, off + 2, none⟩ = some (.string x.t) ∧ W.cell? ⟨b, off + 3, none⟩ = some (.int .i64 y.k) ∧ W.cell? ⟨b, off + 3 + 1, none⟩ = some (.int .i64 y.n) ∧ W.cell? ⟨b, off + 3 + 2, none⟩ = some (.string y.t) ∧ W.cell? ⟨w.heap.size, 0, none⟩ = some (.int .i64 0) ∧ W.cell? ⟨w.heap.size, 1, none⟩ = some (.int .i64 0) ∧ W.cell? ⟨w.heap.size, 2, none⟩ = some (.string ⟨#[]⟩) ∧ W.frozen? ⟨w.heap.size, 0, none⟩ = false ∧ W.frozen? ⟨w.heap.size, 1, none⟩ = false ∧ W.frozen? ⟨w.heap.size, 2, none⟩ = false ∧ w.heap.size < W.heap.size ∧ Below w.heap.size w W) → Calls Tryz.prog 87 #[.string R] W fun e w' => e = .returned (.agg #[.int .i64 3, .int .i64 0, .string R]) ∧ (w'.cell? ⟨b, off, none⟩ = some (.int .i64 x.k) ∧ w'.cell? ⟨b, off + 1, none⟩ = some (.int .i64 x.n) ∧ w'.cell? ⟨b, off + 2, none⟩ = some (.string x.t) ∧ w'.cell? ⟨b, off + 3, none⟩ = some (.int .i64 y.k) ∧ w'.cell? ⟨b, off + 3 + 1, none⟩ = some (.int .i64 y.n) ∧ w'.cell? ⟨b, off + 3 + 2, none⟩ = some (.string y.t) ∧ w'.cell? ⟨w.heap.size, 0, none⟩ = some (.int .i64 0) ∧ w'.cell? ⟨w.heap.size, 1, none⟩ = some (.int .i64 0) ∧ w'.cell? ⟨w.heap.size, 2, none⟩ = some (.string ⟨#[]⟩) ∧ w'.frozen? ⟨w.heap.size, 0, none⟩ = false ∧ w'.frozen? ⟨w.heap.size, 1, none⟩ = false ∧ w'.frozen? ⟨w.heap.size, 2, none⟩ = false ∧ w.heap.size < w'.heap.size ∧ Below w.heap.size w w')) := fun W h => (words_any R W).mono (by rintro e w' ⟨he, hb⟩; exact ⟨he, ⟨xcell hb h.1, xcell hb h.2.1, xcell hb h.2.2.1, xcell hb h.2.2.2.1, xcell hb h.2.2.2.2.1, xcell hb h.2.2.2.2.2.1, xcell hb h.2.2.2.2.2.2.1, xcell hb h.2.2.2.2.2.2.2.1, xcell hb h.2.2.2.2.2.2.2.2.1, xfroz hb h.2.2.2.2.2.2.2.2.2.2.2.2.1 h.2.2.2.2.2.2.2.2.2.1, xfroz hb h.2.2.2.2.2.2.2.2.2.2.2.2.1 h.2.2.2.2.2.2.2.2.2.2.1, xfroz hb h.2.2.2.2.2.2.2.2.2.2.2.2.1 h.2.2.2.2.2.2.2.2.2.2.2.1, Nat.lt_of_lt_of_le h.2.2.2.2.2.2.2.2.2.2.2.2.1 hb.size, h.2.2.2.2.2.2.2.2.2.2.2.2.2.trans (hb.mono (Nat.le_of_lt h.2.2.2.2.2.2.2.2.2.2.2.2.1))⟩⟩)
 obtain ⟨W1, hW1⟩ : ∃ W1, W1 = w.alloc (.cells #[.int .i64 0, .int .i64 0, .string ⟨#[]⟩] 42) := ⟨_, rfl⟩
 have HS0 : Hid (W1.cell? ⟨b, off, none⟩ = some (.int .i64 x.k) ∧ W1.cell? ⟨b, off + 1, none⟩ = some (.int .i64 x.n) ∧ W1.cell? ⟨b, off + 2, none⟩ = some (.string x.t) ∧ W1.cell? ⟨b, off + 3, none⟩ = some (.int .i64 y.k) ∧ W1.cell? ⟨b, off + 3 + 1, none⟩ = some (.int .i64 y.n) ∧ W1.cell? ⟨b, off + 3 + 2, none⟩ = some (.string y.t) ∧ W1.cell? ⟨w.heap.size, 0, none⟩ = some (.int .i64 0) ∧ W1.cell? ⟨w.heap.size, 1, none⟩ = some (.int .i64 0) ∧ W1.cell? ⟨w.heap.size, 2, none⟩ = some (.string ⟨#[]⟩) ∧ W1.frozen? ⟨w.heap.size, 0, none⟩ = false ∧ W1.frozen? ⟨w.heap.size, 1, none⟩ = false ∧ W1.frozen? ⟨w.heap.size, 2, none⟩ = false ∧ w.heap.size < W1.heap.size ∧ Below w.heap.size w W1) := by
   unfold Hid
   have hO : Own W1 w.heap.size 42 3 [.int .i64 0, .int .i64 0, .string ⟨#[]⟩] := by rw [hW1]; exact Own.new w 42 3 #[.int .i64 0, .int .i64 0, .string ⟨#[]⟩] rfl
   have hb : Below w.heap.size w W1 := by rw [hW1]; exact xbel1 _ _
   exact ⟨xcell hb h0, xcell hb h1, xcell hb h2, xcell hb g0, xcell hb g1, xcell hb g2, hO.cell 0 (by decide), hO.cell 1 (by decide), hO.cell 2 (by decide), hO.soft 0, hO.soft 1, hO.soft 2, hO.lt, hb⟩
 clear h0 h1 h2 g0 g1 g2
 go_enter Tryz.func193, Tryz.ntmps193
 go_wp2_with fail
 rw [← hW1]
 clear hW1
 obtain ⟨k0, k1, k2, k3, k4, k5, q0, q1, q2, qf0, qf1, qf2, hl, HB⟩ := HS0.out
 go_region_with (first
   | (go_at_call 136; refine (HK.out _ (by first | exact hKP | exact ⟨HS0.out.1, HS0.out.2.1, HS0.out.2.2.1, HS0.out.2.2.2.1, HS0.out.2.2.2.2.1, HS0.out.2.2.2.2.2.1, HS0.out.2.2.2.2.2.2.1, HS0.out.2.2.2.2.2.2.2.1, HS0.out.2.2.2.2.2.2.2.2.1, HS0.out.2.2.2.2.2.2.2.2.2.1, HS0.out.2.2.2.2.2.2.2.2.2.2.1, HS0.out.2.2.2.2.2.2.2.2.2.2.2.1, HS0.out.2.2.2.2.2.2.2.2.2.2.2.2.1, HS0.out.2.2.2.2.2.2.2.2.2.2.2.2.2.drew⟩)).mono ?_; rintro e w' ⟨rfl, hKP⟩; have hKQ := hKP; obtain ⟨k0, k1, k2, k3, k4, k5, q0, q1, q2, qf0, qf1, qf2, hl, HB⟩ := hKQ)
   | (go_at_call 87; refine (HW1.out _ (by first | exact hKP | exact ⟨HS0.out.1, HS0.out.2.1, HS0.out.2.2.1, HS0.out.2.2.2.1, HS0.out.2.2.2.2.1, HS0.out.2.2.2.2.2.1, HS0.out.2.2.2.2.2.2.1, HS0.out.2.2.2.2.2.2.2.1, HS0.out.2.2.2.2.2.2.2.2.1, HS0.out.2.2.2.2.2.2.2.2.2.1, HS0.out.2.2.2.2.2.2.2.2.2.2.1, HS0.out.2.2.2.2.2.2.2.2.2.2.2.1, HS0.out.2.2.2.2.2.2.2.2.2.2.2.2.1, HS0.out.2.2.2.2.2.2.2.2.2.2.2.2.2.drew⟩)).mono ?_; rintro e w' ⟨rfl, hKP⟩; have hKQ := hKP; obtain ⟨k0, k1, k2, k3, k4, k5, q0, q1, q2, qf0, qf1, qf2, hl, HB⟩ := hKQ))
 all_goals
   go_wp2
   exact bodyPost_ret (v := .agg #[.int .i64 3, .int .i64 0, .string R]) (by simp [results, Tryz.results193, go_sem, q0, q1, q2, hl]; try rfl) rfl ⟨rfl, resB HB _ _ _⟩
end Go.Proofs.YtckdmmfmnhcabaaGreatDoor
namespace Go.Proofs.YtckdmmfmnhcabaaGreatDoor
open Go.RowKit
set_option linter.unusedVariables false
set_option linter.unusedSimpArgs false
set_option maxRecDepth 100000
attribute [local go_sem ↓] neqlV eqlV
attribute [local go_sem] guardV

set_option maxHeartbeats 4000000 in
theorem coalF (x y : Vl) (a : Option Addr) (c : Nat) (w : World) (hv : VsAt w a [x, y]) :
   Calls Tryz.prog 195 #[.slice a 2 c] w fun e w' => e = .returned (vV (if x = vNull then y else x)) ∧ Below w.heap.size w w' := by
 obtain ⟨b, off, rfl, h0, h1, h2⟩ := hv 0 (by simp)
 obtain ⟨b', off', hh, g0, g1, g2⟩ := hv 1 (by simp)
 cases hh
 simp only [List.getElem_cons_zero, List.getElem_cons_succ, Nat.zero_mul, Nat.add_zero, Nat.one_mul] at h0 h1 h2 g0 g1 g2
 have hbl2 : b < w.heap.size := World.block_lt_of_cell? _ _ h1
 clear hv
 have he : eqB x.k x.n x.t 0 0 ⟨#[]⟩ = decide (x = vNull) := eqB_iff x vNull
 by_cases hd : x = vNull
 · rw [decide_eq_true hd] at he
   rw [if_pos hd]
   clear hd
   go_enter Tryz.func195, Tryz.ntmps195
   go_wp2_with fail
   exact bodyPost_ret (v := .agg #[.int .i64 y.k, .int .i64 y.n, .string y.t]) (by simp [results, Tryz.results195, go_sem]; try rfl) rfl ⟨rfl, xbel1 _ _⟩
 · rw [decide_eq_false hd] at he
   rw [if_neg hd]
   clear hd
   go_enter Tryz.func195, Tryz.ntmps195
   go_wp2_with fail
   exact bodyPost_ret (v := .agg #[.int .i64 x.k, .int .i64 x.n, .string x.t]) (by simp [results, Tryz.results195, go_sem]; try rfl) rfl ⟨rfl, xbel1 _ _⟩
end Go.Proofs.YtckdmmfmnhcabaaGreatDoor
namespace Go.Proofs.YtckdmmfmnhcabaaGreatDoor
open Go.RowKit
set_option linter.unusedVariables false
set_option linter.unusedSimpArgs false
set_option maxRecDepth 100000
attribute [local go_sem ↓] neqlV eqlV
attribute [local go_sem] guardV

set_option maxHeartbeats 4000000 in
theorem ifF (x y z : Vl) (a : Option Addr) (c : Nat) (w : World) (hv : VsAt w a [x, y, z]) :
   Calls Tryz.prog 196 #[.slice a 3 c] w fun e w' => e = .returned (vV (if x = vTru true then y else z)) ∧ Below w.heap.size w w' := by
 obtain ⟨b, off, rfl, h0, h1, h2⟩ := hv 0 (by simp)
 obtain ⟨b', off', hh, g0, g1, g2⟩ := hv 1 (by simp)
 cases hh
 obtain ⟨b', off', hh, k0, k1, k2⟩ := hv 2 (by simp)
 cases hh
 simp only [List.getElem_cons_zero, List.getElem_cons_succ, Nat.zero_mul, Nat.add_zero, Nat.one_mul] at h0 h1 h2 g0 g1 g2 k0 k1 k2
 have hbl2 : b < w.heap.size := World.block_lt_of_cell? _ _ h1
 have HC1 : Hid (∀ W : World, (W.cell? ⟨b, off, none⟩ = some (.int .i64 x.k) ∧ W.cell? ⟨b, off + 1, none⟩ = some (.int .i64 x.n) ∧ W.cell? ⟨b, off + 2, none⟩ = some (.string x.t) ∧ W.cell? ⟨b, off + 3, none⟩ = some (.int .i64 y.k) ∧ W.cell? ⟨b, off + 3 + 1, none⟩ = some (.int .i64 y.n) ∧ W.cell? ⟨b, off + 3 + 2, none⟩ = some (.string y.t) ∧ W.cell? ⟨b, off + 2 * 3, none⟩ = some (.int .i64 z.k) ∧ W.cell? ⟨b, off + 2 * 3 + 1, none⟩ = some (.int .i64 z.n) ∧ W.cell? ⟨b, off + 2 * 3 + 2, none⟩ = some (.string z.t) ∧ W.cell? ⟨w.heap.size, 0, none⟩ = some (.int .i64 0) ∧ W.cell? ⟨w.heap.size, 1, none⟩ = some (.int .i64 0) ∧ W.cell? ⟨w.heap.size, 2, none⟩ = some (.string ⟨#[]⟩) ∧ W.frozen? ⟨w.heap.size, 0, none⟩ = false ∧ W.frozen? ⟨w.heap.size, 1, none⟩ = false ∧ W.frozen? ⟨w.heap.size, 2, none⟩ = false ∧ w.heap.size < W.heap.size ∧ Below w.heap.size w W) → Calls Tryz.prog 86 #[.bool true] W fun e w' => e = .returned (.agg #[.int .i64 2, .int .i64 1, .string ⟨#[]⟩]) ∧ (w'.cell? ⟨b, off, none⟩ = some (.int .i64 x.k) ∧ w'.cell? ⟨b, off + 1, none⟩ = some (.int .i64 x.n) ∧ w'.cell? ⟨b, off + 2, none⟩ = some (.string x.t) ∧ w'.cell? ⟨b, off + 3, none⟩ = some (.int .i64 y.k) ∧ w'.cell? ⟨b, off + 3 + 1, none⟩ = some (.int .i64 y.n) ∧ w'.cell? ⟨b, off + 3 + 2, none⟩ = some (.string y.t) ∧ w'.cell? ⟨b, off + 2 * 3, none⟩ = some (.int .i64 z.k) ∧ w'.cell? ⟨b, off + 2 * 3 + 1, none⟩ = some (.int .i64 z.n) ∧ w'.cell? ⟨b, off + 2 * 3 + 2, none⟩ = some (.string z.t) ∧ w'.cell? ⟨w.heap.size, 0, none⟩ = some (.int .i64 0) ∧ w'.cell? ⟨w.heap.size, 1, none⟩ = some (.int .i64 0) ∧ w'.cell? ⟨w.heap.size, 2, none⟩ = some (.string ⟨#[]⟩) ∧ w'.frozen? ⟨w.heap.size, 0, none⟩ = false ∧ w'.frozen? ⟨w.heap.size, 1, none⟩ = false ∧ w'.frozen? ⟨w.heap.size, 2, none⟩ = false ∧ w.heap.size < w'.heap.size ∧ Below w.heap.size w w')) := fun W h => (truth_any true W).mono (by rintro e w' ⟨he, hb⟩; exact ⟨he, ⟨xcell hb h.1, xcell hb h.2.1, xcell hb h.2.2.1, xcell hb h.2.2.2.1, xcell hb h.2.2.2.2.1, xcell hb h.2.2.2.2.2.1, xcell hb h.2.2.2.2.2.2.1, xcell hb h.2.2.2.2.2.2.2.1, xcell hb h.2.2.2.2.2.2.2.2.1, xcell hb h.2.2.2.2.2.2.2.2.2.1, xcell hb h.2.2.2.2.2.2.2.2.2.2.1, xcell hb h.2.2.2.2.2.2.2.2.2.2.2.1, xfroz hb h.2.2.2.2.2.2.2.2.2.2.2.2.2.2.2.1 h.2.2.2.2.2.2.2.2.2.2.2.2.1, xfroz hb h.2.2.2.2.2.2.2.2.2.2.2.2.2.2.2.1 h.2.2.2.2.2.2.2.2.2.2.2.2.2.1, xfroz hb h.2.2.2.2.2.2.2.2.2.2.2.2.2.2.2.1 h.2.2.2.2.2.2.2.2.2.2.2.2.2.2.1, Nat.lt_of_lt_of_le h.2.2.2.2.2.2.2.2.2.2.2.2.2.2.2.1 hb.size, h.2.2.2.2.2.2.2.2.2.2.2.2.2.2.2.2.trans (hb.mono (Nat.le_of_lt h.2.2.2.2.2.2.2.2.2.2.2.2.2.2.2.1))⟩⟩)
 have he : eqB x.k x.n x.t 2 1 ⟨#[]⟩ = decide (x = vTru true) := eqB_iff x (vTru true)
 clear hv
 obtain ⟨W1, hW1⟩ : ∃ W1, W1 = w.alloc (.cells #[.int .i64 0, .int .i64 0, .string ⟨#[]⟩] 42) := ⟨_, rfl⟩
 have HS0 : Hid (W1.cell? ⟨b, off, none⟩ = some (.int .i64 x.k) ∧ W1.cell? ⟨b, off + 1, none⟩ = some (.int .i64 x.n) ∧ W1.cell? ⟨b, off + 2, none⟩ = some (.string x.t) ∧ W1.cell? ⟨b, off + 3, none⟩ = some (.int .i64 y.k) ∧ W1.cell? ⟨b, off + 3 + 1, none⟩ = some (.int .i64 y.n) ∧ W1.cell? ⟨b, off + 3 + 2, none⟩ = some (.string y.t) ∧ W1.cell? ⟨b, off + 2 * 3, none⟩ = some (.int .i64 z.k) ∧ W1.cell? ⟨b, off + 2 * 3 + 1, none⟩ = some (.int .i64 z.n) ∧ W1.cell? ⟨b, off + 2 * 3 + 2, none⟩ = some (.string z.t) ∧ W1.cell? ⟨w.heap.size, 0, none⟩ = some (.int .i64 0) ∧ W1.cell? ⟨w.heap.size, 1, none⟩ = some (.int .i64 0) ∧ W1.cell? ⟨w.heap.size, 2, none⟩ = some (.string ⟨#[]⟩) ∧ W1.frozen? ⟨w.heap.size, 0, none⟩ = false ∧ W1.frozen? ⟨w.heap.size, 1, none⟩ = false ∧ W1.frozen? ⟨w.heap.size, 2, none⟩ = false ∧ w.heap.size < W1.heap.size ∧ Below w.heap.size w W1) := by
   unfold Hid
   have hO : Own W1 w.heap.size 42 3 [.int .i64 0, .int .i64 0, .string ⟨#[]⟩] := by rw [hW1]; exact Own.new w 42 3 #[.int .i64 0, .int .i64 0, .string ⟨#[]⟩] rfl
   have hb : Below w.heap.size w W1 := by rw [hW1]; exact xbel1 _ _
   exact ⟨xcell hb h0, xcell hb h1, xcell hb h2, xcell hb g0, xcell hb g1, xcell hb g2, xcell hb k0, xcell hb k1, xcell hb k2, hO.cell 0 (by decide), hO.cell 1 (by decide), hO.cell 2 (by decide), hO.soft 0, hO.soft 1, hO.soft 2, hO.lt, hb⟩
 clear h0 h1 h2 g0 g1 g2 k0 k1 k2
 by_cases hd : x = vTru true
 · rw [decide_eq_true hd] at he
   rw [if_pos hd]
   clear hd
   go_enter Tryz.func196, Tryz.ntmps196
   go_wp2_with fail
   rw [← hW1]
   clear hW1
   obtain ⟨k0, k1, k2, k3, k4, k5, k6, k7, k8, q0, q1, q2, qf0, qf1, qf2, hl, HB⟩ := HS0.out
   go_region_with (first
     | (go_at_call 86; refine (HC1.out _ (by first | exact hKP | exact ⟨HS0.out.1, HS0.out.2.1, HS0.out.2.2.1, HS0.out.2.2.2.1, HS0.out.2.2.2.2.1, HS0.out.2.2.2.2.2.1, HS0.out.2.2.2.2.2.2.1, HS0.out.2.2.2.2.2.2.2.1, HS0.out.2.2.2.2.2.2.2.2.1, HS0.out.2.2.2.2.2.2.2.2.2.1, HS0.out.2.2.2.2.2.2.2.2.2.2.1, HS0.out.2.2.2.2.2.2.2.2.2.2.2.1, HS0.out.2.2.2.2.2.2.2.2.2.2.2.2.1, HS0.out.2.2.2.2.2.2.2.2.2.2.2.2.2.1, HS0.out.2.2.2.2.2.2.2.2.2.2.2.2.2.2.1, HS0.out.2.2.2.2.2.2.2.2.2.2.2.2.2.2.2.1, HS0.out.2.2.2.2.2.2.2.2.2.2.2.2.2.2.2.2.drew⟩)).mono ?_; rintro e w' ⟨rfl, hKP⟩; have hKQ := hKP; obtain ⟨k0, k1, k2, k3, k4, k5, k6, k7, k8, q0, q1, q2, qf0, qf1, qf2, hl, HB⟩ := hKQ))
   all_goals
     clear hKP HS0 HC1
     go_wp2
     exact bodyPost_ret (v := .agg #[.int .i64 y.k, .int .i64 y.n, .string y.t]) (by simp [results, Tryz.results196, go_sem, q0, q1, q2, hl]; try rfl) rfl ⟨rfl, resB HB _ _ _⟩
 · rw [decide_eq_false hd] at he
   rw [if_neg hd]
   clear hd
   go_enter Tryz.func196, Tryz.ntmps196
   go_wp2_with fail
   rw [← hW1]
   clear hW1
   obtain ⟨k0, k1, k2, k3, k4, k5, k6, k7, k8, q0, q1, q2, qf0, qf1, qf2, hl, HB⟩ := HS0.out
   go_region_with (first
     | (go_at_call 86; refine (HC1.out _ (by first | exact hKP | exact ⟨HS0.out.1, HS0.out.2.1, HS0.out.2.2.1, HS0.out.2.2.2.1, HS0.out.2.2.2.2.1, HS0.out.2.2.2.2.2.1, HS0.out.2.2.2.2.2.2.1, HS0.out.2.2.2.2.2.2.2.1, HS0.out.2.2.2.2.2.2.2.2.1, HS0.out.2.2.2.2.2.2.2.2.2.1, HS0.out.2.2.2.2.2.2.2.2.2.2.1, HS0.out.2.2.2.2.2.2.2.2.2.2.2.1, HS0.out.2.2.2.2.2.2.2.2.2.2.2.2.1, HS0.out.2.2.2.2.2.2.2.2.2.2.2.2.2.1, HS0.out.2.2.2.2.2.2.2.2.2.2.2.2.2.2.1, HS0.out.2.2.2.2.2.2.2.2.2.2.2.2.2.2.2.1, HS0.out.2.2.2.2.2.2.2.2.2.2.2.2.2.2.2.2.drew⟩)).mono ?_; rintro e w' ⟨rfl, hKP⟩; have hKQ := hKP; obtain ⟨k0, k1, k2, k3, k4, k5, k6, k7, k8, q0, q1, q2, qf0, qf1, qf2, hl, HB⟩ := hKQ))
   all_goals
     clear hKP HS0 HC1
     go_wp2
     exact bodyPost_ret (v := .agg #[.int .i64 z.k, .int .i64 z.n, .string z.t]) (by simp [results, Tryz.results196, go_sem, q0, q1, q2, hl]; try rfl) rfl ⟨rfl, resB HB _ _ _⟩
end Go.Proofs.YtckdmmfmnhcabaaGreatDoor
namespace Go.Proofs.YtckdmmfmnhcabaaGreatDoor
open Go.RowKit
set_option linter.unusedVariables false
set_option linter.unusedSimpArgs false
set_option maxRecDepth 100000

set_option maxHeartbeats 2000000 in
theorem value_lit (k n : Int) (t : ByteArray) (x y : Value) (w : World) :
   Calls Tryz.prog 232 #[.agg #[.int .i64 k, .int .i64 n, .string t], x, y] w fun e w' => e = .returned (vV ⟨k, n, t⟩) ∧ Below w.heap.size w w' := by
 go_enter Tryz.func232, Tryz.ntmps232
 go_wp2_with fail
 refine bodyPost_ret (v := .agg #[.int .i64 k, .int .i64 n, .string t]) (by simp [results, Tryz.results232, go_sem]; try rfl) rfl ⟨rfl, ?_⟩
 repeat (first | exact xbel1 _ _ | exact Below.refl _ _ | refine xbNew ?_ (xgSet _ _ _) (fun n hn => by cases hn; simp) | refine Below.alloc ?_ (by simp) _)

set_option maxHeartbeats 2000000 in
theorem value_col (c : List Co) (vs : List Vl) (pl j : Nat) (nm : ByteArray) (a : Option Addr) (cc : Nat) (ra : Option Addr) (rc : Nat) (w : World) (hc : ColsAt w a c) (hm : c.length ≤ maxLen) (hv : VsAt w ra vs) (hm2 : vs.length ≤ maxLen) (hx : colIx c nm = some j) (hj : j < vs.length) :
   Calls Tryz.prog 234 #[.agg #[.int .i64 pl, .string nm], .slice a c.length cc, .slice ra vs.length rc] w fun e w' => e = .returned (vV vs[j]) ∧ Below w.heap.size w w' := by
 have HP : Hid (∀ W, Below w.heap.size w W → Calls Tryz.prog 67 #[.slice a c.length cc, .string nm] W fun e w' => e = .returned (.int .i64 (j : Nat)) ∧ Below W.heap.size W w') := fun W hW => by
   have := place_any nm a cc c W (hc.later hW) hm
   rw [hx] at this
   exact this
 obtain ⟨b, off, rfl, h0, h1, h2⟩ := hv j hj
 have hji : (j : Int) < (vs.length : Int) := by omega
 have hm' : vs.length ≤ 9223372036854775807 := hm2
 have hbl2 : b < w.heap.size := World.block_lt_of_cell? _ _ h1
 generalize vs[j] = V at *
 clear hc hm hv hm2 hx
 go_enter Tryz.func234, Tryz.ntmps234
 go_wp2_with fail
 refine (HP.out _ ((xbel1 w _).alloc (by simp) _)).mono ?_
 rintro e w2 ⟨rfl, hb2⟩
 obtain ⟨hO, hB⟩ := resAt hb2
 have hsz : (w.alloc (.cells #[.int .i64 pl, .string nm] 106)).heap.size = w.heap.size + 1 := by simp
 rw [hsz] at hO
 have HB : Hid (Below w.heap.size w w2) := (xbel1 w _).trans (hB.mono (by simp))
 have q0 : w2.cell? ⟨w.heap.size + 1, 0, none⟩ = some (.int .i64 0) := by rw [hO.cell 0 (by decide)]; rfl
 have q1 : w2.cell? ⟨w.heap.size + 1, 1, none⟩ = some (.int .i64 0) := by rw [hO.cell 1 (by decide)]; rfl
 have q2 : w2.cell? ⟨w.heap.size + 1, 2, none⟩ = some (.string ⟨#[]⟩) := by rw [hO.cell 2 (by decide)]; rfl
 have qf0 : w2.frozen? ⟨w.heap.size + 1, 0, none⟩ = false := hO.soft 0
 have qf1 : w2.frozen? ⟨w.heap.size + 1, 1, none⟩ = false := hO.soft 1
 have qf2 : w2.frozen? ⟨w.heap.size + 1, 2, none⟩ = false := hO.soft 2
 have hl := hO.lt
 have g0 := xcell HB.out h0
 have g1 := xcell HB.out h1
 have g2 := xcell HB.out h2
 clear hb2 hO hB HP h0 h1 h2
 go_wp2_with fail
 refine bodyPost_ret (v := .agg #[.int .i64 V.k, .int .i64 V.n, .string V.t]) (by simp [results, Tryz.results234, go_sem, q0, q1, q2, hl]; try rfl) rfl ⟨rfl, ?_⟩
 refine xbNew (xbNew (xbNew HB.out (xgSet _ _ _) ?_) (xgSet _ _ _) ?_) (xgSet _ _ _) ?_ <;> (intro n hn; cases hn; simp)
end Go.Proofs.YtckdmmfmnhcabaaGreatDoor
