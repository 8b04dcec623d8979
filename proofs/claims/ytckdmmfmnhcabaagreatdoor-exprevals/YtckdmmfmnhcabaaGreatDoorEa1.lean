import Derived.Test.YtckdmmfmnhcabaaGreatDoorWb1
import Derived.Test.YtckdmmfmnhcabaaGreatDoorDh1
import Derived.Deep.LoopGhost
import Derived.Deep.DeepCutAuto
namespace Go.Proofs.YtckdmmfmnhcabaaGreatDoor.Dc
open Go.RowKit
set_option linter.unusedVariables false
set_option linter.unusedSimpArgs false
set_option maxRecDepth 100000
attribute [local go_sem ↓] neqlV eqlV
attribute [local go_sem] guardV

theorem truthD (b : Bool) (w : World) : Calls Tryz.prog 35 #[.bool b] w fun e w' => e = .returned (vV (vTru b)) ∧ Below w.heap.size w w' := by
 cases b with
 | true =>
   go_enter Tryz.func35, Tryz.ntmps35
   go_wp2
   exact bodyPost_ret (v := .agg #[.int .i64 2, .int .i64 1, .string ⟨#[]⟩]) (by simp [results, Tryz.results35, go_sem]; try rfl) rfl ⟨rfl, xbel1 _ _⟩
 | false =>
   go_enter Tryz.func35, Tryz.ntmps35
   go_wp2
   exact bodyPost_ret (v := .agg #[.int .i64 2, .int .i64 0, .string ⟨#[]⟩]) (by simp [results, Tryz.results35, go_sem]; try rfl) rfl ⟨rfl, xbel1 _ _⟩
theorem numberD (n : Int) (w : World) : Calls Tryz.prog 64 #[.int .i64 n] w fun e w' => e = .returned (vV (vInt n)) ∧ Below w.heap.size w w' := by
 go_enter Tryz.func64, Tryz.ntmps64
 go_wp2
 exact bodyPost_ret (v := .agg #[.int .i64 1, .int .i64 n, .string ⟨#[]⟩]) (by simp [results, Tryz.results64, go_sem]; try rfl) rfl ⟨rfl, xbel1 _ _⟩
theorem textD (s : ByteArray) (w : World) : Calls Tryz.prog 65 #[.string s] w fun e w' => e = .returned (vV (vTxt s)) ∧ Below w.heap.size w w' := by
 go_enter Tryz.func65, Tryz.ntmps65
 go_wp2
 exact bodyPost_ret (v := .agg #[.int .i64 3, .int .i64 0, .string s]) (by simp [results, Tryz.results65, go_sem]; try rfl) rfl ⟨rfl, xbel1 _ _⟩
end Go.Proofs.YtckdmmfmnhcabaaGreatDoor.Dc
namespace Go.Proofs.YtckdmmfmnhcabaaGreatDoor.Dc
open Go.RowKit
set_option linter.unusedVariables false
set_option linter.unusedSimpArgs false
set_option maxRecDepth 100000
attribute [local go_sem ↓] neqlV eqlV
attribute [local go_sem] guardV
def EvD (W : World) (v : Vl) (e : Ending) (w' : World) : Prop := Below W.heap.size W w' ∧ e = .returned (vV v)
set_option maxHeartbeats 2000000 in
theorem evalD_lit (b : Nat) (k n : Int) (t : ByteArray) (c r : Value) (w : World) (c0 : w.cell? ⟨b, 0, none⟩ = some (.string bValue)) (c3 : w.cell? ⟨b, 3, none⟩ = some (.int .i64 k)) (c4 : w.cell? ⟨b, 4, none⟩ = some (.int .i64 n)) (c5 : w.cell? ⟨b, 5, none⟩ = some (.string t)) :
   Calls Tryz.prog 16 #[.pointer (some ⟨b, 0, none⟩), c, r] w (EvD w ⟨k, n, t⟩) := by
 have hbl : b < w.heap.size := World.block_lt_of_cell? _ _ c0
 have FIN : Hid (∀ W, Below w.heap.size w W → EvD w ⟨k, n, t⟩ (.returned (.agg #[.int .i64 k, .int .i64 n, .string t])) W) := fun W h => ⟨h, rfl⟩
 unfold bValue at c0
 go_enter Tryz.func16, Tryz.ntmps16
 go_wp2
 exact bodyPost_ret (v := .agg #[.int .i64 k, .int .i64 n, .string t]) (by simp [results, Tryz.results16, go_sem]; try rfl) rfl (FIN.out _ (xbel1 _ _))
set_option maxHeartbeats 4000000 in
theorem evalD_col (c : List Co) (vs : List Vl) (b pl i : Nat) (nm : ByteArray) (a : Option Addr) (cc : Nat) (ra : Option Addr) (rc : Nat) (w : World) (c0 : w.cell? ⟨b, 0, none⟩ = some (.string bName)) (c6 : w.cell? ⟨b, 6, none⟩ = some (.string nm)) (hc : ColsAt w a c) (hm : c.length ≤ maxLen) (hv : VsAt w ra vs) (hm2 : vs.length ≤ maxLen) (hix : colIx c nm = some i) (hi : i < vs.length) :
   Calls Tryz.prog 16 #[.pointer (some ⟨b, 0, none⟩), .slice a c.length cc, .slice ra vs.length rc] w (EvD w vs[i]) := by
 have hbl : b < w.heap.size := World.block_lt_of_cell? _ _ c0
 have HAT : Hid (∀ W, Below w.heap.size w W → Calls Tryz.prog 34 #[.slice a c.length cc, .string nm] W fun e w' => e = .returned (.int .i64 (i : Nat)) ∧ Below W.heap.size W w') := fun W hW => by
   have := atD_any nm a cc c W (hc.later hW) hm
   rw [hix] at this
   exact this
 obtain ⟨V, hV⟩ : ∃ V, V = vs[i] := ⟨_, rfl⟩
 rw [← hV]
 have HV := hidMk' hv
 have hmx : (vs.length : Int) ≤ 9223372036854775807 := by unfold maxLen at hm2; omega
 unfold bName at c0
 have hii : (i : Int) < (vs.length : Int) := by omega
 clear hc hm hv hm2 hix
 go_enter Tryz.func16, Tryz.ntmps16
 go_wp2_with fail
 refine (HAT.out _ (xbel1 _ _)).mono ?_
 rintro e w1 ⟨rfl, hb1⟩
 have HB1 : Hid (Below w.heap.size w w1) := (xbel1 w _).trans (hb1.mono (by simp))
 have hR := (Own.new w 42 3 #[.int .i64 0, .int .i64 0, .string ⟨#[]⟩] rfl).later hb1
 have q0 : w1.cell? ⟨w.heap.size, 0, none⟩ = some (.int .i64 0) := hR.cell 0 (by decide)
 have q1 : w1.cell? ⟨w.heap.size, 1, none⟩ = some (.int .i64 0) := hR.cell 1 (by decide)
 have q2 : w1.cell? ⟨w.heap.size, 2, none⟩ = some (.string ⟨#[]⟩) := hR.cell 2 (by decide)
 have f0 := hR.soft 0
 have f1 := hR.soft 1
 have f2 := hR.soft 2
 have hwl : w.heap.size < w1.heap.size := hR.lt
 obtain ⟨bb, off, rfl, e0, e1, e2⟩ := (HV.out.later HB1.out) i hi
 have hbl1 : bb < w1.heap.size := World.block_lt_of_cell? _ _ e0
 rw [← hV] at e0 e1 e2
 have FIN : Hid (∀ W, Below w.heap.size w W → EvD w V (.returned (.agg #[.int .i64 V.k, .int .i64 V.n, .string V.t])) W) := fun W h => ⟨h, rfl⟩
 clear hb1 hR c0 c6 HV HAT hV
 go_wp2_with fail
 exact bodyPost_ret (v := .agg #[.int .i64 V.k, .int .i64 V.n, .string V.t]) (by simp [results, Tryz.results16, go_sem, q0, q1, q2, hwl]; try rfl) rfl (FIN.out _ (by repeat (first | exact HB1.out | refine Below.setCell ?_ (by simp; try omega) _)))
end Go.Proofs.YtckdmmfmnhcabaaGreatDoor.Dc
namespace Go.Proofs.YtckdmmfmnhcabaaGreatDoor.Dc
open Go.RowKit
set_option linter.unusedVariables false
set_option linter.unusedSimpArgs false
set_option maxRecDepth 100000
attribute [local go_sem ↓] neqlV eqlV
attribute [local go_sem] guardV

def cells9 (l : List Vl) : List Value := [.int .i64 (l.getD 0 vNull).k, .int .i64 (l.getD 0 vNull).n, .string (l.getD 0 vNull).t, .int .i64 (l.getD 1 vNull).k, .int .i64 (l.getD 1 vNull).n, .string (l.getD 1 vNull).t, .int .i64 (l.getD 2 vNull).k, .int .i64 (l.getD 2 vNull).n, .string (l.getD 2 vNull).t]
theorem getD_appV (ks : List Vl) (k : Vl) (m : Nat) : (ks ++ [k]).getD m vNull = if m = ks.length then k else ks.getD m vNull := by
 simp only [List.getD_eq_getElem?_getD]
 rcases Nat.lt_trichotomy m ks.length with h | h | h
 · rw [List.getElem?_append_left h, if_neg (by omega)]
 · subst h; simp
 · rw [List.getElem?_eq_none (by simp; omega), if_neg (by omega), List.getElem?_eq_none (by omega)]
def nl (l : List Vl) : Nat := (l.filter (fun v => v.k == 0)).length
theorem nl_snoc (l : List Vl) (v : Vl) : nl (l ++ [v]) = nl l + if v.k = 0 then 1 else 0 := by
 unfold nl
 rw [List.filter_append, List.length_append]
 by_cases h : v.k = 0 <;> simp [h]
theorem nl_le (l : List Vl) : nl l ≤ l.length := List.length_filter_le ..
theorem cells9_0 (l : List Vl) (v : Vl) (h : l.length = 0) : (((cells9 l).set 0 (.int .i64 v.k)).set 1 (.int .i64 v.n)).set 2 (.string v.t) = cells9 (l ++ [v]) := by
 unfold cells9; simp only [getD_appV, h]; simp
theorem cells9_1 (l : List Vl) (v : Vl) (h : l.length = 1) : (((cells9 l).set 3 (.int .i64 v.k)).set 4 (.int .i64 v.n)).set 5 (.string v.t) = cells9 (l ++ [v]) := by
 unfold cells9; simp only [getD_appV, h]; simp
theorem cells9_2 (l : List Vl) (v : Vl) (h : l.length = 2) : (((cells9 l).set 6 (.int .i64 v.k)).set 7 (.int .i64 v.n)).set 8 (.string v.t) = cells9 (l ++ [v]) := by
 unfold cells9; simp only [getD_appV, h]; simp
theorem take_snocV (l : List Vl) (j : Nat) (h : j < l.length) : l.take (j + 1) = l.take j ++ [l[j]] := List.take_succ_eq_append_getElem h
theorem putsV {w : World} {g t n : Nat} {xs : List Value} (h : Own w g t n xs) (i0 i1 i2 : Nat) (a b c : Value) :
   Own (((w.setCell ⟨g, i0, none⟩ a).setCell ⟨g, i1, none⟩ b).setCell ⟨g, i2, none⟩ c) g t n (((xs.set i0 a).set i1 b).set i2 c) ∧ w.grownBy (((w.setCell ⟨g, i0, none⟩ a).setCell ⟨g, i1, none⟩ b).setCell ⟨g, i2, none⟩ c) (some g) := by
 have h1 := h.put i0 a
 have h2 := h1.1.put i1 b
 have h3 := h2.1.put i2 c
 exact ⟨h3.1, xgTrans (xgTrans h1.2 h2.2) h3.2⟩
theorem ownAt {w3 X : World} {g t : Nat} {cs : Array Value} (hb : Below (X.alloc (.cells cs t)).heap.size (X.alloc (.cells cs t)) w3) (e : X.heap.size = g) (hs : cs.size = 3) : Own w3 g t 3 cs.toList := by
 subst e; exact (Own.new X t 3 cs hs).later hb
def andD (x y : Vl) (N : Nat) (RS : Vl) : Vl := if x = vTru false ∨ y = vTru false then vTru false else if N = 0 then RS else vNull
def orD (x y : Vl) (N : Nat) (RS : Vl) : Vl := if x = vTru true ∨ y = vTru true then vTru true else if N = 0 then RS else vNull
def StR (w : World) (RS : Vl) (p : Value) (wx : World) : Prop := ∃ g, p = .pointer (some ⟨g, 0, none⟩) ∧ wx.cell? ⟨g, 0, none⟩ = some (.int .i64 RS.k) ∧ wx.cell? ⟨g, 1, none⟩ = some (.int .i64 RS.n) ∧ wx.cell? ⟨g, 2, none⟩ = some (.string RS.t) ∧ w.heap.size < g ∧ g < wx.heap.size ∧ Own wx w.heap.size 42 3 [.int .i64 0, .int .i64 0, .string ⟨#[]⟩] ∧ Below w.heap.size w wx
def strD (N : Nat) (RS : Vl) : Vl := if N = 0 then RS else vNull
def coaD (x y : Vl) : Vl := if x.k = 0 then y else x
def ifD (x y z : Vl) : Vl := if x = vTru true then y else z
theorem eq_no {x : Vl} {B : Bool} (h : eqB x.k x.n x.t 2 0 ⟨#[]⟩ = B) : decide (x = vTru false) = B := (eqB_iff x (vTru false)).symm.trans h
theorem eq_yes {x : Vl} {B : Bool} (h : eqB x.k x.n x.t 2 1 ⟨#[]⟩ = B) : decide (x = vTru true) = B := (eqB_iff x (vTru true)).symm.trans h
end Go.Proofs.YtckdmmfmnhcabaaGreatDoor.Dc
