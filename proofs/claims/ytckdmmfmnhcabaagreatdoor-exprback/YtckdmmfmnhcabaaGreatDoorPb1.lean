import Derived.Test.YtckdmmfmnhcabaaGreatDoorPrA
import Derived.Test.YtckdmmfmnhcabaaGreatDoorVb1
import Derived.Sort.AtCall
namespace Go.Proofs.YtckdmmfmnhcabaaGreatDoor
open Go.RowKit
set_option linter.unusedVariables false
set_option linter.unusedSimpArgs false
set_option maxRecDepth 100000
theorem ta_lit_lit (p : Value) (w : World) : (Instr.typeAssert (.iface 104 p) 55 104 true).run Tryz.prog w = .ok (.tuple #[p, .bool true]) w := by
 simp [Instr.typeAssert, go_sem]
 try rfl
theorem ta_col_lit (p : Value) (w : World) : (Instr.typeAssert (.iface 106 p) 55 104 true).run Tryz.prog w = .ok (.tuple #[(Value.agg #[Value.int IntKind.i64 0, Value.int IntKind.i64 0, Value.string ⟨#[]⟩]), .bool false]) w := by
 simp [Instr.typeAssert, go_sem]
 try rfl
theorem ta_pre_lit (p : Value) (w : World) : (Instr.typeAssert (.iface 115 p) 55 104 true).run Tryz.prog w = .ok (.tuple #[(Value.agg #[Value.int IntKind.i64 0, Value.int IntKind.i64 0, Value.string ⟨#[]⟩]), .bool false]) w := by
 simp [Instr.typeAssert, go_sem]
 try rfl
theorem ta_inf_lit (p : Value) (w : World) : (Instr.typeAssert (.iface 118 p) 55 104 true).run Tryz.prog w = .ok (.tuple #[(Value.agg #[Value.int IntKind.i64 0, Value.int IntKind.i64 0, Value.string ⟨#[]⟩]), .bool false]) w := by
 simp [Instr.typeAssert, go_sem]
 try rfl
theorem ta_cal_lit (p : Value) (w : World) : (Instr.typeAssert (.iface 121 p) 55 104 true).run Tryz.prog w = .ok (.tuple #[(Value.agg #[Value.int IntKind.i64 0, Value.int IntKind.i64 0, Value.string ⟨#[]⟩]), .bool false]) w := by
 simp [Instr.typeAssert, go_sem]
 try rfl
theorem ta_lit_col (p : Value) (w : World) : (Instr.typeAssert (.iface 104 p) 55 106 true).run Tryz.prog w = .ok (.tuple #[(Value.agg #[Value.int IntKind.i64 0, Value.string ⟨#[]⟩]), .bool false]) w := by
 simp [Instr.typeAssert, go_sem]
 try rfl
theorem ta_col_col (p : Value) (w : World) : (Instr.typeAssert (.iface 106 p) 55 106 true).run Tryz.prog w = .ok (.tuple #[p, .bool true]) w := by
 simp [Instr.typeAssert, go_sem]
 try rfl
theorem ta_pre_col (p : Value) (w : World) : (Instr.typeAssert (.iface 115 p) 55 106 true).run Tryz.prog w = .ok (.tuple #[(Value.agg #[Value.int IntKind.i64 0, Value.string ⟨#[]⟩]), .bool false]) w := by
 simp [Instr.typeAssert, go_sem]
 try rfl
theorem ta_inf_col (p : Value) (w : World) : (Instr.typeAssert (.iface 118 p) 55 106 true).run Tryz.prog w = .ok (.tuple #[(Value.agg #[Value.int IntKind.i64 0, Value.string ⟨#[]⟩]), .bool false]) w := by
 simp [Instr.typeAssert, go_sem]
 try rfl
theorem ta_cal_col (p : Value) (w : World) : (Instr.typeAssert (.iface 121 p) 55 106 true).run Tryz.prog w = .ok (.tuple #[(Value.agg #[Value.int IntKind.i64 0, Value.string ⟨#[]⟩]), .bool false]) w := by
 simp [Instr.typeAssert, go_sem]
 try rfl
theorem ta_lit_cal (p : Value) (w : World) : (Instr.typeAssert (.iface 104 p) 55 121 true).run Tryz.prog w = .ok (.tuple #[(Value.agg #[Value.int IntKind.i64 0, Value.slice none 0 0, Value.int IntKind.i64 0, Value.nilFunc, Value.slice none 0 0, Value.string ⟨#[]⟩, Value.bool false]), .bool false]) w := by
 simp [Instr.typeAssert, go_sem]
 try rfl
theorem ta_col_cal (p : Value) (w : World) : (Instr.typeAssert (.iface 106 p) 55 121 true).run Tryz.prog w = .ok (.tuple #[(Value.agg #[Value.int IntKind.i64 0, Value.slice none 0 0, Value.int IntKind.i64 0, Value.nilFunc, Value.slice none 0 0, Value.string ⟨#[]⟩, Value.bool false]), .bool false]) w := by
 simp [Instr.typeAssert, go_sem]
 try rfl
theorem ta_pre_cal (p : Value) (w : World) : (Instr.typeAssert (.iface 115 p) 55 121 true).run Tryz.prog w = .ok (.tuple #[(Value.agg #[Value.int IntKind.i64 0, Value.slice none 0 0, Value.int IntKind.i64 0, Value.nilFunc, Value.slice none 0 0, Value.string ⟨#[]⟩, Value.bool false]), .bool false]) w := by
 simp [Instr.typeAssert, go_sem]
 try rfl
theorem ta_inf_cal (p : Value) (w : World) : (Instr.typeAssert (.iface 118 p) 55 121 true).run Tryz.prog w = .ok (.tuple #[(Value.agg #[Value.int IntKind.i64 0, Value.slice none 0 0, Value.int IntKind.i64 0, Value.nilFunc, Value.slice none 0 0, Value.string ⟨#[]⟩, Value.bool false]), .bool false]) w := by
 simp [Instr.typeAssert, go_sem]
 try rfl
theorem ta_cal_cal (p : Value) (w : World) : (Instr.typeAssert (.iface 121 p) 55 121 true).run Tryz.prog w = .ok (.tuple #[p, .bool true]) w := by
 simp [Instr.typeAssert, go_sem]
 try rfl
attribute [local go_sem] ta_lit_lit ta_col_lit ta_pre_lit ta_inf_lit ta_cal_lit ta_lit_col ta_col_col ta_pre_col ta_inf_col ta_cal_col ta_lit_pre ta_col_pre ta_pre_pre ta_inf_pre ta_cal_pre ta_lit_inf ta_col_inf ta_pre_inf ta_inf_inf ta_cal_inf ta_lit_cal ta_col_cal ta_pre_cal ta_inf_cal ta_cal_cal
theorem written_col (pl : Int) (nm : ByteArray) (w : World) :
   Calls Tryz.prog 24 #[.iface 106 (.agg #[.int .i64 pl, .string nm])] w fun e w' => e = .returned (.string nm) ∧ Below w.heap.size w w' := by
 go_enter Tryz.func24, Tryz.ntmps24
 go_wp2_with fail
 go_ret
 exact ⟨rfl, xbel1 w _⟩
theorem written_lit (k n : Int) (t s : ByteArray) (w : World) (H : ∀ W, Below w.heap.size w W → Calls Tryz.prog 46 #[.agg #[.int .i64 k, .int .i64 n, .string t]] W fun e w' => e = .returned (.string s) ∧ Below W.heap.size W w') :
   Calls Tryz.prog 24 #[.iface 104 (.agg #[.int .i64 k, .int .i64 n, .string t])] w fun e w' => e = .returned (.string s) ∧ Below w.heap.size w w' := by
 have HH := xhidMk H
 clear H
 go_enter Tryz.func24, Tryz.ntmps24
 go_wp2_with fail
 refine (HH.out _ (xbel1 w _)).mono ?_
 rintro e w2 ⟨rfl, hb2⟩
 have HB2 : Hid (Below w.heap.size w w2) := (xbel1 w _).trans (hb2.mono (by simp))
 clear hb2
 go_wp2_with fail
 go_ret
 exact ⟨rfl, HB2.out⟩
def WR (w : World) (v : Value) (s : ByteArray) : Prop := ∀ W, Below w.heap.size w W → Calls Tryz.prog 24 #[v] W fun e w' => e = .returned (.string s) ∧ Below W.heap.size W w'
theorem WR.later {w w' : World} {v : Value} {s : ByteArray} (h : WR w v s) (hb : Below w.heap.size w w') : WR w' v s := fun W hW => h W (hb.trans (hW.mono hb.size))
end Go.Proofs.YtckdmmfmnhcabaaGreatDoor
namespace Go.Proofs.YtckdmmfmnhcabaaGreatDoor
open Go.RowKit
set_option linter.unusedVariables false
set_option linter.unusedSimpArgs false
set_option maxRecDepth 100000
set_option maxHeartbeats 4000000
attribute [local go_sem] ta_lit_lit ta_col_lit ta_pre_lit ta_inf_lit ta_cal_lit ta_lit_col ta_col_col ta_pre_col ta_inf_col ta_cal_col ta_lit_pre ta_col_pre ta_pre_pre ta_inf_pre ta_cal_pre ta_lit_inf ta_col_inf ta_pre_inf ta_inf_inf ta_cal_inf ta_lit_cal ta_col_cal ta_pre_cal ta_inf_cal ta_cal_cal
def KPre (w : World) (p : Nat) (pl : Int) (ta : Option Addr) (tn tc : Nat) (o2 : Int) (fn : Nat) (fk : Array Value) (b c : Nat) (s : ByteArray) (rk : Int) (u : Value) (W : World) : Prop :=
 W.cell? ⟨p, 0, none⟩ = some (.int .i64 pl) ∧ W.cell? ⟨p, 1, none⟩ = some (.slice ta tn tc) ∧ W.cell? ⟨p, 2, none⟩ = some (.int .i64 o2) ∧ W.cell? ⟨p, 3, none⟩ = some (.func (.func fn) #[] fk) ∧ W.cell? ⟨p, 4, none⟩ = some (.slice (some ⟨b, 0, none⟩) 1 c) ∧ W.cell? ⟨p, 5, none⟩ = some (.string s) ∧ W.cell? ⟨p, 6, none⟩ = some (.int .i64 rk) ∧ W.cell? ⟨b, 0, none⟩ = some u ∧ Below w.heap.size w W
theorem KPre.later {w : World} {p : Nat} {pl : Int} {ta : Option Addr} {tn tc : Nat} {o2 : Int} {fn : Nat} {fk : Array Value} {b c : Nat} {s : ByteArray} {rk : Int} {u : Value} {W W' : World} (h : KPre w p pl ta tn tc o2 fn fk b c s rk u W) (hb : Below W.heap.size W W') : KPre w p pl ta tn tc o2 fn fk b c s rk u W' := by
 obtain ⟨h0, h1, h2, h3, h4, h5, h6, h7, h8⟩ := h
 exact ⟨xcell hb h0, xcell hb h1, xcell hb h2, xcell hb h3, xcell hb h4, xcell hb h5, xcell hb h6, xcell hb h7, h8.trans (hb.mono h8.size)⟩
theorem written_pre (pl : Int) (s : ByteArray) (ta : Option Addr) (tn tc : Nat) (o2 : Int) (fn : Nat) (fk : Array Value) (b c : Nat) (x : X) (u : Value) (g : Nat) (w : World) (S : ByteArray) (hu : w.cell? ⟨b, 0, none⟩ = some u) (hx : Nd w g x u) (hs : S.size ≤ 1000000) (hsz : s.size ≤ 1000) (H : WR w u S) :
   Calls Tryz.prog 24 #[.iface 115 (.agg #[.int .i64 pl, .slice ta tn tc, .int .i64 o2, .func (.func fn) #[] fk, .slice (some ⟨b, 0, none⟩) 1 c, .string s, .int .i64 (preRank s)])] w fun e w' => e = .returned (.string (leadS s ++ brk (decide (rkX x < preRank s)) S)) ∧ Below w.heap.size w w' := by
 obtain ⟨L, HL⟩ : ∃ L, Hid (leadS s = L) := ⟨_, rfl⟩
 obtain ⟨R, HR⟩ : ∃ R, Hid (brk (decide (rkX x < preRank s)) S = R) := ⟨_, rfl⟩
 have hLs : L.size ≤ 1001 := by
   rw [← HL.out]; unfold leadS; split
   · rw [ByteArray.size_append]; have : bSp.size = 1 := rfl; omega
   · omega
 have hRs : R.size ≤ 1000002 := by
   rw [← HR.out]; unfold brk; split
   · rw [ByteArray.size_append, ByteArray.size_append]; have : bOpn.size = 1 := rfl; have : bCls.size = 1 := rfl; omega
   · omega
 rw [HL.out, HR.out]
 have HC1 : Hid (∀ W, KPre w w.heap.size pl ta tn tc o2 fn fk b c s (preRank s) u W → Calls Tryz.prog 47 #[.agg #[.int .i64 pl, .slice ta tn tc, .int .i64 o2, .func (.func fn) #[] fk, .slice (some ⟨b, 0, none⟩) 1 c, .string s, .int .i64 (preRank s)]] W fun e w' => e = .returned (.string L) ∧ KPre w w.heap.size pl ta tn tc o2 fn fk b c s (preRank s) u w') := fun W hW => by
   refine (lead_any s W _ _ _ _ _).mono ?_
   rintro e w' ⟨rfl, hb⟩
   exact ⟨by rw [HL.out], hW.later hb⟩
 have HC2 : Hid (∀ W, KPre w w.heap.size pl ta tn tc o2 fn fk b c s (preRank s) u W → Calls Tryz.prog 48 #[u, .int .i64 (preRank s)] W fun e w' => e = .returned (.string R) ∧ KPre w w.heap.size pl ta tn tc o2 fn fk b c s (preRank s) u w') := fun W hW => by
   refine (placed_any x u W g (hx.later hW.2.2.2.2.2.2.2.2) S (preRank s) (by omega) (H.later hW.2.2.2.2.2.2.2.2)).mono ?_
   rintro e w' ⟨rfl, hb⟩
   exact ⟨by rw [HR.out], hW.later hb⟩
 generalize preRank s = rk at *
 have hb0 := xcell (xbel1 w (.cells #[.int .i64 pl, .slice ta tn tc, .int .i64 o2, .func (.func fn) #[] fk, .slice (some ⟨b, 0, none⟩) 1 c, .string s, .int .i64 rk] 115)) hu
 have HB0 := xhidMk (xbel1 w (.cells #[.int .i64 pl, .slice ta tn tc, .int .i64 o2, .func (.func fn) #[] fk, .slice (some ⟨b, 0, none⟩) 1 c, .string s, .int .i64 rk] 115))
 clear hx H hu HL HR
 go_enter Tryz.func24, Tryz.ntmps24
 go_wp2_with fail
 obtain ⟨W1, hW1⟩ : ∃ W1, W1 = w.alloc (.cells #[.int .i64 pl, .slice ta tn tc, .int .i64 o2, .func (.func fn) #[] fk, .slice (some ⟨b, 0, none⟩) 1 c, .string s, .int .i64 rk] 115) := ⟨_, rfl⟩
 have k0 : W1.cell? ⟨w.heap.size, 0, none⟩ = some (.int .i64 pl) := by rw [hW1]; go_simp
 have k1 : W1.cell? ⟨w.heap.size, 1, none⟩ = some (.slice ta tn tc) := by rw [hW1]; go_simp
 have k2 : W1.cell? ⟨w.heap.size, 2, none⟩ = some (.int .i64 o2) := by rw [hW1]; go_simp
 have k3 : W1.cell? ⟨w.heap.size, 3, none⟩ = some (.func (.func fn) #[] fk) := by rw [hW1]; go_simp
 have k4 : W1.cell? ⟨w.heap.size, 4, none⟩ = some (.slice (some ⟨b, 0, none⟩) 1 c) := by rw [hW1]; go_simp
 have k5 : W1.cell? ⟨w.heap.size, 5, none⟩ = some (.string s) := by rw [hW1]; go_simp
 have k6 : W1.cell? ⟨w.heap.size, 6, none⟩ = some (.int .i64 rk) := by rw [hW1]; go_simp
 have k7 : W1.cell? ⟨b, 0, none⟩ = some u := by rw [hW1]; exact hb0
 have k8 : Below w.heap.size w W1 := by rw [hW1]; exact HB0.out
 rw [← hW1]
 clear hW1 hb0 HB0
 have hj : (9223372036854775807 < L.size + R.size) = False := by simp; omega
 go_region_held3 (fun W => W.cell? ⟨w.heap.size, 0, none⟩ = some (.int .i64 pl) ∧ W.cell? ⟨w.heap.size, 1, none⟩ = some (.slice ta tn tc) ∧ W.cell? ⟨w.heap.size, 2, none⟩ = some (.int .i64 o2) ∧ W.cell? ⟨w.heap.size, 3, none⟩ = some (.func (.func fn) #[] fk) ∧ W.cell? ⟨w.heap.size, 4, none⟩ = some (.slice (some ⟨b, 0, none⟩) 1 c) ∧ W.cell? ⟨w.heap.size, 5, none⟩ = some (.string s) ∧ W.cell? ⟨w.heap.size, 6, none⟩ = some (.int .i64 rk) ∧ W.cell? ⟨b, 0, none⟩ = some u ∧ Below w.heap.size w W) (first | exact ⟨k0, k1, k2, k3, k4, k5, k6, k7, k8.drew⟩ | exact hKP) (first
   | (go_at_call 47; refine (HC1.out _ (by assumption)).mono ?_; rintro e w' ⟨rfl, hKP⟩)
   | (go_at_call 48; refine (HC2.out _ (by assumption)).mono ?_; rintro e w' ⟨rfl, hKP⟩))
 all_goals
   go_wp2
   go_ret
   exact ⟨rfl, hKP.2.2.2.2.2.2.2.2⟩
end Go.Proofs.YtckdmmfmnhcabaaGreatDoor
namespace Go.Proofs.YtckdmmfmnhcabaaGreatDoor
open Go.RowKit
set_option linter.unusedVariables false
set_option linter.unusedSimpArgs false
set_option maxRecDepth 100000
set_option maxHeartbeats 4000000
attribute [local go_sem] ta_lit_lit ta_col_lit ta_pre_lit ta_inf_lit ta_cal_lit ta_lit_col ta_col_col ta_pre_col ta_inf_col ta_cal_col ta_lit_pre ta_col_pre ta_pre_pre ta_inf_pre ta_cal_pre ta_lit_inf ta_col_inf ta_pre_inf ta_inf_inf ta_cal_inf ta_lit_cal ta_col_cal ta_pre_cal ta_inf_cal ta_cal_cal
theorem xw64 {x : Int} (h1 : -9223372036854775808 ≤ x) (h2 : x < 9223372036854775808) : wrap64 x = x := by
 unfold wrap64
 omega
theorem xwi64 {x : Int} (h1 : -9223372036854775808 ≤ x) (h2 : x < 9223372036854775808) : IntKind.i64.wrap x = x := by
 simp [IntKind.wrap, IntKind.bits, IntKind.signed]
 omega
def KInf (w : World) (p : Nat) (pl : Int) (ta : Option Addr) (tn tc : Nat) (o2 : Int) (fn : Nat) (fk : Array Value) (b c : Nat) (s : ByteArray) (rk : Int) (u u' : Value) (W : World) : Prop :=
 W.cell? ⟨p, 0, none⟩ = some (.int .i64 pl) ∧ W.cell? ⟨p, 1, none⟩ = some (.slice ta tn tc) ∧ W.cell? ⟨p, 2, none⟩ = some (.int .i64 o2) ∧ W.cell? ⟨p, 3, none⟩ = some (.func (.func fn) #[] fk) ∧ W.cell? ⟨p, 4, none⟩ = some (.slice (some ⟨b, 0, none⟩) 2 c) ∧ W.cell? ⟨p, 5, none⟩ = some (.string s) ∧ W.cell? ⟨p, 6, none⟩ = some (.int .i64 rk) ∧ W.cell? ⟨b, 0, none⟩ = some u ∧ W.cell? ⟨b, 1, none⟩ = some u' ∧ Below w.heap.size w W
theorem KInf.later {w : World} {p : Nat} {pl : Int} {ta : Option Addr} {tn tc : Nat} {o2 : Int} {fn : Nat} {fk : Array Value} {b c : Nat} {s : ByteArray} {rk : Int} {u u' : Value} {W W' : World} (h : KInf w p pl ta tn tc o2 fn fk b c s rk u u' W) (hb : Below W.heap.size W W') : KInf w p pl ta tn tc o2 fn fk b c s rk u u' W' := by
 obtain ⟨h0, h1, h2, h3, h4, h5, h6, h7, h9, h8⟩ := h
 exact ⟨xcell hb h0, xcell hb h1, xcell hb h2, xcell hb h3, xcell hb h4, xcell hb h5, xcell hb h6, xcell hb h7, xcell hb h9, h8.trans (hb.mono h8.size)⟩
theorem KInf.bel {w : World} {p : Nat} {pl : Int} {ta : Option Addr} {tn tc : Nat} {o2 : Int} {fn : Nat} {fk : Array Value} {b c : Nat} {s : ByteArray} {rk : Int} {u u' : Value} {W : World} (h : KInf w p pl ta tn tc o2 fn fk b c s rk u u' W) : Below w.heap.size w W := h.2.2.2.2.2.2.2.2.2
theorem brk_size (b : Bool) (S : ByteArray) : (brk b S).size ≤ S.size + 2 := by
 unfold brk; split
 · rw [ByteArray.size_append, ByteArray.size_append]; have : bOpn.size = 1 := rfl; have : bCls.size = 1 := rfl; omega
 · omega
theorem written_inf (pl : Int) (s : ByteArray) (ta : Option Addr) (tn tc : Nat) (o2 : Int) (fn : Nat) (fk : Array Value) (b c : Nat) (x x' : X) (u u' : Value) (g : Nat) (w : World) (S S' : ByteArray) (hu : w.cell? ⟨b, 0, none⟩ = some u) (hu' : w.cell? ⟨b, 1, none⟩ = some u') (hx : Nd w g x u) (hx' : Nd w g x' u') (hs : S.size ≤ 1000000) (hs' : S'.size ≤ 1000000) (hsz : s.size ≤ 1000) (H : WR w u S) (H' : WR w u' S') :
   Calls Tryz.prog 24 #[.iface 118 (.agg #[.int .i64 pl, .slice ta tn tc, .int .i64 o2, .func (.func fn) #[] fk, .slice (some ⟨b, 0, none⟩) 2 c, .string s, .int .i64 (sgn s)])] w fun e w' => e = .returned (.string (brk (decide (rkX x < leftR s)) S ++ bSp ++ s ++ bSp ++ brk (decide (rkX x' < sgn s + 1)) S')) ∧ Below w.heap.size w w' := by
 obtain ⟨L, HL⟩ : ∃ L, Hid (brk (decide (rkX x < leftR s)) S = L) := ⟨_, rfl⟩
 obtain ⟨R, HR⟩ : ∃ R, Hid (brk (decide (rkX x' < sgn s + 1)) S' = R) := ⟨_, rfl⟩
 have hLs : L.size ≤ 1000002 := by rw [← HL.out]; have := brk_size (decide (rkX x < leftR s)) S; omega
 have hRs : R.size ≤ 1000002 := by rw [← HR.out]; have := brk_size (decide (rkX x' < sgn s + 1)) S'; omega
 rw [HL.out, HR.out]
 have hle := sgn_le s
 have HC1 : Hid (∀ W, KInf w w.heap.size pl ta tn tc o2 fn fk b c s (sgn s) u u' W → Calls Tryz.prog 49 #[.agg #[.int .i64 pl, .slice ta tn tc, .int .i64 o2, .func (.func fn) #[] fk, .slice (some ⟨b, 0, none⟩) 2 c, .string s, .int .i64 (sgn s)]] W fun e w' => e = .returned (.int .i64 (leftR s)) ∧ KInf w w.heap.size pl ta tn tc o2 fn fk b c s (sgn s) u u' w') := fun W hW => by
   refine (left_any s W _ _ _ _ _).mono ?_
   rintro e w' ⟨rfl, hb⟩
   exact ⟨rfl, hW.later hb⟩
 have HC2 : Hid (∀ W, KInf w w.heap.size pl ta tn tc o2 fn fk b c s (sgn s) u u' W → Calls Tryz.prog 48 #[u, .int .i64 (leftR s)] W fun e w' => e = .returned (.string L) ∧ KInf w w.heap.size pl ta tn tc o2 fn fk b c s (sgn s) u u' w') := fun W hW => by
   refine (placed_any x u W g (hx.later hW.bel) S (leftR s) (by omega) (H.later hW.bel)).mono ?_
   rintro e w' ⟨rfl, hb⟩
   exact ⟨by rw [HL.out], hW.later hb⟩
 have HC3 : Hid (∀ W, KInf w w.heap.size pl ta tn tc o2 fn fk b c s (sgn s) u u' W → Calls Tryz.prog 48 #[u', .int .i64 (sgn s + 1)] W fun e w' => e = .returned (.string R) ∧ KInf w w.heap.size pl ta tn tc o2 fn fk b c s (sgn s) u u' w') := fun W hW => by
   refine (placed_any x' u' W g (hx'.later hW.bel) S' (sgn s + 1) (by omega) (H'.later hW.bel)).mono ?_
   rintro e w' ⟨rfl, hb⟩
   exact ⟨by rw [HR.out], hW.later hb⟩
 generalize leftR s = lr at *
 generalize sgn s = rkn at *
 have hwr : IntKind.i64.wrap ((rkn : Int) + 1) = (rkn : Int) + 1 := xwi64 (by omega) (by omega)
 have hwr2 : wrap64 ((rkn : Int) + 1) = (rkn : Int) + 1 := xw64 (by omega) (by omega)
 clear hle
 generalize (rkn : Int) = rk at *
 have hb0 := xcell (xbel1 w (.cells #[.int .i64 pl, .slice ta tn tc, .int .i64 o2, .func (.func fn) #[] fk, .slice (some ⟨b, 0, none⟩) 2 c, .string s, .int .i64 rk] 118)) hu
 have hb1 := xcell (xbel1 w (.cells #[.int .i64 pl, .slice ta tn tc, .int .i64 o2, .func (.func fn) #[] fk, .slice (some ⟨b, 0, none⟩) 2 c, .string s, .int .i64 rk] 118)) hu'
 have HB0 := xhidMk (xbel1 w (.cells #[.int .i64 pl, .slice ta tn tc, .int .i64 o2, .func (.func fn) #[] fk, .slice (some ⟨b, 0, none⟩) 2 c, .string s, .int .i64 rk] 118))
 clear hx H hu hx' H' hu' HL HR
 go_enter Tryz.func24, Tryz.ntmps24
 go_wp2_with fail
 obtain ⟨W1, hW1⟩ : ∃ W1, W1 = w.alloc (.cells #[.int .i64 pl, .slice ta tn tc, .int .i64 o2, .func (.func fn) #[] fk, .slice (some ⟨b, 0, none⟩) 2 c, .string s, .int .i64 rk] 118) := ⟨_, rfl⟩
 have k0 : W1.cell? ⟨w.heap.size, 0, none⟩ = some (.int .i64 pl) := by rw [hW1]; go_simp
 have k1 : W1.cell? ⟨w.heap.size, 1, none⟩ = some (.slice ta tn tc) := by rw [hW1]; go_simp
 have k2 : W1.cell? ⟨w.heap.size, 2, none⟩ = some (.int .i64 o2) := by rw [hW1]; go_simp
 have k3 : W1.cell? ⟨w.heap.size, 3, none⟩ = some (.func (.func fn) #[] fk) := by rw [hW1]; go_simp
 have k4 : W1.cell? ⟨w.heap.size, 4, none⟩ = some (.slice (some ⟨b, 0, none⟩) 2 c) := by rw [hW1]; go_simp
 have k5 : W1.cell? ⟨w.heap.size, 5, none⟩ = some (.string s) := by rw [hW1]; go_simp
 have k6 : W1.cell? ⟨w.heap.size, 6, none⟩ = some (.int .i64 rk) := by rw [hW1]; go_simp
 have k7 : W1.cell? ⟨b, 0, none⟩ = some u := by rw [hW1]; exact hb0
 have k9 : W1.cell? ⟨b, 1, none⟩ = some u' := by rw [hW1]; exact hb1
 have k8 : Below w.heap.size w W1 := by rw [hW1]; exact HB0.out
 rw [← hW1]
 clear hW1 hb0 hb1 HB0
 have j1 : (9223372036854775807 < L.size + 1) = False := by simp; omega
 have j2 : (9223372036854775807 < L.size + 1 + s.size) = False := by simp; omega
 have j3 : (9223372036854775807 < L.size + 1 + s.size + 1) = False := by simp; omega
 have j4 : (9223372036854775807 < L.size + 1 + s.size + 1 + R.size) = False := by simp; omega
 go_region_held3 (fun W => W.cell? ⟨w.heap.size, 0, none⟩ = some (.int .i64 pl) ∧ W.cell? ⟨w.heap.size, 1, none⟩ = some (.slice ta tn tc) ∧ W.cell? ⟨w.heap.size, 2, none⟩ = some (.int .i64 o2) ∧ W.cell? ⟨w.heap.size, 3, none⟩ = some (.func (.func fn) #[] fk) ∧ W.cell? ⟨w.heap.size, 4, none⟩ = some (.slice (some ⟨b, 0, none⟩) 2 c) ∧ W.cell? ⟨w.heap.size, 5, none⟩ = some (.string s) ∧ W.cell? ⟨w.heap.size, 6, none⟩ = some (.int .i64 rk) ∧ W.cell? ⟨b, 0, none⟩ = some u ∧ W.cell? ⟨b, 1, none⟩ = some u' ∧ Below w.heap.size w W) (first | exact ⟨k0, k1, k2, k3, k4, k5, k6, k7, k9, k8.drew⟩ | exact hKP) (first
   | (go_at_call 49; refine (HC1.out _ (by assumption)).mono ?_; rintro e w' ⟨rfl, hKP⟩)
   | (go_at_call_has 48 u; refine (HC2.out _ (by assumption)).mono ?_; rintro e w' ⟨rfl, hKP⟩)
   | (go_at_call_has 48 u'; refine (HC3.out _ (by assumption)).mono ?_; rintro e w' ⟨rfl, hKP⟩))
 all_goals
   go_wp2
   go_ret
   exact ⟨by unfold bSp; rfl, hKP.2.2.2.2.2.2.2.2.2⟩
end Go.Proofs.YtckdmmfmnhcabaaGreatDoor
