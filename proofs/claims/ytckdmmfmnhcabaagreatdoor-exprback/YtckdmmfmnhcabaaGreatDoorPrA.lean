import Derived.Test.YtckdmmfmnhcabaaGreatDoorXe1
namespace Go.Proofs.YtckdmmfmnhcabaaGreatDoor
open Go.RowKit
set_option linter.unusedVariables false
set_option linter.unusedSimpArgs false
set_option maxRecDepth 100000

def rkX : X → Int
 | .pre _ s _ => preRank s
 | .inf _ s _ _ => sgn s
 | _ => 7
theorem ta_lit_inf (p : Value) (w : World) : (Instr.typeAssert (.iface 104 p) 55 118 true).run Tryz.prog w = .ok (.tuple #[(Value.agg #[Value.int IntKind.i64 0, Value.slice none 0 0, Value.int IntKind.i64 0, Value.nilFunc, Value.slice none 0 0, Value.string ⟨#[]⟩, Value.int IntKind.i64 0]), .bool false]) w := by
 simp [Instr.typeAssert, go_sem]
 try rfl
theorem ta_col_inf (p : Value) (w : World) : (Instr.typeAssert (.iface 106 p) 55 118 true).run Tryz.prog w = .ok (.tuple #[(Value.agg #[Value.int IntKind.i64 0, Value.slice none 0 0, Value.int IntKind.i64 0, Value.nilFunc, Value.slice none 0 0, Value.string ⟨#[]⟩, Value.int IntKind.i64 0]), .bool false]) w := by
 simp [Instr.typeAssert, go_sem]
 try rfl
theorem ta_pre_inf (p : Value) (w : World) : (Instr.typeAssert (.iface 115 p) 55 118 true).run Tryz.prog w = .ok (.tuple #[(Value.agg #[Value.int IntKind.i64 0, Value.slice none 0 0, Value.int IntKind.i64 0, Value.nilFunc, Value.slice none 0 0, Value.string ⟨#[]⟩, Value.int IntKind.i64 0]), .bool false]) w := by
 simp [Instr.typeAssert, go_sem]
 try rfl
theorem ta_inf_inf (p : Value) (w : World) : (Instr.typeAssert (.iface 118 p) 55 118 true).run Tryz.prog w = .ok (.tuple #[p, .bool true]) w := by
 simp [Instr.typeAssert, go_sem]
 try rfl
theorem ta_cal_inf (p : Value) (w : World) : (Instr.typeAssert (.iface 121 p) 55 118 true).run Tryz.prog w = .ok (.tuple #[(Value.agg #[Value.int IntKind.i64 0, Value.slice none 0 0, Value.int IntKind.i64 0, Value.nilFunc, Value.slice none 0 0, Value.string ⟨#[]⟩, Value.int IntKind.i64 0]), .bool false]) w := by
 simp [Instr.typeAssert, go_sem]
 try rfl
theorem ta_lit_pre (p : Value) (w : World) : (Instr.typeAssert (.iface 104 p) 55 115 true).run Tryz.prog w = .ok (.tuple #[(Value.agg #[Value.int IntKind.i64 0, Value.slice none 0 0, Value.int IntKind.i64 0, Value.nilFunc, Value.slice none 0 0, Value.string ⟨#[]⟩, Value.int IntKind.i64 0]), .bool false]) w := by
 simp [Instr.typeAssert, go_sem]
 try rfl
theorem ta_col_pre (p : Value) (w : World) : (Instr.typeAssert (.iface 106 p) 55 115 true).run Tryz.prog w = .ok (.tuple #[(Value.agg #[Value.int IntKind.i64 0, Value.slice none 0 0, Value.int IntKind.i64 0, Value.nilFunc, Value.slice none 0 0, Value.string ⟨#[]⟩, Value.int IntKind.i64 0]), .bool false]) w := by
 simp [Instr.typeAssert, go_sem]
 try rfl
theorem ta_pre_pre (p : Value) (w : World) : (Instr.typeAssert (.iface 115 p) 55 115 true).run Tryz.prog w = .ok (.tuple #[p, .bool true]) w := by
 simp [Instr.typeAssert, go_sem]
 try rfl
theorem ta_inf_pre (p : Value) (w : World) : (Instr.typeAssert (.iface 118 p) 55 115 true).run Tryz.prog w = .ok (.tuple #[(Value.agg #[Value.int IntKind.i64 0, Value.slice none 0 0, Value.int IntKind.i64 0, Value.nilFunc, Value.slice none 0 0, Value.string ⟨#[]⟩, Value.int IntKind.i64 0]), .bool false]) w := by
 simp [Instr.typeAssert, go_sem]
 try rfl
theorem ta_cal_pre (p : Value) (w : World) : (Instr.typeAssert (.iface 121 p) 55 115 true).run Tryz.prog w = .ok (.tuple #[(Value.agg #[Value.int IntKind.i64 0, Value.slice none 0 0, Value.int IntKind.i64 0, Value.nilFunc, Value.slice none 0 0, Value.string ⟨#[]⟩, Value.int IntKind.i64 0]), .bool false]) w := by
 simp [Instr.typeAssert, go_sem]
 try rfl
attribute [local go_sem] ta_lit_inf ta_col_inf ta_pre_inf ta_inf_inf ta_cal_inf ta_lit_pre ta_col_pre ta_pre_pre ta_inf_pre ta_cal_pre
theorem xhidMk {P : Prop} (h : P) : Hid P := h
theorem rank_any (x : X) (v : Value) (w : World) (g : Nat) (h : Nd w g x v) :
   Calls Tryz.prog 75 #[v] w fun e w' => e = .returned (.int .i64 (rkX x)) ∧ Below w.heap.size w w' := by
 cases x with
 | lit k n t =>
   rw [Nd] at h
   subst h
   go_enter Tryz.func75, Tryz.ntmps75
   go_wp2_with fail
   go_ret
   exact ⟨rfl, (xbel1 w _).alloc (by simp) _⟩
 | col pl nm =>
   rw [Nd] at h
   subst h
   go_enter Tryz.func75, Tryz.ntmps75
   go_wp2_with fail
   go_ret
   exact ⟨rfl, (xbel1 w _).alloc (by simp) _⟩
 | pre pl s x =>
   rw [Nd] at h
   obtain ⟨tk, f, ps, u, rfl, h2, h3, h4, h5⟩ := h
   obtain ⟨ta, tn, tc, rfl⟩ := h2.form
   obtain ⟨pa, pn, pc, rfl⟩ := h4.form
   obtain ⟨n, k, rfl⟩ := h3.form
   clear h2 h3 h4 h5
   go_enter Tryz.func75, Tryz.ntmps75
   go_wp2_with fail
   go_ret
   exact ⟨rfl, (xbel1 w _).alloc (by simp) _⟩
 | inf pl s l r =>
   rw [Nd] at h
   obtain ⟨tk, f, ps, u, u', rfl, h0, h2, h3, h4, h5, h6⟩ := h
   obtain ⟨ta, tn, tc, rfl⟩ := h2.form
   obtain ⟨pa, pn, pc, rfl⟩ := h4.form
   obtain ⟨n, k, rfl⟩ := h3.form
   clear h2 h3 h4 h5 h6 h0
   go_enter Tryz.func75, Tryz.ntmps75
   go_wp2_with fail
   go_ret
   exact ⟨rfl, xbel1 w _⟩
 | app pl nm l =>
   rw [Nd] at h
   obtain ⟨tk, gv, f, ps, us, rfl, h2, h3, h4, ⟨⟨ta', tn', tc', rfl⟩, hf9⟩⟩ := h
   obtain ⟨pa, pn, pc, rfl⟩ := h3.form
   clear h2 h3 h4
   rcases hf9 with rfl | ⟨n, k, rfl⟩
   · go_enter Tryz.func75, Tryz.ntmps75
     go_wp2_with fail
     go_ret
     exact ⟨rfl, (xbel1 w _).alloc (by simp) _⟩
   · go_enter Tryz.func75, Tryz.ntmps75
     go_wp2_with fail
     go_ret
     exact ⟨rfl, (xbel1 w _).alloc (by simp) _⟩

def bSp : ByteArray := ⟨#[32]⟩
def bOpn : ByteArray := ⟨#[40]⟩
def bCls : ByteArray := ⟨#[41]⟩
def bSep : ByteArray := ⟨#[44, 32]⟩
def brk (b : Bool) (s : ByteArray) : ByteArray := if b then bOpn ++ s ++ bCls else s
def leadS (s : ByteArray) : ByteArray := if s = bNot then s ++ bSp else s
def leftR (s : ByteArray) : Int := if (sgn s : Int) = 3 then 4 else sgn s
theorem lead_any (s : ByteArray) (w : World) (a b c d e : Value) :
   Calls Tryz.prog 47 #[.agg #[a, b, c, d, e, .string s, .int .i64 (preRank s)]] w fun e w' => e = .returned (.string (leadS s)) ∧ Below w.heap.size w w' := by
 unfold leadS preRank
 by_cases h : s = bNot
 · rw [if_pos h, if_pos h]
   subst h
   go_enter Tryz.func47, Tryz.ntmps47
   go_wp2_with fail
   go_ret
   exact ⟨rfl, xbel1 w _⟩
 · rw [if_neg h, if_neg h]
   go_enter Tryz.func47, Tryz.ntmps47
   go_wp2_with fail
   go_ret
   exact ⟨rfl, xbel1 w _⟩
theorem sgn_le (s : ByteArray) : sgn s ≤ 7 := by
 unfold sgn
 repeat' split
 all_goals decide
theorem left_any (s : ByteArray) (w : World) (a b c d e : Value) :
   Calls Tryz.prog 49 #[.agg #[a, b, c, d, e, .string s, .int .i64 (sgn s)]] w fun e w' => e = .returned (.int .i64 (leftR s)) ∧ Below w.heap.size w w' := by
 have hle := sgn_le s
 unfold leftR
 generalize sgn s = r at *
 by_cases h : (r : Int) = 3
 · rw [if_pos h, h]
   clear h hle
   go_enter Tryz.func49, Tryz.ntmps49
   go_wp2_with fail
   go_ret
   exact ⟨rfl, xbel1 w _⟩
 · rw [if_neg h]
   go_enter Tryz.func49, Tryz.ntmps49
   go_wp2_with fail
   go_ret
   exact ⟨rfl, xbel1 w _⟩
theorem placed_any (x : X) (v : Value) (w : World) (g : Nat) (h : Nd w g x v) (s : ByteArray) (asked : Int) (hs : s.size ≤ 1000000) (H : ∀ W, Below w.heap.size w W → Calls Tryz.prog 24 #[v] W fun e w' => e = .returned (.string s) ∧ Below W.heap.size W w') :
   Calls Tryz.prog 48 #[v, .int .i64 asked] w fun e w' => e = .returned (.string (brk (decide (rkX x < asked)) s)) ∧ Below w.heap.size w w' := by
 have HR := xhidMk (rank_any x v w g h)
 have HH := xhidMk H
 clear H h
 by_cases hk : rkX x < asked
 · rw [decide_eq_true hk]
   unfold brk
   rw [if_pos rfl]
   go_enter Tryz.func48, Tryz.ntmps48
   go_wp2_with fail
   refine HR.out.mono ?_
   rintro e w1 ⟨rfl, hb1⟩
   have HB1 := xhidMk hb1
   clear hb1
   go_wp2_with fail
   refine (HH.out _ HB1.out).mono ?_
   rintro e w2 ⟨rfl, hb2⟩
   have HB2 : Hid (Below w.heap.size w w2) := HB1.out.trans (hb2.mono HB1.out.size)
   clear hb2
   go_wp2_with fail
   go_ret
   exact ⟨rfl, HB2.out⟩
 · rw [decide_eq_false hk]
   unfold brk
   rw [if_neg (by decide)]
   go_enter Tryz.func48, Tryz.ntmps48
   go_wp2_with fail
   refine HR.out.mono ?_
   rintro e w1 ⟨rfl, hb1⟩
   have HB1 := xhidMk hb1
   clear hb1
   go_wp2_with fail
   refine (HH.out _ HB1.out).mono ?_
   rintro e w2 ⟨rfl, hb2⟩
   have HB2 : Hid (Below w.heap.size w w2) := HB1.out.trans (hb2.mono HB1.out.size)
   clear hb2
   go_wp2_with fail
   go_ret
   exact ⟨rfl, HB2.out⟩
end Go.Proofs.YtckdmmfmnhcabaaGreatDoor
