import Derived.Test.YtplaplhmjpfbjaaGreatDoorXpO
import Derived.Deep.RegionHeld3
namespace Go.Proofs.YtplaplhmjpfbjaaGreatDoor
open Go.RowKit
set_option linter.unusedVariables false
set_option linter.unusedSimpArgs false
set_option maxRecDepth 100000

def FnPost (w : World) (g : Nat) (nm : ByteArray) (e : Ending) (w' : World) : Prop := Below w.heap.size w w' ∧
  ∃ tk gv f, e = .returned (.tuple #[.agg #[tk, .int .i64 gv, f], .bool (opApp nm).isSome]) ∧ (∃ a n c, tk = .slice a n c) ∧ (f = .nilFunc ∨ ∃ n k, f = .func (.func n) #[] k) ∧ ∀ o, opApp nm = some o → gv = o.2 ∧ Lst w' g tk (o.1.map (Value.int .i64 ·)) ∧ CloIs w' g (toApp nm) f

def preRank (s : ByteArray) : Int := if s = bNot then 2 else 6
/-- The forms of what a call holds. -/
def Frm (tk f : Value) : Prop := (∃ a n c, tk = .slice a n c) ∧ (f = .nilFunc ∨ ∃ n k, f = .func (.func n) #[] k)
mutual
/-- A part of an expression, as it lies behind 'g'. -/
def Nd (w : World) (g : Nat) : X → Value → Prop
  | .lit k n t, v => v = .iface 217 (.agg #[.int .i64 k, .int .i64 n, .string t])
  | .col pl nm, v => v = .iface 220 (.agg #[.int .i64 pl, .string nm])
  | .pre pl s x, v => ∃ tk f ps u, v = .iface 199 (.agg #[.int .i64 pl, tk, .int .i64 (opPre s).2, f, ps, .string s, .int .i64 (preRank s)]) ∧ Lst w g tk ((opPre s).1.map (Value.int .i64 ·)) ∧ CloIs w g (toPre s) f ∧ Lst w g ps [u] ∧ Nd w g x u
  | .inf pl s l r, v => ∃ tk f ps u u', v = .iface 184 (.agg #[.int .i64 pl, tk, .int .i64 (opInf s).2, f, ps, .string s, .int .i64 (sgn s)]) ∧ sgn s ≠ 7 ∧ Lst w g tk ((opInf s).1.map (Value.int .i64 ·)) ∧ CloIs w g (toInf s) f ∧ Lst w g ps [u, u'] ∧ Nd w g l u ∧ Nd w g r u'
  | .app pl nm l, v => ∃ tk gv f ps us, v = .iface 223 (.agg #[.int .i64 pl, tk, .int .i64 gv, f, ps, .string nm, .bool (opApp nm).isSome]) ∧ (∀ o, opApp nm = some o → gv = o.2 ∧ Lst w g tk (o.1.map (Value.int .i64 ·)) ∧ CloIs w g (toApp nm) f) ∧ Lst w g ps us ∧ Nds w g l us ∧ Frm tk f
def Nds (w : World) (g : Nat) : List X → List Value → Prop
  | [], us => us = []
  | x :: l, us => ∃ u us', us = u :: us' ∧ Nd w g x u ∧ Nds w g l us'
end
mutual
theorem Nd.grown {w w' : World} {g : Nat} (hg : w.grownBy w' (some g)) : ∀ (x : X) (v : Value), Nd w g x v → Nd w' g x v
  | .lit k n t, v, h => h
  | .col pl nm, v, h => h
  | .pre pl s x, v, h => by
    rw [Nd] at h ⊢
    obtain ⟨tk, f, ps, u, h1, h2, h3, h4, h5⟩ := h
    exact ⟨tk, f, ps, u, h1, h2.grown hg, h3.grown hg, h4.grown hg, Nd.grown hg x u h5⟩
  | .inf pl s l r, v, h => by
    rw [Nd] at h ⊢
    obtain ⟨tk, f, ps, u, u', h1, h0, h2, h3, h4, h5, h6⟩ := h
    exact ⟨tk, f, ps, u, u', h1, h0, h2.grown hg, h3.grown hg, h4.grown hg, Nd.grown hg l u h5, Nd.grown hg r u' h6⟩
  | .app pl nm l, v, h => by
    rw [Nd] at h ⊢
    obtain ⟨tk, gv, f, ps, us, h1, h2, h3, h4, h9⟩ := h
    exact ⟨tk, gv, f, ps, us, h1, fun o ho => ⟨(h2 o ho).1, (h2 o ho).2.1.grown hg, (h2 o ho).2.2.grown hg⟩, h3.grown hg, Nds.grown hg l us h4, h9⟩
theorem Nds.grown {w w' : World} {g : Nat} (hg : w.grownBy w' (some g)) : ∀ (l : List X) (us : List Value), Nds w g l us → Nds w' g l us
  | [], us, h => h
  | x :: l, us, h => by
    rw [Nds] at h ⊢
    obtain ⟨u, us', h1, h2, h3⟩ := h
    exact ⟨u, us', h1, Nd.grown hg x u h2, Nds.grown hg l us' h3⟩
end
theorem Nd.later {w w' : World} {g : Nat} {x : X} {v : Value} (h : Nd w g x v) (hb : Below w.heap.size w w') : Nd w' g x v := Nd.grown (xgBelow hb) x v h
theorem Nds.later {w w' : World} {g : Nat} {x : List X} {v : List Value} (h : Nds w g x v) (hb : Below w.heap.size w w') : Nds w' g x v := Nds.grown (xgBelow hb) x v h
theorem Nds.length {w : World} {g : Nat} : ∀ {l : List X} {us : List Value}, Nds w g l us → us.length = l.length
  | [], us, h => by rw [Nds] at h; rw [h]; rfl
  | x :: l, us, h => by
    rw [Nds] at h
    obtain ⟨u, us', rfl, h2, h3⟩ := h
    rw [List.length_cons, List.length_cons, Nds.length h3]
theorem Nds.snoc {w : World} {g : Nat} : ∀ {l : List X} {us : List Value} {x : X} {u : Value}, Nds w g l us → Nd w g x u → Nds w g (l ++ [x]) (us ++ [u])
  | [], us, x, u, h, hx => by rw [Nds] at h; rw [h]; simp only [List.nil_append]; rw [Nds]; exact ⟨u, [], rfl, hx, rfl⟩
  | y :: l, us, x, u, h, hx => by
    rw [Nds] at h
    obtain ⟨v, us', rfl, h2, h3⟩ := h
    rw [List.cons_append, Nds]
    exact ⟨v, us' ++ [u], rfl, h2, Nds.snoc h3 hx⟩
theorem Nd.iface {w : World} {g : Nat} {x : X} {v : Value} (h : Nd w g x v) : ∃ t p, v = .iface t p := by
  cases x with
  | lit k n t => exact ⟨_, _, h⟩
  | col pl nm => exact ⟨_, _, h⟩
  | pre pl s x => rw [Nd] at h; obtain ⟨tk, f, ps, u, h1, _⟩ := h; exact ⟨_, _, h1⟩
  | inf pl s l r => rw [Nd] at h; obtain ⟨tk, f, ps, u, u', h1, _⟩ := h; exact ⟨_, _, h1⟩
  | app pl nm l => rw [Nd] at h; obtain ⟨tk, gv, f, ps, us, h1, _⟩ := h; exact ⟨_, _, h1⟩
set_option maxHeartbeats 2000000 in
theorem function_Len (g : Nat) (w : World) (hg : g < w.heap.size) :
    Calls Tryz.prog 173 #[.string bLen] w (FnPost w g bLen) := by
  have hmf := xmf
  unfold FnPost
  rw [show opApp bLen = some ([3], 1) from by decide +kernel, show toApp bLen = orN (.raw 182) from rfl]
  unfold bLen
  go_enter Tryz.func173, Tryz.ntmps173
  go_wp2
  refine bodyPost_ret (v := .tuple #[.agg #[_, _, _], .bool true]) (by simp [results, Tryz.results173, go_sem]; exact ⟨rfl, rfl, rfl⟩) rfl ⟨?_, _, _, _, rfl, ?_, ?_, fun o ho => ?_⟩
  · repeat (first | exact xbel1 _ _ | refine Below.alloc ?_ (by simp; omega) _ | refine Below.alloc ?_ (by simp) _)
  · exact ⟨_, _, _, rfl⟩
  · exact .inr ⟨_, _, rfl⟩
  · obtain rfl := Option.some.inj ho
    refine ⟨rfl, .inr ⟨_, _, rfl, by omega, by decide, by decide, fun i hi => ?_⟩, ?_⟩
    · match i, hi with
      | 0, _ => go_simp
      | 1, h => first | (exfalso; revert h; decide) | go_simp
      | 2, h => first | (exfalso; revert h; decide) | go_simp
      | i + 3, h => exact absurd h (by simp)
    · simp [CloIs, uzN, ariN, orN, cmpN, go_sem]
      try omega
set_option maxHeartbeats 2000000 in
theorem function_Abs (g : Nat) (w : World) (hg : g < w.heap.size) :
    Calls Tryz.prog 173 #[.string bAbs] w (FnPost w g bAbs) := by
  have hmf := xmf
  unfold FnPost
  rw [show opApp bAbs = some ([1], 1) from by decide +kernel, show toApp bAbs = orN (.raw 183) from rfl]
  unfold bAbs
  go_enter Tryz.func173, Tryz.ntmps173
  go_wp2
  refine bodyPost_ret (v := .tuple #[.agg #[_, _, _], .bool true]) (by simp [results, Tryz.results173, go_sem]; exact ⟨rfl, rfl, rfl⟩) rfl ⟨?_, _, _, _, rfl, ?_, ?_, fun o ho => ?_⟩
  · repeat (first | exact xbel1 _ _ | refine Below.alloc ?_ (by simp; omega) _ | refine Below.alloc ?_ (by simp) _)
  · exact ⟨_, _, _, rfl⟩
  · exact .inr ⟨_, _, rfl⟩
  · obtain rfl := Option.some.inj ho
    refine ⟨rfl, .inr ⟨_, _, rfl, by omega, by decide, by decide, fun i hi => ?_⟩, ?_⟩
    · match i, hi with
      | 0, _ => go_simp
      | 1, h => first | (exfalso; revert h; decide) | go_simp
      | 2, h => first | (exfalso; revert h; decide) | go_simp
      | i + 3, h => exact absurd h (by simp)
    · simp [CloIs, uzN, ariN, orN, cmpN, go_sem]
      try omega
set_option maxHeartbeats 2000000 in
theorem function_Cut (g : Nat) (w : World) (hg : g < w.heap.size) :
    Calls Tryz.prog 173 #[.string bCut] w (FnPost w g bCut) := by
  have hmf := xmf
  unfold FnPost
  rw [show opApp bCut = some ([3, 1], 3) from by decide +kernel, show toApp bCut = orN (.raw 184) from rfl]
  unfold bCut
  go_enter Tryz.func173, Tryz.ntmps173
  go_wp2
  refine bodyPost_ret (v := .tuple #[.agg #[_, _, _], .bool true]) (by simp [results, Tryz.results173, go_sem]; exact ⟨rfl, rfl, rfl⟩) rfl ⟨?_, _, _, _, rfl, ?_, ?_, fun o ho => ?_⟩
  · repeat (first | exact xbel1 _ _ | refine Below.alloc ?_ (by simp; omega) _ | refine Below.alloc ?_ (by simp) _)
  · exact ⟨_, _, _, rfl⟩
  · exact .inr ⟨_, _, rfl⟩
  · obtain rfl := Option.some.inj ho
    refine ⟨rfl, .inr ⟨_, _, rfl, by omega, by decide, by decide, fun i hi => ?_⟩, ?_⟩
    · match i, hi with
      | 0, _ => go_simp
      | 1, h => first | (exfalso; revert h; decide) | go_simp
      | 2, h => first | (exfalso; revert h; decide) | go_simp
      | i + 3, h => exact absurd h (by simp)
    · simp [CloIs, uzN, ariN, orN, cmpN, go_sem]
      try omega
set_option maxHeartbeats 2000000 in
theorem function_Isnull (g : Nat) (w : World) (hg : g < w.heap.size) :
    Calls Tryz.prog 173 #[.string bIsnull] w (FnPost w g bIsnull) := by
  have hmf := xmf
  unfold FnPost
  rw [show opApp bIsnull = some ([0], 2) from by decide +kernel, show toApp bIsnull = .raw 185 from rfl]
  unfold bIsnull
  go_enter Tryz.func173, Tryz.ntmps173
  go_wp2
  refine bodyPost_ret (v := .tuple #[.agg #[_, _, _], .bool true]) (by simp [results, Tryz.results173, go_sem]; exact ⟨rfl, rfl, rfl⟩) rfl ⟨?_, _, _, _, rfl, ?_, ?_, fun o ho => ?_⟩
  · repeat (first | exact xbel1 _ _ | refine Below.alloc ?_ (by simp; omega) _ | refine Below.alloc ?_ (by simp) _)
  · exact ⟨_, _, _, rfl⟩
  · exact .inr ⟨_, _, rfl⟩
  · obtain rfl := Option.some.inj ho
    refine ⟨rfl, .inr ⟨_, _, rfl, by omega, by decide, by decide, fun i hi => ?_⟩, ?_⟩
    · match i, hi with
      | 0, _ => go_simp
      | 1, h => first | (exfalso; revert h; decide) | go_simp
      | 2, h => first | (exfalso; revert h; decide) | go_simp
      | i + 3, h => exact absurd h (by simp)
    · simp [CloIs, uzN, ariN, orN, cmpN, go_sem]
      try omega
set_option maxHeartbeats 2000000 in
theorem function_Coalesce (g : Nat) (w : World) (hg : g < w.heap.size) :
    Calls Tryz.prog 173 #[.string bCoalesce] w (FnPost w g bCoalesce) := by
  have hmf := xmf
  unfold FnPost
  rw [show opApp bCoalesce = some ([0, 0], 0) from by decide +kernel, show toApp bCoalesce = .raw 186 from rfl]
  unfold bCoalesce
  go_enter Tryz.func173, Tryz.ntmps173
  go_wp2
  refine bodyPost_ret (v := .tuple #[.agg #[_, _, _], .bool true]) (by simp [results, Tryz.results173, go_sem]; exact ⟨rfl, rfl, rfl⟩) rfl ⟨?_, _, _, _, rfl, ?_, ?_, fun o ho => ?_⟩
  · repeat (first | exact xbel1 _ _ | refine Below.alloc ?_ (by simp; omega) _ | refine Below.alloc ?_ (by simp) _)
  · exact ⟨_, _, _, rfl⟩
  · exact .inr ⟨_, _, rfl⟩
  · obtain rfl := Option.some.inj ho
    refine ⟨rfl, .inr ⟨_, _, rfl, by omega, by decide, by decide, fun i hi => ?_⟩, ?_⟩
    · match i, hi with
      | 0, _ => go_simp
      | 1, h => first | (exfalso; revert h; decide) | go_simp
      | 2, h => first | (exfalso; revert h; decide) | go_simp
      | i + 3, h => exact absurd h (by simp)
    · simp [CloIs, uzN, ariN, orN, cmpN, go_sem]
      try omega
set_option maxHeartbeats 2000000 in
theorem function_If (g : Nat) (w : World) (hg : g < w.heap.size) :
    Calls Tryz.prog 173 #[.string bIf] w (FnPost w g bIf) := by
  have hmf := xmf
  unfold FnPost
  rw [show opApp bIf = some ([2, 0, 0], 0) from by decide +kernel, show toApp bIf = .raw 187 from rfl]
  unfold bIf
  go_enter Tryz.func173, Tryz.ntmps173
  go_wp2
  refine bodyPost_ret (v := .tuple #[.agg #[_, _, _], .bool true]) (by simp [results, Tryz.results173, go_sem]; exact ⟨rfl, rfl, rfl⟩) rfl ⟨?_, _, _, _, rfl, ?_, ?_, fun o ho => ?_⟩
  · repeat (first | exact xbel1 _ _ | refine Below.alloc ?_ (by simp; omega) _ | refine Below.alloc ?_ (by simp) _)
  · exact ⟨_, _, _, rfl⟩
  · exact .inr ⟨_, _, rfl⟩
  · obtain rfl := Option.some.inj ho
    refine ⟨rfl, .inr ⟨_, _, rfl, by omega, by decide, by decide, fun i hi => ?_⟩, ?_⟩
    · match i, hi with
      | 0, _ => go_simp
      | 1, h => first | (exfalso; revert h; decide) | go_simp
      | 2, h => first | (exfalso; revert h; decide) | go_simp
      | i + 3, h => exact absurd h (by simp)
    · simp [CloIs, uzN, ariN, orN, cmpN, go_sem]
      try omega

end Go.Proofs.YtplaplhmjpfbjaaGreatDoor
namespace Go.Proofs.YtplaplhmjpfbjaaGreatDoor
open Go.RowKit
set_option linter.unusedVariables false
set_option linter.unusedSimpArgs false
set_option maxRecDepth 100000

theorem Lst.form {w : World} {g : Nat} {x : Value} {vs : List Value} (h : Lst w g x vs) : ∃ a n c, x = .slice a n c := by
  rcases h with ⟨h, _⟩ | ⟨b, c, h, _⟩
  · exact ⟨_, _, _, h⟩
  · exact ⟨_, _, _, h⟩
theorem CloIs.form {w : World} {g : Nat} {c : Clo} {v : Value} (h : CloIs w g c v) : ∃ n k, v = .func (.func n) #[] k := by
  cases c with
  | raw n => exact ⟨_, _, h⟩
  | bool n b => obtain ⟨a, h, _⟩ := h; exact ⟨_, _, h⟩
  | one n c => obtain ⟨a, u, h, _⟩ := h; exact ⟨_, _, h⟩
theorem CloIs.up {w : World} {g g' : Nat} (hg : g' ≤ g) : ∀ {c : Clo} {v : Value}, CloIs w g c v → CloIs w g' c v
  | .raw n, v, h => h
  | .bool n b, v, ⟨a, h1, h2, h3⟩ => ⟨a, h1, by omega, h3⟩
  | .one n c, v, ⟨a, u, h1, h2, h3, h4⟩ => ⟨a, u, h1, by omega, h3, CloIs.up hg h4⟩
theorem CloIs.later {w w' : World} {g : Nat} {c : Clo} {v : Value} (h : CloIs w g c v) (hb : Below w.heap.size w w') : CloIs w' g c v := h.grown (xgBelow hb)
theorem Lst.one {w : World} {g b c : Nat} {u : Value} (hg : g < b) (hc : 1 ≤ c) (hm : c ≤ maxLen) (h0 : w.cell? ⟨b, 0, none⟩ = some u) : Lst w g (.slice (some ⟨b, 0, none⟩) 1 c) [u] :=
  .inr ⟨b, c, rfl, hg, hc, hm, fun i hi => by match i, hi with | 0, _ => exact h0⟩
theorem Lst.two {w : World} {g b c : Nat} {u u' : Value} (hg : g < b) (hc : 2 ≤ c) (hm : c ≤ maxLen) (h0 : w.cell? ⟨b, 0, none⟩ = some u) (h1 : w.cell? ⟨b, 1, none⟩ = some u') : Lst w g (.slice (some ⟨b, 0, none⟩) 2 c) [u, u'] :=
  .inr ⟨b, c, rfl, hg, hc, hm, fun i hi => by match i, hi with | 0, _ => exact h0 | 1, _ => exact h1⟩
theorem set7 (w : World) (b : Nat) (v0 v1 v2 v3 v4 v5 v6 : Value) : w.grownBy (((((((w.setCell ⟨b, 0, none⟩ v0).setCell ⟨b, 1, none⟩ v1).setCell ⟨b, 2, none⟩ v2).setCell ⟨b, 3, none⟩ v3).setCell ⟨b, 4, none⟩ v4).setCell ⟨b, 5, none⟩ v5).setCell ⟨b, 6, none⟩ v6) (some b) ∧
    (((((((w.setCell ⟨b, 0, none⟩ v0).setCell ⟨b, 1, none⟩ v1).setCell ⟨b, 2, none⟩ v2).setCell ⟨b, 3, none⟩ v3).setCell ⟨b, 4, none⟩ v4).setCell ⟨b, 5, none⟩ v5).setCell ⟨b, 6, none⟩ v6).heap.size = w.heap.size :=
  ⟨xgTrans (xgTrans (xgTrans (xgTrans (xgTrans (xgTrans (xgSet _ _ _) (xgSet _ _ _)) (xgSet _ _ _)) (xgSet _ _ _)) (xgSet _ _ _)) (xgSet _ _ _)) (xgSet _ _ _), by simp⟩
theorem xfroz {w wx : World} {a : Addr} (hb : Below w.heap.size w wx) (ha : a.block < w.heap.size) (h : w.frozen? a = false) : wx.frozen? a = false := (hb.frozen ha).trans h
set_option maxHeartbeats 2000000 in
theorem function_any (t : ByteArray) (g : Nat) (w : World) (hg : g < w.heap.size) :
    Calls Tryz.prog 173 #[.string t] w (FnPost w g t) := by
  by_cases h1 : t = bLen
  · subst h1; exact function_Len g w hg
  by_cases h2 : t = bAbs
  · subst h2; exact function_Abs g w hg
  by_cases h3 : t = bCut
  · subst h3; exact function_Cut g w hg
  by_cases h4 : t = bIsnull
  · subst h4; exact function_Isnull g w hg
  by_cases h5 : t = bCoalesce
  · subst h5; exact function_Coalesce g w hg
  by_cases h6 : t = bIf
  · subst h6; exact function_If g w hg
  have hn : opApp t = none := by unfold opApp; simp [h1, h2, h3, h4, h5, h6]
  have q1 : (t.toList == [108, 101, 110]) = false := xnl h1
  have q2 : (t.toList == [97, 98, 115]) = false := xnl h2
  have q3 : (t.toList == [99, 117, 116]) = false := xnl h3
  have q4 : (t.toList == [105, 115, 110, 117, 108, 108]) = false := xnl h4
  have q5 : (t.toList == [99, 111, 97, 108, 101, 115, 99, 101]) = false := xnl h5
  have q6 : (t.toList == [105, 102]) = false := xnl h6
  unfold FnPost
  rw [hn]
  clear h1 h2 h3 h4 h5 h6 hn
  go_enter Tryz.func173, Tryz.ntmps173
  go_wp2
  refine bodyPost_ret (v := .tuple #[.agg #[.slice none 0 0, .int .i64 0, .nilFunc], .bool false]) (by simp [results, Tryz.results173, go_sem]) rfl ⟨xbel1 _ _, _, _, _, rfl, ⟨_, _, _, rfl⟩, .inl rfl, fun o ho => by cases ho⟩

set_option maxHeartbeats 4000000 in
theorem newInfix_any (t : Tk) (l r : X) (u u' : Value) (g : Nat) (w : World) (hg : g < w.heap.size) (hs : sgn t.tx ≠ 7) (hl : Nd w g l u) (hr : Nd w g r u') :
    Calls Tryz.prog 100 #[tkV t, u, u'] w fun e w' => Below w.heap.size w w' ∧ ∃ p, e = .returned p ∧ Nd w' g (.inf t.pl t.tx l r) (.iface 184 p) := by
  have HL : Hid (Nd w g l u) := hl
  have HR : Hid (Nd w g r u') := hr
  obtain ⟨ut, up, hu⟩ := hl.iface
  obtain ⟨vt, vp, hu'⟩ := hr.iface
  subst hu; subst hu'
  have HO : Hid (∀ W, w.heap.size + 1 < W.heap.size → Calls Tryz.prog 104 #[.string t.tx] W (OpPost W (w.heap.size + 1) (opInf t.tx) (toInf t.tx))) := fun W h => infixOp_any t.tx _ W h hs
  have HS : Hid (sgn t.tx ≠ 7) := hs
  clear hl hr hs
  unfold tkV
  go_enter Tryz.func100, Tryz.ntmps100
  go_wp2_with fail
  go_region_held3 (fun w' => w'.cell? ⟨w.heap.size, 0, none⟩ = some (.int .i64 t.pl) ∧ w'.cell? ⟨w.heap.size, 1, none⟩ = some (.int .i64 t.kd) ∧ w'.cell? ⟨w.heap.size, 2, none⟩ = some (.string t.tx))
    (first | go_keep)
    (first | (go_at_call 104; refine (HO.out _ ?_).mono ?_; (simp); rintro e w1 ⟨hb1, tk, f, rfl, hL1, hC1⟩; have s0 : w1.cell? ⟨w.heap.size, 0, none⟩ = some (.int .i64 t.pl) := xcell hb1 (by go_keep); have s1 : w1.cell? ⟨w.heap.size, 1, none⟩ = some (.int .i64 t.kd) := xcell hb1 (by go_keep); have s2 : w1.cell? ⟨w.heap.size, 2, none⟩ = some (.string t.tx) := xcell hb1 (by go_keep); obtain ⟨ta, tn, tc, rfl⟩ := hL1.form; obtain ⟨fn, fc, rfl⟩ := hC1.form; have hlt := World.block_lt_of_cell? _ _ (xcell (a := ⟨w.heap.size + 1, 0, none⟩) (v := .int .i64 0) hb1 (by go_simp)); skip) | (go_at_call 98; refine (signRank_any _ _).mono ?_; rintro e w2 ⟨rfl, h2⟩; have h3 := h2.symm; subst h3; have q0 := xcell (a := ⟨w.heap.size + 1, 0, none⟩) (v := .int .i64 0) hb1 (by go_simp); have qf0 := xfroz (a := ⟨w.heap.size + 1, 0, none⟩) hb1 (by simp) (by go_simp); have q1 := xcell (a := ⟨w.heap.size + 1, 1, none⟩) (v := .slice none 0 0) hb1 (by go_simp); have qf1 := xfroz (a := ⟨w.heap.size + 1, 1, none⟩) hb1 (by simp) (by go_simp); have q2 := xcell (a := ⟨w.heap.size + 1, 2, none⟩) (v := .int .i64 0) hb1 (by go_simp); have qf2 := xfroz (a := ⟨w.heap.size + 1, 2, none⟩) hb1 (by simp) (by go_simp); have q3 := xcell (a := ⟨w.heap.size + 1, 3, none⟩) (v := .nilFunc) hb1 (by go_simp); have qf3 := xfroz (a := ⟨w.heap.size + 1, 3, none⟩) hb1 (by simp) (by go_simp); have q4 := xcell (a := ⟨w.heap.size + 1, 4, none⟩) (v := .slice none 0 0) hb1 (by go_simp); have qf4 := xfroz (a := ⟨w.heap.size + 1, 4, none⟩) hb1 (by simp) (by go_simp); have q5 := xcell (a := ⟨w.heap.size + 1, 5, none⟩) (v := .string ⟨#[]⟩) hb1 (by go_simp); have qf5 := xfroz (a := ⟨w.heap.size + 1, 5, none⟩) hb1 (by simp) (by go_simp); have q6 := xcell (a := ⟨w.heap.size + 1, 6, none⟩) (v := .int .i64 0) hb1 (by go_simp); have qf6 := xfroz (a := ⟨w.heap.size + 1, 6, none⟩) hb1 (by simp) (by go_simp); skip))
  all_goals
    clear q0 q1 q2 q3 q4 q5 q6 qf0 qf1 qf2 qf3 qf4 qf5 qf6 s0 s1 s2
    have hbb : Below ((w.alloc (.cells #[.int .i64 t.pl, .int .i64 t.kd, .string t.tx] 168)).alloc (.cells #[.int .i64 0, .slice none 0 0, .int .i64 0, .nilFunc, .slice none 0 0, .string ⟨#[]⟩, .int .i64 0] 184)).heap.size ((w.alloc (.cells #[.int .i64 t.pl, .int .i64 t.kd, .string t.tx] 168)).alloc (.cells #[.int .i64 0, .slice none 0 0, .int .i64 0, .nilFunc, .slice none 0 0, .string ⟨#[]⟩, .int .i64 0] 184)) w1 := by
      refine Below.trans ?_ (hb1.mono (by simp))
      first | exact (Below.refl _ _).drew | exact (Below.refl _ _).drew.alloc (by simp) _
    have hO0 : Own w1 (w.heap.size + 1) 184 7 [.int .i64 0, .slice none 0 0, .int .i64 0, .nilFunc, .slice none 0 0, .string ⟨#[]⟩, .int .i64 0] := by
      have := (Own.new (w.alloc (.cells #[.int .i64 t.pl, .int .i64 t.kd, .string t.tx] 168)) 184 7 #[.int .i64 0, .slice none 0 0, .int .i64 0, .nilFunc, .slice none 0 0, .string ⟨#[]⟩, .int .i64 0] rfl).later hbb
      simpa using this
    have hB1 : Below w.heap.size w w1 := ((xbel1 w _).alloc (by simp) _).trans (hbb.mono (by simp; omega))
  · obtain ⟨hG, hZ⟩ := set7 w1 (w.heap.size + 1) (.int .i64 t.pl) (.slice ta tn tc) (.int .i64 (opInf t.tx).2) (.func (.func fn) #[] fc) (.slice (some ⟨w1.heap.size, 0, none⟩) 2 2) (.string t.tx) (.int .i64 (sgn t.tx))
    have hO7 := ((((((((hO0.put 0 (.int .i64 t.pl)).1.put 1 (.slice ta tn tc)).1.put 2 (.int .i64 (opInf t.tx).2)).1.put 3 (.func (.func fn) #[] fc)).1.put 4 (.slice (some ⟨w1.heap.size, 0, none⟩) 2 2)).1.put 5 (.string t.tx)).1.put 6 (.int .i64 (sgn t.tx))).1)
    have hPW : Hid (w1 = w1) := rfl
    generalize World.setCell _ ⟨w.heap.size + 1, 6, none⟩ _ = W7 at hG hZ hO7 ⊢
    have c0 : W7.cell? ⟨w.heap.size + 1, 0, none⟩ = some (.int .i64 t.pl) := by rw [hO7.cell 0 (by decide)]; rfl
    have c1 : W7.cell? ⟨w.heap.size + 1, 1, none⟩ = some (.slice ta tn tc) := by rw [hO7.cell 1 (by decide)]; rfl
    have c2 : W7.cell? ⟨w.heap.size + 1, 2, none⟩ = some (.int .i64 (opInf t.tx).2) := by rw [hO7.cell 2 (by decide)]; rfl
    have c3 : W7.cell? ⟨w.heap.size + 1, 3, none⟩ = some (.func (.func fn) #[] fc) := by rw [hO7.cell 3 (by decide)]; rfl
    have c4 : W7.cell? ⟨w.heap.size + 1, 4, none⟩ = some (.slice (some ⟨w1.heap.size, 0, none⟩) 2 2) := by rw [hO7.cell 4 (by decide)]; rfl
    have c5 : W7.cell? ⟨w.heap.size + 1, 5, none⟩ = some (.string t.tx) := by rw [hO7.cell 5 (by decide)]; rfl
    have c6 : W7.cell? ⟨w.heap.size + 1, 6, none⟩ = some (.int .i64 (sgn t.tx)) := by rw [hO7.cell 6 (by decide)]; rfl
    have hL7 : Lst W7 g (.slice ta tn tc) ((opInf t.tx).1.map (Value.int .i64 ·)) := (hL1.grown hG).up (by omega)
    have hC7 : CloIs W7 g (toInf t.tx) (.func (.func fn) #[] fc) := CloIs.up (by omega) (hC1.grown hG)
    have hB7 : Below w.heap.size w W7 := xbNew hB1 hG (fun k hk => by cases hk; omega)
    have hl7 : w.heap.size + 1 < W7.heap.size := hO7.lt
    have hPP : Lst (W7.alloc (.cells #[.iface ut up, .iface vt vp] 136)) g (.slice (some ⟨w1.heap.size, 0, none⟩) 2 2) [.iface ut up, .iface vt vp] := by
      rw [← hZ]
      exact Lst.two (by omega) (by decide) (by decide) (by go_simp) (by go_simp)
    have FIN : Hid (Below w.heap.size w (W7.alloc (.cells #[.iface ut up, .iface vt vp] 136)) ∧ Nd (W7.alloc (.cells #[.iface ut up, .iface vt vp] 136)) g (.inf t.pl t.tx l r) (.iface 184 (.agg #[.int .i64 t.pl, .slice ta tn tc, .int .i64 (opInf t.tx).2, .func (.func fn) #[] fc, .slice (some ⟨w1.heap.size, 0, none⟩) 2 2, .string t.tx, .int .i64 (sgn t.tx)]))) := by
      have hbF : Below W7.heap.size W7 (W7.alloc (.cells #[.iface ut up, .iface vt vp] 136)) := by first | exact Below.refl _ _ | exact xbel1 _ _
      have hBF := hB7.trans (hbF.mono hB7.size)
      refine ⟨hBF, ?_⟩
      rw [Nd]
      exact ⟨_, _, _, _, _, rfl, HS.out, hL7.later hbF, hC7.later hbF, hPP, HL.out.later hBF, HR.out.later hBF⟩
    clear hG hZ hO7 hL7 hC7 hB7 hPP hL1 hC1 hb1 hbb hO0 hB1 HL HR HO
    go_wp2_with fail
    exact bodyPost_ret (v := .agg #[.int .i64 t.pl, .slice ta tn tc, .int .i64 (opInf t.tx).2, .func (.func fn) #[] fc, .slice (some ⟨w1.heap.size, 0, none⟩) 2 2, .string t.tx, .int .i64 (sgn t.tx)]) (by simp [results, Tryz.results100, go_sem, c0, c1, c2, c3, c4, c5, c6, hl7]) rfl ⟨FIN.out.1, _, rfl, FIN.out.2⟩
  · obtain ⟨hG, hZ⟩ := set7 w1 (w.heap.size + 1) (.int .i64 t.pl) (.slice ta tn tc) (.int .i64 (opInf t.tx).2) (.func (.func fn) #[] fc) (.slice (some ⟨w1.heap.size, 0, none⟩) 2 2) (.string t.tx) (.int .i64 (sgn t.tx))
    have hO7 := ((((((((hO0.put 0 (.int .i64 t.pl)).1.put 1 (.slice ta tn tc)).1.put 2 (.int .i64 (opInf t.tx).2)).1.put 3 (.func (.func fn) #[] fc)).1.put 4 (.slice (some ⟨w1.heap.size, 0, none⟩) 2 2)).1.put 5 (.string t.tx)).1.put 6 (.int .i64 (sgn t.tx))).1)
    have hPW : Hid (w1 = w1) := rfl
    generalize World.setCell _ ⟨w.heap.size + 1, 6, none⟩ _ = W7 at hG hZ hO7 ⊢
    have c0 : W7.cell? ⟨w.heap.size + 1, 0, none⟩ = some (.int .i64 t.pl) := by rw [hO7.cell 0 (by decide)]; rfl
    have c1 : W7.cell? ⟨w.heap.size + 1, 1, none⟩ = some (.slice ta tn tc) := by rw [hO7.cell 1 (by decide)]; rfl
    have c2 : W7.cell? ⟨w.heap.size + 1, 2, none⟩ = some (.int .i64 (opInf t.tx).2) := by rw [hO7.cell 2 (by decide)]; rfl
    have c3 : W7.cell? ⟨w.heap.size + 1, 3, none⟩ = some (.func (.func fn) #[] fc) := by rw [hO7.cell 3 (by decide)]; rfl
    have c4 : W7.cell? ⟨w.heap.size + 1, 4, none⟩ = some (.slice (some ⟨w1.heap.size, 0, none⟩) 2 2) := by rw [hO7.cell 4 (by decide)]; rfl
    have c5 : W7.cell? ⟨w.heap.size + 1, 5, none⟩ = some (.string t.tx) := by rw [hO7.cell 5 (by decide)]; rfl
    have c6 : W7.cell? ⟨w.heap.size + 1, 6, none⟩ = some (.int .i64 (sgn t.tx)) := by rw [hO7.cell 6 (by decide)]; rfl
    have hL7 : Lst W7 g (.slice ta tn tc) ((opInf t.tx).1.map (Value.int .i64 ·)) := (hL1.grown hG).up (by omega)
    have hC7 : CloIs W7 g (toInf t.tx) (.func (.func fn) #[] fc) := CloIs.up (by omega) (hC1.grown hG)
    have hB7 : Below w.heap.size w W7 := xbNew hB1 hG (fun k hk => by cases hk; omega)
    have hl7 : w.heap.size + 1 < W7.heap.size := hO7.lt
    have hPP : Lst (W7.alloc (.cells #[.iface ut up, .iface vt vp] 136)) g (.slice (some ⟨w1.heap.size, 0, none⟩) 2 2) [.iface ut up, .iface vt vp] := by
      rw [← hZ]
      exact Lst.two (by omega) (by decide) (by decide) (by go_simp) (by go_simp)
    have FIN : Hid (Below w.heap.size w (W7.alloc (.cells #[.iface ut up, .iface vt vp] 136)) ∧ Nd (W7.alloc (.cells #[.iface ut up, .iface vt vp] 136)) g (.inf t.pl t.tx l r) (.iface 184 (.agg #[.int .i64 t.pl, .slice ta tn tc, .int .i64 (opInf t.tx).2, .func (.func fn) #[] fc, .slice (some ⟨w1.heap.size, 0, none⟩) 2 2, .string t.tx, .int .i64 (sgn t.tx)]))) := by
      have hbF : Below W7.heap.size W7 (W7.alloc (.cells #[.iface ut up, .iface vt vp] 136)) := by first | exact Below.refl _ _ | exact xbel1 _ _
      have hBF := hB7.trans (hbF.mono hB7.size)
      refine ⟨hBF, ?_⟩
      rw [Nd]
      exact ⟨_, _, _, _, _, rfl, HS.out, hL7.later hbF, hC7.later hbF, hPP, HL.out.later hBF, HR.out.later hBF⟩
    clear hG hZ hO7 hL7 hC7 hB7 hPP hL1 hC1 hb1 hbb hO0 hB1 HL HR HO
    go_wp2_with fail
    exact bodyPost_ret (v := .agg #[.int .i64 t.pl, .slice ta tn tc, .int .i64 (opInf t.tx).2, .func (.func fn) #[] fc, .slice (some ⟨w1.heap.size, 0, none⟩) 2 2, .string t.tx, .int .i64 (sgn t.tx)]) (by simp [results, Tryz.results100, go_sem, c0, c1, c2, c3, c4, c5, c6, hl7]) rfl ⟨FIN.out.1, _, rfl, FIN.out.2⟩
  · obtain ⟨hG, hZ⟩ := set7 w1 (w.heap.size + 1) (.int .i64 t.pl) (.slice ta tn tc) (.int .i64 (opInf t.tx).2) (.func (.func fn) #[] fc) (.slice (some ⟨w.heap.size + 1 + 1, 0, none⟩) 2 2) (.string t.tx) (.int .i64 (sgn t.tx))
    have hO7 := ((((((((hO0.put 0 (.int .i64 t.pl)).1.put 1 (.slice ta tn tc)).1.put 2 (.int .i64 (opInf t.tx).2)).1.put 3 (.func (.func fn) #[] fc)).1.put 4 (.slice (some ⟨w.heap.size + 1 + 1, 0, none⟩) 2 2)).1.put 5 (.string t.tx)).1.put 6 (.int .i64 (sgn t.tx))).1)
    have hPW : Hid (w1 = w1) := rfl
    generalize World.setCell _ ⟨w.heap.size + 1, 6, none⟩ _ = W7 at hG hZ hO7 ⊢
    have c0 : W7.cell? ⟨w.heap.size + 1, 0, none⟩ = some (.int .i64 t.pl) := by rw [hO7.cell 0 (by decide)]; rfl
    have c1 : W7.cell? ⟨w.heap.size + 1, 1, none⟩ = some (.slice ta tn tc) := by rw [hO7.cell 1 (by decide)]; rfl
    have c2 : W7.cell? ⟨w.heap.size + 1, 2, none⟩ = some (.int .i64 (opInf t.tx).2) := by rw [hO7.cell 2 (by decide)]; rfl
    have c3 : W7.cell? ⟨w.heap.size + 1, 3, none⟩ = some (.func (.func fn) #[] fc) := by rw [hO7.cell 3 (by decide)]; rfl
    have c4 : W7.cell? ⟨w.heap.size + 1, 4, none⟩ = some (.slice (some ⟨w.heap.size + 1 + 1, 0, none⟩) 2 2) := by rw [hO7.cell 4 (by decide)]; rfl
    have c5 : W7.cell? ⟨w.heap.size + 1, 5, none⟩ = some (.string t.tx) := by rw [hO7.cell 5 (by decide)]; rfl
    have c6 : W7.cell? ⟨w.heap.size + 1, 6, none⟩ = some (.int .i64 (sgn t.tx)) := by rw [hO7.cell 6 (by decide)]; rfl
    have hL7 : Lst W7 g (.slice ta tn tc) ((opInf t.tx).1.map (Value.int .i64 ·)) := (hL1.grown hG).up (by omega)
    have hC7 : CloIs W7 g (toInf t.tx) (.func (.func fn) #[] fc) := CloIs.up (by omega) (hC1.grown hG)
    have hB7 : Below w.heap.size w W7 := xbNew hB1 hG (fun k hk => by cases hk; omega)
    have hl7 : w.heap.size + 1 < W7.heap.size := hO7.lt
    have hPP : Lst W7 g (.slice (some ⟨w.heap.size + 1 + 1, 0, none⟩) 2 2) [.iface ut up, .iface vt vp] := by
      have h0 : w1.cell? ⟨w.heap.size + 1 + 1, 0, none⟩ = some (.iface ut up) := xcell hb1 (by go_simp)
      have h1 : w1.cell? ⟨w.heap.size + 1 + 1, 1, none⟩ = some (.iface vt vp) := xcell hb1 (by go_simp)
      exact Lst.two (by omega) (by decide) (by decide) (hG.cell h0 (by simp)) (hG.cell h1 (by simp))
    have FIN : Hid (Below w.heap.size w (W7) ∧ Nd (W7) g (.inf t.pl t.tx l r) (.iface 184 (.agg #[.int .i64 t.pl, .slice ta tn tc, .int .i64 (opInf t.tx).2, .func (.func fn) #[] fc, .slice (some ⟨w.heap.size + 1 + 1, 0, none⟩) 2 2, .string t.tx, .int .i64 (sgn t.tx)]))) := by
      have hbF : Below W7.heap.size W7 (W7) := by first | exact Below.refl _ _ | exact xbel1 _ _
      have hBF := hB7.trans (hbF.mono hB7.size)
      refine ⟨hBF, ?_⟩
      rw [Nd]
      exact ⟨_, _, _, _, _, rfl, HS.out, hL7.later hbF, hC7.later hbF, hPP, HL.out.later hBF, HR.out.later hBF⟩
    clear hG hZ hO7 hL7 hC7 hB7 hPP hL1 hC1 hb1 hbb hO0 hB1 HL HR HO
    go_wp2_with fail
    exact bodyPost_ret (v := .agg #[.int .i64 t.pl, .slice ta tn tc, .int .i64 (opInf t.tx).2, .func (.func fn) #[] fc, .slice (some ⟨w.heap.size + 1 + 1, 0, none⟩) 2 2, .string t.tx, .int .i64 (sgn t.tx)]) (by simp [results, Tryz.results100, go_sem, c0, c1, c2, c3, c4, c5, c6, hl7]) rfl ⟨FIN.out.1, _, rfl, FIN.out.2⟩
end Go.Proofs.YtplaplhmjpfbjaaGreatDoor
