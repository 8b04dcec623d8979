import Derived.Test.YtnmelljaangfiaaGreatDoorXpO
namespace Go.Proofs.YtnmelljaangfiaaGreatDoor
open Go.RowKit
set_option linter.unusedVariables false
set_option linter.unusedSimpArgs false
set_option maxRecDepth 100000

def FnPost (w : World) (g : Nat) (nm : ByteArray) (e : Ending) (w' : World) : Prop := Below w.heap.size w w' ∧
  ∃ tk gv f, e = .returned (.tuple #[.agg #[tk, .int .i64 gv, f], .bool (opApp nm).isSome]) ∧ (∃ a n c, tk = .slice a n c) ∧ (f = .nilFunc ∨ ∃ n k, f = .func (.func n) #[] k) ∧ ∀ o, opApp nm = some o → gv = o.2 ∧ Lst w' g tk (o.1.map (Value.int .i64 ·)) ∧ CloIs w' g (toApp nm) f

def preRank (s : ByteArray) : Int := if s = bNot then 2 else 6
/-- The forms of what a call holds. -/
def Frm (tk f : Value) : Prop := (∃ a n c, tk = .slice a n c) ∧ (f = .nilFunc ∨ ∃ n k, f = .func (.func n) #[] k)
mutual
/-- A part of an expression, as it lies behind 'g'. -/
def Nd (w : World) (g : Nat) : X → Value → Prop
  | .lit k n t, v => v = .iface 92 (.agg #[.int .i64 k, .int .i64 n, .string t])
  | .col pl nm, v => v = .iface 94 (.agg #[.int .i64 pl, .string nm])
  | .pre pl s x, v => ∃ tk f ps u, v = .iface 103 (.agg #[.int .i64 pl, tk, .int .i64 (opPre s).2, f, ps, .string s, .int .i64 (preRank s)]) ∧ Lst w g tk ((opPre s).1.map (Value.int .i64 ·)) ∧ CloIs w g (toPre s) f ∧ Lst w g ps [u] ∧ Nd w g x u
  | .inf pl s l r, v => ∃ tk f ps u u', v = .iface 106 (.agg #[.int .i64 pl, tk, .int .i64 (opInf s).2, f, ps, .string s, .int .i64 (sgn s)]) ∧ sgn s ≠ 7 ∧ Lst w g tk ((opInf s).1.map (Value.int .i64 ·)) ∧ CloIs w g (toInf s) f ∧ Lst w g ps [u, u'] ∧ Nd w g l u ∧ Nd w g r u'
  | .app pl nm l, v => ∃ tk gv f ps us, v = .iface 109 (.agg #[.int .i64 pl, tk, .int .i64 gv, f, ps, .string nm, .bool (opApp nm).isSome]) ∧ (∀ o, opApp nm = some o → gv = o.2 ∧ Lst w g tk (o.1.map (Value.int .i64 ·)) ∧ CloIs w g (toApp nm) f) ∧ Lst w g ps us ∧ Nds w g l us ∧ Frm tk f
def Nds (w : World) (g : Nat) : List X → List Value → Prop
  | [], us => us = []
  | x :: l, us => ∃ u us', us = u :: us' ∧ Nd w g x u ∧ Nds w g l us'
end
mutual
theorem Nd.grown {w w' : World} {g : Nat} (hg : w.grownBy w' (some g)) : ∀ (x : X) (v : Value), Nd w g x v → Nd w' g x v
  | .lit k n t, v, h => h
  | .col pl nm, v, h => h
  | .pre pl s x, v, h => by
    rw [Nd] at h ⊢
    obtain ⟨tk, f, ps, u, h1, h2, h3, h4, h5⟩ := h
    exact ⟨tk, f, ps, u, h1, h2.grown hg, h3.grown hg, h4.grown hg, Nd.grown hg x u h5⟩
  | .inf pl s l r, v, h => by
    rw [Nd] at h ⊢
    obtain ⟨tk, f, ps, u, u', h1, h0, h2, h3, h4, h5, h6⟩ := h
    exact ⟨tk, f, ps, u, u', h1, h0, h2.grown hg, h3.grown hg, h4.grown hg, Nd.grown hg l u h5, Nd.grown hg r u' h6⟩
  | .app pl nm l, v, h => by
    rw [Nd] at h ⊢
    obtain ⟨tk, gv, f, ps, us, h1, h2, h3, h4, h9⟩ := h
    exact ⟨tk, gv, f, ps, us, h1, fun o ho => ⟨(h2 o ho).1, (h2 o ho).2.1.grown hg, (h2 o ho).2.2.grown hg⟩, h3.grown hg, Nds.grown hg l us h4, h9⟩
theorem Nds.grown {w w' : World} {g : Nat} (hg : w.grownBy w' (some g)) : ∀ (l : List X) (us : List Value), Nds w g l us → Nds w' g l us
  | [], us, h => h
  | x :: l, us, h => by
    rw [Nds] at h ⊢
    obtain ⟨u, us', h1, h2, h3⟩ := h
    exact ⟨u, us', h1, Nd.grown hg x u h2, Nds.grown hg l us' h3⟩
end
theorem Nd.later {w w' : World} {g : Nat} {x : X} {v : Value} (h : Nd w g x v) (hb : Below w.heap.size w w') : Nd w' g x v := Nd.grown (xgBelow hb) x v h
theorem Nds.later {w w' : World} {g : Nat} {x : List X} {v : List Value} (h : Nds w g x v) (hb : Below w.heap.size w w') : Nds w' g x v := Nds.grown (xgBelow hb) x v h
theorem Nds.length {w : World} {g : Nat} : ∀ {l : List X} {us : List Value}, Nds w g l us → us.length = l.length
  | [], us, h => by rw [Nds] at h; rw [h]; rfl
  | x :: l, us, h => by
    rw [Nds] at h
    obtain ⟨u, us', rfl, h2, h3⟩ := h
    rw [List.length_cons, List.length_cons, Nds.length h3]
theorem Nds.snoc {w : World} {g : Nat} : ∀ {l : List X} {us : List Value} {x : X} {u : Value}, Nds w g l us → Nd w g x u → Nds w g (l ++ [x]) (us ++ [u])
  | [], us, x, u, h, hx => by rw [Nds] at h; rw [h]; simp only [List.nil_append]; rw [Nds]; exact ⟨u, [], rfl, hx, rfl⟩
  | y :: l, us, x, u, h, hx => by
    rw [Nds] at h
    obtain ⟨v, us', rfl, h2, h3⟩ := h
    rw [List.cons_append, Nds]
    exact ⟨v, us' ++ [u], rfl, h2, Nds.snoc h3 hx⟩
theorem Nd.iface {w : World} {g : Nat} {x : X} {v : Value} (h : Nd w g x v) : ∃ t p, v = .iface t p := by
  cases x with
  | lit k n t => exact ⟨_, _, h⟩
  | col pl nm => exact ⟨_, _, h⟩
  | pre pl s x => rw [Nd] at h; obtain ⟨tk, f, ps, u, h1, _⟩ := h; exact ⟨_, _, h1⟩
  | inf pl s l r => rw [Nd] at h; obtain ⟨tk, f, ps, u, u', h1, _⟩ := h; exact ⟨_, _, h1⟩
  | app pl nm l => rw [Nd] at h; obtain ⟨tk, gv, f, ps, us, h1, _⟩ := h; exact ⟨_, _, h1⟩
set_option maxHeartbeats 2000000 in
theorem function_Len (g : Nat) (w : World) (hg : g < w.heap.size) :
    Calls Tryz.prog 171 #[.string bLen] w (FnPost w g bLen) := by
  have hmf := xmf
  unfold FnPost
  rw [show opApp bLen = some ([3], 1) from by decide +kernel, show toApp bLen = orN (.raw 177) from rfl]
  unfold bLen
  go_enter Tryz.func171, Tryz.ntmps171
  go_wp2
  refine bodyPost_ret (v := .tuple #[.agg #[_, _, _], .bool true]) (by simp [results, Tryz.results171, go_sem]; exact ⟨rfl, rfl, rfl⟩) rfl ⟨?_, _, _, _, rfl, ?_, ?_, fun o ho => ?_⟩
  · repeat (first | exact xbel1 _ _ | refine Below.alloc ?_ (by simp; omega) _ | refine Below.alloc ?_ (by simp) _)
  · exact ⟨_, _, _, rfl⟩
  · exact .inr ⟨_, _, rfl⟩
  · obtain rfl := Option.some.inj ho
    refine ⟨rfl, .inr ⟨_, _, rfl, by omega, by decide, by decide, fun i hi => ?_⟩, ?_⟩
    · match i, hi with
      | 0, _ => go_simp
      | 1, h => first | (exfalso; revert h; decide) | go_simp
      | 2, h => first | (exfalso; revert h; decide) | go_simp
      | i + 3, h => exact absurd h (by simp)
    · simp [CloIs, uzN, ariN, orN, cmpN, go_sem]
      try omega
set_option maxHeartbeats 2000000 in
theorem function_Abs (g : Nat) (w : World) (hg : g < w.heap.size) :
    Calls Tryz.prog 171 #[.string bAbs] w (FnPost w g bAbs) := by
  have hmf := xmf
  unfold FnPost
  rw [show opApp bAbs = some ([1], 1) from by decide +kernel, show toApp bAbs = orN (.raw 178) from rfl]
  unfold bAbs
  go_enter Tryz.func171, Tryz.ntmps171
  go_wp2
  refine bodyPost_ret (v := .tuple #[.agg #[_, _, _], .bool true]) (by simp [results, Tryz.results171, go_sem]; exact ⟨rfl, rfl, rfl⟩) rfl ⟨?_, _, _, _, rfl, ?_, ?_, fun o ho => ?_⟩
  · repeat (first | exact xbel1 _ _ | refine Below.alloc ?_ (by simp; omega) _ | refine Below.alloc ?_ (by simp) _)
  · exact ⟨_, _, _, rfl⟩
  · exact .inr ⟨_, _, rfl⟩
  · obtain rfl := Option.some.inj ho
    refine ⟨rfl, .inr ⟨_, _, rfl, by omega, by decide, by decide, fun i hi => ?_⟩, ?_⟩
    · match i, hi with
      | 0, _ => go_simp
      | 1, h => first | (exfalso; revert h; decide) | go_simp
      | 2, h => first | (exfalso; revert h; decide) | go_simp
      | i + 3, h => exact absurd h (by simp)
    · simp [CloIs, uzN, ariN, orN, cmpN, go_sem]
      try omega
set_option maxHeartbeats 2000000 in
theorem function_Cut (g : Nat) (w : World) (hg : g < w.heap.size) :
    Calls Tryz.prog 171 #[.string bCut] w (FnPost w g bCut) := by
  have hmf := xmf
  unfold FnPost
  rw [show opApp bCut = some ([3, 1], 3) from by decide +kernel, show toApp bCut = orN (.raw 179) from rfl]
  unfold bCut
  go_enter Tryz.func171, Tryz.ntmps171
  go_wp2
  refine bodyPost_ret (v := .tuple #[.agg #[_, _, _], .bool true]) (by simp [results, Tryz.results171, go_sem]; exact ⟨rfl, rfl, rfl⟩) rfl ⟨?_, _, _, _, rfl, ?_, ?_, fun o ho => ?_⟩
  · repeat (first | exact xbel1 _ _ | refine Below.alloc ?_ (by simp; omega) _ | refine Below.alloc ?_ (by simp) _)
  · exact ⟨_, _, _, rfl⟩
  · exact .inr ⟨_, _, rfl⟩
  · obtain rfl := Option.some.inj ho
    refine ⟨rfl, .inr ⟨_, _, rfl, by omega, by decide, by decide, fun i hi => ?_⟩, ?_⟩
    · match i, hi with
      | 0, _ => go_simp
      | 1, h => first | (exfalso; revert h; decide) | go_simp
      | 2, h => first | (exfalso; revert h; decide) | go_simp
      | i + 3, h => exact absurd h (by simp)
    · simp [CloIs, uzN, ariN, orN, cmpN, go_sem]
      try omega
set_option maxHeartbeats 2000000 in
theorem function_Isnull (g : Nat) (w : World) (hg : g < w.heap.size) :
    Calls Tryz.prog 171 #[.string bIsnull] w (FnPost w g bIsnull) := by
  have hmf := xmf
  unfold FnPost
  rw [show opApp bIsnull = some ([0], 2) from by decide +kernel, show toApp bIsnull = .raw 180 from rfl]
  unfold bIsnull
  go_enter Tryz.func171, Tryz.ntmps171
  go_wp2
  refine bodyPost_ret (v := .tuple #[.agg #[_, _, _], .bool true]) (by simp [results, Tryz.results171, go_sem]; exact ⟨rfl, rfl, rfl⟩) rfl ⟨?_, _, _, _, rfl, ?_, ?_, fun o ho => ?_⟩
  · repeat (first | exact xbel1 _ _ | refine Below.alloc ?_ (by simp; omega) _ | refine Below.alloc ?_ (by simp) _)
  · exact ⟨_, _, _, rfl⟩
  · exact .inr ⟨_, _, rfl⟩
  · obtain rfl := Option.some.inj ho
    refine ⟨rfl, .inr ⟨_, _, rfl, by omega, by decide, by decide, fun i hi => ?_⟩, ?_⟩
    · match i, hi with
      | 0, _ => go_simp
      | 1, h => first | (exfalso; revert h; decide) | go_simp
      | 2, h => first | (exfalso; revert h; decide) | go_simp
      | i + 3, h => exact absurd h (by simp)
    · simp [CloIs, uzN, ariN, orN, cmpN, go_sem]
      try omega
set_option maxHeartbeats 2000000 in
theorem function_Coalesce (g : Nat) (w : World) (hg : g < w.heap.size) :
    Calls Tryz.prog 171 #[.string bCoalesce] w (FnPost w g bCoalesce) := by
  have hmf := xmf
  unfold FnPost
  rw [show opApp bCoalesce = some ([0, 0], 0) from by decide +kernel, show toApp bCoalesce = .raw 181 from rfl]
  unfold bCoalesce
  go_enter Tryz.func171, Tryz.ntmps171
  go_wp2
  refine bodyPost_ret (v := .tuple #[.agg #[_, _, _], .bool true]) (by simp [results, Tryz.results171, go_sem]; exact ⟨rfl, rfl, rfl⟩) rfl ⟨?_, _, _, _, rfl, ?_, ?_, fun o ho => ?_⟩
  · repeat (first | exact xbel1 _ _ | refine Below.alloc ?_ (by simp; omega) _ | refine Below.alloc ?_ (by simp) _)
  · exact ⟨_, _, _, rfl⟩
  · exact .inr ⟨_, _, rfl⟩
  · obtain rfl := Option.some.inj ho
    refine ⟨rfl, .inr ⟨_, _, rfl, by omega, by decide, by decide, fun i hi => ?_⟩, ?_⟩
    · match i, hi with
      | 0, _ => go_simp
      | 1, h => first | (exfalso; revert h; decide) | go_simp
      | 2, h => first | (exfalso; revert h; decide) | go_simp
      | i + 3, h => exact absurd h (by simp)
    · simp [CloIs, uzN, ariN, orN, cmpN, go_sem]
      try omega
set_option maxHeartbeats 2000000 in
theorem function_If (g : Nat) (w : World) (hg : g < w.heap.size) :
    Calls Tryz.prog 171 #[.string bIf] w (FnPost w g bIf) := by
  have hmf := xmf
  unfold FnPost
  rw [show opApp bIf = some ([2, 0, 0], 0) from by decide +kernel, show toApp bIf = .raw 182 from rfl]
  unfold bIf
  go_enter Tryz.func171, Tryz.ntmps171
  go_wp2
  refine bodyPost_ret (v := .tuple #[.agg #[_, _, _], .bool true]) (by simp [results, Tryz.results171, go_sem]; exact ⟨rfl, rfl, rfl⟩) rfl ⟨?_, _, _, _, rfl, ?_, ?_, fun o ho => ?_⟩
  · repeat (first | exact xbel1 _ _ | refine Below.alloc ?_ (by simp; omega) _ | refine Below.alloc ?_ (by simp) _)
  · exact ⟨_, _, _, rfl⟩
  · exact .inr ⟨_, _, rfl⟩
  · obtain rfl := Option.some.inj ho
    refine ⟨rfl, .inr ⟨_, _, rfl, by omega, by decide, by decide, fun i hi => ?_⟩, ?_⟩
    · match i, hi with
      | 0, _ => go_simp
      | 1, h => first | (exfalso; revert h; decide) | go_simp
      | 2, h => first | (exfalso; revert h; decide) | go_simp
      | i + 3, h => exact absurd h (by simp)
    · simp [CloIs, uzN, ariN, orN, cmpN, go_sem]
      try omega

end Go.Proofs.YtnmelljaangfiaaGreatDoor
