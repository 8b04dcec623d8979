import Derived.Test.YtplaplhmjpfbjaaGreatDoorXb1
import Derived.Laws.EntriesVeiled
namespace Go.Proofs.YtplaplhmjpfbjaaGreatDoor
open Go.RowKit
set_option linter.unusedVariables false
set_option linter.unusedSimpArgs false
set_option maxRecDepth 100000

theorem xmf : ∀ (fn : Fn) (first cap : Array Value) (w : World), (Instr.makeFunc fn first cap).run Tryz.prog w = .ok (.func fn first cap) w := fun _ _ _ _ => rfl

/-- Functions that are made, with what they hold. -/
inductive Clo where
  | raw (n : Nat)
  | bool (n : Nat) (b : Bool)
  | one (n : Nat) (c : Clo)
def CloIs (w : World) (g : Nat) : Clo → Value → Prop
  | .raw n, v => v = .func (.func n) #[] #[]
  | .bool n b, v => ∃ a, v = .func (.func n) #[] #[.pointer (some ⟨a, 0, none⟩)] ∧ g < a ∧ w.cell? ⟨a, 0, none⟩ = some (.bool b)
  | .one n c, v => ∃ a u, v = .func (.func n) #[] #[.pointer (some ⟨a, 0, none⟩)] ∧ g < a ∧ w.cell? ⟨a, 0, none⟩ = some u ∧ CloIs w g c u
theorem CloIs.grown {w w' : World} {g : Nat} (hg : w.grownBy w' (some g)) : ∀ {c : Clo} {v : Value}, CloIs w g c v → CloIs w' g c v
  | .raw n, v, h => h
  | .bool n b, v, ⟨a, h1, h2, h3⟩ => ⟨a, h1, h2, hg.cell h3 (fun e => by have h := Option.some.inj e; simp only at h; omega)⟩
  | .one n c, v, ⟨a, u, h1, h2, h3, h4⟩ => ⟨a, u, h1, h2, hg.cell h3 (fun e => by have h := Option.some.inj e; simp only at h; omega), CloIs.grown hg h4⟩
def orN (c : Clo) : Clo := .one 139 c
def cmpN (n : Nat) : Clo := orN (.one 137 (.raw n))
def ariN (c : Clo) : Clo := orN (.one 140 c)
def uzN (n : Nat) : Clo := ariN (.one 141 (.raw n))
/-- What is done by a sign between parts. -/
def toInf (s : ByteArray) : Clo :=
  if s = bOr then .bool 133 true else if s = bAnd then .bool 133 false
  else if s = bEq then cmpN 110 else if s = bNe then cmpN 111 else if s = bLt then cmpN 112
  else if s = bLe then cmpN 113 else if s = bGt then cmpN 114 else if s = bGe then cmpN 115
  else if s = bCat then orN (.raw 117) else if s = bPlus then ariN (.raw 121)
  else if s = bMinus then ariN (.raw 123) else if s = bMul then ariN (.raw 124)
  else if s = bDiv then uzN 126 else uzN 127
def toPre (s : ByteArray) : Clo := if s = bNot then orN (.raw 152) else orN (.raw 153)
def toApp (s : ByteArray) : Clo :=
  if s = bLen then orN (.raw 182) else if s = bAbs then orN (.raw 183) else if s = bCut then orN (.raw 184)
  else if s = bIsnull then .raw 185 else if s = bCoalesce then .raw 186 else .raw 187

/-- Values that lie in a block behind 'g'. -/
def Lst (w : World) (g : Nat) (x : Value) (vs : List Value) : Prop := (x = .slice none 0 0 ∧ vs = []) ∨
  ∃ b c, x = .slice (some ⟨b, 0, none⟩) vs.length c ∧ g < b ∧ vs.length ≤ c ∧ c ≤ maxLen ∧ ∀ i (h : i < vs.length), w.cell? ⟨b, i, none⟩ = some vs[i]
theorem Lst.grown {w w' : World} {g : Nat} {x : Value} {vs : List Value} (h : Lst w g x vs) (hg : w.grownBy w' (some g)) : Lst w' g x vs := by
  rcases h with h | ⟨b, c, h1, h2, h3, h4, h5⟩
  · exact .inl h
  · exact .inr ⟨b, c, h1, h2, h3, h4, fun i hi => hg.cell (h5 i hi) (fun e => by have h := Option.some.inj e; simp only at h; omega)⟩
theorem Lst.later {w w' : World} {g : Nat} {x : Value} {vs : List Value} (h : Lst w g x vs) (hb : Below w.heap.size w w') : Lst w' g x vs := h.grown (xgBelow hb)
theorem Lst.up {w : World} {g g' : Nat} {x : Value} {vs : List Value} (h : Lst w g x vs) (hg : g' ≤ g) : Lst w g' x vs := by
  rcases h with h | ⟨b, c, h1, h2, h3, h4, h5⟩
  · exact .inl h
  · exact .inr ⟨b, c, h1, by omega, h3, h4, h5⟩
theorem Lst.new {w : World} {g : Nat} (cs : Array Value) (t : Nat) (hg : g < w.heap.size) (hn : cs.size ≤ maxLen) (h1 : ∀ v ∈ cs.toList, v.oneCell' = true) : Lst (w.alloc (.cells cs t)) g (.slice (some ⟨w.heap.size, 0, none⟩) cs.size cs.size) cs.toList := by
  refine .inr ⟨w.heap.size, cs.size, by simp, hg, by simp, hn, fun i hi => ?_⟩
  rw [Array.length_toList] at hi
  have := Own.cell (Own.new w t cs.size cs rfl) i hi
  rw [this, List.getElem?_eq_getElem (by simpa using hi)]

/-- An operation: what kinds it takes, what it gives, what it does. -/
def OpPost (w : World) (g : Nat) (o : List Int × Int) (to : Clo) (e : Ending) (w' : World) : Prop :=
  Below w.heap.size w w' ∧ ∃ tk f, e = .returned (.agg #[tk, .int .i64 o.2, f]) ∧ Lst w' g tk (o.1.map (Value.int .i64 ·)) ∧ CloIs w' g to f

set_option maxHeartbeats 2000000 in
theorem infixOp_Or (g : Nat) (w : World) (hg : g < w.heap.size) :
    Calls Tryz.prog 104 #[.string bOr] w (OpPost w g (opInf bOr) (toInf bOr)) := by
  have hmf := xmf
  rw [show opInf bOr = ([2, 2], 2) from by decide +kernel, show toInf bOr = .bool 133 true from rfl]
  unfold bOr
  go_enter Tryz.func104, Tryz.ntmps104
  go_wp2
  refine bodyPost_ret (by simp [results, Tryz.results104, go_sem]; exact ⟨rfl, rfl⟩) rfl ⟨?_, _, _, rfl, ?_, ?_⟩
  · repeat (first | exact xbel1 _ _ | refine Below.alloc ?_ (by simp; omega) _ | refine Below.alloc ?_ (by simp) _)
  · refine .inr ⟨_, _, rfl, by omega, by decide, by decide, fun i hi => ?_⟩
    match i, hi with
    | 0, _ => go_simp
    | 1, h => first | (exfalso; revert h; decide) | go_simp
    | i + 2, h => exact absurd h (by simp)
  · simp [CloIs, uzN, ariN, orN, cmpN, go_sem]
    try omega
set_option maxHeartbeats 2000000 in
theorem infixOp_And (g : Nat) (w : World) (hg : g < w.heap.size) :
    Calls Tryz.prog 104 #[.string bAnd] w (OpPost w g (opInf bAnd) (toInf bAnd)) := by
  have hmf := xmf
  rw [show opInf bAnd = ([2, 2], 2) from by decide +kernel, show toInf bAnd = .bool 133 false from rfl]
  unfold bAnd
  go_enter Tryz.func104, Tryz.ntmps104
  go_wp2
  refine bodyPost_ret (by simp [results, Tryz.results104, go_sem]; exact ⟨rfl, rfl⟩) rfl ⟨?_, _, _, rfl, ?_, ?_⟩
  · repeat (first | exact xbel1 _ _ | refine Below.alloc ?_ (by simp; omega) _ | refine Below.alloc ?_ (by simp) _)
  · refine .inr ⟨_, _, rfl, by omega, by decide, by decide, fun i hi => ?_⟩
    match i, hi with
    | 0, _ => go_simp
    | 1, h => first | (exfalso; revert h; decide) | go_simp
    | i + 2, h => exact absurd h (by simp)
  · simp [CloIs, uzN, ariN, orN, cmpN, go_sem]
    try omega
set_option maxHeartbeats 2000000 in
theorem infixOp_Eq (g : Nat) (w : World) (hg : g < w.heap.size) :
    Calls Tryz.prog 104 #[.string bEq] w (OpPost w g (opInf bEq) (toInf bEq)) := by
  have hmf := xmf
  rw [show opInf bEq = ([0, 0], 2) from by decide +kernel, show toInf bEq = cmpN 110 from rfl]
  unfold bEq
  go_enter Tryz.func104, Tryz.ntmps104
  go_wp2
  refine bodyPost_ret (by simp [results, Tryz.results104, go_sem]; exact ⟨rfl, rfl⟩) rfl ⟨?_, _, _, rfl, ?_, ?_⟩
  · repeat (first | exact xbel1 _ _ | refine Below.alloc ?_ (by simp; omega) _ | refine Below.alloc ?_ (by simp) _)
  · refine .inr ⟨_, _, rfl, by omega, by decide, by decide, fun i hi => ?_⟩
    match i, hi with
    | 0, _ => go_simp
    | 1, h => first | (exfalso; revert h; decide) | go_simp
    | i + 2, h => exact absurd h (by simp)
  · simp [CloIs, uzN, ariN, orN, cmpN, go_sem]
    try omega
set_option maxHeartbeats 2000000 in
theorem infixOp_Ne (g : Nat) (w : World) (hg : g < w.heap.size) :
    Calls Tryz.prog 104 #[.string bNe] w (OpPost w g (opInf bNe) (toInf bNe)) := by
  have hmf := xmf
  rw [show opInf bNe = ([0, 0], 2) from by decide +kernel, show toInf bNe = cmpN 111 from rfl]
  unfold bNe
  go_enter Tryz.func104, Tryz.ntmps104
  go_wp2
  refine bodyPost_ret (by simp [results, Tryz.results104, go_sem]; exact ⟨rfl, rfl⟩) rfl ⟨?_, _, _, rfl, ?_, ?_⟩
  · repeat (first | exact xbel1 _ _ | refine Below.alloc ?_ (by simp; omega) _ | refine Below.alloc ?_ (by simp) _)
  · refine .inr ⟨_, _, rfl, by omega, by decide, by decide, fun i hi => ?_⟩
    match i, hi with
    | 0, _ => go_simp
    | 1, h => first | (exfalso; revert h; decide) | go_simp
    | i + 2, h => exact absurd h (by simp)
  · simp [CloIs, uzN, ariN, orN, cmpN, go_sem]
    try omega
set_option maxHeartbeats 2000000 in
theorem infixOp_Lt (g : Nat) (w : World) (hg : g < w.heap.size) :
    Calls Tryz.prog 104 #[.string bLt] w (OpPost w g (opInf bLt) (toInf bLt)) := by
  have hmf := xmf
  rw [show opInf bLt = ([0, 0], 2) from by decide +kernel, show toInf bLt = cmpN 112 from rfl]
  unfold bLt
  go_enter Tryz.func104, Tryz.ntmps104
  go_wp2
  refine bodyPost_ret (by simp [results, Tryz.results104, go_sem]; exact ⟨rfl, rfl⟩) rfl ⟨?_, _, _, rfl, ?_, ?_⟩
  · repeat (first | exact xbel1 _ _ | refine Below.alloc ?_ (by simp; omega) _ | refine Below.alloc ?_ (by simp) _)
  · refine .inr ⟨_, _, rfl, by omega, by decide, by decide, fun i hi => ?_⟩
    match i, hi with
    | 0, _ => go_simp
    | 1, h => first | (exfalso; revert h; decide) | go_simp
    | i + 2, h => exact absurd h (by simp)
  · simp [CloIs, uzN, ariN, orN, cmpN, go_sem]
    try omega
set_option maxHeartbeats 2000000 in
theorem infixOp_Le (g : Nat) (w : World) (hg : g < w.heap.size) :
    Calls Tryz.prog 104 #[.string bLe] w (OpPost w g (opInf bLe) (toInf bLe)) := by
  have hmf := xmf
  rw [show opInf bLe = ([0, 0], 2) from by decide +kernel, show toInf bLe = cmpN 113 from rfl]
  unfold bLe
  go_enter Tryz.func104, Tryz.ntmps104
  go_wp2
  refine bodyPost_ret (by simp [results, Tryz.results104, go_sem]; exact ⟨rfl, rfl⟩) rfl ⟨?_, _, _, rfl, ?_, ?_⟩
  · repeat (first | exact xbel1 _ _ | refine Below.alloc ?_ (by simp; omega) _ | refine Below.alloc ?_ (by simp) _)
  · refine .inr ⟨_, _, rfl, by omega, by decide, by decide, fun i hi => ?_⟩
    match i, hi with
    | 0, _ => go_simp
    | 1, h => first | (exfalso; revert h; decide) | go_simp
    | i + 2, h => exact absurd h (by simp)
  · simp [CloIs, uzN, ariN, orN, cmpN, go_sem]
    try omega
set_option maxHeartbeats 2000000 in
theorem infixOp_Gt (g : Nat) (w : World) (hg : g < w.heap.size) :
    Calls Tryz.prog 104 #[.string bGt] w (OpPost w g (opInf bGt) (toInf bGt)) := by
  have hmf := xmf
  rw [show opInf bGt = ([0, 0], 2) from by decide +kernel, show toInf bGt = cmpN 114 from rfl]
  unfold bGt
  go_enter Tryz.func104, Tryz.ntmps104
  go_wp2
  refine bodyPost_ret (by simp [results, Tryz.results104, go_sem]; exact ⟨rfl, rfl⟩) rfl ⟨?_, _, _, rfl, ?_, ?_⟩
  · repeat (first | exact xbel1 _ _ | refine Below.alloc ?_ (by simp; omega) _ | refine Below.alloc ?_ (by simp) _)
  · refine .inr ⟨_, _, rfl, by omega, by decide, by decide, fun i hi => ?_⟩
    match i, hi with
    | 0, _ => go_simp
    | 1, h => first | (exfalso; revert h; decide) | go_simp
    | i + 2, h => exact absurd h (by simp)
  · simp [CloIs, uzN, ariN, orN, cmpN, go_sem]
    try omega
set_option maxHeartbeats 2000000 in
theorem infixOp_Ge (g : Nat) (w : World) (hg : g < w.heap.size) :
    Calls Tryz.prog 104 #[.string bGe] w (OpPost w g (opInf bGe) (toInf bGe)) := by
  have hmf := xmf
  rw [show opInf bGe = ([0, 0], 2) from by decide +kernel, show toInf bGe = cmpN 115 from rfl]
  unfold bGe
  go_enter Tryz.func104, Tryz.ntmps104
  go_wp2
  refine bodyPost_ret (by simp [results, Tryz.results104, go_sem]; exact ⟨rfl, rfl⟩) rfl ⟨?_, _, _, rfl, ?_, ?_⟩
  · repeat (first | exact xbel1 _ _ | refine Below.alloc ?_ (by simp; omega) _ | refine Below.alloc ?_ (by simp) _)
  · refine .inr ⟨_, _, rfl, by omega, by decide, by decide, fun i hi => ?_⟩
    match i, hi with
    | 0, _ => go_simp
    | 1, h => first | (exfalso; revert h; decide) | go_simp
    | i + 2, h => exact absurd h (by simp)
  · simp [CloIs, uzN, ariN, orN, cmpN, go_sem]
    try omega
set_option maxHeartbeats 2000000 in
theorem infixOp_Cat (g : Nat) (w : World) (hg : g < w.heap.size) :
    Calls Tryz.prog 104 #[.string bCat] w (OpPost w g (opInf bCat) (toInf bCat)) := by
  have hmf := xmf
  rw [show opInf bCat = ([3, 3], 3) from by decide +kernel, show toInf bCat = orN (.raw 117) from rfl]
  unfold bCat
  go_enter Tryz.func104, Tryz.ntmps104
  go_wp2
  refine bodyPost_ret (by simp [results, Tryz.results104, go_sem]; exact ⟨rfl, rfl⟩) rfl ⟨?_, _, _, rfl, ?_, ?_⟩
  · repeat (first | exact xbel1 _ _ | refine Below.alloc ?_ (by simp; omega) _ | refine Below.alloc ?_ (by simp) _)
  · refine .inr ⟨_, _, rfl, by omega, by decide, by decide, fun i hi => ?_⟩
    match i, hi with
    | 0, _ => go_simp
    | 1, h => first | (exfalso; revert h; decide) | go_simp
    | i + 2, h => exact absurd h (by simp)
  · simp [CloIs, uzN, ariN, orN, cmpN, go_sem]
    try omega
set_option maxHeartbeats 2000000 in
theorem infixOp_Plus (g : Nat) (w : World) (hg : g < w.heap.size) :
    Calls Tryz.prog 104 #[.string bPlus] w (OpPost w g (opInf bPlus) (toInf bPlus)) := by
  have hmf := xmf
  rw [show opInf bPlus = ([1, 1], 1) from by decide +kernel, show toInf bPlus = ariN (.raw 121) from rfl]
  unfold bPlus
  go_enter Tryz.func104, Tryz.ntmps104
  go_wp2
  refine bodyPost_ret (by simp [results, Tryz.results104, go_sem]; exact ⟨rfl, rfl⟩) rfl ⟨?_, _, _, rfl, ?_, ?_⟩
  · repeat (first | exact xbel1 _ _ | refine Below.alloc ?_ (by simp; omega) _ | refine Below.alloc ?_ (by simp) _)
  · refine .inr ⟨_, _, rfl, by omega, by decide, by decide, fun i hi => ?_⟩
    match i, hi with
    | 0, _ => go_simp
    | 1, h => first | (exfalso; revert h; decide) | go_simp
    | i + 2, h => exact absurd h (by simp)
  · simp [CloIs, uzN, ariN, orN, cmpN, go_sem]
    try omega
set_option maxHeartbeats 2000000 in
theorem infixOp_Minus (g : Nat) (w : World) (hg : g < w.heap.size) :
    Calls Tryz.prog 104 #[.string bMinus] w (OpPost w g (opInf bMinus) (toInf bMinus)) := by
  have hmf := xmf
  rw [show opInf bMinus = ([1, 1], 1) from by decide +kernel, show toInf bMinus = ariN (.raw 123) from rfl]
  unfold bMinus
  go_enter Tryz.func104, Tryz.ntmps104
  go_wp2
  refine bodyPost_ret (by simp [results, Tryz.results104, go_sem]; exact ⟨rfl, rfl⟩) rfl ⟨?_, _, _, rfl, ?_, ?_⟩
  · repeat (first | exact xbel1 _ _ | refine Below.alloc ?_ (by simp; omega) _ | refine Below.alloc ?_ (by simp) _)
  · refine .inr ⟨_, _, rfl, by omega, by decide, by decide, fun i hi => ?_⟩
    match i, hi with
    | 0, _ => go_simp
    | 1, h => first | (exfalso; revert h; decide) | go_simp
    | i + 2, h => exact absurd h (by simp)
  · simp [CloIs, uzN, ariN, orN, cmpN, go_sem]
    try omega
set_option maxHeartbeats 2000000 in
theorem infixOp_Mul (g : Nat) (w : World) (hg : g < w.heap.size) :
    Calls Tryz.prog 104 #[.string bMul] w (OpPost w g (opInf bMul) (toInf bMul)) := by
  have hmf := xmf
  rw [show opInf bMul = ([1, 1], 1) from by decide +kernel, show toInf bMul = ariN (.raw 124) from rfl]
  unfold bMul
  go_enter Tryz.func104, Tryz.ntmps104
  go_wp2
  refine bodyPost_ret (by simp [results, Tryz.results104, go_sem]; exact ⟨rfl, rfl⟩) rfl ⟨?_, _, _, rfl, ?_, ?_⟩
  · repeat (first | exact xbel1 _ _ | refine Below.alloc ?_ (by simp; omega) _ | refine Below.alloc ?_ (by simp) _)
  · refine .inr ⟨_, _, rfl, by omega, by decide, by decide, fun i hi => ?_⟩
    match i, hi with
    | 0, _ => go_simp
    | 1, h => first | (exfalso; revert h; decide) | go_simp
    | i + 2, h => exact absurd h (by simp)
  · simp [CloIs, uzN, ariN, orN, cmpN, go_sem]
    try omega
set_option maxHeartbeats 2000000 in
theorem infixOp_Div (g : Nat) (w : World) (hg : g < w.heap.size) :
    Calls Tryz.prog 104 #[.string bDiv] w (OpPost w g (opInf bDiv) (toInf bDiv)) := by
  have hmf := xmf
  rw [show opInf bDiv = ([1, 1], 1) from by decide +kernel, show toInf bDiv = uzN 126 from rfl]
  unfold bDiv
  go_enter Tryz.func104, Tryz.ntmps104
  go_wp2
  refine bodyPost_ret (by simp [results, Tryz.results104, go_sem]; exact ⟨rfl, rfl⟩) rfl ⟨?_, _, _, rfl, ?_, ?_⟩
  · repeat (first | exact xbel1 _ _ | refine Below.alloc ?_ (by simp; omega) _ | refine Below.alloc ?_ (by simp) _)
  · refine .inr ⟨_, _, rfl, by omega, by decide, by decide, fun i hi => ?_⟩
    match i, hi with
    | 0, _ => go_simp
    | 1, h => first | (exfalso; revert h; decide) | go_simp
    | i + 2, h => exact absurd h (by simp)
  · simp [CloIs, uzN, ariN, orN, cmpN, go_sem]
    try omega
set_option maxHeartbeats 2000000 in
theorem infixOp_Mod (g : Nat) (w : World) (hg : g < w.heap.size) :
    Calls Tryz.prog 104 #[.string bMod] w (OpPost w g (opInf bMod) (toInf bMod)) := by
  have hmf := xmf
  rw [show opInf bMod = ([1, 1], 1) from by decide +kernel, show toInf bMod = uzN 127 from rfl]
  unfold bMod
  go_enter Tryz.func104, Tryz.ntmps104
  go_wp2
  refine bodyPost_ret (by simp [results, Tryz.results104, go_sem]; exact ⟨rfl, rfl⟩) rfl ⟨?_, _, _, rfl, ?_, ?_⟩
  · repeat (first | exact xbel1 _ _ | refine Below.alloc ?_ (by simp; omega) _ | refine Below.alloc ?_ (by simp) _)
  · refine .inr ⟨_, _, rfl, by omega, by decide, by decide, fun i hi => ?_⟩
    match i, hi with
    | 0, _ => go_simp
    | 1, h => first | (exfalso; revert h; decide) | go_simp
    | i + 2, h => exact absurd h (by simp)
  · simp [CloIs, uzN, ariN, orN, cmpN, go_sem]
    try omega

theorem infixOp_any (t : ByteArray) (g : Nat) (w : World) (hg : g < w.heap.size) (hs : sgn t ≠ 7) :
    Calls Tryz.prog 104 #[.string t] w (OpPost w g (opInf t) (toInf t)) := by
  by_cases hOr : t = bOr
  · subst hOr; exact infixOp_Or g w hg
  by_cases hAnd : t = bAnd
  · subst hAnd; exact infixOp_And g w hg
  by_cases hEq : t = bEq
  · subst hEq; exact infixOp_Eq g w hg
  by_cases hNe : t = bNe
  · subst hNe; exact infixOp_Ne g w hg
  by_cases hLt : t = bLt
  · subst hLt; exact infixOp_Lt g w hg
  by_cases hLe : t = bLe
  · subst hLe; exact infixOp_Le g w hg
  by_cases hGt : t = bGt
  · subst hGt; exact infixOp_Gt g w hg
  by_cases hGe : t = bGe
  · subst hGe; exact infixOp_Ge g w hg
  by_cases hCat : t = bCat
  · subst hCat; exact infixOp_Cat g w hg
  by_cases hPlus : t = bPlus
  · subst hPlus; exact infixOp_Plus g w hg
  by_cases hMinus : t = bMinus
  · subst hMinus; exact infixOp_Minus g w hg
  by_cases hMul : t = bMul
  · subst hMul; exact infixOp_Mul g w hg
  by_cases hDiv : t = bDiv
  · subst hDiv; exact infixOp_Div g w hg
  by_cases hMod : t = bMod
  · subst hMod; exact infixOp_Mod g w hg
  refine absurd ?_ hs
  unfold sgn
  simp [hOr, hAnd, hEq, hNe, hLt, hLe, hGt, hGe, hPlus, hMinus, hCat, hMul, hDiv, hMod]
set_option maxHeartbeats 2000000 in
theorem prefixOp_not (g : Nat) (w : World) (hg : g < w.heap.size) :
    Calls Tryz.prog 142 #[.string bNot] w (OpPost w g (opPre bNot) (toPre bNot)) := by
  have hmf := xmf
  rw [show opPre bNot = ([2], 2) from by decide +kernel, show toPre bNot = orN (.raw 152) from rfl]
  unfold bNot
  go_enter Tryz.func142, Tryz.ntmps142
  go_wp2
  refine bodyPost_ret (by simp [results, Tryz.results142, go_sem]; exact ⟨rfl, rfl⟩) rfl ⟨?_, _, _, rfl, ?_, ?_⟩
  · repeat (first | exact xbel1 _ _ | refine Below.alloc ?_ (by simp; omega) _ | refine Below.alloc ?_ (by simp) _)
  · refine .inr ⟨_, _, rfl, by omega, by decide, by decide, fun i hi => ?_⟩
    match i, hi with
    | 0, _ => go_simp
    | 1, h => first | (exfalso; revert h; decide) | go_simp
    | i + 2, h => exact absurd h (by simp)
  · simp [CloIs, uzN, ariN, orN, cmpN, go_sem]
    try omega
set_option maxHeartbeats 2000000 in
theorem prefixOp_minus (g : Nat) (w : World) (hg : g < w.heap.size) :
    Calls Tryz.prog 142 #[.string bMinus] w (OpPost w g (opPre bMinus) (toPre bMinus)) := by
  have hmf := xmf
  rw [show opPre bMinus = ([1], 1) from by decide +kernel, show toPre bMinus = orN (.raw 153) from rfl]
  unfold bMinus
  go_enter Tryz.func142, Tryz.ntmps142
  go_wp2
  refine bodyPost_ret (by simp [results, Tryz.results142, go_sem]; exact ⟨rfl, rfl⟩) rfl ⟨?_, _, _, rfl, ?_, ?_⟩
  · repeat (first | exact xbel1 _ _ | refine Below.alloc ?_ (by simp; omega) _ | refine Below.alloc ?_ (by simp) _)
  · refine .inr ⟨_, _, rfl, by omega, by decide, by decide, fun i hi => ?_⟩
    match i, hi with
    | 0, _ => go_simp
    | 1, h => first | (exfalso; revert h; decide) | go_simp
    | i + 2, h => exact absurd h (by simp)
  · simp [CloIs, uzN, ariN, orN, cmpN, go_sem]
    try omega
end Go.Proofs.YtplaplhmjpfbjaaGreatDoor
