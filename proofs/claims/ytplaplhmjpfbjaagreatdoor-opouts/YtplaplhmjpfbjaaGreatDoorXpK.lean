import Derived.Test.YtplaplhmjpfbjaaGreatDoorXpP
namespace Go.Proofs.YtplaplhmjpfbjaaGreatDoor
open Go.RowKit
set_option linter.unusedVariables false

def bLen : ByteArray := ⟨#[108, 101, 110]⟩
def bAbs : ByteArray := ⟨#[97, 98, 115]⟩
def bCut : ByteArray := ⟨#[99, 117, 116]⟩
def bIsnull : ByteArray := ⟨#[105, 115, 110, 117, 108, 108]⟩
def bCoalesce : ByteArray := ⟨#[99, 111, 97, 108, 101, 115, 99, 101]⟩
def bIf : ByteArray := ⟨#[105, 102]⟩

/-- A column: its name, its kind. -/
structure Co where
  nm : ByteArray
  k : Int
/-- Where a column stands. -/
def colIx (c : List Co) (nm : ByteArray) : Option Nat := c.findIdx? (fun x => x.nm = nm)

/-- One kind held against what is asked for. -/
def kStep (a k met : Int) : Option Int :=
  if k = (if a = 0 then (if met = 0 then k else met) else a) then some (if a = 0 ∧ met = 0 then k else met) else none
def kLoop : List Int → List Int → Int → Option Int
  | a :: as, k :: ks, met => (kStep a k met).bind (kLoop as ks)
  | _, _, met => some met
/-- The kind that comes of kinds. -/
def kOf (o : List Int × Int) (kinds : List Int) : Option Int :=
  if kinds.length = o.1.length then (kLoop o.1 kinds 0).map (fun m => if o.2 = 0 then m else o.2) else none

def opPre (s : ByteArray) : List Int × Int := if s = bNot then ([2], 2) else ([1], 1)
def opInf (s : ByteArray) : List Int × Int :=
  if s = bOr ∨ s = bAnd then ([2, 2], 2)
  else if s = bEq ∨ s = bNe ∨ s = bLt ∨ s = bLe ∨ s = bGt ∨ s = bGe then ([0, 0], 2)
  else if s = bCat then ([3, 3], 3) else ([1, 1], 1)
def opApp (s : ByteArray) : Option (List Int × Int) :=
  if s = bLen then some ([3], 1) else if s = bAbs then some ([1], 1) else if s = bCut then some ([3, 1], 3)
  else if s = bIsnull then some ([0], 2) else if s = bCoalesce then some ([0, 0], 0) else if s = bIf then some ([2, 0, 0], 0) else none

def orFlt (pl : Nat) : Option Int → Except Flt Int
  | some k => .ok k
  | none => .error ⟨pl, 3⟩

mutual
/-- The kind of an expression, or the first thing that is wrong in it. -/
def kindX (c : List Co) : X → Except Flt Int
  | .lit k _ _ => .ok k
  | .col pl nm => match c[(colIx c nm).getD c.length]? with
    | some x => .ok x.k
    | none => .error ⟨pl, 2⟩
  | .pre pl s x => (kindX c x).bind fun k => orFlt pl (kOf (opPre s) [k])
  | .inf pl s l r => (kindX c l).bind fun k => (kindX c r).bind fun k' => orFlt pl (kOf (opInf s) [k, k'])
  | .app pl nm l => match opApp nm with
    | none => .error ⟨pl, 2⟩
    | some o => (kindsX c l).bind fun ks => orFlt pl (kOf o ks)
def kindsX (c : List Co) : List X → Except Flt (List Int)
  | [] => .ok []
  | x :: l => (kindX c x).bind fun k => (kindsX c l).bind fun ks => .ok (k :: ks)
end

/-- Tokens of a text. -/
def isSp (c : UInt8) : Bool := c == 32 || c == 9 || c == 10
def isDg (c : UInt8) : Bool := decide (48 ≤ c.toNat) && decide (c.toNat ≤ 57)
def isWb (c : UInt8) : Bool := (decide (97 ≤ c.toNat) && decide (c.toNat ≤ 122)) || (decide (65 ≤ c.toNat) && decide (c.toNat ≤ 90)) || isDg c || c == 95
def wLen : List UInt8 → Nat
  | c :: r => if isWb c then wLen r + 1 else 0
  | [] => 0
/-- How long the sign is with which a text begins. -/
def sLen (l : List UInt8) : Nat :=
  if l.take 2 ∈ [[60, 62], [60, 61], [62, 61], [43, 43]] then 2
  else if l.head? ∈ [some 61, some 60, some 62, some 43, some 45, some 42, some 47, some 37, some 40, some 41, some 44] then 1 else 0
def tokAt : List UInt8 → Option (Nat × Nat)
  | [] => none
  | c :: r => if isDg c then some (2, wLen (c :: r)) else if isWb c then some (1, wLen (c :: r))
    else if c = 39 then (r.findIdx? (· == 39)).map (fun i => (3, i + 2))
    else if 0 < sLen (c :: r) then some (4, sLen (c :: r)) else none
def tok : Nat → Nat → List UInt8 → Except Nat (List Tk)
  | _, _, [] => .ok []
  | 0, pl, _ => .error pl
  | n + 1, pl, c :: r => if isSp c then tok n (pl + 1) r else
    match tokAt (c :: r) with
    | none => .error pl
    | some (kd, len) => (tok n (pl + len) ((c :: r).drop len)).map fun l => ⟨pl, kd, ⟨((c :: r).take len).toArray⟩⟩ :: l

theorem wLen_le : ∀ l, wLen l ≤ l.length
  | [] => Nat.le_refl _
  | c :: r => by unfold wLen; have := wLen_le r; split <;> simp only [List.length_cons] <;> omega
theorem sLen_le (l : List UInt8) : sLen l ≤ l.length := by
  unfold sLen
  split
  · rename_i h
    have : (l.take 2).length = 2 := by
      simp only [List.mem_cons, List.not_mem_nil, or_false] at h
      rcases h with h | h | h | h <;> rw [h] <;> rfl
    rw [List.length_take] at this
    omega
  · split
    · rename_i h
      cases l with
      | nil => simp at h
      | cons => simp
    · omega
theorem tokAt_len {l : List UInt8} {kd n : Nat} (h : tokAt l = some (kd, n)) : 0 < n ∧ n ≤ l.length := by
  cases l with
  | nil => cases h
  | cons c r =>
    unfold tokAt at h
    dsimp only at h
    split at h
    · rename_i hd
      cases h
      refine ⟨?_, wLen_le _⟩
      unfold wLen
      rw [if_pos (by unfold isWb; rw [hd]; simp)]
      omega
    · split at h
      · rename_i hd
        cases h
        refine ⟨?_, wLen_le _⟩
        unfold wLen
        rw [if_pos hd]
        omega
      · split at h
        · rw [Option.map_eq_some_iff] at h
          obtain ⟨i, h1, h2⟩ := h
          cases h2
          have := (List.findIdx?_eq_some_iff_findIdx_eq.1 h1).1
          simp only [List.length_cons]
          exact ⟨by omega, by omega⟩
        · split at h
          · cases h; exact ⟨‹_›, sLen_le _⟩
          · cases h
end Go.Proofs.YtplaplhmjpfbjaaGreatDoor
