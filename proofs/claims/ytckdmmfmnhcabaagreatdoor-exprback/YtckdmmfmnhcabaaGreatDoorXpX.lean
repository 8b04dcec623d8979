import Derived.Test.YtckdmmfmnhcabaaGreatDoorXpP
namespace Go.Proofs.YtckdmmfmnhcabaaGreatDoor
open Go.RowKit
set_option linter.unusedVariables false

/-- Reading tokens, where nothing is wrong in them: a step. -/
def exeD (E : Nat) (rd : ByteArray → Option (Int × Int × ByteArray)) (go : Mode → Nat → List Tk → Option (X × List Tk)) (r lev : Nat) (ts : List Tk) : Option (X × List Tk) :=
  if r = 0 ∨ r = 1 ∨ r = 4 ∨ r = 5 then
    match go (.D (r + 1)) lev ts with
    | none => none
    | some (l, ts1) => go (.J r l) lev ts1
  else if r = 2 ∨ r = 6 then
    if (hd E ts).tx ≠ (if r = 2 then bNot else bMinus) then go (.D (r + 1)) lev ts else
    match ts with
    | [] => none
    | t :: ts' => if lev = 12 then none else match go (.D r) (lev + 1) ts' with
      | some (x, ts1) => some (.pre t.pl t.tx x, ts1)
      | none => none
  else if r = 3 then
    match go (.D 4) lev ts with
    | none => none
    | some (l, ts1) => if sgn (hd E ts1).tx ≠ 3 then some (l, ts1) else
      match ts1 with
      | [] => none
      | t :: ts2 => match go (.D 4) lev ts2 with
        | some (x, ts3) => some (.inf t.pl t.tx l x, ts3)
        | none => none
  else if r = 7 then
    match ts with
    | [] => none
    | t :: ts' =>
      if isLit t then (match rd t.tx with | some (k, m, s) => some (.lit k m s, ts') | none => none) else
      if t.tx = bOpen then
        if lev = 12 then none else
        match go (.D 0) (lev + 1) ts' with
        | some (x, t1 :: ts1) => if t1.tx = bShut then some (x, ts1) else none
        | _ => none
      else if t.kd = 1 ∧ ¬ res t.tx ∧ t.tx.size ≤ 12 then
        if (hd E ts').tx ≠ bOpen then some (.col t.pl t.tx, ts') else
        match ts' with
        | [] => none
        | t1 :: ts1 => if lev = 12 then none else go (.Z t.pl t.tx) (lev + 1) ts1
      else none
  else none
def exeS (E : Nat) (rd : ByteArray → Option (Int × Int × ByteArray)) (go : Mode → Nat → List Tk → Option (X × List Tk)) : Mode → Nat → List Tk → Option (X × List Tk)
  | .J r l, lev, ts =>
    if sgn (hd E ts).tx ≠ r then some (l, ts) else
    match ts with
    | [] => none
    | t :: ts' => match go (.D (r + 1)) lev ts' with
      | some (x, ts1) => go (.J r (.inf t.pl t.tx l x)) lev ts1
      | none => none
  | .Z pl nm, lev, ts =>
    match ts with
    | [] => none
    | t :: ts' => if t.tx = bShut then some (.app pl nm [], ts') else
      match go (.D 0) lev (t :: ts') with
      | some (x, ts1) => go (.A pl nm [x]) lev ts1
      | none => none
  | .A pl nm l, lev, ts =>
    match ts with
    | [] => none
    | t :: ts' => if t.tx = bShut then some (.app pl nm l, ts') else
      if t.tx = bComma then
        match go (.D 0) lev ts' with
        | some (x, ts1) => go (.A pl nm (l ++ [x])) lev ts1
        | none => none
      else none
  | .D r, lev, ts => exeD E rd go r lev ts
def exe (E : Nat) (rd : ByteArray → Option (Int × Int × ByteArray)) : Nat → Mode → Nat → List Tk → Option (X × List Tk)
  | 0 => fun _ _ _ => none
  | n + 1 => exeS E rd (exe E rd n)

theorem exeD_ps {L : ByteArray → Int → Int → ByteArray → Prop} {E : Nat} {rd : ByteArray → Option (Int × Int × ByteArray)} (hrd : ∀ s k n t, rd s = some (k, n, t) → L s k n t) {go : Mode → Nat → List Tk → Option (X × List Tk)}
    (ih : ∀ m lev ts p, go m lev ts = some p → Ps L E m lev ts (.ok p)) (r lev : Nat) (ts : List Tk) (p : X × List Tk) (h : exeD E rd go r lev ts = some p) : Ps L E (.D r) lev ts (.ok p) := by
  unfold exeD at h
  split at h
  · rename_i hr
    split at h
    · cases h
    · exact .jok hr (ih _ _ _ _ ‹_›) (ih _ _ _ _ h)
  split at h
  · rename_i _ hr
    have hp : pr r (if r = 2 then bNot else bMinus) := by
      rcases hr with rfl | rfl
      · exact .inl ⟨rfl, rfl⟩
      · exact .inr ⟨rfl, rfl⟩
    generalize (if r = 2 then bNot else bMinus) = sg at hp h
    split at h
    · exact .pnone hp ‹_› (ih _ _ _ _ h)
    · rename_i hs
      split at h
      · cases h
      · split at h
        · cases h
        · split at h
          · rename_i hl _ x ts1 he
            cases h
            exact .pok hp (Decidable.not_not.1 hs) hl (ih _ _ _ _ he)
          · cases h
  split at h
  · rename_i hr
    subst hr
    split at h
    · cases h
    · rename_i l ts1 he
      split at h
      · cases h; exact .cnone (ih _ _ _ _ he) ‹_›
      · rename_i hs
        split at h
        · cases h
        · split at h
          · rename_i he2
            cases h
            exact .cok (ih _ _ _ _ he) (Decidable.not_not.1 hs) (ih _ _ _ _ he2)
          · cases h
  split at h
  · rename_i hr
    subst hr
    split at h
    · cases h
    · split at h
      · split at h
        · cases h; exact .lit ‹_› (hrd _ _ _ _ ‹_›)
        · cases h
      · split at h
        · split at h
          · cases h
          · split at h
            · split at h
              · rename_i he _
                cases h
                exact .ook ‹_› ‹_› ‹_› (ih _ _ _ _ he) ‹_›
              · cases h
            · cases h
        · split at h
          · rename_i hk
            split at h
            · cases h; exact .ncol ‹_› ‹_› hk.1 hk.2.1 hk.2.2 ‹_›
            · rename_i hs
              split at h
              · cases h
              · split at h
                · cases h
                · exact .nargs ‹_› ‹_› hk.1 hk.2.1 hk.2.2 (Decidable.not_not.1 hs) ‹_› (ih _ _ _ _ h)
          · cases h
  · cases h

theorem exe_ps {L : ByteArray → Int → Int → ByteArray → Prop} {E : Nat} {rd : ByteArray → Option (Int × Int × ByteArray)} (hrd : ∀ s k n t, rd s = some (k, n, t) → L s k n t) :
    ∀ (n : Nat) (m : Mode) (lev : Nat) (ts : List Tk) (p : X × List Tk), exe E rd n m lev ts = some p → Ps L E m lev ts (.ok p)
  | 0, m, lev, ts, p, h => by cases h
  | n + 1, .J r l, lev, ts, p, h => by
    have ih := exe_ps (E := E) hrd n
    unfold exe exeS at h
    dsimp only at h
    split at h
    · cases h; exact .jend ‹_›
    · rename_i hs
      split at h
      · cases h
      · split at h
        · rename_i t ts' _ x ts1 he
          exact .jstep (Decidable.not_not.1 hs) (ih _ _ _ _ he) (ih _ _ _ _ h)
        · cases h
  | n + 1, .Z pl nm, lev, ts, p, h => by
    have ih := exe_ps (E := E) hrd n
    unfold exe exeS at h
    dsimp only at h
    split at h
    · cases h
    · split at h
      · cases h; exact .zend ‹_›
      · split at h
        · rename_i t ts' hs _ x ts1 he
          exact .zok hs (ih _ _ _ _ he) (ih _ _ _ _ h)
        · cases h
  | n + 1, .A pl nm l, lev, ts, p, h => by
    have ih := exe_ps (E := E) hrd n
    unfold exe exeS at h
    dsimp only at h
    split at h
    · cases h
    · split at h
      · cases h; exact .aend ‹_›
      · split at h
        · split at h
          · rename_i hs _ x ts1 he
            exact .aok hs (ih _ _ _ _ he) (ih _ _ _ _ h)
          · cases h
        · cases h
  | n + 1, .D r, lev, ts, p, h => exeD_ps hrd (exe_ps hrd n) r lev ts p h
end Go.Proofs.YtckdmmfmnhcabaaGreatDoor
