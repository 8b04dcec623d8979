import Derived.WalkKit
namespace Go.Proofs.YtplaplhmjpfbjaaGreatDoor
open Go.RowKit
set_option linter.unusedVariables false

/-- A token: where it begins, its kind (1 a word, 2 a number, 3 a text, 4 a sign; the end is none of the list), its text. -/
structure Tk where
  pl : Nat
  kd : Nat
  tx : ByteArray

/-- An expression. -/
inductive X where
  | lit (k n : Int) (t : ByteArray)
  | col (pl : Nat) (name : ByteArray)
  | pre (pl : Nat) (sign : ByteArray) (x : X)
  | inf (pl : Nat) (sign : ByteArray) (l r : X)
  | app (pl : Nat) (name : ByteArray) (l : List X)

/-- What is wrong, and where. -/
structure Flt where
  pl : Nat
  why : Nat

abbrev PR := Except Flt (X × List Tk)

def bOr : ByteArray := ⟨#[111, 114]⟩
def bAnd : ByteArray := ⟨#[97, 110, 100]⟩
def bNot : ByteArray := ⟨#[110, 111, 116]⟩
def bTrue : ByteArray := ⟨#[116, 114, 117, 101]⟩
def bFalse : ByteArray := ⟨#[102, 97, 108, 115, 101]⟩
def bAs : ByteArray := ⟨#[97, 115]⟩
def bEq : ByteArray := ⟨#[61]⟩
def bNe : ByteArray := ⟨#[60, 62]⟩
def bLt : ByteArray := ⟨#[60]⟩
def bLe : ByteArray := ⟨#[60, 61]⟩
def bGt : ByteArray := ⟨#[62]⟩
def bGe : ByteArray := ⟨#[62, 61]⟩
def bCat : ByteArray := ⟨#[43, 43]⟩
def bPlus : ByteArray := ⟨#[43]⟩
def bMinus : ByteArray := ⟨#[45]⟩
def bMul : ByteArray := ⟨#[42]⟩
def bDiv : ByteArray := ⟨#[47]⟩
def bMod : ByteArray := ⟨#[37]⟩
def bOpen : ByteArray := ⟨#[40]⟩
def bShut : ByteArray := ⟨#[41]⟩
def bComma : ByteArray := ⟨#[44]⟩

/-- How tightly a sign joins two parts. -/
def sgn (t : ByteArray) : Nat :=
  if t = bOr then 0 else if t = bAnd then 1
  else if t = bEq ∨ t = bNe ∨ t = bLt ∨ t = bLe ∨ t = bGt ∨ t = bGe then 3
  else if t = bPlus ∨ t = bMinus ∨ t = bCat then 4
  else if t = bMul ∨ t = bDiv ∨ t = bMod then 5 else 7
/-- Words that are no names. -/
def res (t : ByteArray) : Prop := t = bAnd ∨ t = bOr ∨ t = bNot ∨ t = bTrue ∨ t = bFalse ∨ t = bAs
instance (t : ByteArray) : Decidable (res t) := by unfold res; infer_instance
/-- What is read at once. -/
def isLit (t : Tk) : Prop := t.kd = 2 ∨ t.kd = 3 ∨ t.tx = bTrue ∨ t.tx = bFalse
instance (t : Tk) : Decidable (isLit t) := by unfold isLit; infer_instance

/-- The next token. -/
def hd (E : Nat) : List Tk → Tk
  | [] => ⟨E, 0, ⟨#[]⟩⟩
  | t :: _ => t

inductive Mode where
  | D (r : Nat)
  | J (r : Nat) (l : X)
  | Z (pl : Nat) (name : ByteArray)
  | A (pl : Nat) (name : ByteArray) (l : List X)

/-- The ranks with signs that join any number of parts. -/
def jr (r : Nat) : Prop := r = 0 ∨ r = 1 ∨ r = 4 ∨ r = 5
/-- The ranks with a sign ahead. -/
def pr (r : Nat) (s : ByteArray) : Prop := (r = 2 ∧ s = bNot) ∨ (r = 6 ∧ s = bMinus)

/-- What reading tokens comes to. -/
inductive Ps (L : ByteArray → Int → Int → ByteArray → Prop) (E : Nat) : Mode → Nat → List Tk → PR → Prop
  | jbad {r lev ts f} : jr r → Ps L E (.D (r + 1)) lev ts (.error f) → Ps L E (.D r) lev ts (.error f)
  | jok {r lev ts l ts1 res} : jr r → Ps L E (.D (r + 1)) lev ts (.ok (l, ts1)) → Ps L E (.J r l) lev ts1 res → Ps L E (.D r) lev ts res
  | jend {r l lev ts} : sgn (hd E ts).tx ≠ r → Ps L E (.J r l) lev ts (.ok (l, ts))
  | jsbad {r l lev t ts f} : sgn t.tx = r → Ps L E (.D (r + 1)) lev ts (.error f) → Ps L E (.J r l) lev (t :: ts) (.error f)
  | jstep {r l lev t ts x ts1 res} : sgn t.tx = r → Ps L E (.D (r + 1)) lev ts (.ok (x, ts1)) → Ps L E (.J r (.inf t.pl t.tx l x)) lev ts1 res → Ps L E (.J r l) lev (t :: ts) res
  | pdeep {r s t ts} : pr r s → t.tx = s → Ps L E (.D r) 12 (t :: ts) (.error ⟨t.pl, 4⟩)
  | pbad {r s lev t ts f} : pr r s → t.tx = s → lev ≠ 12 → Ps L E (.D r) (lev + 1) ts (.error f) → Ps L E (.D r) lev (t :: ts) (.error f)
  | pok {r s lev t ts x ts1} : pr r s → t.tx = s → lev ≠ 12 → Ps L E (.D r) (lev + 1) ts (.ok (x, ts1)) → Ps L E (.D r) lev (t :: ts) (.ok (.pre t.pl t.tx x, ts1))
  | pnone {r s lev ts res} : pr r s → (hd E ts).tx ≠ s → Ps L E (.D (r + 1)) lev ts res → Ps L E (.D r) lev ts res
  | cbad {lev ts f} : Ps L E (.D 4) lev ts (.error f) → Ps L E (.D 3) lev ts (.error f)
  | cnone {lev ts l ts1} : Ps L E (.D 4) lev ts (.ok (l, ts1)) → sgn (hd E ts1).tx ≠ 3 → Ps L E (.D 3) lev ts (.ok (l, ts1))
  | csbad {lev ts l t ts1 f} : Ps L E (.D 4) lev ts (.ok (l, t :: ts1)) → sgn t.tx = 3 → Ps L E (.D 4) lev ts1 (.error f) → Ps L E (.D 3) lev ts (.error f)
  | cok {lev ts l t ts1 x ts2} : Ps L E (.D 4) lev ts (.ok (l, t :: ts1)) → sgn t.tx = 3 → Ps L E (.D 4) lev ts1 (.ok (x, ts2)) → Ps L E (.D 3) lev ts (.ok (.inf t.pl t.tx l x, ts2))
  | lit {lev t ts k n s} : isLit t → L t.tx k n s → Ps L E (.D 7) lev (t :: ts) (.ok (.lit k n s, ts))
  | lbad {lev t ts} : isLit t → (∀ k n s, ¬ L t.tx k n s) → Ps L E (.D 7) lev (t :: ts) (.error ⟨t.pl, 1⟩)
  | odeep {t ts} : ¬ isLit t → t.tx = bOpen → Ps L E (.D 7) 12 (t :: ts) (.error ⟨t.pl, 4⟩)
  | obad {lev t ts f} : ¬ isLit t → t.tx = bOpen → lev ≠ 12 → Ps L E (.D 0) (lev + 1) ts (.error f) → Ps L E (.D 7) lev (t :: ts) (.error f)
  | oopen {lev t ts x ts1} : ¬ isLit t → t.tx = bOpen → lev ≠ 12 → Ps L E (.D 0) (lev + 1) ts (.ok (x, ts1)) → (hd E ts1).tx ≠ bShut → Ps L E (.D 7) lev (t :: ts) (.error ⟨(hd E ts1).pl, 1⟩)
  | ook {lev t ts x t1 ts1} : ¬ isLit t → t.tx = bOpen → lev ≠ 12 → Ps L E (.D 0) (lev + 1) ts (.ok (x, t1 :: ts1)) → t1.tx = bShut → Ps L E (.D 7) lev (t :: ts) (.ok (x, ts1))
  | nlong {lev t ts} : ¬ isLit t → t.tx ≠ bOpen → t.kd = 1 → ¬ res t.tx → 12 < t.tx.size → Ps L E (.D 7) lev (t :: ts) (.error ⟨t.pl, 4⟩)
  | ncol {lev t ts} : ¬ isLit t → t.tx ≠ bOpen → t.kd = 1 → ¬ res t.tx → t.tx.size ≤ 12 → (hd E ts).tx ≠ bOpen → Ps L E (.D 7) lev (t :: ts) (.ok (.col t.pl t.tx, ts))
  | ndeep {t t1 ts} : ¬ isLit t → t.tx ≠ bOpen → t.kd = 1 → ¬ res t.tx → t.tx.size ≤ 12 → t1.tx = bOpen → Ps L E (.D 7) 12 (t :: t1 :: ts) (.error ⟨t1.pl, 4⟩)
  | nargs {lev t t1 ts res'} : ¬ isLit t → t.tx ≠ bOpen → t.kd = 1 → ¬ res t.tx → t.tx.size ≤ 12 → t1.tx = bOpen → lev ≠ 12 → Ps L E (.Z t.pl t.tx) (lev + 1) ts res' → Ps L E (.D 7) lev (t :: t1 :: ts) res'
  | none {lev ts} : ¬ isLit (hd E ts) → (hd E ts).tx ≠ bOpen → ¬ ((hd E ts).kd = 1 ∧ ¬ res (hd E ts).tx) → Ps L E (.D 7) lev ts (.error ⟨(hd E ts).pl, 1⟩)
  | zend {pl nm lev t ts} : t.tx = bShut → Ps L E (.Z pl nm) lev (t :: ts) (.ok (.app pl nm [], ts))
  | zbad {pl nm lev ts f} : (hd E ts).tx ≠ bShut → Ps L E (.D 0) lev ts (.error f) → Ps L E (.Z pl nm) lev ts (.error f)
  | zok {pl nm lev ts x ts1 res} : (hd E ts).tx ≠ bShut → Ps L E (.D 0) lev ts (.ok (x, ts1)) → Ps L E (.A pl nm [x]) lev ts1 res → Ps L E (.Z pl nm) lev ts res
  | abad {pl nm l lev t ts f} : t.tx = bComma → Ps L E (.D 0) lev ts (.error f) → Ps L E (.A pl nm l) lev (t :: ts) (.error f)
  | aok {pl nm l lev t ts x ts1 res} : t.tx = bComma → Ps L E (.D 0) lev ts (.ok (x, ts1)) → Ps L E (.A pl nm (l ++ [x])) lev ts1 res → Ps L E (.A pl nm l) lev (t :: ts) res
  | aend {pl nm l lev t ts} : t.tx = bShut → Ps L E (.A pl nm l) lev (t :: ts) (.ok (.app pl nm l, ts))
  | anone {pl nm l lev ts} : (hd E ts).tx ≠ bComma → (hd E ts).tx ≠ bShut → Ps L E (.A pl nm l) lev ts (.error ⟨(hd E ts).pl, 1⟩)

theorem pr_inj {r : Nat} {s s' : ByteArray} (h : pr r s) (h' : pr r s') : s = s' := by
  rcases h with ⟨rfl, rfl⟩ | ⟨rfl, rfl⟩ <;> rcases h' with ⟨h, rfl⟩ | ⟨h, rfl⟩ <;> first | rfl | cases h
theorem not_jr_pr {r : Nat} {s : ByteArray} (h : jr r) (h' : pr r s) : False := by
  rcases h with rfl | rfl | rfl | rfl <;> rcases h' with ⟨h, _⟩ | ⟨h, _⟩ <;> cases h
theorem not_jr_3 (h : jr 3) : False := by rcases h with h | h | h | h <;> cases h
theorem not_jr_7 (h : jr 7) : False := by rcases h with h | h | h | h <;> cases h
theorem not_pr_3 {s : ByteArray} (h : pr 3 s) : False := by rcases h with ⟨h, _⟩ | ⟨h, _⟩ <;> cases h
theorem not_pr_7 {s : ByteArray} (h : pr 7 s) : False := by rcases h with ⟨h, _⟩ | ⟨h, _⟩ <;> cases h

/-- What is left is no longer than what there was. -/
theorem Ps.shorter {L : ByteArray → Int → Int → ByteArray → Prop} {E : Nat} {m : Mode} {lev : Nat} {ts : List Tk} {o : PR} (h : Ps L E m lev ts o) :
    ∀ x ts', o = .ok (x, ts') → ts'.length ≤ ts.length ∧ ((∀ r l, m ≠ .J r l) → ts'.length < ts.length) := by
  induction h with
  | jend h => intro x ts' e; cases e; exact ⟨Nat.le_refl _, fun h => absurd rfl (h _ _)⟩
  | jok _ _ _ ih1 ih2 =>
    intro x ts' e
    have h1 := (ih1 _ _ rfl).2 (by intros; simp)
    have h2 := (ih2 _ _ e).1
    exact ⟨by omega, fun _ => by omega⟩
  | jstep _ _ _ ih1 ih2 =>
    intro x ts' e
    have h1 := (ih1 _ _ rfl).1
    have h2 := (ih2 _ _ e).1
    simp only [List.length_cons]
    exact ⟨by omega, fun _ => by omega⟩
  | pok _ _ _ _ ih1 =>
    intro x ts' e
    cases e
    have h1 := (ih1 _ _ rfl).1
    simp only [List.length_cons]
    exact ⟨by omega, fun _ => by omega⟩
  | pnone _ _ _ ih1 =>
    intro x ts' e
    have h1 := (ih1 _ _ e).2 (by intros; simp)
    exact ⟨by omega, fun _ => by omega⟩
  | cnone _ _ ih1 =>
    intro x ts' e
    cases e
    have h1 := (ih1 _ _ rfl).2 (by intros; simp)
    exact ⟨by omega, fun _ => by omega⟩
  | cok _ _ _ ih1 ih2 =>
    intro x ts' e
    cases e
    have h1 := (ih1 _ _ rfl).1
    have h2 := (ih2 _ _ rfl).1
    simp only [List.length_cons] at h1
    exact ⟨by omega, fun _ => by omega⟩
  | lit => intro x ts' e; cases e; simp only [List.length_cons]; exact ⟨by omega, fun _ => by omega⟩
  | ncol => intro x ts' e; cases e; simp only [List.length_cons]; exact ⟨by omega, fun _ => by omega⟩
  | zend => intro x ts' e; cases e; simp only [List.length_cons]; exact ⟨by omega, fun _ => by omega⟩
  | aend => intro x ts' e; cases e; simp only [List.length_cons]; exact ⟨by omega, fun _ => by omega⟩
  | ook _ _ _ _ _ ih1 =>
    intro x ts' e
    cases e
    have h1 := (ih1 _ _ rfl).1
    simp only [List.length_cons] at h1 ⊢
    exact ⟨by omega, fun _ => by omega⟩
  | nargs _ _ _ _ _ _ _ _ ih1 =>
    intro x ts' e
    have h1 := (ih1 _ _ e).1
    simp only [List.length_cons]
    exact ⟨by omega, fun _ => by omega⟩
  | zok _ _ _ ih1 ih2 =>
    intro x ts' e
    have h1 := (ih1 _ _ rfl).2 (by intros; simp)
    have h2 := (ih2 _ _ e).1
    exact ⟨by omega, fun _ => by omega⟩
  | aok _ _ _ ih1 ih2 =>
    intro x ts' e
    have h1 := (ih1 _ _ rfl).1
    have h2 := (ih2 _ _ e).1
    simp only [List.length_cons]
    exact ⟨by omega, fun _ => by omega⟩
  | _ => intro x ts' e; cases e

theorem Ps.less {L : ByteArray → Int → Int → ByteArray → Prop} {E : Nat} {r lev : Nat} {ts ts' : List Tk} {x : X} (h : Ps L E (.D r) lev ts (.ok (x, ts'))) : ts'.length < ts.length := (h.shorter x ts' rfl).2 (by intros; simp)

/-- Reading comes to one thing. -/
theorem Ps.one {L : ByteArray → Int → Int → ByteArray → Prop} {E : Nat} (hL : ∀ s k n t k' n' t', L s k n t → L s k' n' t' → k = k' ∧ n = n' ∧ t = t') {m : Mode} {lev : Nat} {ts : List Tk} {o : PR} (h : Ps L E m lev ts o) :
    ∀ o', Ps L E m lev ts o' → o = o' := by
  have q0 : bOpen ≠ bShut := by decide
  have q1 : bComma ≠ bShut := by decide
  induction h with
  | jbad hj h1 ih1 =>
    intro o' h'
    cases h' with
    | jbad _ h2 => exact ih1 _ h2
    | jok _ h2 _ => cases ih1 _ h2
    | pdeep hp _ => exact absurd hp (fun h => not_jr_pr hj h)
    | pbad hp _ _ _ => exact absurd hp (fun h => not_jr_pr hj h)
    | pok hp _ _ _ => exact absurd hp (fun h => not_jr_pr hj h)
    | pnone hp _ _ => exact absurd hp (fun h => not_jr_pr hj h)
    | _ => exact absurd hj (by unfold jr; omega)
  | jok hj h1 h3 ih1 ih3 =>
    intro o' h'
    cases h' with
    | jbad _ h2 => cases ih1 _ h2
    | jok _ h2 h4 => cases ih1 _ h2; exact ih3 _ h4
    | pdeep hp _ => exact absurd hp (fun h => not_jr_pr hj h)
    | pbad hp _ _ _ => exact absurd hp (fun h => not_jr_pr hj h)
    | pok hp _ _ _ => exact absurd hp (fun h => not_jr_pr hj h)
    | pnone hp _ _ => exact absurd hp (fun h => not_jr_pr hj h)
    | _ => exact absurd hj (by unfold jr; omega)
  | jend hn =>
    intro o' h'
    cases h' with
    | jend _ => rfl
    | jsbad h _ => exact absurd h hn
    | jstep h _ _ => exact absurd h hn
  | jsbad hs h1 ih1 =>
    intro o' h'
    cases h' with
    | jend h => exact absurd hs h
    | jsbad _ h2 => exact ih1 _ h2
    | jstep _ h2 _ => cases ih1 _ h2
  | jstep hs h1 h3 ih1 ih3 =>
    intro o' h'
    cases h' with
    | jend h => exact absurd hs h
    | jsbad _ h2 => cases ih1 _ h2
    | jstep _ h2 h4 => cases ih1 _ h2; exact ih3 _ h4
  | pdeep hp hs =>
    intro o' h'
    cases h' with
    | pdeep _ _ => rfl
    | pbad _ _ hl _ => exact absurd rfl hl
    | pok _ _ hl _ => exact absurd rfl hl
    | pnone hp2 hn _ => exact absurd (hs.trans (pr_inj hp hp2)) hn
    | jbad hj _ => exact absurd hp (fun h => not_jr_pr hj h)
    | jok hj _ _ => exact absurd hp (fun h => not_jr_pr hj h)
    | _ => exact absurd hp (by unfold pr; omega)
  | pbad hp hs hl h1 ih1 =>
    intro o' h'
    cases h' with
    | pdeep _ _ => exact absurd rfl hl
    | pbad _ _ _ h2 => exact ih1 _ h2
    | pok _ _ _ h2 => cases ih1 _ h2
    | pnone hp2 hn _ => exact absurd (hs.trans (pr_inj hp hp2)) hn
    | jbad hj _ => exact absurd hp (fun h => not_jr_pr hj h)
    | jok hj _ _ => exact absurd hp (fun h => not_jr_pr hj h)
    | _ => exact absurd hp (by unfold pr; omega)
  | pok hp hs hl h1 ih1 =>
    intro o' h'
    cases h' with
    | pdeep _ _ => exact absurd rfl hl
    | pbad _ _ _ h2 => cases ih1 _ h2
    | pok _ _ _ h2 => cases ih1 _ h2; rfl
    | pnone hp2 hn _ => exact absurd (hs.trans (pr_inj hp hp2)) hn
    | jbad hj _ => exact absurd hp (fun h => not_jr_pr hj h)
    | jok hj _ _ => exact absurd hp (fun h => not_jr_pr hj h)
    | _ => exact absurd hp (by unfold pr; omega)
  | pnone hp hn h1 ih1 =>
    intro o' h'
    cases h' with
    | pdeep hp2 hs => exact absurd (hs.trans (pr_inj hp2 hp)) hn
    | pbad hp2 hs _ _ => exact absurd (hs.trans (pr_inj hp2 hp)) hn
    | pok hp2 hs _ _ => exact absurd (hs.trans (pr_inj hp2 hp)) hn
    | pnone _ _ h2 => exact ih1 _ h2
    | jbad hj _ => exact absurd hp (fun h => not_jr_pr hj h)
    | jok hj _ _ => exact absurd hp (fun h => not_jr_pr hj h)
    | _ => exact absurd hp (by unfold pr; omega)
  | cbad h1 ih1 =>
    intro o' h'
    cases h' with
    | cbad h2 => exact ih1 _ h2
    | cnone h2 _ => cases ih1 _ h2
    | csbad h2 _ _ => cases ih1 _ h2
    | cok h2 _ _ => cases ih1 _ h2
    | jbad hj _ => exact (not_jr_3 hj).elim
    | jok hj _ _ => exact (not_jr_3 hj).elim
    | pdeep hp _ => exact (not_pr_3 hp).elim
    | pbad hp _ _ _ => exact (not_pr_3 hp).elim
    | pok hp _ _ _ => exact (not_pr_3 hp).elim
    | pnone hp _ _ => exact (not_pr_3 hp).elim
  | cnone h1 hn ih1 =>
    intro o' h'
    cases h' with
    | cbad h2 => cases ih1 _ h2
    | cnone h2 _ => cases ih1 _ h2; rfl
    | csbad h2 hs _ => cases ih1 _ h2; exact absurd hs hn
    | cok h2 hs _ => cases ih1 _ h2; exact absurd hs hn
    | jbad hj _ => exact (not_jr_3 hj).elim
    | jok hj _ _ => exact (not_jr_3 hj).elim
    | pdeep hp _ => exact (not_pr_3 hp).elim
    | pbad hp _ _ _ => exact (not_pr_3 hp).elim
    | pok hp _ _ _ => exact (not_pr_3 hp).elim
    | pnone hp _ _ => exact (not_pr_3 hp).elim
  | csbad h1 hs h3 ih1 ih3 =>
    intro o' h'
    cases h' with
    | cbad h2 => cases ih1 _ h2
    | cnone h2 hn => cases ih1 _ h2; exact absurd hs hn
    | csbad h2 _ h4 => cases ih1 _ h2; exact ih3 _ h4
    | cok h2 _ h4 => cases ih1 _ h2; cases ih3 _ h4
    | jbad hj _ => exact (not_jr_3 hj).elim
    | jok hj _ _ => exact (not_jr_3 hj).elim
    | pdeep hp _ => exact (not_pr_3 hp).elim
    | pbad hp _ _ _ => exact (not_pr_3 hp).elim
    | pok hp _ _ _ => exact (not_pr_3 hp).elim
    | pnone hp _ _ => exact (not_pr_3 hp).elim
  | cok h1 hs h3 ih1 ih3 =>
    intro o' h'
    cases h' with
    | cbad h2 => cases ih1 _ h2
    | cnone h2 hn => cases ih1 _ h2; exact absurd hs hn
    | csbad h2 _ h4 => cases ih1 _ h2; cases ih3 _ h4
    | cok h2 _ h4 => cases ih1 _ h2; cases ih3 _ h4; rfl
    | jbad hj _ => exact (not_jr_3 hj).elim
    | jok hj _ _ => exact (not_jr_3 hj).elim
    | pdeep hp _ => exact (not_pr_3 hp).elim
    | pbad hp _ _ _ => exact (not_pr_3 hp).elim
    | pok hp _ _ _ => exact (not_pr_3 hp).elim
    | pnone hp _ _ => exact (not_pr_3 hp).elim
  | lit hi hl =>
    intro o' h'
    cases h' with
    | lit _ h2 => obtain ⟨rfl, rfl, rfl⟩ := hL _ _ _ _ _ _ _ hl h2; rfl
    | lbad _ h2 => exact absurd hl (h2 _ _ _)
    | jbad hj _ => exact (not_jr_7 hj).elim
    | jok hj _ _ => exact (not_jr_7 hj).elim
    | pdeep hp _ => exact (not_pr_7 hp).elim
    | pbad hp _ _ _ => exact (not_pr_7 hp).elim
    | pok hp _ _ _ => exact (not_pr_7 hp).elim
    | pnone hp _ _ => exact (not_pr_7 hp).elim
    | _ => first | contradiction | (rename_i h _ _; exact absurd hi h) | (rename_i h _; exact absurd hi h)
  | lbad hi hl =>
    intro o' h'
    cases h' with
    | lit _ h2 => exact absurd h2 (hl _ _ _)
    | lbad _ h2 => rfl
    | jbad hj _ => exact (not_jr_7 hj).elim
    | jok hj _ _ => exact (not_jr_7 hj).elim
    | pdeep hp _ => exact (not_pr_7 hp).elim
    | pbad hp _ _ _ => exact (not_pr_7 hp).elim
    | pok hp _ _ _ => exact (not_pr_7 hp).elim
    | pnone hp _ _ => exact (not_pr_7 hp).elim
    | _ => contradiction
  | odeep hi ho =>
    intro o' h'
    cases h' with
    | odeep => rfl
    | obad _ _ h => exact absurd rfl h
    | oopen _ _ h => exact absurd rfl h
    | ook _ _ h => exact absurd rfl h
    | jbad hj _ => exact (not_jr_7 hj).elim
    | jok hj _ _ => exact (not_jr_7 hj).elim
    | pdeep hp _ => exact (not_pr_7 hp).elim
    | pbad hp _ _ _ => exact (not_pr_7 hp).elim
    | pok hp _ _ _ => exact (not_pr_7 hp).elim
    | pnone hp _ _ => exact (not_pr_7 hp).elim
    | _ => contradiction
  | obad hi ho hl h1 ih1 =>
    intro o' h'
    cases h' with
    | odeep => exact absurd rfl hl
    | obad _ _ _ h2 => exact ih1 _ h2
    | oopen _ _ _ h2 _ => cases ih1 _ h2
    | ook _ _ _ h2 _ => cases ih1 _ h2
    | jbad hj _ => exact (not_jr_7 hj).elim
    | jok hj _ _ => exact (not_jr_7 hj).elim
    | pdeep hp _ => exact (not_pr_7 hp).elim
    | pbad hp _ _ _ => exact (not_pr_7 hp).elim
    | pok hp _ _ _ => exact (not_pr_7 hp).elim
    | pnone hp _ _ => exact (not_pr_7 hp).elim
    | _ => contradiction
  | oopen hi ho hl h1 hn ih1 =>
    intro o' h'
    cases h' with
    | odeep => exact absurd rfl hl
    | obad _ _ _ h2 => cases ih1 _ h2
    | oopen _ _ _ h2 _ => cases ih1 _ h2; rfl
    | ook _ _ _ h2 hs => cases ih1 _ h2; exact absurd hs hn
    | jbad hj _ => exact (not_jr_7 hj).elim
    | jok hj _ _ => exact (not_jr_7 hj).elim
    | pdeep hp _ => exact (not_pr_7 hp).elim
    | pbad hp _ _ _ => exact (not_pr_7 hp).elim
    | pok hp _ _ _ => exact (not_pr_7 hp).elim
    | pnone hp _ _ => exact (not_pr_7 hp).elim
    | _ => contradiction
  | ook hi ho hl h1 hs ih1 =>
    intro o' h'
    cases h' with
    | odeep => exact absurd rfl hl
    | obad _ _ _ h2 => cases ih1 _ h2
    | oopen _ _ _ h2 hn => cases ih1 _ h2; exact absurd hs hn
    | ook _ _ _ h2 _ => cases ih1 _ h2; rfl
    | jbad hj _ => exact (not_jr_7 hj).elim
    | jok hj _ _ => exact (not_jr_7 hj).elim
    | pdeep hp _ => exact (not_pr_7 hp).elim
    | pbad hp _ _ _ => exact (not_pr_7 hp).elim
    | pok hp _ _ _ => exact (not_pr_7 hp).elim
    | pnone hp _ _ => exact (not_pr_7 hp).elim
    | _ => contradiction
  | nlong hi ho hk hr hz =>
    intro o' h'
    cases h' with
    | nlong => rfl
    | ncol _ _ _ _ h _ => omega
    | ndeep _ _ _ _ h _ => omega
    | nargs _ _ _ _ h _ _ _ => omega
    | none _ _ h => exact absurd ⟨hk, hr⟩ h
    | jbad hj _ => exact (not_jr_7 hj).elim
    | jok hj _ _ => exact (not_jr_7 hj).elim
    | pdeep hp _ => exact (not_pr_7 hp).elim
    | pbad hp _ _ _ => exact (not_pr_7 hp).elim
    | pok hp _ _ _ => exact (not_pr_7 hp).elim
    | pnone hp _ _ => exact (not_pr_7 hp).elim
    | _ => contradiction
  | ncol hi ho hk hr hz hn =>
    intro o' h'
    cases h' with
    | nlong _ _ _ _ h => omega
    | ncol => rfl
    | ndeep _ _ _ _ _ h => exact absurd h hn
    | nargs _ _ _ _ _ h _ _ => exact absurd h hn
    | none _ _ h => exact absurd ⟨hk, hr⟩ h
    | jbad hj _ => exact (not_jr_7 hj).elim
    | jok hj _ _ => exact (not_jr_7 hj).elim
    | pdeep hp _ => exact (not_pr_7 hp).elim
    | pbad hp _ _ _ => exact (not_pr_7 hp).elim
    | pok hp _ _ _ => exact (not_pr_7 hp).elim
    | pnone hp _ _ => exact (not_pr_7 hp).elim
    | _ => contradiction
  | ndeep hi ho hk hr hz hn =>
    intro o' h'
    cases h' with
    | nlong _ _ _ _ h => omega
    | ncol _ _ _ _ _ h => exact absurd hn h
    | ndeep _ _ _ _ _ h => rfl
    | nargs _ _ _ _ _ _ h _ => exact absurd rfl h
    | none _ _ h => exact absurd ⟨hk, hr⟩ h
    | jbad hj _ => exact (not_jr_7 hj).elim
    | jok hj _ _ => exact (not_jr_7 hj).elim
    | pdeep hp _ => exact (not_pr_7 hp).elim
    | pbad hp _ _ _ => exact (not_pr_7 hp).elim
    | pok hp _ _ _ => exact (not_pr_7 hp).elim
    | pnone hp _ _ => exact (not_pr_7 hp).elim
    | _ => contradiction
  | nargs hi ho hk hr hz hn hl h1 ih1 =>
    intro o' h'
    cases h' with
    | nlong _ _ _ _ h => omega
    | ncol _ _ _ _ _ h => exact absurd hn h
    | ndeep _ _ _ _ _ h => exact absurd rfl hl
    | nargs _ _ _ _ _ _ h h2 => exact ih1 _ h2
    | none _ _ h => exact absurd ⟨hk, hr⟩ h
    | jbad hj _ => exact (not_jr_7 hj).elim
    | jok hj _ _ => exact (not_jr_7 hj).elim
    | pdeep hp _ => exact (not_pr_7 hp).elim
    | pbad hp _ _ _ => exact (not_pr_7 hp).elim
    | pok hp _ _ _ => exact (not_pr_7 hp).elim
    | pnone hp _ _ => exact (not_pr_7 hp).elim
    | _ => contradiction
  | none hi ho hk =>
    intro o' h'
    cases h' with
    | nlong _ _ h1 h2 h => exact absurd ⟨h1, h2⟩ hk
    | ncol _ _ h1 h2 _ h => exact absurd ⟨h1, h2⟩ hk
    | ndeep _ _ h1 h2 _ h => exact absurd ⟨h1, h2⟩ hk
    | nargs _ _ h1 h2 _ _ h _ => exact absurd ⟨h1, h2⟩ hk
    | none _ _ h => rfl
    | jbad hj _ => exact (not_jr_7 hj).elim
    | jok hj _ _ => exact (not_jr_7 hj).elim
    | pdeep hp _ => exact (not_pr_7 hp).elim
    | pbad hp _ _ _ => exact (not_pr_7 hp).elim
    | pok hp _ _ _ => exact (not_pr_7 hp).elim
    | pnone hp _ _ => exact (not_pr_7 hp).elim
    | _ => contradiction
  | zend hs =>
    intro o' h'
    cases h' with
    | zend => rfl
    | zbad h _ => exact absurd hs h
    | zok h _ _ => exact absurd hs h
  | zbad hn h1 ih1 =>
    intro o' h'
    cases h' with
    | zend h => exact absurd h hn
    | zbad _ h2 => exact ih1 _ h2
    | zok _ h2 _ => cases ih1 _ h2
  | zok hn h1 h3 ih1 ih3 =>
    intro o' h'
    cases h' with
    | zend h => exact absurd h hn
    | zbad _ h2 => cases ih1 _ h2
    | zok _ h2 h4 => cases ih1 _ h2; exact ih3 _ h4
  | abad hs h1 ih1 =>
    intro o' h'
    cases h' with
    | abad _ h2 => exact ih1 _ h2
    | aok _ h2 _ => cases ih1 _ h2
    | aend h => exact absurd (hs.symm.trans h) q1
    | anone h _ => exact absurd hs h
  | aok hs h1 h3 ih1 ih3 =>
    intro o' h'
    cases h' with
    | abad _ h2 => cases ih1 _ h2
    | aok _ h2 h4 => cases ih1 _ h2; exact ih3 _ h4
    | aend h => exact absurd (hs.symm.trans h) q1
    | anone h _ => exact absurd hs h
  | aend hs =>
    intro o' h'
    cases h' with
    | abad h _ => exact absurd (h.symm.trans hs) q1
    | aok h _ _ => exact absurd (h.symm.trans hs) q1
    | aend h => rfl
    | anone _ h => exact absurd hs h
  | anone h1 h2 =>
    intro o' h'
    cases h' with
    | abad h _ => exact absurd h h1
    | aok h _ _ => exact absurd h h1
    | aend h => exact absurd h h2
    | anone _ _ => rfl
end Go.Proofs.YtplaplhmjpfbjaaGreatDoor
