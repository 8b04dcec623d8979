import Derived.Test.YtplaplhmjpfbjaaGreatDoorXpP
namespace Go.Proofs.YtplaplhmjpfbjaaGreatDoor
open Go.RowKit
set_option linter.unusedVariables false
variable {L : ByteArray → Int → Int → ByteArray → Prop} {E lev : Nat}

/-- What is behind a part of rank 'c', within a part of rank 'r0'. -/
def Kn (L : ByteArray → Int → Int → ByteArray → Prop) (E lev r0 : Nat) : Nat → X → List Tk → PR → Prop
  | 0, x, ts, o => o = .ok (x, ts)
  | c + 1, x, ts, o =>
    if c + 1 = r0 then o = .ok (x, ts) else
    if c = 2 ∨ c = 6 then Kn L E lev r0 c x ts o else
    if c = 3 then (sgn (hd E ts).tx ≠ 3 ∧ Kn L E lev r0 c x ts o) ∨ (∃ t ts', ts = t :: ts' ∧ sgn t.tx = 3 ∧ ((∃ f, Ps L E (.D 4) lev ts' (.error f) ∧ o = .error f) ∨ ∃ y ts1, Ps L E (.D 4) lev ts' (.ok (y, ts1)) ∧ Kn L E lev r0 c (.inf t.pl t.tx x y) ts1 o))
    else (∃ f, Ps L E (.J c x) lev ts (.error f) ∧ o = .error f) ∨ ∃ x1 ts1, Ps L E (.J c x) lev ts (.ok (x1, ts1)) ∧ Kn L E lev r0 c x1 ts1 o

theorem knErr {r0 : Nat} {ts0 : List Tk} {f : Flt} : ∀ {c : Nat}, c ≤ 7 → r0 ≤ c → Ps L E (.D c) lev ts0 (.error f) → (r0 ≤ 2 → 2 < c → (hd E ts0).tx ≠ bNot) → (r0 ≤ 6 → 6 < c → (hd E ts0).tx ≠ bMinus) → Ps L E (.D r0) lev ts0 (.error f)
  | 0, _, hr, hp, _, _ => by
    have : r0 = 0 := by omega
    subst this
    exact hp
  | c + 1, hc, hr, hp, hn, hm => by
    by_cases h : c + 1 = r0
    · subst h; exact hp
    have up := fun h => knErr (r0 := r0) (ts0 := ts0) (f := f) (c := c) (by omega) (by omega) h (fun a b => hn a (by omega)) (fun a b => hm a (by omega))
    by_cases h2 : c = 2
    · subst h2; exact up (.pnone (.inl ⟨rfl, rfl⟩) (hn (by omega) (by omega)) hp)
    by_cases h6 : c = 6
    · subst h6; exact up (.pnone (.inr ⟨rfl, rfl⟩) (hm (by omega) (by omega)) hp)
    by_cases h3 : c = 3
    · subst h3; exact up (.cbad hp)
    exact up (.jbad (by unfold jr; omega) hp)

/-- From a part within to the whole. -/
theorem Kn.up {r0 : Nat} {ts0 : List Tk} : ∀ {c : Nat} {x : X} {ts : List Tk} {o : PR}, c ≤ 7 → r0 ≤ c → Ps L E (.D c) lev ts0 (.ok (x, ts)) → Kn L E lev r0 c x ts o → (r0 ≤ 2 → 2 < c → (hd E ts0).tx ≠ bNot) → (r0 ≤ 6 → 6 < c → (hd E ts0).tx ≠ bMinus) → Ps L E (.D r0) lev ts0 o
  | 0, x, ts, o, _, hr, hp, hk, _, _ => by
    have : r0 = 0 := by omega
    subst this
    rw [Kn] at hk
    rw [hk]; exact hp
  | c + 1, x, ts, o, hc, hr, hp, hk, hn, hm => by
    rw [Kn] at hk
    split at hk
    · rename_i h; subst h; rw [hk]; exact hp
    · rename_i h0
      have up := fun {y ts1} h k => Kn.up (r0 := r0) (ts0 := ts0) (c := c) (x := y) (ts := ts1) (o := o) (by omega) (by omega) h k (fun a b => hn a (by omega)) (fun a b => hm a (by omega))
      split at hk
      · rename_i h
        rcases h with rfl | rfl
        · exact up (.pnone (.inl ⟨rfl, rfl⟩) (hn (by omega) (by omega)) hp) hk
        · exact up (.pnone (.inr ⟨rfl, rfl⟩) (hm (by omega) (by omega)) hp) hk
      · split at hk
        · rename_i h
          subst h
          rcases hk with ⟨h1, h2⟩ | ⟨t, ts', rfl, hs, ⟨f, h1, rfl⟩ | ⟨y, ts1, h1, h2⟩⟩
          · exact up (.cnone hp h1) h2
          · have e : Ps L E (.D 3) lev ts0 (.error f) := .csbad hp hs h1
            exact knErr (by omega) (by omega) e (fun a b => hn a (by omega)) (fun a b => hm a (by omega))
          · exact up (.cok hp hs h1) h2
        · rename_i h2 h3
          have hj : jr c := by unfold jr; omega
          rcases hk with ⟨f, h1, rfl⟩ | ⟨x1, ts1, h1, h2⟩
          · have e : Ps L E (.D c) lev ts0 (.error f) := .jok hj hp h1
            exact knErr (by omega) (by omega) e (fun a b => hn a (by omega)) (fun a b => hm a (by omega))
          · exact up (.jok hj hp h1) h2

theorem Kn.skip {r0 r1 : Nat} {x : X} {ts : List Tk} {o : PR} : ∀ {c : Nat}, r0 ≤ r1 → r1 ≤ c → c ≤ 6 → (∀ r, r1 ≤ r → r < c → sgn (hd E ts).tx ≠ r) → Kn L E lev r0 r1 x ts o → Kn L E lev r0 c x ts o
  | 0, h0, h1, _, hs, hk => by
    have : r1 = 0 := by omega
    subst this; exact hk
  | c + 1, h0, h1, h6, hs, hk => by
    by_cases h : c + 1 = r1
    · subst h; exact hk
    have ih := Kn.skip (r0 := r0) (r1 := r1) (x := x) (ts := ts) (o := o) (c := c) h0 (by omega) (by omega) (fun r a b => hs r a (by omega)) hk
    rw [Kn, if_neg (by omega)]
    split
    · exact ih
    · split
      · rename_i h3
        exact .inl ⟨by have := hs c (by omega) (by omega); rw [h3] at this; exact this, ih⟩
      · exact .inr ⟨x, ts, .jend (hs c (by omega) (by omega)), ih⟩

/-- What climbing does behind a part: signs of the ranks from 'r0' to 'm'. -/
inductive St (L : ByteArray → Int → Int → ByteArray → Prop) (E lev r0 : Nat) : Nat → X → List Tk → PR → Prop
  | stop {m x ts} : ¬ (r0 ≤ sgn (hd E ts).tx ∧ sgn (hd E ts).tx ≤ m) → St L E lev r0 m x ts (.ok (x, ts))
  | bad {m x t ts f} : r0 ≤ sgn t.tx → sgn t.tx ≤ m → Ps L E (.D (sgn t.tx + 1)) lev ts (.error f) → St L E lev r0 m x (t :: ts) (.error f)
  | step {m x t ts y ts1 o} : r0 ≤ sgn t.tx → sgn t.tx ≤ m → Ps L E (.D (sgn t.tx + 1)) lev ts (.ok (y, ts1)) → St L E lev r0 (if sgn t.tx = 3 then 2 else sgn t.tx) (.inf t.pl t.tx x y) ts1 o → St L E lev r0 m x (t :: ts) o

theorem sgn_vals (t : ByteArray) : sgn t = 0 ∨ sgn t = 1 ∨ sgn t = 3 ∨ sgn t = 4 ∨ sgn t = 5 ∨ sgn t = 7 := by
  unfold sgn
  split
  · exact .inl rfl
  split
  · exact .inr (.inl rfl)
  split
  · exact .inr (.inr (.inl rfl))
  split
  · exact .inr (.inr (.inr (.inl rfl)))
  split
  · exact .inr (.inr (.inr (.inr (.inl rfl))))
  · exact .inr (.inr (.inr (.inr (.inr rfl))))
theorem Kn.self {r0 : Nat} {x : X} {ts : List Tk} : Kn L E lev r0 r0 x ts (.ok (x, ts)) := by
  cases r0 with
  | zero => rfl
  | succ n => rw [Kn, if_pos rfl]

theorem St.kn {r0 m : Nat} {x : X} {ts : List Tk} {o : PR} (h : St L E lev r0 m x ts o) : r0 ≤ m + 1 → m ≤ 5 → Kn L E lev r0 (m + 1) x ts o := by
  induction h with
  | stop hs =>
    intro h0 hm
    exact Kn.skip (Nat.le_refl _) h0 (by omega) (fun r a b c => hs ⟨by omega, by omega⟩) Kn.self
  | @bad m x t ts f h1 h2 hp =>
    intro h0 hm
    refine Kn.skip (r1 := sgn t.tx + 1) (by omega) (by omega) (by omega) (fun r a b c => by have : sgn t.tx = r := c; omega) ?_
    rw [Kn, if_neg (by omega)]
    have hv := sgn_vals t.tx
    rw [if_neg (by omega)]
    split
    · rename_i h3
      rw [h3] at hp
      exact .inr ⟨t, ts, rfl, h3, .inl ⟨f, hp, rfl⟩⟩
    · exact .inl ⟨f, .jsbad rfl hp, rfl⟩
  | @step m x t ts y ts1 o h1 h2 hp hs ih =>
    intro h0 hm
    refine Kn.skip (r1 := sgn t.tx + 1) (by omega) (by omega) (by omega) (fun r a b c => by have : sgn t.tx = r := c; omega) ?_
    have hv := sgn_vals t.tx
    by_cases h3 : sgn t.tx = 3
    · rw [if_pos h3] at ih
      rw [h3] at hp
      have ih' := ih (by omega) (by omega)
      rw [h3, Kn, if_neg (by omega), if_neg (by omega), if_pos rfl]
      exact .inr ⟨t, ts, rfl, h3, .inr ⟨y, ts1, hp, ih'⟩⟩
    · rw [if_neg h3] at ih
      have ih' := ih (by omega) (by omega)
      rw [Kn, if_neg (by omega), if_neg (by omega), if_neg h3] at ih' ⊢
      rcases ih' with ⟨f, a, b⟩ | ⟨x1, ts2, a, b⟩
      · exact .inl ⟨f, .jstep rfl hp a, b⟩
      · exact .inr ⟨x1, ts2, .jstep rfl hp a, b⟩

/-- Climbing from a first part. -/
theorem St.first {r0 : Nat} {x : X} {ts0 ts : List Tk} {o : PR} (h6 : r0 ≤ 6) (hp : Ps L E (.D 6) lev ts0 (.ok (x, ts))) (hs : St L E lev r0 5 x ts o) (hn : r0 ≤ 2 → (hd E ts0).tx ≠ bNot) : Ps L E (.D r0) lev ts0 o :=
  Kn.up (by decide) h6 hp (hs.kn (by omega) (by decide)) (fun a _ => hn a) (fun _ h => absurd h (by decide))
theorem St.firstBad {r0 : Nat} {f : Flt} {ts0 : List Tk} (h6 : r0 ≤ 6) (hp : Ps L E (.D 6) lev ts0 (.error f)) (hn : r0 ≤ 2 → (hd E ts0).tx ≠ bNot) : Ps L E (.D r0) lev ts0 (.error f) :=
  knErr (by decide) h6 hp (fun a _ => hn a) (fun _ h => absurd h (by decide))
/-- Climbing from a 'not'. -/
theorem St.no {r0 : Nat} {x : X} {ts0 ts : List Tk} {o : PR} (h2 : r0 ≤ 2) (hp : Ps L E (.D 2) lev ts0 (.ok (x, ts))) (hs : St L E lev r0 1 x ts o) : Ps L E (.D r0) lev ts0 o :=
  Kn.up (by decide) h2 hp (hs.kn (by omega) (by decide)) (fun _ h => absurd h (by decide)) (fun _ h => absurd h (by decide))
theorem St.noBad {r0 : Nat} {f : Flt} {ts0 : List Tk} (h2 : r0 ≤ 2) (hp : Ps L E (.D 2) lev ts0 (.error f)) : Ps L E (.D r0) lev ts0 (.error f) :=
  knErr (by decide) h2 hp (fun _ h => absurd h (by decide)) (fun _ h => absurd h (by decide))
end Go.Proofs.YtplaplhmjpfbjaaGreatDoor
