import Derived.Test.YtodkekmfadfjkaaGreatDoorSrF
namespace Go.Proofs.YtodkekmfadfjkaaGreatDoor
open Go.RowKit
set_option linter.unusedVariables false
set_option linter.unusedSimpArgs false
set_option maxRecDepth 100000

/-- Within quotes. -/
def par (l : List UInt8) : Bool := l.count 39 % 2 == 1
theorem par_snoc (l : List UInt8) (c : UInt8) : par (l ++ [c]) = if c = 39 then !(par l) else par l := by
  unfold par
  rw [List.count_append]
  by_cases h : c = 39
  · rw [if_pos h, h]
    simp
    rcases Nat.mod_two_eq_zero_or_one (l.count 39) with e | e
    · have : (l.count 39 + 1) % 2 = 1 := by omega
      rw [e, this]; rfl
    · have : (l.count 39 + 1) % 2 = 0 := by omega
      rw [e, this]; rfl
  · rw [if_neg h]
    have : [c].count 39 = 0 := List.count_eq_zero.2 (by simp; exact fun e => h e.symm)
    rw [this, Nat.add_zero]
theorem par_none (l : List UInt8) (h : 39 ∉ l) : par l = false := by
  unfold par
  rw [List.count_eq_zero.2 h]; rfl
theorem par_sh (v : V) (h : validV v = true) : par (sh v) = false := by
  rcases sh_form v h with ⟨-, h2, -⟩ | ⟨m, h1, h2⟩
  · exact par_none _ h2
  · rw [h1]
    unfold par
    rw [List.count_cons, List.count_append, List.count_eq_zero.2 h2]
    rfl
theorem par_in (v : V) (h : validV v = true) (j : Nat) (hj : j < (sh v).length) (hc : (sh v)[j] = 44) : par ((sh v).take j) = true := by
  rcases sh_form v h with ⟨h1, -, -⟩ | ⟨m, h1, h2⟩
  · exact absurd (by rw [← hc]; exact List.getElem_mem hj) h1
  · have hj0 : j ≠ 0 := fun e => by
      subst e
      have q : (sh v)[0]? = some 39 := by rw [h1]; rfl
      rw [List.getElem?_eq_getElem hj, hc] at q
      cases q
    obtain ⟨i, rfl⟩ : ∃ i, j = i + 1 := ⟨j - 1, by omega⟩
    have hlen : (sh v).length = m.length + 2 := by rw [h1]; simp
    have hi : i < m.length := by
      rcases Nat.lt_or_ge i m.length with q | q
      · exact q
      · have e : i = m.length := by omega
        have q2 : (sh v)[i + 1]? = some 39 := by rw [h1, e]; simp
        rw [List.getElem?_eq_getElem hj, hc] at q2
        cases q2
    have e : (sh v).take (i + 1) = 39 :: m.take i := by rw [h1]; simp [List.take_append_of_le_length (Nat.le_of_lt hi)]
    rw [e]
    unfold par
    rw [List.count_cons, List.count_eq_zero.2 (fun hm => h2 (List.mem_of_mem_take hm))]
    rfl
def more (ws : List V) : List UInt8 := if ws.isEmpty then [] else 44 :: tl ws
/-- Where the document's reader stands. -/
def St (l : List UInt8) (f i : Nat) (q : Bool) (acc vs : List V) : Prop :=
  (∃ w ws j, vs = acc ++ w :: ws ∧ f + j = i ∧ j ≤ (sh w).length ∧ l.drop f = sh w ++ more ws ∧ q = par ((sh w).take j)) ∨
  (i + 1 = f ∧ q = false ∧ l[i]? = some 32 ∧ ∃ w ws, vs = acc ++ w :: ws ∧ l.drop f = sh w ++ more ws) ∨
  (vs = acc ∧ l.length < i)
theorem drop_at {l m n : List UInt8} {f j : Nat} (h : l.drop f = m ++ n) (hj : j < m.length) : l[f + j]? = some m[j] := by
  have q : (l.drop f)[j]? = some m[j] := by rw [h, List.getElem?_append_left hj, List.getElem?_eq_getElem hj]
  rw [List.getElem?_drop] at q
  exact q
theorem drop_end {l m n : List UInt8} {f : Nat} (h : l.drop f = m ++ n) : l.drop (f + m.length) = n := by
  rw [← List.drop_drop, h, List.drop_left']
  rfl
/-- The reader goes on. -/
theorem St.next {l : List UInt8} {f i : Nat} {q : Bool} {acc vs : List V} (h : St l f i q acc vs) (hv : ∀ v ∈ vs, validV v = true) (hi : i < l.length) (hc : l[i] ≠ 44 ∨ (if l[i] = 39 then !q else q) = true) : St l f (i + 1) (if l[i] = 39 then !q else q) acc vs := by
  rcases h with ⟨w, ws, j, e1, e2, e3, e4, e5⟩ | ⟨e1, e2, e3, w, ws, e4, e5⟩ | ⟨-, e⟩
  · have hw : validV w = true := hv w (by rw [e1]; simp)
    rcases Nat.lt_or_ge j (sh w).length with hj | hj
    · have hx : l[i] = (sh w)[j] := by
        have q1 := drop_at e4 hj
        rw [e2, List.getElem?_eq_getElem hi] at q1
        exact Option.some.inj q1
      refine .inl ⟨w, ws, j + 1, e1, by omega, hj, e4, ?_⟩
      rw [List.take_succ_eq_append_getElem hj, par_snoc, ← hx, e5]
    · exfalso
      have hjl : j = (sh w).length := by omega
      have hd := drop_end e4
      rw [← hjl, e2] at hd
      have hc0 : more ws = l[i] :: l.drop (i + 1) := by rw [← hd, List.drop_eq_getElem_cons hi]
      have hx : l[i] = 44 := by
        unfold more at hc0
        split at hc0
        · cases hc0
        · exact (List.cons.inj hc0).1.symm
      have hq : q = false := by rw [e5, hjl, List.take_length]; exact par_sh w hw
      rcases hc with hc | hc
      · exact hc hx
      · rw [hx, hq] at hc; revert hc; decide
  · have hx : l[i] = 32 := by rw [List.getElem?_eq_getElem hi] at e3; exact Option.some.inj e3
    refine .inl ⟨w, ws, 0, e4, by omega, Nat.zero_le _, e5, ?_⟩
    rw [hx, if_neg (by decide), e2]; rfl
  · omega
/-- A sign between values. -/
theorem St.sep {l : List UInt8} {f i : Nat} {q : Bool} {acc vs : List V} (h : St l f i q acc vs) (hv : ∀ v ∈ vs, validV v = true) (hi : i ≤ l.length) (hc : ∀ hi' : i < l.length, l[i] = 44 ∧ q = false) :
    f ≤ i ∧ ∃ w ws, vs = acc ++ w :: ws ∧ (l.drop f).take (i - f) = sh w ∧ St l (i + 2) (i + 1) q (acc ++ [w]) vs := by
  rcases h with ⟨w, ws, j, e1, e2, e3, e4, e5⟩ | ⟨e1, e2, e3, w, ws, e4, e5⟩ | ⟨-, e⟩
  · have hw : validV w = true := hv w (by rw [e1]; simp)
    have hjl : j = (sh w).length := by
      rcases Nat.lt_or_ge j (sh w).length with hj | hj
      · exfalso
        have q1 := drop_at e4 hj
        rw [e2] at q1
        have hi' : i < l.length := by
          rcases Nat.lt_or_ge i l.length with q | q
          · exact q
          · rw [List.getElem?_eq_none q] at q1; cases q1
        obtain ⟨c1, c2⟩ := hc hi'
        rw [List.getElem?_eq_getElem hi', c1] at q1
        have q3 := par_in w hw j hj (Option.some.inj q1).symm
        rw [← e5, c2] at q3
        cases q3
      · omega
    refine ⟨by omega, w, ws, e1, ?_, ?_⟩
    · rw [e4, show i - f = (sh w).length by omega, List.take_left' rfl]
    · have hd := drop_end e4
      rw [← hjl, e2] at hd
      have hq : q = false := by rw [e5, hjl, List.take_length]; exact par_sh w hw
      cases ws with
      | nil =>
        have hd0 : l.drop i = [] := by rw [hd]; rfl
        have := List.drop_eq_nil_iff.1 hd0
        exact .inr (.inr ⟨e1, by omega⟩)
      | cons w2 ws2 =>
        have hd1 : l.drop i = 44 :: 32 :: (sh w2 ++ more ws2) := by
          rw [hd]; rfl
        refine .inr (.inl ⟨rfl, hq, ?_, w2, ws2, by rw [e1]; simp, ?_⟩)
        · have q1 : (l.drop i)[1]? = some 32 := by rw [hd1]; rfl
          rw [List.getElem?_drop] at q1
          exact q1
        · rw [← List.drop_drop, hd1]; rfl
  · exfalso
    have hi' : i < l.length := by
      rcases Nat.lt_or_ge i l.length with q | q
      · exact q
      · rw [List.getElem?_eq_none q] at e3; cases e3
    obtain ⟨c1, -⟩ := hc hi'
    rw [List.getElem?_eq_getElem hi', c1] at e3
    cases e3
  · omega
theorem sh_pos (v : V) (h : validV v = true) : 0 < (sh v).length := by
  rcases sh_form v h with ⟨-, -, h3⟩ | ⟨m, h1, -⟩
  · exact List.length_pos_iff.2 h3
  · rw [h1]; simp
theorem St.fin {l : List UInt8} {f i : Nat} {q : Bool} {acc vs : List V} (h : St l f i q acc vs) (hv : ∀ v ∈ vs, validV v = true) (hi : l.length < i) : vs = acc := by
  rcases h with ⟨w, ws, j, e1, e2, e3, e4, e5⟩ | ⟨e1, e2, e3, w, ws, e4, e5⟩ | ⟨e, -⟩
  · exfalso
    have q := congrArg List.length e4
    rw [List.length_drop, List.length_append] at q
    have := sh_pos w (hv w (by rw [e1]; simp))
    omega
  · rw [List.getElem?_eq_none (by omega)] at e3; cases e3
  · exact e
theorem St.start {l a b : List UInt8} {vs : List V} (e : l = a ++ 58 :: b) (hb : b = tl vs) : St l (a.length + 2) (a.length + 2) false [] vs := by
  cases vs with
  | nil =>
    refine .inr (.inr ⟨rfl, ?_⟩)
    rw [e, hb]; simp [tl]
  | cons w ws =>
    refine .inl ⟨w, ws, 0, rfl, rfl, Nat.zero_le _, ?_, rfl⟩
    have q : l.drop (a.length + 2) = b.drop 1 := by
      rw [e]
      rw [show a.length + 2 = a.length + (1 + 1) by omega, ← List.drop_drop, List.drop_left' rfl]
      rfl
    rw [q, hb]
    rfl
end Go.Proofs.YtodkekmfadfjkaaGreatDoor
