import Derived.Test.YtckdmmfmnhcabaaGreatDoorXpK
import Derived.Test.YtckdmmfmnhcabaaGreatDoorPrA
import Derived.Test.YtckdmmfmnhcabaaGreatDoorChA
import Derived.Test.YtckdmmfmnhcabaaGreatDoorPc1
import Derived.Test.YtckdmmfmnhcabaaGreatDoorNuP
import Derived.Test.YtckdmmfmnhcabaaGreatDoorTd1
namespace Go.Proofs.YtckdmmfmnhcabaaGreatDoor.Bp
open Go.RowKit
set_option linter.unusedVariables false
set_option linter.unusedSimpArgs false

/-- What may stand behind a token. -/
def Bdy (l : List UInt8) : Prop := ∀ c, l.head? = some c → c = 32 ∨ c = 40 ∨ c = 41 ∨ c = 44
/-- A text that is cut off as a token. -/
def TkOk (kd : Nat) (s : ByteArray) : Prop := (∃ c r, s.data.toList = c :: r ∧ isSp c = false) ∧ ∀ rest, Bdy rest → tokAt (s.data.toList ++ rest) = some (kd, s.size)

theorem tokAt_cons (c : UInt8) (r : List UInt8) : tokAt (c :: r) = if isDg c then some (2, wLen (c :: r)) else if isWb c then some (1, wLen (c :: r))
    else if c = 39 then (r.findIdx? (· == 39)).map (fun i => (3, i + 2))
    else if 0 < sLen (c :: r) then some (4, sLen (c :: r)) else none := rfl
theorem wLen_cons (c : UInt8) (r : List UInt8) : wLen (c :: r) = if isWb c then wLen r + 1 else 0 := rfl
theorem bdy_nw {rest : List UInt8} (h : Bdy rest) : wLen rest = 0 := by
  cases rest with
  | nil => rfl
  | cons c r =>
    unfold wLen
    rw [if_neg]
    rcases h c rfl with rfl | rfl | rfl | rfl <;> decide
theorem wLen_take : ∀ (l rest : List UInt8), wLen rest = 0 → wLen (l.take (wLen l) ++ rest) = wLen l
  | [], rest, h => by simpa [wLen] using h
  | c :: r, rest, h => by
    by_cases hc : isWb c = true
    · have e : wLen (c :: r) = wLen r + 1 := by rw [wLen_cons, if_pos hc]
      rw [e, List.take_succ_cons, List.cons_append, wLen_cons, if_pos hc, wLen_take r rest h]
    · have e : wLen (c :: r) = 0 := by rw [wLen_cons, if_neg hc]
      rw [e, List.take_zero, List.nil_append]
      exact h
theorem size_take (l : List UInt8) (n : Nat) (h : n ≤ l.length) : (⟨(l.take n).toArray⟩ : ByteArray).size = n := by
  simp [ByteArray.size, h]
theorem dg_wb {c : UInt8} (h : isDg c = true) : isWb c = true := by unfold isWb; rw [h]; simp
theorem tokAt_ok {c : UInt8} {r : List UInt8} {kd len : Nat} (hs : isSp c = false) (h : tokAt (c :: r) = some (kd, len)) : TkOk kd ⟨((c :: r).take len).toArray⟩ := by
  rw [tokAt_cons] at h
  by_cases hd : isDg c = true
  · rw [if_pos hd] at h
    simp only [Option.some.injEq, Prod.mk.injEq] at h
    obtain ⟨rfl, rfl⟩ := h
    have hw := dg_wb hd
    refine ⟨⟨c, r.take (wLen r), by simp [wLen, hw], hs⟩, fun rest hb => ?_⟩
    rw [size_take _ _ (wLen_le _)]
    have e := wLen_take (c :: r) rest (bdy_nw hb)
    have e2 : (c :: r).take (wLen (c :: r)) = c :: r.take (wLen r) := by simp [wLen, hw]
    simp only
    rw [e2, List.cons_append] at e ⊢
    rw [tokAt_cons]
    rw [if_pos hd, e]
  rw [if_neg hd] at h
  by_cases hw : isWb c = true
  · rw [if_pos hw] at h
    simp only [Option.some.injEq, Prod.mk.injEq] at h
    obtain ⟨rfl, rfl⟩ := h
    refine ⟨⟨c, r.take (wLen r), by simp [wLen, hw], hs⟩, fun rest hb => ?_⟩
    rw [size_take _ _ (wLen_le _)]
    have e := wLen_take (c :: r) rest (bdy_nw hb)
    have e2 : (c :: r).take (wLen (c :: r)) = c :: r.take (wLen r) := by simp [wLen, hw]
    simp only
    rw [e2, List.cons_append] at e ⊢
    rw [tokAt_cons]
    rw [if_neg hd, if_pos hw, e]
  rw [if_neg hw] at h
  by_cases hq : c = 39
  · rw [if_pos hq] at h
    cases hf : r.findIdx? (· == 39) with
    | none => rw [hf] at h; cases h
    | some i =>
      rw [hf] at h
      simp only [Option.map_some, Option.some.injEq, Prod.mk.injEq] at h
      obtain ⟨rfl, rfl⟩ := h
      have hi : i < r.length := (List.findIdx?_eq_some_iff_getElem.1 hf).1
      refine ⟨⟨c, r.take (i + 1), by simp, hs⟩, fun rest hb => ?_⟩
      rw [size_take _ _ (by simp; omega)]
      have e2 : (c :: r).take (i + 2) = c :: r.take (i + 1) := by simp
      simp only
      rw [e2, List.cons_append]
      rw [tokAt_cons]
      rw [if_neg hd, if_neg hw, if_pos hq]
      have h4 : (r.take (i + 1) ++ rest).findIdx? (· == 39) = some i := by
        rw [List.findIdx?_eq_some_iff_getElem] at hf ⊢
        obtain ⟨h1, h2, h3⟩ := hf
        refine ⟨by simp; omega, ?_, fun j hj => ?_⟩
        · rw [List.getElem_append_left (by simp; omega), List.getElem_take]; exact h2
        · rw [List.getElem_append_left (by simp; omega), List.getElem_take]; exact h3 j hj
      rw [h4]
      rfl
  rw [if_neg hq] at h
  by_cases h0 : 0 < sLen (c :: r)
  · rw [if_pos h0] at h
    simp only [Option.some.injEq, Prod.mk.injEq] at h
    obtain ⟨rfl, rfl⟩ := h
    have key : ∀ rest, Bdy rest → sLen ((c :: r).take (sLen (c :: r)) ++ rest) = sLen (c :: r) ∧ ∃ u, (c :: r).take (sLen (c :: r)) = c :: u := by
      intro rest hb
      unfold sLen
      by_cases h2 : (c :: r).take 2 ∈ [[60, 62], [60, 61], [62, 61], [43, 43]]
      · rw [if_pos h2]
        match r, h2 with
        | [], h2 => simp at h2
        | d :: r', h2 =>
          have e : (c :: d :: r').take 2 = [c, d] := by simp
          rw [e] at h2 ⊢
          refine ⟨?_, [d], rfl⟩
          rw [if_pos (by simpa using h2)]
      · rw [if_neg h2]
        have h3 : (c :: r).head? ∈ [some 61, some 60, some 62, some 43, some 45, some 42, some 47, some 37, some 40, some 41, some 44] := by
          unfold sLen at h0
          rw [if_neg h2] at h0
          by_cases h3 : (c :: r).head? ∈ [some 61, some 60, some 62, some 43, some 45, some 42, some 47, some 37, some 40, some 41, some 44]
          · exact h3
          · rw [if_neg h3] at h0; omega
        rw [if_pos h3]
        refine ⟨?_, [], by simp⟩
        have e : (c :: r).take 1 ++ rest = c :: rest := by simp
        rw [e, if_neg, if_pos (by simpa using h3)]
        cases rest with
        | nil => simp
        | cons d q =>
          have := hb d rfl
          rcases this with rfl | rfl | rfl | rfl <;> simp
    obtain ⟨-, u, hu⟩ := key [] (by intro c h; cases h)
    refine ⟨⟨c, u, by simpa using hu, hs⟩, fun rest hb => ?_⟩
    rw [size_take _ _ (sLen_le _)]
    have e := (key rest hb).1
    simp only
    rw [hu, List.cons_append] at e ⊢
    rw [tokAt_cons]
    rw [if_neg hd, if_neg hw, if_neg hq, e, if_pos h0]
  · rw [if_neg h0] at h; cases h
theorem map_ok {α β : Type} {f : α → β} {o : Except Nat α} {b : β} (h : o.map f = .ok b) : ∃ a, o = .ok a ∧ b = f a := by
  cases o with
  | error e => cases h
  | ok a => cases h; exact ⟨a, rfl, rfl⟩
/-- Every token that is cut off is one that is cut off anew. -/
theorem tok_tk : ∀ (n pl : Nat) (l : List UInt8) (ts : List Tk), tok n pl l = .ok ts → ∀ t ∈ ts, TkOk t.kd t.tx
  | n, pl, [], ts, h => by
    cases n <;> (rw [tok] at h; cases h; intro t ht; cases ht)
  | 0, pl, c :: r, ts, h => by rw [tok] at h; cases h; simp
  | n + 1, pl, c :: r, ts, h => by
    rw [tok] at h
    by_cases hs : isSp c = true
    · rw [if_pos hs] at h
      exact tok_tk n _ _ _ h
    · rw [if_neg hs] at h
      split at h
      · cases h
      · rename_i kd len he
        obtain ⟨l', h1, rfl⟩ := map_ok h
        intro t ht
        cases ht with
        | head => exact tokAt_ok (by simpa using hs) he
        | tail _ ht => exact tok_tk n _ _ _ h1 t ht

/-- A part of a text is cut into tokens. -/
def Tks (n pl : Nat) (l rest : List UInt8) (P : List Tk → Prop) : Prop := ∃ n' pl' ts, rest.length ≤ n' ∧ P ts ∧ tok n pl l = (tok n' pl' rest).map (ts ++ ·)
theorem Tks.seq {n pl : Nat} {l mid rest : List UInt8} {P Q R : List Tk → Prop} (h : Tks n pl l mid P) (h2 : ∀ n' pl', mid.length ≤ n' → Tks n' pl' mid rest Q) (hR : ∀ u v, P u → Q v → R (u ++ v)) : Tks n pl l rest R := by
  obtain ⟨n1, p1, u, a1, a2, a3⟩ := h
  obtain ⟨n2, p2, v, b1, b2, b3⟩ := h2 n1 p1 a1
  refine ⟨n2, p2, u ++ v, b1, hR u v a2 b2, ?_⟩
  rw [a3, b3]
  cases tok n2 p2 rest with
  | error e => rfl
  | ok l => simp [Except.map]
theorem Tks.mono {n pl : Nat} {l rest : List UInt8} {P Q : List Tk → Prop} (h : Tks n pl l rest P) (hR : ∀ u, P u → Q u) : Tks n pl l rest Q := by
  obtain ⟨n1, p1, u, a1, a2, a3⟩ := h
  exact ⟨n1, p1, u, a1, hR u a2, a3⟩
theorem tks_sp {n pl : Nat} {rest : List UInt8} (h : (32 :: rest).length ≤ n) : Tks n pl (32 :: rest) rest (fun ts => ts = []) := by
  cases n with
  | zero => simp at h
  | succ n =>
    refine ⟨n, pl + 1, [], by simpa using h, rfl, ?_⟩
    rw [tok, if_pos (by decide)]
    cases tok n (pl + 1) rest <;> simp [Except.map]
theorem tks_at {n pl kd : Nat} {s : ByteArray} {rest : List UInt8} (hc : ∃ c r, s.data.toList = c :: r ∧ isSp c = false) (h : (s.data.toList ++ rest).length ≤ n) (ha : tokAt (s.data.toList ++ rest) = some (kd, s.size)) : Tks n pl (s.data.toList ++ rest) rest (fun ts => ∃ p, ts = [⟨p, kd, s⟩]) := by
  obtain ⟨c, r, e, hs⟩ := hc
  have hz : s.size = (c :: r).length := by rw [← e]; simp
  have hsd : s = ⟨(c :: r).toArray⟩ := by rw [← e]
  cases n with
  | zero => rw [e] at h; simp at h
  | succ n =>
    refine ⟨n, pl + s.size, [⟨pl, kd, s⟩], by rw [e] at h; simp at h; omega, ⟨pl, rfl⟩, ?_⟩
    rw [e, List.cons_append] at ha ⊢
    rw [tok, if_neg (by simp [hs]), ha]
    simp only
    rw [hz, ← List.cons_append, List.drop_left, List.take_left, ← hz, ← hsd]
    cases tok n (pl + s.size) rest <;> simp [Except.map]
theorem tks_one {n pl kd : Nat} {s : ByteArray} {rest : List UInt8} (ho : TkOk kd s) (h : (s.data.toList ++ rest).length ≤ n) (hb : Bdy rest) : Tks n pl (s.data.toList ++ rest) rest (fun ts => ∃ p, ts = [⟨p, kd, s⟩]) :=
  tks_at ho.1 h (ho.2 rest hb)
/-- Signs that are cut off whatever stands behind them. -/
theorem tks_sign {n pl : Nat} {c : UInt8} {rest : List UInt8} (hc : c = 40 ∨ c = 41 ∨ c = 44 ∨ c = 45) (h : (c :: rest).length ≤ n) : Tks n pl (c :: rest) rest (fun ts => ∃ p, ts = [⟨p, 4, ⟨#[c]⟩⟩]) := by
  refine tks_at (s := ⟨#[c]⟩) ⟨c, [], rfl, by rcases hc with rfl | rfl | rfl | rfl <;> decide⟩ h ?_
  show tokAt (c :: rest) = _
  have h1 : isDg c = false := by rcases hc with rfl | rfl | rfl | rfl <;> decide
  have h2 : isWb c = false := by rcases hc with rfl | rfl | rfl | rfl <;> decide
  have h3 : c ≠ 39 := by rcases hc with rfl | rfl | rfl | rfl <;> decide
  have h4 : sLen (c :: rest) = 1 := by
    unfold sLen
    rw [if_neg, if_pos]
    · rcases hc with rfl | rfl | rfl | rfl <;> simp
    · cases rest with
      | nil => simp
      | cons d q => rcases hc with rfl | rfl | rfl | rfl <;> simp
  rw [tokAt_cons]
  rw [h1, h2, h4]
  simp [h3]
  rfl
end Go.Proofs.YtckdmmfmnhcabaaGreatDoor.Bp
namespace Go.Proofs.YtckdmmfmnhcabaaGreatDoor.Bp
open Go.RowKit
set_option linter.unusedVariables false
set_option linter.unusedSimpArgs false
set_option maxRecDepth 100000

/-- In brackets one level further in. -/
def WB (P : Nat → Prop) (b : Bool) (lev : Nat) : Prop := if b = true then lev < 12 ∧ P (lev + 1) else P lev
/-- A name. -/
def NmOk (nm : ByteArray) : Prop := TkOk 1 nm ∧ ¬ res nm ∧ nm.size ≤ 12 ∧ nm ≠ bOpen
mutual
/-- An expression that may stand at a level, written with as few brackets as can be. -/
def W : X → Nat → Prop
  | .lit k n t, lev => Dc.LV (Vl.showB k n t) k n t ∧ ∃ kd, TkOk kd (Vl.showB k n t) ∧ (kd = 2 ∨ kd = 3 ∨ Vl.showB k n t = bTrue ∨ Vl.showB k n t = bFalse)
  | .col _ nm, lev => NmOk nm
  | .pre _ s x, lev => lev < 12 ∧ (s = bNot ∨ s = bMinus) ∧ WB (W x) (decide (rkX x < preRank s)) (lev + 1)
  | .inf _ s l r, lev => sgn s ≠ 7 ∧ (∃ kd, TkOk kd s) ∧ WB (W l) (decide (rkX l < leftR s)) lev ∧ WB (W r) (decide (rkX r < (sgn s : Int) + 1)) lev
  | .app _ nm l, lev => lev < 12 ∧ NmOk nm ∧ Ws l (lev + 1)
def Ws : List X → Nat → Prop
  | [], lev => True
  | x :: l, lev => W x lev ∧ Ws l lev
end
theorem WB.less {P : Nat → Prop} (hP : ∀ a b, b ≤ a → P a → P b) {b : Bool} {lev lev' : Nat} (hl : lev' ≤ lev) (h : WB P b lev) : WB P b lev' := by
  unfold WB at h ⊢
  split
  · rename_i hb; rw [if_pos hb] at h; exact ⟨by omega, hP _ _ (by omega) h.2⟩
  · rename_i hb; rw [if_neg hb] at h; exact hP _ _ hl h
mutual
theorem w_less : ∀ (x : X) (a b : Nat), b ≤ a → W x a → W x b
  | .lit k n t, a, b, hl, h => by unfold W at h ⊢; exact h
  | .col _ nm, a, b, hl, h => by unfold W at h ⊢; exact h
  | .pre _ s x, a, b, hl, h => by
    unfold W at h ⊢
    exact ⟨by omega, h.2.1, h.2.2.less (w_less x) (by omega)⟩
  | .inf _ s l r, a, b, hl, h => by
    unfold W at h ⊢
    exact ⟨h.1, h.2.1, h.2.2.1.less (w_less l) hl, h.2.2.2.less (w_less r) hl⟩
  | .app _ nm l, a, b, hl, h => by
    unfold W at h ⊢
    exact ⟨by omega, h.2.1, ws_less l _ _ (by omega) h.2.2⟩
theorem ws_less : ∀ (l : List X) (a b : Nat), b ≤ a → Ws l a → Ws l b
  | [], a, b, hl, h => by unfold Ws; trivial
  | x :: l, a, b, hl, h => by
    unfold Ws at h ⊢
    exact ⟨w_less x a b hl h.1, ws_less l a b hl h.2⟩
end
theorem Ws.snoc {x : X} {lev : Nat} (hx : W x lev) : ∀ {l : List X}, Ws l lev → Ws (l ++ [x]) lev
  | [], _ => by rw [List.nil_append]; unfold Ws; exact ⟨hx, by unfold Ws; trivial⟩
  | y :: l, h => by unfold Ws at h; rw [List.cons_append]; unfold Ws; exact ⟨h.1, Ws.snoc hx h.2⟩
/-- At a place that asks for less. -/
theorem wb_down {x : X} {r q : Int} {lev : Nat} (hq : q ≤ r) (h : WB (W x) (decide (rkX x < r)) lev) : WB (W x) (decide (rkX x < q)) lev := by
  unfold WB at h ⊢
  by_cases h1 : rkX x < q
  · rw [if_pos (by simpa using h1)]
    rw [if_pos (by simp; omega)] at h
    exact h
  · rw [if_neg (by simpa using h1)]
    by_cases h2 : rkX x < r
    · rw [if_pos (by simpa using h2)] at h
      exact w_less x _ _ (by omega) h.2
    · rw [if_neg (by simpa using h2)] at h
      exact h
theorem wb_of {x : X} {r : Int} {lev : Nat} (hr : r ≤ rkX x) (h : W x lev) : WB (W x) (decide (rkX x < r)) lev := by
  unfold WB
  rw [if_neg (by simp; omega)]
  exact h
theorem rk_lit (k n : Int) (s : ByteArray) : rkX (.lit k n s) = 7 := rfl
theorem rk_col (p : Nat) (s : ByteArray) : rkX (.col p s) = 7 := rfl
theorem rk_app (p : Nat) (s : ByteArray) (l : List X) : rkX (.app p s l) = 7 := rfl
theorem rk_pre (p : Nat) (s : ByteArray) (x : X) : rkX (.pre p s x) = preRank s := rfl
theorem rk_inf (p : Nat) (s : ByteArray) (l r : X) : rkX (.inf p s l r) = sgn s := rfl
theorem rk_nn (x : X) : 0 ≤ rkX x := by
  cases x with
  | lit => rw [rk_lit]; decide
  | col => rw [rk_col]; decide
  | app => rw [rk_app]; decide
  | pre => rw [rk_pre]; unfold preRank; split <;> decide
  | inf => rw [rk_inf]; omega
theorem pr_rank {r : Nat} {s : ByteArray} (h : pr r s) : preRank s = r ∧ (s = bNot ∨ s = bMinus) := by
  rcases h with ⟨rfl, rfl⟩ | ⟨rfl, rfl⟩
  · exact ⟨by decide +kernel, .inl rfl⟩
  · exact ⟨by decide +kernel, .inr rfl⟩
theorem wb0 {x : X} {lev : Nat} (h : WB (W x) (decide (rkX x < ((0 : Nat) : Int))) lev) : W x lev := by
  unfold WB at h
  rw [if_neg (by have := rk_nn x; simp; omega)] at h
  exact h
def MW : Mode → Nat → Prop
  | .D _, _ => True
  | .J r l, lev => jr r ∧ WB (W l) (decide (rkX l < (r : Int))) lev
  | .Z _ nm, _ => NmOk nm
  | .A _ nm l, lev => NmOk nm ∧ Ws l lev
def RW : Mode → Nat → X → Prop
  | .D r, lev, x => WB (W x) (decide (rkX x < (r : Int))) lev
  | .J r _, lev, x => WB (W x) (decide (rkX x < (r : Int))) lev
  | .Z _ _, lev, x => rkX x = 7 ∧ ∀ l0, lev = l0 + 1 → l0 < 12 → W x l0
  | .A _ _ _, lev, x => rkX x = 7 ∧ ∀ l0, lev = l0 + 1 → l0 < 12 → W x l0
/-- What was read may stand where it was read. -/
theorem ps_w {E : Nat} {m : Mode} {lev : Nat} {ts : List Tk} {o : PR} (h : Ps Dc.LV E m lev ts o) :
    lev ≤ 12 → (∀ t ∈ ts, TkOk t.kd t.tx) → MW m lev → ∀ x ts', o = .ok (x, ts') → RW m lev x := by
  induction h with
  | jend h => intro hl hw hm x ts' e; cases e; exact hm.2
  | jok hj hp _ ih1 ih2 =>
    intro hl hw hm x ts' e
    exact ih2 hl (fun t ht => hw t (hp.suffix _ _ rfl t ht)) ⟨hj, wb_down (by omega) (ih1 hl hw trivial _ _ rfl)⟩ x ts' e
  | @jstep r l lev t ts x ts1 res hs hp _ ih1 ih2 =>
    intro hl hw hm x' ts' e
    have hw1 := fun t ht => hw t (List.mem_cons_of_mem _ ht)
    refine ih2 hl (fun t ht => hw1 t (hp.suffix _ _ rfl t ht)) ?_ x' ts' e
    have hr : rkX (.inf t.pl t.tx l x) = r := by rw [rk_inf, hs]
    have h1 : WB (W x) (decide (rkX x < ((r + 1 : Nat) : Int))) lev := ih1 hl hw1 trivial _ _ rfl
    refine ⟨hm.1, wb_of (Int.le_of_eq hr.symm) ?_⟩
    have h3 : r ≠ 3 := fun h => not_jr_3 (h ▸ hm.1)
    have h7 : r ≠ 7 := fun h => not_jr_7 (h ▸ hm.1)
    have hlr : leftR t.tx = r := by unfold leftR; rw [if_neg (by rw [hs]; omega), hs]
    unfold W
    refine ⟨by rw [hs]; exact h7, ⟨_, hw t (List.mem_cons_self ..)⟩, by rw [hlr]; exact hm.2, ?_⟩
    rw [hs]
    have e1 : ((r : Int) + 1) = ((r + 1 : Nat) : Int) := by omega
    rw [e1]
    exact h1
  | @pok r s lev t ts x ts1 hpr ht hne _ ih1 =>
    intro hl hw hm x' ts' e
    cases e
    have hw1 := fun t ht => hw t (List.mem_cons_of_mem _ ht)
    have h1 : WB (W x) (decide (rkX x < (r : Int))) (lev + 1) := ih1 (by omega) hw1 trivial _ _ rfl
    have h2 := pr_rank hpr
    have hr : rkX (.pre t.pl t.tx x) = r := by rw [rk_pre, ht]; exact h2.1
    refine wb_of (Int.le_of_eq hr.symm) ?_
    unfold W
    refine ⟨by omega, by rw [ht]; exact h2.2, ?_⟩
    rw [ht, h2.1]
    exact h1
  | pnone _ _ _ ih1 => intro hl hw hm x ts' e; exact wb_down (by omega) (ih1 hl hw trivial _ _ e)
  | cnone _ _ ih1 => intro hl hw hm x ts' e; cases e; exact wb_down (by decide) (ih1 hl hw trivial _ _ rfl)
  | @cok lev ts l t ts1 x ts2 hp hs hp2 ih1 ih2 =>
    intro hl hw hm x' ts' e
    cases e
    have hw1 := fun t ht => hw t (hp.suffix _ _ rfl t ht)
    have h1 : WB (W l) (decide (rkX l < ((4 : Nat) : Int))) lev := ih1 hl hw trivial _ _ rfl
    have h2 : WB (W x) (decide (rkX x < ((4 : Nat) : Int))) lev := ih2 hl (fun t ht => hw1 t (List.mem_cons_of_mem _ ht)) trivial _ _ rfl
    have hr : rkX (.inf t.pl t.tx l x) = ((3 : Nat) : Int) := by rw [rk_inf, hs]
    refine wb_of (Int.le_of_eq hr.symm) ?_
    have hlr : leftR t.tx = ((4 : Nat) : Int) := by unfold leftR; rw [if_pos (by rw [hs]; rfl)]; rfl
    unfold W
    refine ⟨by rw [hs]; decide, ⟨_, hw1 t (List.mem_cons_self ..)⟩, by rw [hlr]; exact h1, ?_⟩
    rw [hs]
    exact h2
  | @lit lev t ts k n s hl hk =>
    intro hlv hw hm x ts' e
    cases e
    have h1 := hw _ (List.mem_cons_self ..)
    refine wb_of (by rw [rk_lit]; decide) ?_
    have e4 := hk.2.2.2
    unfold W
    rw [e4]
    exact ⟨hk, t.kd, h1, hl⟩
  | ncol h1 h2 h3 h4 h5 h6 =>
    intro hl hw hm x ts' e
    cases e
    have h := hw _ (List.mem_cons_self ..)
    rw [h3] at h
    refine wb_of (by rw [rk_col]; decide) ?_
    unfold W
    exact ⟨h, h4, h5, h2⟩
  | zend =>
    intro hl hw hm x ts' e
    cases e
    refine ⟨rfl, fun l0 e1 e2 => ?_⟩
    unfold W
    exact ⟨e2, hm, by unfold Ws; trivial⟩
  | aend =>
    intro hl hw hm x ts' e
    cases e
    refine ⟨rfl, fun l0 e1 e2 => ?_⟩
    subst e1
    unfold W
    exact ⟨e2, hm.1, hm.2⟩
  | @ook lev t ts x t1 ts1 _ _ hne _ _ ih1 =>
    intro hl hw hm x' ts' e
    cases e
    have h1 := wb0 (ih1 (by omega) (fun t ht => hw t (List.mem_cons_of_mem _ ht)) trivial _ _ rfl)
    show WB (W x) (decide (rkX x < ((7 : Nat) : Int))) lev
    unfold WB
    split
    · exact ⟨by omega, h1⟩
    · exact w_less x _ _ (by omega) h1
  | nargs a1 a2 a3 a4 a5 a6 hne _ ih1 =>
    intro hl hw hm x ts' e
    have h := hw _ (List.mem_cons_self ..)
    rw [a3] at h
    have h1 := ih1 (by omega) (fun t ht => hw t (List.mem_cons_of_mem _ (List.mem_cons_of_mem _ ht))) ⟨h, a4, a5, a2⟩ _ _ e
    exact wb_of (by rw [h1.1]; decide) (h1.2 _ rfl (by omega))
  | zok _ hp _ ih1 ih2 =>
    intro hl hw hm x ts' e
    have h1 := wb0 (ih1 hl hw trivial _ _ rfl)
    have h2 := ih2 hl (fun t ht => hw t (hp.suffix _ _ rfl t ht)) ⟨hm, by unfold Ws; exact ⟨h1, by unfold Ws; trivial⟩⟩ x ts' e
    exact h2
  | aok _ hp _ ih1 ih2 =>
    intro hl hw hm x ts' e
    have hw1 := fun t ht => hw t (List.mem_cons_of_mem _ ht)
    have h1 := wb0 (ih1 hl hw1 trivial _ _ rfl)
    have h2 := ih2 hl (fun t ht => hw1 t (hp.suffix _ _ rfl t ht)) ⟨hm.1, Ws.snoc h1 hm.2⟩ x ts' e
    exact h2
  | _ => intro hl hw hm x ts' e; cases e
/-- What was read of a text may stand at no level. -/
theorem px_w {s : ByteArray} {x : X} (h : PX Dc.LV s (.ok x)) : W x 0 := by
  cases h with
  | ok h1 h2 h3 => exact wb0 (ps_w h3 (by omega) (tok_tk _ _ _ _ h2) trivial _ _ rfl)
end Go.Proofs.YtckdmmfmnhcabaaGreatDoor.Bp
namespace Go.Proofs.YtckdmmfmnhcabaaGreatDoor.Bp
open Go.RowKit
set_option linter.unusedVariables false
set_option linter.unusedSimpArgs false
set_option maxRecDepth 100000

/-- Tokens in brackets. -/
def TB (P : X → List Tk → Prop) (b : Bool) (y : X) (u : List Tk) : Prop :=
  if b = true then ∃ (t1 t2 : Tk) (v : List Tk), u = t1 :: (v ++ [t2]) ∧ t1.kd = 4 ∧ t1.tx = bOpen ∧ t2.tx = bShut ∧ P y v else P y u
mutual
/-- The tokens of an expression that is written once more, and the expression with their places. -/
def TX : X → X → List Tk → Prop
  | .lit k n t, x', ts => ∃ tk : Tk, ts = [tk] ∧ tk.tx = Vl.showB k n t ∧ isLit tk ∧ x' = .lit k n t
  | .col _ nm, x', ts => ∃ tk : Tk, ts = [tk] ∧ tk.tx = nm ∧ tk.kd = 1 ∧ x' = .col tk.pl nm
  | .pre _ s x, x', ts => ∃ (tk : Tk) (y : X) (u : List Tk), ts = tk :: u ∧ tk.tx = s ∧ TB (TX x) (decide (rkX x < preRank s)) y u ∧ x' = .pre tk.pl s y
  | .inf _ s l r, x', ts => ∃ (tk : Tk) (y z : X) (u v : List Tk), ts = u ++ tk :: v ∧ tk.tx = s ∧ TB (TX l) (decide (rkX l < leftR s)) y u ∧ TB (TX r) (decide (rkX r < (sgn s : Int) + 1)) z v ∧ x' = .inf tk.pl s y z
  | .app _ nm l, x', ts => ∃ (tk t1 t2 : Tk) (ys : List X) (u : List Tk), ts = tk :: t1 :: (u ++ [t2]) ∧ tk.tx = nm ∧ tk.kd = 1 ∧ t1.tx = bOpen ∧ t2.tx = bShut ∧ TXs l ys u ∧ x' = .app tk.pl nm ys
def TXs : List X → List X → List Tk → Prop
  | [], ys, u => ys = [] ∧ u = []
  | x :: l, ys, u => ∃ (y : X) (ys' : List X) (v v' : List Tk), TX x y v ∧ TXt l ys' v' ∧ ys = y :: ys' ∧ u = v ++ v'
def TXt : List X → List X → List Tk → Prop
  | [], ys, u => ys = [] ∧ u = []
  | x :: l, ys, u => ∃ (y : X) (ys' : List X) (tk : Tk) (v v' : List Tk), tk.tx = bComma ∧ TX x y v ∧ TXt l ys' v' ∧ ys = y :: ys' ∧ u = tk :: (v ++ v')
end

/-- A text that is a token of one kind alone. -/
theorem tk_kd {kd kd' n : Nat} {s : ByteArray} (h : TkOk kd s) (e : tokAt (s.data.toList ++ []) = some (kd', n)) : kd = kd' := by
  have h1 := h.2 [] (by intro c hc; cases hc)
  rw [h1] at e
  cases e; rfl
theorem lit_ne {kd : Nat} {s : ByteArray} (h : TkOk kd s) (hl : kd = 2 ∨ kd = 3 ∨ s = bTrue ∨ s = bFalse) : s ≠ bNot ∧ s ≠ bMinus ∧ s ≠ bShut := by
  refine ⟨fun e => ?_, fun e => ?_, fun e => ?_⟩
  · subst e
    have hk := tk_kd (kd' := 1) (n := 3) h (by decide +kernel)
    rcases hl with h1 | h1 | h1 | h1
    · omega
    · omega
    · exact absurd h1 (by decide +kernel)
    · exact absurd h1 (by decide +kernel)
  · subst e
    have hk := tk_kd (kd' := 4) (n := 1) h (by decide +kernel)
    rcases hl with h1 | h1 | h1 | h1
    · omega
    · omega
    · exact absurd h1 (by decide +kernel)
    · exact absurd h1 (by decide +kernel)
  · subst e
    have hk := tk_kd (kd' := 4) (n := 1) h (by decide +kernel)
    rcases hl with h1 | h1 | h1 | h1
    · omega
    · omega
    · exact absurd h1 (by decide +kernel)
    · exact absurd h1 (by decide +kernel)
theorem nm_ne {s : ByteArray} (h : NmOk s) : s ≠ bNot ∧ s ≠ bMinus ∧ s ≠ bShut := by
  obtain ⟨h1, h2, h3, h4⟩ := h
  refine ⟨fun e => h2 (by rw [e]; unfold res; simp), fun e => ?_, fun e => ?_⟩
  · subst e
    have hk := tk_kd (kd' := 4) (n := 1) h1 (by decide +kernel)
    omega
  · subst e
    have hk := tk_kd (kd' := 4) (n := 1) h1 (by decide +kernel)
    omega
theorem sgn_cases (s : ByteArray) (h : sgn s ≠ 7) : (jr (sgn s) ∨ sgn s = 3) := by
  unfold sgn at h ⊢
  unfold jr
  repeat' split
  all_goals first | omega | simp_all
/-- What a text begins with. -/
def Fst (x : X) (ts : List Tk) : Prop := ∃ t0 u, ts = t0 :: u ∧ (2 < rkX x → t0.tx ≠ bNot) ∧ (6 < rkX x → t0.tx ≠ bMinus) ∧ t0.tx ≠ bShut
theorem fst_tk : ∀ (x : X) (lev : Nat) (x' : X) (ts : List Tk), W x lev → TX x x' ts → Fst x ts
  | .lit k n t, lev, x', ts, hw, ht => by
    unfold W at hw
    unfold TX at ht
    obtain ⟨tk, rfl, h2, h3, rfl⟩ := ht
    obtain ⟨_, kd, h4, h5⟩ := hw
    have := lit_ne h4 h5
    exact ⟨tk, [], rfl, fun _ => by rw [h2]; exact this.1, fun _ => by rw [h2]; exact this.2.1, by rw [h2]; exact this.2.2⟩
  | .col _ nm, lev, x', ts, hw, ht => by
    unfold W at hw
    unfold TX at ht
    obtain ⟨tk, rfl, h2, h3, rfl⟩ := ht
    have := nm_ne hw
    exact ⟨tk, [], rfl, fun _ => by rw [h2]; exact this.1, fun _ => by rw [h2]; exact this.2.1, by rw [h2]; exact this.2.2⟩
  | .app _ nm l, lev, x', ts, hw, ht => by
    unfold W at hw
    unfold TX at ht
    obtain ⟨tk, t1, t2, ys, u, rfl, h2, h3, _⟩ := ht
    have := nm_ne hw.2.1
    exact ⟨tk, _, rfl, fun _ => by rw [h2]; exact this.1, fun _ => by rw [h2]; exact this.2.1, by rw [h2]; exact this.2.2⟩
  | .pre _ s x, lev, x', ts, hw, ht => by
    unfold W at hw
    unfold TX at ht
    obtain ⟨tk, y, u, rfl, h2, _⟩ := ht
    refine ⟨tk, u, rfl, ?_⟩
    rw [rk_pre, h2]
    rcases hw.2.1 with rfl | rfl
    · exact ⟨fun h => absurd h (by decide +kernel), fun h => absurd h (by decide +kernel), by decide +kernel⟩
    · exact ⟨fun _ => by decide +kernel, fun h => absurd h (by decide +kernel), by decide +kernel⟩
  | .inf _ s l r, lev, x', ts, hw, ht => by
    unfold W at hw
    unfold TX at ht
    obtain ⟨tk, y, z, u, v, rfl, h2, h3, h4, _⟩ := ht
    have h6 : ¬ (6 : Int) < sgn s := by rcases sgn_cases s hw.1 with h | h; (unfold jr at h; omega); omega
    have hwl := hw.2.2.1
    unfold TB at h3
    unfold WB at hwl
    split at h3
    · obtain ⟨t1, t2, v', rfl, h5, h6', h7, _⟩ := h3
      exact ⟨t1, _, rfl, fun _ => by rw [h6']; decide +kernel, fun _ => by rw [h6']; decide +kernel, by rw [h6']; decide +kernel⟩
    · rename_i hb
      rw [if_neg hb] at hwl
      obtain ⟨t0, u', rfl, h7, h8, h9⟩ := fst_tk l lev y u hwl h3
      refine ⟨t0, _, rfl, fun h => h7 ?_, fun h => absurd h (by rw [rk_inf]; exact h6), h9⟩
      rw [rk_inf] at h
      have hb' : ¬ rkX l < leftR s := by simpa using hb
      unfold leftR at hb'
      split at hb' <;> omega

/-- What may stand behind a part that is read at a rank. -/
def FC (E r : Nat) (rest : List Tk) : Prop := (∀ q, r ≤ q → q < 7 → sgn (hd E rest).tx ≠ q) ∧ (hd E rest).tx ≠ bOpen
theorem FC.up {E r q : Nat} {rest : List Tk} (h : FC E r rest) (hq : r ≤ q) : FC E q rest := ⟨fun p h1 h2 => h.1 p (by omega) h2, h.2⟩
/-- Read at a rank. -/
structure Gd (E : Nat) (x' : X) (ts : List Tk) (lev r : Nat) : Prop where
  d : ∀ rest, FC E r rest → Ps Dc.LV E (.D r) lev (ts ++ rest) (.ok (x', rest))
  c : jr r → ∀ rest res, FC E (r + 1) rest → Ps Dc.LV E (.J r x') lev rest res → Ps Dc.LV E (.D r) lev (ts ++ rest) res
theorem Gd.down {E : Nat} {x' : X} {ts : List Tk} {lev r : Nat} (hr : r < 7) (h : Gd E x' ts lev (r + 1)) (hf : ∃ t0 u, ts = t0 :: u ∧ (r = 2 → t0.tx ≠ bNot) ∧ (r = 6 → t0.tx ≠ bMinus)) : Gd E x' ts lev r := by
  obtain ⟨t0, u, rfl, f1, f2⟩ := hf
  refine ⟨fun rest hc => ?_, fun hj rest res hc hJ => .jok hj (h.d rest hc) hJ⟩
  have h1 := h.d rest (hc.up (by omega))
  by_cases hj : jr r
  · exact .jok hj h1 (.jend (hc.1 r (Nat.le_refl _) hr))
  by_cases h3 : r = 3
  · subst h3
    exact .cnone h1 (hc.1 3 (Nat.le_refl _) hr)
  by_cases h2 : r = 2
  · subst h2
    exact .pnone (.inl ⟨rfl, rfl⟩) (f1 rfl) h1
  by_cases h6 : r = 6
  · subst h6
    exact .pnone (.inr ⟨rfl, rfl⟩) (f2 rfl) h1
  · exact absurd (by unfold jr; omega) hj
theorem Gd.to {E : Nat} {x' : X} {ts : List Tk} {lev : Nat} : ∀ (n r : Nat), r + n ≤ 7 → Gd E x' ts lev (r + n) → (∃ t0 u, ts = t0 :: u ∧ (2 < r + n → t0.tx ≠ bNot) ∧ (6 < r + n → t0.tx ≠ bMinus)) → Gd E x' ts lev r
  | 0, r, _, h, _ => h
  | n + 1, r, hr, h, hf => by
    obtain ⟨t0, u, e, f1, f2⟩ := hf
    have h1 : Gd E x' ts lev (r + n) := Gd.down (by omega) h ⟨t0, u, e, fun h => f1 (by omega), fun h => f2 (by omega)⟩
    exact Gd.to n r (by omega) h1 ⟨t0, u, e, fun h => f1 (by omega), fun h => f2 (by omega)⟩
/-- From its own rank to any below. -/
theorem Gd.rank {E : Nat} {x x' : X} {ts : List Tk} {lev q r : Nat} (h : Gd E x' ts lev q) (hq : rkX x = q) (hq7 : q ≤ 7) (hf : Fst x ts) (hr : (r : Int) ≤ rkX x) : Gd E x' ts lev r := by
  obtain ⟨t0, u, e, f1, f2, _⟩ := hf
  rw [hq] at f1 f2 hr
  have e1 : r + (q - r) = q := by omega
  refine Gd.to (q - r) r (by omega) (by rw [e1]; exact h) ⟨t0, u, e, fun h => f1 (by omega), fun h => f2 (by omega)⟩
theorem fc_tk {E r : Nat} {t : Tk} {rest : List Tk} (h1 : sgn t.tx < r ∨ sgn t.tx = 7) (h2 : t.tx ≠ bOpen) : FC E r (t :: rest) := ⟨fun q h3 h4 h5 => by have : sgn t.tx = q := h5; omega, h2⟩
theorem nl_open {t : Tk} (h : t.kd = 4) (ht : t.tx = bOpen) : ¬ isLit t := by
  unfold isLit
  rw [ht]
  intro h1
  rcases h1 with h1 | h1 | h1 | h1
  · omega
  · omega
  · exact absurd h1 (by decide +kernel)
  · exact absurd h1 (by decide +kernel)
theorem nl_name {t : Tk} (h : t.kd = 1) (ht : ¬ res t.tx) : ¬ isLit t := by
  unfold isLit
  intro h1
  rcases h1 with h1 | h1 | h1 | h1
  · omega
  · omega
  · exact ht (by rw [h1]; unfold res; simp)
  · exact ht (by rw [h1]; unfold res; simp)
/-- With brackets, where they are asked for. -/
theorem gd_b {E : Nat} {x y : X} {u : List Tk} {lev r : Nat} (hr : r ≤ 7) (hw : WB (W x) (decide (rkX x < (r : Int))) lev) (ht : TB (TX x) (decide (rkX x < (r : Int))) y u)
    (ih : ∀ lev y u, W x lev → TX x y u → ∀ q : Nat, (q : Int) ≤ rkX x → Gd E y u lev q) : Gd E y u lev r := by
  unfold WB at hw
  unfold TB at ht
  by_cases hb : rkX x < (r : Int)
  · rw [if_pos (by simpa using hb)] at hw ht
    obtain ⟨t1, t2, v, rfl, h1, h2, h3, h4⟩ := ht
    have h5 := ih (lev + 1) y v hw.2 h4 0 (rk_nn x)
    have h7 : Gd E y (t1 :: (v ++ [t2])) lev 7 := ⟨fun rest hc => by
      have h6 := h5.d (t2 :: rest) (fc_tk (by rw [h3]; right; decide +kernel) (by rw [h3]; decide +kernel))
      rw [List.cons_append, List.append_assoc]
      exact .ook (nl_open h1 h2) h2 (by omega) h6 h3, fun hj => (not_jr_7 hj).elim⟩
    have e1 : r + (7 - r) = 7 := by omega
    exact Gd.to (7 - r) r (by omega) (by rw [e1]; exact h7) ⟨t1, _, rfl, fun _ => by rw [h2]; decide +kernel, fun _ => by rw [h2]; decide +kernel⟩
  · rw [if_neg (by simpa using hb)] at hw ht
    exact ih lev y u hw ht r (by omega)
theorem sgn_open (s : ByteArray) (h : sgn s ≠ 7) : s ≠ bOpen := by
  intro e
  subst e
  exact h (by decide +kernel)
mutual
/-- What is written is read. -/
theorem gd_x {E : Nat} : ∀ (x : X) (lev : Nat) (y : X) (u : List Tk), W x lev → TX x y u → ∀ q : Nat, (q : Int) ≤ rkX x → Gd E y u lev q
  | .lit k n t, lev, y, u, hw, ht, q, hq => by
    have hf := fst_tk _ _ _ _ hw ht
    unfold W at hw
    unfold TX at ht
    obtain ⟨tk, rfl, h2, h3, rfl⟩ := ht
    have h7 : Gd E (.lit k n t) [tk] lev 7 := ⟨fun rest hc => .lit h3 (by rw [h2]; exact hw.1), fun hj => (not_jr_7 hj).elim⟩
    exact h7.rank (q := 7) rfl (Nat.le_refl _) hf hq
  | .col p nm, lev, y, u, hw, ht, q, hq => by
    have hf := fst_tk _ _ _ _ hw ht
    unfold W at hw
    unfold TX at ht
    obtain ⟨tk, rfl, rfl, h3, rfl⟩ := ht
    obtain ⟨a1, a2, a3, a4⟩ := hw
    have h7 : Gd E (.col tk.pl tk.tx) [tk] lev 7 := ⟨fun rest hc => .ncol (nl_name h3 a2) a4 h3 a2 a3 hc.2, fun hj => (not_jr_7 hj).elim⟩
    exact h7.rank (q := 7) (x := .col p tk.tx) rfl (Nat.le_refl _) hf hq
  | .pre p s x, lev, y, u, hw, ht, q, hq => by
    have hf := fst_tk _ _ _ _ hw ht
    unfold W at hw
    unfold TX at ht
    obtain ⟨tk, z, v, rfl, rfl, h3, rfl⟩ := ht
    obtain ⟨a1, a2, a3⟩ := hw
    obtain ⟨r, hr, hp, hr7⟩ : ∃ r : Nat, preRank tk.tx = r ∧ pr r tk.tx ∧ r < 7 := by
      rcases a2 with e | e
      · rw [e]; exact ⟨2, by decide +kernel, .inl ⟨rfl, rfl⟩, by omega⟩
      · rw [e]; exact ⟨6, by decide +kernel, .inr ⟨rfl, rfl⟩, by omega⟩
    rw [hr] at a3 h3
    have h4 := gd_b (E := E) (by omega) a3 h3 (gd_x x)
    have h5 : Gd E (.pre tk.pl tk.tx z) (tk :: v) lev r := ⟨fun rest hc => .pok hp rfl (by omega) (h4.d rest hc), fun hj => (not_jr_pr hj hp).elim⟩
    exact h5.rank (x := .pre p tk.tx x) (by rw [rk_pre]; exact hr) (by omega) hf hq
  | .inf p s l r, lev, y, u, hw, ht, q, hq => by
    have hf := fst_tk _ _ _ _ hw ht
    unfold W at hw
    unfold TX at ht
    obtain ⟨tk, z, z', v, v', rfl, rfl, h3, h4, rfl⟩ := ht
    obtain ⟨a1, a2, a3, a4⟩ := hw
    have hop := sgn_open _ a1
    have e1 : ((sgn tk.tx : Int) + 1) = ((sgn tk.tx + 1 : Nat) : Int) := by omega
    rw [e1] at a4 h4
    have hs := sgn_cases _ a1
    have hlt : sgn tk.tx < 7 := by rcases hs with h | h; (unfold jr at h; omega); omega
    have g2 := gd_b (E := E) (by omega) a4 h4 (gd_x r)
    have hg : Gd E (.inf tk.pl tk.tx z z') (v ++ tk :: v') lev (sgn tk.tx) := by
      rcases hs with hj | h3'
      · have h3' : sgn tk.tx ≠ 3 := fun h => not_jr_3 (h ▸ hj)
        have hlr : leftR tk.tx = (sgn tk.tx : Int) := by unfold leftR; rw [if_neg (by omega)]
        rw [hlr] at a3 h3
        have g1 := gd_b (E := E) (by omega) a3 h3 (gd_x l)
        have hc : ∀ rest res, FC E (sgn tk.tx + 1) rest → Ps Dc.LV E (.J (sgn tk.tx) (.inf tk.pl tk.tx z z')) lev rest res → Ps Dc.LV E (.D (sgn tk.tx)) lev ((v ++ tk :: v') ++ rest) res := by
          intro rest res hc hJ
          rw [List.append_assoc, List.cons_append]
          exact g1.c hj (tk :: (v' ++ rest)) res (fc_tk (by left; omega) hop) (.jstep rfl (g2.d rest hc) hJ)
        exact ⟨fun rest hc' => hc rest _ (hc'.up (by omega)) (.jend (hc'.1 _ (Nat.le_refl _) hlt)), fun _ => hc⟩
      · have hlr : leftR tk.tx = ((4 : Nat) : Int) := by unfold leftR; rw [if_pos (by omega)]; rfl
        rw [hlr] at a3 h3
        have g1 := gd_b (E := E) (by omega) a3 h3 (gd_x l)
        rw [h3'] at g2 ⊢
        refine ⟨fun rest hc' => ?_, fun hj => (not_jr_3 hj).elim⟩
        rw [List.append_assoc, List.cons_append]
        exact .cok (g1.d (tk :: (v' ++ rest)) (fc_tk (by left; omega) hop)) h3' (g2.d rest (hc'.up (by omega)))
    exact hg.rank (x := .inf p tk.tx l r) (by rw [rk_inf]) (by omega) hf hq
  | .app p nm l, lev, y, u, hw, ht, q, hq => by
    have hf := fst_tk _ _ _ _ hw ht
    unfold W at hw
    unfold TX at ht
    obtain ⟨tk, t1, t2, ys, v, rfl, rfl, h3, h4, h5, h6, rfl⟩ := ht
    obtain ⟨b1, ⟨a1, a2, a3, a4⟩, b2⟩ := hw
    have h7 : Gd E (.app tk.pl tk.tx ys) (tk :: t1 :: (v ++ [t2])) lev 7 := ⟨fun rest hc => by
      rw [List.cons_append, List.cons_append, List.append_assoc]
      exact .nargs (nl_name h3 a2) a4 h3 a2 a3 h4 (by omega) (gd_xs l (lev + 1) ys v b2 h6 tk.pl tk.tx t2 h5 rest), fun hj => (not_jr_7 hj).elim⟩
    exact h7.rank (q := 7) (x := .app p tk.tx l) rfl (Nat.le_refl _) hf hq
theorem gd_xs {E : Nat} : ∀ (l : List X) (lev : Nat) (ys : List X) (u : List Tk), Ws l lev → TXs l ys u → ∀ (pl : Nat) (nm : ByteArray) (t2 : Tk), t2.tx = bShut → ∀ rest, Ps Dc.LV E (.Z pl nm) lev (u ++ t2 :: rest) (.ok (.app pl nm ys, rest))
  | [], lev, ys, u, hw, ht, pl, nm, t2, h2, rest => by
    unfold TXs at ht
    obtain ⟨rfl, rfl⟩ := ht
    exact .zend h2
  | x :: l, lev, ys, u, hw, ht, pl, nm, t2, h2, rest => by
    unfold TXs at ht
    unfold Ws at hw
    obtain ⟨y, ys', v, v', h3, h4, rfl, rfl⟩ := ht
    obtain ⟨t0, v0, e0, -, -, f3⟩ := fst_tk _ _ _ _ hw.1 h3
    rw [List.append_assoc]
    have h5 := gd_xt (E := E) l lev ys' v' hw.2 h4 pl nm [y] t2 h2 rest
    refine .zok (by rw [e0]; exact f3) ((gd_x x lev y v hw.1 h3 0 (rk_nn x)).d (v' ++ t2 :: rest) ?_) h5
    cases l with
    | nil =>
      unfold TXt at h4
      obtain ⟨-, rfl⟩ := h4
      exact fc_tk (by rw [h2]; right; decide +kernel) (by rw [h2]; decide +kernel)
    | cons x' l' =>
      unfold TXt at h4
      obtain ⟨_, _, tk, _, _, h6, -, -, -, rfl⟩ := h4
      exact fc_tk (by rw [h6]; right; decide +kernel) (by rw [h6]; decide +kernel)
theorem gd_xt {E : Nat} : ∀ (l : List X) (lev : Nat) (ys : List X) (u : List Tk), Ws l lev → TXt l ys u → ∀ (pl : Nat) (nm : ByteArray) (acc : List X) (t2 : Tk), t2.tx = bShut → ∀ rest, Ps Dc.LV E (.A pl nm acc) lev (u ++ t2 :: rest) (.ok (.app pl nm (acc ++ ys), rest))
  | [], lev, ys, u, hw, ht, pl, nm, acc, t2, h2, rest => by
    unfold TXt at ht
    obtain ⟨rfl, rfl⟩ := ht
    rw [List.append_nil]
    exact .aend h2
  | x :: l, lev, ys, u, hw, ht, pl, nm, acc, t2, h2, rest => by
    unfold TXt at ht
    unfold Ws at hw
    obtain ⟨y, ys', tk, v, v', h6, h3, h4, rfl, rfl⟩ := ht
    have h5 := gd_xt (E := E) l lev ys' v' hw.2 h4 pl nm (acc ++ [y]) t2 h2 rest
    rw [List.append_assoc] at h5
    rw [List.cons_append, List.append_assoc]
    refine .aok h6 ((gd_x x lev y v hw.1 h3 0 (rk_nn x)).d (v' ++ t2 :: rest) ?_) h5
    cases l with
    | nil =>
      unfold TXt at h4
      obtain ⟨-, rfl⟩ := h4
      exact fc_tk (by rw [h2]; right; decide +kernel) (by rw [h2]; decide +kernel)
    | cons x' l' =>
      unfold TXt at h4
      obtain ⟨_, _, tk, _, _, h6, -, -, -, rfl⟩ := h4
      exact fc_tk (by rw [h6]; right; decide +kernel) (by rw [h6]; decide +kernel)
end
end Go.Proofs.YtckdmmfmnhcabaaGreatDoor.Bp
namespace Go.Proofs.YtckdmmfmnhcabaaGreatDoor.Bp
open Go.RowKit
set_option linter.unusedVariables false
set_option linter.unusedSimpArgs false
set_option maxRecDepth 100000

theorem l_app (a b : ByteArray) : (a ++ b).data.toList = a.data.toList ++ b.data.toList := by simp
theorem bdy_sp (l : List UInt8) : Bdy (32 :: l) := by intro c h; cases h; exact .inl rfl
theorem bdy_op (l : List UInt8) : Bdy (40 :: l) := by intro c h; cases h; exact .inr (.inl rfl)
theorem bdy_sh (l : List UInt8) : Bdy (41 :: l) := by intro c h; cases h; exact .inr (.inr (.inl rfl))
theorem bdy_cm (l : List UInt8) : Bdy (44 :: l) := by intro c h; cases h; exact .inr (.inr (.inr rfl))
theorem not_ok : TkOk 1 bNot := by
  have h := tokAt_ok (c := 110) (r := [111, 116]) (kd := 1) (len := 3) (by decide) (by decide)
  exact h
/-- In brackets. -/
theorem tks_b {x : X} {b : Bool} {lev n pl : Nat} {rest : List UInt8} (hw : WB (W x) b lev) (hb : Bdy rest) (hn : ((brk b (prX x)).data.toList ++ rest).length ≤ n)
    (ih : ∀ lev n pl rest, W x lev → Bdy rest → ((prX x).data.toList ++ rest).length ≤ n → Tks n pl ((prX x).data.toList ++ rest) rest (fun ts => ∃ x', TX x x' ts)) :
    Tks n pl ((brk b (prX x)).data.toList ++ rest) rest (fun ts => ∃ x', TB (TX x) b x' ts) := by
  unfold brk at hn ⊢
  unfold WB at hw
  unfold TB
  cases b with
  | false =>
    simp only [Bool.false_eq_true, if_false] at hn hw ⊢
    exact ih lev n pl rest hw hb hn
  | true =>
    simp only [if_true] at hn hw ⊢
    have e : (bOpn ++ prX x ++ bCls).data.toList ++ rest = 40 :: ((prX x).data.toList ++ 41 :: rest) := by
      rw [l_app, l_app]
      show ([40] ++ (prX x).data.toList ++ [41]) ++ rest = _
      simp
    rw [e] at hn ⊢
    refine (tks_sign (.inl rfl) hn).seq (fun n' pl' h' => (ih (lev + 1) n' pl' (41 :: rest) hw.2 (bdy_sh _) h').seq (fun n2 pl2 h2 => tks_sign (.inr (.inl rfl)) h2) (R := fun ts => ∃ x' v t2, ts = v ++ [t2] ∧ t2.tx = bShut ∧ TX x x' v) ?_) ?_
    · rintro u v ⟨x', hx⟩ ⟨p, rfl⟩
      exact ⟨x', u, _, rfl, rfl, hx⟩
    · rintro u v ⟨p, rfl⟩ ⟨x', v', t2, rfl, h2, h3⟩
      exact ⟨x', _, t2, v', rfl, rfl, rfl, h2, h3⟩
theorem commas_nil : (commas []).data.toList = [] := rfl
theorem commas_cons (s : ByteArray) (l : List ByteArray) : (commas (s :: l)).data.toList = s.data.toList ++ (l.map (fun q => 44 :: 32 :: q.data.toList)).flatten := by
  unfold commas
  simp only [List.map_cons]
  rw [Lib.join_cons]
  unfold Lib.joinTail
  simp only [List.map_map]
  congr 2
mutual
/-- What is written is cut into its tokens. -/
theorem tks_x : ∀ (x : X) (lev n pl : Nat) (rest : List UInt8), W x lev → Bdy rest → ((prX x).data.toList ++ rest).length ≤ n → Tks n pl ((prX x).data.toList ++ rest) rest (fun ts => ∃ x', TX x x' ts)
  | .lit k m t, lev, n, pl, rest, hw, hb, hn => by
    unfold prX at hn ⊢
    unfold W at hw
    obtain ⟨h1, kd, h2, h3⟩ := hw
    refine (tks_one h2 hn hb).mono ?_
    rintro u ⟨p, rfl⟩
    exact ⟨_, by unfold TX; exact ⟨_, rfl, rfl, h3, rfl⟩⟩
  | .col p nm, lev, n, pl, rest, hw, hb, hn => by
    unfold prX at hn ⊢
    unfold W at hw
    refine (tks_one hw.1 hn hb).mono ?_
    rintro u ⟨p, rfl⟩
    exact ⟨_, by unfold TX; exact ⟨_, rfl, rfl, rfl, rfl⟩⟩
  | .pre p s x, lev, n, pl, rest, hw, hb, hn => by
    unfold prX at hn ⊢
    unfold W at hw
    obtain ⟨h1, h2, h3⟩ := hw
    have key : ∀ n' pl', ((brk (decide (rkX x < preRank s)) (prX x)).data.toList ++ rest).length ≤ n' → Tks n' pl' ((brk (decide (rkX x < preRank s)) (prX x)).data.toList ++ rest) rest (fun ts => ∃ x', TB (TX x) (decide (rkX x < preRank s)) x' ts) :=
      fun n' pl' h' => tks_b h3 hb h' (tks_x x)
    rw [l_app, List.append_assoc] at hn ⊢
    generalize (brk (decide (rkX x < preRank s)) (prX x)).data.toList = B at hn key ⊢
    rcases h2 with rfl | rfl
    · have e : (leadS bNot).data.toList ++ (B ++ rest) = bNot.data.toList ++ (32 :: (B ++ rest)) := by
        have : leadS bNot = bNot ++ bSp := by unfold leadS; rw [if_pos rfl]
        rw [this, l_app, List.append_assoc]; rfl
      rw [e] at hn ⊢
      refine (tks_one not_ok hn (bdy_sp _)).seq (fun n' pl' h' => (tks_sp h').seq key (R := fun ts => ∃ x', TB (TX x) (decide (rkX x < preRank bNot)) x' ts) ?_) ?_
      · rintro u v rfl h; exact h
      · rintro u v ⟨p, rfl⟩ ⟨x', h⟩
        exact ⟨_, by unfold TX; exact ⟨_, x', v, rfl, rfl, h, rfl⟩⟩
    · have e : (leadS bMinus).data.toList ++ (B ++ rest) = 45 :: (B ++ rest) := by
        have : leadS bMinus = bMinus := by unfold leadS; rw [if_neg (by decide)]
        rw [this]; rfl
      rw [e] at hn ⊢
      refine (tks_sign (.inr (.inr (.inr rfl))) hn).seq key ?_
      rintro u v ⟨p, rfl⟩ ⟨x', h⟩
      exact ⟨_, by unfold TX; exact ⟨_, x', v, rfl, rfl, h, rfl⟩⟩
  | .inf p s l r, lev, n, pl, rest, hw, hb, hn => by
    unfold prX at hn ⊢
    unfold W at hw
    obtain ⟨h1, ⟨kd, h2⟩, h3, h4⟩ := hw
    have e : (brk (decide (rkX l < leftR s)) (prX l) ++ bSp ++ s ++ bSp ++ brk (decide (rkX r < (sgn s : Int) + 1)) (prX r)).data.toList ++ rest = (brk (decide (rkX l < leftR s)) (prX l)).data.toList ++ (32 :: (s.data.toList ++ (32 :: ((brk (decide (rkX r < (sgn s : Int) + 1)) (prX r)).data.toList ++ rest)))) := by
      rw [l_app, l_app, l_app, l_app]
      have : bSp.data.toList = [32] := rfl
      rw [this]
      simp
    rw [e] at hn ⊢
    refine (tks_b h3 (bdy_sp _) hn (tks_x l)).seq (fun n1 p1 hn1 => (tks_sp hn1).seq (fun n2 p2 hn2 => (tks_one h2 hn2 (bdy_sp _)).seq (fun n3 p3 hn3 => (tks_sp hn3).seq (fun n4 p4 hn4 => tks_b h4 hb hn4 (tks_x r)) (R := fun ts => ∃ x', TB (TX r) (decide (rkX r < (sgn s : Int) + 1)) x' ts) ?_) (R := fun ts => ∃ tk v x', ts = tk :: v ∧ tk.tx = s ∧ TB (TX r) (decide (rkX r < (sgn s : Int) + 1)) x' v) ?_) (R := fun ts => ∃ tk v x', ts = tk :: v ∧ tk.tx = s ∧ TB (TX r) (decide (rkX r < (sgn s : Int) + 1)) x' v) ?_) ?_
    · rintro u v rfl h; exact h
    · rintro u v ⟨p, rfl⟩ ⟨x', h⟩; exact ⟨_, v, x', rfl, rfl, h⟩
    · rintro u v rfl h; exact h
    · rintro u v ⟨y, hy⟩ ⟨tk, v', z, rfl, h5, h6⟩
      exact ⟨_, by unfold TX; exact ⟨tk, y, z, u, v', rfl, h5, hy, h6, rfl⟩⟩
  | .app p nm l, lev, n, pl, rest, hw, hb, hn => by
    unfold prX at hn ⊢
    unfold W at hw
    obtain ⟨h1, h2, h3⟩ := hw
    have e : (nm ++ bOpn ++ commas (prXs l) ++ bCls).data.toList ++ rest = nm.data.toList ++ (40 :: ((commas (prXs l)).data.toList ++ 41 :: rest)) := by
      rw [l_app, l_app, l_app]
      show (nm.data.toList ++ [40] ++ (commas (prXs l)).data.toList ++ [41]) ++ rest = _
      simp
    rw [e] at hn ⊢
    refine (tks_one h2.1 hn (bdy_op _)).seq (fun n1 p1 hn1 => (tks_sign (.inl rfl) hn1).seq (fun n2 p2 hn2 => (tks_xs l (lev + 1) n2 p2 (41 :: rest) h3 (bdy_sh _) hn2).seq (fun n3 p3 hn3 => tks_sign (.inr (.inl rfl)) hn3) (R := fun ts => ∃ ys v t2, ts = v ++ [t2] ∧ t2.tx = bShut ∧ TXs l ys v) ?_) (R := fun ts => ∃ t1 ys v t2, ts = t1 :: (v ++ [t2]) ∧ t1.tx = bOpen ∧ t2.tx = bShut ∧ TXs l ys v) ?_) ?_
    · rintro u v ⟨ys, h⟩ ⟨p, rfl⟩; exact ⟨ys, u, _, rfl, rfl, h⟩
    · rintro u v ⟨p, rfl⟩ ⟨ys, v', t2, rfl, h4, h5⟩; exact ⟨_, ys, v', t2, rfl, rfl, h4, h5⟩
    · rintro u v ⟨p, rfl⟩ ⟨t1, ys, v', t2, rfl, h4, h5, h6⟩
      exact ⟨_, by unfold TX; exact ⟨_, t1, t2, ys, v', rfl, rfl, rfl, h4, h5, h6, rfl⟩⟩
theorem tks_xs : ∀ (l : List X) (lev n pl : Nat) (rest : List UInt8), Ws l lev → Bdy rest → ((commas (prXs l)).data.toList ++ rest).length ≤ n → Tks n pl ((commas (prXs l)).data.toList ++ rest) rest (fun ts => ∃ ys, TXs l ys ts)
  | [], lev, n, pl, rest, hw, hb, hn => by
    unfold prXs at hn ⊢
    rw [commas_nil, List.nil_append] at hn ⊢
    refine ⟨n, pl, [], hn, ⟨[], by unfold TXs; exact ⟨rfl, rfl⟩⟩, ?_⟩
    cases tok n pl rest <;> simp [Except.map]
  | x :: l, lev, n, pl, rest, hw, hb, hn => by
    unfold prXs at hn ⊢
    unfold Ws at hw
    rw [commas_cons, List.append_assoc] at hn ⊢
    refine (tks_x x lev n pl _ hw.1 ?_ hn).seq (fun n1 p1 hn1 => tks_xt l lev n1 p1 rest hw.2 hb hn1) ?_
    · cases l with
      | nil => unfold prXs; simpa using hb
      | cons y l => unfold prXs; exact bdy_cm _
    · rintro u v ⟨y, h⟩ ⟨ys, h'⟩
      exact ⟨_, by unfold TXs; exact ⟨y, ys, u, v, h, h', rfl, rfl⟩⟩
theorem tks_xt : ∀ (l : List X) (lev n pl : Nat) (rest : List UInt8), Ws l lev → Bdy rest → (((prXs l).map (fun q => 44 :: 32 :: q.data.toList)).flatten ++ rest).length ≤ n → Tks n pl (((prXs l).map (fun q => 44 :: 32 :: q.data.toList)).flatten ++ rest) rest (fun ts => ∃ ys, TXt l ys ts)
  | [], lev, n, pl, rest, hw, hb, hn => by
    unfold prXs at hn ⊢
    simp only [List.map_nil, List.flatten_nil, List.nil_append] at hn ⊢
    refine ⟨n, pl, [], hn, ⟨[], by unfold TXt; exact ⟨rfl, rfl⟩⟩, ?_⟩
    cases tok n pl rest <;> simp [Except.map]
  | x :: l, lev, n, pl, rest, hw, hb, hn => by
    unfold prXs at hn ⊢
    unfold Ws at hw
    simp only [List.map_cons, List.flatten_cons, List.cons_append, List.append_assoc] at hn ⊢
    refine (tks_sign (.inr (.inr (.inl rfl))) hn).seq (fun n0 p0 hn0 => (tks_sp hn0).seq (fun n1 p1 hn1 => (tks_x x lev n1 p1 _ hw.1 ?_ hn1).seq (fun n2 p2 hn2 => tks_xt l lev n2 p2 rest hw.2 hb hn2) (R := fun ts => ∃ y ys u v, TX x y u ∧ TXt l ys v ∧ ts = u ++ v) ?_) (R := fun ts => ∃ y ys u v, TX x y u ∧ TXt l ys v ∧ ts = u ++ v) ?_) ?_
    · cases l with
      | nil => unfold prXs; simpa using hb
      | cons y l => unfold prXs; exact bdy_cm _
    · rintro u v ⟨y, h⟩ ⟨ys, h'⟩
      exact ⟨y, ys, u, v, h, h', rfl⟩
    · rintro u v rfl h; exact h
    · rintro u v ⟨p, rfl⟩ ⟨y, ys, v1, v2, h, h', rfl⟩
      exact ⟨_, by unfold TXt; exact ⟨y, ys, _, v1, v2, rfl, h, h', rfl, rfl⟩⟩
end
/-- What is written once more is read to the same. -/
theorem px_back {s : ByteArray} {x : X} (h : PX Dc.LV s (.ok x)) (hs : (prX x).size ≤ 200) : ∃ x' ts, TX x x' ts ∧ PX Dc.LV (prX x) (.ok x') := by
  have hw := px_w h
  have hb : Bdy [] := by intro c hc; cases hc
  obtain ⟨n', pl', ts, -, ⟨x', hx⟩, e⟩ := tks_x x 0 (prX x).size 0 [] hw hb (by simp)
  refine ⟨x', ts, hx, .ok (ts := ts) hs ?_ ?_⟩
  · rw [List.append_nil] at e
    rw [e]
    have : tok n' pl' [] = .ok [] := by cases n' <;> rfl
    rw [this]
    simp [Except.map]
  · have h1 := (gd_x (E := (prX x).size) x 0 x' ts hw hx 0 (rk_nn x)).d [] ⟨fun q h1 h2 h3 => by
      have h4 : sgn (⟨#[]⟩ : ByteArray) = q := h3
      have h5 : sgn (⟨#[]⟩ : ByteArray) = 7 := by decide +kernel
      omega, by show (⟨#[]⟩ : ByteArray) ≠ bOpen; decide +kernel⟩
    rw [List.append_nil] at h1
    exact h1
end Go.Proofs.YtckdmmfmnhcabaaGreatDoor.Bp
namespace Go.Proofs.YtckdmmfmnhcabaaGreatDoor.Bp
open Go.RowKit
set_option linter.unusedVariables false
set_option linter.unusedSimpArgs false
set_option maxRecDepth 100000

theorem tb_x {x y : X} {b : Bool} {u : List Tk} (h : TB (TX x) b y u) : ∃ v, TX x y v := by
  unfold TB at h
  split at h
  · obtain ⟨t1, t2, v, -, -, -, -, h⟩ := h; exact ⟨v, h⟩
  · exact ⟨u, h⟩
theorem rk_same (x x' : X) (ts : List Tk) (h : TX x x' ts) : rkX x' = rkX x := by
  cases x with
  | lit k n t => unfold TX at h; obtain ⟨tk, -, -, -, rfl⟩ := h; rfl
  | col p nm => unfold TX at h; obtain ⟨tk, -, -, -, rfl⟩ := h; rfl
  | pre p s x => unfold TX at h; obtain ⟨tk, y, u, -, -, -, rfl⟩ := h; rfl
  | inf p s l r => unfold TX at h; obtain ⟨tk, y, z, u, v, -, -, -, -, rfl⟩ := h; rfl
  | app p nm l => unfold TX at h; obtain ⟨tk, t1, t2, ys, u, -, -, -, -, -, -, rfl⟩ := h; rfl
mutual
theorem pr_same : ∀ (x x' : X) (ts : List Tk), TX x x' ts → prX x' = prX x
  | .lit k n t, x', ts, h => by unfold TX at h; obtain ⟨tk, -, -, -, rfl⟩ := h; rfl
  | .col p nm, x', ts, h => by unfold TX at h; obtain ⟨tk, -, -, -, rfl⟩ := h; unfold prX; rfl
  | .pre p s x, x', ts, h => by
    unfold TX at h
    obtain ⟨tk, y, u, -, -, h1, rfl⟩ := h
    obtain ⟨v, h2⟩ := tb_x h1
    unfold prX
    rw [pr_same x y v h2, rk_same x y v h2]
  | .inf p s l r, x', ts, h => by
    unfold TX at h
    obtain ⟨tk, y, z, u, v, -, -, h1, h2, rfl⟩ := h
    obtain ⟨v1, h3⟩ := tb_x h1
    obtain ⟨v2, h4⟩ := tb_x h2
    unfold prX
    rw [pr_same l y v1 h3, rk_same l y v1 h3, pr_same r z v2 h4, rk_same r z v2 h4]
  | .app p nm l, x', ts, h => by
    unfold TX at h
    obtain ⟨tk, t1, t2, ys, u, -, -, -, -, -, h1, rfl⟩ := h
    unfold prX
    rw [prs_same l ys u h1]
theorem prs_same : ∀ (l ys : List X) (u : List Tk), TXs l ys u → prXs ys = prXs l
  | [], ys, u, h => by unfold TXs at h; rw [h.1]
  | x :: l, ys, u, h => by
    unfold TXs at h
    obtain ⟨y, ys', v, v', h1, h2, rfl, -⟩ := h
    unfold prXs
    rw [pr_same x y v h1, prt_same l ys' v' h2]
theorem prt_same : ∀ (l ys : List X) (u : List Tk), TXt l ys u → prXs ys = prXs l
  | [], ys, u, h => by unfold TXt at h; rw [h.1]
  | x :: l, ys, u, h => by
    unfold TXt at h
    obtain ⟨y, ys', tk, v, v', -, h1, h2, rfl, -⟩ := h
    unfold prXs
    rw [pr_same x y v h1, prt_same l ys' v' h2]
end
mutual
theorem ev_same (c : List Co) (vs : List Vl) : ∀ (x x' : X) (ts : List Tk), TX x x' ts → evX c vs x' = evX c vs x
  | .lit k n t, x', ts, h => by unfold TX at h; obtain ⟨tk, -, -, -, rfl⟩ := h; rfl
  | .col p nm, x', ts, h => by unfold TX at h; obtain ⟨tk, -, -, -, rfl⟩ := h; unfold evX; rfl
  | .pre p s x, x', ts, h => by
    unfold TX at h
    obtain ⟨tk, y, u, -, -, h1, rfl⟩ := h
    obtain ⟨v, h2⟩ := tb_x h1
    unfold evX
    rw [ev_same c vs x y v h2]
  | .inf p s l r, x', ts, h => by
    unfold TX at h
    obtain ⟨tk, y, z, u, v, -, -, h1, h2, rfl⟩ := h
    obtain ⟨v1, h3⟩ := tb_x h1
    obtain ⟨v2, h4⟩ := tb_x h2
    unfold evX
    rw [ev_same c vs l y v1 h3, ev_same c vs r z v2 h4]
  | .app p nm l, x', ts, h => by
    unfold TX at h
    obtain ⟨tk, t1, t2, ys, u, -, -, -, -, -, h1, rfl⟩ := h
    unfold evX
    rw [evs_same c vs l ys u h1]
theorem evs_same (c : List Co) (vs : List Vl) : ∀ (l ys : List X) (u : List Tk), TXs l ys u → evXs c vs ys = evXs c vs l
  | [], ys, u, h => by unfold TXs at h; rw [h.1]
  | x :: l, ys, u, h => by
    unfold TXs at h
    obtain ⟨y, ys', v, v', h1, h2, rfl, -⟩ := h
    unfold evXs
    rw [ev_same c vs x y v h1, evt_same c vs l ys' v' h2]
theorem evt_same (c : List Co) (vs : List Vl) : ∀ (l ys : List X) (u : List Tk), TXt l ys u → evXs c vs ys = evXs c vs l
  | [], ys, u, h => by unfold TXt at h; rw [h.1]
  | x :: l, ys, u, h => by
    unfold TXt at h
    obtain ⟨y, ys', tk, v, v', -, h1, h2, rfl, -⟩ := h
    unfold evXs
    rw [ev_same c vs x y v h1, evt_same c vs l ys' v' h2]
end
/-- The same, or the same fault at another place. -/
def KE {α : Type} (a b : Except Flt α) : Prop := (∃ k, a = .ok k ∧ b = .ok k) ∨ ∃ f g, a = .error f ∧ b = .error g ∧ f.why = g.why
theorem KE.bind {α β : Type} {a b : Except Flt α} {f g : α → Except Flt β} (h : KE a b) (hf : ∀ k, KE (f k) (g k)) : KE (a.bind f) (b.bind g) := by
  rcases h with ⟨k, rfl, rfl⟩ | ⟨p, q, rfl, rfl, e⟩
  · exact hf k
  · exact .inr ⟨p, q, rfl, rfl, e⟩
theorem ke_flt (p q : Nat) (o : Option Int) : KE (orFlt p o) (orFlt q o) := by
  cases o with
  | none => exact .inr ⟨_, _, rfl, rfl, rfl⟩
  | some k => exact .inl ⟨k, rfl, rfl⟩
mutual
theorem kind_same (c : List Co) : ∀ (x x' : X) (ts : List Tk), TX x x' ts → KE (kindX c x) (kindX c x')
  | .lit k n t, x', ts, h => by unfold TX at h; obtain ⟨tk, -, -, -, rfl⟩ := h; exact .inl ⟨k, rfl, rfl⟩
  | .col p nm, x', ts, h => by
    unfold TX at h
    obtain ⟨tk, -, -, -, rfl⟩ := h
    unfold kindX
    cases c[(colIx c nm).getD c.length]? with
    | none => exact .inr ⟨_, _, rfl, rfl, rfl⟩
    | some k => exact .inl ⟨_, rfl, rfl⟩
  | .pre p s x, x', ts, h => by
    unfold TX at h
    obtain ⟨tk, y, u, -, -, h1, rfl⟩ := h
    obtain ⟨v, h2⟩ := tb_x h1
    unfold kindX
    exact (kind_same c x y v h2).bind fun k => ke_flt _ _ _
  | .inf p s l r, x', ts, h => by
    unfold TX at h
    obtain ⟨tk, y, z, u, v, -, -, h1, h2, rfl⟩ := h
    obtain ⟨v1, h3⟩ := tb_x h1
    obtain ⟨v2, h4⟩ := tb_x h2
    unfold kindX
    exact (kind_same c l y v1 h3).bind fun k => (kind_same c r z v2 h4).bind fun k' => ke_flt _ _ _
  | .app p nm l, x', ts, h => by
    unfold TX at h
    obtain ⟨tk, t1, t2, ys, u, -, -, -, -, -, h1, rfl⟩ := h
    unfold kindX
    cases opApp nm with
    | none => exact .inr ⟨_, _, rfl, rfl, rfl⟩
    | some o => exact (kinds_same c l ys u h1).bind fun ks => ke_flt _ _ _
theorem kinds_same (c : List Co) : ∀ (l ys : List X) (u : List Tk), TXs l ys u → KE (kindsX c l) (kindsX c ys)
  | [], ys, u, h => by unfold TXs at h; rw [h.1]; exact .inl ⟨[], rfl, rfl⟩
  | x :: l, ys, u, h => by
    unfold TXs at h
    obtain ⟨y, ys', v, v', h1, h2, rfl, -⟩ := h
    unfold kindsX
    exact (kind_same c x y v h1).bind fun k => (kindt_same c l ys' v' h2).bind fun ks => .inl ⟨_, rfl, rfl⟩
theorem kindt_same (c : List Co) : ∀ (l ys : List X) (u : List Tk), TXt l ys u → KE (kindsX c l) (kindsX c ys)
  | [], ys, u, h => by unfold TXt at h; rw [h.1]; exact .inl ⟨[], rfl, rfl⟩
  | x :: l, ys, u, h => by
    unfold TXt at h
    obtain ⟨y, ys', tk, v, v', -, h1, h2, rfl, -⟩ := h
    unfold kindsX
    exact (kind_same c x y v h1).bind fun k => (kindt_same c l ys' v' h2).bind fun ks => .inl ⟨_, rfl, rfl⟩
end

/-- An error, and its number. -/
def ErrIs (e : Value) (n : Int) : Prop := (e = .nilIface ∧ n = 0) ∨ e = .iface 31 (.int .i64 n)
theorem told_is {e : Value} {n : Int} (h : ErrIs e n) (w : World) (hg : Td.Ety w) : Calls Tryz.prog 10 #[e] w fun e w' => e = .returned (.int .i64 n) ∧ Below w.heap.size w w' := by
  rcases h with ⟨rfl, rfl⟩ | rfl
  · refine (Td.told_nil w).mono ?_
    rintro e w' ⟨rfl, rfl⟩
    exact ⟨rfl, Below.refl _ _⟩
  · exact Td.told_errno n w hg
theorem ckO_same (c : List Co) {x x' : X} {ts : List Tk} (h : TX x x' ts) : (∃ k, ckO c (.ok x) = .ok (x, k) ∧ ckO c (.ok x') = .ok (x', k)) ∨ ∃ f g, ckO c (.ok x) = .error f ∧ ckO c (.ok x') = .error g ∧ f.why = g.why := by
  rw [ckO, ckO]
  by_cases hc : colsX c
  · rw [if_pos hc, if_pos hc]
    rcases kind_same c x x' ts h with ⟨k, h1, h2⟩ | ⟨f, g, h1, h2, h3⟩
    · rw [h1, h2]; exact .inl ⟨k, rfl, rfl⟩
    · rw [h1, h2]; exact .inr ⟨f, g, rfl, rfl, h3⟩
  · rw [if_neg hc, if_neg hc]
    exact .inr ⟨_, _, rfl, rfl, rfl⟩
/-- What Check answers of a text and of the text written once more. -/
theorem ck_same (c : List Co) {x x' : X} {ts : List Tk} (h : TX x x' ts) : ∃ (k m : Int) (p p' : Int) (e e' : Value), ErrIs e m ∧ ErrIs e' m ∧ chV c (.ok x) = .tuple #[.int .i64 k, .int .i64 p, e] ∧ chV c (.ok x') = .tuple #[.int .i64 k, .int .i64 p', e'] := by
  unfold chV
  rcases ckO_same c h with ⟨k, h1, h2⟩ | ⟨f, g, h1, h2, h3⟩
  · rw [h1, h2]
    exact ⟨k, 0, 0, 0, .nilIface, .nilIface, .inl ⟨rfl, rfl⟩, .inl ⟨rfl, rfl⟩, rfl, rfl⟩
  · rw [h1, h2]
    exact ⟨0, f.why, f.pl, g.pl, _, _, .inr rfl, .inr (by rw [h3]), rfl, rfl⟩
theorem ev_both (c : List Co) (vs : List Vl) {x x' : X} {ts : List Tk} (h : TX x x' ts) : ∃ (v : Vl) (m : Int) (e e' : Value), ErrIs e m ∧ ErrIs e' m ∧ evV (evO c vs (.ok x)) = .tuple #[.agg #[.int .i64 v.k, .int .i64 v.n, .string v.t], e] ∧ evV (evO c vs (.ok x')) = .tuple #[.agg #[.int .i64 v.k, .int .i64 v.n, .string v.t], e'] := by
  unfold evO
  rcases ckO_same c h with ⟨k, h1, h2⟩ | ⟨f, g, h1, h2, h3⟩
  · rw [h1, h2]
    by_cases hf : fitsB c vs = true
    · simp only [if_pos hf]
      rw [ev_same c vs x x' ts h]
      exact ⟨evX c vs x, 0, .nilIface, .nilIface, .inl ⟨rfl, rfl⟩, .inl ⟨rfl, rfl⟩, rfl, rfl⟩
    · simp only [if_neg hf]
      exact ⟨vNull, (4 : Nat), _, _, .inr rfl, .inr rfl, rfl, rfl⟩
  · rw [h1, h2]
    exact ⟨vNull, f.why, _, _, .inr rfl, .inr (by rw [h3]), rfl, rfl⟩
end Go.Proofs.YtckdmmfmnhcabaaGreatDoor.Bp
namespace Go.Proofs.YtckdmmfmnhcabaaGreatDoor.Bp
open Go.RowKit Go.Proofs.YtckdmmfmnhcabaaGreatDoor.Dc
set_option linter.unusedVariables false
set_option linter.unusedSimpArgs false
set_option maxRecDepth 100000
attribute [local go_sem ↓] neqlV eqlV
attribute [local go_sem] guardV

def rdB (s : ByteArray) : Option (Int × Int × ByteArray) := if s = ⟨#[51]⟩ then some (1, 3, ⟨#[]⟩) else rdN s
theorem rdB_LV : ∀ s k n t, rdB s = some (k, n, t) → LV s k n t := by
  intro s k n t h
  unfold rdB at h
  split at h
  · rename_i e; cases h; subst e; exact ⟨by decide +kernel, by decide, by decide, by decide +kernel⟩
  · exact Nu.rdN_LV _ _ _ _ h
def exB (s : ByteArray) : Option X :=
  match tok s.size 0 s.data.toList with
  | .ok ts => match exe s.size rdB 200 (.D 0) 0 ts with
    | some (x, []) => some x
    | _ => none
  | .error _ => none
theorem px_exB {s : ByteArray} {x : X} (hs : s.size ≤ 200) (h : exB s = some x) : PX LV s (.ok x) := by
  unfold exB at h
  split at h
  · rename_i ts ht
    split at h
    · rename_i y hy
      cases h
      exact .ok hs ht (exe_ps rdB_LV _ _ _ _ _ hy)
    · cases h
  · cases h
def txB : ByteArray := ⟨#[49, 32, 43, 32, 50, 32, 42, 32, 51]⟩
def xB : X := (exB txB).getD (.col 0 ⟨#[]⟩)
theorem txB_x : exB txB = some xB := by
  have h : (exB txB).isSome = true := by decide +kernel
  unfold xB
  cases hx : exB txB with
  | none => rw [hx] at h; cases h
  | some x => rfl
theorem txB_k : kindX [] xB = .ok 1 := by kernel_rfl
theorem txB_e : evX [] [] xB = vInt 7 := by kernel_rfl
theorem cols_nil : colsX [] := ⟨by decide, fun i h => absurd h (by simp)⟩
theorem hidN {p : Prop} (h : p) : Hid p := h
theorem hG_of (w : World) : ∀ W W' r, (∀ k, r = some k → w.heap.size ≤ k) → Below w.heap.size w W → W.grownBy W' r → Below w.heap.size w W' := fun W W' r h1 h2 h3 => xbNew h2 h3 (fun n hn => h1 n hn)
/-- Print, Check, Eval of a text that is read so. -/
theorem print_P (w : World) (h2 : Vl.Sen w) (h3 : Vl.Sen3 w) (ht : Vl.Tab w) (s : ByteArray) {o : Except Flt X} (ho : PX LV s o) : Calls Tryz.prog 11 #[.string s] w fun e w' => e = .returned (prV o) ∧ Below w.heap.size w w' := by
  have hR := rdOkLV w h2 h3 ht
  refine print_any s w o ht (fun W hW => ?_) ho
  refine (parse_any oneLV hR s W (fun V V' r h1 h2 h3 => hG_of w V V' r (fun k hk => Nat.le_trans hW.size (h1 k hk)) h2 h3) hW).mono ?_
  rintro e w' ⟨hb, o', ho', h⟩
  cases ho'.one oneLV ho
  exact ⟨hb, h⟩
theorem check_P (w : World) (h2 : Vl.Sen w) (h3 : Vl.Sen3 w) (ht : Vl.Tab w) (s : ByteArray) {o : Except Flt X} (ho : PX LV s o) (a : Option Addr) (cc : Nat) (c : List Co) (hc : ColsAt w a c) (hm : c.length ≤ maxLen) (hz : ∀ x ∈ c, x.nm.size ≤ 140737488355328) : Calls Tryz.prog 8 #[.string s, .slice a c.length cc] w fun e w' => e = .returned (chV c o) ∧ Below w.heap.size w w' := by
  have hR := rdOkLV w h2 h3 ht
  refine (check_any oneLV hR s a cc c w (hG_of w) (Below.refl _ _) hc hm hz).mono ?_
  rintro e w' ⟨hb, o', ho', rfl⟩
  cases ho'.one oneLV ho
  exact ⟨rfl, hb⟩
theorem eval_P (w : World) (h2 : Vl.Sen w) (h3 : Vl.Sen3 w) (ht : Vl.Tab w) (s : ByteArray) {o : Except Flt X} (ho : PX LV s o) (a : Option Addr) (cc : Nat) (c : List Co) (ra : Option Addr) (rc : Nat) (vs : List Vl) (hc : ColsAt w a c) (hm : c.length ≤ maxLen) (hz : ∀ x ∈ c, x.nm.size ≤ 140737488355328)
    (hv : VsAt w ra vs) (hm2 : vs.length ≤ maxLen) (hz2 : ∀ v ∈ vs, v.t.size ≤ maxLen) (hn : ∀ v ∈ vs, -9223372036854775808 ≤ v.n ∧ v.n ≤ 9223372036854775807) : Calls Tryz.prog 14 #[.string s, .slice a c.length cc, .slice ra vs.length rc] w fun e w' => e = .returned (evV (evO c vs o)) ∧ Below w.heap.size w w' := by
  have hR := rdOkLV w h2 h3 ht
  refine (eval_any oneLV hR s (fun x hx => Nu.px_lt x hx) a cc c ra rc vs w (hG_of w) (Below.refl _ _) hc hm hz hv hm2 hz2 hn Nu.cols_kn).mono ?_
  rintro e w' ⟨hb, o', ho', rfl⟩
  cases ho'.one oneLV ho
  exact ⟨rfl, hb⟩
theorem seven (w : World) (h2 : Vl.Sen w) (h3 : Vl.Sen3 w) (ht : Vl.Tab w) : Calls Tryz.prog 14 #[.string txB, .slice none 0 0, .slice none 0 0] w fun e w' => e = .returned (.tuple #[.agg #[.int .i64 1, .int .i64 7, .string ⟨#[]⟩], .nilIface]) ∧ Below w.heap.size w w' := by
  have h := eval_P w h2 h3 ht txB (px_exB (by decide) txB_x) none 0 [] none 0 [] (fun i hi => absurd hi (by simp)) (by simp) (fun x hx => by cases hx) (fun i hi => absurd hi (by simp)) (by simp) (fun x hx => by cases hx) (fun x hx => by cases hx)
  have e : evV (evO [] [] (.ok xB)) = .tuple #[.agg #[.int .i64 1, .int .i64 7, .string ⟨#[]⟩], .nilIface] := by
    unfold evO
    rw [ckO, if_pos cols_nil, txB_k]
    show evV (if fitsB [] [] = true then .ok (evX [] [] xB) else .error 4) = _
    rw [if_pos (by decide +kernel), txB_e]
    rfl
  rw [e] at h
  exact h
end Go.Proofs.YtckdmmfmnhcabaaGreatDoor.Bp
namespace Go.Proofs.YtckdmmfmnhcabaaGreatDoor.Bp
open Go.RowKit Go.Proofs.YtckdmmfmnhcabaaGreatDoor.Dc
set_option linter.unusedVariables false
set_option linter.unusedSimpArgs false
set_option maxRecDepth 100000
attribute [local go_sem ↓] neqlV eqlV
attribute [local go_sem] guardV

set_option maxHeartbeats 4000000 in
/-- The law's walk. -/
theorem back_walk (s : ByteArray) (a : Option Addr) (cc : Nat) (c : List Co) (ra : Option Addr) (rc : Nat) (vs : List Vl) (w : World) (h2 : Vl.Sen w) (h3 : Vl.Sen3 w) (ht : Vl.Tab w) (he : Td.Ety w) (hc : ColsAt w a c) (hm : c.length ≤ maxLen) (hz : ∀ x ∈ c, x.nm.size ≤ 140737488355328)
    (hv : VsAt w ra vs) (hm2 : vs.length ≤ maxLen) (hz2 : ∀ v ∈ vs, v.t.size ≤ maxLen) (hn : ∀ v ∈ vs, -9223372036854775808 ≤ v.n ∧ v.n ≤ 9223372036854775807) :
    Calls Tryz.prog 6 #[.string s, .slice a c.length cc, .slice ra vs.length rc] w fun e w' => e = .returned (.bool true) ∧ Below w.heap.size w w' := by
  have hR := rdOkLV w h2 h3 ht
  obtain ⟨o, ho⟩ := px_exi oneLV hR s w (hG_of w) (Below.refl _ _)
  have H7 := hidN (seven w h2 h3 ht)
  have HP := hidN (fun W (hW : Below w.heap.size w W) => print_P W (Vl.Sen.later h2 hW) (Vl.Sen3.later h3 hW) (Vl.Tab.later ht hW) s ho)
  have q7 : eqB 1 7 ⟨#[]⟩ 1 7 ⟨#[]⟩ = true := by decide +kernel
  cases o with
  | error f =>
    have HP' : Hid (∀ W, Below w.heap.size w W → Calls Tryz.prog 11 #[.string s] W fun e w' => e = .returned (.tuple #[.string ⟨#[]⟩, .int .i64 f.pl, .iface 31 (.int .i64 f.why)]) ∧ Below W.heap.size W w') := HP.out
    clear HP h2 h3 ht he hc hm hz hv hm2 hz2 hn hR ho
    go_enter Tryz.func6, Tryz.ntmps6
    go_wp2_with fail
    refine H7.out.mono ?_
    rintro e w1 ⟨rfl, hb1⟩
    have HB1 := hidN (hb1.trans ((xbel1 w1 (.cells #[.int .i64 1, .int .i64 7, .string ⟨#[]⟩] 42)).mono hb1.size))
    clear hb1 H7
    go_wp2_with fail
    refine (HP'.out _ HB1.out).mono ?_
    rintro e w2 ⟨rfl, hb2⟩
    have HB2 := hidN (HB1.out.trans (hb2.mono HB1.out.size))
    clear hb2 HB1 HP'
    go_wp2_with fail
    go_ret
    exact ⟨by simp, HB2.out⟩
  | ok x =>
    by_cases hl : (200 : Int) < (prX x).size
    · obtain ⟨S, HS⟩ : ∃ S, Hid (prX x = S) := ⟨_, rfl⟩
      have HP' : Hid (∀ W, Below w.heap.size w W → Calls Tryz.prog 11 #[.string s] W fun e w' => e = .returned (.tuple #[.string S, .int .i64 0, .nilIface]) ∧ Below W.heap.size W w') := by rw [← HS.out]; exact HP.out
      have hl' : (200 : Int) < S.size := by rw [← HS.out]; exact hl
      clear HP h2 h3 ht he hc hm hz hv hm2 hz2 hn hR ho HS hl
      go_enter Tryz.func6, Tryz.ntmps6
      go_wp2_with fail
      refine H7.out.mono ?_
      rintro e w1 ⟨rfl, hb1⟩
      have HB1 := hidN (hb1.trans ((xbel1 w1 (.cells #[.int .i64 1, .int .i64 7, .string ⟨#[]⟩] 42)).mono hb1.size))
      clear hb1 H7
      go_wp2_with fail
      refine (HP'.out _ HB1.out).mono ?_
      rintro e w2 ⟨rfl, hb2⟩
      have HB2 := hidN (HB1.out.trans (hb2.mono HB1.out.size))
      clear hb2 HB1 HP'
      go_wp2_with fail
      go_ret
      exact ⟨by simp, HB2.out⟩
    · obtain ⟨x', ts, hx, hpx⟩ := px_back ho (by omega)
      obtain ⟨K, M, p, p', e1, e2, hE1, hE2, hck, hck'⟩ := ck_same c hx
      obtain ⟨V, N, e3, e4, hE3, hE4, hev, hev'⟩ := ev_both c vs hx
      have hpp : prX x' = prX x := pr_same x x' ts hx
      obtain ⟨S, HS⟩ : ∃ S, Hid (prX x = S) := ⟨_, rfl⟩
      rw [HS.out] at hpx hpp hl
      have HP1 : Hid (∀ W, Below w.heap.size w W → Calls Tryz.prog 11 #[.string s] W fun e w' => e = .returned (.tuple #[.string S, .int .i64 0, .nilIface]) ∧ Below W.heap.size W w') := by rw [← HS.out]; exact HP.out
      have HP2 : Hid (∀ W, Below w.heap.size w W → Calls Tryz.prog 11 #[.string S] W fun e w' => e = .returned (.tuple #[.string S, .int .i64 0, .nilIface]) ∧ Below W.heap.size W w') := fun W hW => by
        have h := print_P W (Vl.Sen.later h2 hW) (Vl.Sen3.later h3 hW) (Vl.Tab.later ht hW) S hpx
        unfold prV at h
        simp only [hpp] at h
        exact h
      have HK1 : Hid (∀ W, Below w.heap.size w W → Calls Tryz.prog 8 #[.string s, .slice a c.length cc] W fun e w' => e = .returned (.tuple #[.int .i64 K, .int .i64 p, e1]) ∧ Below W.heap.size W w') := fun W hW => by
        have h := check_P W (Vl.Sen.later h2 hW) (Vl.Sen3.later h3 hW) (Vl.Tab.later ht hW) s ho a cc c (hc.later hW) hm hz
        rw [hck] at h
        exact h
      have HK2 : Hid (∀ W, Below w.heap.size w W → Calls Tryz.prog 8 #[.string S, .slice a c.length cc] W fun e w' => e = .returned (.tuple #[.int .i64 K, .int .i64 p', e2]) ∧ Below W.heap.size W w') := fun W hW => by
        have h := check_P W (Vl.Sen.later h2 hW) (Vl.Sen3.later h3 hW) (Vl.Tab.later ht hW) S hpx a cc c (hc.later hW) hm hz
        rw [hck'] at h
        exact h
      have HV1 : Hid (∀ W, Below w.heap.size w W → Calls Tryz.prog 14 #[.string s, .slice a c.length cc, .slice ra vs.length rc] W fun e w' => e = .returned (.tuple #[.agg #[.int .i64 V.k, .int .i64 V.n, .string V.t], e3]) ∧ Below W.heap.size W w') := fun W hW => by
        have h := eval_P W (Vl.Sen.later h2 hW) (Vl.Sen3.later h3 hW) (Vl.Tab.later ht hW) s ho a cc c ra rc vs (hc.later hW) hm hz (hv.later hW) hm2 hz2 hn
        rw [hev] at h
        exact h
      have HV2 : Hid (∀ W, Below w.heap.size w W → Calls Tryz.prog 14 #[.string S, .slice a c.length cc, .slice ra vs.length rc] W fun e w' => e = .returned (.tuple #[.agg #[.int .i64 V.k, .int .i64 V.n, .string V.t], e4]) ∧ Below W.heap.size W w') := fun W hW => by
        have h := eval_P W (Vl.Sen.later h2 hW) (Vl.Sen3.later h3 hW) (Vl.Tab.later ht hW) S hpx a cc c ra rc vs (hc.later hW) hm hz (hv.later hW) hm2 hz2 hn
        rw [hev'] at h
        exact h
      have HT1 : Hid (∀ W, Below w.heap.size w W → Calls Tryz.prog 10 #[e1] W fun e w' => e = .returned (.int .i64 M) ∧ Below W.heap.size W w') := fun W hW => told_is hE1 W (Td.Ety.later he hW)
      have HT2 : Hid (∀ W, Below w.heap.size w W → Calls Tryz.prog 10 #[e2] W fun e w' => e = .returned (.int .i64 M) ∧ Below W.heap.size W w') := fun W hW => told_is hE2 W (Td.Ety.later he hW)
      have HT3 : Hid (∀ W, Below w.heap.size w W → Calls Tryz.prog 10 #[e3] W fun e w' => e = .returned (.int .i64 N) ∧ Below W.heap.size W w') := fun W hW => told_is hE3 W (Td.Ety.later he hW)
      have HT4 : Hid (∀ W, Below w.heap.size w W → Calls Tryz.prog 10 #[e4] W fun e w' => e = .returned (.int .i64 N) ∧ Below W.heap.size W w') := fun W hW => told_is hE4 W (Td.Ety.later he hW)
      have hvv : eqB V.k V.n V.t V.k V.n V.t = true := by rw [eqB_iff]; exact decide_eq_true rfl
      obtain ⟨vk, vn, vt⟩ := V
      simp only at HV1 HV2 hvv
      have hl' : ¬ (200 : Int) < S.size := hl
      clear HP h2 h3 ht he hc hm hz hv hm2 hz2 hn hR ho HS hl hx hpx hpp hE1 hE2 hE3 hE4 hck hck' hev hev'
      go_enter Tryz.func6, Tryz.ntmps6
      go_wp2_with fail
      refine H7.out.mono ?_
      rintro e w1 ⟨rfl, hb1⟩
      have HB1 := hidN (hb1.trans ((xbel1 w1 (.cells #[.int .i64 1, .int .i64 7, .string ⟨#[]⟩] 42)).mono hb1.size))
      clear hb1 H7
      go_wp2_with fail
      refine (HP1.out _ HB1.out).mono ?_
      rintro e w2 ⟨rfl, hb2⟩
      have HB2 := hidN (HB1.out.trans (hb2.mono HB1.out.size))
      clear hb2 HB1 HP1
      go_wp2_with fail
      refine (HP2.out _ HB2.out).mono ?_
      rintro e w3 ⟨rfl, hb3⟩
      have HB3 := hidN (HB2.out.trans (hb3.mono HB2.out.size))
      clear hb3 HB2 HP2
      go_wp2_with fail
      refine (HK1.out _ HB3.out).mono ?_
      rintro e w4 ⟨rfl, hb4⟩
      have HB4 := hidN (HB3.out.trans (hb4.mono HB3.out.size))
      clear hb4 HB3 HK1
      go_wp2_with fail
      refine (HK2.out _ HB4.out).mono ?_
      rintro e w5 ⟨rfl, hb5⟩
      have HB5 := hidN (HB4.out.trans (hb5.mono HB4.out.size))
      clear hb5 HB4 HK2
      go_wp2_with fail
      refine (HV1.out _ HB5.out).mono ?_
      rintro e w6 ⟨rfl, hb6⟩
      have HB6' := hidN (HB5.out.trans (hb6.mono HB5.out.size))
      have HB6 := hidN (HB6'.out.trans ((xbel1 w6 (.cells #[.int .i64 vk, .int .i64 vn, .string vt] 42)).mono HB6'.out.size))
      have HX6 := hidN (Own.new w6 42 3 #[.int .i64 vk, .int .i64 vn, .string vt] rfl)
      clear hb6 HB5 HV1 HB6'
      go_wp2_with fail
      refine (HV2.out _ HB6.out).mono ?_
      rintro e w7 ⟨rfl, hb7⟩
      have HX7 := hidN (HX6.out.later hb7)
      have HB7' := hidN (HB6.out.trans (hb7.mono HB6.out.size))
      have HB7 := hidN (HB7'.out.trans ((xbel1 w7 (.cells #[.int .i64 vk, .int .i64 vn, .string vt] 42)).mono HB7'.out.size))
      have HY7 := hidN (Own.new w7 42 3 #[.int .i64 vk, .int .i64 vn, .string vt] rfl)
      have HX7b := hidN (HX7.out.later (xbel1 w7 (.cells #[.int .i64 vk, .int .i64 vn, .string vt] 42)))
      clear hb7 HB6 HV2 HX6 HX7 HB7'
      go_wp2_with fail
      refine (HT1.out _ HB7.out).mono ?_
      rintro e w8 ⟨rfl, hb8⟩
      have HB8 := hidN (HB7.out.trans (hb8.mono HB7.out.size))
      have HX8 := hidN (HX7b.out.later hb8)
      have HY8 := hidN (HY7.out.later hb8)
      clear hb8 HB7 HT1 HX7b HY7
      go_wp2_with fail
      refine (HT2.out _ HB8.out).mono ?_
      rintro e w9 ⟨rfl, hb9⟩
      have HB9 := hidN (HB8.out.trans (hb9.mono HB8.out.size))
      have HX9 := hidN (HX8.out.later hb9)
      have HY9 := hidN (HY8.out.later hb9)
      clear hb9 HB8 HT2 HX8 HY8
      go_wp2_with fail
      refine (HT3.out _ HB9.out).mono ?_
      rintro e w10 ⟨rfl, hb10⟩
      have HB10 := hidN (HB9.out.trans (hb10.mono HB9.out.size))
      have HX10 := hidN (HX9.out.later hb10)
      have HY10 := hidN (HY9.out.later hb10)
      clear hb10 HB9 HT3 HX9 HY9
      go_wp2_with fail
      refine (HT4.out _ HB10.out).mono ?_
      rintro e w11 ⟨rfl, hb11⟩
      have HB11 := hidN (HB10.out.trans (hb11.mono HB10.out.size))
      have HX := hidN (HX10.out.later hb11)
      have HY := hidN (HY10.out.later hb11)
      clear hb11 HB10 HT4 HX10 HY10
      have x0 : w11.cell? ⟨w6.heap.size, 0, none⟩ = some (.int .i64 vk) := HX.out.cell 0 (by decide)
      have x1 : w11.cell? ⟨w6.heap.size, 1, none⟩ = some (.int .i64 vn) := HX.out.cell 1 (by decide)
      have x2 : w11.cell? ⟨w6.heap.size, 2, none⟩ = some (.string vt) := HX.out.cell 2 (by decide)
      have y0 : w11.cell? ⟨w7.heap.size, 0, none⟩ = some (.int .i64 vk) := HY.out.cell 0 (by decide)
      have y1 : w11.cell? ⟨w7.heap.size, 1, none⟩ = some (.int .i64 vn) := HY.out.cell 1 (by decide)
      have y2 : w11.cell? ⟨w7.heap.size, 2, none⟩ = some (.string vt) := HY.out.cell 2 (by decide)
      have hxl := HX.out.lt
      have hyl := HY.out.lt
      clear HX HY
      go_wp2_with fail
      first | (go_quiet (fail); go_wp2_with fail) | skip
      go_ret
      exact ⟨by simp [hvv], by first | exact HB11.out | exact Below.drewN' HB11.out | exact HB11.out.drew⟩
end Go.Proofs.YtckdmmfmnhcabaaGreatDoor.Bp
