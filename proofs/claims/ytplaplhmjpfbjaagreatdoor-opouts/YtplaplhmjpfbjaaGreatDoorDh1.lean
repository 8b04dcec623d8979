import Derived.Test.YtplaplhmjpfbjaaGreatDoorDg1
import Derived.Test.YtplaplhmjpfbjaaGreatDoorXe1
import Derived.Test.YtplaplhmjpfbjaaGreatDoorDf1
import Derived.Test.YtplaplhmjpfbjaaGreatDoorXf1
namespace Go.Proofs.YtplaplhmjpfbjaaGreatDoor.Dc
open Go.RowKit
set_option linter.unusedVariables false
set_option linter.unusedSimpArgs false
set_option maxRecDepth 100000

mutual
/-- An expression as texts give them. -/
def NX : X → Prop
  | .lit k _ _ => k ≠ 0
  | .col _ _ => True
  | .pre _ s x => (s = bNot ∨ s = bMinus) ∧ NX x
  | .inf _ s l r => sgn s ≠ 7 ∧ NX l ∧ NX r
  | .app _ _ l => NXs l
def NXs : List X → Prop
  | [] => True
  | x :: l => NX x ∧ NXs l
end
theorem NXs.snoc {x : X} (hx : NX x) : ∀ {l : List X}, NXs l → NXs (l ++ [x])
  | [], _ => ⟨hx, trivial⟩
  | y :: l, h => ⟨h.1, NXs.snoc hx h.2⟩
def MC : Mode → Prop
  | .D _ => True
  | .J r l => r ≠ 7 ∧ NX l
  | .Z _ _ => True
  | .A _ _ l => NXs l
theorem jr_ne {r : Nat} (h : jr r) : r ≠ 7 := by rcases h with rfl | rfl | rfl | rfl <;> decide
/-- What is read is as texts give them. -/
theorem Ps.nx {L : ByteArray → Int → Int → ByteArray → Prop} (hL : ∀ t : Tk, Wf t → isLit t → ∀ k n s, L t.tx k n s → k ≠ 0) {E : Nat} {m : Mode} {lev : Nat} {ts : List Tk} {o : PR} (h : Ps L E m lev ts o) :
    (∀ t ∈ ts, Wf t) → MC m → ∀ x ts', o = .ok (x, ts') → NX x := by
  induction h with
  | jend h => intro hw hm x ts' e; cases e; exact hm.2
  | jok hj hp _ ih1 ih2 =>
    intro hw hm x ts' e
    exact ih2 (fun t ht => hw t (hp.suffix _ _ rfl t ht)) ⟨jr_ne hj, ih1 hw trivial _ _ rfl⟩ x ts' e
  | jstep hs hp _ ih1 ih2 =>
    intro hw hm x ts' e
    have hw1 := fun t ht => hw t (List.mem_cons_of_mem _ ht)
    exact ih2 (fun t ht => hw1 t (hp.suffix _ _ rfl t ht)) ⟨hm.1, by rw [hs]; exact hm.1, hm.2, ih1 hw1 trivial _ _ rfl⟩ x ts' e
  | pok hpr ht _ _ ih1 =>
    intro hw hm x ts' e
    cases e
    have hw1 := fun t ht => hw t (List.mem_cons_of_mem _ ht)
    refine ⟨?_, ih1 hw1 trivial _ _ rfl⟩
    rcases hpr with ⟨_, h⟩ | ⟨_, h⟩
    · exact .inl (ht.trans h)
    · exact .inr (ht.trans h)
  | pnone _ _ _ ih1 => intro hw hm x ts' e; exact ih1 hw trivial _ _ e
  | cnone _ _ ih1 => intro hw hm x ts' e; cases e; exact ih1 hw trivial _ _ rfl
  | cok hp hs _ ih1 ih2 =>
    intro hw hm x ts' e
    cases e
    have hw1 := fun t ht => hw t (hp.suffix _ _ rfl t ht)
    exact ⟨by rw [hs]; decide, ih1 hw trivial _ _ rfl, ih2 (fun t ht => hw1 t (List.mem_cons_of_mem _ ht)) trivial _ _ rfl⟩
  | lit hl hk => intro hw hm x ts' e; cases e; exact hL _ (hw _ (by simp)) hl _ _ _ hk
  | ncol => intro hw hm x ts' e; cases e; trivial
  | zend => intro hw hm x ts' e; cases e; trivial
  | aend => intro hw hm x ts' e; cases e; exact hm
  | ook _ _ _ _ _ ih1 => intro hw hm x ts' e; cases e; exact ih1 (fun t ht => hw t (List.mem_cons_of_mem _ ht)) trivial _ _ rfl
  | nargs _ _ _ _ _ _ _ _ ih1 => intro hw hm x ts' e; exact ih1 (fun t ht => hw t (List.mem_cons_of_mem _ (List.mem_cons_of_mem _ ht))) trivial _ _ e
  | zok _ hp _ ih1 ih2 =>
    intro hw hm x ts' e
    exact ih2 (fun t ht => hw t (hp.suffix _ _ rfl t ht)) ⟨ih1 hw trivial _ _ rfl, trivial⟩ x ts' e
  | aok _ hp _ ih1 ih2 =>
    intro hw hm x ts' e
    have hw1 := fun t ht => hw t (List.mem_cons_of_mem _ ht)
    exact ih2 (fun t ht => hw1 t (hp.suffix _ _ rfl t ht)) (NXs.snoc (ih1 hw1 trivial _ _ rfl) hm) x ts' e
  | _ => intro hw hm x ts' e; cases e
theorem orFlt_eq {pl : Nat} {o : Option Int} (h : o ≠ some 0) : orFlt pl o = if orZ o = 0 then .error ⟨pl, 3⟩ else .ok (orZ o) := by
  cases o with
  | none => rfl
  | some k =>
    have hk : k ≠ 0 := fun e => h (by rw [e])
    simp [orFlt, orZ, hk]
theorem opPre_nz (s : ByteArray) (k : Int) : kOf (opPre s) [k] ≠ some 0 := by
  unfold opPre
  split
  · rw [kOf1 2 2 k (by decide) (by decide)]; split <;> simp
  · rw [kOf1 1 1 k (by decide) (by decide)]; split <;> simp
end Go.Proofs.YtplaplhmjpfbjaaGreatDoor.Dc
namespace Go.Proofs.YtplaplhmjpfbjaaGreatDoor.Dc
open Go.RowKit
set_option linter.unusedVariables false
set_option linter.unusedSimpArgs false
set_option maxRecDepth 100000

theorem kOf_len (o : List Int × Int) (ks : List Int) (h : ks.length ≠ o.1.length) : kOf o ks = none := by unfold kOf; rw [if_neg h]
theorem kO_len (k : Int) : kOf ([3], 1) [k] = if k = 3 then some 1 else none := kOf1 3 1 k (by decide) (by decide)
theorem kO_abs (k : Int) : kOf ([1], 1) [k] = if k = 1 then some 1 else none := kOf1 1 1 k (by decide) (by decide)
theorem kO_isnull (k : Int) : kOf ([0], 2) [k] = some 2 := by unfold kOf; simp [kLoop, kStep]
theorem kO_cut (k k' : Int) : kOf ([3, 1], 3) [k, k'] = if k = 3 ∧ k' = 1 then some 3 else none := by
  unfold kOf; simp [kLoop, kStep]
  by_cases h : k = 3 <;> by_cases h' : k' = 1 <;> simp [h, h']
theorem kO_coalesce (k k' : Int) (hk : k ≠ 0) : kOf ([0, 0], 0) [k, k'] = if k = k' then some k else none := by
  unfold kOf; simp [kLoop, kStep, hk]
  by_cases h : k' = k
  · simp [h]
  · have h2 : ¬ k = k' := fun e => h e.symm
    simp [h, h2]
theorem kO_if (k k' k2 : Int) (hk : k' ≠ 0) : kOf ([2, 0, 0], 0) [k, k', k2] = if k = 2 ∧ k' = k2 then some k' else none := by
  unfold kOf; simp [kLoop, kStep, hk]
  by_cases h0 : k = 2
  · by_cases h : k2 = k'
    · simp [h0, h]
    · have h2 : ¬ k' = k2 := fun e => h e.symm
      simp [h0, h, h2, hk]
  · simp [h0]
theorem opInf_nz (s : ByteArray) (k k' : Int) (hk : k ≠ 0) : kOf (opInf s) [k, k'] ≠ some 0 := by
  unfold opInf
  split
  · rw [kOf2 2 2 k k' (by decide) (by decide)]; split <;> simp
  · split
    · rw [kOfE 2 k k' (by decide) hk]; split <;> simp
    · split
      · rw [kOf2 3 3 k k' (by decide) (by decide)]; split <;> simp
      · rw [kOf2 1 1 k k' (by decide) (by decide)]; split <;> simp
theorem opApp_cases {nm : ByteArray} {o : List Int × Int} (h : opApp nm = some o) : (nm = bLen ∧ o = ([3], 1)) ∨ (nm = bAbs ∧ o = ([1], 1)) ∨ (nm = bCut ∧ o = ([3, 1], 3)) ∨ (nm = bIsnull ∧ o = ([0], 2)) ∨ (nm = bCoalesce ∧ o = ([0, 0], 0)) ∨ (nm = bIf ∧ o = ([2, 0, 0], 0)) := by
  unfold opApp at h
  split at h
  · rename_i e; cases h; exact .inl ⟨e, rfl⟩
  split at h
  · rename_i e; cases h; exact .inr (.inl ⟨e, rfl⟩)
  split at h
  · rename_i e; cases h; exact .inr (.inr (.inl ⟨e, rfl⟩))
  split at h
  · rename_i e; cases h; exact .inr (.inr (.inr (.inl ⟨e, rfl⟩)))
  split at h
  · rename_i e; cases h; exact .inr (.inr (.inr (.inr (.inl ⟨e, rfl⟩))))
  split at h
  · rename_i e; cases h; exact .inr (.inr (.inr (.inr (.inr ⟨e, rfl⟩))))
  · cases h
theorem len1 {ks : List Int} (h : ks.length = 1) : ∃ a, ks = [a] := by
  match ks, h with
  | [a], _ => exact ⟨a, rfl⟩
theorem len2 {ks : List Int} (h : ks.length = 2) : ∃ a b, ks = [a, b] := by
  match ks, h with
  | [a, b], _ => exact ⟨a, b, rfl⟩
theorem len3 {ks : List Int} (h : ks.length = 3) : ∃ a b c, ks = [a, b, c] := by
  match ks, h with
  | [a, b, c], _ => exact ⟨a, b, c, rfl⟩
theorem opApp_nz {nm : ByteArray} {o : List Int × Int} (h : opApp nm = some o) (ks : List Int) (hk : ∀ k ∈ ks, k ≠ 0) : kOf o ks ≠ some 0 := by
  by_cases hl : ks.length = o.1.length
  · rcases opApp_cases h with ⟨_, rfl⟩ | ⟨_, rfl⟩ | ⟨_, rfl⟩ | ⟨_, rfl⟩ | ⟨_, rfl⟩ | ⟨_, rfl⟩
    · obtain ⟨a, rfl⟩ := len1 hl; rw [kO_len]; split <;> simp
    · obtain ⟨a, rfl⟩ := len1 hl; rw [kO_abs]; split <;> simp
    · obtain ⟨a, b, rfl⟩ := len2 hl; rw [kO_cut]; split <;> simp
    · obtain ⟨a, rfl⟩ := len1 hl; rw [kO_isnull]; simp
    · obtain ⟨a, b, rfl⟩ := len2 hl
      have ha := hk a (by simp)
      rw [kO_coalesce a b ha]; split
      · intro e; exact ha (by simpa using e)
      · simp
    · obtain ⟨a, b, c, rfl⟩ := len3 hl
      have hb := hk b (by simp)
      rw [kO_if a b c hb]; split
      · intro e; exact hb (by simpa using e)
      · simp
  · rw [kOf_len o ks hl]; simp
theorem orFlt_ok {pl : Nat} {o : Option Int} {k : Int} (h : orFlt pl o = .ok k) : o = some k := by
  cases o with
  | none => cases h
  | some k' => cases h; rfl
mutual
/-- Kinds are never 0. -/
theorem kindX_nz {c : List Co} (hc : ∀ x ∈ c, x.k ≠ 0) : ∀ (x : X), NX x → ∀ k, kindX c x = .ok k → k ≠ 0
  | .lit k n t, hx, k', h => by rw [kindX] at h; cases h; exact hx
  | .col pl nm, hx, k', h => by
    rw [kindX] at h
    split at h
    · rename_i x hx'
      cases h
      exact hc x (List.mem_of_getElem? hx')
    · cases h
  | .pre pl s x, hx, k', h => by
    rw [kindX] at h
    cases h1 : kindX c x with
    | error f => rw [h1] at h; cases h
    | ok k =>
      rw [h1] at h
      have h2 := orFlt_ok (show orFlt pl (kOf (opPre s) [k]) = .ok k' from h)
      intro e; subst e; exact opPre_nz s k h2
  | .inf pl s l r, hx, k', h => by
    rw [kindX] at h
    cases h1 : kindX c l with
    | error f => rw [h1] at h; cases h
    | ok k =>
      rw [h1] at h
      have hk := kindX_nz hc l hx.2.1 k h1
      cases h2 : kindX c r with
      | error f => rw [h2] at h; cases h
      | ok k2 =>
        rw [h2] at h
        have h3 := orFlt_ok (show orFlt pl (kOf (opInf s) [k, k2]) = .ok k' from h)
        intro e; subst e; exact opInf_nz s k k2 hk h3
  | .app pl nm l, hx, k', h => by
    rw [kindX] at h
    split at h
    · cases h
    · rename_i o ho
      cases h1 : kindsX c l with
      | error f => rw [h1] at h; cases h
      | ok ks =>
        rw [h1] at h
        have h3 := orFlt_ok (show orFlt pl (kOf o ks) = .ok k' from h)
        intro e; subst e; exact opApp_nz ho ks (kindsX_nz hc l hx ks h1) h3
theorem kindsX_nz {c : List Co} (hc : ∀ x ∈ c, x.k ≠ 0) : ∀ (l : List X), NXs l → ∀ ks, kindsX c l = .ok ks → ∀ k ∈ ks, k ≠ 0
  | [], hl, ks, h => by rw [kindsX] at h; cases h; simp
  | x :: l, hl, ks, h => by
    rw [kindsX] at h
    cases h1 : kindX c x with
    | error f => rw [h1] at h; cases h
    | ok k =>
      rw [h1] at h
      cases h2 : kindsX c l with
      | error f => rw [h2] at h; cases h
      | ok ks' =>
        rw [h2] at h
        cases h
        intro k' hk'
        rcases List.mem_cons.1 hk' with rfl | hk'
        · exact kindX_nz hc x hl.1 _ h1
        · exact kindsX_nz hc l hl.2 ks' h2 k' hk'
end
end Go.Proofs.YtplaplhmjpfbjaaGreatDoor.Dc
namespace Go.Proofs.YtplaplhmjpfbjaaGreatDoor.Dc
open Go.RowKit
set_option linter.unusedVariables false
set_option linter.unusedSimpArgs false
set_option maxRecDepth 100000

theorem signs_ne {s : ByteArray} (h : sgn s ≠ 7) : (s.toList == [118, 97, 108, 117, 101]) = false ∧ (s.toList == [110, 97, 109, 101]) = false ∧ (s.toList == [99, 97, 108, 108]) = false := by
  refine ⟨xnl fun e => h (by rw [e]; decide), xnl fun e => h (by rw [e]; decide), xnl fun e => h (by rw [e]; decide)⟩
/-- What the document's result is of two parts. -/
theorem resI_any (s : ByteArray) (hs : sgn s ≠ 7) (b kb : Nat) (nv k0 k1 k2 k3 : Int) (w : World) (c0 : w.cell? ⟨b, 0, none⟩ = some (.string s)) (hk : K4 w kb k0 k1 k2 k3) (hk0 : k0 ≠ 0) :
    Calls Tryz.prog 59 #[.pointer (some ⟨b, 0, none⟩), .int .i64 nv, .slice (some ⟨kb, 0, none⟩) 4 4] w fun e w' => e = .returned (.int .i64 (orZ (kOf (opInf s) [k0, k1]))) ∧ Below w.heap.size w w' := by
  have hb2 : ∀ a g : Int, a ≠ 0 → g ≠ 0 → orZ (kOf ([a, a], g) [k0, k1]) = if k0 = a ∧ k1 = a then g else 0 := fun a g ha hg => by rw [kOf2 a g k0 k1 ha hg]; split <;> rfl
  have he2 : orZ (kOf ([0, 0], 2) [k0, k1]) = if k0 = k1 then 2 else 0 := by rw [kOfE 2 k0 k1 (by decide) hk0]; split <;> rfl
  by_cases hOr : s = bOr
  · subst hOr; rw [show opInf bOr = ([2, 2], 2) by decide +kernel, hb2 2 2 (by decide) (by decide)]; exact res_or b kb nv k0 k1 k2 k3 w c0 hk
  by_cases hAnd : s = bAnd
  · subst hAnd; rw [show opInf bAnd = ([2, 2], 2) by decide +kernel, hb2 2 2 (by decide) (by decide)]; exact res_and b kb nv k0 k1 k2 k3 w c0 hk
  by_cases hEq : s = bEq
  · subst hEq; rw [show opInf bEq = ([0, 0], 2) by decide +kernel, he2]; exact res_Eq b kb nv k0 k1 k2 k3 w c0 hk
  by_cases hNe : s = bNe
  · subst hNe; rw [show opInf bNe = ([0, 0], 2) by decide +kernel, he2]; exact res_Ne b kb nv k0 k1 k2 k3 w c0 hk
  by_cases hLt : s = bLt
  · subst hLt; rw [show opInf bLt = ([0, 0], 2) by decide +kernel, he2]; exact res_Lt b kb nv k0 k1 k2 k3 w c0 hk
  by_cases hLe : s = bLe
  · subst hLe; rw [show opInf bLe = ([0, 0], 2) by decide +kernel, he2]; exact res_Le b kb nv k0 k1 k2 k3 w c0 hk
  by_cases hGt : s = bGt
  · subst hGt; rw [show opInf bGt = ([0, 0], 2) by decide +kernel, he2]; exact res_Gt b kb nv k0 k1 k2 k3 w c0 hk
  by_cases hGe : s = bGe
  · subst hGe; rw [show opInf bGe = ([0, 0], 2) by decide +kernel, he2]; exact res_Ge b kb nv k0 k1 k2 k3 w c0 hk
  by_cases hCat : s = bCat
  · subst hCat; rw [show opInf bCat = ([3, 3], 3) by decide +kernel, hb2 3 3 (by decide) (by decide)]; exact res_cat b kb nv k0 k1 k2 k3 w c0 hk
  by_cases hPlus : s = bPlus
  · subst hPlus; rw [show opInf bPlus = ([1, 1], 1) by decide +kernel, hb2 1 1 (by decide) (by decide)]; exact res_sPlus b kb nv k0 k1 k2 k3 w c0 hk
  by_cases hMinus : s = bMinus
  · subst hMinus; rw [show opInf bMinus = ([1, 1], 1) by decide +kernel, hb2 1 1 (by decide) (by decide)]; exact res_sMinus b kb nv k0 k1 k2 k3 w c0 hk
  by_cases hMul : s = bMul
  · subst hMul; rw [show opInf bMul = ([1, 1], 1) by decide +kernel, hb2 1 1 (by decide) (by decide)]; exact res_sMul b kb nv k0 k1 k2 k3 w c0 hk
  by_cases hDiv : s = bDiv
  · subst hDiv; rw [show opInf bDiv = ([1, 1], 1) by decide +kernel, hb2 1 1 (by decide) (by decide)]; exact res_sDiv b kb nv k0 k1 k2 k3 w c0 hk
  by_cases hMod : s = bMod
  · subst hMod; rw [show opInf bMod = ([1, 1], 1) by decide +kernel, hb2 1 1 (by decide) (by decide)]; exact res_sMod b kb nv k0 k1 k2 k3 w c0 hk
  refine absurd ?_ hs
  unfold sgn
  simp [hOr, hAnd, hEq, hNe, hLt, hLe, hGt, hGe, hPlus, hMinus, hCat, hMul, hDiv, hMod]
/-- What the document's result is of arguments. -/
theorem resA_any {nm : ByteArray} {o : List Int × Int} (h : opApp nm = some o) (ks : List Int) (hz : ∀ k ∈ ks, k ≠ 0) (b kb : Nat) (ka : Option Addr) (kc : Nat) (w : World) (c0 : w.cell? ⟨b, 0, none⟩ = some (.string bCall)) (c2 : w.cell? ⟨b, 2, none⟩ = some (.slice ka ks.length kc)) (c6 : w.cell? ⟨b, 6, none⟩ = some (.string nm)) (hk : K4 w kb (ks.getD 0 0) (ks.getD 1 0) (ks.getD 2 0) (ks.getD 3 0)) :
    Calls Tryz.prog 59 #[.pointer (some ⟨b, 0, none⟩), .int .i64 (argN nm), .slice (some ⟨kb, 0, none⟩) 4 4] w fun e w' => e = .returned (.int .i64 (orZ (kOf o ks))) ∧ Below w.heap.size w w' := by
  have hn : argN nm = (o.1.length : Int) := by unfold argN; rw [h]
  by_cases hl : ks.length = o.1.length
  · rw [hn, ← hl]
    rcases opApp_cases h with ⟨rfl, rfl⟩ | ⟨rfl, rfl⟩ | ⟨rfl, rfl⟩ | ⟨rfl, rfl⟩ | ⟨rfl, rfl⟩ | ⟨rfl, rfl⟩
    · obtain ⟨a, rfl⟩ := len1 hl
      rw [show orZ (kOf ([3], 1) [a]) = if a = 3 then 1 else 0 by rw [kO_len]; split <;> rfl]
      exact resA_len b kb ka kc a 0 0 0 w c0 c2 c6 hk
    · obtain ⟨a, rfl⟩ := len1 hl
      rw [show orZ (kOf ([1], 1) [a]) = if a = 1 then 1 else 0 by rw [kO_abs]; split <;> rfl]
      exact resA_abs b kb ka kc a 0 0 0 w c0 c2 c6 hk
    · obtain ⟨a, a', rfl⟩ := len2 hl
      rw [show orZ (kOf ([3, 1], 3) [a, a']) = if a = 3 ∧ a' = 1 then 3 else 0 by rw [kO_cut]; split <;> rfl]
      exact resA_cut b kb ka kc a a' 0 0 w c0 c2 c6 hk
    · obtain ⟨a, rfl⟩ := len1 hl
      rw [kO_isnull]
      exact resA_isnull b kb ka kc a 0 0 0 w c0 c2 c6 hk
    · obtain ⟨a, a', rfl⟩ := len2 hl
      rw [show orZ (kOf ([0, 0], 0) [a, a']) = if a = a' then a else 0 by rw [kO_coalesce a a' (hz a (by simp))]; split <;> rfl]
      exact resA_coalesce b kb ka kc a a' 0 0 w c0 c2 c6 hk
    · obtain ⟨a, a', a2, rfl⟩ := len3 hl
      rw [show orZ (kOf ([2, 0, 0], 0) [a, a', a2]) = if a = 2 ∧ a' = a2 then a' else 0 by rw [kO_if a a' a2 (hz a' (by simp))]; split <;> rfl]
      exact resA_if b kb ka kc a a' a2 0 w c0 c2 c6 hk
  · rw [kOf_len o ks hl]
    exact resA_bad b kb ka ks.length kc (argN nm) nm _ _ _ _ w c0 c2 c6 hk (by rw [hn]; omega)
theorem argN_neg {nm : ByteArray} : argN nm < 0 ↔ opApp nm = none := by
  unfold argN
  cases h : opApp nm with
  | none => simp
  | some o => simp
mutual
/-- The document's Kind is the kind. -/
theorem kindD_x (c : List Co) (a : Option Addr) (cc : Nat) (hm : c.length ≤ maxLen) (hz : ∀ x ∈ c, x.k ≠ 0) (w : World) (lo hi : Nat) (hc : ColsAt w a c) : ∀ (x : X) (v : Value), Et w lo hi x v → NX x → szX x ≤ 200 → ∀ W, Below w.heap.size w W → Calls Tryz.prog 31 #[v, .slice a c.length cc] W (KdD W (kindX c x))
  | .lit k n t, v, h, hx, hs, W, hW => by
    rw [Et] at h
    obtain ⟨b, rfl, _, _, c0, c3, _⟩ := h
    rw [kindX]
    exact kindD_lit b k (.bool true) a c.length cc W (xcell hW c0) (xcell hW c3)
  | .col pl nm, v, h, hx, hs, W, hW => by
    rw [Et] at h
    obtain ⟨b, rfl, _, _, c0, c1, c6⟩ := h
    exact kindD_col c b pl nm a cc W (xcell hW c0) (xcell hW c1) (xcell hW c6) (hc.later hW) hm
  | .pre pl s x, v, h, hx, hs, W, hW => by
    rw [Et] at h
    obtain ⟨b, kv, u, rfl, _, _, c0, c1, c2, hka, he⟩ := h
    rw [szX] at hs
    have ih := kindD_x c a cc hm hz w lo hi hc x u he hx.2 (by omega)
    have e : kindX c (.pre pl s x) = (kindsX c [x]).bind fun ks => if orZ (kOf (opPre s) ks) = 0 then .error ⟨pl, 3⟩ else .ok (orZ (kOf (opPre s) ks)) := by
      rw [kindX, kindsX, kindsX]
      cases kindX c x with
      | error f => rfl
      | ok k => exact orFlt_eq (opPre_nz s k)
    rw [e]
    have hS : wPre s = bNot ∨ wPre s = bMinusW := by unfold wPre; split <;> simp
    refine nodeN c a cc b pl kv [x] [u] lo hi (fun ks => orZ (kOf (opPre s) ks)) W (wPre s) ?_ ?_ ?_ (xcell hW c0) (xcell hW c1) (xcell hW c2) (hka.keep (fun b i u _ _ hc => xcell hW hc) (Nat.le_refl _) (Nat.le_refl _)) rfl (by simp) (fun i h h' W' hW' => ?_) (fun ks kb W' hks hW' hk => ?_)
    · rcases hS with h | h <;> rw [h] <;> decide +kernel
    · rcases hS with h | h <;> rw [h] <;> decide +kernel
    · rcases hS with h | h <;> rw [h] <;> decide +kernel
    · obtain rfl : i = 0 := by simp at h; exact h
      exact ih W' (hW.trans (hW'.mono hW.size))
    · obtain ⟨k, rfl⟩ := len1 (kindsX_len hks)
      have c0' := xcell hW' (xcell hW c0)
      rcases hx.1 with rfl | rfl
      · rw [show opPre bNot = ([2], 2) by decide +kernel, show orZ (kOf ([2], 2) [k]) = if k = 2 then 2 else 0 by rw [kOf1 2 2 k (by decide) (by decide)]; split <;> rfl]
        rw [wPre_not] at c0'
        exact res_not b kb (-1) k 0 0 0 W' c0' hk
      · rw [show opPre bMinus = ([1], 1) by decide +kernel, show orZ (kOf ([1], 1) [k]) = if k = 1 then 1 else 0 by rw [kOf1 1 1 k (by decide) (by decide)]; split <;> rfl]
        rw [wPre_minus] at c0'
        exact res_minus b kb (-1) k 0 0 0 W' c0' hk
  | .inf pl s l r, v, h, hx, hs, W, hW => by
    rw [Et] at h
    obtain ⟨b, kv, u, u', rfl, _, _, c0, c1, c2, hka, he1, he2⟩ := h
    rw [szX] at hs
    have ih1 := kindD_x c a cc hm hz w lo hi hc l u he1 hx.2.1 (by omega)
    have ih2 := kindD_x c a cc hm hz w lo hi hc r u' he2 hx.2.2 (by omega)
    have e : kindX c (.inf pl s l r) = (kindsX c [l, r]).bind fun ks => if orZ (kOf (opInf s) ks) = 0 then .error ⟨pl, 3⟩ else .ok (orZ (kOf (opInf s) ks)) := by
      rw [kindX, kindsX, kindsX, kindsX]
      cases h1 : kindX c l with
      | error f => rfl
      | ok k =>
        cases kindX c r with
        | error f => rfl
        | ok k2 => exact orFlt_eq (opInf_nz s k k2 (kindX_nz hz l hx.2.1 k h1))
    rw [e]
    obtain ⟨q1, q2, q3⟩ := signs_ne hx.1
    refine nodeN c a cc b pl kv [l, r] [u, u'] lo hi (fun ks => orZ (kOf (opInf s) ks)) W s q1 q2 q3 (xcell hW c0) (xcell hW c1) (xcell hW c2) (hka.keep (fun b i u _ _ hc => xcell hW hc) (Nat.le_refl _) (Nat.le_refl _)) rfl (by simp) (fun i h h' W' hW' => ?_) (fun ks kb W' hks hW' hk => ?_)
    · match i, h with
      | 0, _ => exact ih1 W' (hW.trans (hW'.mono hW.size))
      | 1, _ => exact ih2 W' (hW.trans (hW'.mono hW.size))
      | i + 2, h => exact absurd h (by simp)
    · obtain ⟨k, k2, rfl⟩ := len2 (kindsX_len hks)
      have hnz := kindsX_nz hz [l, r] ⟨hx.2.1, hx.2.2, trivial⟩ _ hks k (by simp)
      exact resI_any s hx.1 b kb (-1) k k2 0 0 W' (xcell hW' (xcell hW c0)) hk hnz
  | .app pl nm l, v, h, hx, hs, W, hW => by
    rw [Et] at h
    obtain ⟨b, kv, us, rfl, _, _, c0, c1, c6, c2, hka, he⟩ := h
    rw [szX] at hs
    have hll := szXs_len l
    have ih := kindD_l c a cc hm hz w lo hi hc l us he hx (by omega)
    rw [kindX]
    cases ho : opApp nm with
    | none => exact kindD_noname b pl nm a c.length cc W (xcell hW c0) (xcell hW c1) (xcell hW c6) (argN_neg.2 ho)
    | some o =>
      have e : ((kindsX c l).bind fun ks => orFlt pl (kOf o ks)) = (kindsX c l).bind fun ks => if orZ (kOf o ks) = 0 then .error ⟨pl, 3⟩ else .ok (orZ (kOf o ks)) := by
        cases h1 : kindsX c l with
        | error f => rfl
        | ok ks => exact orFlt_eq (opApp_nz ho ks (kindsX_nz hz l hx ks h1))
      show Calls Tryz.prog _ _ W (KdD W ((kindsX c l).bind fun ks => orFlt pl (kOf o ks)))
      rw [e]
      have hul : us.length = l.length := ih.1
      obtain ⟨ka, kc, rfl, hk⟩ := id hka
      refine nodeC c a cc b pl (.slice ka us.length kc) l us lo hi (fun ks => orZ (kOf o ks)) W nm (xcell hW c6) (fun h => by rw [argN_neg, ho] at h; cases h) (xcell hW c0) (xcell hW c1) (xcell hW c2) (hka.keep (fun b i u _ _ hc => xcell hW hc) (Nat.le_refl _) (Nat.le_refl _)) hul (by omega) (fun i h h' W' hW' => ih.2 i h h' W' (hW.trans (hW'.mono hW.size))) (fun ks kb W' hks hW' hk' => ?_)
      have hkl := kindsX_len hks
      exact resA_any ho ks (kindsX_nz hz l hx ks hks) b kb ka kc W' (xcell hW' (xcell hW c0)) (by rw [hkl, ← hul]; exact xcell hW' (xcell hW c2)) (xcell hW' (xcell hW c6)) hk'
theorem kindD_l (c : List Co) (a : Option Addr) (cc : Nat) (hm : c.length ≤ maxLen) (hz : ∀ x ∈ c, x.k ≠ 0) (w : World) (lo hi : Nat) (hc : ColsAt w a c) : ∀ (l : List X) (us : List Value), Ets w lo hi l us → NXs l → szXs l ≤ 200 → us.length = l.length ∧ ∀ i (h : i < l.length) (h' : i < us.length) W, Below w.heap.size w W → Calls Tryz.prog 31 #[us[i], .slice a c.length cc] W (KdD W (kindX c l[i]))
  | [], us, h, _, _ => by
    rw [Ets] at h
    subst h
    exact ⟨rfl, fun i h => absurd h (by simp)⟩
  | x :: l, us, h, hx, hs => by
    rw [Ets] at h
    obtain ⟨u, us', rfl, he, hl⟩ := h
    rw [szXs] at hs
    have ih1 := kindD_x c a cc hm hz w lo hi hc x u he hx.1 (by omega)
    have ih2 := kindD_l c a cc hm hz w lo hi hc l us' hl hx.2 (by omega)
    refine ⟨by simp [ih2.1], fun i h h' W hW => ?_⟩
    cases i with
    | zero => exact ih1 W hW
    | succ i => exact ih2.2 i (by simpa using h) (by simpa using h') W hW
end
end Go.Proofs.YtplaplhmjpfbjaaGreatDoor.Dc
namespace Go.Proofs.YtplaplhmjpfbjaaGreatDoor.Dc
open Go.RowKit
set_option linter.unusedVariables false
set_option linter.unusedSimpArgs false
set_option maxRecDepth 100000

/-- How the document's Check ends. -/
def CheckD (L : ByteArray → Int → Int → ByteArray → Prop) (w : World) (s : ByteArray) (c : List Co) (e : Ending) (w' : World) : Prop := Below w.heap.size w w' ∧ ∃ o, PX L s o ∧
  match ckO c o with
  | .ok (x, k) => ∃ b, e = .returned (.tuple #[ptrE b, .int .i64 k, .int .i64 0, .int .i64 0]) ∧ Et w' w.heap.size w'.heap.size x (ptrE b)
  | .error f => ∃ pv, e = .returned (.tuple #[.pointer pv, .int .i64 0, .int .i64 f.why, .int .i64 f.pl])
theorem px_nx {L : ByteArray → Int → Int → ByteArray → Prop} (hL : ∀ t : Tk, Wf t → isLit t → ∀ k n s, L t.tx k n s → k ≠ 0) {s : ByteArray} {x : X} (h : PX L s (.ok x)) : NX x := by
  cases h with
  | ok a b c => exact Ps.nx hL c (tok_wf _ _ _ _ (by simp; omega) b) trivial x [] rfl
theorem px_why {L : ByteArray → Int → Int → ByteArray → Prop} {s : ByteArray} {f : Flt} (hP : ∀ {m : Mode} {lev : Nat} {ts : List Tk}, Ps L s.size m lev ts (.error f) → f.why ≠ 0) (h : PX L s (.error f)) : f.why ≠ 0 := by
  cases h with
  | full a => simp
  | tok a b => simp
  | bad a b c => exact hP c
  | more a b c => simp
theorem Ps.why {L : ByteArray → Int → Int → ByteArray → Prop} {E : Nat} {m : Mode} {lev : Nat} {ts : List Tk} {o : PR} (h : Ps L E m lev ts o) : ∀ f, o = .error f → f.why ≠ 0 := by
  induction h <;> intro f e <;> first | (cases e; simp; done) | (cases e; simp at *; assumption) | (rename_i ih; exact ih f e) | (cases e; rename_i ih; exact ih _ rfl) | (rename_i ih1 ih2; exact ih2 f e) | (cases e)
theorem cols_nz {c : List Co} (h : colsX c) : ∀ x ∈ c, x.k ≠ 0 := by
  intro x hx
  obtain ⟨i, hi, rfl⟩ := List.getElem_of_mem hx
  rcases (h.2 i hi).2.2 with h | h | h <;> omega
set_option maxHeartbeats 4000000 in
theorem checkD_any {L : ByteArray → Int → Int → ByteArray → Prop} (hD : DRd L) (hT : ∃ k n s, L bTrue k n s) (hF : ∃ k n s, L bFalse k n s) (hL : ∀ t : Tk, Wf t → isLit t → ∀ k n s, L t.tx k n s → k ≠ 0) (s : ByteArray) (a : Option Addr) (cc : Nat) (c : List Co) (w : World) (hc : ColsAt w a c) (hm : c.length ≤ maxLen) (hz : ∀ x ∈ c, x.nm.size ≤ 140737488355328) :
    Calls Tryz.prog 13 #[.string s, .slice a c.length cc] w (CheckD L w s c) := by
  have HP : Hid (Calls Tryz.prog 30 #[.string s] w (ParseD L w s)) := parseD_any hD hT hF s w
  have HC := hidMk' hc
  have HM := hidMk' hm
  have HZ := hidMk' hz
  have HL := hidMk' hL
  clear hD hT hF hc hm hz hL
  go_enter Tryz.func13, Tryz.ntmps13
  go_wp2_with fail
  refine HP.out.mono ?_
  rintro e w1 ⟨hb1, o, hpx, ho⟩
  have HB1 := hidMk' hb1
  have HPX := hidMk' hpx
  clear hb1 hpx HP
  cases o with
  | error f =>
    subst ho
    have hw0 : f.why ≠ 0 := px_why (fun h => Ps.why h f rfl) HPX.out
    have hw1 : ((f.why : Int) != 0) = true := by simp; omega
    have FIN : Hid (CheckD L w s c (.returned (.tuple #[.pointer none, .int .i64 0, .int .i64 f.why, .int .i64 f.pl])) w1) := ⟨HB1.out, .error f, HPX.out, none, rfl⟩
    clear hw0 HPX HB1
    go_wp2_with fail
    refine bodyPost_ret (v := .tuple #[.pointer none, .int .i64 0, .int .i64 f.why, .int .i64 f.pl]) (by simp [results, Tryz.results13, go_sem]) rfl FIN.out
  | ok x =>
    obtain ⟨b, rfl, het⟩ := ho
    have HET := hidMk' het
    clear het
    unfold ptrE
    go_wp2_with fail
    refine (columnsD_any a cc c w1 (HC.out.later HB1.out) HM.out HZ.out).mono ?_
    rintro e w2 ⟨⟨r, rfl, hr⟩, hb2⟩
    have HB2 : Hid (Below w.heap.size w w2) := HB1.out.trans (hb2.mono HB1.out.size)
    have HET2 : Hid (Et w2 w.heap.size w2.heap.size x (ptrE b)) := Et.keep (fun b i u _ _ hc => xcell hb2 hc) (Nat.le_refl _) hb2.size x _ HET.out
    clear hb2 HET
    by_cases hcol : colsX c
    · obtain rfl : r = true := hr.2 hcol
      have HK : Hid (Calls Tryz.prog 31 #[.pointer (some ⟨b, 0, none⟩), .slice a c.length cc] w2 (KdD w2 (kindX c x))) := kindD_x c a cc HM.out (cols_nz hcol) w2 w.heap.size w2.heap.size (HC.out.later HB2.out) x (ptrE b) HET2.out (px_nx HL.out HPX.out) HPX.out.size w2 (Below.refl _ _)
      have HCO := hidMk' hcol
      clear hr hcol
      go_wp2_with fail
      refine HK.out.mono ?_
      rintro e w3 ⟨hb3, rfl⟩
      have HB3 : Hid (Below w.heap.size w w3) := HB2.out.trans (hb3.mono HB2.out.size)
      have HET3 : Hid (Et w3 w.heap.size w3.heap.size x (ptrE b)) := Et.keep (fun b i u _ _ hc => xcell hb3 hc) (Nat.le_refl _) hb3.size x _ HET2.out
      clear hb3 HK HET2
      cases hk : kindX c x with
      | error f =>
        have FIN : Hid (CheckD L w s c (.returned (.tuple #[.pointer (some ⟨b, 0, none⟩), .int .i64 0, .int .i64 f.why, .int .i64 f.pl])) w3) := ⟨HB3.out, .ok x, HPX.out, by rw [ckO, if_pos HCO.out, hk]; exact ⟨_, rfl⟩⟩
        clear hk HPX HB3 HET3
        simp only [KdV]
        go_wp2_with fail
        refine bodyPost_ret (v := .tuple #[.pointer (some ⟨b, 0, none⟩), .int .i64 0, .int .i64 f.why, .int .i64 f.pl]) (by simp [results, Tryz.results13, go_sem]) rfl FIN.out
      | ok k =>
        have FIN : Hid (CheckD L w s c (.returned (.tuple #[.pointer (some ⟨b, 0, none⟩), .int .i64 k, .int .i64 0, .int .i64 0])) w3) := ⟨HB3.out, .ok x, HPX.out, by rw [ckO, if_pos HCO.out, hk]; exact ⟨b, rfl, HET3.out⟩⟩
        clear hk HPX HB3 HET3
        simp only [KdV]
        go_wp2_with fail
        refine bodyPost_ret (v := .tuple #[.pointer (some ⟨b, 0, none⟩), .int .i64 k, .int .i64 0, .int .i64 0]) (by simp [results, Tryz.results13, go_sem]) rfl FIN.out
    · obtain rfl : r = false := by cases r with | false => rfl | true => exact absurd (hr.1 rfl) hcol
      have FIN : Hid (CheckD L w s c (.returned (.tuple #[.pointer none, .int .i64 0, .int .i64 4, .int .i64 0])) w2) := ⟨HB2.out, .ok x, HPX.out, by rw [ckO, if_neg hcol]; exact ⟨none, rfl⟩⟩
      clear hr hcol HPX HET2
      go_wp2_with fail
      refine bodyPost_ret (v := .tuple #[.pointer none, .int .i64 0, .int .i64 4, .int .i64 0]) (by simp [results, Tryz.results13, go_sem]) rfl FIN.out
end Go.Proofs.YtplaplhmjpfbjaaGreatDoor.Dc
