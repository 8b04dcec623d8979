import Derived.Test.YtckdmmfmnhcabaaGreatDoorNuA
import Derived.Test.YtckdmmfmnhcabaaGreatDoorWe1
import Derived.Test.YtckdmmfmnhcabaaGreatDoorChA
namespace Go.Proofs.YtckdmmfmnhcabaaGreatDoor.Nu
open Go.RowKit Go.Proofs.YtckdmmfmnhcabaaGreatDoor.Dc
set_option linter.unusedVariables false
set_option linter.unusedSimpArgs false
set_option maxRecDepth 100000

mutual
/-- What holds of all literals. -/
def AX (P : Int → Int → ByteArray → Prop) : X → Prop
  | .lit k n t => P k n t
  | .col _ _ => True
  | .pre _ _ x => AX P x
  | .inf _ _ l r => AX P l ∧ AX P r
  | .app _ _ l => AXs P l
def AXs (P : Int → Int → ByteArray → Prop) : List X → Prop
  | [] => True
  | x :: l => AX P x ∧ AXs P l
end
theorem AXs.snoc {P : Int → Int → ByteArray → Prop} {x : X} (hx : AX P x) : ∀ {l : List X}, AXs P l → AXs P (l ++ [x])
  | [], _ => ⟨hx, trivial⟩
  | y :: l, h => ⟨h.1, AXs.snoc hx h.2⟩
def MAx (P : Int → Int → ByteArray → Prop) : Mode → Prop
  | .D _ => True
  | .J _ l => AX P l
  | .Z _ nm => True
  | .A _ nm l => AXs P l
theorem ps_ax {P : Int → Int → ByteArray → Prop} {L : ByteArray → Int → Int → ByteArray → Prop} (hL : ∀ s k n t, L s k n t → P k n t) {E : Nat} {m : Mode} {lev : Nat} {ts : List Tk} {o : PR} (h : Ps L E m lev ts o) :
    MAx P m → ∀ x ts', o = .ok (x, ts') → AX P x := by
  induction h with
  | jend h => intro hm x ts' e; cases e; exact hm
  | jok hj hp _ ih1 ih2 => intro hm x ts' e; exact ih2 (ih1 trivial _ _ rfl) x ts' e
  | jstep hs hp _ ih1 ih2 => intro hm x ts' e; exact ih2 ⟨hm, ih1 trivial _ _ rfl⟩ x ts' e
  | pok hpr ht _ _ ih1 => intro hm x ts' e; cases e; have h := ih1 trivial _ _ rfl; exact h
  | pnone _ _ _ ih1 => intro hm x ts' e; exact ih1 trivial _ _ e
  | cnone _ _ ih1 => intro hm x ts' e; cases e; exact ih1 trivial _ _ rfl
  | cok hp hs _ ih1 ih2 => intro hm x ts' e; cases e; exact ⟨ih1 trivial _ _ rfl, ih2 trivial _ _ rfl⟩
  | lit hl hk => intro hm x ts' e; cases e; exact hL _ _ _ _ hk
  | ncol => intro hm x ts' e; cases e; exact trivial
  | zend => intro hm x ts' e; cases e; exact trivial
  | aend => intro hm x ts' e; cases e; exact hm
  | ook _ _ _ _ _ ih1 => intro hm x ts' e; cases e; exact ih1 trivial _ _ rfl
  | nargs _ _ _ _ _ _ _ _ ih1 => intro hm x ts' e; exact ih1 trivial _ _ e
  | zok _ hp _ ih1 ih2 => intro hm x ts' e; exact ih2 ⟨ih1 trivial _ _ rfl, trivial⟩ x ts' e
  | aok _ hp _ ih1 ih2 => intro hm x ts' e; exact ih2 (AXs.snoc (ih1 trivial _ _ rfl) hm) x ts' e
  | _ => intro hm x ts' e; cases e
def VL (k n : Int) (t : ByteArray) : Prop := Vl.validB k n t = true ∧ -9223372036854775808 ≤ n ∧ n ≤ 9223372036854775807
theorem vl_lt {k n : Int} {t : ByteArray} (h : VL k n t) (hk : k ≠ 0) : (k = 1 ∨ k = 2 ∨ k = 3) ∧ VK k ⟨k, n, t⟩ := by
  have hkn : KN k := by
    have := h.1
    unfold Vl.validB at this
    rw [if_neg hk] at this
    by_cases h1 : k = 1
    · exact .inl h1
    by_cases h2 : k = 2
    · exact .inr (.inl h2)
    by_cases h3 : k = 3
    · exact .inr (.inr h3)
    rw [if_neg h1, if_neg h2, if_neg h3] at this
    cases this
  refine ⟨hkn, valid_vk (v := ⟨k, n, t⟩) ?_ hkn ⟨h.2.1, h.2.2⟩⟩
  unfold okV
  rw [show Vc.validB k n t = true from h.1]
  simp
mutual
theorem ax_lt : ∀ x : X, AX VL x → NX x → LtX x
  | .lit k n t, h, hx => vl_lt h hx
  | .col _ _, h, hx => trivial
  | .pre _ _ x, h, hx => ax_lt x h hx.2
  | .inf _ _ l r, h, hx => ⟨ax_lt l h.1 hx.2.1, ax_lt r h.2 hx.2.2⟩
  | .app _ _ l, h, hx => axs_lt l h hx
theorem axs_lt : ∀ l : List X, AXs VL l → NXs l → LtXs l
  | [], h, hx => trivial
  | x :: l, h, hx => ⟨ax_lt x h.1 hx.1, axs_lt l h.2 hx.2⟩
end
theorem px_lt {s : ByteArray} (x : X) (h : PX LV s (.ok x)) : LtX x := by
  refine ax_lt x ?_ (px_nx nzLV h)
  cases h with
  | ok h1 h2 h3 => exact ps_ax (P := VL) (fun s k n t h => ⟨h.1, h.2.1, h.2.2.1⟩) h3 trivial _ _ rfl
theorem cols_kn {c : List Co} (h : colsX c) : ∀ x ∈ c, KN x.k := by
  intro x hx
  obtain ⟨i, hi, rfl⟩ := List.getElem_of_mem hx
  exact (h.2 i hi).2.2
theorem rdN_LV : ∀ s k n t, rdN s = some (k, n, t) → LV s k n t := by
  intro s k n t h
  unfold rdN at h
  split at h
  · rename_i e; cases h; subst e; exact ⟨by decide +kernel, by decide, by decide, by decide +kernel⟩
  split at h
  · rename_i e; cases h; subst e; exact ⟨by decide +kernel, by decide, by decide, by decide +kernel⟩
  split at h
  · rename_i e; cases h; subst e; exact ⟨by decide +kernel, by decide, by decide, by decide +kernel⟩
  split at h
  · rename_i e; cases h; subst e; exact ⟨by decide +kernel, by decide, by decide, by decide +kernel⟩
  split at h
  · rename_i e; cases h; subst e; exact ⟨by decide +kernel, by decide, by decide, by decide +kernel⟩
  · cases h
end Go.Proofs.YtckdmmfmnhcabaaGreatDoor.Nu
