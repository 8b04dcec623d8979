import Derived.Test.YtckdmmfmnhcabaaGreatDoorNuD
import Derived.Test.YtckdmmfmnhcabaaGreatDoorNuP
namespace Go.Proofs.YtckdmmfmnhcabaaGreatDoor.Nu
open Go.RowKit Go.Proofs.YtckdmmfmnhcabaaGreatDoor.Dc
set_option linter.unusedVariables false
set_option linter.unusedSimpArgs false
set_option maxRecDepth 100000

theorem fitsN (a : Int) (b : Bool) (c : ByteArray) (hc : c.size ≤ 60) : fitsB colsN (rowN a b c) = true := by
  have h1 : okV (vInt a) 1 = true := by
    unfold okV Vc.validB vInt; simp [Vc.empty_list]
  have h2 : okV (vTru b) 2 = true := by cases b <;> decide +kernel
  have h3 : okV (vTxt c) 3 = true := by
    unfold okV Vc.validB vTxt; simp; omega
  have h4 : okV vNull 1 = true := by decide +kernel
  unfold fitsB colsN rowN
  simp [h1, h2, h3, h4]
theorem colsN_ok : colsX colsN := by
  refine ⟨by decide, fun i h => ?_⟩
  have key : ∀ i : Fin 4, colX colsN i.1 (colsN.getD i.1 ⟨⟨#[]⟩, 0⟩) := by decide +kernel
  have h4 : i < 4 := h
  have h5 := key ⟨i, h4⟩
  have e : colsN.getD i ⟨⟨#[]⟩, 0⟩ = colsN[i] := by rw [List.getD_eq_getElem?_getD, List.getElem?_eq_getElem h]; rfl
  simp only [e] at h5
  exact h5
/-- Eval of a text that is read and whose kind is known. -/
theorem eval_N (w : World) (h2 : Vl.Sen w) (h3 : Vl.Sen3 w) (ht : Vl.Tab w) (s : ByteArray) (hs : s.size ≤ 200) (hx : (exX s).isSome = true) (k : Int) (hk : kindX colsN (xOf s) = .ok k) (ca : Option Addr) (cc : Nat) (ra : Option Addr) (rc : Nat) (a : Int) (b : Bool) (c : ByteArray) (hcz : c.size ≤ 60) (ha : -9223372036854775808 ≤ a ∧ a ≤ 9223372036854775807) (hc : ColsAt w ca colsN) (hv : VsAt w ra (rowN a b c)) :
    Calls Tryz.prog 14 #[.string s, .slice ca 4 cc, .slice ra 4 rc] w fun e w' => Below w.heap.size w w' ∧ e = .returned (.tuple #[vV (evX colsN (rowN a b c) (xOf s)), .nilIface]) := by
  have hR := rdOkLV w h2 h3 ht
  have hG : ∀ W W' r, (∀ k, r = some k → w.heap.size ≤ k) → Below w.heap.size w W → W.grownBy W' r → Below w.heap.size w W' := fun W W' r h1 h2 h3 => xbNew h2 h3 (fun n hn => h1 n hn)
  have hpx : PX LV s (.ok (xOf s)) := px_ex rdN_LV hs (ex_of hx)
  refine (eval_any oneLV hR s (fun x hx => px_lt x hx) ca cc colsN ra rc (rowN a b c) w hG (Below.refl _ _) hc (by decide) (by decide +kernel) hv (by show 4 ≤ _; decide) (fun v hv => ?_) (fun v hv => ?_) cols_kn).mono ?_
  · unfold rowN at hv
    simp only [List.mem_cons, List.not_mem_nil, or_false] at hv
    rcases hv with rfl | rfl | rfl | rfl
    · exact Nat.zero_le _
    · exact Nat.zero_le _
    · show c.size ≤ maxLen; unfold maxLen; omega
    · exact Nat.zero_le _
  · unfold rowN at hv
    simp only [List.mem_cons, List.not_mem_nil, or_false] at hv
    rcases hv with rfl | rfl | rfl | rfl
    · exact ha
    · cases b <;> decide
    · exact ⟨by show (-9223372036854775808 : Int) ≤ 0; decide, by show (0 : Int) ≤ _; decide⟩
    · decide
  · rintro e w' ⟨hb, o, ho, rfl⟩
    cases ho.one oneLV hpx
    refine ⟨hb, ?_⟩
    unfold evO
    rw [ckO, if_pos colsN_ok, hk]
    show Ending.returned (evV (if fitsB colsN (rowN a b c) = true then _ else _)) = _
    rw [if_pos (fitsN a b c hcz)]
    rfl
theorem ev_all (w : World) (h2 : Vl.Sen w) (h3 : Vl.Sen3 w) (ht : Vl.Tab w) (a : Int) (b : Bool) (c : ByteArray) (hcz : c.size ≤ 60) (ha : -9223372036854775808 ≤ a ∧ a ≤ 9223372036854775807) : EvAll w a b c := by
  intro W hW
  have hb := (memN_below w a b c).trans (hW.mono (memN_below w a b c).size)
  have key : ∀ (s : ByteArray), s.size ≤ 200 → (exX s).isSome = true → ∀ (k : Int), kindX colsN (xOf s) = .ok k → ∀ v, evX colsN (rowN a b c) (xOf s) = v → EvT W w.heap.size (w.heap.size + 1 + 1) s v := by
    intro s hs hx k hk v hv
    subst hv
    exact eval_N W (Vl.Sen.later h2 hb) (Vl.Sen3.later h3 hb) (Vl.Tab.later ht hb) s hs hx k hk _ 4 _ 4 a b c hcz ha ((memN_cols w a b c).later hW) ((memN_row w a b c).later hW)
  refine ⟨fun k hk => ?_, key _ (by decide) tx13_x _ tx13_k _ (tx13_e a b c), key _ (by decide) tx14_x _ tx14_k _ (tx14_e a b c), key _ (by decide) tx15_x _ tx15_k _ (tx15_e a b c), key _ (by decide) tx16_x _ tx16_k _ (tx16_e a b c)⟩
  match k, hk with
  | 0, _ => exact key _ (by decide) tx1_x _ tx1_k _ (tx1_e a b c)
  | 1, _ => exact key _ (by decide) tx2_x _ tx2_k _ (tx2_e a b c)
  | 2, _ => exact key _ (by decide) tx3_x _ tx3_k _ (tx3_e a b c)
  | 3, _ => exact key _ (by decide) tx4_x _ tx4_k _ (tx4_e a b c)
  | 4, _ => exact key _ (by decide) tx5_x _ tx5_k _ (tx5_e a b c)
  | 5, _ => exact key _ (by decide) tx6_x _ tx6_k _ (tx6_e a b c)
  | 6, _ => exact key _ (by decide) tx7_x _ tx7_k _ (tx7_e a b c)
  | 7, _ => exact key _ (by decide) tx8_x _ tx8_k _ (tx8_e a b c)
  | 8, _ => exact key _ (by decide) tx9_x _ tx9_k _ (tx9_e a b c)
  | 9, _ => exact key _ (by decide) tx10_x _ tx10_k _ (tx10_e a b c)
  | 10, _ => exact key _ (by decide) tx11_x _ tx11_k _ (tx11_e a b c)
  | 11, _ => exact key _ (by decide) tx12_x _ tx12_k _ (tx12_e a b c)
  | k + 12, h => exact absurd h (by omega)
end Go.Proofs.YtckdmmfmnhcabaaGreatDoor.Nu
