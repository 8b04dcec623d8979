import Derived.Test.YtplaplhmjpfbjaaGreatDoorVf1
import Derived.Test.YtplaplhmjpfbjaaGreatDoorDh1
import Derived.Test.YtplaplhmjpfbjaaGreatDoorXf1
namespace Go.Proofs.YtplaplhmjpfbjaaGreatDoor.Dc
open Go.RowKit
set_option linter.unusedVariables false
set_option linter.unusedSimpArgs false
set_option maxRecDepth 100000

/-- A literal: a valid value that is shown so. -/
def LV (s : ByteArray) (k n : Int) (t : ByteArray) : Prop := Vl.validB k n t = true ∧ -9223372036854775808 ≤ n ∧ n ≤ 9223372036854775807 ∧ Vl.showB k n t = s
theorem oneLV : OneL LV := fun s k n t k' n' t' h h' => Vl.show_inj h.1 h'.1 h.2.1 h.2.2.1 h'.2.1 h'.2.2.1 (h.2.2.2.trans h'.2.2.2.symm)
theorem rdOkLV (w : World) (h2 : Vl.Sen w) (h3 : Vl.Sen3 w) (ht : Vl.Tab w) : RdOk LV (fun W => Below w.heap.size w W) := fun s W hs hW => by
  refine (Vl.read_tot s W (by omega) (Vl.Sen.later h2 hW) (Vl.Sen3.later h3 hW) (Vl.Tab.later ht hW)).mono ?_
  rintro e w' ⟨hb, ⟨k, n, t, h4, h5, h6, h7, rfl⟩ | ⟨hno, rfl⟩⟩
  · exact ⟨hb, .inl ⟨k, n, t, ⟨h4, h5, h6, h7⟩, rfl⟩⟩
  · exact ⟨hb, .inr ⟨fun k n t h => hno k n t h.2.1 h.2.2.1 h.1 h.2.2.2, _, _, rfl⟩⟩
theorem dRdLV : DRd LV := fun s W hs => by
  refine (Vl.refRead_any s W (by omega)).mono ?_
  rintro e w' ⟨k, n, t, ok, rfl, hb, hy, hn⟩
  exact ⟨hb, k, n, t, ok, rfl, fun h => ⟨(hy h).1, (hy h).2.2.1, (hy h).2.2.2, (hy h).2.1⟩, fun h k' n' t' h' => hn h k' n' t' h'.2.1 h'.2.2.1 h'.1 h'.2.2.2⟩
theorem trueLV : ∃ k n s, LV bTrue k n s := ⟨2, 1, ⟨#[]⟩, by decide +kernel, by decide, by decide, by decide +kernel⟩
theorem falseLV : ∃ k n s, LV bFalse k n s := ⟨2, 0, ⟨#[]⟩, by decide +kernel, by decide, by decide, by decide +kernel⟩
theorem sgs_null : ∀ s ∈ sgs, s ≠ (⟨#[110, 117, 108, 108]⟩ : ByteArray) := by decide +kernel
theorem nzLV : ∀ t : Tk, Wf t → isLit t → ∀ k n s, LV t.tx k n s → k ≠ 0 := by
  intro t hw hl k n s h hk
  subst hk
  have hv := h.1
  have hs := h.2.2.2
  unfold Vl.showB at hs
  rw [if_pos hv, if_neg (by decide), if_neg (by decide), if_neg (by decide)] at hs
  have hx : t.tx = ⟨#[110, 117, 108, 108]⟩ := hs.symm
  rcases hw.2 with ⟨hk, _⟩ | ⟨_, c, r, h1, h2⟩ | ⟨_, r, h1⟩ | ⟨_, h1⟩
  · rcases hl with h' | h' | h' | h'
    · omega
    · omega
    · rw [hx] at h'; exact absurd h' (by decide)
    · rw [hx] at h'; exact absurd h' (by decide)
  · rw [hx] at h1
    have h3 : c = 110 := by
      have : [110, 117, 108, 108] = c :: r := h1
      cases this; rfl
    rw [h3] at h2; exact absurd h2 (by decide)
  · rw [hx] at h1
    have : [110, 117, 108, 108] = (39 : UInt8) :: r := h1
    cases this
  · exact sgs_null _ h1 hx
/-- The program's Check, and the document's. -/
theorem check_V (w : World) (h2 : Vl.Sen w) (h3 : Vl.Sen3 w) (ht : Vl.Tab w) (s : ByteArray) (a : Option Addr) (cc : Nat) (c : List Co) (hc : ColsAt w a c) (hm : c.length ≤ maxLen) (hz : ∀ x ∈ c, x.nm.size ≤ 140737488355328) : ∃ o, PX LV s o ∧
    (Calls Tryz.prog 46 #[.string s, .slice a c.length cc] w fun e w' => Below w.heap.size w w' ∧ e = .returned (chV c o)) ∧
    ∀ W, Below w.heap.size w W → Calls Tryz.prog 13 #[.string s, .slice a c.length cc] W fun e w' => Below W.heap.size W w' ∧
      match ckO c o with
      | .ok (x, k) => ∃ pv, e = .returned (.tuple #[.pointer pv, .int .i64 k, .int .i64 0, .int .i64 0])
      | .error f => ∃ pv, e = .returned (.tuple #[.pointer pv, .int .i64 0, .int .i64 f.why, .int .i64 f.pl]) := by
  have hR := rdOkLV w h2 h3 ht
  have hG : ∀ W W' r, (∀ k, r = some k → w.heap.size ≤ k) → Below w.heap.size w W → W.grownBy W' r → Below w.heap.size w W' := fun W W' r h1 h2 h3 => xbNew h2 h3 (fun n hn => h1 n hn)
  obtain ⟨o, ho⟩ := px_exi oneLV hR s w hG (Below.refl _ _)
  refine ⟨o, ho, ?_, fun W hW => ?_⟩
  · refine (check_any oneLV hR s a cc c w hG (Below.refl _ _) hc hm hz).mono ?_
    rintro e w' ⟨hb, o', ho', rfl⟩
    cases ho'.one oneLV ho
    exact ⟨hb, rfl⟩
  · refine (checkD_any dRdLV trueLV falseLV nzLV s a cc c W (hc.later hW) hm hz).mono ?_
    rintro e w' ⟨hb, o', ho', h⟩
    cases ho'.one oneLV ho
    refine ⟨hb, ?_⟩
    cases hck : ckO c o with
    | error f => rw [hck] at h; exact h
    | ok p =>
      obtain ⟨x, k⟩ := p
      rw [hck] at h
      obtain ⟨b, rfl, _⟩ := h
      exact ⟨_, rfl⟩
end Go.Proofs.YtplaplhmjpfbjaaGreatDoor.Dc
