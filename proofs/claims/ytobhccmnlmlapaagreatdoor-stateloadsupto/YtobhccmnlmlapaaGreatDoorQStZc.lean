import Derived.Test.YtobhccmnlmlapaaGreatDoorQStZb
import Derived.Test.YtobhccmnlmlapaaGreatDoorQStU
namespace Go.Proofs.YtobhccmnlmlapaaGreatDoor
open Go.RowKit Go.Maps
set_option linter.unusedVariables false
set_option linter.unusedSimpArgs false
set_option maxRecDepth 100000

theorem map_no_cell {P : Program} {k : TypeId} {κ : Type} [DecidableEq κ] {w : World} {kd : KeyKind P k κ} {b : Nat} {m : List (κ × Value)} (h : MP w kd b m) (o : Nat) (v : Value) : w.cell? ⟨b, o, none⟩ ≠ some v := fun hc => by
  obtain ⟨es, ⟨x, c, h1, h2⟩, h3⟩ := h
  simp [World.cell?, h1] at hc
/-- A row of another type is none of what turns. -/
theorem PQ.row_out {w : World} {B t mp : Nat} {lo hi nc nw : Int} {ss : List Sh} (h : PQ w B t mp lo hi nc nw ss) {B' T size n : Nat} {v : Value} {xs : List Value} (ho : w.ownsRow B' T size v n xs) (hT : T ≠ 82) {g : Nat} (hg : v.ownBlock = some g) : ¬ Tb t mp ss g := fun hT' => by
  have hmap : ∀ {k : TypeId} {κ : Type} [DecidableEq κ] {kd : KeyKind Tryz.prog k κ} {m : List (κ × Value)}, MP w kd g m → False := fun hm => by
    obtain ⟨es, ⟨x, c, h1, h2⟩, h3⟩ := hm
    rcases ho.2 with ⟨q1, _⟩ | ⟨g', cap, cur, q1, q2, q3, _⟩
    · rw [q1] at hg; cases hg
    · rw [q1] at hg
      have e : g' = g := Option.some.inj hg
      rw [e, h1] at q3
      cases q3
  rcases hT' with e | e | ⟨s, hs, e⟩
  · exact own_not_row h.own ho (fun e' => hT e'.symm) g hg e
  · exact hmap (e ▸ h.mpo)
  · exact hmap (e ▸ (h.sho s hs).map)
/-- Bytes are none of what turns. -/
theorem PQ.byte_out {w : World} {B t mp : Nat} {lo hi nc nw : Int} {ss : List Sh} (h : PQ w B t mp lo hi nc nw ss) {b o : Nat} {x : Int} (hc : w.cell? ⟨b, o, none⟩ = some (.int .u8 x)) : ¬ Tb t mp ss b := fun hT => by
  rcases hT with e | e | ⟨s, hs, e⟩
  · subst e
    by_cases ho : o < 5
    · rw [h.own.cell o ho] at hc
      match o, ho with
      | 0, _ => simp at hc
      | 1, _ => simp at hc
      | 2, _ => simp at hc
      | 3, _ => simp at hc
      | 4, _ => simp at hc
    · rcases h.own.2 with ⟨q1, _⟩ | ⟨g', cap, cur, q1, q2, q3, q4, q5, q6, _⟩
      · cases q1
      · have e1 : g' = b := by injection q1 with q1; injection q1 with q1; injection q1 with q1; exact q1.symm
        have e2 : cap = 1 := by injection q1 with _ _ q1; exact q1.symm
        subst e1 e2
        simp only [World.cell?, q3] at hc
        rw [Array.getElem?_eq_none (by omega)] at hc
        cases hc
  · subst e; exact map_no_cell h.mpo o _ hc
  · subst e; exact map_no_cell (h.sho s hs).map o _ hc
theorem PQ.rd_kept {w w' : World} {B t mp : Nat} {lo hi nc nw : Int} {ss : List Sh} (h : PQ w B t mp lo hi nc nw ss) {g : Nat} {L : List UInt8} (hR : Wr.Rd w g L) (hg : Gs (Tb t mp ss) w w') : Wr.Rd w' g L := by
  obtain ⟨a, c, h1, h2⟩ := hR
  refine ⟨a, c, hg.own h1 (fun b hb => h.row_out h1 (by decide) hb), ⟨fun i hi => ?_, h2.le, h2.room, h2.apart, h2.place, h2.short⟩⟩
  obtain ⟨b, off, e, hc⟩ := h2.bytes i hi
  exact ⟨b, off, e, hg.cell hc (h.byte_out hc)⟩
theorem form_of {c : Ce} (hk : vk c.key = true) (hg : GoodK c.key) (hw : kp c.w = true) (hd : c.d.length ≤ 67108864) : Form c := by
  obtain ⟨h1, h2⟩ := (vk_iff c.key).1 hk
  obtain ⟨k1, k2, k3⟩ := (kp_iff c.w).1 hw
  refine ⟨h2, fun v hv => ⟨Wr.form_of_valid (h1 v hv), ⟨(hg v hv).1, (hg v hv).2.1⟩, ⟨by omega, ?_⟩⟩, ⟨by omega, by omega⟩, ⟨by omega, by omega⟩, ⟨by omega, by omega⟩⟩
  have := (hg v hv).2.2
  omega
end Go.Proofs.YtobhccmnlmlapaaGreatDoor
