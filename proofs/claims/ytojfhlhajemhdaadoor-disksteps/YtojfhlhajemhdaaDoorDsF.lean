import Derived.Test.YtojfhlhajemhdaaDoorDsE
namespace Go.Proofs.YtojfhlhajemhdaaDoor
open Go.RowKit
set_option linter.unusedVariables false
set_option linter.unusedSimpArgs false
set_option maxRecDepth 100000

def away (fs : List Fl) (nm : ByteArray) : List Fl := fs.filter fun f => !decide (f.nm = nm)
theorem del_ent (fs : List Fl) (nm : ByteArray) : del (fs.map ent) nm = (away fs nm).map ent := by
  unfold del away; rw [List.filter_map]; rfl
theorem loose_away (fs : List Fl) (nm : ByteArray) : loose (away fs nm) = (loose fs).filter fun x => !decide (x = nm) := by
  unfold loose away
  rw [List.filter_map, List.filter_filter, List.filter_filter]
  congr 1
  refine List.filter_congr fun f _ => ?_
  simp only [Function.comp, Bool.and_comm]
theorem removed {w w2 w3 : World} {B d mb : Nat} {lv lv' : Value} {fs : List Fl} {nm : ByteArray} (h : PD w B d mb lv fs) (hM : MP w2 sk mb (del (fs.map ent) nm)) (hg2 : w.grownBy w2 (some mb))
    (hrow : w3.ownsRow B 9 1 lv' ((loose fs).filter fun x => !decide (x = nm)).length (((loose fs).filter fun x => !decide (x = nm)).map Value.string)) (hg3 : w2.grownBy w3 lv.ownBlock) (hlv : lv'.ownBlock = lv.ownBlock) :
    PD (w3.setCell ⟨d, 1, none⟩ lv') B d mb lv' (away fs nm) ∧ Gs (dS d mb lv) w (w3.setCell ⟨d, 1, none⟩ lv') := by
  have ow3 : Own w3 d 49 2 [.map (some mb), lv] := (h.own.grown hg2 (fun e => h.hd.2.2.1 (Option.some.inj e))).grown hg3 h.hd.2.2.2.1
  obtain ⟨ow4, g4⟩ := ow3.put 1 lv'
  have Gtot : Gs (dS d mb lv) w (w3.setCell ⟨d, 1, none⟩ lv') := by
    have q2 : Gs (dS d mb lv) w w2 := Gs.one hg2 fun k hk => .inr (.inl (Option.some.inj hk).symm)
    have q3 : Gs (dS d mb lv) w2 w3 := Gs.one hg3 fun k hk => .inr (.inr hk.symm)
    have q4 : Gs (dS d mb lv) w3 (w3.setCell ⟨d, 1, none⟩ lv') := Gs.one g4 fun k hk => .inl (Option.some.inj hk).symm
    exact q2.trans (q3.trans q4)
  have hmem : ∀ f ∈ away fs nm, f ∈ fs := fun f hf => (List.mem_filter.1 hf).1
  refine ⟨⟨ow4, ?_, ?_, ?_, ?_, ?_⟩, Gtot⟩
  · rw [← del_ent]
    exact (hM.kept hg3 h.hd.2.2.2.2).kept g4 (fun e => h.hd.2.2.1 (Option.some.inj e).symm)
  · rw [loose_away]
    refine own_grown hrow g4 fun k hk e => ?_
    rw [hlv] at hk
    exact h.hd.2.2.2.1 (by rw [hk]; exact e.symm)
  · intro f hf
    refine ⟨Gtot.bytes (h.by' f (hmem f hf)).1 fun x hx s => ?_, (h.by' f (hmem f hf)).2⟩
    obtain ⟨_, _, a3, a4, a5⟩ := h.ap f (hmem f hf) x hx
    rcases s with s | s | s
    · exact a3 s
    · exact a4 s
    · exact a5 s
  · intro f hf y hy
    obtain ⟨a1, a2, a3, a4, a5⟩ := h.ap f (hmem f hf) y hy
    exact ⟨a1, Nat.lt_of_lt_of_le a2 Gtot.size, a3, a4, by rw [hlv]; exact a5⟩
  · exact ⟨h.hd.1, h.hd.2.1, h.hd.2.2.1, by rw [hlv]; exact h.hd.2.2.2.1, by rw [hlv]; exact h.hd.2.2.2.2⟩

set_option maxHeartbeats 4000000 in
theorem remove_at (w : World) (B d mb : Nat) (lv : Value) (fs : List Fl) (f : Fl) (h : PD w B d mb lv fs) (hnm : f.nm.size ≤ maxLen) (hf : f ∈ fs) (hn : fs.length ≤ 2513169434880) :
    Calls Tryd.prog 12 #[.pointer (some ⟨d, 0, none⟩), .string f.nm] w fun e w' => e = .returned (.bool true) ∧ ∃ lv', PD w' B d mb lv' (away fs f.nm) ∧ Gs (dS d mb lv) w w' ∧ lv'.ownBlock = lv.ownBlock := by
  have hB := bel1 w (.cells #[.string f.nm] 9)
  have h1 := h.later hB
  have hnd := h.nodup
  have hlt := h.lt
  have hlo : (loose fs).length ≤ 2513169434880 := by
    unfold loose; rw [List.length_map]; exact Nat.le_trans (List.length_filter_le _ _) hn
  obtain ⟨c0, c1, f0, f1⟩ := h1.cells
  have c2 : (w.alloc (.cells #[.string f.nm] 9)).cell? ⟨w.heap.size, 0, none⟩ = some (.string f.nm) := by simp
  generalize hW : w.alloc (.cells #[.string f.nm] 9) = W at *
  have hL1 : (Instr.lookup 47 (.map (some mb)) (.string f.nm) true).run Tryd.prog W.drew = .ok (.tuple #[.slice f.pa f.bs.length f.pc, .bool true]) W.drew := by
    have hL := h1.drew.mp.look K9 Tryd.underlying47 (zSl _) f.nm hnm
    rw [fnd_at hnd hf] at hL
    exact hL
  obtain ⟨w2, hr2, hm2, ht2⟩ := h1.drew.drew.mp.drop K9 Tryd.underlying47 f.nm hnm 0
  have hr2' : (Builtin.delete_ #[47, 9] 0 #[.map (some mb), .string f.nm]).run Tryd.prog W.drew.drew = .ok (.tuple #[]) w2 := hr2
  have hg2 := ht2.grown
  have HP2 := hidMk h1.drew.drew
  have ho2 : Own w2 d 49 2 [.map (some mb), lv] := HP2.out.own.grown hg2 (fun e => HP2.out.hd.2.2.1 (Option.some.inj e))
  have k1 : w2.cell? ⟨d, 1, none⟩ = some lv := (ho2.cell 1 (by decide)).trans rfl
  have k2 : w2.cell? ⟨w.heap.size, 0, none⟩ = some (.string f.nm) := hg2.cell c2 (fun e => by have := (hlt mb (.inr (.inl rfl))).2; have e := Option.some.inj e; simp only at e; omega)
  have hR2 : w2.ownsRow B 9 1 lv (loose fs).length ((loose fs).map Value.string) := own_grown HP2.out.row hg2 fun g hg e => HP2.out.hd.2.2.2.2 (by rw [hg]; exact e.symm)
  have HD := hidMk (del_any B w.heap.size lv (loose fs) f.nm w2 hR2 k2 (fun e => by have := (hlt _ (.inr (.inr e))).2; omega) hlo)
  have HM2 := hidMk hm2
  have HG2 := hidMk hg2
  have HO2 := hidMk ho2
  have HB := hidMk hB
  have HLT := hidMk hlt
  have HF : Hid (∀ w3 lv', w3.ownsRow B 9 1 lv' ((loose fs).filter fun x => !decide (x = f.nm)).length (((loose fs).filter fun x => !decide (x = f.nm)).map Value.string) → w2.grownBy w3 lv.ownBlock → lv'.ownBlock = lv.ownBlock → PD (w3.setCell ⟨d, 1, none⟩ lv') B d mb lv' (away fs f.nm) ∧ Gs (dS d mb lv) w (w3.setCell ⟨d, 1, none⟩ lv')) := fun w3 lv' e1 e2 e3 => by
    obtain ⟨r1, r2⟩ := removed HP2.out HM2.out HG2.out e1 e2 e3
    exact ⟨r1, (Gs.below hB).trans r2.drew.drew⟩
  clear h h1 hf hm2 ht2 hg2 hR2 hB hlt hnd hr2
  go_enter Tryd.func12, Tryd.ntmps12
  go_wp2_with fail
  try rw [hW]
  clear hW
  generalize hnx : f.nm = nm at *
  have HNX := hidMk hnx
  clear hnx
  go_region
  all_goals
    go_wp2_with fail
    go_region
    all_goals
      go_wp2_with fail
      refine HD.out.mono ?_
      rintro e w3 ⟨a', c', rfl, hrow, hg3, hlv⟩
      have ow3 : Own w3 d 49 2 [.map (some mb), lv] := HO2.out.grown hg3 HP2.out.hd.2.2.2.1
      have j1 : w3.cell? ⟨d, 1, none⟩ = some lv := (ow3.cell 1 (by decide)).trans rfl
      have j2 : w3.frozen? ⟨d, 1, none⟩ = false := ow3.soft 1
      have HX := hidMk (HF.out w3 _ hrow hg3 hlv)
      have HL := hidMk hlv
      clear hrow hg3 hlv ow3
      go_wp2_with fail
      go_ret
      obtain rfl := HNX.out
      exact ⟨rfl, _, HX.out.1, HX.out.2, HL.out⟩
end Go.Proofs.YtojfhlhajemhdaaDoor
