import Derived.Test.YtdbboaebigpkoaaGreatDoorAgW2
namespace Go.Proofs.YtdbboaebigpkoaaGreatDoor
open Go.RowKit Go.Maps
set_option linter.unusedVariables false
set_option linter.unusedSimpArgs false
set_option maxRecDepth 100000

def JDst (B D : Nat) (w : World) (x : Value) (l : List Tm) : Prop := ∃ g m Dt, x = .iface 91 (ptr g) ∧ B ≤ g ∧ g < D ∧ B ≤ m ∧ m < D ∧ m ≠ g ∧ Own w g 94 1 [.map (some m)] ∧ w.ownsMap Tryz.prog 25 (unitElem (H := Unit)) m l.length Dt ∧ DSet Dt (dst (nv l)) ∧ l.length ≤ 8796093022200
theorem meth_dstJoin (g : Nat) : Meth 91 (ptr g) "streamwright/agg.join" 94 (ptr g) := ⟨fun W => by kernel_rfl, fun W => by kernel_rfl, xent Tryz.func94 (by kernel_rfl) (by rfl)⟩
theorem JDst.later {B D : Nat} {w w' : World} {x : Value} {l : List Tm} (h : JDst B D w x l) (hb : Below w.heap.size w w') : JDst B D w' x l := by
  obtain ⟨g, m, Dt, h1, h2, h3, h4, h5, h6, h7, h8, h9, h10⟩ := h
  exact ⟨g, m, Dt, h1, h2, h3, h4, h5, h6, h7.later hb, h8.kept (grown_below (r := none) hb) (by simp), h9, h10⟩
theorem JDst.ofI {B : Nat} {w : World} {x : Value} {l : List Tm} (h : IDst B w x l) : JDst B w.heap.size w x l := by
  obtain ⟨g, m, Dt, h1, h2, h3, h4, h5, h6, h7, h8⟩ := h
  exact ⟨g, m, Dt, h1, h2, h5.lt, h3, h6.lt, h4, h5, h6, h7, h8⟩
theorem JDst.toI {B D : Nat} {w : World} {x : Value} {l : List Tm} (h : JDst B D w x l) : IDst B w x l := by
  obtain ⟨g, m, Dt, h1, h2, h3, h4, h5, h6, h7, h8, h9, h10⟩ := h
  exact ⟨g, m, Dt, h1, h2, h4, h6, h7, h8, h9, h10⟩
theorem nn_all (ps : List Tm) (h : ∀ p ∈ ps, p.v.k ≠ 0) : nv ps = ps.map (·.v) := by
  unfold nv nn
  rw [List.filter_eq_self.2 (fun p hp => by simpa using h p hp)]
/-- Sets that were made of the same values. -/
theorem JDst.same {B D : Nat} {w : World} {x : Value} {l m ps : List Tm} (h : JDst B D w x (l ++ ps)) (h1 : ∀ v, v ∈ ps.map (·.v) ↔ v ∈ nv m) (h2 : ps.length ≤ m.length) (h3 : ∀ p ∈ ps, p.v.k ≠ 0) (h4 : l.length + m.length ≤ 8796093022200) : JDst B D w x (l ++ m) := by
  obtain ⟨g, mm, Dt, e1, e2, e3, e4, e5, e6, e7, e8, e9, e10⟩ := h
  have hs : ∀ v, v ∈ nv (l ++ ps) ↔ v ∈ nv (l ++ m) := fun v => by
    rw [nv_app, nv_app, List.mem_append, List.mem_append, nn_all ps h3, h1]
  refine ⟨g, mm, Dt, e1, e2, e3, e4, e5, e6, e7, e8.mono (by simp; omega), ⟨by rw [e9.1, dst_same hs], fun v hv => by rw [e9.2 v hv, dst_mem, dst_mem, hs]⟩, by simp; omega⟩
theorem joins_dst (B D : Nat) (w : World) (x : Value) (l m ps : List Tm) (a : Option Addr) (c : Nat) (h : JDst B D w x l) (hp : PartsOf 7 m ps) (hl : TLies w a ps) (hap : ∀ y, a = some y → y.block < B ∨ D ≤ y.block) (hf : ∀ p ∈ ps, Fits p.v) (hlm : l.length + m.length ≤ 8796093022200) (hps : ps.length ≤ 3518437208781) :
    ∃ t p, x = .iface t p ∧ Calls Tryz.prog 9 #[x, .slice a ps.length c] w fun e w' => e = .returned (.tuple #[]) ∧ JDst B D w' x (l ++ m) ∧ KB B D w w' := by
  unfold PartsOf at hp
  rw [if_pos rfl] at hp
  obtain ⟨hp1, hp2, hp3⟩ := hp
  obtain ⟨g0, m0, D0, rfl, -⟩ := id h
  refine ⟨_, _, rfl, (joinAll_any _ (ptr g0) ps a c w (by omega) (fun k W => JDst B D W (.iface 91 (ptr g0)) (l ++ ps.take k) ∧ KB B D w W) ⟨by simpa using h, KB.refl _ _ _⟩ (fun k W W' hh hb => ⟨hh.1.later hb, hh.2.trans (KB.of_below hb)⟩) (fun k W hh => hl.kb hh.2 hap) (fun k hk W hh => ?_)).mono fun e w' ⟨e1, e2, e3⟩ => ⟨e1, ?_, e3⟩⟩
  · obtain ⟨⟨g, mm, Dt, f1, f2, f3, f4, f5, f6, f7, f8, f9, f10⟩, hKB⟩ := hh
    cases f1
    have ho := (hp3 ps[k] (List.getElem_mem hk)).1
    have hfo := hf ps[k] (List.getElem_mem hk)
    have htk : l ++ ps.take (k + 1) = (l ++ ps.take k) ++ [ps[k]] := by rw [List.take_succ_eq_append_getElem hk, List.append_assoc]
    have hlen : (l ++ ps.take k).length ≤ 8796093022199 := by rw [List.length_append, List.length_take]; omega
    have htd := f8.tidy lawV
    refine ⟨_, _, meth_dstJoin g0, (dstJoin_any g0 ps[k] W (fun W1 w' => w'.ownsMap Tryz.prog 25 (unitElem (H := Unit)) mm ((l ++ ps.take k).length + 1) (Dt.put (keyV ps[k].v) (.agg [])) ∧ W1.grownBy w' (some mm)) (fun W1 w' hb ⟨q1, q2⟩ => ⟨q1, grown_trans (grown_below hb) q2⟩) (fun W1 hb => dstAdd_1 g0 mm _ _ ps[k] Dt W1 ho (f7.later hb) (f8.kept (grown_below (r := none) hb) (by simp)) (by unfold maxLen; omega) hfo)).mono fun e w' ⟨e1, e2, e3⟩ => ⟨e1, ⟨g0, mm, Dt.put (keyV ps[k].v) (.agg []), rfl, f2, f3, f4, f5, f6, f7.grown e3 (fun e => f6 (Option.some.inj e).symm), ?_, ?_, ?_⟩, hKB.trans (KB.of_grown e3 f4 f5)⟩⟩
    · rw [htk, List.length_append, List.length_singleton]; exact e2
    · rw [htk, nv_snoc, if_neg ho, dst_snoc]; exact f9.put htd hfo
    · rw [htk, List.length_append, List.length_singleton]; omega
  · have e2' : JDst B D w' (.iface 91 (ptr g0)) (l ++ ps) := by rw [List.take_of_length_le (Nat.le_refl _)] at e2; exact e2
    exact e2'.same hp1 hp2 (fun p hp => (hp3 p hp).1) hlm
end Go.Proofs.YtdbboaebigpkoaaGreatDoor
