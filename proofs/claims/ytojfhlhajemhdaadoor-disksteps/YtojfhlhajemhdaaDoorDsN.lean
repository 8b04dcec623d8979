import Derived.Test.YtojfhlhajemhdaaDoorDsM
import Derived.Test.YtojfhlhajemhdaaDoorTldB
namespace Go.Proofs.YtojfhlhajemhdaaDoor
open Go.RowKit
set_option linter.unusedVariables false
set_option linter.unusedSimpArgs false
set_option maxRecDepth 100000

/-- What the law has of a file's bytes. -/
def Lw (W : World) (f : Fl) : Prop := Bytes W f.la f.bs.length (lat f.bs) ∧ f.bs.length ≤ f.lc ∧ True ∧ f.nm.size ≤ maxLen ∧ f.bs.length ≤ 140737488355328
/-- The law's memory: the disk, the list of its files, and what was there before. -/
structure DInv (W w : World) (d mb : Nat) (lv x : Value) (fs : List Fl) : Prop where
  pd : PD w W.heap.size d mb lv fs
  lf : LF w W.heap.size x fs
  bel : Below W.heap.size W w
  law : ∀ f ∈ fs, Lw W f
  ap1 : ∀ g, x.ownBlock = some g → ¬ dS d mb lv g
  ap2 : ∀ f ∈ fs, ∀ y, f.pa = some y → some y.block ≠ x.ownBlock
theorem DInv.xlt {W w : World} {d mb : Nat} {lv x : Value} {fs : List Fl} (h : DInv W w d mb lv x fs) : ∀ g, x.ownBlock = some g → W.heap.size ≤ g ∧ g < w.heap.size := fun g hg => World.ownsRow.lt h.lf g hg
/-- Blocks that are neither the disk's nor the list's may turn. -/
theorem DInv.kept {S : Nat → Prop} {W w w' : World} {d mb : Nat} {lv x : Value} {fs : List Fl} (h : DInv W w d mb lv x fs) (hg : Gs S w w') (h1 : ∀ i, S i → W.heap.size ≤ i) (h2 : ∀ i, S i → ¬ dS d mb lv i) (h3 : ∀ i, S i → some i ≠ x.ownBlock) (h4 : ∀ i, S i → ∀ f ∈ fs, ∀ y, f.pa = some y → y.block ≠ i) : DInv W w' d mb lv x fs :=
  ⟨h.pd.kept hg h2 h4, hg.own h.lf (fun g hg' s => h3 g s hg'.symm), h.bel.trans (hg.toBelow h.bel.size h1), h.law, h.ap1, h.ap2⟩
/-- Only what is new turns. -/
theorem DInv.new {S : Nat → Prop} {W w w' : World} {d mb : Nat} {lv x : Value} {fs : List Fl} (h : DInv W w d mb lv x fs) (hg : Gs S w w') (hS : ∀ i, S i → w.heap.size ≤ i) : DInv W w' d mb lv x fs := by
  refine h.kept hg (fun i s => Nat.le_trans h.bel.size (hS i s)) (fun i s q => ?_) (fun i s q => ?_) (fun i s f hf y hy q => ?_)
  · have := (h.pd.lt i q).2; have := hS i s; omega
  · have := (h.xlt i q.symm).2; have := hS i s; omega
  · have := (h.pd.ap f hf y hy).2.1; have := hS i s; omega
theorem DInv.later {W w w' : World} {d mb : Nat} {lv x : Value} {fs : List Fl} (h : DInv W w d mb lv x fs) (hb : Below w.heap.size w w') : DInv W w' d mb lv x fs := h.new (S := fun _ => False) (Gs.below hb) (fun _ s => s.elim)
/-- The disk has done something; the list is behind yet. -/
theorem DInv.did {W w w' : World} {d mb : Nat} {lv x : Value} {fs : List Fl} (h : DInv W w d mb lv x fs) (hg : Gs (dS d mb lv) w w') : LF w' W.heap.size x fs ∧ Below W.heap.size W w' :=
  ⟨hg.own h.lf (fun g hg' => h.ap1 g hg'), h.bel.trans (hg.toBelow h.bel.size (fun i s => (h.pd.lt i s).1))⟩
/-- A new list, in a new row. -/
theorem DInv.mk' {W w w0 : World} {d mb : Nat} {lv x : Value} {fs : List Fl} (pd : PD w W.heap.size d mb lv fs) (lf : LF w W.heap.size x fs) (bel : Below W.heap.size W w) (law : ∀ f ∈ fs, Lw W f) (hx : ∀ g, x.ownBlock = some g → w0.heap.size ≤ g) (hd : ∀ i, dS d mb lv i → i < w0.heap.size) (hp : ∀ f ∈ fs, ∀ y, f.pa = some y → y.block < w0.heap.size) : DInv W w d mb lv x fs :=
  ⟨pd, lf, bel, law, fun g hg s => by have := hx g hg; have := hd g s; omega, fun f hf y hy e => by have := hx _ e.symm; have := hp f hf y hy; omega⟩
theorem LF.base {w : World} {B B' : Nat} {x : Value} {fs : List Fl} (h : LF w B x fs) (hb : B' ≤ B) : LF w B' x fs := by
  refine ⟨h.1, ?_⟩
  rcases h.2 with h2 | ⟨g, cap, cur, h1, h2, h3⟩
  · exact .inl h2
  · exact .inr ⟨g, cap, cur, h1, Nat.le_trans hb h2, h3⟩
theorem PD.dlt {w : World} {B d mb : Nat} {lv : Value} {fs : List Fl} (h : PD w B d mb lv fs) : ∀ i, dS d mb lv i → i < w.heap.size := fun i s => (h.lt i s).2
theorem Lw.half {W : World} {f g : Fl} (h : Lw W g) (hf : f.nm = g.nm ∧ f.bs = half g.bs ∧ f.la = g.la ∧ f.lc = g.lc) : Lw W f := by
  obtain ⟨e1, e2, e3, e4⟩ := hf
  obtain ⟨h1, h2, h3, h4, h5⟩ := h
  have := half_len g.bs
  refine ⟨?_, by rw [e2, e4]; omega, h3, by rw [e1]; exact h4, by rw [e2]; omega⟩
  rw [e2, e3]
  exact h1.take _ (by omega)
theorem law_crashed {W : World} {fs : List Fl} (h : ∀ f ∈ fs, Lw W f) (t : Nat) (pa : Option Addr) (pc n : Nat) : ∀ f ∈ crashed t pa pc n fs, Lw W f := fun f hf => by
  rcases (crashed_mem t pa pc n fs f hf).2 with ⟨g, hg, e⟩ | ⟨-, -, g, hg, e⟩
  · rw [e]; exact h g hg
  · rw [e]; exact (h g hg).half ⟨rfl, rfl, rfl, rfl⟩

/-- One file's place in the list; no two have one name. -/
theorem place {fs : List Fl} (hn : (fs.map (·.nm)).Nodup) {k : Nat} (hk : k < fs.length) : ∀ i (hi : i < fs.length), i < k → ¬ fs[i].nm = fs[k].nm := fun i hi hik e => by
  have := (List.pairwise_iff_getElem.1 hn) i k (by rw [List.length_map]; exact hi) (by rw [List.length_map]; exact hk) hik
  exact this (by rw [List.getElem_map, List.getElem_map, e])
theorem away_at {fs : List Fl} (hn : (fs.map (·.nm)).Nodup) {k : Nat} (hk : k < fs.length) : away fs fs[k].nm = fs.take k ++ fs.drop (k + 1) := by
  have hs : fs = fs.take k ++ fs[k] :: fs.drop (k + 1) := by rw [← List.drop_eq_getElem_cons hk, List.take_append_drop]
  unfold away
  refine (congrArg (List.filter fun f => !decide (f.nm = fs[k].nm)) hs).trans ?_
  rw [List.filter_append, List.filter_cons, if_neg (by simp)]
  congr 1
  · refine List.filter_eq_self.2 fun f hf => ?_
    obtain ⟨i, hi, rfl⟩ := List.getElem_of_mem hf
    rw [List.length_take] at hi
    rw [List.getElem_take]
    simpa using place hn hk i (by omega) (by omega)
  · refine List.filter_eq_self.2 fun f hf => ?_
    obtain ⟨i, hi, rfl⟩ := List.getElem_of_mem hf
    rw [List.length_drop] at hi
    rw [List.getElem_drop]
    have := place hn (k := k + 1 + i) (by omega) k hk (by omega)
    simpa using fun e => this e.symm
/-- How many can be lost. -/
theorem loose_take (fs : List Fl) (k : Nat) (hk : k < fs.length) : (loose (fs.take (k + 1))).length = (loose (fs.take k)).length + (if fs[k].ls then 1 else 0) := by
  rw [List.take_succ_eq_append_getElem hk, loose_app, List.length_append, loose_cons]; split <;> rfl
end Go.Proofs.YtojfhlhajemhdaaDoor
