import Derived.Test.YtdbboaebigpkoaaGreatDoorAgW
namespace Go.Proofs.YtdbboaebigpkoaaGreatDoor
open Go.RowKit Go.Maps
set_option linter.unusedVariables false
set_option linter.unusedSimpArgs false
set_option maxRecDepth 100000

/-- Only blocks from B to ahead of D may have turned, of those that were there. -/
structure KB (B D : Nat) (w w' : World) : Prop where
  os : w'.os = w.os
  tape : w'.tape = w.tape
  output : w'.output = w.output
  size : w.heap.size ≤ w'.heap.size
  block : ∀ i, i < w.heap.size → (i < B ∨ D ≤ i) → w'.heap[i]? = w.heap[i]?
theorem KB.refl (B D : Nat) (w : World) : KB B D w w := ⟨rfl, rfl, rfl, Nat.le_refl _, fun _ _ _ => rfl⟩
theorem KB.trans {B D : Nat} {a b c : World} (h : KB B D a b) (k : KB B D b c) : KB B D a c :=
  ⟨k.os.trans h.os, k.tape.trans h.tape, k.output.trans h.output, Nat.le_trans h.size k.size, fun i hi hr => (k.block i (Nat.lt_of_lt_of_le hi h.size) hr).trans (h.block i hi hr)⟩
theorem KB.of_grown {B D r : Nat} {w w' : World} (h : w.grownBy w' (some r)) (h1 : B ≤ r) (h2 : r < D) : KB B D w w' :=
  ⟨h.os, h.tape, h.output, h.size, fun i hi hr => h.block i hi (fun e => by have := Option.some.inj e; omega)⟩
theorem KB.of_below {B D : Nat} {w w' : World} (h : Below w.heap.size w w') : KB B D w w' := ⟨h.os, h.tape, h.output, h.size, fun i hi _ => h.block i hi⟩
theorem KB.below {B D : Nat} {w w' : World} (h : KB B D w w') (hB : B ≤ w.heap.size) : Below B w w' := ⟨h.os, h.tape, h.output, by first | exact h.size | exact Nat.le_trans hB h.size, fun i hi => h.block i (by omega) (.inl hi)⟩
theorem KB.cell {B D : Nat} {w w' : World} (h : KB B D w w') {a : Addr} {v : Value} (hc : w.cell? a = some v) (hr : a.block < B ∨ D ≤ a.block) : w'.cell? a = some v :=
  (World.cell?_of_block (h.block a.block (World.block_lt_of_cell? w a hc) hr)).trans hc
theorem TLies.kb {B D : Nat} {w w' : World} {a : Option Addr} {l : List Tm} (h : TLies w a l) (k : KB B D w w') (hr : ∀ y, a = some y → y.block < B ∨ D ≤ y.block) : TLies w' a l := fun i hi => by
  obtain ⟨b, off, e, h1, h2, h3, h4⟩ := h i hi
  have hb := hr _ e
  exact ⟨b, off, e, k.cell h1 hb, k.cell h2 hb, k.cell h3 hb, k.cell h4 hb⟩

/-- A way that keeps one takes in what another one keeps. -/
theorem joins_single (B D t : Nat) (p : Value) (S : Tm) (ps : List Tm) (hps : ps = if S.v.k = 0 then [] else [S]) (a : Option Addr) (c : Nat) (w : World) (hl : TLies w a ps) (hap : ∀ y, a = some y → y.block < B ∨ D ≤ y.block)
    (JL JM : World → Prop) (h0 : JL w) (laterL : ∀ W W', JL W → Below W.heap.size W W' → JL W') (laterM : ∀ W W', JM W → Below W.heap.size W W' → JM W')
    (skip : S.v.k = 0 → ∀ W, JL W → JM W)
    (step : S.v.k ≠ 0 → ∀ W, JL W → ∃ fn rc, Meth t p "streamwright/agg.join" fn rc ∧ Calls Tryz.prog fn #[rc, tmv S] W fun e w' => e = .returned (.tuple #[]) ∧ JM w' ∧ KB B D W w') :
    Calls Tryz.prog 9 #[.iface t p, .slice a ps.length c] w fun e w' => e = .returned (.tuple #[]) ∧ JM w' ∧ KB B D w w' := by
  by_cases hk : S.v.k = 0
  · rw [if_pos hk] at hps
    subst hps
    refine (joinAll_any t p [] a c w (by simp) (fun _ W => JL W ∧ KB B D w W) ⟨h0, KB.refl _ _ _⟩ (fun _ W W' h hb => ⟨laterL W W' h.1 hb, h.2.trans (KB.of_below hb)⟩) (fun _ W _ i hi => absurd hi (by simp)) (fun k hk => absurd hk (by simp))).mono fun e w' ⟨h1, h2⟩ => ⟨h1, skip hk _ h2.1, h2.2⟩
  · rw [if_neg hk] at hps
    subst hps
    refine (joinAll_any t p [S] a c w (by simp) (fun k W => (if k = 0 then JL W else JM W) ∧ KB B D w W) ⟨by simpa using h0, KB.refl _ _ _⟩ (fun k W W' h hb => ⟨?_, h.2.trans (KB.of_below hb)⟩) (fun k W h => hl.kb h.2 hap) (fun k hk' W h => ?_)).mono fun e w' ⟨h1, h2⟩ => ⟨h1, by simpa using h2.1, h2.2⟩
    · by_cases h0' : k = 0
      · rw [if_pos h0'] at h ⊢; exact laterL W W' h.1 hb
      · rw [if_neg h0'] at h ⊢; exact laterM W W' h.1 hb
    · obtain rfl : k = 0 := by simp at hk'; omega
      rw [if_pos rfl] at h
      obtain ⟨fn, rc, hM, hC⟩ := step hk W h.1
      exact ⟨fn, rc, hM, hC.mono fun e w' ⟨e1, e2, e3⟩ => ⟨e1, by simpa using e2, h.2.trans e3⟩⟩

def JCnt (B D : Nat) (w : World) (x : Value) (l : List Tm) : Prop := ∃ g, x = .iface 77 (ptr g) ∧ B ≤ g ∧ g < D ∧ Own w g 119 4 (cellsT ⟨0, ⟨1, l.length, ⟨#[]⟩⟩⟩)
def JSum (B D : Nat) (w : World) (x : Value) (l : List Tm) : Prop := ∃ g, x = .iface 79 (ptr g) ∧ B ≤ g ∧ g < D ∧ Own w g 85 4 (cellsT ⟨0, sumS l⟩)
def JPick (kind : Int) (B D : Nat) (w : World) (x : Value) (l : List Tm) : Prop := ∃ g F, x = .iface 86 (ptr g) ∧ B ≤ g ∧ g < D ∧ Own w g 89 5 (cellsT (pickS kind l) ++ [F]) ∧ OrdF w g kind F
theorem meth_cntJoin (g : Nat) : Meth 77 (ptr g) "streamwright/agg.join" 87 (ptr g) := ⟨fun W => by kernel_rfl, fun W => by kernel_rfl, xent Tryz.func87 (by kernel_rfl) (by rfl)⟩
theorem meth_sumJoin (g : Nat) : Meth 79 (ptr g) "streamwright/agg.join" 87 (ptr g) := ⟨fun W => by kernel_rfl, fun W => by kernel_rfl, xent Tryz.func87 (by kernel_rfl) (by rfl)⟩
theorem meth_pickJoin (g : Nat) : Meth 86 (ptr g) "streamwright/agg.join" 91 (ptr g) := ⟨fun W => by kernel_rfl, fun W => by kernel_rfl, xent Tryz.func91 (by kernel_rfl) (by rfl)⟩
theorem meth_cntParts (g : Nat) : Meth 77 (ptr g) "streamwright/agg.parts" 88 (ptr g) := ⟨fun W => by kernel_rfl, fun W => by kernel_rfl, xent Tryz.func88 (by kernel_rfl) (by rfl)⟩
theorem meth_sumParts (g : Nat) : Meth 79 (ptr g) "streamwright/agg.parts" 88 (ptr g) := ⟨fun W => by kernel_rfl, fun W => by kernel_rfl, xent Tryz.func88 (by kernel_rfl) (by rfl)⟩
theorem meth_pickParts (g : Nat) : Meth 86 (ptr g) "streamwright/agg.parts" 88 (ptr g) := ⟨fun W => by kernel_rfl, fun W => by kernel_rfl, xent Tryz.func88 (by kernel_rfl) (by rfl)⟩

/-- A way whose parts can be taken in by another of its kind: 'J B D W x l': its own blocks lie from B to ahead of D. -/
structure IsJoin (kind : Int) (I : Nat → World → Value → List Tm → Prop) (J : Nat → Nat → World → Value → List Tm → Prop) : Prop where
  ofI : ∀ B w x l, I B w x l → J B w.heap.size w x l
  toI : ∀ B D w x l, J B D w x l → I B w x l
  later : ∀ B D w w' x l, J B D w x l → Below w.heap.size w w' → J B D w' x l
  parts : ∀ B w x l, I B w x l → (l.length ≤ 3518437208781 ∧ ∀ o ∈ l, Fits o.v) → ∃ t p fn rc, x = .iface t p ∧ Meth t p "streamwright/agg.parts" fn rc ∧ Calls Tryz.prog fn #[rc] w fun e w' => ∃ y ps, e = .returned y ∧ OT w' w.heap.size y ps ∧ PartsOf kind l ps ∧ Below w.heap.size w w'
  join : ∀ B D w x l m ps a c, J B D w x l → PartsOf kind m ps → TLies w a ps → (∀ y, a = some y → y.block < B ∨ D ≤ y.block) → (∀ p ∈ ps, Fits p.v) → l.length + m.length ≤ 8796093022200 → (ps.length : Nat) ≤ 3518437208781 →
    ∃ t p, x = .iface t p ∧ Calls Tryz.prog 9 #[x, .slice a ps.length c] w fun e w' => e = .returned (.tuple #[]) ∧ J B D w' x (l ++ m) ∧ KB B D w w'

theorem join_cnt : IsJoin 1 ICnt JCnt where
  ofI B w x l h := by obtain ⟨g, h1, h2, h3⟩ := h; exact ⟨g, h1, h2, h3.lt, h3⟩
  toI B D w x l h := by obtain ⟨g, h1, h2, h3, h4⟩ := h; exact ⟨g, h1, h2, h4⟩
  later B D w w' x l h hb := by obtain ⟨g, h1, h2, h3, h4⟩ := h; exact ⟨g, h1, h2, h3, h4.later hb⟩
  parts B w x l h _ := by
    obtain ⟨g, rfl, h2, h3⟩ := h
    refine ⟨_, _, _, _, rfl, meth_cntParts g, (sparts_any g _ 0 (⟨0, ⟨1, l.length, ⟨#[]⟩⟩⟩ : Tm) [] w (by rw [List.append_nil]; exact h3)).mono fun e w' ⟨y, e1, e2, e3⟩ => ⟨y, _, e1, e2, ?_, e3⟩⟩
    simp [PartsOf, keptOf]
  join B D w x l m ps a c h hp hl hap hf hlm hps := by
    obtain ⟨g, rfl, h2, h3, h4⟩ := h
    refine ⟨_, _, rfl, joins_single B D _ (ptr g) (keptOf 1 m) ps (by simpa [PartsOf] using hp) a c w hl hap (fun W => JCnt B D W (.iface 77 (ptr g)) l ∧ Own W g 119 4 (cellsT ⟨0, ⟨1, l.length, ⟨#[]⟩⟩⟩)) (fun W => JCnt B D W (.iface 77 (ptr g)) (l ++ m)) ⟨⟨g, rfl, h2, h3, h4⟩, h4⟩ ?_ ?_ ?_ ?_⟩
    · rintro W W' ⟨⟨g', e1, e2, e3, e4⟩, e5⟩ hb; exact ⟨⟨g', e1, e2, e3, e4.later hb⟩, e5.later hb⟩
    · rintro W W' ⟨g', e1, e2, e3, e4⟩ hb; exact ⟨g', e1, e2, e3, e4.later hb⟩
    · intro hk; simp [keptOf] at hk
    · rintro - W ⟨-, h5⟩
      refine ⟨_, _, meth_cntJoin g, (totalJoin_any g _ _ (keptOf 1 m) W h5).mono fun e w' ⟨e1, e2, e3⟩ => ⟨e1, ⟨g, rfl, h2, h3, ?_⟩, KB.of_grown e3 h2 h3⟩⟩
      have e : wrap64 ((l.length : Int) + (m.length : Int)) = ((l ++ m).length : Nat) := by rw [w64 (by omega) (by omega)]; simp
      rw [← e]; exact e2
theorem join_sum : IsJoin 2 ISum JSum where
  ofI B w x l h := by obtain ⟨g, h1, h2, h3⟩ := h; exact ⟨g, h1, h2, h3.lt, h3⟩
  toI B D w x l h := by obtain ⟨g, h1, h2, h3, h4⟩ := h; exact ⟨g, h1, h2, h4⟩
  later B D w w' x l h hb := by obtain ⟨g, h1, h2, h3, h4⟩ := h; exact ⟨g, h1, h2, h3, h4.later hb⟩
  parts B w x l h _ := by
    obtain ⟨g, rfl, h2, h3⟩ := h
    refine ⟨_, _, _, _, rfl, meth_sumParts g, (sparts_any g _ 0 (⟨0, sumS l⟩ : Tm) [] w (by rw [List.append_nil]; exact h3)).mono fun e w' ⟨y, e1, e2, e3⟩ => ⟨y, _, e1, e2, ?_, e3⟩⟩
    simp [PartsOf, keptOf]
  join B D w x l m ps a c h hp hl hap hf hlm hps := by
    obtain ⟨g, rfl, h2, h3, h4⟩ := h
    refine ⟨_, _, rfl, joins_single B D _ (ptr g) (keptOf 2 m) ps (by simpa [PartsOf] using hp) a c w hl hap (fun W => Own W g 85 4 (cellsT ⟨0, sumS l⟩)) (fun W => JSum B D W (.iface 79 (ptr g)) (l ++ m)) h4 ?_ ?_ ?_ ?_⟩
    · intro W W' e5 hb; exact e5.later hb
    · rintro W W' ⟨g', e1, e2, e3, e4⟩ hb; exact ⟨g', e1, e2, e3, e4.later hb⟩
    · intro hk W h5
      exact ⟨g, rfl, h2, h3, by rw [sum_join0 l m (by simpa [keptOf] using hk)]; exact h5⟩
    · intro hk W h5
      refine ⟨_, _, meth_sumJoin g, (totalJoin_any g _ _ (keptOf 2 m) W h5).mono fun e w' ⟨e1, e2, e3⟩ => ⟨e1, ⟨g, rfl, h2, h3, ?_⟩, KB.of_grown e3 h2 h3⟩⟩
      rw [sum_join l m (by simpa [keptOf] using hk)]
      simpa [keptOf] using e2
theorem join_pick (kind : Int) (hk : kind = 3 ∨ kind = 4 ∨ kind = 5 ∨ kind = 6) : IsJoin kind (IPick kind) (JPick kind) where
  ofI B w x l h := by obtain ⟨g, F, h1, h2, h3, h4⟩ := h; exact ⟨g, F, h1, h2, h3.lt, h3, h4⟩
  toI B D w x l h := by obtain ⟨g, F, h1, h2, h3, h4, h5⟩ := h; exact ⟨g, F, h1, h2, h4, h5⟩
  later B D w w' x l h hb := by obtain ⟨g, F, h1, h2, h3, h4, h5⟩ := h; exact ⟨g, F, h1, h2, h3, h4.later hb, h5.grown (r := none) (grown_below hb) fun k hk => by cases hk⟩
  parts B w x l h _ := by
    obtain ⟨g, F, rfl, h2, h3, h4⟩ := h
    refine ⟨_, _, _, _, rfl, meth_pickParts g, (sparts_any g _ 1 (pickS kind l) [F] w h3).mono fun e w' ⟨y, e1, e2, e3⟩ => ⟨y, _, e1, e2, ?_, e3⟩⟩
    have hkp : keptOf kind l = pickS kind l := by unfold keptOf; rw [if_neg (by omega), if_neg (by omega)]
    unfold PartsOf
    rw [if_neg (by omega), hkp]
  join B D w x l m ps a c h hp hl hap hf hlm hps := by
    obtain ⟨g, F, rfl, h2, h3, h4, h5⟩ := h
    have hkp : keptOf kind m = pickS kind m := by unfold keptOf; rw [if_neg (by omega), if_neg (by omega)]
    have hps' : ps = if (pickS kind m).v.k = 0 then [] else [pickS kind m] := by
      unfold PartsOf at hp
      rw [if_neg (by omega), hkp] at hp
      exact hp
    refine ⟨_, _, rfl, joins_single B D _ (ptr g) (pickS kind m) ps hps' a c w hl hap (fun W => Own W g 89 5 (cellsT (pickS kind l) ++ [F]) ∧ OrdF W g kind F) (fun W => JPick kind B D W (.iface 86 (ptr g)) (l ++ m)) ⟨h4, h5⟩ ?_ ?_ ?_ ?_⟩
    · rintro W W' ⟨e4, e5⟩ hb; exact ⟨e4.later hb, e5.grown (r := none) (grown_below hb) fun k hk => by cases hk⟩
    · rintro W W' ⟨g', F', e1, e2, e3, e4, e5⟩ hb; exact ⟨g', F', e1, e2, e3, e4.later hb, e5.grown (r := none) (grown_below hb) fun k hk => by cases hk⟩
    · rintro hk' W ⟨e4, e5⟩
      exact ⟨g, F, rfl, h2, h3, by rw [pick_join0 kind l m hk']; exact e4, e5⟩
    · rintro hk' W ⟨e4, e5⟩
      refine ⟨_, _, meth_pickJoin g, (pickJoin_any g _ kind _ (pickS kind m) F W e4 e5).mono fun e w' ⟨e1, e2, e3⟩ => ⟨e1, ⟨g, F, rfl, h2, h3, ?_, e5.grown e3 fun k hk => (Option.some.inj hk).symm⟩, KB.of_grown e3 h2 h3⟩⟩
      rw [← pick_join kind l m hk']; exact e2
end Go.Proofs.YtdbboaebigpkoaaGreatDoor
