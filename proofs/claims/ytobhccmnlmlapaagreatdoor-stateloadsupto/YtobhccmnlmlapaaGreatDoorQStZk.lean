import Derived.Test.YtobhccmnlmlapaaGreatDoorGt
import Derived.Test.YtobhccmnlmlapaaGreatDoorQStZi
namespace Go.Proofs.YtobhccmnlmlapaaGreatDoor
open Go.RowKit Go.Maps
set_option linter.unusedVariables false
set_option linter.unusedSimpArgs false
set_option maxRecDepth 100000

/-- A step of a script, and where it lies. -/
structure Ox where
  kd : Int
  ka : Option Addr
  key : List V
  kc : Nat
  wn : Wn
  da : Option Addr
  d : List UInt8
  dc : Nat
  tm : Int
structure OEnt (w : World) (B : Nat) (x : Ox) : Prop where
  key : VLies w x.ka x.key
  kb : ∀ y, x.ka = some y → 0 < x.key.length → y.block < B
  dat : Wr.Bytes w x.da x.d.length (Wr.lat x.d)
  db : ∀ y, x.da = some y → 0 < x.d.length → y.block < B
  good : GoodK x.key
  fits : Fits x.wn
  kl : x.key.length ≤ 1048576
  dl : x.d.length ≤ 1048576
/-- A script that was handed in, below a block. -/
structure OLies (w : World) (B : Nat) (a : Option Addr) (xs : List Ox) : Prop where
  row : ∀ i (hi : i < xs.length), ∃ b off, a = some ⟨b, off, none⟩ ∧ b < B ∧ w.cell? ⟨b, off + i * 6, none⟩ = some (.int .i64 xs[i].kd) ∧ w.cell? ⟨b, off + i * 6 + 1, none⟩ = some (.slice xs[i].ka xs[i].key.length xs[i].kc) ∧ w.cell? ⟨b, off + i * 6 + 2, none⟩ = some (.int .i64 xs[i].wn.f) ∧ w.cell? ⟨b, off + i * 6 + 3, none⟩ = some (.int .i64 xs[i].wn.t) ∧ w.cell? ⟨b, off + i * 6 + 4, none⟩ = some (.slice xs[i].da xs[i].d.length xs[i].dc) ∧ w.cell? ⟨b, off + i * 6 + 5, none⟩ = some (.int .i64 xs[i].tm)
  ent : ∀ x ∈ xs, OEnt w B x
theorem OEnt.kept {w w' : World} {B : Nat} {x : Ox} (h : OEnt w B x) (hb : Below B w w') : OEnt w' B x := by
  refine ⟨fun i hi => ?_, h.kb, fun i hi => ?_, h.db, h.good, h.fits, h.kl, h.dl⟩
  · obtain ⟨b, off, e, h1, h2, h3⟩ := h.key i hi
    have hlt := h.kb _ e (by omega)
    exact ⟨b, off, e, (hb.cell (p := ⟨b, off + i * 3, none⟩) hlt).trans h1, (hb.cell (p := ⟨b, off + i * 3 + 1, none⟩) hlt).trans h2, (hb.cell (p := ⟨b, off + i * 3 + 2, none⟩) hlt).trans h3⟩
  · obtain ⟨b, off, e, h1⟩ := h.dat i hi
    have hlt := h.db _ e (by omega)
    exact ⟨b, off, e, (hb.cell (p := ⟨b, off + i, none⟩) hlt).trans h1⟩
theorem OLies.kept {w w' : World} {B : Nat} {a : Option Addr} {xs : List Ox} (h : OLies w B a xs) (hb : Below B w w') : OLies w' B a xs := by
  refine ⟨fun i hi => ?_, fun x hx => (h.ent x hx).kept hb⟩
  obtain ⟨b, off, e, hlt, h0, h1, h2, h3, h4, h5⟩ := h.row i hi
  exact ⟨b, off, e, hlt, (hb.cell (p := ⟨b, off + i * 6, none⟩) hlt).trans h0, (hb.cell (p := ⟨b, off + i * 6 + 1, none⟩) hlt).trans h1, (hb.cell (p := ⟨b, off + i * 6 + 2, none⟩) hlt).trans h2, (hb.cell (p := ⟨b, off + i * 6 + 3, none⟩) hlt).trans h3, (hb.cell (p := ⟨b, off + i * 6 + 4, none⟩) hlt).trans h4, (hb.cell (p := ⟨b, off + i * 6 + 5, none⟩) hlt).trans h5⟩
/-- What Put answers, as a number, and what the store is then. -/
def PutAns (w : World) (B t mp : Nat) (lo hi : Int) (ss : List Sh) (c : Ce) (e : Ending) (w' : World) : Prop :=
  (rngC lo hi c.key c.w = false ∧ e = .returned (Wr.errV 4) ∧ Below w.heap.size w w') ∨
  (rngC lo hi c.key c.w = true ∧ 67108864 < newW ss c.key c.w c.d.length ∧ e = .returned (Wr.errV 5) ∧ Below w.heap.size w w') ∨
  (rngC lo hi c.key c.w = true ∧ ¬ 67108864 < newW ss c.key c.w c.d.length ∧ e = .returned .nilIface ∧ PutFin w B t mp lo hi ss c w')
theorem put_any (vs : List V) (a : Option Addr) (c : Nat) (x : Wn) (da : Option Addr) (d : List UInt8) (dc : Nat) (w : World) (B t mp : Nat) (lo hi : Int) (ss : List Sh) (h : PS w B t mp lo hi ss) (hl : VLies w a vs) (hg : GoodK vs) (hvl : vs.length ≤ 549755813888) (hx : Fits x) (ht : Vl.Tab w) (hdn : d.length ≤ 1099511627776) (hd : Wr.Bytes w da d.length (Wr.lat d)) (ha : ∀ y, a = some y → 0 < vs.length → y.block ≠ t ∧ y.block ≠ mp) (hda : ∀ y, da = some y → 0 < d.length → y.block ≠ t ∧ y.block ≠ mp) :
    Calls Tryz.prog 11 #[.pointer (some ⟨t, 0, none⟩), .slice a vs.length c, .agg #[.int .i64 x.f, .int .i64 x.t], .slice da d.length dc] w (PutAns w B t mp lo hi ss ⟨vs, x, d⟩) := by
  cases hr : rngC lo hi vs x with
  | false => exact (put_range vs a c x _ w B t mp lo hi ss h hl hg hvl ht hr).mono fun e w' hh => .inl ⟨hr, hh⟩
  | true =>
    refine (put_fit vs a c x da d d.length dc w B t mp lo hi ss h hl hg hvl hx ht hdn hr hd rfl ha hda).mono fun e w' hh => ?_
    rcases hh with hh | hh
    · exact .inr (.inl ⟨hr, hh⟩)
    · exact .inr (.inr ⟨hr, hh⟩)
theorem putC_ne (l : List Ce) (c : Ce) : putC l c ≠ [] := fun e => by unfold putC at e; cases e
theorem PutFin.below {w w' : World} {B t mp : Nat} {lo hi : Int} {ss : List Sh} {c : Ce} {B0 : Nat} (h : PS w B t mp lo hi ss) (hB : B0 ≤ B) (hf : PutFin w B t mp lo hi ss c w') : Below B0 w w' := by
  obtain ⟨ss', -, -, g, -⟩ := hf
  have h1 := (h.lt (.inl (.inl rfl)))
  exact g.toBelow (by omega) fun i hi => Nat.le_trans hB (h.lt (.inl hi)).1
/-- Pieces of one's own can be handed in. -/
theorem OPc.pin {w : World} {B : Nat} {u : Value} {ps : List Pc} (h : OPc w B u ps) : ∃ pb c, u = .slice pb ps.length c ∧ PIn w w.heap.size pb ps := by
  have hby : ∀ p ∈ ps, ∃ a c, p.v = .slice a p.b.length c ∧ Wr.Bytes w a p.b.length (Wr.lat p.b) ∧ p.b.length ≤ c ∧ c ≤ 9223372036854775807 ∧ ∀ y, a = some y → y.block < w.heap.size := fun p hp => by
    obtain ⟨a, c2, e', hb, hc, hm⟩ := (h.byt p hp).conv
    refine ⟨a, c2, e', hb, hc, by unfold maxLen at hm; omega, fun y hy => ?_⟩
    rcases (h.byt p hp).2 with ⟨k1, _⟩ | ⟨g, cap, cur, k1, -⟩
    · rw [e'] at k1; injection k1 with k1; rw [hy] at k1; cases k1
    · have k2 := k1
      rw [e'] at k1; injection k1 with k1; rw [hy] at k1
      injection k1 with k1
      rw [k1]
      exact (World.ownsRow.lt (h.byt p hp) g (by rw [k2]; rfl)).2
  rcases h.own.2 with ⟨h1, h0⟩ | ⟨g, cap, cur, h1, h2, h3, h4⟩
  · exact ⟨none, 0, by rw [h1, h0], fun i hi => absurd hi (by omega), hby⟩
  · refine ⟨some ⟨g, 0, none⟩, cap, h1, fun i hi => ?_, hby⟩
    have ho := h.own
    rw [h1] at ho
    have key : ∀ j, j < 2 → w.cell? ⟨g, i * 2 + j, none⟩ = (cellsP ps[i])[j]? := fun j hj => by
      rw [World.ownsRow.cellAt ho (i * 2 + j) (by omega), flat_at cellsP 2 (fun _ => rfl) ps i j hi hj]
    refine ⟨g, 0, rfl, (World.ownsRow.lt ho g rfl).2, ?_, ?_⟩
    · rw [Nat.zero_add]; exact key 0 (by decide)
    · rw [Nat.zero_add]; exact key 1 (by decide)
end Go.Proofs.YtobhccmnlmlapaaGreatDoor
