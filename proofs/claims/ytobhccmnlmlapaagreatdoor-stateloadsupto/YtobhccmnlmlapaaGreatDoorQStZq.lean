import Derived.Test.YtobhccmnlmlapaaGreatDoorRows
import Derived.Test.YtobhccmnlmlapaaGreatDoorQBlk
import Derived.Test.YtobhccmnlmlapaaGreatDoorQStZk
import Derived.Lib.SmallJoins
import Derived.WalkKit
import Derived.ProofKit
import Derived.OpenShut
import Derived.ShutString
import Derived.ChangeOld
import Derived.ChangeSlices
import Derived.Below
import Derived.Deep.Slices
import Derived.Deep.Strs
import Derived.SizedLaws
namespace Go.Proofs.YtobhccmnlmlapaaGreatDoor
open Go.ChangeShapes Go.WideShapes Go.ChangeAt Go.RowKit
open Go.Deep Go.Joins
set_option linter.unusedVariables false
set_option maxRecDepth 100000

theorem own : ownKnob Tryz.prog.godebug = none := by kernel_rfl
theorem laidOut : laidOutB Tryz.prog = true := by kernel_rfl
theorem cellsVal : Tryz.prog.cellsOf 48 = 3 := by kernel_rfl
theorem cellsKind : Tryz.prog.cellsOf 46 = 1 := by kernel_rfl
theorem cellsVals : Tryz.prog.cellsOf 36 = 1 := by kernel_rfl
theorem cellsI64 : Tryz.prog.cellsOf 2 = 1 := by kernel_rfl
theorem cellsInt : Tryz.prog.cellsOf 3 = 1 := by kernel_rfl
theorem cellsStr : Tryz.prog.cellsOf 9 = 1 := by kernel_rfl
theorem cells5 : Tryz.prog.cellsOf 5 = 1 := by kernel_rfl
theorem cellsB : Tryz.prog.cellsOf 39 = 1 := by kernel_rfl
theorem cellsWn : Tryz.prog.cellsOf 38 = 2 := by kernel_rfl
theorem cellsOp : Tryz.prog.cellsOf 41 = 6 := by kernel_rfl
theorem wf_u8 {z : Int} (h : (Lit.int .u8 z).wf = true) : 0 ≤ z ∧ z < 256 := by
  have h' : (decide (IntKind.u8.min ≤ z) && decide (z ≤ IntKind.u8.max)) = true := h
  have e1 : IntKind.u8.min = 0 := by decide
  have e2 : IntKind.u8.max = 255 := by decide
  simp [e1, e2] at h'
  omega
theorem wf_i64 {z : Int} (h : (Lit.int .i64 z).wf = true) : -9223372036854775808 ≤ z ∧ z ≤ 9223372036854775807 := by
  have h' : (decide (IntKind.i64.min ≤ z) && decide (z ≤ IntKind.i64.max)) = true := h
  have e1 : IntKind.i64.min = -9223372036854775808 := by decide
  have e2 : IntKind.i64.max = 9223372036854775807 := by decide
  simp [e1, e2] at h'
  omega
/-- Bytes that came in: they lie in memory; how long the row can be. -/
theorem bytes_in {H : Type} {enc : TypeId × Value → H} {W : World} {a : Option Addr} {len cap fuel : Nat} {x : DataW H × List MemPlace}
    (hf : DataW.trod enc Tryz.prog W 0 (fun _ => true) true fuel 39 [.slice a len cap] = some x) : ∃ f : Nat → UInt8, Wr.Bytes W a len f ∧ len ≤ cap ∧
      ((len = 0 ∧ cap = 0 ∧ a = none) ∨ ∃ elems spare, x.1 = .slice elems spare ∧ cap ≤ elems.length + spare.length) := by
  rcases open_ints Tryz.underlying39 Tryz.underlying5 cells5 hf with ⟨hcs, _⟩ | ⟨y, l, c, zs, hcs, _, hl, hm, hz, hx, hc, hw⟩
  · simp at hcs
    obtain ⟨rfl, rfl, rfl⟩ := hcs
    exact ⟨fun _ => 0, fun i hi => absurd hi (by omega), Nat.le_refl _, .inl ⟨rfl, rfl, rfl⟩⟩
  · simp at hcs
    obtain ⟨rfl, rfl, rfl⟩ := hcs
    simp at hz
    refine ⟨fun i => UInt8.ofNat (zs.getD i 0).toNat, ?_, hl, .inr ⟨_, _, by rw [hx], by simp [lits]; omega⟩⟩
    intro i hi
    have h1 := hc i (by omega)
    have hspot : y.spot = none := by
      have h0 := hc 0 (by omega)
      obtain ⟨b, off, spot⟩ := y
      simpa [Addr.add] using World.cell?_spot h0
    obtain ⟨b, off, spot⟩ := y
    simp at hspot
    subst hspot
    refine ⟨b, off, rfl, ?_⟩
    rw [WideShapes.add_plain] at h1
    rw [h1]
    have hi' : i < zs.length := by omega
    have hmem : zs.getD i 0 ∈ zs := by simp [List.getD, hi']
    have hwf := hw _ hmem
    have hb : 0 ≤ zs.getD i 0 ∧ zs.getD i 0 < 256 := wf_u8 hwf
    congr 2
    show _ = ((UInt8.ofNat (zs.getD i 0).toNat).toNat : Int)
    rw [UInt8.toNat_ofNat']
    omega
theorem bulk_agg {H : Type} {d : DataW H} {l : List (DataW H)} (h : d ∈ l) : Rows.uptoBulk d ≤ Rows.uptoBulk (.agg l) := by
  have := bulk_mem h
  rw [Rows.uptoBulk]; omega
theorem bulk_elem {H : Type} {d : DataW H} {l s : List (DataW H)} (h : d ∈ l) : Rows.uptoBulk d ≤ Rows.uptoBulk (.slice l s) := by
  have := bulk_mem h
  have := (bulk_slice l s).1
  omega
/-- Values that came in. -/
theorem vals_in {H : Type} {enc : TypeId × Value → H} {W : World} {a : Option Addr} {len cap fuel : Nat} {x : DataW H × List MemPlace}
    (hf : DataW.trod enc Tryz.prog W 0 (fun _ => true) true fuel 36 [.slice a len cap] = some x) :
    ∃ vs : List V, vs.length = len ∧ VLies W a vs ∧ len ≤ Rows.uptoBulk x.1 ∧ ∀ v ∈ vs, (-9223372036854775808 ≤ v.n ∧ v.n ≤ 9223372036854775807) ∧ v.s.size ≤ Rows.uptoBulk x.1 := by
  rcases open_slice Tryz.underlying36 hf with ⟨hcs, _⟩ | ⟨y, l, c, m, n, D, Pl, hcs, _, hl, hm, hmm, hD, hx⟩
  · simp at hcs
    obtain ⟨rfl, rfl, rfl⟩ := hcs
    exact ⟨[], rfl, fun i hi => absurd hi (by simp), Nat.zero_le _, fun v hv => by cases hv⟩
  · simp at hcs
    obtain ⟨rfl, rfl, rfl⟩ := hcs
    simp at hmm
    subst hmm
    rw [cellsVal] at hx
    have hspot : 0 < len → y.spot = none := by
      intro h0
      obtain ⟨cs', h1, h2⟩ := hx 0 (by omega)
      obtain ⟨_, hlen, hcell⟩ := World.cells?_some h1
      match cs', hlen with
      | [v0, v1, v2], _ =>
        have c0 := hcell 0 (by omega)
        rw [Deep.add_add] at c0
        obtain ⟨b, off, spot⟩ := y
        simpa [Addr.add] using World.cell?_spot c0
    have key : ∀ i, i < len → ∃ v : V, (∃ b off, some y = some (⟨b, off, none⟩ : Addr) ∧ W.cell? ⟨b, off + i * 3, none⟩ = some (.int .i64 v.k) ∧ W.cell? ⟨b, off + i * 3 + 1, none⟩ = some (.int .i64 v.n) ∧ W.cell? ⟨b, off + i * 3 + 2, none⟩ = some (.string v.s)) ∧ (-9223372036854775808 ≤ v.n ∧ v.n ≤ 9223372036854775807) ∧ v.s.size ≤ Rows.uptoBulk (D i) := by
      intro i hi
      obtain ⟨cs', h1, h2⟩ := hx i (by omega)
      obtain ⟨_, hlen, hcell⟩ := World.cells?_some h1
      obtain ⟨y0, y1, y2, n', hDi, _, g0, g1, g2⟩ := trod_struct3 Tryz.underlying48 h2
      match cs', hlen with
      | [v0, v1, v2], _ =>
        simp [cellsKind, cellsI64, cellsStr] at g0 g1 g2
        obtain ⟨k, e0, _, _⟩ := DataW.trod_int Tryz.underlying46 g0
        obtain ⟨nn, e1, _, wn⟩ := DataW.trod_int Tryz.underlying2 g1
        obtain ⟨s, e2, ds, _⟩ := DataW.trod_string Tryz.underlying9 g2
        simp at e0 e1 e2
        subst e0 e1 e2
        have c0 := hcell 0 (by omega)
        have c1 := hcell 1 (by omega)
        have c2 := hcell 2 (by omega)
        rw [Deep.add_add] at c0 c1 c2
        have hs := hspot (by omega)
        obtain ⟨b, off, spot⟩ := y
        simp at hs
        subst hs
        rw [WideShapes.add_plain] at c0 c1 c2
        have hb : D i = .agg [y0.1, y1.1, y2.1] := by simpa using congrArg Prod.fst hDi
        have hbs : s.size ≤ Rows.uptoBulk (D i) := by
          rw [hb]
          refine Nat.le_trans ?_ (bulk_agg (d := y2.1) (by simp))
          rw [ds, bulk_str]
          simp
        exact ⟨⟨k, nn, s⟩, ⟨b, off, rfl, by simpa using c0, by simpa [Nat.add_assoc] using c1, by simpa [Nat.add_assoc] using c2⟩, wf_i64 wn, hbs⟩
    haveI : Inhabited V := ⟨⟨0, 0, ByteArray.empty⟩⟩
    obtain ⟨f, hf'⟩ := choose_lt key
    obtain ⟨spare, hx1⟩ : ∃ spare, x.1 = .slice ((List.range len).map D) spare := ⟨_, by rw [hD]⟩
    have hel : ∀ i, i < len → Rows.uptoBulk (D i) ≤ Rows.uptoBulk x.1 := fun i hi => by
      rw [hx1]; exact bulk_elem (List.mem_map.2 ⟨i, List.mem_range.2 hi, rfl⟩)
    refine ⟨(List.range len).map f, by simp, ?_, ?_, ?_⟩
    · intro i hi
      have hi' : i < len := by simpa using hi
      obtain ⟨⟨b, off, e1, e2, e3, e4⟩, -⟩ := hf' i hi'
      exact ⟨b, off, e1, by simpa using e2, by simpa using e3, by simpa using e4⟩
    · have q2 := (bulk_slice ((List.range len).map D) spare).2
      rw [← hx1, List.length_map, List.length_range] at q2
      omega
    · intro v hv
      obtain ⟨i, hi, rfl⟩ := List.mem_map.1 hv
      have hi' := List.mem_range.1 hi
      obtain ⟨-, h1, h2⟩ := hf' i hi'
      exact ⟨h1, Nat.le_trans h2 (hel i hi')⟩
theorem trod_struct5 {P : Program} {H : Type} {enc : TypeId × Value → H} {w : World} {base : Nat} {spare : TypeId → Bool} {held : Bool} {t : TypeId} {f0 f1 f2 f3 f4 : Field} {fuel : Nat} {cs : List Value} {x : DataW H × List MemPlace} (ht : P.underlying t = some (.struct #[f0, f1, f2, f3, f4])) (h : DataW.trod enc P w base spare held fuel t cs = some x) :
    ∃ y0 y1 y2 y3 y4 n, x.1 = .agg [y0.1, y1.1, y2.1, y3.1, y4.1] ∧ cs.length = P.cellsOf t ∧ DataW.trod enc P w base spare held n f0.type ((cs.drop f0.offset).take (P.cellsOf f0.type)) = some y0 ∧
      DataW.trod enc P w base spare held n f1.type ((cs.drop f1.offset).take (P.cellsOf f1.type)) = some y1 ∧ DataW.trod enc P w base spare held n f2.type ((cs.drop f2.offset).take (P.cellsOf f2.type)) = some y2 ∧
      DataW.trod enc P w base spare held n f3.type ((cs.drop f3.offset).take (P.cellsOf f3.type)) = some y3 ∧ DataW.trod enc P w base spare held n f4.type ((cs.drop f4.offset).take (P.cellsOf f4.type)) = some y4 := by
  obtain ⟨xs, n, _, rfl, hl, hlen, hf⟩ := DataW.trod_struct ht h
  match xs, hlen with
  | [y0, y1, y2, y3, y4], _ => exact ⟨y0, y1, y2, y3, y4, n, by simp, hl, by simpa using hf 0 f0 rfl, by simpa using hf 1 f1 rfl, by simpa using hf 2 f2 rfl, by simpa using hf 3 f3 rfl, by simpa using hf 4 f4 rfl⟩
theorem wf_fits {f t : Int} (h1 : (Lit.int .i64 f).wf = true) (h2 : (Lit.int .i64 t).wf = true) : Fits ⟨f, t⟩ := ⟨h1, h2⟩
/-- A script that came in. -/
theorem ops_in {H : Type} {enc : TypeId × Value → H} {W : World} {a : Option Addr} {len cap fuel : Nat} {x : DataW H × List MemPlace}
    (hf : DataW.trod enc Tryz.prog W 0 (fun _ => true) true fuel 22 [.slice a len cap] = some x) (hbu : Rows.uptoBulk x.1 ≤ 1048576) :
    ∃ xs : List Ox, xs.length = len ∧ OLies W W.heap.size a xs ∧ len ≤ 1048576 := by
  rcases open_slice Tryz.underlying22 hf with ⟨hcs, _⟩ | ⟨y, l, c, m, n, D, Pl, hcs, _, hl, hm, hmm, hD, hx⟩
  · simp at hcs
    obtain ⟨rfl, rfl, rfl⟩ := hcs
    exact ⟨[], rfl, ⟨fun i hi => absurd hi (by simp), fun v hv => (by cases hv)⟩, by omega⟩
  · simp at hcs
    obtain ⟨rfl, rfl, rfl⟩ := hcs
    simp at hmm
    subst hmm
    rw [cellsOp] at hx
    have hspot : 0 < len → y.spot = none := by
      intro h0
      obtain ⟨cs', h1, h2⟩ := hx 0 (by omega)
      obtain ⟨_, hlen, hcell⟩ := World.cells?_some h1
      match cs', hlen with
      | [v0, v1, v2, v3, v4, v5], _ =>
        have c0 := hcell 0 (by omega)
        rw [Deep.add_add] at c0
        obtain ⟨b, off, spot⟩ := y
        simpa [Addr.add] using World.cell?_spot c0
    obtain ⟨spare, hx1⟩ : ∃ spare, x.1 = .slice ((List.range len).map D) spare := ⟨_, by rw [hD]⟩
    have hel : ∀ i, i < len → Rows.uptoBulk (D i) ≤ 1048576 := fun i hi => by
      refine Nat.le_trans ?_ hbu
      rw [hx1]; exact bulk_elem (List.mem_map.2 ⟨i, List.mem_range.2 hi, rfl⟩)
    have key : ∀ i, i < len → ∃ v : Ox, (∃ b off, some y = some (⟨b, off, none⟩ : Addr) ∧ b < W.heap.size ∧ W.cell? ⟨b, off + i * 6, none⟩ = some (.int .i64 v.kd) ∧ W.cell? ⟨b, off + i * 6 + 1, none⟩ = some (.slice v.ka v.key.length v.kc) ∧ W.cell? ⟨b, off + i * 6 + 2, none⟩ = some (.int .i64 v.wn.f) ∧ W.cell? ⟨b, off + i * 6 + 3, none⟩ = some (.int .i64 v.wn.t) ∧ W.cell? ⟨b, off + i * 6 + 4, none⟩ = some (.slice v.da v.d.length v.dc) ∧ W.cell? ⟨b, off + i * 6 + 5, none⟩ = some (.int .i64 v.tm)) ∧ OEnt W W.heap.size v := by
      intro i hi
      obtain ⟨cs', h1, h2⟩ := hx i (by omega)
      obtain ⟨_, hlen, hcell⟩ := World.cells?_some h1
      obtain ⟨y0, y1, y2, y3, y4, n', hb, _, g0, g1, g2, g3, g4⟩ := trod_struct5 Tryz.underlying41 h2
      match cs', hlen with
      | [v0, v1, v2, v3, v4, v5], _ =>
        simp [cellsInt, cellsVals, cellsWn, cellsB, cellsI64] at g0 g1 g2 g3 g4
        obtain ⟨z0, e0, -, -⟩ := DataW.trod_int Tryz.underlying3 g0
        obtain ⟨y5, y6, n2, -, -, f0, f1⟩ := trod_struct2 Tryz.underlying38 g2
        simp [cellsI64] at f0 f1
        obtain ⟨z2, e2, -, w2⟩ := DataW.trod_int Tryz.underlying2 f0
        obtain ⟨z3, e3, -, w3⟩ := DataW.trod_int Tryz.underlying2 f1
        obtain ⟨z5, e5, -, -⟩ := DataW.trod_int Tryz.underlying2 g4
        have hk : ∃ a' len' cap', v1 = .slice a' len' cap' := by
          rcases open_slice Tryz.underlying36 g1 with ⟨hcs, _⟩ | ⟨_, _, _, _, _, _, _, hcs, _⟩
          · simp at hcs; exact ⟨_, _, _, hcs⟩
          · simp at hcs; exact ⟨_, _, _, hcs⟩
        have hd : ∃ a' len' cap', v4 = .slice a' len' cap' := by
          rcases open_slice Tryz.underlying39 g3 with ⟨hcs, _⟩ | ⟨_, _, _, _, _, _, _, hcs, _⟩
          · simp at hcs; exact ⟨_, _, _, hcs⟩
          · simp at hcs; exact ⟨_, _, _, hcs⟩
        obtain ⟨ka, kl, kc, rfl⟩ := hk
        obtain ⟨da, dl, dc, rfl⟩ := hd
        obtain ⟨vs, hvl, hv1, hv2, hv3⟩ := vals_in g1
        obtain ⟨ff, lf, lc, sz⟩ := bytes_in g3
        subst hvl
        simp at e0 e2 e3 e5
        subst e0 e2 e3 e5
        have c0 := hcell 0 (by omega)
        have c1 := hcell 1 (by omega)
        have c2 := hcell 2 (by omega)
        have c3 := hcell 3 (by omega)
        have c4 := hcell 4 (by omega)
        have c5 := hcell 5 (by omega)
        rw [Deep.add_add] at c0 c1 c2 c3 c4 c5
        have hs := hspot (by omega)
        obtain ⟨b, off, spot⟩ := y
        simp at hs
        subst hs
        rw [WideShapes.add_plain] at c0 c1 c2 c3 c4 c5
        have hbi := hel i hi
        have hb' : D i = .agg [y0.1, y1.1, y2.1, y3.1, y4.1] := hb
        have hby1 : Rows.uptoBulk y1.1 ≤ 1048576 := Nat.le_trans (by rw [hb']; exact bulk_agg (by simp)) hbi
        have hby3 : Rows.uptoBulk y3.1 ≤ 1048576 := Nat.le_trans (by rw [hb']; exact bulk_agg (by simp)) hbi
        have hdl : dl ≤ 1048576 := by
          rcases sz with ⟨h, -, -⟩ | ⟨el, sp, e, h⟩
          · omega
          · rw [e] at hby3
            have := (bulk_slice el sp).2
            omega
        have hbl := Wr.blist_len ff dl
        have hblt := World.block_lt_of_cell? _ _ c0
        refine ⟨⟨z0, ka, vs, kc, ⟨z2, z3⟩, da, Wr.blist ff dl, dc, z5⟩, ⟨b, off, rfl, hblt, by simpa using c0, by simpa [Nat.add_assoc] using c1, by simpa [Nat.add_assoc] using c2, by simpa [Nat.add_assoc] using c3, ?_, by simpa [Nat.add_assoc] using c5⟩, ?_⟩
        · rw [hbl]; simpa [Nat.add_assoc] using c4
        · refine ⟨hv1, fun q hq hp => ?_, fun j hj => ?_, fun q hq hp => ?_, fun v hv => ⟨(hv3 v hv).1.1, (hv3 v hv).1.2, by have := (hv3 v hv).2; omega⟩, wf_fits w2 w3, by simp only; omega, by simp only; rw [hbl]; exact hdl⟩
          · obtain ⟨b', o', e', h', -⟩ := hv1 0 hp
            simp only at hq
            rw [hq] at e'
            cases e'
            exact World.block_lt_of_cell? _ _ h'
          · simp only at hj ⊢
            rw [hbl] at hj
            obtain ⟨b', o', e', h'⟩ := lf j hj
            refine ⟨b', o', e', ?_⟩
            rw [h']
            simp [Wr.lat, Wr.blist, hj]
          · simp only at hp hq
            rw [hbl] at hp
            obtain ⟨b', o', e', h'⟩ := lf 0 hp
            rw [hq] at e'
            cases e'
            exact World.block_lt_of_cell? _ _ h'
    haveI : Inhabited Ox := ⟨⟨0, none, [], 0, ⟨0, 0⟩, none, [], 0, 0⟩⟩
    obtain ⟨f, hf'⟩ := choose_lt key
    refine ⟨(List.range len).map f, by simp, ⟨?_, ?_⟩, ?_⟩
    · intro i hi
      have hi' : i < len := by simpa using hi
      obtain ⟨⟨b, off, e1, e2, e3, e4, e5, e6, e7, e8⟩, -⟩ := hf' i hi'
      exact ⟨b, off, e1, e2, by simpa using e3, by simpa using e4, by simpa using e5, by simpa using e6, by simpa using e7, by simpa using e8⟩
    · intro v hv
      obtain ⟨i, hi, rfl⟩ := List.mem_map.1 hv
      exact (hf' i (List.mem_range.1 hi)).2
    · have q2 := (bulk_slice ((List.range len).map D) spare).2
      rw [← hx1, List.length_map, List.length_range] at q2
      omega
end Go.Proofs.YtobhccmnlmlapaaGreatDoor
