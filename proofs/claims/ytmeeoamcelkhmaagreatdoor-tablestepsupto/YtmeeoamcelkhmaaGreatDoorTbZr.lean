import Derived.Test.YtmeeoamcelkhmaaGreatDoorRows
import Derived.Test.YtmeeoamcelkhmaaGreatDoorBlk
import Derived.Test.YtmeeoamcelkhmaaGreatDoorTbZ
import Derived.Lib.SmallJoins
import Derived.WalkKit
import Derived.ProofKit
import Derived.OpenShut
import Derived.ShutString
import Derived.ChangeOld
import Derived.ChangeSlices
import Derived.Below
import Derived.Deep.Slices
import Derived.Deep.Strs
import Derived.SizedLaws
namespace Go.Proofs.YtmeeoamcelkhmaaGreatDoor
open Go.ChangeShapes Go.WideShapes Go.ChangeAt Go.RowKit
open Go.Deep Go.Joins
set_option linter.unusedVariables false
set_option maxRecDepth 100000

theorem own : ownKnob Tryz.prog.godebug = none := by kernel_rfl
theorem laidOut : laidOutB Tryz.prog = true := by kernel_rfl
theorem cellsVal : Tryz.prog.cellsOf 43 = 3 := by kernel_rfl
theorem cellsRow : Tryz.prog.cellsOf 34 = 2 := by kernel_rfl
theorem cellsKind : Tryz.prog.cellsOf 41 = 1 := by kernel_rfl
theorem cellsVals : Tryz.prog.cellsOf 32 = 1 := by kernel_rfl
theorem cellsI64 : Tryz.prog.cellsOf 2 = 1 := by kernel_rfl
theorem cellsStr : Tryz.prog.cellsOf 9 = 1 := by kernel_rfl

theorem vals_in {H : Type} {enc : TypeId × Value → H} {W : World} {a : Option Addr} {len cap fuel : Nat} {x : DataW H × List MemPlace}
    (hf : DataW.trod enc Tryz.prog W 0 (fun _ => true) true fuel 32 [.slice a len cap] = some x) :
    ∃ vs : List V, vs.length = len ∧ VLies W a vs ∧ (len = 0 ∨ ∃ elems spare, x.1 = .slice elems spare ∧ elems.length = len ∧ ∀ v ∈ vs, ∃ d1 d2 bs, DataW.agg [d1, d2, .lit (.string bs)] ∈ elems ∧ bs.length = v.s.size) := by
  rcases open_slice Tryz.underlying32 hf with ⟨hcs, _⟩ | ⟨y, l, c, m, n, D, Pl, hcs, _, hl, hm, hmm, hD, hx⟩
  · simp at hcs
    obtain ⟨rfl, rfl, rfl⟩ := hcs
    exact ⟨[], rfl, fun i hi => absurd hi (by simp), .inl rfl⟩
  · simp at hcs
    obtain ⟨rfl, rfl, rfl⟩ := hcs
    simp at hmm
    subst hmm
    rw [cellsVal] at hx
    have hspot : 0 < len → y.spot = none := by
      intro h0
      obtain ⟨cs', h1, h2⟩ := hx 0 (by omega)
      obtain ⟨_, hlen, hcell⟩ := World.cells?_some h1
      match cs', hlen with
      | [v0, v1, v2], _ =>
        have c0 := hcell 0 (by omega)
        rw [Deep.add_add] at c0
        obtain ⟨b, off, spot⟩ := y
        simpa [Addr.add] using World.cell?_spot c0
    have key : ∀ i, i < len → ∃ v : V, (∃ b off, some y = some (⟨b, off, none⟩ : Addr) ∧ W.cell? ⟨b, off + i * 3, none⟩ = some (.int .i64 v.k) ∧ W.cell? ⟨b, off + i * 3 + 1, none⟩ = some (.int .i64 v.n) ∧ W.cell? ⟨b, off + i * 3 + 2, none⟩ = some (.string v.s)) ∧ ∃ d1 d2 bs, D i = .agg [d1, d2, .lit (.string bs)] ∧ bs.length = v.s.size := by
      intro i hi
      obtain ⟨cs', h1, h2⟩ := hx i (by omega)
      obtain ⟨_, hlen, hcell⟩ := World.cells?_some h1
      obtain ⟨y0, y1, y2, n', hDi, _, g0, g1, g2⟩ := trod_struct3 Tryz.underlying43 h2
      match cs', hlen with
      | [v0, v1, v2], _ =>
        simp [cellsKind, cellsI64, cellsStr] at g0 g1 g2
        obtain ⟨k, e0, _, _⟩ := DataW.trod_int Tryz.underlying41 g0
        obtain ⟨nn, e1, _, _⟩ := DataW.trod_int Tryz.underlying2 g1
        obtain ⟨s, e2, ds, _⟩ := DataW.trod_string Tryz.underlying9 g2
        simp at e0 e1 e2
        subst e0 e1 e2
        have c0 := hcell 0 (by omega)
        have c1 := hcell 1 (by omega)
        have c2 := hcell 2 (by omega)
        rw [Deep.add_add] at c0 c1 c2
        have hs := hspot (by omega)
        obtain ⟨b, off, spot⟩ := y
        simp at hs
        subst hs
        rw [WideShapes.add_plain] at c0 c1 c2
        have hb : D i = .agg [y0.1, y1.1, y2.1] := by simpa using congrArg Prod.fst hDi
        refine ⟨⟨k, nn, s⟩, ⟨b, off, rfl, by simpa using c0, by simpa [Nat.add_assoc] using c1, by simpa [Nat.add_assoc] using c2⟩, y0.1, y1.1, _, by rw [hb, ds], by simp⟩
    haveI : Inhabited V := ⟨⟨0, 0, ByteArray.empty⟩⟩
    obtain ⟨f, hf'⟩ := choose_lt key
    refine ⟨(List.range len).map f, by simp, ?_, .inr ⟨_, _, by rw [hD], by simp, ?_⟩⟩
    · intro i hi
      have hi' : i < len := by simpa using hi
      obtain ⟨⟨b, off, e1, e2, e3, e4⟩, -⟩ := hf' i hi'
      exact ⟨b, off, e1, by simpa using e2, by simpa using e3, by simpa using e4⟩
    · intro v hv
      obtain ⟨i, hi, rfl⟩ := List.mem_map.1 hv
      have hi' := List.mem_range.1 hi
      obtain ⟨-, d1, d2, bs, h1, h2⟩ := hf' i hi'
      exact ⟨d1, d2, bs, List.mem_map.2 ⟨i, List.mem_range.2 hi', h1⟩, h2⟩

theorem rows_in {H : Type} {enc : TypeId × Value → H} {W : World} {a : Option Addr} {len cap fuel : Nat} {x : DataW H × List MemPlace}
    (hf : DataW.trod enc Tryz.prog W 0 (fun _ => true) true fuel 28 [.slice a len cap] = some x) :
    ∃ rs : List Rw, rs.length = len ∧ RLies W a rs ∧ (len = 0 ∨ ∃ elems spare, x.1 = .slice elems spare ∧ elems.length = len ∧ ∀ r ∈ rs, r.vs.length = 0 ∨ ∃ d es sp, DataW.agg [d, .slice es sp] ∈ elems ∧ es.length = r.vs.length ∧ ∀ v ∈ r.vs, ∃ d1 d2 bs, DataW.agg [d1, d2, .lit (.string bs)] ∈ es ∧ bs.length = v.s.size) := by
  rcases open_slice Tryz.underlying28 hf with ⟨hcs, _⟩ | ⟨y, l, c, m, n, D, Pl, hcs, _, hl, hm, hmm, hD, hx⟩
  · simp at hcs
    obtain ⟨rfl, rfl, rfl⟩ := hcs
    exact ⟨[], rfl, fun i hi => absurd hi (by simp), .inl rfl⟩
  · simp at hcs
    obtain ⟨rfl, rfl, rfl⟩ := hcs
    simp at hmm
    subst hmm
    rw [cellsRow] at hx
    have hspot : 0 < len → y.spot = none := by
      intro h0
      obtain ⟨cs', h1, h2⟩ := hx 0 (by omega)
      obtain ⟨_, hlen, hcell⟩ := World.cells?_some h1
      match cs', hlen with
      | [v0, v1], _ =>
        have c0 := hcell 0 (by omega)
        rw [Deep.add_add] at c0
        obtain ⟨b, off, spot⟩ := y
        simpa [Addr.add] using World.cell?_spot c0
    have key : ∀ i, i < len → ∃ r : Rw, (∃ b off av cv, some y = some (⟨b, off, none⟩ : Addr) ∧ W.cell? ⟨b, off + i * 2, none⟩ = some (.int .i64 r.t) ∧ W.cell? ⟨b, off + i * 2 + 1, none⟩ = some (.slice av r.vs.length cv) ∧ VLies W av r.vs) ∧ (r.vs.length = 0 ∨ ∃ d es sp, D i = .agg [d, .slice es sp] ∧ es.length = r.vs.length ∧ ∀ v ∈ r.vs, ∃ d1 d2 bs, DataW.agg [d1, d2, .lit (.string bs)] ∈ es ∧ bs.length = v.s.size) := by
      intro i hi
      obtain ⟨cs', h1, h2⟩ := hx i (by omega)
      obtain ⟨_, hlen, hcell⟩ := World.cells?_some h1
      obtain ⟨y0, y1, n', hDi, _, g0, g1⟩ := trod_struct2 Tryz.underlying34 h2
      match cs', hlen with
      | [v0, v1], _ =>
        simp [cellsVals, cellsI64] at g0 g1
        obtain ⟨t, e0, d0, wt⟩ := DataW.trod_int Tryz.underlying2 g0
        have hsl : ∃ a' len' cap', v1 = .slice a' len' cap' := by
          rcases open_slice Tryz.underlying32 g1 with ⟨hcs, _⟩ | ⟨_, _, _, _, _, _, _, hcs, _⟩
          · simp at hcs; exact ⟨_, _, _, hcs⟩
          · simp at hcs; exact ⟨_, _, _, hcs⟩
        obtain ⟨a', len', cap', rfl⟩ := hsl
        obtain ⟨vs, hvl, hv1, hv2⟩ := vals_in g1
        simp at e0
        subst e0
        subst hvl
        have c0 := hcell 0 (by omega)
        have c1 := hcell 1 (by omega)
        rw [Deep.add_add] at c0 c1
        have hs := hspot (by omega)
        obtain ⟨b, off, spot⟩ := y
        simp at hs
        subst hs
        rw [WideShapes.add_plain] at c0 c1
        have hb : D i = .agg [y0.1, y1.1] := by simpa using congrArg Prod.fst hDi
        refine ⟨⟨t, vs⟩, ⟨b, off, a', cap', rfl, by simpa using c0, by simpa [Nat.add_assoc] using c1, hv1⟩, ?_⟩
        rcases hv2 with h | ⟨es, sp, h1, h2, h3⟩
        · exact .inl h
        · exact .inr ⟨y0.1, es, sp, by rw [hb, h1], h2, h3⟩
    haveI : Inhabited Rw := ⟨⟨0, []⟩⟩
    obtain ⟨f, hf'⟩ := choose_lt key
    refine ⟨(List.range len).map f, by simp, ?_, .inr ⟨_, _, by rw [hD], by simp, ?_⟩⟩
    · intro i hi
      have hi' : i < len := by simpa using hi
      obtain ⟨b, off, av, cv, e1, e2, e3, e4⟩ := (hf' i hi').1
      exact ⟨b, off, av, cv, e1, by simpa using e2, by simpa using e3, by simpa using e4⟩
    · intro r hr
      obtain ⟨i, hi, rfl⟩ := List.mem_map.1 hr
      have hi' := List.mem_range.1 hi
      rcases (hf' i hi').2 with h | ⟨d, es, sp, h1, h2⟩
      · exact .inl h
      · exact .inr ⟨d, es, sp, List.mem_map.2 ⟨i, List.mem_range.2 hi', h1⟩, h2⟩


theorem cellsOp : Tryz.prog.cellsOf 30 = 5 := by kernel_rfl
theorem cellsRows : Tryz.prog.cellsOf 28 = 1 := by kernel_rfl
theorem bulk_agg {H : Type} {d : DataW H} {l : List (DataW H)} (h : d ∈ l) : Rows.uptoBulk d ≤ Rows.uptoBulk (.agg l) := by
  have := bulk_mem h
  rw [Rows.uptoBulk]; omega
theorem bulk_elem {H : Type} {d : DataW H} {l s : List (DataW H)} (h : d ∈ l) : Rows.uptoBulk d ≤ Rows.uptoBulk (.slice l s) := by
  have := bulk_mem h
  have := (bulk_slice l s).1
  omega
theorem bulk_sum {H : Type} (D : Nat → DataW H) (f : Nat → Nat) : ∀ l : List Nat, (∀ i ∈ l, f i ≤ Rows.uptoBulk (D i)) → (l.map f).sum ≤ Rows.uptoBulkAll (l.map D)
  | [], _ => by simp
  | i :: l, h => by
    have h1 := bulk_sum D f l (fun k hk => h k (List.mem_cons_of_mem _ hk))
    have h2 := h i (List.mem_cons_self ..)
    rw [List.map_cons, List.sum_cons, List.map_cons, Rows.uptoBulkAll]
    omega
theorem ops_in {H : Type} {enc : TypeId × Value → H} {W : World} {a : Option Addr} {len cap fuel : Nat} {x : DataW H × List MemPlace}
    (hf : DataW.trod enc Tryz.prog W 0 (fun _ => true) true fuel 22 [.slice a len cap] = some x) :
    ∃ xs : List Sop, xs.length = len ∧ SLies W a xs ∧ (∀ s ∈ xs, Fits s.x ∧ RLies W s.ra s.rs ∧ (s.ra = none → s.rs.length = 0 ∧ s.rc = 0) ∧ ∀ r ∈ s.rs, r.vs.length ≤ Rows.uptoBulk x.1) ∧ bulkR xs ≤ Rows.uptoBulk x.1 ∧ len ≤ Rows.uptoBulk x.1 := by
  rcases open_slice Tryz.underlying22 hf with ⟨hcs, _⟩ | ⟨y, l, c, m, n, D, Pl, hcs, _, hl, hm, hmm, hD, hx⟩
  · simp at hcs
    obtain ⟨rfl, rfl, rfl⟩ := hcs
    exact ⟨[], rfl, fun i hi => absurd hi (by simp), fun v hv => (by cases hv), by simp [bulkR], Nat.zero_le _⟩
  · simp at hcs
    obtain ⟨rfl, rfl, rfl⟩ := hcs
    simp at hmm
    subst hmm
    rw [cellsOp] at hx
    have hspot : 0 < len → y.spot = none := by
      intro h0
      obtain ⟨cs', h1, h2⟩ := hx 0 (by omega)
      obtain ⟨_, hlen, hcell⟩ := World.cells?_some h1
      match cs', hlen with
      | [v0, v1, v2, v3, v4], _ =>
        have c0 := hcell 0 (by omega)
        rw [Deep.add_add] at c0
        obtain ⟨b, off, spot⟩ := y
        simpa [Addr.add] using World.cell?_spot c0
    have key : ∀ i, i < len → ∃ v : Sop, (∃ b off, some y = some (⟨b, off, none⟩ : Addr) ∧ W.cell? ⟨b, off + i * 5, none⟩ = some (.int .i64 v.kd) ∧ W.cell? ⟨b, off + i * 5 + 1, none⟩ = some (.int .i64 v.x.m) ∧ W.cell? ⟨b, off + i * 5 + 2, none⟩ = some (.string v.x.sn) ∧ W.cell? ⟨b, off + i * 5 + 3, none⟩ = some (.int .i64 v.x.tk) ∧ W.cell? ⟨b, off + i * 5 + 4, none⟩ = some (.slice v.ra v.rs.length v.rc)) ∧
        (Fits v.x ∧ RLies W v.ra v.rs ∧ (v.ra = none → v.rs.length = 0 ∧ v.rc = 0) ∧ ∀ r ∈ v.rs, r.vs.length ≤ Rows.uptoBulk (D i)) ∧ v.rs.length ≤ Rows.uptoBulk (D i) := by
      intro i hi
      obtain ⟨cs', h1, h2⟩ := hx i (by omega)
      obtain ⟨_, hlen, hcell⟩ := World.cells?_some h1
      obtain ⟨y0, y1, y2, n', hDi, _, g0, g1, g2⟩ := trod_struct3 Tryz.underlying30 h2
      match cs', hlen with
      | [v0, v1, v2, v3, v4], _ =>
        simp [cellsOfI, cellsOfV, cellsRows] at g0 g1 g2
        obtain ⟨z0, e0, d0, w0⟩ := DataW.trod_int Tryz.underlying3 g0
        obtain ⟨x0, x1, x2, n2, hDx, _, f0, f1, f2⟩ := trod_struct3 Tryz.underlying27 g1
        simp [cellsOfI, cellsOfS] at f0 f1 f2
        obtain ⟨z1, e1, d1, w1⟩ := DataW.trod_int Tryz.underlying3 f0
        obtain ⟨s, e2, ds, hsz⟩ := DataW.trod_string Tryz.underlying9 f1
        obtain ⟨z3, e3, d3, w3⟩ := DataW.trod_int Tryz.underlying3 f2
        have hsl : ∃ a' len' cap', v4 = .slice a' len' cap' ∧ (a' = none → len' = 0 ∧ cap' = 0) := by
          rcases open_slice Tryz.underlying28 g2 with ⟨hcs, _⟩ | ⟨_, l', c', _, _, _, _, hcs, _⟩
          · simp at hcs; exact ⟨_, _, _, hcs, fun _ => ⟨rfl, rfl⟩⟩
          · simp at hcs; exact ⟨_, _, _, hcs, fun h => by cases h⟩
        obtain ⟨a', len', cap', rfl, hnil⟩ := hsl
        obtain ⟨rs, hrl, hrlies, hrsz⟩ := rows_in g2
        subst hrl
        simp at e0 e1 e2 e3
        subst e0 e1 e2 e3
        have c0 := hcell 0 (by omega)
        have c1 := hcell 1 (by omega)
        have c2 := hcell 2 (by omega)
        have c3 := hcell 3 (by omega)
        have c4 := hcell 4 (by omega)
        rw [Deep.add_add] at c0 c1 c2 c3 c4
        have hs := hspot (by omega)
        obtain ⟨b, off, spot⟩ := y
        simp at hs
        subst hs
        rw [WideShapes.add_plain] at c0 c1 c2 c3 c4
        have hb : D i = .agg [y0.1, y1.1, y2.1] := by simpa using congrArg Prod.fst hDi
        have hby : Rows.uptoBulk y2.1 ≤ Rows.uptoBulk (D i) := by rw [hb]; exact bulk_agg (by simp)
        have hrows : rs.length ≤ Rows.uptoBulk y2.1 ∧ ∀ r ∈ rs, r.vs.length ≤ Rows.uptoBulk y2.1 := by
          rcases hrsz with h | ⟨el, sp, e, h3, h4⟩
          · exact ⟨by omega, fun r hr => by rw [List.eq_nil_of_length_eq_zero h] at hr; cases hr⟩
          · rw [e]
            have q := (bulk_slice el sp).2
            refine ⟨by omega, fun r hr => ?_⟩
            rcases h4 r hr with h | ⟨d, es, sp2, h5, h6, -⟩
            · omega
            · have q2 := (bulk_slice es sp2).2
              have q3 := bulk_agg (d := DataW.slice es sp2) (l := [d, .slice es sp2]) (by simp)
              have q4 := bulk_elem (s := sp) h5
              omega
        refine ⟨⟨z0, ⟨z1, s, z3⟩, a', rs, cap'⟩, ⟨b, off, rfl, by simpa using c0, by simpa [Nat.add_assoc] using c1, by simpa [Nat.add_assoc] using c2, by simpa [Nat.add_assoc] using c3, by simpa [Nat.add_assoc] using c4⟩, ⟨⟨w1, hsz, w3⟩, hrlies, hnil, fun r hr => Nat.le_trans (hrows.2 r hr) hby⟩, Nat.le_trans hrows.1 hby⟩
    haveI : Inhabited Sop := ⟨⟨0, ⟨0, ByteArray.empty, 0⟩, none, [], 0⟩⟩
    obtain ⟨f, hf'⟩ := choose_lt key
    obtain ⟨spare, hx1⟩ : ∃ spare, x.1 = .slice ((List.range len).map D) spare := ⟨_, by rw [hD]⟩
    have hel : ∀ i, i < len → Rows.uptoBulk (D i) ≤ Rows.uptoBulk x.1 := fun i hi => by
      rw [hx1]; exact bulk_elem (List.mem_map.2 ⟨i, List.mem_range.2 hi, rfl⟩)
    refine ⟨(List.range len).map f, by simp, ?_, ?_, ?_, ?_⟩
    · intro i hi
      have hi' : i < len := by simpa using hi
      obtain ⟨⟨b, off, e1, e2, e3, e4, e5, e6⟩, -⟩ := hf' i hi'
      exact ⟨b, off, e1, by simpa using e2, by simpa using e3, by simpa using e4, by simpa using e5, by simpa using e6⟩
    · intro v hv
      obtain ⟨i, hi, rfl⟩ := List.mem_map.1 hv
      have hi' := List.mem_range.1 hi
      obtain ⟨-, ⟨q1, q2, q3, q4⟩, -⟩ := hf' i hi'
      exact ⟨q1, q2, q3, fun r hr => Nat.le_trans (q4 r hr) (hel i hi')⟩
    · have q := bulk_sum D (fun i => (f i).rs.length) (List.range len) (fun i hi => (hf' i (List.mem_range.1 hi)).2.2)
      have q2 := (bulk_slice ((List.range len).map D) spare).1
      rw [← hx1] at q2
      unfold bulkR
      rw [List.map_map]
      have : ((List.range len).map ((fun s : Sop => s.rs.length) ∘ f)).sum = ((List.range len).map fun i => (f i).rs.length).sum := rfl
      omega
    · have q2 := (bulk_slice ((List.range len).map D) spare).2
      rw [← hx1, List.length_map, List.length_range] at q2
      omega
end Go.Proofs.YtmeeoamcelkhmaaGreatDoor
