import Derived.Test.YtpghfopbnicpmaaDoorRows
import Derived.Test.YtpghfopbnicpmaaDoorGuH
import Derived.Lib.SmallJoins
import Derived.WalkKit
import Derived.ProofKit
import Derived.OpenShut
import Derived.ShutString
import Derived.ChangeOld
import Derived.Below
import Derived.Deep.Slices
import Derived.Deep.Strs
import Derived.SizedLaws
namespace Go.Proofs.YtpghfopbnicpmaaDoor
open Go.ChangeShapes Go.WideShapes Go.ChangeAt Go.RowKit
open Go.Deep
set_option linter.unusedVariables false
set_option maxRecDepth 100000

theorem own : ownKnob Tryd.prog.godebug = none := by kernel_rfl
theorem laidOut : laidOutB Tryd.prog = true := by kernel_rfl
theorem cellsVal : Tryd.prog.cellsOf 48 = 3 := by kernel_rfl
theorem cellsRow : Tryd.prog.cellsOf 34 = 2 := by kernel_rfl
theorem cellsKind : Tryd.prog.cellsOf 46 = 1 := by kernel_rfl
theorem cellsInt : Tryd.prog.cellsOf 3 = 1 := by kernel_rfl
theorem cellsElem : Tryd.prog.cellsOf 36 = 5 := by kernel_rfl
theorem cellsIn : Tryd.prog.cellsOf 38 = 6 := by kernel_rfl
theorem cellsVals : Tryd.prog.cellsOf 32 = 1 := by kernel_rfl
theorem cellsI64 : Tryd.prog.cellsOf 2 = 1 := by kernel_rfl
theorem cellsStr : Tryd.prog.cellsOf 9 = 1 := by kernel_rfl
theorem bytesVal : Tryd.prog.bytesOf 48 = 32 := by kernel_rfl
theorem bytesIn : Tryd.prog.bytesOf 38 = 64 := by kernel_rfl
theorem reach_eq : reachBytes = 140737488351232 := rfl

/-- What a part weighs is among what all weigh. -/
theorem weigh_part {H : Type} {P : Program} {e : TypeId} {d : DataW H} {n : Nat} (hn : n ∈ d.weights P e) (l : List (DataW H)) (hd : d ∈ l) : n ∈ DataW.weightsAll P e l := by
  induction l with
  | nil => cases hd
  | cons x r ih =>
    rw [DataW.weightsAll, List.mem_append]
    cases hd with
    | head => exact .inl hn
    | tail _ h => exact .inr (ih h)

theorem vals_in {H : Type} {enc : TypeId × Value → H} {W : World} {a : Option Addr} {len cap fuel : Nat} {x : DataW H × List MemPlace}
    (hf : DataW.trod enc Tryd.prog W 0 (fun _ => true) true fuel 32 [.slice a len cap] = some x) :
    ∃ vs : List V, vs.length = len ∧ VLies W a vs ∧ (len = 0 ∨ ∃ elems spare, x.1 = .slice elems spare ∧ elems.length = len ∧ ∀ v ∈ vs, ∃ d1 d2 bs, DataW.agg [d1, d2, .lit (.string bs)] ∈ elems ∧ bs.length = v.s.size) := by
  rcases open_slice Tryd.underlying32 hf with ⟨hcs, _⟩ | ⟨y, l, c, m, n, D, Pl, hcs, _, hl, hm, hmm, hD, hx⟩
  · simp at hcs
    obtain ⟨rfl, rfl, rfl⟩ := hcs
    exact ⟨[], rfl, fun i hi => absurd hi (by simp), .inl rfl⟩
  · simp at hcs
    obtain ⟨rfl, rfl, rfl⟩ := hcs
    simp at hmm
    subst hmm
    rw [cellsVal] at hx
    have hspot : 0 < len → y.spot = none := by
      intro h0
      obtain ⟨cs', h1, h2⟩ := hx 0 (by omega)
      obtain ⟨_, hlen, hcell⟩ := World.cells?_some h1
      match cs', hlen with
      | [v0, v1, v2], _ =>
        have c0 := hcell 0 (by omega)
        rw [Deep.add_add] at c0
        obtain ⟨b, off, spot⟩ := y
        simpa [Addr.add] using World.cell?_spot c0
    have key : ∀ i, i < len → ∃ v : V, (∃ b off, some y = some (⟨b, off, none⟩ : Addr) ∧ W.cell? ⟨b, off + i * 3, none⟩ = some (.int .i64 v.k) ∧ W.cell? ⟨b, off + i * 3 + 1, none⟩ = some (.int .i64 v.n) ∧ W.cell? ⟨b, off + i * 3 + 2, none⟩ = some (.string v.s)) ∧ ∃ d1 d2 bs, D i = .agg [d1, d2, .lit (.string bs)] ∧ bs.length = v.s.size := by
      intro i hi
      obtain ⟨cs', h1, h2⟩ := hx i (by omega)
      obtain ⟨_, hlen, hcell⟩ := World.cells?_some h1
      obtain ⟨y0, y1, y2, n', hDi, _, g0, g1, g2⟩ := trod_struct3 Tryd.underlying48 h2
      match cs', hlen with
      | [v0, v1, v2], _ =>
        simp [cellsKind, cellsI64, cellsStr] at g0 g1 g2
        obtain ⟨k, e0, _, _⟩ := DataW.trod_int Tryd.underlying46 g0
        obtain ⟨nn, e1, _, _⟩ := DataW.trod_int Tryd.underlying2 g1
        obtain ⟨s, e2, ds, _⟩ := DataW.trod_string Tryd.underlying9 g2
        simp at e0 e1 e2
        subst e0 e1 e2
        have c0 := hcell 0 (by omega)
        have c1 := hcell 1 (by omega)
        have c2 := hcell 2 (by omega)
        rw [Deep.add_add] at c0 c1 c2
        have hs := hspot (by omega)
        obtain ⟨b, off, spot⟩ := y
        simp at hs
        subst hs
        rw [WideShapes.add_plain] at c0 c1 c2
        have hb : D i = .agg [y0.1, y1.1, y2.1] := by simpa using congrArg Prod.fst hDi
        refine ⟨⟨k, nn, s⟩, ⟨b, off, rfl, by simpa using c0, by simpa [Nat.add_assoc] using c1, by simpa [Nat.add_assoc] using c2⟩, y0.1, y1.1, _, by rw [hb, ds], by simp⟩
    haveI : Inhabited V := ⟨⟨0, 0, ByteArray.empty⟩⟩
    obtain ⟨f, hf'⟩ := choose_lt key
    refine ⟨(List.range len).map f, by simp, ?_, .inr ⟨_, _, by rw [hD], by simp, ?_⟩⟩
    · intro i hi
      have hi' : i < len := by simpa using hi
      obtain ⟨⟨b, off, e1, e2, e3, e4⟩, -⟩ := hf' i hi'
      exact ⟨b, off, e1, by simpa using e2, by simpa using e3, by simpa using e4⟩
    · intro v hv
      obtain ⟨i, hi, rfl⟩ := List.mem_map.1 hv
      have hi' := List.mem_range.1 hi
      obtain ⟨-, d1, d2, bs, h1, h2⟩ := hf' i hi'
      exact ⟨d1, d2, bs, List.mem_map.2 ⟨i, List.mem_range.2 hi', h1⟩, h2⟩


theorem ins_in {H : Type} {enc : TypeId × Value → H} {W : World} {a : Option Addr} {len cap fuel : Nat} {x : DataW H × List MemPlace}
    (hf : DataW.trod enc Tryd.prog W 0 (fun _ => true) true fuel 22 [.slice a len cap] = some x) :
    ∃ xs : List Ie, xs.length = len ∧ ILies W a xs ∧ (len = 0 ∨ ∃ elems spare, x.1 = .slice elems spare ∧ elems.length = len ∧ ∀ r ∈ xs, r.vs.length = 0 ∨ ∃ d0 d1 d2 d3 d4 es sp, DataW.agg [d0, .agg [d1, .agg [d2, .slice es sp], d3, d4]] ∈ elems ∧ es.length = r.vs.length) := by
  rcases open_slice Tryd.underlying22 hf with ⟨hcs, _⟩ | ⟨y, l, c, m, n, D, Pl, hcs, _, hl, hm, hmm, hD, hx⟩
  · simp at hcs
    obtain ⟨rfl, rfl, rfl⟩ := hcs
    exact ⟨[], rfl, fun i hi => absurd hi (by simp), .inl rfl⟩
  · simp at hcs
    obtain ⟨rfl, rfl, rfl⟩ := hcs
    simp at hmm
    subst hmm
    rw [cellsIn] at hx
    have hspot : 0 < len → y.spot = none := by
      intro h0
      obtain ⟨cs', h1, h2⟩ := hx 0 (by omega)
      obtain ⟨_, hlen, hcell⟩ := World.cells?_some h1
      match cs', hlen with
      | [v0, v1, v2, v3, v4, v5], _ =>
        have c0 := hcell 0 (by omega)
        rw [Deep.add_add] at c0
        obtain ⟨b, off, spot⟩ := y
        simpa [Addr.add] using World.cell?_spot c0
    have key : ∀ i, i < len → ∃ r : Ie, (∃ b off av cv, some y = some (⟨b, off, none⟩ : Addr) ∧ W.cell? ⟨b, off + i * 6, none⟩ = some (.int .i64 r.ch) ∧ W.cell? ⟨b, off + i * 6 + 1, none⟩ = some (.int .i64 r.k) ∧ W.cell? ⟨b, off + i * 6 + 2, none⟩ = some (.int .i64 r.rt) ∧ W.cell? ⟨b, off + i * 6 + 3, none⟩ = some (.slice av r.vs.length cv) ∧ W.cell? ⟨b, off + i * 6 + 4, none⟩ = some (.int .i64 r.t) ∧ W.cell? ⟨b, off + i * 6 + 5, none⟩ = some (.int .i64 r.m) ∧ VLies W av r.vs) ∧ (r.vs.length = 0 ∨ ∃ d0 d1 d2 d3 d4 es sp, D i = .agg [d0, .agg [d1, .agg [d2, .slice es sp], d3, d4]] ∧ es.length = r.vs.length) := by
      intro i hi
      obtain ⟨cs', h1, h2⟩ := hx i (by omega)
      obtain ⟨_, hlen, hcell⟩ := World.cells?_some h1
      obtain ⟨y0, y1, n', hDi, _, g0, g1⟩ := trod_struct2 Tryd.underlying38 h2
      match cs', hlen with
      | [v0, v1, v2, v3, v4, v5], _ =>
        simp [cellsInt, cellsElem] at g0 g1
        obtain ⟨q0, q1, q2, q3, n2, hDe, _, k0, k1, k2, k3⟩ := Joins.trod_struct4 Tryd.underlying36 g1
        simp [cellsInt, cellsRow, cellsI64] at k0 k1 k2 k3
        obtain ⟨s0, s1, n3, hDr, _, j0, j1⟩ := trod_struct2 Tryd.underlying34 k1
        simp [cellsVals, cellsI64] at j0 j1
        obtain ⟨ch, e0, _, _⟩ := DataW.trod_int Tryd.underlying3 g0
        obtain ⟨kk, e1, _, _⟩ := DataW.trod_int Tryd.underlying3 k0
        obtain ⟨rt, e2, _, _⟩ := DataW.trod_int Tryd.underlying2 j0
        obtain ⟨tt, e4, _, _⟩ := DataW.trod_int Tryd.underlying2 k2
        obtain ⟨mm, e5, _, _⟩ := DataW.trod_int Tryd.underlying3 k3
        have hsl : ∃ a' len' cap', v3 = .slice a' len' cap' := by
          rcases open_slice Tryd.underlying32 j1 with ⟨hcs, _⟩ | ⟨_, _, _, _, _, _, _, hcs, _⟩
          · simp at hcs; exact ⟨_, _, _, hcs⟩
          · simp at hcs; exact ⟨_, _, _, hcs⟩
        obtain ⟨a', len', cap', rfl⟩ := hsl
        obtain ⟨vs, hvl, hv1, hv2⟩ := vals_in j1
        simp at e0 e1 e2 e4 e5
        subst e0 e1 e2 e4 e5
        subst hvl
        have c0 := hcell 0 (by omega)
        have c1 := hcell 1 (by omega)
        have c2 := hcell 2 (by omega)
        have c3 := hcell 3 (by omega)
        have c4 := hcell 4 (by omega)
        have c5 := hcell 5 (by omega)
        rw [Deep.add_add] at c0 c1 c2 c3 c4 c5
        have hs := hspot (by omega)
        obtain ⟨b, off, spot⟩ := y
        simp at hs
        subst hs
        rw [WideShapes.add_plain] at c0 c1 c2 c3 c4 c5
        have hb : D i = .agg [y0.1, y1.1] := by simpa using congrArg Prod.fst hDi
        have hb1 : y1.1 = .agg [q0.1, q1.1, q2.1, q3.1] := by rw [hDe]
        have hb2 : q1.1 = .agg [s0.1, s1.1] := by rw [hDr]
        refine ⟨⟨ch, kk, rt, vs, tt, mm⟩, ⟨b, off, a', cap', rfl, by simpa using c0, by simpa [Nat.add_assoc] using c1, by simpa [Nat.add_assoc] using c2, by simpa [Nat.add_assoc] using c3, by simpa [Nat.add_assoc] using c4, by simpa [Nat.add_assoc] using c5, hv1⟩, ?_⟩
        rcases hv2 with h | ⟨es, sp, h1, h2, h3⟩
        · exact .inl h
        · exact .inr ⟨y0.1, q0.1, s0.1, q2.1, q3.1, es, sp, by rw [hb, hb1, hb2, h1], h2⟩
    haveI : Inhabited Ie := ⟨⟨0, 0, 0, [], 0, 0⟩⟩
    obtain ⟨f, hf'⟩ := choose_lt key
    refine ⟨(List.range len).map f, by simp, ?_, .inr ⟨_, _, by rw [hD], by simp, ?_⟩⟩
    · intro i hi
      have hi' : i < len := by simpa using hi
      obtain ⟨b, off, av, cv, e1, e2, e3, e4, e5, e6, e7, e8⟩ := (hf' i hi').1
      exact ⟨b, off, av, cv, e1, by simpa using e2, by simpa using e3, by simpa using e4, by simpa using e5, by simpa using e6, by simpa using e7, by simpa using e8⟩
    · intro r hr
      obtain ⟨i, hi, rfl⟩ := List.mem_map.1 hr
      have hi' := List.mem_range.1 hi
      rcases (hf' i hi').2 with h | ⟨d0, d1, d2, d3, d4, es, sp, h1, h2⟩
      · exact .inl h
      · exact .inr ⟨d0, d1, d2, d3, d4, es, sp, List.mem_map.2 ⟨i, List.mem_range.2 hi', h1⟩, h2⟩

/-- What a script that came in weighs. -/
theorem ins_sized {H : Type} {ts : List TypeId} {ds : List (DataW H)} (hsz : (DataW.weightsEach Tryd.prog ts ds).all (· ≤ reachBytes) = true) {j : Nat} {d0 : DataW H} (ht : ts[j]? = some 22) (hd : ds[j]? = some d0) {xs : List Ie}
    (hsize : xs.length = 0 ∨ ∃ elems spare, d0 = .slice elems spare ∧ elems.length = xs.length ∧ ∀ r ∈ xs, r.vs.length = 0 ∨ ∃ d0 d1 d2 d3 d4 es sp, DataW.agg [d0, .agg [d1, .agg [d2, .slice es sp], d3, d4]] ∈ elems ∧ es.length = r.vs.length) :
    xs.length ≤ 4398046510976 ∧ ∀ r ∈ xs, r.vs.length ≤ 4398046510976 := by
  rcases hsize with h | ⟨elems, spare, rfl, h2, h3⟩
  · exact ⟨by omega, fun r hr => by rw [List.eq_nil_of_length_eq_zero h] at hr; cases hr⟩
  · constructor
    · have := sized_slice hsz ht hd Tryd.underlying22
      rw [bytesIn, reach_eq] at this
      omega
    · intro r hr
      rcases h3 r hr with h | ⟨d0, d1, d2, d3, d4, es, sp, h4, h5⟩
      · omega
      · have := List.all_eq_true.1 hsz _ (DataW.weights_mem_each ht hd ((es.length + sp.length) * Tryd.prog.bytesOf 48) (by
          simp only [DataW.weights, Tryd.underlying22, List.mem_cons, List.mem_append]
          refine Or.inr (Or.inl (weigh_part ?_ _ h4))
          simp [DataW.weights, DataW.weightsEach, Tryd.underlying38, Tryd.underlying36, Tryd.underlying34, Tryd.underlying32]))
        have h6 := of_decide_eq_true this
        rw [bytesVal, reach_eq] at h6
        omega
end Go.Proofs.YtpghfopbnicpmaaDoor
