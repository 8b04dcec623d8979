import Derived.Test.YthdbfgnjeolfaaaDoorRows
import Derived.Test.YthdbfgnjeolfaaaDoorVlB
import Derived.WalkKit
import Derived.ProofKit
import Derived.OpenShut
import Derived.ShutString
import Derived.ChangeOld
import Derived.Below
import Derived.Deep.Slices
import Derived.Deep.Strs
import Derived.SizedLaws
namespace Go.Proofs.YthdbfgnjeolfaaaDoor
open Go.ChangeShapes Go.WideShapes Go.ChangeAt Go.RowKit
open Go.Deep
set_option linter.unusedVariables false
set_option maxRecDepth 100000

theorem own : ownKnob Tryd.prog.godebug = none := by kernel_rfl
theorem laidOut : laidOutB Tryd.prog = true := by kernel_rfl
theorem cellsVal : Tryd.prog.cellsOf 40 = 3 := by kernel_rfl
theorem cellsRow : Tryd.prog.cellsOf 37 = 2 := by kernel_rfl
theorem cellsKind : Tryd.prog.cellsOf 38 = 1 := by kernel_rfl
theorem cellsVals : Tryd.prog.cellsOf 35 = 1 := by kernel_rfl
theorem cellsI64 : Tryd.prog.cellsOf 2 = 1 := by kernel_rfl
theorem cellsStr : Tryd.prog.cellsOf 9 = 1 := by kernel_rfl
theorem bytesVal : Tryd.prog.bytesOf 40 = 32 := by kernel_rfl
theorem bytesRow : Tryd.prog.bytesOf 37 = 32 := by kernel_rfl
theorem reach_eq : reachBytes = 140737488351232 := rfl

/-- What a part weighs is among what all weigh. -/
theorem weigh_part {H : Type} {P : Program} {e : TypeId} {d : DataW H} {n : Nat} (hn : n ∈ d.weights P e) (l : List (DataW H)) (hd : d ∈ l) : n ∈ DataW.weightsAll P e l := by
  induction l with
  | nil => cases hd
  | cons x r ih =>
    rw [DataW.weightsAll, List.mem_append]
    cases hd with
    | head => exact .inl hn
    | tail _ h => exact .inr (ih h)

theorem vals_in {H : Type} {enc : TypeId × Value → H} {W : World} {a : Option Addr} {len cap fuel : Nat} {x : DataW H × List MemPlace}
    (hf : DataW.trod enc Tryd.prog W 0 (fun _ => true) true fuel 35 [.slice a len cap] = some x) :
    ∃ vs : List V, vs.length = len ∧ VLies W a vs ∧ (len = 0 ∨ ∃ elems spare, x.1 = .slice elems spare ∧ elems.length = len ∧ ∀ v ∈ vs, ∃ d1 d2 bs, DataW.agg [d1, d2, .lit (.string bs)] ∈ elems ∧ bs.length = v.s.size) := by
  rcases open_slice Tryd.underlying35 hf with ⟨hcs, _⟩ | ⟨y, l, c, m, n, D, Pl, hcs, _, hl, hm, hmm, hD, hx⟩
  · simp at hcs
    obtain ⟨rfl, rfl, rfl⟩ := hcs
    exact ⟨[], rfl, fun i hi => absurd hi (by simp), .inl rfl⟩
  · simp at hcs
    obtain ⟨rfl, rfl, rfl⟩ := hcs
    simp at hmm
    subst hmm
    rw [cellsVal] at hx
    have hspot : 0 < len → y.spot = none := by
      intro h0
      obtain ⟨cs', h1, h2⟩ := hx 0 (by omega)
      obtain ⟨_, hlen, hcell⟩ := World.cells?_some h1
      match cs', hlen with
      | [v0, v1, v2], _ =>
        have c0 := hcell 0 (by omega)
        rw [Deep.add_add] at c0
        obtain ⟨b, off, spot⟩ := y
        simpa [Addr.add] using World.cell?_spot c0
    have key : ∀ i, i < len → ∃ v : V, (∃ b off, some y = some (⟨b, off, none⟩ : Addr) ∧ W.cell? ⟨b, off + i * 3, none⟩ = some (.int .i64 v.k) ∧ W.cell? ⟨b, off + i * 3 + 1, none⟩ = some (.int .i64 v.n) ∧ W.cell? ⟨b, off + i * 3 + 2, none⟩ = some (.string v.s)) ∧ ∃ d1 d2 bs, D i = .agg [d1, d2, .lit (.string bs)] ∧ bs.length = v.s.size := by
      intro i hi
      obtain ⟨cs', h1, h2⟩ := hx i (by omega)
      obtain ⟨_, hlen, hcell⟩ := World.cells?_some h1
      obtain ⟨y0, y1, y2, n', hDi, _, g0, g1, g2⟩ := trod_struct3 Tryd.underlying40 h2
      match cs', hlen with
      | [v0, v1, v2], _ =>
        simp [cellsKind, cellsI64, cellsStr] at g0 g1 g2
        obtain ⟨k, e0, _, _⟩ := DataW.trod_int Tryd.underlying38 g0
        obtain ⟨nn, e1, _, _⟩ := DataW.trod_int Tryd.underlying2 g1
        obtain ⟨s, e2, ds, _⟩ := DataW.trod_string Tryd.underlying9 g2
        simp at e0 e1 e2
        subst e0 e1 e2
        have c0 := hcell 0 (by omega)
        have c1 := hcell 1 (by omega)
        have c2 := hcell 2 (by omega)
        rw [Deep.add_add] at c0 c1 c2
        have hs := hspot (by omega)
        obtain ⟨b, off, spot⟩ := y
        simp at hs
        subst hs
        rw [WideShapes.add_plain] at c0 c1 c2
        have hb : D i = .agg [y0.1, y1.1, y2.1] := by simpa using congrArg Prod.fst hDi
        refine ⟨⟨k, nn, s⟩, ⟨b, off, rfl, by simpa using c0, by simpa [Nat.add_assoc] using c1, by simpa [Nat.add_assoc] using c2⟩, y0.1, y1.1, _, by rw [hb, ds], by simp⟩
    haveI : Inhabited V := ⟨⟨0, 0, ByteArray.empty⟩⟩
    obtain ⟨f, hf'⟩ := choose_lt key
    refine ⟨(List.range len).map f, by simp, ?_, .inr ⟨_, _, by rw [hD], by simp, ?_⟩⟩
    · intro i hi
      have hi' : i < len := by simpa using hi
      obtain ⟨⟨b, off, e1, e2, e3, e4⟩, -⟩ := hf' i hi'
      exact ⟨b, off, e1, by simpa using e2, by simpa using e3, by simpa using e4⟩
    · intro v hv
      obtain ⟨i, hi, rfl⟩ := List.mem_map.1 hv
      have hi' := List.mem_range.1 hi
      obtain ⟨-, d1, d2, bs, h1, h2⟩ := hf' i hi'
      exact ⟨d1, d2, bs, List.mem_map.2 ⟨i, List.mem_range.2 hi', h1⟩, h2⟩

theorem rows_in {H : Type} {enc : TypeId × Value → H} {W : World} {a : Option Addr} {len cap fuel : Nat} {x : DataW H × List MemPlace}
    (hf : DataW.trod enc Tryd.prog W 0 (fun _ => true) true fuel 22 [.slice a len cap] = some x) :
    ∃ rs : List Rw, rs.length = len ∧ RLies W a rs ∧ (len = 0 ∨ ∃ elems spare, x.1 = .slice elems spare ∧ elems.length = len ∧ ∀ r ∈ rs, r.vs.length = 0 ∨ ∃ d es sp, DataW.agg [d, .slice es sp] ∈ elems ∧ es.length = r.vs.length ∧ ∀ v ∈ r.vs, ∃ d1 d2 bs, DataW.agg [d1, d2, .lit (.string bs)] ∈ es ∧ bs.length = v.s.size) := by
  rcases open_slice Tryd.underlying22 hf with ⟨hcs, _⟩ | ⟨y, l, c, m, n, D, Pl, hcs, _, hl, hm, hmm, hD, hx⟩
  · simp at hcs
    obtain ⟨rfl, rfl, rfl⟩ := hcs
    exact ⟨[], rfl, fun i hi => absurd hi (by simp), .inl rfl⟩
  · simp at hcs
    obtain ⟨rfl, rfl, rfl⟩ := hcs
    simp at hmm
    subst hmm
    rw [cellsRow] at hx
    have hspot : 0 < len → y.spot = none := by
      intro h0
      obtain ⟨cs', h1, h2⟩ := hx 0 (by omega)
      obtain ⟨_, hlen, hcell⟩ := World.cells?_some h1
      match cs', hlen with
      | [v0, v1], _ =>
        have c0 := hcell 0 (by omega)
        rw [Deep.add_add] at c0
        obtain ⟨b, off, spot⟩ := y
        simpa [Addr.add] using World.cell?_spot c0
    have key : ∀ i, i < len → ∃ r : Rw, (∃ b off av cv, some y = some (⟨b, off, none⟩ : Addr) ∧ W.cell? ⟨b, off + i * 2, none⟩ = some (.int .i64 r.t) ∧ W.cell? ⟨b, off + i * 2 + 1, none⟩ = some (.slice av r.vs.length cv) ∧ VLies W av r.vs) ∧ (r.vs.length = 0 ∨ ∃ d es sp, D i = .agg [d, .slice es sp] ∧ es.length = r.vs.length ∧ ∀ v ∈ r.vs, ∃ d1 d2 bs, DataW.agg [d1, d2, .lit (.string bs)] ∈ es ∧ bs.length = v.s.size) := by
      intro i hi
      obtain ⟨cs', h1, h2⟩ := hx i (by omega)
      obtain ⟨_, hlen, hcell⟩ := World.cells?_some h1
      obtain ⟨y0, y1, n', hDi, _, g0, g1⟩ := trod_struct2 Tryd.underlying37 h2
      match cs', hlen with
      | [v0, v1], _ =>
        simp [cellsVals, cellsI64] at g0 g1
        obtain ⟨t, e0, d0, wt⟩ := DataW.trod_int Tryd.underlying2 g0
        have hsl : ∃ a' len' cap', v1 = .slice a' len' cap' := by
          rcases open_slice Tryd.underlying35 g1 with ⟨hcs, _⟩ | ⟨_, _, _, _, _, _, _, hcs, _⟩
          · simp at hcs; exact ⟨_, _, _, hcs⟩
          · simp at hcs; exact ⟨_, _, _, hcs⟩
        obtain ⟨a', len', cap', rfl⟩ := hsl
        obtain ⟨vs, hvl, hv1, hv2⟩ := vals_in g1
        simp at e0
        subst e0
        subst hvl
        have c0 := hcell 0 (by omega)
        have c1 := hcell 1 (by omega)
        rw [Deep.add_add] at c0 c1
        have hs := hspot (by omega)
        obtain ⟨b, off, spot⟩ := y
        simp at hs
        subst hs
        rw [WideShapes.add_plain] at c0 c1
        have hb : D i = .agg [y0.1, y1.1] := by simpa using congrArg Prod.fst hDi
        refine ⟨⟨t, vs⟩, ⟨b, off, a', cap', rfl, by simpa using c0, by simpa [Nat.add_assoc] using c1, hv1⟩, ?_⟩
        rcases hv2 with h | ⟨es, sp, h1, h2, h3⟩
        · exact .inl h
        · exact .inr ⟨y0.1, es, sp, by rw [hb, h1], h2, h3⟩
    haveI : Inhabited Rw := ⟨⟨0, []⟩⟩
    obtain ⟨f, hf'⟩ := choose_lt key
    refine ⟨(List.range len).map f, by simp, ?_, .inr ⟨_, _, by rw [hD], by simp, ?_⟩⟩
    · intro i hi
      have hi' : i < len := by simpa using hi
      obtain ⟨b, off, av, cv, e1, e2, e3, e4⟩ := (hf' i hi').1
      exact ⟨b, off, av, cv, e1, by simpa using e2, by simpa using e3, by simpa using e4⟩
    · intro r hr
      obtain ⟨i, hi, rfl⟩ := List.mem_map.1 hr
      have hi' := List.mem_range.1 hi
      rcases (hf' i hi').2 with h | ⟨d, es, sp, h1, h2⟩
      · exact .inl h
      · exact .inr ⟨d, es, sp, List.mem_map.2 ⟨i, List.mem_range.2 hi', h1⟩, h2⟩


/-- What rows that came in weigh. -/
theorem rows_sized {H : Type} {ts : List TypeId} {ds : List (DataW H)} (hsz : (DataW.weightsEach Tryd.prog ts ds).all (· ≤ reachBytes) = true) {j : Nat} {d0 : DataW H} (ht : ts[j]? = some 22) (hd : ds[j]? = some d0) {rs : List Rw}
    (hsize : rs.length = 0 ∨ ∃ elems spare, d0 = .slice elems spare ∧ elems.length = rs.length ∧ ∀ r ∈ rs, r.vs.length = 0 ∨ ∃ d es sp, DataW.agg [d, .slice es sp] ∈ elems ∧ es.length = r.vs.length ∧ ∀ v ∈ r.vs, ∃ d1 d2 bs, DataW.agg [d1, d2, .lit (.string bs)] ∈ es ∧ bs.length = v.s.size) :
    rs.length ≤ 4398046510976 ∧ ∀ r ∈ rs, r.vs.length ≤ 4398046510976 ∧ ∀ v ∈ r.vs, v.s.size ≤ 140737488351232 := by
  rcases hsize with h | ⟨elems, spare, rfl, h2, h3⟩
  · exact ⟨by omega, fun r hr => by rw [List.eq_nil_of_length_eq_zero h] at hr; cases hr⟩
  · constructor
    · have := sized_slice hsz ht hd Tryd.underlying22
      rw [bytesRow, reach_eq] at this
      omega
    · intro r hr
      rcases h3 r hr with h | ⟨d, es, sp, h4, h5, h6⟩
      · exact ⟨by omega, fun v hv => by rw [List.eq_nil_of_length_eq_zero h] at hv; cases hv⟩
      · constructor
        · have := List.all_eq_true.1 hsz _ (DataW.weights_mem_each ht hd ((es.length + sp.length) * Tryd.prog.bytesOf 40) (by
            simp only [DataW.weights, Tryd.underlying22, List.mem_cons, List.mem_append]
            refine Or.inr (Or.inl (weigh_part ?_ _ h4))
            simp [DataW.weights, DataW.weightsEach, Tryd.underlying37, Tryd.underlying35]))
          have h6 := of_decide_eq_true this
          rw [bytesVal, reach_eq] at h6
          omega
        · intro v hv
          obtain ⟨d1, d2, bs, h7, h8⟩ := h6 v hv
          have := List.all_eq_true.1 hsz _ (DataW.weights_mem_each ht hd bs.length (by
            simp only [DataW.weights, Tryd.underlying22, List.mem_cons, List.mem_append]
            refine Or.inr (Or.inl (weigh_part ?_ _ h4))
            simp only [DataW.weights, DataW.weightsEach, Tryd.underlying37, Tryd.underlying35, List.map_cons, List.map_nil, List.mem_append, List.mem_cons]
            refine Or.inr (Or.inl (Or.inr (Or.inl (weigh_part ?_ _ h7))))
            simp [DataW.weights, DataW.weightsEach, Tryd.underlying40]))
          have h9 := of_decide_eq_true this
          rw [reach_eq] at h9
          omega
end Go.Proofs.YthdbfgnjeolfaaaDoor
