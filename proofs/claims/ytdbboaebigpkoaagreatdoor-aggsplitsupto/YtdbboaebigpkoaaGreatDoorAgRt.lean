import Derived.Test.YtdbboaebigpkoaaGreatDoorRows
import Derived.Test.YtdbboaebigpkoaaGreatDoorAgA
import Derived.WalkKit
import Derived.ProofKit
import Derived.OpenShut
import Derived.ShutString
import Derived.ChangeOld
import Derived.Below
import Derived.Deep.Slices
import Derived.Deep.Strs
import Derived.SizedLaws
namespace Go.Proofs.YtdbboaebigpkoaaGreatDoor
open Go.ChangeShapes Go.WideShapes Go.ChangeAt Go.RowKit
open Go.Deep
set_option linter.unusedVariables false
set_option maxRecDepth 100000

theorem own : ownKnob Tryz.prog.godebug = none := by kernel_rfl
theorem laidOut : laidOutB Tryz.prog = true := by kernel_rfl
theorem cellsVal : Tryz.prog.cellsOf 25 = 3 := by kernel_rfl
theorem cellsTm : Tryz.prog.cellsOf 46 = 4 := by kernel_rfl
theorem cellsKind : Tryz.prog.cellsOf 23 = 1 := by kernel_rfl
theorem cellsI64 : Tryz.prog.cellsOf 2 = 1 := by kernel_rfl
theorem cellsStr : Tryz.prog.cellsOf 9 = 1 := by kernel_rfl
theorem bytesTm : Tryz.prog.bytesOf 46 = 40 := by kernel_rfl
theorem reach_eq : reachBytes = 140737488351232 := rfl

/-- What a part weighs is among what all weigh. -/
theorem weigh_part {H : Type} {P : Program} {e : TypeId} {d : DataW H} {n : Nat} (hn : n ∈ d.weights P e) (l : List (DataW H)) (hd : d ∈ l) : n ∈ DataW.weightsAll P e l := by
  induction l with
  | nil => cases hd
  | cons x r ih =>
    rw [DataW.weightsAll, List.mem_append]
    cases hd with
    | head => exact .inl hn
    | tail _ h => exact .inr (ih h)

theorem tm_in {H : Type} {enc : TypeId × Value → H} {W : World} {fuel : Nat} {cs : List Value} {x : DataW H × List MemPlace} (hlen : cs.length = 4)
    (h : DataW.trod enc Tryz.prog W 0 (fun _ => true) true fuel 46 cs = some x) :
    ∃ o : Tm, cs = [.int .i64 o.t, .int .i64 o.v.k, .int .i64 o.v.n, .string o.v.s] ∧ ((Lit.int .i64 o.v.k).wf = true ∧ (Lit.int .i64 o.v.n).wf = true ∧ (Lit.int .i64 o.t).wf = true) ∧ ∃ d d1 d2 bs, x.1 = .agg [d, .agg [d1, d2, .lit (.string bs)]] ∧ bs.length = o.v.s.size := by
  obtain ⟨y0, y1, n', hDi, _, g0, g1⟩ := trod_struct2 Tryz.underlying46 h
  match cs, hlen with
  | [v0, v1, v2, v3], _ =>
    simp [cellsVal, cellsI64] at g0 g1
    obtain ⟨t, e0, _, wt⟩ := DataW.trod_int Tryz.underlying2 g0
    obtain ⟨z0, z1, z2, n2, hz, _, f0, f1, f2⟩ := trod_struct3 Tryz.underlying25 g1
    simp [cellsKind, cellsI64, cellsStr] at f0 f1 f2
    obtain ⟨k, e1, _, wk⟩ := DataW.trod_int Tryz.underlying23 f0
    obtain ⟨nn, e2, _, wn⟩ := DataW.trod_int Tryz.underlying2 f1
    obtain ⟨s, e3, ds, _⟩ := DataW.trod_string Tryz.underlying9 f2
    simp at e0 e1 e2 e3
    subst e0 e1 e2 e3
    refine ⟨⟨t, ⟨k, nn, s⟩⟩, rfl, ⟨wk, wn, wt⟩, y0.1, z0.1, z1.1, s.data.toList, ?_, by simp⟩
    rw [hDi, hz]
    simp [ds]

theorem tms_in {H : Type} {enc : TypeId × Value → H} {W : World} {a : Option Addr} {len cap fuel : Nat} {x : DataW H × List MemPlace}
    (hf : DataW.trod enc Tryz.prog W 0 (fun _ => true) true fuel 22 [.slice a len cap] = some x) :
    ∃ l : List Tm, l.length = len ∧ TLies W a l ∧ (∀ o ∈ l, (Lit.int .i64 o.v.k).wf = true ∧ (Lit.int .i64 o.v.n).wf = true ∧ (Lit.int .i64 o.t).wf = true) ∧ (len = 0 ∨ ∃ elems spare, x.1 = .slice elems spare ∧ elems.length = len ∧ ∀ o ∈ l, ∃ d d1 d2 bs, DataW.agg [d, .agg [d1, d2, .lit (.string bs)]] ∈ elems ∧ bs.length = o.v.s.size) := by
  rcases open_slice Tryz.underlying22 hf with ⟨hcs, _⟩ | ⟨y, l, c, m, n, D, Pl, hcs, _, hl, hm, hmm, hD, hx⟩
  · simp at hcs
    obtain ⟨rfl, rfl, rfl⟩ := hcs
    exact ⟨[], rfl, fun i hi => absurd hi (by simp), (fun o ho => by cases ho), .inl rfl⟩
  · simp at hcs
    obtain ⟨rfl, rfl, rfl⟩ := hcs
    simp at hmm
    subst hmm
    rw [cellsTm] at hx
    have hspot : 0 < len → y.spot = none := by
      intro h0
      obtain ⟨cs', h1, h2⟩ := hx 0 (by omega)
      obtain ⟨_, hlen, hcell⟩ := World.cells?_some h1
      match cs', hlen with
      | [v0, v1, v2, v3], _ =>
        have c0 := hcell 0 (by omega)
        rw [Deep.add_add] at c0
        obtain ⟨b, off, spot⟩ := y
        simpa [Addr.add] using World.cell?_spot c0
    have key : ∀ i, i < len → ∃ o : Tm, (∃ b off, some y = some (⟨b, off, none⟩ : Addr) ∧ W.cell? ⟨b, off + i * 4, none⟩ = some (.int .i64 o.t) ∧ W.cell? ⟨b, off + i * 4 + 1, none⟩ = some (.int .i64 o.v.k) ∧ W.cell? ⟨b, off + i * 4 + 2, none⟩ = some (.int .i64 o.v.n) ∧ W.cell? ⟨b, off + i * 4 + 3, none⟩ = some (.string o.v.s)) ∧ ((Lit.int .i64 o.v.k).wf = true ∧ (Lit.int .i64 o.v.n).wf = true ∧ (Lit.int .i64 o.t).wf = true) ∧ ∃ d d1 d2 bs, D i = .agg [d, .agg [d1, d2, .lit (.string bs)]] ∧ bs.length = o.v.s.size := by
      intro i hi
      obtain ⟨cs', h1, h2⟩ := hx i (by omega)
      obtain ⟨_, hlen, hcell⟩ := World.cells?_some h1
      obtain ⟨o, rfl, hw, hd⟩ := tm_in hlen h2
      have c0 := hcell 0 (by simp)
      have c1 := hcell 1 (by simp)
      have c2 := hcell 2 (by simp)
      have c3 := hcell 3 (by simp)
      rw [Deep.add_add] at c0 c1 c2 c3
      have hs := hspot (by omega)
      obtain ⟨b, off, spot⟩ := y
      simp at hs
      subst hs
      rw [WideShapes.add_plain] at c0 c1 c2 c3
      exact ⟨o, ⟨b, off, rfl, by simpa using c0, by simpa [Nat.add_assoc] using c1, by simpa [Nat.add_assoc] using c2, by simpa [Nat.add_assoc] using c3⟩, hw, hd⟩
    haveI : Inhabited Tm := ⟨t0⟩
    obtain ⟨f, hf'⟩ := choose_lt key
    refine ⟨(List.range len).map f, by simp, ?_, ?_, .inr ⟨_, _, by rw [hD], by simp, ?_⟩⟩
    · intro i hi
      have hi' : i < len := by simpa using hi
      obtain ⟨⟨b, off, e1, e2, e3, e4, e5⟩, -⟩ := hf' i hi'
      exact ⟨b, off, e1, by simpa using e2, by simpa using e3, by simpa using e4, by simpa using e5⟩
    · intro v hv
      obtain ⟨i, hi, rfl⟩ := List.mem_map.1 hv
      exact (hf' i (List.mem_range.1 hi)).2.1
    · intro v hv
      obtain ⟨i, hi, rfl⟩ := List.mem_map.1 hv
      have hi' := List.mem_range.1 hi
      obtain ⟨-, -, d, d1, d2, bs, h1, h2⟩ := hf' i hi'
      exact ⟨d, d1, d2, bs, List.mem_map.2 ⟨i, List.mem_range.2 hi', h1⟩, h2⟩

theorem tms_sized {H : Type} {ts : List TypeId} {ds : List (DataW H)} {j : Nat} {d0 : DataW H} {l : List Tm} (hsz : (DataW.weightsEach Tryz.prog ts ds).all (· ≤ reachBytes) = true) (ht : ts[j]? = some 22) (hd : ds[j]? = some d0)
    (hsize : l.length = 0 ∨ ∃ elems spare, d0 = .slice elems spare ∧ elems.length = l.length ∧ ∀ o ∈ l, ∃ d d1 d2 bs, DataW.agg [d, .agg [d1, d2, .lit (.string bs)]] ∈ elems ∧ bs.length = o.v.s.size) :
    l.length ≤ 3518437208780 ∧ ∀ o ∈ l, o.v.s.size ≤ 140737488351232 := by
  rcases hsize with h | ⟨elems, spare, rfl, h2, h3⟩
  · exact ⟨by omega, fun r hr => by rw [List.eq_nil_of_length_eq_zero h] at hr; cases hr⟩
  · constructor
    · have := sized_slice hsz ht hd Tryz.underlying22
      rw [bytesTm, reach_eq] at this
      omega
    · intro o ho
      obtain ⟨d, d1, d2, bs, h7, h8⟩ := h3 o ho
      have := List.all_eq_true.1 hsz _ (DataW.weights_mem_each ht hd bs.length (by
        simp only [DataW.weights, Tryz.underlying22, List.mem_cons, List.mem_append]
        refine Or.inr (Or.inl (weigh_part ?_ _ h7))
        simp [DataW.weights, DataW.weightsEach, Tryz.underlying46, Tryz.underlying25]))
      have h9 := of_decide_eq_true this
      rw [reach_eq] at h9
      omega
end Go.Proofs.YtdbboaebigpkoaaGreatDoor
