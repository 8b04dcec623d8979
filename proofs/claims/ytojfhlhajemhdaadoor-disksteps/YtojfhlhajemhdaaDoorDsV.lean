import Derived.Test.YtojfhlhajemhdaaDoorRows
import Derived.Test.YtojfhlhajemhdaaDoorDsU
import Derived.Lib.SmallJoins
import Derived.WalkKit
import Derived.ProofKit
import Derived.OpenShut
import Derived.ShutString
import Derived.ChangeOld
import Derived.ChangeSlices
import Derived.Below
import Derived.Deep.Slices
import Derived.Deep.Strs
import Derived.SizedLaws
namespace Go.Proofs.YtojfhlhajemhdaaDoor
open Go.ChangeShapes Go.WideShapes Go.ChangeAt Go.RowKit
open Go.Deep Go.Joins
set_option linter.unusedVariables false
set_option maxRecDepth 100000

theorem own : ownKnob Tryd.prog.godebug = none := by kernel_rfl
theorem laidOut : laidOutB Tryd.prog = true := by kernel_rfl
theorem cells5 : Tryd.prog.cellsOf 5 = 1 := by kernel_rfl
theorem cellsI : Tryd.prog.cellsOf 3 = 1 := by kernel_rfl
theorem cellsB : Tryd.prog.cellsOf 26 = 1 := by kernel_rfl
theorem cellsStr : Tryd.prog.cellsOf 9 = 1 := by kernel_rfl
theorem cellsOp : Tryd.prog.cellsOf 28 = 4 := by kernel_rfl
theorem bytes5 : Tryd.prog.bytesOf 5 = 1 := by kernel_rfl
theorem bytesOp : Tryd.prog.bytesOf 28 = 56 := by kernel_rfl
theorem reach_eq : reachBytes = 140737488351232 := rfl
/-- What a part weighs is among what all weigh. -/
theorem weigh_part {H : Type} {P : Program} {e : TypeId} {d : DataW H} {n : Nat} (hn : n ∈ d.weights P e) (l : List (DataW H)) (hd : d ∈ l) : n ∈ DataW.weightsAll P e l := by
  induction l with
  | nil => cases hd
  | cons x r ih =>
    rw [DataW.weightsAll, List.mem_append]
    cases hd with
    | head => exact .inl hn
    | tail _ h => exact .inr (ih h)
theorem bounds_i64 {z : Int} (h : (Lit.int .i64 z).wf = true) : -9223372036854775808 ≤ z ∧ z ≤ 9223372036854775807 := by
  have h' : (decide (IntKind.i64.min ≤ z) && decide (z ≤ IntKind.i64.max)) = true := h
  have e1 : IntKind.i64.min = -9223372036854775808 := by decide
  have e2 : IntKind.i64.max = 9223372036854775807 := by decide
  simp [e1, e2] at h'
  exact ⟨by omega, by omega⟩
theorem wf_u8 {z : Int} (h : (Lit.int .u8 z).wf = true) : 0 ≤ z ∧ z < 256 := by
  have h' : (decide (IntKind.u8.min ≤ z) && decide (z ≤ IntKind.u8.max)) = true := h
  have e1 : IntKind.u8.min = 0 := by decide
  have e2 : IntKind.u8.max = 255 := by decide
  simp [e1, e2] at h'
  omega
/-- Bytes that came in: they lie in memory; how long the row can be. -/
theorem bytes_in {H : Type} {enc : TypeId × Value → H} {W : World} {a : Option Addr} {len cap fuel : Nat} {x : DataW H × List MemPlace}
    (hf : DataW.trod enc Tryd.prog W 0 (fun _ => true) true fuel 26 [.slice a len cap] = some x) : ∃ f : Nat → UInt8, Bytes W a len f ∧ len ≤ cap ∧
      ((len = 0 ∧ cap = 0 ∧ a = none) ∨ ∃ elems spare, x.1 = .slice elems spare ∧ cap ≤ elems.length + spare.length) := by
  rcases open_ints Tryd.underlying26 Tryd.underlying5 cells5 hf with ⟨hcs, _⟩ | ⟨y, l, c, zs, hcs, _, hl, hm, hz, hx, hc, hw⟩
  · simp at hcs
    obtain ⟨rfl, rfl, rfl⟩ := hcs
    exact ⟨fun _ => 0, fun i hi => absurd hi (by omega), Nat.le_refl _, .inl ⟨rfl, rfl, rfl⟩⟩
  · simp at hcs
    obtain ⟨rfl, rfl, rfl⟩ := hcs
    simp at hz
    refine ⟨fun i => UInt8.ofNat (zs.getD i 0).toNat, ?_, hl, .inr ⟨_, _, by rw [hx], by simp [lits]; omega⟩⟩
    intro i hi
    have h1 := hc i (by omega)
    have hspot : y.spot = none := by
      have h0 := hc 0 (by omega)
      obtain ⟨b, off, spot⟩ := y
      simpa [Addr.add] using World.cell?_spot h0
    obtain ⟨b, off, spot⟩ := y
    simp at hspot
    subst hspot
    refine ⟨b, off, rfl, ?_⟩
    rw [WideShapes.add_plain] at h1
    rw [h1]
    have hi' : i < zs.length := by omega
    have hmem : zs.getD i 0 ∈ zs := by simp [List.getD, hi']
    have hwf := hw _ hmem
    have hb : 0 ≤ zs.getD i 0 ∧ zs.getD i 0 < 256 := by
      exact wf_u8 hwf
    congr 2
    show _ = ((UInt8.ofNat (zs.getD i 0).toNat).toNat : Int)
    rw [UInt8.toNat_ofNat']
    omega
theorem lat_blist (f : Nat → UInt8) (n i : Nat) (hi : i < n) : lat (blist f n) i = f i := by simp [lat, blist, hi]

theorem ops_in {H : Type} {enc : TypeId × Value → H} {W : World} {a : Option Addr} {len cap fuel : Nat} {x : DataW H × List MemPlace}
    (hf : DataW.trod enc Tryd.prog W 0 (fun _ => true) true fuel 22 [.slice a len cap] = some x) :
    ∃ xs : List Sop, xs.length = len ∧ SLies W a xs ∧ (∀ r ∈ xs, (-9223372036854775808 ≤ r.oa ∧ r.oa ≤ 9223372036854775807) ∧ Bytes W r.da r.bl.length (lat r.bl) ∧ r.bl.length ≤ r.dc ∧ r.nm.size ≤ maxLen) ∧ (len = 0 ∨ ∃ elems spare, x.1 = .slice elems spare ∧ elems.length = len ∧ ∀ r ∈ xs, r.bl.length = 0 ∨ ∃ d0 d1 d2 es sp, DataW.agg [d0, d1, d2, .slice es sp] ∈ elems ∧ r.bl.length ≤ es.length + sp.length) := by
  rcases open_slice Tryd.underlying22 hf with ⟨hcs, _⟩ | ⟨y, l, c, m, n, D, Pl, hcs, _, hl, hm, hmm, hD, hx⟩
  · simp at hcs
    obtain ⟨rfl, rfl, rfl⟩ := hcs
    exact ⟨[], rfl, fun i hi => absurd hi (by simp), fun v hv => (by cases hv), .inl rfl⟩
  · simp at hcs
    obtain ⟨rfl, rfl, rfl⟩ := hcs
    simp at hmm
    subst hmm
    rw [cellsOp] at hx
    have hspot : 0 < len → y.spot = none := by
      intro h0
      obtain ⟨cs', h1, h2⟩ := hx 0 (by omega)
      obtain ⟨_, hlen, hcell⟩ := World.cells?_some h1
      match cs', hlen with
      | [v0, v1, v2, v3], _ =>
        have c0 := hcell 0 (by omega)
        rw [Deep.add_add] at c0
        obtain ⟨b, off, spot⟩ := y
        simpa [Addr.add] using World.cell?_spot c0
    have key : ∀ i, i < len → ∃ v : Sop, (∃ b off, some y = some (⟨b, off, none⟩ : Addr) ∧ W.cell? ⟨b, off + i * 4, none⟩ = some (.int .i64 v.kd) ∧ W.cell? ⟨b, off + i * 4 + 1, none⟩ = some (.int .i64 v.oa) ∧ W.cell? ⟨b, off + i * 4 + 2, none⟩ = some (.string v.nm) ∧ W.cell? ⟨b, off + i * 4 + 3, none⟩ = some (.slice v.da v.bl.length v.dc)) ∧
        ((-9223372036854775808 ≤ v.oa ∧ v.oa ≤ 9223372036854775807) ∧ Bytes W v.da v.bl.length (lat v.bl) ∧ v.bl.length ≤ v.dc ∧ v.nm.size ≤ maxLen) ∧ (v.bl.length = 0 ∨ ∃ d0 d1 d2 es sp, DataW.agg [d0, d1, d2, .slice es sp] = D i ∧ v.bl.length ≤ es.length + sp.length) := by
      intro i hi
      obtain ⟨cs', h1, h2⟩ := hx i (by omega)
      obtain ⟨_, hlen, hcell⟩ := World.cells?_some h1
      obtain ⟨y0, y1, y2, y3, n', hDi, _, g0, g1, g2, g3⟩ := trod_struct4 Tryd.underlying28 h2
      match cs', hlen with
      | [v0, v1, v2, v3], _ =>
        simp [cellsI, cellsStr, cellsB] at g0 g1 g2 g3
        obtain ⟨z0, e0, d0, w0⟩ := DataW.trod_int Tryd.underlying3 g0
        obtain ⟨z1, e1, d1, w1⟩ := DataW.trod_int Tryd.underlying3 g1
        obtain ⟨s, e2, ds, hsz⟩ := DataW.trod_string Tryd.underlying9 g2
        have hsl : ∃ a' len' cap', v3 = .slice a' len' cap' := by
          rcases open_slice Tryd.underlying26 g3 with ⟨hcs, _⟩ | ⟨_, l', c', _, _, _, _, hcs, _⟩
          · simp at hcs; exact ⟨_, _, _, hcs⟩
          · simp at hcs; exact ⟨_, _, _, hcs⟩
        obtain ⟨a', len', cap', rfl⟩ := hsl
        obtain ⟨ff, lf, lc, sz⟩ := bytes_in g3
        simp at e0 e1 e2
        subst e0 e1 e2
        have c0 := hcell 0 (by omega)
        have c1 := hcell 1 (by omega)
        have c2 := hcell 2 (by omega)
        have c3 := hcell 3 (by omega)
        rw [Deep.add_add] at c0 c1 c2 c3
        have hs := hspot (by omega)
        obtain ⟨b, off, spot⟩ := y
        simp at hs
        subst hs
        rw [WideShapes.add_plain] at c0 c1 c2 c3
        have hbl := blist_len ff len'
        refine ⟨⟨z0, z1, s, a', blist ff len', cap'⟩, ⟨b, off, rfl, by simpa using c0, by simpa [Nat.add_assoc] using c1, by simpa [Nat.add_assoc] using c2, ?_⟩, ⟨bounds_i64 w1, ?_, ?_, hsz⟩, ?_⟩
        · rw [hbl]; simpa [Nat.add_assoc] using c3
        · rw [hbl]
          intro j hj
          obtain ⟨b2, o2, e2, hc2⟩ := lf j hj
          exact ⟨b2, o2, e2, by rw [lat_blist ff len' j hj]; exact hc2⟩
        · rw [hbl]; exact lc
        · rw [hbl]
          have hb : D i = .agg [y0.1, y1.1, y2.1, y3.1] := by simpa using congrArg Prod.fst hDi
          rcases sz with ⟨h, _, _⟩ | ⟨el, sp, hd, hcs⟩
          · exact .inl h
          · exact .inr ⟨y0.1, y1.1, y2.1, el, sp, by rw [hb, hd], by omega⟩
    haveI : Inhabited Sop := ⟨⟨0, 0, ByteArray.empty, none, [], 0⟩⟩
    obtain ⟨f, hf'⟩ := choose_lt key
    refine ⟨(List.range len).map f, by simp, ?_, ?_, .inr ⟨_, _, by rw [hD], by simp, ?_⟩⟩
    · intro i hi
      have hi' : i < len := by simpa using hi
      obtain ⟨⟨b, off, e1, e2, e3, e4, e5⟩, -⟩ := hf' i hi'
      exact ⟨b, off, e1, by simpa using e2, by simpa using e3, by simpa using e4, by simpa using e5⟩
    · intro v hv
      obtain ⟨i, hi, rfl⟩ := List.mem_map.1 hv
      exact (hf' i (List.mem_range.1 hi)).2.1
    · intro v hv
      obtain ⟨i, hi, rfl⟩ := List.mem_map.1 hv
      have hi' := List.mem_range.1 hi
      rcases (hf' i hi').2.2 with h | ⟨d0, d1, d2, es, sp, h1, h2⟩
      · exact .inl h
      · exact .inr ⟨d0, d1, d2, es, sp, List.mem_map.2 ⟨i, List.mem_range.2 hi', h1.symm⟩, h2⟩

theorem ops_sized {H : Type} {ts : List TypeId} {ds : List (DataW H)} (hsz : (DataW.weightsEach Tryd.prog ts ds).all (· ≤ reachBytes) = true) {j : Nat} {d0 : DataW H} (ht : ts[j]? = some 22) (hd : ds[j]? = some d0) {xs : List Sop}
    (hsize : xs.length = 0 ∨ ∃ elems spare, d0 = .slice elems spare ∧ elems.length = xs.length ∧ ∀ r ∈ xs, r.bl.length = 0 ∨ ∃ d0 d1 d2 es sp, DataW.agg [d0, d1, d2, .slice es sp] ∈ elems ∧ r.bl.length ≤ es.length + sp.length) :
    xs.length ≤ 2513169434879 ∧ ∀ r ∈ xs, r.bl.length ≤ 140737488355328 := by
  rcases hsize with h | ⟨elems, spare, rfl, h2, h3⟩
  · exact ⟨by omega, fun r hr => by rw [List.eq_nil_of_length_eq_zero h] at hr; cases hr⟩
  · constructor
    · have := sized_slice hsz ht hd Tryd.underlying22
      rw [bytesOp, reach_eq] at this
      omega
    · intro r hr
      rcases h3 r hr with h | ⟨d0, d1, d2, es, sp, h4, h5⟩
      · omega
      · have := List.all_eq_true.1 hsz _ (DataW.weights_mem_each ht hd ((es.length + sp.length) * Tryd.prog.bytesOf 5) (by
          simp only [DataW.weights, Tryd.underlying22, List.mem_cons, List.mem_append]
          refine Or.inr (Or.inl (weigh_part ?_ _ h4))
          simp [DataW.weights, DataW.weightsEach, Tryd.underlying28, Tryd.underlying26]))
        have h6 := of_decide_eq_true this
        rw [bytes5, reach_eq] at h6
        omega
end Go.Proofs.YtojfhlhajemhdaaDoor
