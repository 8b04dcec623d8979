import Derived.Test.YtodkekmfadfjkaaGreatDoorRows
import Derived.Test.YtodkekmfadfjkaaGreatDoorVlB
import Derived.WalkKit
import Derived.ProofKit
import Derived.OpenShut
import Derived.ShutString
import Derived.ChangeOld
import Derived.Below
import Derived.Deep.Slices
import Derived.Deep.Strs
import Derived.SizedLaws
namespace Go.Proofs.YtodkekmfadfjkaaGreatDoor
open Go.ChangeShapes Go.WideShapes Go.ChangeAt Go.RowKit
open Go.Deep
set_option linter.unusedVariables false
set_option maxRecDepth 100000

theorem own : ownKnob Tryz.prog.godebug = none := by kernel_rfl
theorem laidOut : laidOutB Tryz.prog = true := by kernel_rfl
theorem cellsVal : Tryz.prog.cellsOf 39 = 3 := by kernel_rfl
theorem cellsRow : Tryz.prog.cellsOf 24 = 2 := by kernel_rfl
theorem cellsKind : Tryz.prog.cellsOf 37 = 1 := by kernel_rfl
theorem cellsVals : Tryz.prog.cellsOf 22 = 1 := by kernel_rfl
theorem cellsI64 : Tryz.prog.cellsOf 2 = 1 := by kernel_rfl
theorem cellsStr : Tryz.prog.cellsOf 9 = 1 := by kernel_rfl
theorem bytesVal : Tryz.prog.bytesOf 39 = 32 := by kernel_rfl
theorem bytesRow : Tryz.prog.bytesOf 24 = 32 := by kernel_rfl
theorem reach_eq : reachBytes = 140737488351232 := rfl

/-- What a part weighs is among what all weigh. -/
theorem weigh_part {H : Type} {P : Program} {e : TypeId} {d : DataW H} {n : Nat} (hn : n ∈ d.weights P e) (l : List (DataW H)) (hd : d ∈ l) : n ∈ DataW.weightsAll P e l := by
  induction l with
  | nil => cases hd
  | cons x r ih =>
    rw [DataW.weightsAll, List.mem_append]
    cases hd with
    | head => exact .inl hn
    | tail _ h => exact .inr (ih h)

theorem vals_in {H : Type} {enc : TypeId × Value → H} {W : World} {a : Option Addr} {len cap fuel : Nat} {x : DataW H × List MemPlace}
    (hf : DataW.trod enc Tryz.prog W 0 (fun _ => true) true fuel 22 [.slice a len cap] = some x) :
    ∃ vs : List V, vs.length = len ∧ VLies W a vs ∧ (len = 0 ∨ ∃ elems spare, x.1 = .slice elems spare ∧ elems.length = len ∧ ∀ v ∈ vs, ∃ d1 d2 bs, DataW.agg [d1, d2, .lit (.string bs)] ∈ elems ∧ bs.length = v.s.size) := by
  rcases open_slice Tryz.underlying22 hf with ⟨hcs, _⟩ | ⟨y, l, c, m, n, D, Pl, hcs, _, hl, hm, hmm, hD, hx⟩
  · simp at hcs
    obtain ⟨rfl, rfl, rfl⟩ := hcs
    exact ⟨[], rfl, fun i hi => absurd hi (by simp), .inl rfl⟩
  · simp at hcs
    obtain ⟨rfl, rfl, rfl⟩ := hcs
    simp at hmm
    subst hmm
    rw [cellsVal] at hx
    have hspot : 0 < len → y.spot = none := by
      intro h0
      obtain ⟨cs', h1, h2⟩ := hx 0 (by omega)
      obtain ⟨_, hlen, hcell⟩ := World.cells?_some h1
      match cs', hlen with
      | [v0, v1, v2], _ =>
        have c0 := hcell 0 (by omega)
        rw [Deep.add_add] at c0
        obtain ⟨b, off, spot⟩ := y
        simpa [Addr.add] using World.cell?_spot c0
    have key : ∀ i, i < len → ∃ v : V, (∃ b off, some y = some (⟨b, off, none⟩ : Addr) ∧ W.cell? ⟨b, off + i * 3, none⟩ = some (.int .i64 v.k) ∧ W.cell? ⟨b, off + i * 3 + 1, none⟩ = some (.int .i64 v.n) ∧ W.cell? ⟨b, off + i * 3 + 2, none⟩ = some (.string v.s)) ∧ ∃ d1 d2 bs, D i = .agg [d1, d2, .lit (.string bs)] ∧ bs.length = v.s.size := by
      intro i hi
      obtain ⟨cs', h1, h2⟩ := hx i (by omega)
      obtain ⟨_, hlen, hcell⟩ := World.cells?_some h1
      obtain ⟨y0, y1, y2, n', hDi, _, g0, g1, g2⟩ := trod_struct3 Tryz.underlying39 h2
      match cs', hlen with
      | [v0, v1, v2], _ =>
        simp [cellsKind, cellsI64, cellsStr] at g0 g1 g2
        obtain ⟨k, e0, _, _⟩ := DataW.trod_int Tryz.underlying37 g0
        obtain ⟨nn, e1, _, _⟩ := DataW.trod_int Tryz.underlying2 g1
        obtain ⟨s, e2, ds, _⟩ := DataW.trod_string Tryz.underlying9 g2
        simp at e0 e1 e2
        subst e0 e1 e2
        have c0 := hcell 0 (by omega)
        have c1 := hcell 1 (by omega)
        have c2 := hcell 2 (by omega)
        rw [Deep.add_add] at c0 c1 c2
        have hs := hspot (by omega)
        obtain ⟨b, off, spot⟩ := y
        simp at hs
        subst hs
        rw [WideShapes.add_plain] at c0 c1 c2
        have hb : D i = .agg [y0.1, y1.1, y2.1] := by simpa using congrArg Prod.fst hDi
        refine ⟨⟨k, nn, s⟩, ⟨b, off, rfl, by simpa using c0, by simpa [Nat.add_assoc] using c1, by simpa [Nat.add_assoc] using c2⟩, y0.1, y1.1, _, by rw [hb, ds], by simp⟩
    haveI : Inhabited V := ⟨⟨0, 0, ByteArray.empty⟩⟩
    obtain ⟨f, hf'⟩ := choose_lt key
    refine ⟨(List.range len).map f, by simp, ?_, .inr ⟨_, _, by rw [hD], by simp, ?_⟩⟩
    · intro i hi
      have hi' : i < len := by simpa using hi
      obtain ⟨⟨b, off, e1, e2, e3, e4⟩, -⟩ := hf' i hi'
      exact ⟨b, off, e1, by simpa using e2, by simpa using e3, by simpa using e4⟩
    · intro v hv
      obtain ⟨i, hi, rfl⟩ := List.mem_map.1 hv
      have hi' := List.mem_range.1 hi
      obtain ⟨-, d1, d2, bs, h1, h2⟩ := hf' i hi'
      exact ⟨d1, d2, bs, List.mem_map.2 ⟨i, List.mem_range.2 hi', h1⟩, h2⟩

end Go.Proofs.YtodkekmfadfjkaaGreatDoor
