import Derived.Test.YtkedbmpnhplmaaaRows
import Derived.Test.YtkedbmpnhplmaaaWnH
import Derived.WalkKit
import Derived.ProofKit
import Derived.OpenShut
import Derived.ShutString
import Derived.ChangeOld
import Derived.Below
import Derived.Deep.Slices
import Derived.Deep.Strs
import Derived.SizedLaws
namespace Go.Proofs.Ytkedbmpnhplmaaa
open Go.ChangeShapes Go.WideShapes Go.ChangeAt Go.RowKit
open Go.Deep
set_option linter.unusedVariables false
set_option maxRecDepth 100000

theorem own : ownKnob Try.prog.godebug = none := by kernel_rfl
theorem laidOut : laidOutB Try.prog = true := by kernel_rfl
theorem cellsWn : Try.prog.cellsOf 24 = 2 := by kernel_rfl
theorem cellsI : Try.prog.cellsOf 2 = 1 := by kernel_rfl
theorem bytesWn : Try.prog.bytesOf 24 = 16 := by kernel_rfl
theorem reach_eq : reachBytes = 140737488351232 := rfl

theorem wins_in {H : Type} {enc : TypeId × Value → H} {W : World} {a : Option Addr} {len cap fuel : Nat} {x : DataW H × List MemPlace}
    (hf : DataW.trod enc Try.prog W 0 (fun _ => true) true fuel 22 [.slice a len cap] = some x) :
    ∃ xs : List Wn, xs.length = len ∧ RdW W (.slice a len cap) xs ∧ (len = 0 ∨ ∃ elems spare, x.1 = .slice elems spare ∧ elems.length = len) := by
  rcases open_slice Try.underlying22 hf with ⟨hcs, _⟩ | ⟨y, l, c, m, n, D, Pl, hcs, _, hl, hm, hmm, hD, hx⟩
  · simp at hcs
    obtain ⟨rfl, rfl, rfl⟩ := hcs
    exact ⟨[], rfl, ⟨none, _, rfl, fun i x hi => by simp at hi⟩, .inl rfl⟩
  · simp at hcs
    obtain ⟨rfl, rfl, rfl⟩ := hcs
    simp at hmm
    subst hmm
    rw [cellsWn] at hx
    have hspot : 0 < len → y.spot = none := by
      intro h0
      obtain ⟨cs', h1, h2⟩ := hx 0 (by omega)
      obtain ⟨_, hlen, hcell⟩ := World.cells?_some h1
      match cs', hlen with
      | [v0, v1], _ =>
        have c0 := hcell 0 (by omega)
        rw [Deep.add_add] at c0
        obtain ⟨b, off, spot⟩ := y
        simpa [Addr.add] using World.cell?_spot c0
    have key : ∀ i, i < len → ∃ v : Wn, ∃ b off, some y = some (⟨b, off, none⟩ : Addr) ∧ W.cell? ⟨b, off + i * 2, none⟩ = some (.int .i64 v.a) ∧ W.cell? ⟨b, off + i * 2 + 1, none⟩ = some (.int .i64 v.b) := by
      intro i hi
      obtain ⟨cs', h1, h2⟩ := hx i (by omega)
      obtain ⟨_, hlen, hcell⟩ := World.cells?_some h1
      obtain ⟨y0, y1, n', hDi, _, g0, g1⟩ := trod_struct2 Try.underlying24 h2
      match cs', hlen with
      | [v0, v1], _ =>
        simp [cellsI] at g0 g1
        obtain ⟨k, e0, _, _⟩ := DataW.trod_int Try.underlying2 g0
        obtain ⟨nn, e1, _, _⟩ := DataW.trod_int Try.underlying2 g1
        simp at e0 e1
        subst e0 e1
        have c0 := hcell 0 (by omega)
        have c1 := hcell 1 (by omega)
        rw [Deep.add_add] at c0 c1
        have hs := hspot (by omega)
        obtain ⟨b, off, spot⟩ := y
        simp at hs
        subst hs
        rw [WideShapes.add_plain] at c0 c1
        exact ⟨⟨k, nn⟩, b, off, rfl, by simpa using c0, by simpa [Nat.add_assoc] using c1⟩
    haveI : Inhabited Wn := ⟨⟨0, 0⟩⟩
    obtain ⟨f, hf'⟩ := choose_lt key
    refine ⟨(List.range len).map f, by simp, ⟨some y, m, by simp, ?_⟩, .inr ⟨_, _, by rw [hD], by simp⟩⟩
    intro i z hz
    have hi' : i < len := by simpa using (List.getElem?_eq_some_iff.1 hz).1
    obtain ⟨b, off, e1, e2, e3⟩ := hf' i hi'
    have hzz : z = f i := by simp [hi'] at hz; exact hz.symm
    subst hzz
    exact ⟨b, off, e1, e2, e3⟩
end Go.Proofs.Ytkedbmpnhplmaaa
