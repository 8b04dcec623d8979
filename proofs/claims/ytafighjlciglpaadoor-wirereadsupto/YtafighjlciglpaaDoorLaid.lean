import Derived.Test.YtafighjlciglpaaDoorCards
import Derived.Test.YtafighjlciglpaaDoorTie
import Derived.Test.YtafighjlciglpaaDoorOpnA
import Derived.WalkKit
import Derived.ProofKit
import Derived.OpenShut
import Derived.ShutString
import Derived.ChangeOld
import Derived.ChangeSlices
import Derived.Below
import Derived.LaidSub
import Derived.LaidHandle
import Derived.SizedLaws
import Derived.Deep.DeepHandedRow
import Derived.Lib.LaidTab
import Derived.Lib.SmallJoins
import Derived.Deep.Slices
import Derived.Deep.Strs
namespace Go.Proofs.YtafighjlciglpaaDoor
open Go.ChangeShapes Go.WideShapes Go.ChangeAt Go.RowKit
open Go.Deep Go.Joins
set_option linter.unusedVariables false
set_option maxRecDepth 100000

theorem own : ownKnob Tryd.prog.godebug = none := by kernel_rfl
theorem laidOut : laidOutB Tryd.prog = true := by kernel_rfl
theorem cells5 : Tryd.prog.cellsOf 5 = 1 := by kernel_rfl
theorem cells29 : Tryd.prog.cellsOf 64 = 1 := by kernel_rfl
theorem cells63 : Tryd.prog.cellsOf 90 = 16 := by kernel_rfl
theorem bytes5 : Tryd.prog.bytesOf 5 = 1 := by kernel_rfl
theorem gQ : Tryd.prog.globalNamed "streamwright/wire.quarters" = some 1 := by kernel_rfl
theorem gQType : (Tryd.prog.globals[1]?).map (·.type) = some 90 := by kernel_rfl
theorem under63 : Tryd.prog.underlying 90 = some (.array 16 64) := by kernel_rfl
theorem gE : Tryd.prog.globalNamed "errors.errorType" = some 0 := by kernel_rfl
theorem rtyp : (Tryd.prog.cutTypes.find? (·.1 == "internal/reflectlite.rtype")).map (·.2) = some 96 := by kernel_rfl
theorem oneRow : ((List.range 146).filter fun t => Tryd.prog.rowNamed t [101, 114, 114, 111, 114]) = [25] := by kernel_rfl
theorem nTypes : Tryd.prog.types.size = 146 := by kernel_rfl

def qTab : List Int := [0, 498536548, 997073096, 651767980, 1994146192, 1802195444, 1303535960, 1342533948, 3988292384, 4027552580, 3604390888, 3412177804, 2607071920, 2262029012, 2685067896, 3183342108]
theorem qTab_at : ∀ i : Fin 16, qTab.getD i.val 0 = (tab i.val : Int) := by decide +kernel

theorem quart_of {W : World} {l : List (String × DataW Unit)} (h : laidMetH Tryd.prog l W) (e : l.filter (fun x => x.1 == "streamwright/wire.quarters") = [("streamwright/wire.quarters", Lib.tabData .u32 qTab)]) : Quart W := by
  have hf := laidMetH.filter (fun x => x.1 == "streamwright/wire.quarters") h
  rw [e] at hf
  have ht := Lib.tabIs_of_head (rest := []) gQ gQType under63 Tryd.underlying64 cells29 cells63 hf
  intro i hi
  rw [ht.cell gQ i hi, qTab_at ⟨i, hi⟩]

theorem ety_of {W : World} {l : List (String × DataW Unit)} (h : laidMetH Tryd.prog l W) (e : l.filter (fun x => x.1 == "errors.errorType") = [("errors.errorType", Rows.laid_errors_errorType)]) : Ety W := by
  have hf := laidMetH.filter (fun x => x.1 == "errors.errorType") h
  rw [e] at hf
  have h' : laidMet Tryd.prog [] W ∧ handlesMet Tryd.prog [("errors.errorType", Rows.laid_errors_errorType)] W := hf
  obtain ⟨name, u, ty, e1, e2, e3, e4, e5⟩ := h'.2 _ (List.mem_singleton.2 rfl)
  have en : name = [101, 114, 114, 111, 114] := (Option.some.inj e1).symm
  subst en
  obtain rfl := Option.some.inj (rtyp.symm.trans e2)
  have hm : ty ∈ (List.range 146).filter fun t => Tryd.prog.rowNamed t [101, 114, 114, 111, 114] := List.mem_filter.2 ⟨List.mem_range.2 (by rw [← nTypes]; exact e3), e4⟩
  rw [oneRow] at hm
  obtain rfl := List.mem_singleton.1 hm
  have hh : typeHandle Tryd.prog 25 = .pointer (some ⟨2, 25, none⟩) := by kernel_rfl
  rw [hh] at e5
  have := World.var?_cell gE e5 0
  unfold Ety
  simpa using this

/-- A WORLD FOR THE WITNESS: each listed variable holds what its initialiser lays. -/
def setRow (cs : Array Value) : Obj → Obj
  | .cells _ t frozen => .cells cs t frozen
  | o => o
def laidOver (w : World) : World :=
  { w with heap := (w.heap.modify 1 (setRow (qTab.map (Value.int .u32)).toArray)).modify 0 (setRow #[.iface 96 (.agg #[.pointer (some ⟨2, 25, none⟩)])]) }

theorem wf_u8 {z : Int} (h : (Lit.int .u8 z).wf = true) : 0 ≤ z ∧ z < 256 := by
  have h' : (decide (IntKind.u8.min ≤ z) && decide (z ≤ IntKind.u8.max)) = true := h
  have e1 : IntKind.u8.min = 0 := by decide
  have e2 : IntKind.u8.max = 255 := by decide
  simp [e1, e2] at h'
  omega
/-- Bytes that came in: they lie in memory; how long the row can be. -/
theorem bytes_in {H : Type} {enc : TypeId × Value → H} {W : World} {a : Option Addr} {len cap fuel : Nat} {x : DataW H × List MemPlace}
    (hf : DataW.trod enc Tryd.prog W 0 (fun _ => true) true fuel 22 [.slice a len cap] = some x) : ∃ f : Nat → UInt8, Bytes W a len f ∧ len ≤ cap ∧
      ((len = 0 ∧ cap = 0 ∧ a = none) ∨ ∃ elems spare, x.1 = .slice elems spare ∧ cap ≤ elems.length + spare.length) := by
  rcases open_ints Tryd.underlying22 Tryd.underlying5 cells5 hf with ⟨hcs, _⟩ | ⟨y, l, c, zs, hcs, _, hl, hm, hz, hx, hc, hw⟩
  · simp at hcs
    obtain ⟨rfl, rfl, rfl⟩ := hcs
    exact ⟨fun _ => 0, fun i hi => absurd hi (by omega), Nat.le_refl _, .inl ⟨rfl, rfl, rfl⟩⟩
  · simp at hcs
    obtain ⟨rfl, rfl, rfl⟩ := hcs
    simp at hz
    refine ⟨fun i => UInt8.ofNat (zs.getD i 0).toNat, ?_, hl, .inr ⟨_, _, by rw [hx], by simp [lits]; omega⟩⟩
    intro i hi
    have h1 := hc i (by omega)
    have hspot : y.spot = none := by
      have h0 := hc 0 (by omega)
      obtain ⟨b, off, spot⟩ := y
      simpa [Addr.add] using World.cell?_spot h0
    obtain ⟨b, off, spot⟩ := y
    simp at hspot
    subst hspot
    refine ⟨b, off, rfl, ?_⟩
    rw [WideShapes.add_plain] at h1
    rw [h1]
    have hi' : i < zs.length := by omega
    have hmem : zs.getD i 0 ∈ zs := by simp [List.getD, hi']
    have hwf := hw _ hmem
    have hb : 0 ≤ zs.getD i 0 ∧ zs.getD i 0 < 256 := by
      exact wf_u8 hwf
    congr 2
    show _ = ((UInt8.ofNat (zs.getD i 0).toNat).toNat : Int)
    rw [UInt8.toNat_ofNat']
    omega
end Go.Proofs.YtafighjlciglpaaDoor
