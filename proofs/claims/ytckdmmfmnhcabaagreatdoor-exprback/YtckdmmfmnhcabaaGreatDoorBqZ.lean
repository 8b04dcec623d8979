import Derived.Test.YtckdmmfmnhcabaaGreatDoorCards
import Derived.Test.YtckdmmfmnhcabaaGreatDoorTie
import Derived.Test.YtckdmmfmnhcabaaGreatDoorRows
import Derived.Test.YtckdmmfmnhcabaaGreatDoorBq1
import Derived.WalkKit
import Derived.ProofKit
import Derived.OpenShut
import Derived.ShutString
import Derived.ChangeOld
import Derived.ChangeSlices
import Derived.Below
import Derived.LaidSub
import Derived.LaidHandle
import Derived.LaidLaws
import Derived.Stop.LaidErr
import Derived.SizedLaws
import Derived.Deep.DeepHandedRow
import Derived.Deep.DeepWitnessRowRef
import Derived.Lib.LaidTab
import Derived.Lib.SmallJoins
import Derived.Deep.Slices
import Derived.Deep.Strs
namespace Go.Proofs.YtckdmmfmnhcabaaGreatDoor
open Go.ChangeShapes Go.WideShapes Go.ChangeAt Go.RowKit
open Go.ChangeMaps (open_string shut_string)
open Go.Deep Go.Joins
set_option linter.unusedVariables false
set_option maxRecDepth 100000

theorem own : ownKnob Tryz.prog.godebug = none := by kernel_rfl
theorem laidOut : laidOutB Tryz.prog = true := by kernel_rfl
theorem cellsCol : Tryz.prog.cellsOf 49 = 2 := by kernel_rfl
theorem cellsKind : Tryz.prog.cellsOf 23 = 1 := by kernel_rfl
theorem cellsStr : Tryz.prog.cellsOf 9 = 1 := by kernel_rfl
theorem cellsU64 : Tryz.prog.cellsOf 182 = 1 := by kernel_rfl
theorem cellsPow : Tryz.prog.cellsOf 194 = 20 := by kernel_rfl
theorem bytesCol : Tryz.prog.bytesOf 49 = 24 := by kernel_rfl
theorem reach_eq : reachBytes = 140737488351232 := rfl

/-- What a part weighs is among what all weigh. -/
theorem weigh_part {H : Type} {P : Program} {e : TypeId} {d : DataW H} {n : Nat} (hn : n ∈ d.weights P e) (l : List (DataW H)) (hd : d ∈ l) : n ∈ DataW.weightsAll P e l := by
  induction l with
  | nil => cases hd
  | cons x r ih =>
    rw [DataW.weightsAll, List.mem_append]
    cases hd with
    | head => exact .inl hn
    | tail _ h => exact .inr (ih h)

theorem col_in {H : Type} {enc : TypeId × Value → H} {W : World} {fuel : Nat} {cs : List Value} {x : DataW H × List MemPlace} (hlen : cs.length = 2)
    (h : DataW.trod enc Tryz.prog W 0 (fun _ => true) true fuel 49 cs = some x) :
    ∃ o : Co, cs = [.string o.nm, .int .i64 o.k] ∧ ∃ d bs, x.1 = .agg [.lit (.string bs), d] ∧ bs.length = o.nm.size := by
  obtain ⟨y0, y1, n', hDi, _, g0, g1⟩ := trod_struct2 Tryz.underlying49 h
  match cs, hlen with
  | [v0, v1], _ =>
    simp [cellsKind, cellsStr] at g0 g1
    obtain ⟨s, e0, ds, _⟩ := DataW.trod_string Tryz.underlying9 g0
    obtain ⟨k, e1, _, wk⟩ := DataW.trod_int Tryz.underlying23 g1
    simp at e0 e1
    subst e0 e1
    refine ⟨⟨s, k⟩, rfl, y1.1, s.data.toList, ?_, by simp⟩
    rw [hDi]
    simp [ds]

theorem cols_in {H : Type} {enc : TypeId × Value → H} {W : World} {a : Option Addr} {len cap fuel : Nat} {x : DataW H × List MemPlace}
    (hf : DataW.trod enc Tryz.prog W 0 (fun _ => true) true fuel 22 [.slice a len cap] = some x) :
    ∃ l : List Co, l.length = len ∧ ColsAt W a l ∧ (len = 0 ∨ ∃ elems spare, x.1 = .slice elems spare ∧ elems.length = len ∧ ∀ o ∈ l, ∃ d bs, DataW.agg [.lit (.string bs), d] ∈ elems ∧ bs.length = o.nm.size) := by
  rcases open_slice Tryz.underlying22 hf with ⟨hcs, _⟩ | ⟨y, l, c, m, n, D, Pl, hcs, _, hl, hm, hmm, hD, hx⟩
  · simp at hcs
    obtain ⟨rfl, rfl, rfl⟩ := hcs
    exact ⟨[], rfl, fun i hi => absurd hi (by simp), .inl rfl⟩
  · simp at hcs
    obtain ⟨rfl, rfl, rfl⟩ := hcs
    simp at hmm
    subst hmm
    rw [cellsCol] at hx
    have hspot : 0 < len → y.spot = none := by
      intro h0
      obtain ⟨cs', h1, h2⟩ := hx 0 (by omega)
      obtain ⟨_, hlen, hcell⟩ := World.cells?_some h1
      match cs', hlen with
      | [v0, v1], _ =>
        have c0 := hcell 0 (by omega)
        rw [Deep.add_add] at c0
        obtain ⟨b, off, spot⟩ := y
        simpa [Addr.add] using World.cell?_spot c0
    have key : ∀ i, i < len → ∃ o : Co, (∃ b off, some y = some (⟨b, off, none⟩ : Addr) ∧ W.cell? ⟨b, off + i * 2, none⟩ = some (.string o.nm) ∧ W.cell? ⟨b, off + i * 2 + 1, none⟩ = some (.int .i64 o.k)) ∧ ∃ d bs, D i = .agg [.lit (.string bs), d] ∧ bs.length = o.nm.size := by
      intro i hi
      obtain ⟨cs', h1, h2⟩ := hx i (by omega)
      obtain ⟨_, hlen, hcell⟩ := World.cells?_some h1
      obtain ⟨o, rfl, hd⟩ := col_in hlen h2
      have c0 := hcell 0 (by simp)
      have c1 := hcell 1 (by simp)
      rw [Deep.add_add] at c0 c1
      have hs := hspot (by omega)
      obtain ⟨b, off, spot⟩ := y
      simp at hs
      subst hs
      rw [WideShapes.add_plain] at c0 c1
      exact ⟨o, ⟨b, off, rfl, by simpa using c0, by simpa [Nat.add_assoc] using c1⟩, hd⟩
    haveI : Inhabited Co := ⟨⟨⟨#[]⟩, 0⟩⟩
    obtain ⟨f, hf'⟩ := choose_lt key
    refine ⟨(List.range len).map f, by simp, ?_, .inr ⟨_, _, by rw [hD], by simp, ?_⟩⟩
    · intro i hi
      have hi' : i < len := by simpa using hi
      obtain ⟨⟨b, off, e1, e2, e3⟩, -⟩ := hf' i hi'
      exact ⟨b, off, e1, by simpa using e2, by simpa using e3⟩
    · intro v hv
      obtain ⟨i, hi, rfl⟩ := List.mem_map.1 hv
      have hi' := List.mem_range.1 hi
      obtain ⟨-, d, bs, h1, h2⟩ := hf' i hi'
      exact ⟨d, bs, List.mem_map.2 ⟨i, List.mem_range.2 hi', h1⟩, h2⟩

theorem cols_sized {H : Type} {ts : List TypeId} {ds : List (DataW H)} {j : Nat} {d0 : DataW H} {l : List Co} (hsz : (DataW.weightsEach Tryz.prog ts ds).all (· ≤ reachBytes) = true) (ht : ts[j]? = some 22) (hd : ds[j]? = some d0)
    (hsize : l.length = 0 ∨ ∃ elems spare, d0 = .slice elems spare ∧ elems.length = l.length ∧ ∀ o ∈ l, ∃ d bs, DataW.agg [.lit (.string bs), d] ∈ elems ∧ bs.length = o.nm.size) :
    l.length ≤ 5864062014635 ∧ ∀ o ∈ l, o.nm.size ≤ 140737488351232 := by
  rcases hsize with h | ⟨elems, spare, rfl, h2, h3⟩
  · exact ⟨by omega, fun r hr => by rw [List.eq_nil_of_length_eq_zero h] at hr; cases hr⟩
  · constructor
    · have := sized_slice hsz ht hd Tryz.underlying22
      rw [bytesCol, reach_eq] at this
      omega
    · intro o ho
      obtain ⟨d, bs, h7, h8⟩ := h3 o ho
      have := List.all_eq_true.1 hsz _ (DataW.weights_mem_each ht hd bs.length (by
        simp only [DataW.weights, Tryz.underlying22, List.mem_cons, List.mem_append]
        refine Or.inr (Or.inl (weigh_part ?_ _ h7))
        simp [DataW.weights, DataW.weightsEach, Tryz.underlying49]))
      have h9 := of_decide_eq_true this
      rw [reach_eq] at h9
      omega

theorem gPow : Tryz.prog.globalNamed "internal/strconv.uint64pow10" = some 1 := by kernel_rfl
theorem gPowType : (Tryz.prog.globals[1]?).map (·.type) = some 194 := by kernel_rfl
theorem powTab {W : World} {l : List (String × DataW Unit)} (h : laidMetH Tryz.prog l W) (e : l.filter (fun x => x.1 == "internal/strconv.uint64pow10") = [("internal/strconv.uint64pow10", Lib.tabData .u64 Lib.pow10Tab)]) : Vl.Tab W := by
  have hf := laidMetH.filter (fun x => x.1 == "internal/strconv.uint64pow10") h
  rw [e] at hf
  exact Lib.tabIs_of_head (rest := []) gPow gPowType Tryz.underlying194 Tryz.underlying182 cellsU64 cellsPow hf
theorem gSyn : Tryz.prog.globalNamed "strconv.ErrSyntax" = some 5 := by kernel_rfl
theorem gRng : Tryz.prog.globalNamed "strconv.ErrRange" = some 6 := by kernel_rfl
theorem star : "*" ++ "errors.errorString" = "*errors.errorString" := by decide
theorem errRow (u : TypeId) (h : Tryz.prog.typeName? 3 u = some "*errors.errorString") : u = 247 :=
  typeName_ptr_named (nm := "errors.errorString") (by rw [star]; kernel_rfl) (by kernel_rfl) (by decide) u (by rw [star]; exact h)
theorem senOf {W : World} {l : List (String × DataW Unit)} (h : laidMetH Tryz.prog l W) (e : l.filter (fun x => x.1 == "strconv.ErrSyntax") = [("strconv.ErrSyntax", Rows.laid_strconv_ErrSyntax)]) : Vl.Sen W := by
  have hf := laidMetH.filter (fun x => x.1 == "strconv.ErrSyntax") h
  rw [e] at hf
  obtain ⟨a, t, hv, _⟩ := laid_sentinel (r := []) (g := 5) (W := W) hf gSyn (by kernel_rfl) Tryz.underlying25 errRow Tryz.underlying247 Tryz.underlying249 rfl rfl Tryz.underlying9 (by kernel_rfl) (by kernel_rfl)
  exact ⟨_, World.var?_cell gSyn hv 0, .inr ⟨_, _, rfl⟩⟩
theorem senOf3 {W : World} {l : List (String × DataW Unit)} (h : laidMetH Tryz.prog l W) (e : l.filter (fun x => x.1 == "strconv.ErrRange") = [("strconv.ErrRange", Rows.laid_strconv_ErrRange)]) : Vl.Sen3 W := by
  have hf := laidMetH.filter (fun x => x.1 == "strconv.ErrRange") h
  rw [e] at hf
  obtain ⟨a, t, hv, _⟩ := laid_sentinel (r := []) (g := 6) (W := W) hf gRng (by kernel_rfl) Tryz.underlying25 errRow Tryz.underlying247 Tryz.underlying249 rfl rfl Tryz.underlying9 (by kernel_rfl) (by kernel_rfl)
  exact ⟨_, World.var?_cell gRng hv 0, .inr ⟨_, _, rfl⟩⟩
theorem gE : Tryz.prog.globalNamed "errors.errorType" = some 0 := by kernel_rfl
theorem rtyp : (Tryz.prog.cutTypes.find? (·.1 == "internal/reflectlite.rtype")).map (·.2) = some 139 := by kernel_rfl
theorem oneRow : ((List.range 278).filter fun t => Tryz.prog.rowNamed t [101, 114, 114, 111, 114]) = [25] := by kernel_rfl
theorem nTypes : Tryz.prog.types.size = 278 := by kernel_rfl

theorem ety_of {W : World} {l : List (String × DataW Unit)} (h : laidMetH Tryz.prog l W) (e : l.filter (fun x => x.1 == "errors.errorType") = [("errors.errorType", Rows.laid_errors_errorType)]) : Td.Ety W := by
  have hf := laidMetH.filter (fun x => x.1 == "errors.errorType") h
  rw [e] at hf
  have h' : laidMet Tryz.prog [] W ∧ handlesMet Tryz.prog [("errors.errorType", Rows.laid_errors_errorType)] W := hf
  obtain ⟨name, u, ty, e1, e2, e3, e4, e5⟩ := h'.2 _ (List.mem_singleton.2 rfl)
  have en : name = [101, 114, 114, 111, 114] := (Option.some.inj e1).symm
  subst en
  obtain rfl := Option.some.inj (rtyp.symm.trans e2)
  have hm : ty ∈ (List.range 278).filter fun t => Tryz.prog.rowNamed t [101, 114, 114, 111, 114] := List.mem_filter.2 ⟨List.mem_range.2 (by rw [← nTypes]; exact e3), e4⟩
  rw [oneRow] at hm
  obtain rfl := List.mem_singleton.1 hm
  have hh : typeHandle Tryz.prog 25 = .pointer (some ⟨7, 25, none⟩) := by kernel_rfl
  rw [hh] at e5
  have := World.var?_cell gE e5 0
  unfold Td.Ety
  simpa using this

/-- A WORLD FOR THE WITNESS: each listed variable holds what its initialiser lays. -/
def setRow (cs : Array Value) : Obj → Obj
  | .cells _ t frozen => .cells cs t frozen
  | o => o
def laidOver (w : World) : World :=
  { w with heap := (((((((w.heap.push (.cells #[.string ⟨#[118, 97, 108, 117, 101, 32, 111, 117, 116, 32, 111, 102, 32, 114, 97, 110, 103, 101]⟩] 249)).push (.cells #[.string ⟨#[105, 110, 118, 97, 108, 105, 100, 32, 115, 121, 110, 116, 97, 120]⟩] 249)).modify 6 (setRow #[.iface 247 (.pointer (some ⟨w.heap.size, 0, none⟩))])).modify 5 (setRow #[.iface 247 (.pointer (some ⟨w.heap.size + 1, 0, none⟩))])).modify 1 (setRow #[.int .u64 1, .int .u64 10, .int .u64 100, .int .u64 1000, .int .u64 10000, .int .u64 100000, .int .u64 1000000, .int .u64 10000000, .int .u64 100000000, .int .u64 1000000000, .int .u64 10000000000, .int .u64 100000000000, .int .u64 1000000000000, .int .u64 10000000000000, .int .u64 100000000000000, .int .u64 1000000000000000, .int .u64 10000000000000000, .int .u64 100000000000000000, .int .u64 1000000000000000000, .int .u64 10000000000000000000])).modify 3 (setRow #[.int .u8 0, .int .u8 1, .int .u8 28, .int .u8 2, .int .u8 29, .int .u8 14, .int .u8 24, .int .u8 3, .int .u8 30, .int .u8 22, .int .u8 20, .int .u8 15, .int .u8 25, .int .u8 17, .int .u8 4, .int .u8 8, .int .u8 31, .int .u8 27, .int .u8 13, .int .u8 23, .int .u8 21, .int .u8 19, .int .u8 16, .int .u8 7, .int .u8 26, .int .u8 12, .int .u8 18, .int .u8 6, .int .u8 11, .int .u8 5, .int .u8 10, .int .u8 9])).modify 4 (setRow #[.int .u8 0, .int .u8 1, .int .u8 56, .int .u8 2, .int .u8 57, .int .u8 49, .int .u8 28, .int .u8 3, .int .u8 61, .int .u8 58, .int .u8 42, .int .u8 50, .int .u8 38, .int .u8 29, .int .u8 17, .int .u8 4, .int .u8 62, .int .u8 47, .int .u8 59, .int .u8 36, .int .u8 45, .int .u8 43, .int .u8 51, .int .u8 22, .int .u8 53, .int .u8 39, .int .u8 33, .int .u8 30, .int .u8 24, .int .u8 18, .int .u8 12, .int .u8 5, .int .u8 63, .int .u8 55, .int .u8 48, .int .u8 27, .int .u8 60, .int .u8 41, .int .u8 37, .int .u8 16, .int .u8 46, .int .u8 35, .int .u8 44, .int .u8 21, .int .u8 52, .int .u8 32, .int .u8 23, .int .u8 11, .int .u8 54, .int .u8 26, .int .u8 40, .int .u8 15, .int .u8 34, .int .u8 20, .int .u8 31, .int .u8 10, .int .u8 25, .int .u8 14, .int .u8 19, .int .u8 9, .int .u8 13, .int .u8 8, .int .u8 7, .int .u8 6])).modify 0 (setRow #[.iface 139 (.agg #[.pointer (some ⟨7, 25, none⟩)])]) }

theorem cellsVal : Tryz.prog.cellsOf 42 = 3 := by kernel_rfl
theorem cellsI64 : Tryz.prog.cellsOf 2 = 1 := by kernel_rfl
theorem bytesVal : Tryz.prog.bytesOf 42 = 32 := by kernel_rfl
theorem val_in {H : Type} {enc : TypeId × Value → H} {W : World} {fuel : Nat} {cs : List Value} {x : DataW H × List MemPlace} (hlen : cs.length = 3)
    (h : DataW.trod enc Tryz.prog W 0 (fun _ => true) true fuel 42 cs = some x) :
    ∃ o : Vl, cs = [.int .i64 o.k, .int .i64 o.n, .string o.t] ∧ (Lit.int .i64 o.n).wf = true ∧ ∃ d1 d2 bs, x.1 = .agg [d1, d2, .lit (.string bs)] ∧ bs.length = o.t.size := by
  obtain ⟨z0, z1, z2, n2, hz, _, f0, f1, f2⟩ := trod_struct3 Tryz.underlying42 h
  match cs, hlen with
  | [v0, v1, v2], _ =>
    simp [cellsKind, cellsI64, cellsStr] at f0 f1 f2
    obtain ⟨k, e1, _, wk⟩ := DataW.trod_int Tryz.underlying23 f0
    obtain ⟨nn, e2, _, wn⟩ := DataW.trod_int Tryz.underlying2 f1
    obtain ⟨s, e3, ds, _⟩ := DataW.trod_string Tryz.underlying9 f2
    simp at e1 e2 e3
    subst e1 e2 e3
    refine ⟨⟨k, nn, s⟩, rfl, wn, z0.1, z1.1, s.data.toList, ?_, by simp⟩
    rw [hz]
    simp [ds]
theorem vals_in {H : Type} {enc : TypeId × Value → H} {W : World} {a : Option Addr} {len cap fuel : Nat} {x : DataW H × List MemPlace}
    (hf : DataW.trod enc Tryz.prog W 0 (fun _ => true) true fuel 40 [.slice a len cap] = some x) :
    ∃ l : List Vl, l.length = len ∧ VsAt W a l ∧ (∀ o ∈ l, (Lit.int .i64 o.n).wf = true) ∧ (len = 0 ∨ ∃ elems spare, x.1 = .slice elems spare ∧ elems.length = len ∧ ∀ o ∈ l, ∃ d1 d2 bs, DataW.agg [d1, d2, .lit (.string bs)] ∈ elems ∧ bs.length = o.t.size) := by
  rcases open_slice Tryz.underlying40 hf with ⟨hcs, _⟩ | ⟨y, l, c, m, n, D, Pl, hcs, _, hl, hm, hmm, hD, hx⟩
  · simp at hcs
    obtain ⟨rfl, rfl, rfl⟩ := hcs
    exact ⟨[], rfl, fun i hi => absurd hi (by simp), (fun o ho => by cases ho), .inl rfl⟩
  · simp at hcs
    obtain ⟨rfl, rfl, rfl⟩ := hcs
    simp at hmm
    subst hmm
    rw [cellsVal] at hx
    have hspot : 0 < len → y.spot = none := by
      intro h0
      obtain ⟨cs', h1, h2⟩ := hx 0 (by omega)
      obtain ⟨_, hlen, hcell⟩ := World.cells?_some h1
      match cs', hlen with
      | [v0, v1, v2], _ =>
        have c0 := hcell 0 (by omega)
        rw [Deep.add_add] at c0
        obtain ⟨b, off, spot⟩ := y
        simpa [Addr.add] using World.cell?_spot c0
    have key : ∀ i, i < len → ∃ o : Vl, (∃ b off, some y = some (⟨b, off, none⟩ : Addr) ∧ W.cell? ⟨b, off + i * 3, none⟩ = some (.int .i64 o.k) ∧ W.cell? ⟨b, off + i * 3 + 1, none⟩ = some (.int .i64 o.n) ∧ W.cell? ⟨b, off + i * 3 + 2, none⟩ = some (.string o.t)) ∧ (Lit.int .i64 o.n).wf = true ∧ ∃ d1 d2 bs, D i = .agg [d1, d2, .lit (.string bs)] ∧ bs.length = o.t.size := by
      intro i hi
      obtain ⟨cs', h1, h2⟩ := hx i (by omega)
      obtain ⟨_, hlen, hcell⟩ := World.cells?_some h1
      obtain ⟨o, rfl, hw, hd⟩ := val_in hlen h2
      have c0 := hcell 0 (by simp)
      have c1 := hcell 1 (by simp)
      have c2 := hcell 2 (by simp)
      rw [Deep.add_add] at c0 c1 c2
      have hs := hspot (by omega)
      obtain ⟨b, off, spot⟩ := y
      simp at hs
      subst hs
      rw [WideShapes.add_plain] at c0 c1 c2
      exact ⟨o, ⟨b, off, rfl, by simpa using c0, by simpa [Nat.add_assoc] using c1, by simpa [Nat.add_assoc] using c2⟩, hw, hd⟩
    haveI : Inhabited Vl := ⟨vNull⟩
    obtain ⟨f, hf'⟩ := choose_lt key
    refine ⟨(List.range len).map f, by simp, ?_, ?_, .inr ⟨_, _, by rw [hD], by simp, ?_⟩⟩
    · intro i hi
      have hi' : i < len := by simpa using hi
      obtain ⟨⟨b, off, e1, e2, e3, e4⟩, -⟩ := hf' i hi'
      exact ⟨b, off, e1, by simpa using e2, by simpa using e3, by simpa using e4⟩
    · intro v hv
      obtain ⟨i, hi, rfl⟩ := List.mem_map.1 hv
      exact (hf' i (List.mem_range.1 hi)).2.1
    · intro v hv
      obtain ⟨i, hi, rfl⟩ := List.mem_map.1 hv
      have hi' := List.mem_range.1 hi
      obtain ⟨-, -, d1, d2, bs, h1, h2⟩ := hf' i hi'
      exact ⟨d1, d2, bs, List.mem_map.2 ⟨i, List.mem_range.2 hi', h1⟩, h2⟩
theorem vals_sized {H : Type} {ts : List TypeId} {ds : List (DataW H)} {j : Nat} {d0 : DataW H} {l : List Vl} (hsz : (DataW.weightsEach Tryz.prog ts ds).all (· ≤ reachBytes) = true) (ht : ts[j]? = some 40) (hd : ds[j]? = some d0)
    (hsize : l.length = 0 ∨ ∃ elems spare, d0 = .slice elems spare ∧ elems.length = l.length ∧ ∀ o ∈ l, ∃ d1 d2 bs, DataW.agg [d1, d2, .lit (.string bs)] ∈ elems ∧ bs.length = o.t.size) :
    l.length ≤ 4398046511000 ∧ ∀ o ∈ l, o.t.size ≤ 140737488351232 := by
  rcases hsize with h | ⟨elems, spare, rfl, h2, h3⟩
  · exact ⟨by omega, fun r hr => by rw [List.eq_nil_of_length_eq_zero h] at hr; cases hr⟩
  · constructor
    · have := sized_slice hsz ht hd Tryz.underlying40
      rw [bytesVal, reach_eq] at this
      omega
    · intro o ho
      obtain ⟨d1, d2, bs, h7, h8⟩ := h3 o ho
      have := List.all_eq_true.1 hsz _ (DataW.weights_mem_each ht hd bs.length (by
        simp only [DataW.weights, Tryz.underlying40, List.mem_cons, List.mem_append]
        refine Or.inr (Or.inl (weigh_part ?_ _ h7))
        simp [DataW.weights, DataW.weightsEach, Tryz.underlying42]))
      have h9 := of_decide_eq_true this
      rw [reach_eq] at h9
      omega
theorem wf64 {n : Int} (h : (Lit.int .i64 n).wf = true) : -9223372036854775808 ≤ n ∧ n ≤ 9223372036854775807 := by
  have h' : IntKind.i64.min ≤ n ∧ n ≤ IntKind.i64.max := by simpa [Lit.wf] using h
  have e1 : IntKind.i64.min = -9223372036854775808 := by decide
  have e2 : IntKind.i64.max = 9223372036854775807 := by decide
  omega
theorem back_contract (H : Type) (enc : TypeId × Value → H) (W : World) (base : Nat) (args : Array Value) (ds gs : List (DataW H)) (before : List MemPlace)
    (hval : ∀ (j : Nat) t v, Tryz.f6.params[j]? = some t → args[j]? = some v → Value.okWide Tryz.prog W .any base t v)
    (hW : DataW.Whole enc Tryz.prog Tryz.f6.params.toList Rows.exprBackSpec.vars false W args.toList ds gs before)
    (hz : (DataW.weightsEach Tryz.prog (Tryz.f6.params.toList ++ []) (ds ++ gs)).all (· ≤ reachBytes) = true) (hL : laidMetH Tryz.prog Rows.exprBackRow.laid W) :
    Calls Tryz.prog 6 args W fun e W' => ∃ v, e = .returned v ∧ Rows.exprBackSpec.post enc Tryz.prog Tryz.f6 false true false false W args v W' := by
  have hW' := hW
  obtain ⟨p, q, hA0, hV, rfl, hfz, hnd⟩ := hW
  have hA : DataW.TrodAll enc Tryz.prog W 0 (fun _ => true) true Tryz.f6.params.toList args.toList ds p := hA0
  rw [Tryz.params6] at hA hval hz
  obtain ⟨v0, vs0, d0, ds0, p0, q0, hargs, rfl, rfl, h0, r0⟩ := trodAll_cons hA
  obtain ⟨v1, vs1, d1, ds1, p1, q1, rfl, rfl, rfl, h1, r1⟩ := trodAll_cons r0
  obtain ⟨v2, vs2, d2, ds2, p2, q2, rfl, rfl, rfl, h2, r2⟩ := trodAll_cons r1
  obtain ⟨rfl, rfl, rfl⟩ := trodAll_nil r2
  obtain rfl : args = #[v0, v1, v2] := by cases args; simp_all
  obtain ⟨rfl, rfl⟩ := trodVars_none hV
  obtain ⟨a, len, cap, rfl⟩ := okWide_slice Tryz.underlying22 (hval 1 22 v1 rfl rfl)
  obtain ⟨ra, rlen, rcap, rfl⟩ := okWide_slice Tryz.underlying40 (hval 2 40 v2 rfl rfl)
  have k0 := h0
  have k1 := h1
  have k2 := h2
  have lt2 : ∀ x ∈ p2, x.block < W.heap.size := by obtain ⟨m, hm⟩ := k2; exact DataW.trod_lt m _ _ _ hm
  have lt0 : ∀ x ∈ p0, x.block < W.heap.size := by obtain ⟨m, hm⟩ := k0; exact DataW.trod_lt m _ _ _ hm
  have lt1 : ∀ x ∈ p1, x.block < W.heap.size := by obtain ⟨m, hm⟩ := k1; exact DataW.trod_lt m _ _ _ hm
  obtain ⟨s, rfl, rfl, hp0, ws⟩ := open_string Tryz.underlying9 (hval 0 9 v0 rfl rfl) h0
  obtain ⟨fuel, hf⟩ := h1
  obtain ⟨l, hrl, hR, hsize⟩ := cols_in hf
  subst hrl
  have hb := cols_sized hz (j := 1) rfl rfl hsize
  obtain ⟨fuel2, hf2⟩ := h2
  obtain ⟨vl, hvl, hVs, hwf, hsize2⟩ := vals_in hf2
  subst hvl
  have hb2 := vals_sized hz (j := 2) rfl rfl hsize2
  clear hA0
  refine (Bp.back_walk s a cap l ra rcap vl W (senOf hL (by kernel_rfl)) (senOf3 hL (by kernel_rfl)) (powTab hL (by kernel_rfl)) (ety_of hL (by kernel_rfl)) hR (by unfold maxLen; omega) (fun x hx => by have := hb.2 x hx; omega) hVs (by unfold maxLen; omega) (fun x hx => by have := hb2.2 x hx; unfold maxLen; omega) (fun x hx => wf64 (hwf x hx))).mono fun e W' ⟨he, bel⟩ => ?_
  subst he
  exact ⟨_, rfl, _, _, _, [], _, [], hW', trodAll_mk1 (shut_bool Tryz.underlying4 _),
    (trodAll_cons_mk (Below.trod laidOut (by kernel_rfl) (of_decide_eq_true (by kernel_rfl)) k0 bel lt0) (trodAll_cons_mk (Below.trod laidOut (by kernel_rfl) (of_decide_eq_true (by kernel_rfl)) k1 bel lt1) (trodAll_cons_mk (Below.trod laidOut (by kernel_rfl) (of_decide_eq_true (by kernel_rfl)) k2 bel lt2) trodAll_mk0))), rfl, bel.frame _, fun h => by cases h⟩

theorem back_laid (os : Os) : laidMetH Tryz.prog Rows.exprBackRow.laid ((laidOver (World.holding Tryz.prog os ⟨#[], #[], []⟩)).forCall (fun _ _ => 0) ⟨#[], #[.string ⟨#[]⟩, .slice none 0 0, .slice none 0 0], []⟩).memory :=
  laidMetH_of_parts (laidMet_of_run' 8 (by kernel_rfl) (by kernel_rfl)) (by kernel_rfl)
theorem back_reads (os : Os) {H : Type} (enc : TypeId × Value → H) : ∃ places, DataW.whole enc Tryz.prog ((laidOver (World.holding Tryz.prog os ⟨#[], #[], []⟩)).forCall (fun _ _ => 0) ⟨#[], #[.string ⟨#[]⟩, .slice none 0 0, .slice none 0 0], []⟩).memory Tryz.f6.params.toList Rows.exprBackSpec.vars false #[Value.string ⟨#[]⟩, .slice none 0 0, .slice none 0 0].toList 8 = some ([.lit (.string []), .nil, .nil], [], places) :=
  ⟨[], by kernel_rfl⟩

theorem back_lifted (os : Os) (started : os.Started) (H : Type) (enc : TypeId × Value → H) (F : Stop.Interp) :
    ReturnsInHanded {} Tryz.checked os 6 .any ((OpenSpec.ofChange Rows.exprBackSpec).preRow enc Tryz.prog Tryz.f6 Rows.exprBackRow.domain false Rows.exprBackRow.laid) (((OpenSpec.ofChange Rows.exprBackSpec).at F).post enc Tryz.prog Tryz.f6 false true false false) := by
  obtain ⟨places, hx⟩ := back_reads os enc
  refine returnsInHanded_of_row (C := Tryz.checked) (s := OpenSpec.ofChange Rows.exprBackSpec) own started (by kernel_rfl) Tryz.func6
    (witness_row_atRef (enc := enc) (C := Tryz.checked) false (laidOver (World.holding Tryz.prog os ⟨#[], #[], []⟩)) #[.string ⟨#[]⟩, .slice none 0 0, .slice none 0 0] rfl (by kernel_rfl) (by kernel_rfl) (by kernel_rfl)
      (OpenSpec.preRow_of_cond 8 hx (by kernel_rfl) (fun k hk => by cases hk) (by kernel_rfl) (back_laid os))) ?_
  intro W base args ds gs before hval hW _ _ hz hL _ _
  exact back_contract H enc W base args ds gs before hval hW hz hL

theorem back_said : Rows.ExprBackSaid :=
  OpenClaim.holds_of_cond 6 Tryz.f6 rfl rfl rfl rfl rfl rfl rfl ⟨rfl, rfl, rfl, rfl, rfl⟩ rfl rfl rfl rfl rfl (by kernel_rfl) Tryz.func6 (by kernel_rfl)
    (of_decide_eq_true (by kernel_rfl)) (by unfold Func.isWrapper; first | (rw [if_pos (by decide +kernel)]; kernel_rfl) | (rw [if_neg (by decide +kernel)]; exact ⟨rfl, rfl⟩))
    (fun os started H enc _ F => by rw [OpenClaim.pre_eq_preRow]; exact back_lifted os started H enc F)

theorem back_plain (f : FuncId) (fn : Func) (hf : Tryz.pinned.checked.prog.funcNamed "streamwright/streamwrightlaw3.ExprBack" = some f) (hfn : Tryz.pinned.checked.prog.funcs[f]? = some fn) :
    true = Tryz.pinned.checked.prog.looks [] ∧ ∀ (j : Nat) t, fn.params[j]? = some t → Tryz.pinned.checked.prog.wantsStandIn t = false := by
  obtain rfl : f = 6 := Option.some.inj ((show Tryz.prog.funcNamed "streamwright/streamwrightlaw3.ExprBack" = some 6 by kernel_rfl).symm.trans hf) |>.symm
  obtain rfl : fn = Tryz.f6 := (Option.some.inj (Tryz.func6.symm.trans hfn)).symm
  refine ⟨by kernel_rfl, fun j t ht => ?_⟩
  rw [Tryz.params6] at ht
  have hm : t = 9 ∨ t = 22 ∨ t = 40 := by simpa using Array.mem_of_getElem? ht
  rcases hm with rfl | rfl | rfl
  · exact (show Tryz.prog.wantsStandIn 9 = false by kernel_rfl)
  · exact (show Tryz.prog.wantsStandIn 22 = false by kernel_rfl)
  · exact (show Tryz.prog.wantsStandIn 40 = false by kernel_rfl)

/-- THE CARD. -/
theorem exprBack_card : Rows.ExprBackCardSaid :=
  Claim7.holds_tied_plain_at .later [] _ _ _ _ back_said (fun _ h => by cases h) (by kernel_rfl) (fun _ h => by cases h) exprBack_row_tie rfl ⟨rfl, rfl⟩ (by kernel_rfl) rfl back_plain (by kernel_rfl)
end Go.Proofs.YtckdmmfmnhcabaaGreatDoor
