import Derived.Test.YtplaplhmjpfbjaaGreatDoorCards
import Derived.Test.YtplaplhmjpfbjaaGreatDoorTie
import Derived.Test.YtplaplhmjpfbjaaGreatDoorRows
import Derived.Test.YtplaplhmjpfbjaaGreatDoorOg1
import Derived.Test.YtplaplhmjpfbjaaGreatDoorOoV2
import Derived.WalkKit
import Derived.ProofKit
import Derived.OpenShut
import Derived.ShutString
import Derived.ChangeOld
import Derived.ChangeSlices
import Derived.Below
import Derived.LaidSub
import Derived.LaidHandle
import Derived.LaidLaws
import Derived.Stop.LaidErr
import Derived.SizedLaws
import Derived.Deep.DeepHandedRow
import Derived.Deep.DeepWitnessRowRef
import Derived.Lib.LaidTab
import Derived.Lib.SmallJoins
import Derived.Deep.Slices
import Derived.Deep.Strs
namespace Go.Proofs.YtplaplhmjpfbjaaGreatDoor
open Go.Proofs.YtplaplhmjpfbjaaGreatDoor.Oo
open Go.ChangeShapes Go.WideShapes Go.ChangeAt Go.RowKit
open Go.ChangeMaps (open_string shut_string)
open Go.Deep Go.Joins
set_option linter.unusedVariables false
set_option maxRecDepth 100000

theorem cellsU64 : Tryz.prog.cellsOf 234 = 1 := by kernel_rfl
theorem cellsPow : Tryz.prog.cellsOf 256 = 20 := by kernel_rfl
theorem bytesStr : Tryz.prog.bytesOf 9 = 16 := by kernel_rfl
theorem bytesInt : Tryz.prog.bytesOf 3 = 8 := by kernel_rfl
theorem bytesAg : Tryz.prog.bytesOf 69 = 16 := by kernel_rfl
theorem len_sized {H : Type} {ts : List TypeId} {ds : List (DataW H)} {j : Nat} {st et : TypeId} {y : DataW H} {n B : Nat} (hsz : (DataW.weightsEach Tryz.prog ts ds).all (· ≤ reachBytes) = true) (ht : ts[j]? = some st) (hd : ds[j]? = some y) (hu : Tryz.prog.underlying st = some (.slice et)) (hb : Tryz.prog.bytesOf et = B) (hy : n = 0 ∨ ∃ e s, y = .slice e s ∧ e.length = n) : n * B ≤ 140737488351232 := by
  rcases hy with rfl | ⟨e, s, rfl, h2⟩
  · omega
  · have := sized_slice hsz ht hd hu
    rw [hb, reach_eq] at this
    rw [h2] at this
    refine Nat.le_trans (Nat.mul_le_mul_right _ ?_) this
    omega
theorem gPow : Tryz.prog.globalNamed "internal/strconv.uint64pow10" = some 4 := by kernel_rfl
theorem gPowType : (Tryz.prog.globals[4]?).map (·.type) = some 256 := by kernel_rfl
theorem powTab {W : World} {l : List (String × DataW Unit)} (h : laidMetH Tryz.prog l W) (e : l.filter (fun x => x.1 == "internal/strconv.uint64pow10") = [("internal/strconv.uint64pow10", Lib.tabData .u64 Lib.pow10Tab)]) : Vl.Tab W := by
  have hf := laidMetH.filter (fun x => x.1 == "internal/strconv.uint64pow10") h
  rw [e] at hf
  exact Lib.tabIs_of_head (rest := []) gPow gPowType Tryz.underlying256 Tryz.underlying234 cellsU64 cellsPow hf
theorem gSyn : Tryz.prog.globalNamed "strconv.ErrSyntax" = some 2 := by kernel_rfl
theorem gRng : Tryz.prog.globalNamed "strconv.ErrRange" = some 3 := by kernel_rfl
theorem star : "*" ++ "errors.errorString" = "*errors.errorString" := by decide
theorem errRow (u : TypeId) (h : Tryz.prog.typeName? 3 u = some "*errors.errorString") : u = 261 :=
  typeName_ptr_named (nm := "errors.errorString") (by rw [star]; kernel_rfl) (by kernel_rfl) (by decide) u (by rw [star]; exact h)
theorem senOf {W : World} {l : List (String × DataW Unit)} (h : laidMetH Tryz.prog l W) (e : l.filter (fun x => x.1 == "strconv.ErrSyntax") = [("strconv.ErrSyntax", Rows.laid_strconv_ErrSyntax)]) : Vl.Sen W := by
  have hf := laidMetH.filter (fun x => x.1 == "strconv.ErrSyntax") h
  rw [e] at hf
  obtain ⟨a, t, hv, _⟩ := laid_sentinel (r := []) (g := 2) (W := W) hf gSyn (by kernel_rfl) Tryz.underlying31 errRow Tryz.underlying261 Tryz.underlying263 rfl rfl Tryz.underlying9 (by kernel_rfl) (by kernel_rfl)
  exact ⟨_, World.var?_cell gSyn hv 0, .inr ⟨_, _, rfl⟩⟩
theorem senOf3 {W : World} {l : List (String × DataW Unit)} (h : laidMetH Tryz.prog l W) (e : l.filter (fun x => x.1 == "strconv.ErrRange") = [("strconv.ErrRange", Rows.laid_strconv_ErrRange)]) : Vl.Sen3 W := by
  have hf := laidMetH.filter (fun x => x.1 == "strconv.ErrRange") h
  rw [e] at hf
  obtain ⟨a, t, hv, _⟩ := laid_sentinel (r := []) (g := 3) (W := W) hf gRng (by kernel_rfl) Tryz.underlying31 errRow Tryz.underlying261 Tryz.underlying263 rfl rfl Tryz.underlying9 (by kernel_rfl) (by kernel_rfl)
  exact ⟨_, World.var?_cell gRng hv 0, .inr ⟨_, _, rfl⟩⟩
theorem gE : Tryz.prog.globalNamed "errors.errorType" = some 0 := by kernel_rfl
theorem rtyp : (Tryz.prog.cutTypes.find? (·.1 == "internal/reflectlite.rtype")).map (·.2) = some 117 := by kernel_rfl
theorem oneRow : ((List.range 314).filter fun t => Tryz.prog.rowNamed t [101, 114, 114, 111, 114]) = [31] := by kernel_rfl
theorem nTypes : Tryz.prog.types.size = 314 := by kernel_rfl

theorem ety_of {W : World} {l : List (String × DataW Unit)} (h : laidMetH Tryz.prog l W) (e : l.filter (fun x => x.1 == "errors.errorType") = [("errors.errorType", Rows.laid_errors_errorType)]) : Td.Ety W := by
  have hf := laidMetH.filter (fun x => x.1 == "errors.errorType") h
  rw [e] at hf
  have h' : laidMet Tryz.prog [] W ∧ handlesMet Tryz.prog [("errors.errorType", Rows.laid_errors_errorType)] W := hf
  obtain ⟨name, u, ty, e1, e2, e3, e4, e5⟩ := h'.2 _ (List.mem_singleton.2 rfl)
  have en : name = [101, 114, 114, 111, 114] := (Option.some.inj e1).symm
  subst en
  obtain rfl := Option.some.inj (rtyp.symm.trans e2)
  have hm : ty ∈ (List.range 314).filter fun t => Tryz.prog.rowNamed t [101, 114, 114, 111, 114] := List.mem_filter.2 ⟨List.mem_range.2 (by rw [← nTypes]; exact e3), e4⟩
  rw [oneRow] at hm
  obtain rfl := List.mem_singleton.1 hm
  have hh : typeHandle Tryz.prog 31 = .pointer (some ⟨7, 31, none⟩) := by kernel_rfl
  rw [hh] at e5
  have := World.var?_cell gE e5 0
  unfold Td.Ety
  simpa using this

/-- A WORLD FOR THE WITNESS: each listed variable holds what its initialiser lays. -/
def setRow (cs : Array Value) : Obj → Obj
  | .cells _ t frozen => .cells cs t frozen
  | o => o
def laidOver (w : World) : World :=
  { w with heap := (((((((w.heap.push (.cells #[.string ⟨#[118, 97, 108, 117, 101, 32, 111, 117, 116, 32, 111, 102, 32, 114, 97, 110, 103, 101]⟩] 263)).push (.cells #[.string ⟨#[105, 110, 118, 97, 108, 105, 100, 32, 115, 121, 110, 116, 97, 120]⟩] 263)).modify 3 (setRow #[.iface 261 (.pointer (some ⟨w.heap.size, 0, none⟩))])).modify 2 (setRow #[.iface 261 (.pointer (some ⟨w.heap.size + 1, 0, none⟩))])).modify 4 (setRow #[.int .u64 1, .int .u64 10, .int .u64 100, .int .u64 1000, .int .u64 10000, .int .u64 100000, .int .u64 1000000, .int .u64 10000000, .int .u64 100000000, .int .u64 1000000000, .int .u64 10000000000, .int .u64 100000000000, .int .u64 1000000000000, .int .u64 10000000000000, .int .u64 100000000000000, .int .u64 1000000000000000, .int .u64 10000000000000000, .int .u64 100000000000000000, .int .u64 1000000000000000000, .int .u64 10000000000000000000])).modify 5 (setRow #[.int .u8 0, .int .u8 1, .int .u8 28, .int .u8 2, .int .u8 29, .int .u8 14, .int .u8 24, .int .u8 3, .int .u8 30, .int .u8 22, .int .u8 20, .int .u8 15, .int .u8 25, .int .u8 17, .int .u8 4, .int .u8 8, .int .u8 31, .int .u8 27, .int .u8 13, .int .u8 23, .int .u8 21, .int .u8 19, .int .u8 16, .int .u8 7, .int .u8 26, .int .u8 12, .int .u8 18, .int .u8 6, .int .u8 11, .int .u8 5, .int .u8 10, .int .u8 9])).modify 6 (setRow #[.int .u8 0, .int .u8 1, .int .u8 56, .int .u8 2, .int .u8 57, .int .u8 49, .int .u8 28, .int .u8 3, .int .u8 61, .int .u8 58, .int .u8 42, .int .u8 50, .int .u8 38, .int .u8 29, .int .u8 17, .int .u8 4, .int .u8 62, .int .u8 47, .int .u8 59, .int .u8 36, .int .u8 45, .int .u8 43, .int .u8 51, .int .u8 22, .int .u8 53, .int .u8 39, .int .u8 33, .int .u8 30, .int .u8 24, .int .u8 18, .int .u8 12, .int .u8 5, .int .u8 63, .int .u8 55, .int .u8 48, .int .u8 27, .int .u8 60, .int .u8 41, .int .u8 37, .int .u8 16, .int .u8 46, .int .u8 35, .int .u8 44, .int .u8 21, .int .u8 52, .int .u8 32, .int .u8 23, .int .u8 11, .int .u8 54, .int .u8 26, .int .u8 40, .int .u8 15, .int .u8 34, .int .u8 20, .int .u8 31, .int .u8 10, .int .u8 25, .int .u8 14, .int .u8 19, .int .u8 9, .int .u8 13, .int .u8 8, .int .u8 7, .int .u8 6])).modify 0 (setRow #[.iface 117 (.agg #[.pointer (some ⟨7, 31, none⟩)])]) }

theorem cols_sized {H : Type} {ts : List TypeId} {ds : List (DataW H)} {j : Nat} {d0 : DataW H} {l : List Co} (hsz : (DataW.weightsEach Tryz.prog ts ds).all (· ≤ reachBytes) = true) (ht : ts[j]? = some 23) (hd : ds[j]? = some d0)
    (hsize : l.length = 0 ∨ ∃ elems spare, d0 = .slice elems spare ∧ elems.length = l.length ∧ ∀ o ∈ l, ∃ d bs, DataW.agg [.lit (.string bs), d] ∈ elems ∧ bs.length = o.nm.size) :
    l.length ≤ 5864062014635 ∧ ∀ o ∈ l, o.nm.size ≤ 140737488351232 := by
  rcases hsize with h | ⟨elems, spare, rfl, h2, h3⟩
  · exact ⟨by omega, fun r hr => by rw [List.eq_nil_of_length_eq_zero h] at hr; cases hr⟩
  · constructor
    · have := sized_slice hsz ht hd Tryz.underlying23
      rw [bytesCol, reach_eq] at this
      omega
    · intro o ho
      obtain ⟨d, bs, h7, h8⟩ := h3 o ho
      have := List.all_eq_true.1 hsz _ (DataW.weights_mem_each ht hd bs.length (by
        simp only [DataW.weights, Tryz.underlying23, List.mem_cons, List.mem_append]
        refine Or.inr (Or.inl (weigh_part ?_ _ h7))
        simp [DataW.weights, DataW.weightsEach, Tryz.underlying43]))
      have h9 := of_decide_eq_true this
      rw [reach_eq] at h9
      omega

theorem wf64 {n : Int} (h : (Lit.int .i64 n).wf = true) : -9223372036854775808 ≤ n ∧ n ≤ 9223372036854775807 := by
  have h' : IntKind.i64.min ≤ n ∧ n ≤ IntKind.i64.max := by simpa [Lit.wf] using h
  have e1 : IntKind.i64.min = -9223372036854775808 := by decide
  have e2 : IntKind.i64.max = 9223372036854775807 := by decide
  omega
theorem cellsOp : Tryz.prog.cellsOf 29 = 12 := by kernel_rfl
theorem strs_sized {H : Type} {ts : List TypeId} {ds : List (DataW H)} {j : Nat} {d0 : DataW H} {l : List ByteArray} (hsz : (DataW.weightsEach Tryz.prog ts ds).all (· ≤ reachBytes) = true) (ht : ts[j]? = some 22) (hd : ds[j]? = some d0)
    (hsize : l.length = 0 ∨ ∃ elems spare, d0 = .slice elems spare ∧ elems.length = l.length ∧ ∀ o ∈ l, ∃ d ∈ elems, ∃ bs, d = .lit (.string bs) ∧ bs.length = o.size) : ∀ o ∈ l, o.size ≤ 140737488351232 := by
  rcases hsize with h | ⟨elems, spare, rfl, h2, h3⟩
  · exact fun r hr => by rw [List.eq_nil_of_length_eq_zero h] at hr; cases hr
  · intro o ho
    obtain ⟨d, h7, bs, rfl, h8⟩ := h3 o ho
    have := List.all_eq_true.1 hsz _ (DataW.weights_mem_each ht hd bs.length (by
      simp only [DataW.weights, Tryz.underlying22, List.mem_cons, List.mem_append]
      refine Or.inr (Or.inl (weigh_part ?_ _ h7))
      simp [DataW.weights]))
    have h9 := of_decide_eq_true this
    rw [reach_eq] at h9
    omega
theorem out_len {ck : ByteArray → Except Nat Int} {o : OpD} {l : List Co} (h : outO ck o = .ok l) : l.length ≤ 8 := by
  unfold outO at h
  split at h
  · cases hr : rawO ck o with
    | error m => rw [hr] at h; cases h
    | ok l' =>
      rw [hr] at h
      simp only at h
      unfold namedO at h
      split at h
      · cases h
      · split at h
        · cases h; omega
        · cases h
  · cases h
theorem outs_contract (H : Type) (enc : TypeId × Value → H) (W : World) (base : Nat) (args : Array Value) (ds gs : List (DataW H)) (before : List MemPlace)
    (hval : ∀ (j : Nat) t v, Tryz.f3.params[j]? = some t → args[j]? = some v → Value.okWide Tryz.prog W .any base t v)
    (hW : DataW.Whole enc Tryz.prog Tryz.f3.params.toList Rows.opOutsSpec.vars false W args.toList ds gs before)
    (hz : (DataW.weightsEach Tryz.prog (Tryz.f3.params.toList ++ []) (ds ++ gs)).all (· ≤ reachBytes) = true) (hL : laidMetH Tryz.prog Rows.opOutsRow.laid W) :
    Calls Tryz.prog 3 args W fun e W' => ∃ v, e = .returned v ∧ Rows.opOutsSpec.post enc Tryz.prog Tryz.f3 false true false false W args v W' := by
  have hW' := hW
  obtain ⟨p, q, hA0, hV, rfl, hfz, hnd⟩ := hW
  have hA : DataW.TrodAll enc Tryz.prog W 0 (fun _ => true) true Tryz.f3.params.toList args.toList ds p := hA0
  rw [Tryz.params3] at hA hval hz
  obtain ⟨v0, vs0, d0, ds0, p0, q0, hargs, rfl, rfl, h0, r0⟩ := trodAll_cons hA
  obtain ⟨v1, vs1, d1, ds1, p1, q1, rfl, rfl, rfl, h1, r1⟩ := trodAll_cons r0
  obtain ⟨v2, vs2, d2, ds2, p2, q2, rfl, rfl, rfl, h2, r2⟩ := trodAll_cons r1
  obtain ⟨rfl, rfl, rfl⟩ := trodAll_nil r2
  obtain rfl : args = #[v0, v1, v2] := by cases args; simp_all
  obtain ⟨rfl, rfl⟩ := trodVars_none hV
  have k0 := h0
  have k1 := h1
  have k2 := h2
  have lt0 : ∀ x ∈ p0, x.block < W.heap.size := by obtain ⟨m, hm⟩ := k0; exact DataW.trod_lt m _ _ _ hm
  have lt1 : ∀ x ∈ p1, x.block < W.heap.size := by obtain ⟨m, hm⟩ := k1; exact DataW.trod_lt m _ _ _ hm
  have lt2 : ∀ x ∈ p2, x.block < W.heap.size := by obtain ⟨m, hm⟩ := k2; exact DataW.trod_lt m _ _ _ hm
  obtain ⟨cs, rfl, hcs⟩ := okWide_struct Tryz.underlying29 (hval 0 29 v0 rfl rfl)
  obtain ⟨lo, rfl, rfl, hp1, wlo⟩ := open_int Tryz.underlying3 (hval 1 3 v1 rfl rfl) h1
  obtain ⟨hi, rfl, rfl, hp2, whi⟩ := open_int Tryz.underlying3 (hval 2 3 v2 rfl rfl) h2
  obtain ⟨fuel, hf⟩ := h0
  rw [cellsOp] at hcs
  obtain ⟨o, p, hop, hat, hws, y0, y1, y2, y3, y4, y5, y6, y7, y8, y9, hd0, s1, s2, s3, s4, s5, s6, s8⟩ := op_in (cs := cs.toList) (by simpa using hcs) hf
  simp only at hd0
  subst hd0
  have hco : cs = opCs o p := by cases cs; simp_all
  subst hco
  have hzf : (DataW.weightsEach Tryz.prog [3, 22, 22, 23, 23, 24, 24, 26, 27, 4] [y0, y1, y2, y3, y4, y5, y6, y7, y8, y9]).all (· ≤ reachBytes) = true := by
    rw [List.all_eq_true]
    intro n hn
    exact List.all_eq_true.1 hz _ (DataW.weights_mem_each (j := 0) (t := 29) rfl rfl n (by simp only [DataW.weights, Tryz.underlying29]; exact hn))
  have hsz : OpSz o := by
    have l1 := len_sized hzf (j := 1) rfl rfl Tryz.underlying22 bytesStr (s1.imp id fun ⟨e, s, h1, h2, _⟩ => ⟨e, s, h1, h2⟩)
    have l2 := len_sized hzf (j := 2) rfl rfl Tryz.underlying22 bytesStr (s2.imp id fun ⟨e, s, h1, h2, _⟩ => ⟨e, s, h1, h2⟩)
    have l3 := cols_sized hzf (j := 3) rfl rfl s3
    have l4 := cols_sized hzf (j := 4) rfl rfl s4
    have l5 := len_sized hzf (j := 5) rfl rfl Tryz.underlying24 bytesInt s5
    have l6 := len_sized hzf (j := 6) rfl rfl Tryz.underlying24 bytesInt s6
    have l8 := len_sized hzf (j := 8) rfl rfl Tryz.underlying27 bytesAg s8
    exact ⟨by omega, by omega, l3.1, l4.1, by omega, by omega, by omega, l3.2, l4.2, strs_sized hzf (j := 2) rfl rfl s2, hws⟩
  obtain ⟨ck, hk1, hk2⟩ := ck_exists W (senOf hL (by kernel_rfl)) (senOf3 hL (by kernel_rfl)) (powTab hL (by kernel_rfl)) o.c (by have := hsz.c; unfold maxLen; omega) (fun x hx => by have := hsz.cn x hx; omega)
  clear hA0
  refine (outs_walk o p lo hi W (outO ck o) (fun n h => out_ne hk2.1 o n h) (fun l h => out_len h) (ety_of hL (by kernel_rfl)) (fun W' hW' => out_any ck o p W' hsz (hat.later hW') (hk1.later hW')) (fun W' hW' => outD_any ck o p W' hsz (hat.later hW') (hk2.later hW')) (fun W' hW' => new_any ck o p lo hi W' hsz (hat.later hW') (hk1.later hW'))).mono fun e W' ⟨he, bel⟩ => ?_
  subst he
  exact ⟨_, rfl, _, _, _, [], _, [], hW', trodAll_mk1 (shut_bool Tryz.underlying4 _),
    (trodAll_cons_mk (Below.trod laidOut (by kernel_rfl) (of_decide_eq_true (by kernel_rfl)) k0 bel lt0) (trodAll_cons_mk (Below.trod laidOut (by kernel_rfl) (of_decide_eq_true (by kernel_rfl)) k1 bel lt1) (trodAll_cons_mk (Below.trod laidOut (by kernel_rfl) (of_decide_eq_true (by kernel_rfl)) k2 bel lt2) trodAll_mk0))), rfl, bel.frame _, fun h => by cases h⟩

theorem outs_laid (os : Os) : laidMetH Tryz.prog Rows.opOutsRow.laid ((laidOver (World.holding Tryz.prog os ⟨#[], #[], []⟩)).forCall (fun _ _ => 0) ⟨#[], #[.agg #[.int .i64 0, .slice none 0 0, .slice none 0 0, .slice none 0 0, .slice none 0 0, .slice none 0 0, .slice none 0 0, .int .i64 0, .int .i64 0, .int .i64 0, .slice none 0 0, .bool false], .int .i64 0, .int .i64 0], []⟩).memory :=
  laidMetH_of_parts (laidMet_of_run' 8 (by kernel_rfl) (by kernel_rfl)) (by kernel_rfl)
theorem outs_reads (os : Os) {H : Type} (enc : TypeId × Value → H) : ∃ places, DataW.whole enc Tryz.prog ((laidOver (World.holding Tryz.prog os ⟨#[], #[], []⟩)).forCall (fun _ _ => 0) ⟨#[], #[.agg #[.int .i64 0, .slice none 0 0, .slice none 0 0, .slice none 0 0, .slice none 0 0, .slice none 0 0, .slice none 0 0, .int .i64 0, .int .i64 0, .int .i64 0, .slice none 0 0, .bool false], .int .i64 0, .int .i64 0], []⟩).memory Tryz.f3.params.toList Rows.opOutsSpec.vars false #[Value.agg #[.int .i64 0, .slice none 0 0, .slice none 0 0, .slice none 0 0, .slice none 0 0, .slice none 0 0, .slice none 0 0, .int .i64 0, .int .i64 0, .int .i64 0, .slice none 0 0, .bool false], .int .i64 0, .int .i64 0].toList 8 = some ([.agg [.lit (.int .i64 0), .nil, .nil, .nil, .nil, .nil, .nil, .agg [.lit (.int .i64 0), .lit (.int .i64 0), .lit (.int .i64 0)], .nil, .lit (.bool false)], .lit (.int .i64 0), .lit (.int .i64 0)], [], places) :=
  ⟨[], by kernel_rfl⟩

theorem outs_lifted (os : Os) (started : os.Started) (H : Type) (enc : TypeId × Value → H) (F : Stop.Interp) :
    ReturnsInHanded {} Tryz.checked os 3 .any ((OpenSpec.ofChange Rows.opOutsSpec).preRow enc Tryz.prog Tryz.f3 Rows.opOutsRow.domain false Rows.opOutsRow.laid) (((OpenSpec.ofChange Rows.opOutsSpec).at F).post enc Tryz.prog Tryz.f3 false true false false) := by
  obtain ⟨places, hx⟩ := outs_reads os enc
  refine returnsInHanded_of_row (C := Tryz.checked) (s := OpenSpec.ofChange Rows.opOutsSpec) own started (by kernel_rfl) Tryz.func3
    (witness_row_atRef (enc := enc) (C := Tryz.checked) false (laidOver (World.holding Tryz.prog os ⟨#[], #[], []⟩)) #[.agg #[.int .i64 0, .slice none 0 0, .slice none 0 0, .slice none 0 0, .slice none 0 0, .slice none 0 0, .slice none 0 0, .int .i64 0, .int .i64 0, .int .i64 0, .slice none 0 0, .bool false], .int .i64 0, .int .i64 0] rfl (by kernel_rfl) (by kernel_rfl) (by kernel_rfl)
      (OpenSpec.preRow_of_cond 8 hx (by kernel_rfl) (fun k hk => by cases hk) (by kernel_rfl) (outs_laid os))) ?_
  intro W base args ds gs before hval hW _ _ hz hL _ _
  exact outs_contract H enc W base args ds gs before hval hW hz hL

theorem outs_said : Rows.OpOutsSaid :=
  OpenClaim.holds_of_cond 3 Tryz.f3 rfl rfl rfl rfl rfl rfl rfl ⟨rfl, rfl, rfl, rfl, rfl⟩ rfl rfl rfl rfl rfl (by kernel_rfl) Tryz.func3 (by kernel_rfl)
    (of_decide_eq_true (by kernel_rfl)) (by unfold Func.isWrapper; first | (rw [if_pos (by decide +kernel)]; kernel_rfl) | (rw [if_neg (by decide +kernel)]; exact ⟨rfl, rfl⟩))
    (fun os started H enc _ F => by rw [OpenClaim.pre_eq_preRow]; exact outs_lifted os started H enc F)

theorem outs_plain (f : FuncId) (fn : Func) (hf : Tryz.pinned.checked.prog.funcNamed "streamwright/streamwrightlaw8.OpOuts" = some f) (hfn : Tryz.pinned.checked.prog.funcs[f]? = some fn) :
    true = Tryz.pinned.checked.prog.looks [] ∧ ∀ (j : Nat) t, fn.params[j]? = some t → Tryz.pinned.checked.prog.wantsStandIn t = false := by
  obtain rfl : f = 3 := Option.some.inj ((show Tryz.prog.funcNamed "streamwright/streamwrightlaw8.OpOuts" = some 3 by kernel_rfl).symm.trans hf) |>.symm
  obtain rfl : fn = Tryz.f3 := (Option.some.inj (Tryz.func3.symm.trans hfn)).symm
  refine ⟨by kernel_rfl, fun j t ht => ?_⟩
  rw [Tryz.params3] at ht
  have hm : t = 29 ∨ t = 3 ∨ t = 3 := by simpa using Array.mem_of_getElem? ht
  rcases hm with rfl | rfl | rfl
  · exact (show Tryz.prog.wantsStandIn 29 = false by kernel_rfl)
  · exact (show Tryz.prog.wantsStandIn 3 = false by kernel_rfl)
  · exact (show Tryz.prog.wantsStandIn 3 = false by kernel_rfl)

/-- THE CARD. -/
theorem opOuts_card : Rows.OpOutsCardSaid :=
  Claim7.holds_tied_plain_at .later [] _ _ _ _ outs_said (fun _ h => by cases h) (by kernel_rfl) (fun _ h => by cases h) opOuts_row_tie rfl ⟨rfl, rfl⟩ (by kernel_rfl) rfl outs_plain (by kernel_rfl)
end Go.Proofs.YtplaplhmjpfbjaaGreatDoor
