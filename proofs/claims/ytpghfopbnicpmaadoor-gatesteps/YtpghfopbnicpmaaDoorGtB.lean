import Derived.Test.YtpghfopbnicpmaaDoorGtA
import Derived.Laws.Bits64b
import Derived.Deep.LoopGhost
import Derived.Deep.DeepCutAuto
import Derived.Lib.SmallJoins
import Derived.Deep.RegionLaw
namespace Go.Proofs.YtpghfopbnicpmaaDoor
open Go.RowKit
set_option linter.unusedVariables false
set_option linter.unusedSimpArgs false
set_option maxRecDepth 100000

theorem maskN (a : Nat) (ha : a < 18446744073709551616) : bits .and .u64 (a : Int) 4294967295 = ((a % 4294967296 : Nat) : Int) := by
  have h := bits_and_u64_nat a 4294967295 ha (by omega)
  have e : a &&& 4294967295 = a % 4294967296 := Nat.and_two_pow_sub_one_eq_mod a 32
  rw [e] at h
  exact h
theorem wrapN (a : Nat) (ha : a < 18446744073709551616) : IntKind.u64.wrap (a : Int) = (a : Int) := by rw [IntKind.wrap_u64]; omega
theorem mul64_one (n : Nat) (hn : n ≤ 64) (w : World) :
    Calls Tryd.prog 29 #[.int .u64 1, .int .u64 n] w fun e w' => e = .returned (.tuple #[.int .u64 0, .int .u64 n]) ∧ w' = w := by
  have h1 : bits .and .u64 (1 : Int) 4294967295 = 1 := by decide +kernel
  have h2 : bits .and .u64 (n : Int) 4294967295 = (n : Int) := by rw [maskN n (by omega)]; omega
  have h3 : (n : Int) / 4294967296 = 0 := by omega
  have h4 : IntKind.u64.wrap (n : Int) = (n : Int) := wrapN n (by omega)
  have h5 : bits .and .u64 (0 : Int) 4294967295 = 0 := by decide +kernel
  go_enter Tryd.func29, Tryd.ntmps29
  go_wp2
  go_ret2
  exact ⟨rfl, rfl⟩
theorem mul_one' (n : Nat) (hn : n ≤ 64) (w : World) :
    Calls Tryd.prog 19 #[.int .u64 1, .int .u64 n] w fun e w' => e = .returned (.tuple #[.int .u64 0, .int .u64 n]) ∧ w' = w := by
  go_enter Tryd.func19, Tryd.ntmps19
  have h4 : IntKind.u64.wrap (n : Int) = (n : Int) := wrapN n (by omega)
  go_wp2_with fail
  refine (mul64_one n hn w).mono ?_
  rintro e w1 ⟨rfl, rfl⟩
  go_wp2_with fail
  go_ret2
  exact ⟨rfl, rfl⟩

/-- copy of elements of 'k' cells into a row that is known whole, from a place on. -/
theorem run_copy_ko {P : Program} (w : World) (dT sT ty elem : TypeId) (k g off dLen dCap : Nat) (sp : Addr) (sLen sCap : Nat) (cur : List Value) (t : TypeId) (cs : List Value)
    (hu : P.underlying dT = some (.slice elem)) (hs : (P.info? elem).map (·.size) = some k)
    (hg : w.heap[g]? = some (.cells cur.toArray t (0, 0))) (hn : cs.length = Nat.min sLen dLen * k)
    (hsrc : ∀ j v, cs[j]? = some v → w.cell? (sp.add j) = some v) (hfit : off + cs.length ≤ cur.length) (h1 : ∀ v ∈ cs, v.oneCell' = true) :
    (Builtin.copy_ #[dT, sT] ty #[.slice (some ⟨g, off, none⟩) dLen dCap, .slice (some sp) sLen sCap]).run P w =
      .ok (goInt (Nat.min sLen dLen)) (w.setRow g (splice cur off cs).toArray) := by
  cases hq : P.info? elem with
  | none => simp [hq] at hs
  | some i =>
    have hi : i.size = k := by simpa [hq] using hs
    have hf : (Builtin.firstCells k (Nat.min sLen dLen) (.slice (some sp) sLen sCap)).run P w = .ok cs.toArray w := run_firstCells_some w k (Nat.min sLen dLen) sp sLen sCap cs hn hsrc
    have hst := run_storeCells_at P g off t cs 0 cur.toArray w hg (by simpa using hfit) h1
    simp [Builtin.copy_, run_underlying hu, Builtin.lenOf, sizeOf, typeInfo, hq, hi, hf, hst, splice]
theorem step_copy_ko {P : Program} {ops : Array Oper} {o : Oper} {a : Act} {w : World} {K : Act → World → Prop} {Q : Exit → Act → World → Prop} {E : Prop} (hgd : o.guard = none) (d s : Operand) (dT sT : TypeId)
    (ho : o.op = .call { callee := .builtin .copy, args := #[d, s], argTypes := #[dT, sT] }) (elem : TypeId) (k : Nat) (hu : P.underlying dT = some (.slice elem)) (hsz : (P.info? elem).map (·.size) = some k)
    (g off dLen dCap : Nat) (sp : Addr) (sLen sCap : Nat) (hd : a.eval d = .slice (some ⟨g, off, none⟩) dLen dCap) (hs : a.eval s = .slice (some sp) sLen sCap)
    (cur : List Value) (t : TypeId) (hg : w.heap[g]? = some (.cells cur.toArray t (0, 0))) (cs : List Value) (hn : cs.length = Nat.min sLen dLen * k)
    (hsrc : ∀ j v, cs[j]? = some v → w.cell? (sp.add j) = some v)
    (hfit : off + cs.length ≤ cur.length) (h1 : ∀ v ∈ cs, v.oneCell' = true) (B : Nat) (w0 : World) (hb : RowKit.Below B w0 w) (hBg : B ≤ g)
    (h : ∀ w', RowKit.Hid (w'.heap[g]? = some (.cells (splice cur off cs).toArray t (0, 0))) → RowKit.Below B w0 w' → K (a.put o.dst (goInt (Nat.min sLen dLen))) w') :
    if Region.wanted o (yielded ops a.tmps) = true then Oper.wp P o a w K Q else E := by
  have hw : Region.wanted o (yielded ops a.tmps) = true := by simp [Region.wanted, hgd]
  rw [if_pos hw]
  have hrun := run_copy_ko (P := P) w dT sT o.type elem k g off dLen dCap sp sLen sCap cur t cs hu hsz hg hn hsrc hfit h1
  unfold Oper.wp
  simp only [execOp, ho, resolve, invoke, builtin, Sem.run_bind, Sem.run_pure, Result.andThen_ok, List.map_toArray, List.map_cons, List.map_nil, hd, hs, hrun]
  exact h _ (show _ = _ from setRow_heap w g _ _ t _ hg) (below_setRow hb hBg _)
theorem wpList_copy_ko {P : Program} {w : World} {ops : Array Oper} {rest : List Oper} {o : Oper} {a : Act} {Q : Exit → Act → World → Prop} (hgd : o.guard = none) (d s : Operand) (dT sT : TypeId)
    (ho : o.op = .call { callee := .builtin .copy, args := #[d, s], argTypes := #[dT, sT] }) (elem : TypeId) (k : Nat) (hu : P.underlying dT = some (.slice elem)) (hsz : (P.info? elem).map (·.size) = some k)
    (g off dLen dCap : Nat) (sp : Addr) (sLen sCap : Nat) (hd : a.eval d = .slice (some ⟨g, off, none⟩) dLen dCap) (hs : a.eval s = .slice (some sp) sLen sCap)
    (cur : List Value) (t : TypeId) (hg : w.heap[g]? = some (.cells cur.toArray t (0, 0))) (cs : List Value) (hn : cs.length = Nat.min sLen dLen * k)
    (hsrc : ∀ j v, cs[j]? = some v → w.cell? (sp.add j) = some v)
    (hfit : off + cs.length ≤ cur.length) (h1 : ∀ v ∈ cs, v.oneCell' = true) (B : Nat) (w0 : World) (hb : Below B w0 w) (hBg : B ≤ g)
    (h : ∀ w', Hid (w'.heap[g]? = some (.cells (splice cur off cs).toArray t (0, 0))) → Below B w0 w' → wpList P ops Q rest (a.put o.dst (goInt (Nat.min sLen dLen))) w') : wpList P ops Q (o :: rest) a w := by
  refine wpList_plain hgd fun K hK => ?_
  have hrun := run_copy_ko (P := P) w dT sT o.type elem k g off dLen dCap sp sLen sCap cur t cs hu hsz hg hn hsrc hfit h1
  unfold Oper.wp
  simp only [execOp, ho, resolve, invoke, builtin, Sem.run_bind, Sem.run_pure, Result.andThen_ok, List.map_toArray, List.map_cons, List.map_nil, hd, hs, hrun]
  exact hK _ _ (h _ (show _ = _ from setRow_heap w g _ _ t _ hg) (below_setRow hb hBg _))
theorem slice_fromE (b len cap m : Nat) (hm : m ≤ len) (hc : m < cap) (W : World) :
    (Instr.slice 58 (.slice (some ⟨b, 0, none⟩) len cap) (some (.int .i64 (m : Int))) none none).run Tryd.prog W = .ok (.slice (some ⟨b, m * 2, none⟩) (len - m) (cap - m)) W := by
  rw [run_slice_l (P := Tryd.prog) W 58 (some ⟨b, 0, none⟩) len cap (Tryd.underlying58.trans (by kernel_rfl)) .i64 _ (by omega) (by omega)]
  rw [Int.toNat_natCast]
  have hs : (sizeOf (Tryd.prog.elem 58)).run Tryd.prog W = .ok 2 W := by
    rw [show Tryd.prog.elem 58 = 57 by kernel_rfl]; exact Tryd.sizeOf57 W
  rw [hs]
  have : ¬ cap = m := by omega
  simp only [Result.andThen, sliced, Option.map]
  rw [show ∀ j, (Addr.mk b 0 none).add j = Addr.mk b (0 + j) none from fun j => WideShapes.add_plain ..]
  simp [this]
theorem slice_toE (b o len cap m : Nat) (hm : m ≤ cap) (W : World) :
    (Instr.slice 58 (.slice (some ⟨b, o, none⟩) len cap) none (some (.int .i64 (m : Int))) none).run Tryd.prog W = .ok (.slice (some ⟨b, o, none⟩) m cap) W := by
  rw [run_slice_h (P := Tryd.prog) W 58 (some ⟨b, o, none⟩) len cap (Tryd.underlying58.trans (by kernel_rfl)) .i64 _ (by omega) (by omega)]
  rw [Int.toNat_natCast]
  have hs : (sizeOf (Tryd.prog.elem 58)).run Tryd.prog W = .ok 2 W := by
    rw [show Tryd.prog.elem 58 = 57 by kernel_rfl]; exact Tryd.sizeOf57 W
  rw [hs]
  simp only [Result.andThen, sliced, Option.map]
  rw [show ∀ j, (Addr.mk b o none).add j = Addr.mk b (o + j) none from fun j => WideShapes.add_plain ..]
  simp
theorem infoE : (Tryd.prog.info? 57).map (fun i => (i.zero, i.size, i.bytes)) = some (some (.agg #[.int .i64 0, .bool false]), 2, 16) := by kernel_rfl
theorem sizeE : (Tryd.prog.info? 57).map (·.size) = some 2 := by kernel_rfl
/-- Where a channel comes in. -/
structure En where
  t : Int
  b : Bool
def cellsE (e : En) : List Value := [.int .i64 e.t, .bool e.b]
theorem one_cellsE (q : En) : ∀ u ∈ cellsE q, u.oneCell' = true := by intro u hu; simp [cellsE] at hu; rcases hu with rfl | rfl <;> rfl
theorem len_cellsE (es : List En) : (es.flatMap cellsE).length = es.length * 2 := by
  induction es with
  | nil => rfl
  | cons a l ih => rw [List.flatMap_cons, List.length_append, ih, List.length_cons]; simp [cellsE]; omega
/-- What of a row is filled: 'm' copies of an element, then zeros. -/
def filled (e : En) (m n : Nat) : List Value := (List.replicate m e ++ List.replicate (n - m) (En.mk 0 false)).flatMap cellsE
theorem splice_filled (e : En) (m j n : Nat) (h : m + j ≤ n) : splice (filled e m n) (m * 2) ((List.replicate j e).flatMap cellsE) = filled e (m + j) n := by
  unfold splice filled
  rw [List.flatMap_append, List.flatMap_append]
  have hA : ((List.replicate m e).flatMap cellsE).length = m * 2 := by rw [len_cellsE]; simp
  have hC : ((List.replicate j e).flatMap cellsE).length = j * 2 := by rw [len_cellsE]; simp
  rw [List.take_append_of_le_length (by omega), List.take_of_length_le (by omega), hC, List.drop_append, List.drop_of_length_le (by omega), List.nil_append, hA]
  have hB : ((List.replicate (n - m) (En.mk 0 false)).flatMap cellsE).drop (m * 2 + j * 2 - m * 2) = (List.replicate (n - (m + j)) (En.mk 0 false)).flatMap cellsE := by
    rw [show n - m = j + (n - (m + j)) by omega, ← List.replicate_append_replicate, List.flatMap_append, List.drop_append, List.drop_of_length_le (by rw [len_cellsE]; simp <;> omega), List.nil_append, len_cellsE]
    rw [show m * 2 + j * 2 - m * 2 - (List.replicate j (En.mk 0 false)).length * 2 = 0 by simp <;> omega]
    simp
  rw [hB, ← List.append_assoc, ← List.flatMap_append, List.replicate_append_replicate]
theorem filled_all (e : En) (n : Nat) : filled e n n = (List.replicate n e).flatMap cellsE := by unfold filled; simp
theorem len_filled (e : En) (m n : Nat) (h : m ≤ n) : (filled e m n).length = n * 2 := by unfold filled; rw [len_cellsE]; simp; omega
theorem filled_at (e : En) (m n j : Nat) (hj : j < m) (v : Value) (i : Nat) (hi : i = j * 2 ∧ v = .int .i64 e.t ∨ i = j * 2 + 1 ∧ v = .bool e.b) : (filled e m n)[i]? = some v := by
  unfold filled
  have hl : j < (List.replicate m e ++ List.replicate (n - m) (En.mk 0 false)).length := by simp; omega
  have hg : (List.replicate m e ++ List.replicate (n - m) (En.mk 0 false))[j] = e := by rw [List.getElem_append_left (by simpa using hj)]; simp
  rcases hi with ⟨rfl, rfl⟩ | ⟨rfl, rfl⟩
  · have := flat_at cellsE 2 (fun _ => rfl) _ j 0 hl (by decide)
    rw [hg] at this
    simpa [cellsE] using this
  · have := flat_at cellsE 2 (fun _ => rfl) _ j 1 hl (by decide)
    rw [hg] at this
    simpa [cellsE] using this
end Go.Proofs.YtpghfopbnicpmaaDoor
