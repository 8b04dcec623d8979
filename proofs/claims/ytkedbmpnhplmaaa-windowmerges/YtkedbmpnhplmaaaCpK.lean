import Derived.Test.YtkedbmpnhplmaaaMgF
import Derived.Laws.CopyOwn
import Derived.Laws.MakeOwn
import Derived.Laws.Tables
import Derived.WideShapes
namespace Go.Proofs.Ytkedbmpnhplmaaa
open Go.RowKit
set_option linter.unusedVariables false
set_option maxRecDepth 100000

/-- copy of elements of 'k' cells into the beginning of a row that is known whole. -/
theorem run_copy_k {P : Program} (w : World) (dT sT ty elem : TypeId) (k g dLen dCap : Nat) (sp : Option Addr) (sLen sCap : Nat) (cur : List Value) (t : TypeId) (cs : List Value)
    (hu : P.underlying dT = some (.slice elem)) (hs : (P.info? elem).map (·.size) = some k)
    (hg : w.heap[g]? = some (.cells cur.toArray t (0, 0))) (hn : cs.length = Nat.min sLen dLen * k)
    (hk : 0 < k) (hsrc : 0 < cs.length → ∃ a, sp = some a ∧ ∀ j v, cs[j]? = some v → w.cell? (a.add j) = some v) (hfit : cs.length ≤ cur.length) (h1 : ∀ v ∈ cs, v.oneCell' = true) :
    (Builtin.copy_ #[dT, sT] ty #[.slice (some ⟨g, 0, none⟩) dLen dCap, .slice sp sLen sCap]).run P w =
      .ok (goInt (Nat.min sLen dLen)) (w.setRow g (cs ++ cur.drop cs.length).toArray) := by
  cases hq : P.info? elem with
  | none => simp [hq] at hs
  | some i =>
    have hi : i.size = k := by simpa [hq] using hs
    have hf : (Builtin.firstCells k (Nat.min sLen dLen) (.slice sp sLen sCap)).run P w = .ok cs.toArray w := by
      by_cases h0 : cs.length = 0
      · obtain rfl : cs = [] := List.eq_nil_of_length_eq_zero h0
        cases sp with
        | none => exact run_firstCells_none ..
        | some a => exact run_firstCells_some w k (Nat.min sLen dLen) a sLen sCap [] hn (fun j v hj => by simp at hj)
      · obtain ⟨a, rfl, hc⟩ := hsrc (by omega)
        exact run_firstCells_some w k (Nat.min sLen dLen) a sLen sCap cs hn hc
    have hst := run_storeCells_at P g 0 t cs 0 cur.toArray w hg (by simpa using hfit) h1
    simp only [Nat.zero_add, List.take_zero, List.nil_append] at hst
    simp [Builtin.copy_, run_underlying hu, Builtin.lenOf, sizeOf, typeInfo, hq, hi, hf, hst]

theorem wpList_copy_k {P : Program} {w : World} {ops : Array Oper} {rest : List Oper} {o : Oper} {a : Act} {Q : Exit → Act → World → Prop} (hgd : o.guard = none) (d s : Operand) (dT sT : TypeId)
    (ho : o.op = .call { callee := .builtin .copy, args := #[d, s], argTypes := #[dT, sT] }) (elem : TypeId) (k : Nat) (hu : P.underlying dT = some (.slice elem)) (hsz : (P.info? elem).map (·.size) = some k)
    (g dLen dCap : Nat) (sp : Option Addr) (sLen sCap : Nat) (hd : a.eval d = .slice (some ⟨g, 0, none⟩) dLen dCap) (hs : a.eval s = .slice sp sLen sCap)
    (cur : List Value) (t : TypeId) (hg : w.heap[g]? = some (.cells cur.toArray t (0, 0))) (cs : List Value) (hn : cs.length = Nat.min sLen dLen * k) (hk : 0 < k)
    (hsrc : 0 < cs.length → ∃ a, sp = some a ∧ ∀ j v, cs[j]? = some v → w.cell? (a.add j) = some v) (hfit : cs.length ≤ cur.length) (h1 : ∀ v ∈ cs, v.oneCell' = true)
    (B : Nat) (w0 : World) (hb : Below B w0 w) (hBg : B ≤ g)
    (h : ∀ w', Hid (w'.heap[g]? = some (.cells (cs ++ cur.drop cs.length).toArray t (0, 0))) → Below B w0 w' → wpList P ops Q rest (a.put o.dst (goInt (Nat.min sLen dLen))) w') : wpList P ops Q (o :: rest) a w := by
  refine wpList_plain hgd fun K hK => ?_
  have hrun := run_copy_k (P := P) w dT sT o.type elem k g dLen dCap sp sLen sCap cur t cs hu hsz hg hn hk hsrc hfit h1
  unfold Oper.wp
  simp only [execOp, ho, resolve, invoke, builtin, Sem.run_bind, Sem.run_pure, Result.andThen_ok, List.map_toArray, List.map_cons, List.map_nil, hd, hs, hrun]
  exact hK _ _ (h _ (show _ = _ from setRow_heap w g _ _ t _ hg) (below_setRow hb hBg _))


theorem zeros_list (n : Nat) : (madeCells #[.int .i64 0, .int .i64 0] (n * 2)).toList = wcells (List.replicate n ⟨0, 0⟩) := by
  apply List.ext_getElem?
  intro t
  by_cases ht : t < n * 2
  · have h1 := wcells_at (List.replicate n ⟨0, 0⟩) (t / 2) ⟨0, 0⟩ (by rw [List.getElem?_replicate, if_pos (by omega)])
    have hm : t % 2 = 0 ∨ t % 2 = 1 := by omega
    rcases hm with hm | hm
    · have h2 := h1.1
      rw [show t / 2 * 2 = t by omega] at h2
      rw [h2]; simp [madeCells, ht, hm]
    · have h2 := h1.2
      rw [show t / 2 * 2 + 1 = t by omega] at h2
      rw [h2]; simp [madeCells, ht, hm]
  · rw [List.getElem?_eq_none (by simp [madeCells]; omega), List.getElem?_eq_none (by rw [wcells_length]; simp; omega)]
theorem sizeWn : (Try.prog.info? 24).map (·.size) = some 2 := by kernel_rfl
/-- A block that begins with windows. -/
theorem RdW.block {w : World} {g c : Nat} {xs : List Wn} {rest : List Value} (hg : w.heap[g]? = some (.cells (wcells xs ++ rest).toArray 24 (0, 0))) : RdW w (.slice (some ⟨g, 0, none⟩) xs.length c) xs := by
  refine ⟨some ⟨g, 0, none⟩, c, rfl, fun i x hx => ⟨g, 0, rfl, ?_, ?_⟩⟩
  · have h1 := (wcells_at xs i x hx).1
    have hl := (List.getElem?_eq_some_iff.1 h1).1
    simp [World.cell?, hg, List.getElem?_append_left hl, h1]
  · have h1 := (wcells_at xs i x hx).2
    have hl := (List.getElem?_eq_some_iff.1 h1).1
    simp [World.cell?, hg, List.getElem?_append_left hl, h1]
end Go.Proofs.Ytkedbmpnhplmaaa
