import Derived.Test.YtoioaalkeanhgaaDoorWrtB
import Derived.Deep.RegionHeld3
import Derived.Deep.Onto
namespace Go.Proofs.YtoioaalkeanhgaaDoor
open Go.RowKit Go.Lib
set_option linter.unusedVariables false
set_option maxRecDepth 100000

/-- A value. -/
structure V where
  k : Int
  n : Int
  s : ByteArray
def kb (k : Int) : UInt8 := UInt8.ofNat (k % 256).toNat
def encTail (v : V) : List UInt8 := if v.k = 1 ∨ v.k = 2 then encInt v.n else if v.k = 3 then encInt (v.s.size : Int) ++ v.s.data.toList else []
def encVal (v : V) : List UInt8 := kb v.k :: encTail v
theorem u8v_kb (k : Int) : u8v (kb k) = .int .u8 (k % 256) := by
  unfold kb; rw [u8v_ofNat _ (by omega)]; congr 1; omega
theorem strCells_eq (s : ByteArray) : strCells s = s.data.toList.map u8v := by
  rfl

theorem only_ne {w w' : World} {r r' : Option Nat} {g : Nat} (h : Only w w' r r') (hg : g < w.heap.size) (hne : some g ≠ r) : some g ≠ r' := by
  rcases h.place with h1 | ⟨g', h1, h2⟩
  · rw [h1]; exact hne
  · rw [h1]; intro e; have := Option.some.inj e; omega
/-- 'append(b, s...)' at a step of a region that draws its order. -/
theorem step_append_own_string {P : Program} (w : World) {ops : Array Oper} {o : Oper} {a : Act} {K : Act → World → Prop} {Q : Exit → Act → World → Prop} {E : Prop} (hgd : o.guard = none) (sl x : Operand) (t u : TypeId)
    (ho : o.op = .call { callee := .builtin .append, args := #[sl, x], argTypes := #[t, u] })
    (base : Nat) (e : TypeId) (i : TypeInfo) (ht : P.underlying t = some (.slice e)) (hu : P.underlying u = some .string) (hi : P.info? e = some i) (hz : i.zero = some (.int .u8 0))
    (hsize : i.size = 1) (hby : i.bytes = 1)
    (v : Value) (n : Nat) (xs : List Value) (hs : a.eval sl = v) (hown : w.ownsRow base e 1 v n xs) (s : ByteArray) (hx : a.eval x = .string s)
    (h63 : n + s.size ≤ maxLen) (hbytes : n + s.size ≤ 140737488355328) (hbase : base ≤ w.heap.size)
    (h : ∀ v' w', w'.ownsRow base e 1 v' (n + s.size) (xs ++ strCells s) → w.grownBy w' v.ownBlock → (v' = .slice none 0 0 ↔ v = .slice none 0 0 ∧ s.size = 0) → K (a.put o.dst v') w') :
    if Region.wanted o (yielded ops a.tmps) = true then Oper.wp P o a w K Q else E := by
  have hw : Region.wanted o (yielded ops a.tmps) = true := by simp [Region.wanted, hgd]
  rw [if_pos hw]
  obtain ⟨v', w', hr, h2, h3, h4⟩ := run_append_own_string (P := P) w base t u o.type e i ht hu hi hz hsize hby v n xs hown s h63 hbytes hbase
  unfold Oper.wp execOp
  simp only [ho, resolve, invoke, builtin, Sem.run_bind, Sem.run_pure, Result.andThen_ok, List.map_toArray, List.map_cons, List.map_nil, hs, hx, hr]
  exact h v' w' h2 h3 h4

theorem vint_pos (u : Nat) : 0 < (vint u).length := by
  by_cases h : u < 128
  · rw [vint_lt h]; simp
  · rw [vint_ge h]; simp
theorem encInt_pos (x : Int) : 0 < (encInt x).length := vint_pos _

end Go.Proofs.YtoioaalkeanhgaaDoor
