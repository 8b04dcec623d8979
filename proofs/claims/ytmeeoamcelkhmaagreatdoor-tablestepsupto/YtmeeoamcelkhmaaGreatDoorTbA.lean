import Derived.Test.YtmeeoamcelkhmaaGreatDoorSrtH
import Derived.Test.YtmeeoamcelkhmaaGreatDoorMpA
import Derived.Maps.OwnSet
import Derived.DeepKeys5
import Derived.Deep.LoopGhost
import Derived.Sort.AtCall
import Derived.Deep.RegionWith
import Derived.Deep.RegionHeld3
import Derived.Deep.QuietTactic
import Derived.BigQuiet
namespace Go.Proofs.YtmeeoamcelkhmaaGreatDoor
open Go.RowKit Go.Maps
set_option linter.unusedVariables false
set_option linter.unusedSimpArgs false
set_option maxRecDepth 100000

theorem hidMk {p : Prop} (h : p) : Hid p := h
theorem w64 {x : Int} (h1 : -9223372036854775808 ≤ x) (h2 : x < 9223372036854775808) : wrap64 x = x := by
  unfold wrap64
  omega
theorem wi64 {x : Int} (h1 : -9223372036854775808 ≤ x) (h2 : x < 9223372036854775808) : IntKind.i64.wrap x = x := by
  simp [IntKind.wrap, IntKind.bits, IntKind.signed]
  omega
theorem below_drewN {B : Nat} {w0 w : World} (h : Below B w0 w) (n : Nat) : Below B w0 (w.drewN n) := ⟨h.os, h.tape, h.output, h.size, h.block⟩
theorem xent {f : FuncId} {fn : Func} {c : Code} (hf : Tryz.prog.funcs[f]? = some fn) (hname : (fn.name == "runtime.NumGoroutine") = false) (hb : fn.body = some c) (args : Array Value) (w : World) :
    (callFunc f args).run Tryz.prog w = .ok (.enter f args) w := by
  have h1 : fn.name ≠ "runtime.NumGoroutine" := by simpa using hname
  simp [callFunc, hf, h1, hb]
/-- Nothing but the blocks of S has turned. -/
structure Gs (S : Nat → Prop) (w w' : World) : Prop where
  os : w'.os = w.os
  tape : w'.tape = w.tape
  output : w'.output = w.output
  size : w.heap.size ≤ w'.heap.size
  block : ∀ i, i < w.heap.size → ¬ S i → w'.heap[i]? = w.heap[i]?
theorem Gs.refl (S : Nat → Prop) (w : World) : Gs S w w := ⟨rfl, rfl, rfl, Nat.le_refl _, fun _ _ _ => rfl⟩
theorem Gs.trans {S : Nat → Prop} {a b c : World} (h : Gs S a b) (k : Gs S b c) : Gs S a c :=
  ⟨k.os.trans h.os, k.tape.trans h.tape, k.output.trans h.output, Nat.le_trans h.size k.size, fun i hi hn => (k.block i (Nat.lt_of_lt_of_le hi h.size) hn).trans (h.block i hi hn)⟩
/-- What is new since 'a' may turn. -/
theorem Gs.new {S T : Nat → Prop} {a b c : World} (h : Gs S a b) (k : Gs T b c) (hT : ∀ i, T i → i < a.heap.size → S i) : Gs S a c :=
  ⟨k.os.trans h.os, k.tape.trans h.tape, k.output.trans h.output, Nat.le_trans h.size k.size, fun i hi hn => (k.block i (Nat.lt_of_lt_of_le hi h.size) (fun t => hn (hT i t hi))).trans (h.block i hi hn)⟩
theorem Gs.mono {S T : Nat → Prop} {a b : World} (h : Gs S a b) (hT : ∀ i, i < a.heap.size → S i → T i) : Gs T a b := ⟨h.os, h.tape, h.output, h.size, fun i hi hn => h.block i hi (fun s => hn (hT i hi s))⟩
theorem Gs.below {S : Nat → Prop} {a b : World} (h : Below a.heap.size a b) : Gs S a b := ⟨h.os, h.tape, h.output, h.size, fun i hi _ => h.block i hi⟩
theorem Gs.one {S : Nat → Prop} {a b : World} {r : Option Nat} (h : a.grownBy b r) (hr : ∀ k, r = some k → S k) : Gs S a b := ⟨h.os, h.tape, h.output, h.size, fun i hi hn => h.block i hi (fun e => hn (hr i e.symm))⟩
theorem Gs.toBelow {S : Nat → Prop} {a b : World} {B : Nat} (h : Gs S a b) (hB : B ≤ a.heap.size) (hS : ∀ i, S i → B ≤ i) : Below B a b :=
  ⟨h.os, h.tape, h.output, h.size, fun i hi => h.block i (by omega) (fun s => by have := hS i s; omega)⟩
theorem Gs.cell {S : Nat → Prop} {w w' : World} {a : Addr} {u : Value} (h : Gs S w w') (hc : w.cell? a = some u) (hn : ¬ S a.block) : w'.cell? a = some u := by
  have hlt := World.block_lt_of_cell? _ _ hc
  have hb := h.block _ hlt hn
  unfold World.cell? at hc ⊢
  rw [hb]; exact hc
theorem Gs.own {S : Nat → Prop} {w w' : World} {B e size n : Nat} {v : Value} {xs : List Value} (hg : Gs S w w') (h : w.ownsRow B e size v n xs) (hne : ∀ g, v.ownBlock = some g → ¬ S g) : w'.ownsRow B e size v n xs := by
  refine ⟨h.1, ?_⟩
  rcases h.2 with h2 | ⟨g, cap, cur, h1, h2, h3, h4⟩
  · exact .inl h2
  · refine .inr ⟨g, cap, cur, h1, h2, ?_, h4⟩
    have hlt : g < w.heap.size := by
      rcases Nat.lt_or_ge g w.heap.size with h | h
      · exact h
      · rw [Array.getElem?_eq_none h] at h3; cases h3
    rw [hg.block g hlt (hne g (by rw [h1]; rfl))]; exact h3
theorem Gs.map {S : Nat → Prop} {P : Program} {k : TypeId} {κ : Type} [DecidableEq κ] {w w' : World} {kd : KeyKind P k κ} {b : Nat} {m : List (κ × Value)} (hg : Gs S w w') (h : MP w kd b m) (hn : ¬ S b) : MP w' kd b m := by
  have hlt := h.lt
  obtain ⟨es, ⟨x, c, h1, h2⟩, h3⟩ := h
  exact ⟨es, ⟨x, c, (hg.block b hlt hn).trans h1, h2⟩, h3⟩
theorem row_form {w : World} {B e size n : Nat} {v : Value} {xs : List Value} (h : w.ownsRow B e size v n xs) : ∃ a c, v = .slice a n c := by
  rcases h.2 with ⟨h1, h2⟩ | ⟨g, c, _, h1, _⟩
  · exact ⟨none, 0, by rw [h1, h2]⟩
  · exact ⟨_, _, h1⟩
theorem Gs.drew {S : Nat → Prop} {a b : World} (h : Gs S a.drew b) : Gs S a b := ⟨h.os, h.tape, h.output, h.size, h.block⟩
theorem toList_inj {s t : ByteArray} (h : s.toList = t.toList) : s = t := by
  rw [ByteArray.toList_eq, ByteArray.toList_eq] at h
  apply ByteArray.ext
  exact Array.toList_inj.1 h
theorem beq_str {s t : ByteArray} (h : s = t) : (s.toList == t.toList) = true := by rw [h]; exact beq_self_eq_true _
theorem bne_str {s t : ByteArray} (h : ¬ s = t) : (s.toList == t.toList) = false := by
  cases he : (s.toList == t.toList)
  · rfl
  · exact absurd (toList_inj (eq_of_beq he)) h
/-- A transaction. -/
structure Tx where
  m : Int
  sn : ByteArray
  tk : Int
theorem Tx.eq_of {a b : Tx} (h1 : a.m = b.m) (h2 : a.sn = b.sn) (h3 : a.tk = b.tk) : a = b := by cases a; cases b; simp only at h1 h2 h3; rw [h1, h2, h3]
theorem Tx.iff (a b : Tx) : a = b ↔ a.m = b.m ∧ a.sn = b.sn ∧ a.tk = b.tk := ⟨fun h => by rw [h]; exact ⟨rfl, rfl, rfl⟩, fun h => Tx.eq_of h.1 h.2.1 h.2.2⟩
instance : DecidableEq Tx := fun a b => decidable_of_iff' _ (Tx.iff a b)
def cellsT (x : Tx) : List Value := [.int .i64 x.m, .string x.sn, .int .i64 x.tk]
def vv (v : Tx) : Value := .agg #[.int .i64 v.m, .string v.sn, .int .i64 v.tk]
theorem infoT : (Tryz.prog.info? 27).map (fun i => (i.zero, i.size, i.bytes)) = some (some (.agg #[.int .i64 0, .string ⟨#[]⟩, .int .i64 0]), 3, 32) := by kernel_rfl
theorem laidOutM : laidOutB Tryz.prog = true := by kernel_rfl
theorem rowV : (27 : TypeId) < Tryz.prog.types.size := of_decide_eq_true (by kernel_rfl)
theorem wideV : (match Tryz.prog.underlying 27 with | some (.array _ _) | some (.struct _) => true | _ => false) = true := by kernel_rfl
theorem lawV : Keyed Tryz.prog 27 := Keyed.of_law (deep_law_laid laidOutM (m := 2) (by omega) rowV (by kernel_rfl) wideV)
theorem keyTypeV : Tryz.prog.keyType 27 = true := by kernel_rfl
theorem cellsOfV : Tryz.prog.cellsOf 27 = 3 := by kernel_rfl
theorem cellsOfI : Tryz.prog.cellsOf 3 = 1 := by kernel_rfl
theorem cellsOfS : Tryz.prog.cellsOf 9 = 1 := by kernel_rfl
/-- A transaction's bytes as a map's key. -/
def keyV (v : Tx) : Lit := .string (keyBytes [.int .i64 v.m, .string v.sn.data.toList, .int .i64 v.tk])
/-- Its numbers are numbers of 64 bits, its text is one. -/
def Fits (v : Tx) : Prop := (Lit.int .i64 v.m).wf = true ∧ v.sn.size ≤ maxLen ∧ (Lit.int .i64 v.tk).wf = true
theorem keyLits_V (d : Nat) (v : Tx) (h1 : (Lit.int .i64 v.m).wf = true) (h2 : v.sn.size ≤ maxLen) (h3 : (Lit.int .i64 v.tk).wf = true) :
    Option.map (fun ls => Lit.string (keyBytes ls)) (Tryz.prog.keyLits (d + 1 + 1) 27 (vv v).cells.toList) = some (keyV v) := by
  have a : Tryz.prog.keyLits (d + 1) 3 [.int .i64 v.m] = some [.int .i64 v.m] := by simp [Program.keyLits, Tryz.underlying3, h1]
  have b : Tryz.prog.keyLits (d + 1) 9 [.string v.sn] = some [.string v.sn.data.toList] := by simp [Program.keyLits, Tryz.underlying9, h2]
  have c : Tryz.prog.keyLits (d + 1) 3 [.int .i64 v.tk] = some [.int .i64 v.tk] := by simp [Program.keyLits, Tryz.underlying3, h3]
  unfold Program.keyLits
  rw [Tryz.underlying27]
  simp [vv, Value.cells, cellsOfV, cellsOfI, cellsOfS, a, b, c, keyV]
theorem keyV_of (v : Tx) (h : Fits v) : keyOf Tryz.prog 27 (vv v) = some (keyV v) := by
  obtain ⟨h1, h2, h3⟩ := h
  have hu := Tryz.underlying27
  have hf : (vv v).formed Tryz.prog 27 = true := by simp [Value.formed, vv, hu, cellsOfV]
  unfold keyOf
  rw [hu]
  simp only [keyTypeV, hf, Bool.and_self, if_true]
  rw [show Tryz.prog.types.size = (182 - 1) + 1 from by kernel_rfl]
  exact keyLits_V _ v h1 h2 h3
theorem vv_inj {a b : Tx} (h : vv a = vv b) : a = b := by
  obtain ⟨k1, n1, s1⟩ := a
  obtain ⟨k2, n2, s2⟩ := b
  simpa [vv] using h
theorem keyV_inj (a b : Tx) (ha : Fits a) (hb : Fits b) (h : keyV a = keyV b) : a = b := by
  have h1 := keyV_of a ha
  have h2 := keyV_of b hb
  rw [← h] at h2
  exact vv_inj (lawV.inj h1 h2)
end Go.Proofs.YtmeeoamcelkhmaaGreatDoor
