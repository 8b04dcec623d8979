import Derived.Test.YtojfhlhajemhdaaDoorProg
import Derived.Test.YtojfhlhajemhdaaDoorShelf
import Derived.Test.YtojfhlhajemhdaaDoorMpA
import Derived.WalkKit
import Derived.Below
import Derived.WalkSmall
import Derived.LoopN
import Derived.Laws.StructEq
import Derived.Laws.Cover1
import Derived.Handy
import Derived.KernelRfl
import Derived.Deep.DrawnRows
import Derived.Deep.RegionWith
import Derived.Deep.RegionHeld3
import Derived.Deep.QuietTactic
import Derived.BigQuiet
import Derived.Deep.OwnRows
import Derived.Laws.OwnMore
import Derived.OwnWalk
import Derived.Laws.Slices
import Derived.Sort.AtCall
import Derived.Laws.CopyOwn
import Derived.WideShapes
import Derived.Laws.AppendOwnNone
import Derived.Maps.AppendAt
import Derived.Deep.AppendLies
import Derived.Lib.SliceRun
import Derived.Laws.IdiomStrings
import Derived.Lib.MinMax
namespace Go.Proofs.YtojfhlhajemhdaaDoor
open Go.RowKit
set_option linter.unusedVariables false
set_option linter.unusedSimpArgs false
set_option maxRecDepth 100000

theorem cell_later {w wx : World} {a : Addr} {v : Value} (hb : Below w.heap.size w wx) (h : w.cell? a = some v) : wx.cell? a = some v := (hb.cell (World.block_lt_of_cell? _ _ h)).trans h
theorem bel1 (w : World) (o1 : Obj) : Below w.heap.size w (w.alloc o1) := (Below.refl _ _).alloc (Nat.le_refl _) _
theorem ret_bool {a b : Bool} (h : a = b) : Ending.returned (.bool a) = .returned (.bool b) := by rw [h]
theorem hidMk {p : Prop} (h : p) : Hid p := h
theorem w64 {x : Int} (h1 : -9223372036854775808 ≤ x) (h2 : x < 9223372036854775808) : wrap64 x = x := by
  unfold wrap64
  omega
theorem wi64 {x : Int} (h1 : -9223372036854775808 ≤ x) (h2 : x < 9223372036854775808) : IntKind.i64.wrap x = x := by
  simp [IntKind.wrap, IntKind.bits, IntKind.signed]
  omega
theorem below_drewN {B : Nat} {w0 w : World} (h : Below B w0 w) (n : Nat) : Below B w0 (w.drewN n) := ⟨h.os, h.tape, h.output, h.size, h.block⟩
theorem own_later {w w' : World} {B e size n : Nat} {v : Value} {xs : List Value} (h : w.ownsRow B e size v n xs) (hb : Below w.heap.size w w') : w'.ownsRow B e size v n xs := by
  refine ⟨h.1, ?_⟩
  rcases h.2 with h2 | ⟨g, cap, cur, h1, h2, h3, h4⟩
  · exact .inl h2
  · refine .inr ⟨g, cap, cur, h1, h2, ?_, h4⟩
    have hlt : g < w.heap.size := by
      rcases Nat.lt_or_ge g w.heap.size with h | h
      · exact h
      · rw [Array.getElem?_eq_none h] at h3; cases h3
    rw [hb.block g hlt]; exact h3
theorem own_grown {w w' : World} {B e size n : Nat} {v : Value} {xs : List Value} {r : Option Nat} (h : w.ownsRow B e size v n xs) (hg : w.grownBy w' r) (hne : ∀ g, v.ownBlock = some g → some g ≠ r) : w'.ownsRow B e size v n xs := by
  refine ⟨h.1, ?_⟩
  rcases h.2 with h2 | ⟨g, cap, cur, h1, h2, h3, h4⟩
  · exact .inl h2
  · refine .inr ⟨g, cap, cur, h1, h2, ?_, h4⟩
    have hlt : g < w.heap.size := by
      rcases Nat.lt_or_ge g w.heap.size with h | h
      · exact h
      · rw [Array.getElem?_eq_none h] at h3; cases h3
    rw [hg.block g hlt (hne g (by rw [h1]; rfl))]; exact h3
theorem grown_refl (w : World) (r : Option Nat) : w.grownBy w r := World.grownBy.refl _ _
theorem grown_trans {a b c : World} {r : Option Nat} (h : a.grownBy b r) (k : b.grownBy c r) : a.grownBy c r :=
  ⟨k.os.trans h.os, k.tape.trans h.tape, k.output.trans h.output, Nat.le_trans h.size k.size, fun i hi hr => (k.block i (Nat.lt_of_lt_of_le hi h.size) hr).trans (h.block i hi hr)⟩
theorem grown_below {a b : World} {r : Option Nat} (h : Below a.heap.size a b) : a.grownBy b r :=
  ⟨h.os, h.tape, h.output, h.size, fun i hi _ => h.block i hi⟩
/-- A struct of 'n' cells in a block of one's own. -/
def Own (w : World) (g t n : Nat) (xs : List Value) : Prop := w.ownsRow g t n (.slice (some ⟨g, 0, none⟩) 1 1) 1 xs
theorem Own.grown {w w' : World} {g t n : Nat} {xs : List Value} {r : Option Nat} (h : Own w g t n xs) (hg : w.grownBy w' r) (hne : some g ≠ r) : Own w' g t n xs :=
  own_grown h hg fun k hk => by cases hk; exact hne
theorem Own.later {w w' : World} {g t n : Nat} {xs : List Value} (h : Own w g t n xs) (hb : Below w.heap.size w w') : Own w' g t n xs := own_later h hb
theorem Own.lt {w : World} {g t n : Nat} {xs : List Value} (h : Own w g t n xs) : g < w.heap.size := (World.ownsRow.lt h g rfl).2
theorem Own.cell {w : World} {g t n : Nat} {xs : List Value} (h : Own w g t n xs) (j : Nat) (hj : j < n) : w.cell? ⟨g, j, none⟩ = xs[j]? := World.ownsRow.cellAt h j (by omega)
theorem Own.soft {w : World} {g t n : Nat} {xs : List Value} (h : Own w g t n xs) (j : Nat) : w.frozen? ⟨g, j, none⟩ = false := World.ownsRow.frozenAt h j
theorem Own.put {w : World} {g t n : Nat} {xs : List Value} (h : Own w g t n xs) (j : Nat) (u : Value) : Own (w.setCell ⟨g, j, none⟩ u) g t n (xs.set j u) ∧ w.grownBy (w.setCell ⟨g, j, none⟩ u) (some g) := World.ownsRow.stored h j u
theorem Own.new (w : World) (t n : Nat) (cs : Array Value) (hs : cs.size = n) : Own (w.alloc (.cells cs t)) w.heap.size t n cs.toList :=
  World.ownsRow_lit (base := w.heap.size) (e := t) (size := n) w cs 1 (Nat.le_refl _) (by decide) (by omega)
theorem grown_set (w : World) (a : Addr) (u : Value) : w.grownBy (w.setCell a u) (some a.block) :=
  ⟨rfl, rfl, rfl, by simp, fun k _ hk => heap_setCell_other w a k u (fun e => hk (by simp [e]))⟩
theorem grown_new {a b c : World} {r r' : Option Nat} (h : a.grownBy b r) (k : b.grownBy c r') (hr : ∀ n, r' = some n → a.heap.size ≤ n) : a.grownBy c r :=
  ⟨k.os.trans h.os, k.tape.trans h.tape, k.output.trans h.output, Nat.le_trans h.size k.size, fun i hi hne => (k.block i (Nat.lt_of_lt_of_le hi h.size) (fun e => by have := hr i e.symm; omega)).trans (h.block i hi hne)⟩
theorem size_set (w : World) (a : Addr) (u : Value) : (w.setCell a u).heap.size = w.heap.size := by simp
theorem flat_at {α β : Type} (f : α → List β) (m : Nat) (hf : ∀ a, (f a).length = m) : ∀ (l : List α) (i j : Nat) (hi : i < l.length), j < m → (l.flatMap f)[i * m + j]? = (f l[i])[j]?
  | a :: l, 0, j, _, hj => by
    rw [List.flatMap_cons, Nat.zero_mul, Nat.zero_add, List.getElem?_append_left (by rw [hf]; exact hj)]; rfl
  | a :: l, i + 1, j, hi, hj => by
    have ih := flat_at f m hf l i j (by simpa using hi) hj
    rw [List.flatMap_cons, List.getElem?_append_right (by rw [hf, Nat.add_mul]; omega), hf, show (i + 1) * m + j - m = i * m + j by rw [Nat.add_mul]; omega, ih]
    rfl
theorem ret_int {k : IntKind} {a b : Int} (h : a = b) : Ending.returned (.int k a) = .returned (.int k b) := by rw [h]
theorem ret_str {a b : ByteArray} (h : a = b) : Ending.returned (.string a) = .returned (.string b) := by rw [h]
/-- 'len' bytes lie in memory where the slice 'a' begins. -/
def Bytes (w : World) (a : Option Addr) (len : Nat) (f : Nat → UInt8) : Prop :=
  ∀ i, i < len → ∃ b off, a = some ⟨b, off, none⟩ ∧ w.cell? ⟨b, off + i, none⟩ = some (.int .u8 ((f i).toNat : Int))
theorem Bytes.later {w wx : World} {a : Option Addr} {len : Nat} {f : Nat → UInt8} (h : Bytes w a len f) (hb : Below w.heap.size w wx) : Bytes wx a len f := fun i hi => by
  obtain ⟨b, off, e, h1⟩ := h i hi
  exact ⟨b, off, e, cell_later hb h1⟩
theorem info5 : (Tryd.prog.info? 5).map (fun i => (i.zero, i.size, i.bytes)) = some (some (.int .u8 0), 1, 1) := by kernel_rfl
theorem size5 : (Tryd.prog.info? 5).map (·.size) = some 1 := by kernel_rfl
def u8v (c : UInt8) : Value := .int .u8 (c.toNat : Int)
/-- The text of 'n' bytes. -/
def bstr (f : Nat → UInt8) (n : Nat) : ByteArray := ⟨((List.range n).map f).toArray⟩
theorem bstr_eq (f g : Nat → UInt8) (n : Nat) : bstr f n = bstr g n ↔ ∀ i, i < n → f i = g i := by
  unfold bstr
  constructor
  · intro h i hi
    have h1 : (List.range n).map f = (List.range n).map g := by simpa using h
    have := congrArg (fun l => l[i]?) h1
    simpa [hi] using this
  · intro h
    congr 2
    exact List.map_congr_left fun i hi => h i (by simpa using hi)
theorem toList_inj {s t : ByteArray} (h : s.toList = t.toList) : s = t := by
  rw [ByteArray.toList_eq, ByteArray.toList_eq] at h
  apply ByteArray.ext
  exact Array.toList_inj.1 h
theorem beq_str {s t : ByteArray} (h : s = t) : (s.toList == t.toList) = true := by rw [h]; exact beq_self_eq_true _
theorem bne_str {s t : ByteArray} (h : ¬ s = t) : (s.toList == t.toList) = false := by
  cases he : (s.toList == t.toList)
  · rfl
  · exact absurd (toList_inj (eq_of_beq he)) h
theorem conv_bytes (w : World) (a : Option Addr) (len cap : Nat) (f : Nat → UInt8) (h : Bytes w a len f) :
    (convert 26 9 (.slice a len cap)).run Tryd.prog w = .ok (.string (bstr f len)) w := by
  cases a with
  | none =>
    have h0 : len = 0 := by
      rcases Nat.eq_zero_or_pos len with h0 | h0
      · exact h0
      · obtain ⟨b, o, e, _⟩ := h 0 h0; cases e
    subst h0
    exact run_convert_bytes_nil (P := Tryd.prog) w 26 5 Tryd.underlying26 Tryd.underlying5 0 cap 9 Tryd.underlying9
  | some a =>
    have := run_convert_bytes_back (P := Tryd.prog) w 26 9 5 a cap ((List.range len).map f) Tryd.underlying26 Tryd.underlying5 Tryd.underlying9 (by
      intro j hj
      obtain ⟨b, o, e, hc⟩ := h j (by simpa using hj)
      cases e
      rw [WideShapes.add_plain, hc]
      simp)
    simp only [List.length_map, List.length_range] at this
    exact this
/-- The cells of a row of one's own are the bytes. -/
theorem bytes_of_own {w : World} {B g n cap : Nat} {f : Nat → UInt8} (h : w.ownsRow B 5 1 (.slice (some ⟨g, 0, none⟩) n cap) n ((List.range n).map fun i => u8v (f i))) : Bytes w (some ⟨g, 0, none⟩) n f := by
  intro i hi
  refine ⟨g, 0, rfl, ?_⟩
  rw [Nat.zero_add, h.cellAt i (by omega)]
  simp [hi, u8v]
/-- Bytes in a row of one's own. -/
def OL (w : World) (B : Nat) (v : Value) (l : List UInt8) : Prop := w.ownsRow B 5 1 v l.length (l.map u8v)
theorem OL.later {w w' : World} {B : Nat} {v : Value} {l : List UInt8} (h : OL w B v l) (hb : Below w.heap.size w w') : OL w' B v l := own_later h hb
theorem OL.grown {w w' : World} {B : Nat} {v : Value} {l : List UInt8} {r : Option Nat} (h : OL w B v l) (hg : w.grownBy w' r) (hne : ∀ g, v.ownBlock = some g → some g ≠ r) : OL w' B v l := by
  refine ⟨h.1, ?_⟩
  rcases h.2 with h2 | ⟨g, cap, cur, h1, h2, h3, h4⟩
  · exact .inl h2
  · refine .inr ⟨g, cap, cur, h1, h2, ?_, h4⟩
    have hlt : g < w.heap.size := by
      rcases Nat.lt_or_ge g w.heap.size with h | h
      · exact h
      · rw [Array.getElem?_eq_none h] at h3; cases h3
    rw [hg.block g hlt (hne g (by rw [h1]; rfl))]; exact h3
def blist (f : Nat → UInt8) (n : Nat) : List UInt8 := (List.range n).map f
def lstr (l : List UInt8) : ByteArray := ⟨l.toArray⟩
theorem blist_len (f : Nat → UInt8) (n : Nat) : (blist f n).length = n := by simp [blist]
theorem lstr_size (l : List UInt8) : (lstr l).size = l.length := by simp [lstr, ByteArray.size]
theorem bstr_blist (f : Nat → UInt8) (n : Nat) : bstr f n = lstr (blist f n) := rfl
/-- The bytes of a list, by place. -/
def lat (l : List UInt8) : Nat → UInt8 := fun i => l.getD i 0
theorem blist_lat (l : List UInt8) : blist (lat l) l.length = l := by
  apply List.ext_getElem?
  intro i
  by_cases hi : i < l.length
  · simp [blist, lat, hi]
  · simp [blist, hi]
theorem bstr_lat (l : List UInt8) : bstr (lat l) l.length = lstr l := by rw [bstr_blist, blist_lat]
theorem OL.form {w : World} {B : Nat} {v : Value} {l : List UInt8} (h : OL w B v l) : (v = .slice none 0 0 ∧ l = []) ∨ ∃ g c, v = .slice (some ⟨g, 0, none⟩) l.length c ∧ l.length ≤ c ∧ c ≤ maxLen := by
  rcases h.2 with ⟨h1, h2⟩ | ⟨g, c, _, h1, _, _, h3, h4, _⟩
  · exact .inl ⟨h1, List.eq_nil_of_length_eq_zero h2⟩
  · exact .inr ⟨g, c, h1, h3, h4⟩
theorem OL.bytes {w : World} {B : Nat} {a : Option Addr} {n c : Nat} {l : List UInt8} (h : OL w B (.slice a n c) l) : n = l.length ∧ Bytes w a l.length (lat l) := by
  rcases h.form with ⟨h1, rfl⟩ | ⟨g, c', h1, -, -⟩
  · simp at h1; exact ⟨by simp [h1], fun i hi => absurd hi (by simp)⟩
  · simp only [Value.slice.injEq] at h1
    obtain ⟨rfl, rfl, rfl⟩ := h1
    refine ⟨rfl, bytes_of_own (B := B) (cap := c) ?_⟩
    have e : ((List.range l.length).map fun i => u8v (lat l i)) = l.map u8v := by
      conv => rhs; rw [← blist_lat l]
      simp [blist]
    rw [e]; exact h
theorem OL.conv {w : World} {B : Nat} {v : Value} {l : List UInt8} (h : OL w B v l) : ∃ a c, v = .slice a l.length c ∧ Bytes w a l.length (lat l) ∧ l.length ≤ c ∧ c ≤ maxLen := by
  rcases h.form with ⟨rfl, rfl⟩ | ⟨g, c', rfl, h1, h2⟩
  · exact ⟨none, 0, rfl, fun i hi => absurd hi (by simp), by simp, by decide⟩
  · exact ⟨_, _, rfl, h.bytes.2, h1, h2⟩
theorem OL.pos {w : World} {B : Nat} {v : Value} {l : List UInt8} (h : OL w B v l) (h0 : 0 < l.length) : ∃ g c, v = .slice (some ⟨g, 0, none⟩) l.length c ∧ l.length ≤ c ∧ c ≤ maxLen := by
  rcases h.form with ⟨-, h⟩ | ⟨g, c, h1, h2, h3⟩
  · rw [h] at h0; simp at h0
  · exact ⟨g, c, h1, h2, h3⟩
theorem OL.base {w : World} {B B' : Nat} {v : Value} {l : List UInt8} (h : OL w B v l) (hb : B' ≤ B) : OL w B' v l := by
  refine ⟨h.1, ?_⟩
  rcases h.2 with h2 | ⟨g, cap, cur, h1, h2, h3⟩
  · exact .inl h2
  · exact .inr ⟨g, cap, cur, h1, Nat.le_trans hb h2, h3⟩
theorem OL.lt {w : World} {B : Nat} {v : Value} {l : List UInt8} (h : OL w B v l) : ∀ k, v.ownBlock = some k → B ≤ k ∧ k < w.heap.size := fun k hk => World.ownsRow.lt h k hk
theorem slice_to (b o len cap m : Nat) (hm : m ≤ cap) (W : World) :
    (Instr.slice 26 (.slice (some ⟨b, o, none⟩) len cap) none (some (.int .i64 (m : Int))) none).run Tryd.prog W = .ok (.slice (some ⟨b, o, none⟩) m cap) W := by
  rw [run_slice_h (P := Tryd.prog) W 26 (some ⟨b, o, none⟩) len cap (Tryd.underlying26.trans (by kernel_rfl)) .i64 _ (by omega) (by omega)]
  rw [Int.toNat_natCast]
  have hs : (sizeOf (Tryd.prog.elem 26)).run Tryd.prog W = .ok 1 W := by
    rw [show Tryd.prog.elem 26 = 5 by kernel_rfl]; exact Tryd.sizeOf5 W
  rw [hs]
  simp only [Result.andThen, sliced, Nat.mul_one, Option.map]
  rw [show ∀ j, (Addr.mk b o none).add j = Addr.mk b (o + j) none from fun j => WideShapes.add_plain ..]
  simp
theorem sliceAt_to (b o len cap m : Nat) (hm : m ≤ cap) (W : World) :
    (Instr.sliceAt 26 (.slice (some ⟨b, o, none⟩) len cap) none (some (.int .i64 (m : Int))) none).run Tryd.prog W = .ok (.slice (some ⟨b, o, none⟩) m cap) W := by
  rw [run_sliceAt_slice W 26 _ _ _ _ (Tryd.underlying26.trans (by kernel_rfl))]
  exact slice_to b o len cap m hm W

theorem Bytes.grown {w w' : World} {a : Option Addr} {n : Nat} {f : Nat → UInt8} {r : Option Nat} (h : Bytes w a n f) (hg : w.grownBy w' r) (hne : ∀ x, a = some x → some x.block ≠ r) : Bytes w' a n f := fun i hi => by
  obtain ⟨b, off, e, h1⟩ := h i hi
  exact ⟨b, off, e, hg.cell h1 (hne ⟨b, off, none⟩ e)⟩

/-- Nothing but the blocks of S has turned. -/
structure Gs (S : Nat → Prop) (w w' : World) : Prop where
  os : w'.os = w.os
  tape : w'.tape = w.tape
  output : w'.output = w.output
  size : w.heap.size ≤ w'.heap.size
  block : ∀ i, i < w.heap.size → ¬ S i → w'.heap[i]? = w.heap[i]?
theorem Gs.refl (S : Nat → Prop) (w : World) : Gs S w w := ⟨rfl, rfl, rfl, Nat.le_refl _, fun _ _ _ => rfl⟩
theorem Gs.trans {S : Nat → Prop} {a b c : World} (h : Gs S a b) (k : Gs S b c) : Gs S a c :=
  ⟨k.os.trans h.os, k.tape.trans h.tape, k.output.trans h.output, Nat.le_trans h.size k.size, fun i hi hn => (k.block i (Nat.lt_of_lt_of_le hi h.size) hn).trans (h.block i hi hn)⟩
/-- What is new since 'a' may turn. -/
theorem Gs.new {S T : Nat → Prop} {a b c : World} (h : Gs S a b) (k : Gs T b c) (hT : ∀ i, T i → i < a.heap.size → S i) : Gs S a c :=
  ⟨k.os.trans h.os, k.tape.trans h.tape, k.output.trans h.output, Nat.le_trans h.size k.size, fun i hi hn => (k.block i (Nat.lt_of_lt_of_le hi h.size) (fun t => hn (hT i t hi))).trans (h.block i hi hn)⟩
theorem Gs.mono {S T : Nat → Prop} {a b : World} (h : Gs S a b) (hT : ∀ i, i < a.heap.size → S i → T i) : Gs T a b := ⟨h.os, h.tape, h.output, h.size, fun i hi hn => h.block i hi (fun s => hn (hT i hi s))⟩
theorem Gs.below {S : Nat → Prop} {a b : World} (h : Below a.heap.size a b) : Gs S a b := ⟨h.os, h.tape, h.output, h.size, fun i hi _ => h.block i hi⟩
theorem Gs.one {S : Nat → Prop} {a b : World} {r : Option Nat} (h : a.grownBy b r) (hr : ∀ k, r = some k → S k) : Gs S a b := ⟨h.os, h.tape, h.output, h.size, fun i hi hn => h.block i hi (fun e => hn (hr i e.symm))⟩
theorem Gs.toBelow {S : Nat → Prop} {a b : World} {B : Nat} (h : Gs S a b) (hB : B ≤ a.heap.size) (hS : ∀ i, S i → B ≤ i) : Below B a b :=
  ⟨h.os, h.tape, h.output, h.size, fun i hi => h.block i (by omega) (fun s => by have := hS i s; omega)⟩
theorem Gs.cell {S : Nat → Prop} {w w' : World} {a : Addr} {u : Value} (h : Gs S w w') (hc : w.cell? a = some u) (hn : ¬ S a.block) : w'.cell? a = some u := by
  have hlt := World.block_lt_of_cell? _ _ hc
  have hb := h.block _ hlt hn
  unfold World.cell? at hc ⊢
  rw [hb]; exact hc
theorem Gs.own {S : Nat → Prop} {w w' : World} {B e size n : Nat} {v : Value} {xs : List Value} (hg : Gs S w w') (h : w.ownsRow B e size v n xs) (hne : ∀ g, v.ownBlock = some g → ¬ S g) : w'.ownsRow B e size v n xs := by
  refine ⟨h.1, ?_⟩
  rcases h.2 with h2 | ⟨g, cap, cur, h1, h2, h3, h4⟩
  · exact .inl h2
  · refine .inr ⟨g, cap, cur, h1, h2, ?_, h4⟩
    have hlt : g < w.heap.size := by
      rcases Nat.lt_or_ge g w.heap.size with h | h
      · exact h
      · rw [Array.getElem?_eq_none h] at h3; cases h3
    rw [hg.block g hlt (hne g (by rw [h1]; rfl))]; exact h3
theorem Gs.bytes {S : Nat → Prop} {w w' : World} {a : Option Addr} {n : Nat} {f : Nat → UInt8} (hg : Gs S w w') (h : Bytes w a n f) (hne : ∀ x, a = some x → ¬ S x.block) : Bytes w' a n f := fun i hi => by
  obtain ⟨b, off, e, h1⟩ := h i hi
  exact ⟨b, off, e, hg.cell h1 (hne ⟨b, off, none⟩ e)⟩
theorem Gs.map {S : Nat → Prop} {P : Program} {k : TypeId} {κ : Type} [DecidableEq κ] {w w' : World} {kd : KeyKind P k κ} {b : Nat} {m : List (κ × Value)} (hg : Gs S w w') (h : MP w kd b m) (hn : ¬ S b) : MP w' kd b m := by
  have hlt := h.lt
  obtain ⟨es, ⟨x, c, h1, h2⟩, h3⟩ := h
  exact ⟨es, ⟨x, c, (hg.block b hlt hn).trans h1, h2⟩, h3⟩

/-- A file: its name, its bytes, whether it can be lost; where the program and the law have them. -/
structure Fl where
  nm : ByteArray
  bs : List UInt8
  ls : Bool
  pa : Option Addr
  pc : Nat
  la : Option Addr
  lc : Nat
def sk : KeyKind Tryd.prog 9 ByteArray where
  kv s := .string s
  kl s := .string s.data.toList
  ok s := s.size ≤ maxLen
  key := (strKey Tryd.underlying9).key
  inj := (strKey Tryd.underlying9).inj
theorem K9 : Maps.Keyed Tryd.prog 9 := Maps.string_keyed Tryd.underlying9
def ent (f : Fl) : ByteArray × Value := (f.nm, .slice f.pa f.bs.length f.pc)
def loose (fs : List Fl) : List ByteArray := (fs.filter (·.ls)).map (·.nm)
/-- The disk. -/
structure PD (w : World) (B d mb : Nat) (lv : Value) (fs : List Fl) : Prop where
  own : Own w d 49 2 [.map (some mb), lv]
  mp : MP w sk mb (fs.map ent)
  row : w.ownsRow B 9 1 lv (loose fs).length ((loose fs).map Value.string)
  by' : ∀ f ∈ fs, Bytes w f.pa f.bs.length (lat f.bs) ∧ f.bs.length ≤ f.pc ∧ (f.pa = none → f.pc = 0) ∧ ∀ y, f.pa = some y → y.spot = none
  ap : ∀ f ∈ fs, ∀ y, f.pa = some y → B ≤ y.block ∧ y.block < w.heap.size ∧ y.block ≠ d ∧ y.block ≠ mb ∧ some y.block ≠ lv.ownBlock
  hd : B ≤ d ∧ B ≤ mb ∧ d ≠ mb ∧ some d ≠ lv.ownBlock ∧ some mb ≠ lv.ownBlock
/-- The disk's own blocks. -/
def dS (d mb : Nat) (lv : Value) (i : Nat) : Prop := i = d ∨ i = mb ∨ some i = lv.ownBlock
theorem PD.kept {S : Nat → Prop} {w w' : World} {B d mb : Nat} {lv : Value} {fs : List Fl} (h : PD w B d mb lv fs) (hg : Gs S w w') (h1 : ∀ i, S i → ¬ dS d mb lv i) (h2 : ∀ i, S i → ∀ f ∈ fs, ∀ y, f.pa = some y → y.block ≠ i) : PD w' B d mb lv fs where
  own := hg.own h.own fun g hg' s => h1 g s (.inl (by cases hg'; rfl))
  mp := hg.map h.mp fun s => h1 _ s (.inr (.inl rfl))
  row := hg.own h.row fun g hg' s => h1 g s (.inr (.inr hg'.symm))
  by' := fun f hf => ⟨hg.bytes (h.by' f hf).1 fun x hx s => h2 _ s f hf x hx rfl, (h.by' f hf).2⟩
  ap := fun f hf y hy => by
    obtain ⟨a1, a2, a3⟩ := h.ap f hf y hy
    exact ⟨a1, Nat.lt_of_lt_of_le a2 hg.size, a3⟩
  hd := h.hd
theorem PD.later {w w' : World} {B d mb : Nat} {lv : Value} {fs : List Fl} (h : PD w B d mb lv fs) (hb : Below w.heap.size w w') : PD w' B d mb lv fs :=
  h.kept (S := fun _ => False) (Gs.below hb) (fun _ s => s.elim) (fun _ s => s.elim)
theorem PD.lt {w : World} {B d mb : Nat} {lv : Value} {fs : List Fl} (h : PD w B d mb lv fs) : ∀ i, dS d mb lv i → B ≤ i ∧ i < w.heap.size := fun i hi => by
  rcases hi with rfl | rfl | hi
  · exact ⟨h.hd.1, h.own.lt⟩
  · exact ⟨h.hd.2.1, h.mp.lt⟩
  · exact World.ownsRow.lt h.row i hi.symm
theorem PD.cells {w : World} {B d mb : Nat} {lv : Value} {fs : List Fl} (h : PD w B d mb lv fs) : w.cell? ⟨d, 0, none⟩ = some (.map (some mb)) ∧ w.cell? ⟨d, 1, none⟩ = some lv ∧ w.frozen? ⟨d, 0, none⟩ = false ∧ w.frozen? ⟨d, 1, none⟩ = false :=
  ⟨(h.own.cell 0 (by decide)).trans rfl, (h.own.cell 1 (by decide)).trans rfl, h.own.soft 0, h.own.soft 1⟩
theorem PD.nodup {w : World} {B d mb : Nat} {lv : Value} {fs : List Fl} (h : PD w B d mb lv fs) : (fs.map (·.nm)).Nodup := by
  have := h.mp.nodup
  rw [List.map_map] at this
  exact this
end Go.Proofs.YtojfhlhajemhdaaDoor
