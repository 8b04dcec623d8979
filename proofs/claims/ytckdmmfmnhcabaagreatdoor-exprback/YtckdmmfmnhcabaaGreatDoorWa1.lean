import Derived.Test.YtckdmmfmnhcabaaGreatDoorProg
import Derived.WalkKit
import Derived.Below
import Derived.WalkSmall
import Derived.LoopN
import Derived.Laws.StructEq
import Derived.Laws.Cover1
import Derived.Handy
import Derived.KernelRfl
import Derived.Deep.DrawnRows
import Derived.Deep.RegionWith
import Derived.Deep.RegionHeld3
import Derived.Deep.QuietTactic
import Derived.BigQuiet
import Derived.Deep.OwnRows
import Derived.Laws.OwnMore
import Derived.OwnWalk
import Derived.Laws.Slices
import Derived.Sort.AtCall
import Derived.Laws.CopyOwn
import Derived.WideShapes
import Derived.Laws.AppendOwnNone
import Derived.Maps.AppendAt
import Derived.Deep.AppendLies
import Derived.Lib.SliceRun
namespace Go.Proofs.YtckdmmfmnhcabaaGreatDoor.Vc
open Go.RowKit
set_option linter.unusedVariables false
set_option linter.unusedSimpArgs false
set_option maxRecDepth 100000

theorem cell_later {w wx : World} {a : Addr} {v : Value} (hb : Below w.heap.size w wx) (h : w.cell? a = some v) : wx.cell? a = some v := (hb.cell (World.block_lt_of_cell? _ _ h)).trans h
theorem bel1 (w : World) (o1 : Obj) : Below w.heap.size w (w.alloc o1) := (Below.refl _ _).alloc (Nat.le_refl _) _
theorem ret_bool {a b : Bool} (h : a = b) : Ending.returned (.bool a) = .returned (.bool b) := by rw [h]
theorem hidMk {p : Prop} (h : p) : Hid p := h
theorem below_drewN {B : Nat} {w0 w : World} (h : Below B w0 w) (n : Nat) : Below B w0 (w.drewN n) := ⟨h.os, h.tape, h.output, h.size, h.block⟩
theorem take_all {α : Type} (p : α → Bool) (l : List α) (k : Nat) (hk : k < l.length) : (l.take (k + 1)).all p = ((l.take k).all p && p l[k]) := by
 rw [List.take_succ_eq_append_getElem hk, List.all_append]; simp
theorem all_false {α : Type} (p : α → Bool) (l : List α) (k : Nat) (hk : k < l.length) (h : p l[k] = false) : l.all p = false := by
 rw [List.all_eq_false]
 exact ⟨l[k], List.getElem_mem hk, by rw [h]; decide⟩

structure V where
 k : Int
 n : Int
 s : ByteArray
def VLies (w : World) (a : Option Addr) (vs : List V) : Prop :=
 ∀ i (hi : i < vs.length), ∃ b off, a = some ⟨b, off, none⟩ ∧ w.cell? ⟨b, off + i * 3, none⟩ = some (.int .i64 vs[i].k) ∧ w.cell? ⟨b, off + i * 3 + 1, none⟩ = some (.int .i64 vs[i].n) ∧ w.cell? ⟨b, off + i * 3 + 2, none⟩ = some (.string vs[i].s)
theorem VLies.later {w wx : World} {a : Option Addr} {vs : List V} (h : VLies w a vs) (hb : Below w.heap.size w wx) : VLies wx a vs := fun i hi => by
 obtain ⟨b, off, e, h1, h2, h3⟩ := h i hi
 exact ⟨b, off, e, cell_later hb h1, cell_later hb h2, cell_later hb h3⟩
def eqB (k1 n1 : Int) (s1 : ByteArray) (k2 n2 : Int) (s2 : ByteArray) : Bool := k1 == k2 && (n1 == n2 && s1.toList == s2.toList)

theorem eqVal (k1 n1 : Int) (s1 : ByteArray) (k2 n2 : Int) (s2 : ByteArray) (w : World) :
   (Op.equalIn 10000 42 (.agg #[.int .i64 k1, .int .i64 n1, .string s1]) (.agg #[.int .i64 k2, .int .i64 n2, .string s2])).run Tryz.prog w = .ok (eqB k1 n1 s1 k2 n2 s2) w := by
 have u24 := Tryz.underlying23
 have u2 := Tryz.underlying2
 have u9 := Tryz.underlying9
 have a24 := Tryz.isAgg23
 have z24 := Tryz.sizeOf23
 have a2 := Tryz.isAgg2
 have z2 := Tryz.sizeOf2
 have a9 := Tryz.isAgg9
 have z9 := Tryz.sizeOf9
 have hS : Tryz.prog.underlying 42 = some (.struct (Tryz.prog.fieldsOf 42)) := by kernel_rfl
 rw [show (10000 : Nat) = 9999 + 1 from rfl, run_equalIn_agg w 9999 42 _ _ hS (by kernel_rfl)]
 simp only [Program.fieldsOf, Tryz.underlying42]
 go_simp
 unfold eqB
 by_cases h1 : k1 = k2 <;> by_cases h2 : n1 = n2 <;> by_cases h3 : s1.toList = s2.toList <;> simp [h1, h2, h3]
theorem guardVal : Tryz.prog.eqGuardType Tryz.prog.depth 42 = false := by kernel_rfl
theorem neqVal (k1 n1 : Int) (s1 : ByteArray) (k2 n2 : Int) (s2 : ByteArray) (w : World) :
   (binOp .neq 42 (.agg #[.int .i64 k1, .int .i64 n1, .string s1]) (.agg #[.int .i64 k2, .int .i64 n2, .string s2])).run Tryz.prog w = .ok (.bool (!eqB k1 n1 s1 k2 n2 s2)) w := by
 rw [run_neq_struct, eqVal]; rfl
theorem eqlVal (k1 n1 : Int) (s1 : ByteArray) (k2 n2 : Int) (s2 : ByteArray) (w : World) :
   (binOp .eql 42 (.agg #[.int .i64 k1, .int .i64 n1, .string s1]) (.agg #[.int .i64 k2, .int .i64 n2, .string s2])).run Tryz.prog w = .ok (.bool (eqB k1 n1 s1 k2 n2 s2)) w := by
 rw [run_eql_struct, eqVal]; rfl

attribute [local go_sem ↓] neqVal eqlVal
attribute [local go_sem] guardVal
theorem bel1t {w w1 : World} {o : Obj} (h : Below (w.alloc o).drew.heap.size (w.alloc o).drew w1) : Below w.heap.size w w1 := (bel1 w o).drew.trans (h.mono (by simp))

theorem of_any (n : Int) (w : World) : Calls Tryz.prog 85 #[.int .i64 n] w fun e w' => e = .returned (.agg #[.int .i64 1, .int .i64 n, .string ⟨#[]⟩]) ∧ Below w.heap.size w w' := by
 go_enter Tryz.func85, Tryz.ntmps85
 go_wp2
 exact bodyPost_ret (v := .agg #[.int .i64 1, .int .i64 n, .string ⟨#[]⟩]) (by simp [results, Tryz.results85, go_sem]) rfl ⟨rfl, bel1 _ _⟩
theorem words_any (s : ByteArray) (w : World) : Calls Tryz.prog 87 #[.string s] w fun e w' => e = .returned (.agg #[.int .i64 3, .int .i64 0, .string s]) ∧ Below w.heap.size w w' := by
 go_enter Tryz.func87, Tryz.ntmps87
 go_wp2
 exact bodyPost_ret (v := .agg #[.int .i64 3, .int .i64 0, .string s]) (by simp [results, Tryz.results87, go_sem]) rfl ⟨rfl, bel1 _ _⟩
theorem words_at (s : ByteArray) (w : World) : Calls Tryz.prog 87 #[.string s] w fun e w' => e = .returned (.agg #[.int .i64 3, .int .i64 0, .string s]) ∧ w' = w.alloc (.cells #[.int .i64 3, .int .i64 0, .string s] 42) := by
 go_enter Tryz.func87, Tryz.ntmps87
 go_wp2
 exact bodyPost_ret (v := .agg #[.int .i64 3, .int .i64 0, .string s]) (by simp [results, Tryz.results87, go_sem]) rfl ⟨rfl, rfl⟩
theorem truth_true (w : World) : Calls Tryz.prog 86 #[.bool true] w fun e w' => e = .returned (.agg #[.int .i64 2, .int .i64 1, .string ⟨#[]⟩]) ∧ Below w.heap.size w w' := by
 go_enter Tryz.func86, Tryz.ntmps86
 go_wp2
 exact bodyPost_ret (v := .agg #[.int .i64 2, .int .i64 1, .string ⟨#[]⟩]) (by simp [results, Tryz.results86, go_sem]) rfl ⟨rfl, bel1 _ _⟩
theorem truth_false (w : World) : Calls Tryz.prog 86 #[.bool false] w fun e w' => e = .returned (.agg #[.int .i64 2, .int .i64 0, .string ⟨#[]⟩]) ∧ Below w.heap.size w w' := by
 go_enter Tryz.func86, Tryz.ntmps86
 go_wp2
 exact bodyPost_ret (v := .agg #[.int .i64 2, .int .i64 0, .string ⟨#[]⟩]) (by simp [results, Tryz.results86, go_sem]) rfl ⟨rfl, bel1 _ _⟩

def validB (k n : Int) (s : ByteArray) : Bool :=
 if k = 0 then (n == 0 && s.toList == [])
 else if k = 1 then s.toList == []
 else if k = 2 then s.toList == [] && (n == 0 || n == 1)
 else if k = 3 then n == 0 && decide ((s.size : Int) ≤ 60)
 else false

theorem empty_list : (⟨#[]⟩ : ByteArray).toList = [] := by simp

theorem wv_0 (n : Int) (s : ByteArray) (w : World) :
   Calls Tryz.prog 62 #[.agg #[.int .i64 0, .int .i64 n, .string s]] w fun e w' => e = .returned (.bool (validB 0 n s)) ∧ Below w.heap.size w w' := by
 have H : Hid (validB 0 n s = eqB 0 n s 0 0 ⟨#[]⟩) := by unfold Hid validB eqB; simp
 go_enter Tryz.func62, Tryz.ntmps62
 go_wp2
 go_ret
 exact ⟨ret_bool H.out.symm, bel1 _ _⟩

theorem wv_1 (n : Int) (s : ByteArray) (w : World) :
   Calls Tryz.prog 62 #[.agg #[.int .i64 1, .int .i64 n, .string s]] w fun e w' => e = .returned (.bool (validB 1 n s)) ∧ Below w.heap.size w w' := by
 have H : Hid (validB 1 n s = eqB 1 n s 1 n ⟨#[]⟩) := by unfold Hid validB eqB; simp
 go_enter Tryz.func62, Tryz.ntmps62
 go_wp2
 go_region_held3 (fun w' => w'.cell? ⟨w.heap.size, 0, none⟩ = some (.int .i64 1) ∧ w'.cell? ⟨w.heap.size, 1, none⟩ = some (.int .i64 n) ∧ w'.cell? ⟨w.heap.size, 2, none⟩ = some (.string s))
   (first | go_keep | (go_split_ands; exact ⟨cell_later ‹_› ‹_›, cell_later ‹_› ‹_›, cell_later ‹_› ‹_›⟩))
   (first | (go_at_call 85; refine (of_any _ _).mono ?_; rintro e w1 ⟨rfl, hbb⟩))
 go_wp2
 go_ret
 exact ⟨ret_bool H.out.symm, bel1t hbb⟩

theorem wv_2 (n : Int) (s : ByteArray) (w : World) :
   Calls Tryz.prog 62 #[.agg #[.int .i64 2, .int .i64 n, .string s]] w fun e w' => e = .returned (.bool (validB 2 n s)) ∧ Below w.heap.size w w' := by
 cases hn : (n == 1) with
 | true =>
   have H : Hid (validB 2 n s = eqB 2 n s 2 1 ⟨#[]⟩) := by unfold Hid validB eqB; simp only [empty_list]; cases h : (s.toList == []) <;> simp [hn]
   go_enter Tryz.func62, Tryz.ntmps62
   go_wp2
   go_region_held3 (fun w' => w'.cell? ⟨w.heap.size, 0, none⟩ = some (.int .i64 2) ∧ w'.cell? ⟨w.heap.size, 1, none⟩ = some (.int .i64 n) ∧ w'.cell? ⟨w.heap.size, 2, none⟩ = some (.string s))
     (first | go_keep | (go_split_ands; exact ⟨cell_later ‹_› ‹_›, cell_later ‹_› ‹_›, cell_later ‹_› ‹_›⟩))
     (first | (go_at_call 86; refine (truth_true _).mono ?_; rintro e w1 ⟨rfl, hbb⟩))
   go_wp2
   go_ret
   exact ⟨ret_bool H.out.symm, bel1t hbb⟩
 | false =>
   have H : Hid (validB 2 n s = eqB 2 n s 2 0 ⟨#[]⟩) := by unfold Hid validB eqB; simp only [empty_list]; cases h : (s.toList == []) <;> simp [hn]
   go_enter Tryz.func62, Tryz.ntmps62
   go_wp2
   go_region_held3 (fun w' => w'.cell? ⟨w.heap.size, 0, none⟩ = some (.int .i64 2) ∧ w'.cell? ⟨w.heap.size, 1, none⟩ = some (.int .i64 n) ∧ w'.cell? ⟨w.heap.size, 2, none⟩ = some (.string s))
     (first | go_keep | (go_split_ands; exact ⟨cell_later ‹_› ‹_›, cell_later ‹_› ‹_›, cell_later ‹_› ‹_›⟩))
     (first | (go_at_call 86; refine (truth_false _).mono ?_; rintro e w1 ⟨rfl, hbb⟩))
   go_wp2
   go_ret
   exact ⟨ret_bool H.out.symm, bel1t hbb⟩

theorem wv_3 (n : Int) (s : ByteArray) (w : World) (hs : s.size ≤ maxLen) :
   Calls Tryz.prog 62 #[.agg #[.int .i64 3, .int .i64 n, .string s]] w fun e w' => e = .returned (.bool (validB 3 n s)) ∧ Below w.heap.size w w' := by
 unfold maxLen at hs
 cases hq : eqB 3 n s 3 0 s with
 | true =>
   have H : Hid (validB 3 n s = decide ((s.size : Int) ≤ 60)) := by
     unfold Hid validB; unfold eqB at hq; simp at hq; simp [hq]
   go_enter Tryz.func62, Tryz.ntmps62
   go_wp2
   go_region_held3 (fun w' => w'.cell? ⟨w.heap.size, 0, none⟩ = some (.int .i64 3) ∧ w'.cell? ⟨w.heap.size, 1, none⟩ = some (.int .i64 n) ∧ w'.cell? ⟨w.heap.size, 2, none⟩ = some (.string s))
     (first | go_keep | (go_split_ands; exact ⟨cell_later ‹_› ‹_›, cell_later ‹_› ‹_›, cell_later ‹_› ‹_›⟩))
     (first | (go_at_call 87; refine (words_any _ _).mono ?_; rintro e w1 ⟨rfl, hbb⟩))
   go_wp2
   go_ret
   exact ⟨ret_bool H.out.symm, bel1t hbb⟩
 | false =>
   have H : Hid (validB 3 n s = false) := by
     unfold Hid validB; unfold eqB at hq; simp at hq; simp [hq]
   go_enter Tryz.func62, Tryz.ntmps62
   go_wp2
   first | (go_region_with (first | (go_at_call 87; refine (words_at _ _).mono ?_; rintro e w1 ⟨rfl, rfl⟩))) | fail
   all_goals go_wp2
   all_goals go_ret
   all_goals exact ⟨ret_bool H.out.symm, by repeat (first | exact bel1 _ _ | apply Below.drew | refine Below.alloc ?_ (by simp) _)⟩

theorem wv_x (k n : Int) (s : ByteArray) (w : World) (h0 : k ≠ 0) (h1 : k ≠ 1) (h2 : k ≠ 2) (h3 : k ≠ 3) :
   Calls Tryz.prog 62 #[.agg #[.int .i64 k, .int .i64 n, .string s]] w fun e w' => e = .returned (.bool (validB k n s)) ∧ Below w.heap.size w w' := by
 have H : Hid (validB k n s = false) := by unfold Hid validB; rw [if_neg h0, if_neg h1, if_neg h2, if_neg h3]
 have g0 : (k == 0) = false := by simpa using h0
 have g1 : (k == 1) = false := by simpa using h1
 have g2 : (k == 2) = false := by simpa using h2
 have g3 : (k == 3) = false := by simpa using h3
 clear h0 h1 h2 h3
 go_enter Tryz.func62, Tryz.ntmps62
 go_wp2
 go_ret
 exact ⟨ret_bool H.out.symm, bel1 _ _⟩

theorem wv_any (k n : Int) (s : ByteArray) (w : World) (hs : s.size ≤ maxLen) :
   Calls Tryz.prog 62 #[.agg #[.int .i64 k, .int .i64 n, .string s]] w fun e w' => e = .returned (.bool (validB k n s)) ∧ Below w.heap.size w w' := by
 by_cases h0 : k = 0
 · subst h0; exact wv_0 n s w
 by_cases h1 : k = 1
 · subst h1; exact wv_1 n s w
 by_cases h2 : k = 2
 · subst h2; exact wv_2 n s w
 by_cases h3 : k = 3
 · subst h3; exact wv_3 n s w hs
 exact wv_x k n s w h0 h1 h2 h3

end Go.Proofs.YtckdmmfmnhcabaaGreatDoor.Vc
namespace Go.Proofs.YtckdmmfmnhcabaaGreatDoor.Vc
open Go.RowKit
set_option linter.unusedVariables false
set_option linter.unusedSimpArgs false
set_option maxRecDepth 100000

theorem own_later {w w' : World} {B e size n : Nat} {v : Value} {xs : List Value} (h : w.ownsRow B e size v n xs) (hb : Below w.heap.size w w') : w'.ownsRow B e size v n xs := by
 refine ⟨h.1, ?_⟩
 rcases h.2 with h2 | ⟨g, cap, cur, h1, h2, h3, h4⟩
 · exact .inl h2
 · refine .inr ⟨g, cap, cur, h1, h2, ?_, h4⟩
   have hlt : g < w.heap.size := by
     rcases Nat.lt_or_ge g w.heap.size with h | h
     · exact h
     · rw [Array.getElem?_eq_none h] at h3; cases h3
   rw [hb.block g hlt]; exact h3

theorem own_grown {w w' : World} {B e size n : Nat} {v : Value} {xs : List Value} {r : Option Nat} (h : w.ownsRow B e size v n xs) (hg : w.grownBy w' r) (hne : ∀ g, v.ownBlock = some g → some g ≠ r) : w'.ownsRow B e size v n xs := by
 refine ⟨h.1, ?_⟩
 rcases h.2 with h2 | ⟨g, cap, cur, h1, h2, h3, h4⟩
 · exact .inl h2
 · refine .inr ⟨g, cap, cur, h1, h2, ?_, h4⟩
   have hlt : g < w.heap.size := by
     rcases Nat.lt_or_ge g w.heap.size with h | h
     · exact h
     · rw [Array.getElem?_eq_none h] at h3; cases h3
   rw [hg.block g hlt (hne g (by rw [h1]; rfl))]; exact h3
theorem grown_trans {a b c : World} {r : Option Nat} (h : a.grownBy b r) (k : b.grownBy c r) : a.grownBy c r :=
 ⟨k.os.trans h.os, k.tape.trans h.tape, k.output.trans h.output, Nat.le_trans h.size k.size, fun i hi hr => (k.block i (Nat.lt_of_lt_of_le hi h.size) hr).trans (h.block i hi hr)⟩
def Own (w : World) (g t n : Nat) (xs : List Value) : Prop := w.ownsRow g t n (.slice (some ⟨g, 0, none⟩) 1 1) 1 xs
theorem Own.grown {w w' : World} {g t n : Nat} {xs : List Value} {r : Option Nat} (h : Own w g t n xs) (hg : w.grownBy w' r) (hne : some g ≠ r) : Own w' g t n xs :=
 own_grown h hg fun k hk => by cases hk; exact hne
theorem Own.later {w w' : World} {g t n : Nat} {xs : List Value} (h : Own w g t n xs) (hb : Below w.heap.size w w') : Own w' g t n xs := own_later h hb
theorem Own.lt {w : World} {g t n : Nat} {xs : List Value} (h : Own w g t n xs) : g < w.heap.size := (World.ownsRow.lt h g rfl).2
theorem Own.cell {w : World} {g t n : Nat} {xs : List Value} (h : Own w g t n xs) (j : Nat) (hj : j < n) : w.cell? ⟨g, j, none⟩ = xs[j]? := World.ownsRow.cellAt h j (by omega)
theorem Own.soft {w : World} {g t n : Nat} {xs : List Value} (h : Own w g t n xs) (j : Nat) : w.frozen? ⟨g, j, none⟩ = false := World.ownsRow.frozenAt h j
theorem Own.put {w : World} {g t n : Nat} {xs : List Value} (h : Own w g t n xs) (j : Nat) (u : Value) : Own (w.setCell ⟨g, j, none⟩ u) g t n (xs.set j u) ∧ w.grownBy (w.setCell ⟨g, j, none⟩ u) (some g) := World.ownsRow.stored h j u
theorem Own.new (w : World) (t n : Nat) (cs : Array Value) (hs : cs.size = n) : Own (w.alloc (.cells cs t)) w.heap.size t n cs.toList :=
 World.ownsRow_lit (base := w.heap.size) (e := t) (size := n) w cs 1 (Nat.le_refl _) (by decide) (by omega)

def cellsV (v : V) : List Value := [.int .i64 v.k, .int .i64 v.n, .string v.s]
def OV (w : World) (B : Nat) (x : Value) (vs : List V) : Prop := w.ownsRow B 42 3 x vs.length (vs.flatMap cellsV)
theorem flat_at {α β : Type} (f : α → List β) (m : Nat) (hf : ∀ a, (f a).length = m) : ∀ (l : List α) (i j : Nat) (hi : i < l.length), j < m → (l.flatMap f)[i * m + j]? = (f l[i])[j]?
 | a :: l, 0, j, _, hj => by
   rw [List.flatMap_cons, Nat.zero_mul, Nat.zero_add, List.getElem?_append_left (by rw [hf]; exact hj)]; rfl
 | a :: l, i + 1, j, hi, hj => by
   have ih := flat_at f m hf l i j (by simpa using hi) hj
   rw [List.flatMap_cons, List.getElem?_append_right (by rw [hf, Nat.add_mul]; omega), hf, show (i + 1) * m + j - m = i * m + j by rw [Nat.add_mul]; omega, ih]
   rfl
theorem OV.form {w : World} {B : Nat} {x : Value} {vs : List V} (h : OV w B x vs) : ∃ a c, x = .slice a vs.length c ∧ VLies w a vs ∧ ∀ y, a = some y → B ≤ y.block ∧ y.block < w.heap.size := by
 rcases h.2 with ⟨h1, h2⟩ | ⟨g, c, cur, h1, h2, h3, -⟩
 · refine ⟨none, 0, by rw [h1, h2], fun i hi => absurd hi (by omega), fun y hy => by cases hy⟩
 · refine ⟨some ⟨g, 0, none⟩, c, h1, fun i hi => ?_, fun y hy => ?_⟩
   · rw [h1] at h
     have key : ∀ j, j < 3 → w.cell? ⟨g, i * 3 + j, none⟩ = (cellsV vs[i])[j]? := fun j hj => by
       rw [World.ownsRow.cellAt h (i * 3 + j) (by omega), flat_at cellsV 3 (fun _ => rfl) vs i j hi hj]
     exact ⟨g, 0, rfl, by rw [Nat.zero_add]; exact key 0 (by decide), by rw [Nat.zero_add]; exact key 1 (by decide), by rw [Nat.zero_add]; exact key 2 (by decide)⟩
   · cases hy
     rcases Nat.lt_or_ge g w.heap.size with h | h
     · exact ⟨h2, h⟩
     · rw [Array.getElem?_eq_none h] at h3; cases h3
theorem OV.grown {w w' : World} {B : Nat} {x : Value} {vs : List V} {r : Option Nat} (h : OV w B x vs) (hg : w.grownBy w' r) (hr : ∀ k, r = some k → k < B) : OV w' B x vs :=
 own_grown h hg fun k hk e => by have h1 := (World.ownsRow.lt h k hk).1; have h2 := hr k e.symm; omega
theorem OV.later {w w' : World} {B : Nat} {x : Value} {vs : List V} (h : OV w B x vs) (hb : Below w.heap.size w w') : OV w' B x vs := own_later h hb
theorem VLies.grown {w w' : World} {a : Option Addr} {vs : List V} {r : Option Nat} (h : VLies w a vs) (hg : w.grownBy w' r) (hne : ∀ x, a = some x → some x.block ≠ r) : VLies w' a vs := fun i hi => by
 obtain ⟨b, off, e, h1, h2, h3⟩ := h i hi
 have hn := hne ⟨b, off, none⟩ e
 exact ⟨b, off, e, hg.cell h1 hn, hg.cell h2 hn, hg.cell h3 hn⟩

end Go.Proofs.YtckdmmfmnhcabaaGreatDoor.Vc
namespace Go.Proofs.YtckdmmfmnhcabaaGreatDoor.Vc
open Go.RowKit
set_option linter.unusedVariables false

theorem ret_int {k : IntKind} {a b : Int} (h : a = b) : Ending.returned (.int k a) = .returned (.int k b) := by rw [h]

def ltV (k1 n1 : Int) (s1 : ByteArray) (k2 n2 : Int) (s2 : ByteArray) : Bool :=
 if k1 != k2 then decide (k1 < k2) else if n1 != n2 then decide (n1 < n2) else Op.bytesLess s1.toList s2.toList

theorem before_any (k1 n1 : Int) (s1 : ByteArray) (k2 n2 : Int) (s2 : ByteArray) (w : World) :
   Calls Tryz.prog 63 #[.agg #[.int .i64 k1, .int .i64 n1, .string s1], .agg #[.int .i64 k2, .int .i64 n2, .string s2]] w fun e w' => e = .returned (.bool (ltV k1 n1 s1 k2 n2 s2)) ∧ Below w.heap.size w w' := by
 cases hk : (k1 != k2) with
 | true =>
   have H : Hid (ltV k1 n1 s1 k2 n2 s2 = decide (k1 < k2)) := by unfold Hid ltV; rw [hk]; rfl
   go_enter Tryz.func63, Tryz.ntmps63
   go_wp2
   go_ret
   exact ⟨ret_bool H.out.symm, ((Below.refl _ _).alloc (Nat.le_refl _) _).alloc (by simp) _⟩
 | false =>
   cases hn : (n1 != n2) with
   | true =>
     have H : Hid (ltV k1 n1 s1 k2 n2 s2 = decide (n1 < n2)) := by unfold Hid ltV; rw [hk, hn]; rfl
     go_enter Tryz.func63, Tryz.ntmps63
     go_wp2
     go_ret
     exact ⟨ret_bool H.out.symm, ((Below.refl _ _).alloc (Nat.le_refl _) _).alloc (by simp) _⟩
   | false =>
     have H : Hid (ltV k1 n1 s1 k2 n2 s2 = Op.bytesLess s1.toList s2.toList) := by unfold Hid ltV; rw [hk, hn]; rfl
     go_enter Tryz.func63, Tryz.ntmps63
     go_wp2
     go_ret
     exact ⟨ret_bool H.out.symm, ((Below.refl _ _).alloc (Nat.le_refl _) _).alloc (by simp) _⟩

def cmpS (a b : ByteArray) : Int := if Op.bytesLess a.toList b.toList = true then -1 else if (a.toList == b.toList) = true then 0 else 1
def cmpV (k1 n1 : Int) (s1 : ByteArray) (k2 n2 : Int) (s2 : ByteArray) : Int :=
 if k1 < k2 then -1 else if k2 < k1 then 1 else if n1 < n2 then -1 else if n2 < n1 then 1 else cmpS s1 s2

theorem bel3 (w : World) (o1 o2 o3 : Obj) : Below w.heap.size w (((w.alloc o1).alloc o2).alloc o3) :=
 (((Below.refl _ _).alloc (Nat.le_refl _) _).alloc (by simp) _).alloc (by simp; omega) _

theorem hmf : ∀ (fn : Fn) (first cap : Array Value) (w : World), (Instr.makeFunc fn first cap).run Tryz.prog w = .ok (.func fn first cap) w := fun _ _ _ _ => rfl

theorem compare_1 (k1 n1 : Int) (s1 : ByteArray) (k2 n2 : Int) (s2 : ByteArray) (w : World) (h : k1 < k2) :
   Calls Tryz.prog 155 #[.agg #[.int .i64 k1, .int .i64 n1, .string s1], .agg #[.int .i64 k2, .int .i64 n2, .string s2]] w fun e w' => e = .returned (.int .i64 (-1)) ∧ Below w.heap.size w w' := by
 have hmf := hmf
 go_enter Tryz.func155, Tryz.ntmps155
 go_wp2
 refine wp_loop_rounds 4 ?_
 rw [rounds_succ]; go_wp2
 go_ret
 exact ⟨rfl, bel3 _ _ _ _⟩

theorem compare_2 (k1 n1 : Int) (s1 : ByteArray) (k2 n2 : Int) (s2 : ByteArray) (w : World) (h1 : ¬ k1 < k2) (h2 : k2 < k1) :
   Calls Tryz.prog 155 #[.agg #[.int .i64 k1, .int .i64 n1, .string s1], .agg #[.int .i64 k2, .int .i64 n2, .string s2]] w fun e w' => e = .returned (.int .i64 1) ∧ Below w.heap.size w w' := by
 have hmf := hmf
 go_enter Tryz.func155, Tryz.ntmps155
 go_wp2
 refine wp_loop_rounds 4 ?_
 rw [rounds_succ]; go_wp2
 go_ret
 exact ⟨rfl, bel3 _ _ _ _⟩

theorem compare_3 (k1 n1 : Int) (s1 : ByteArray) (k2 n2 : Int) (s2 : ByteArray) (w : World) (h1 : ¬ k1 < k2) (h2 : ¬ k2 < k1) (h3 : n1 < n2) :
   Calls Tryz.prog 155 #[.agg #[.int .i64 k1, .int .i64 n1, .string s1], .agg #[.int .i64 k2, .int .i64 n2, .string s2]] w fun e w' => e = .returned (.int .i64 (-1)) ∧ Below w.heap.size w w' := by
 have hmf := hmf
 go_enter Tryz.func155, Tryz.ntmps155
 go_wp2
 refine wp_loop_rounds 4 ?_
 rw [rounds_succ]; go_wp2
 rw [rounds_succ]; go_wp2
 go_ret
 exact ⟨rfl, bel3 _ _ _ _⟩

theorem compare_4 (k1 n1 : Int) (s1 : ByteArray) (k2 n2 : Int) (s2 : ByteArray) (w : World) (h1 : ¬ k1 < k2) (h2 : ¬ k2 < k1) (h3 : ¬ n1 < n2) (h4 : n2 < n1) :
   Calls Tryz.prog 155 #[.agg #[.int .i64 k1, .int .i64 n1, .string s1], .agg #[.int .i64 k2, .int .i64 n2, .string s2]] w fun e w' => e = .returned (.int .i64 1) ∧ Below w.heap.size w w' := by
 have hmf := hmf
 go_enter Tryz.func155, Tryz.ntmps155
 go_wp2
 refine wp_loop_rounds 4 ?_
 rw [rounds_succ]; go_wp2
 rw [rounds_succ]; go_wp2
 go_ret
 exact ⟨rfl, bel3 _ _ _ _⟩

theorem compare_5 (k1 n1 : Int) (s1 : ByteArray) (k2 n2 : Int) (s2 : ByteArray) (w : World) (h1 : ¬ k1 < k2) (h2 : ¬ k2 < k1) (h3 : ¬ n1 < n2) (h4 : ¬ n2 < n1) (h5 : Op.bytesLess s1.toList s2.toList = true) :
   Calls Tryz.prog 155 #[.agg #[.int .i64 k1, .int .i64 n1, .string s1], .agg #[.int .i64 k2, .int .i64 n2, .string s2]] w fun e w' => e = .returned (.int .i64 (-1)) ∧ Below w.heap.size w w' := by
 have hmf := hmf
 go_enter Tryz.func155, Tryz.ntmps155
 go_wp2
 refine wp_loop_rounds 4 ?_
 rw [rounds_succ]; go_wp2
 rw [rounds_succ]; go_wp2
 rw [rounds_succ]; go_wp2
 go_ret
 exact ⟨rfl, bel3 _ _ _ _⟩

theorem compare_6 (k1 n1 : Int) (s1 : ByteArray) (k2 n2 : Int) (s2 : ByteArray) (w : World) (h1 : ¬ k1 < k2) (h2 : ¬ k2 < k1) (h3 : ¬ n1 < n2) (h4 : ¬ n2 < n1) (h5 : Op.bytesLess s1.toList s2.toList = false) (h6 : (s1.toList == s2.toList) = false) :
   Calls Tryz.prog 155 #[.agg #[.int .i64 k1, .int .i64 n1, .string s1], .agg #[.int .i64 k2, .int .i64 n2, .string s2]] w fun e w' => e = .returned (.int .i64 1) ∧ Below w.heap.size w w' := by
 have hmf := hmf
 go_enter Tryz.func155, Tryz.ntmps155
 go_wp2
 refine wp_loop_rounds 4 ?_
 rw [rounds_succ]; go_wp2
 rw [rounds_succ]; go_wp2
 rw [rounds_succ]; go_wp2
 go_ret
 exact ⟨rfl, bel3 _ _ _ _⟩

theorem compare_7 (k1 n1 : Int) (s1 : ByteArray) (k2 n2 : Int) (s2 : ByteArray) (w : World) (h1 : ¬ k1 < k2) (h2 : ¬ k2 < k1) (h3 : ¬ n1 < n2) (h4 : ¬ n2 < n1) (h5 : Op.bytesLess s1.toList s2.toList = false) (h6 : (s1.toList == s2.toList) = true) :
   Calls Tryz.prog 155 #[.agg #[.int .i64 k1, .int .i64 n1, .string s1], .agg #[.int .i64 k2, .int .i64 n2, .string s2]] w fun e w' => e = .returned (.int .i64 0) ∧ Below w.heap.size w w' := by
 have hmf := hmf
 go_enter Tryz.func155, Tryz.ntmps155
 go_wp2
 refine wp_loop_rounds 4 ?_
 rw [rounds_succ]; go_wp2
 rw [rounds_succ]; go_wp2
 rw [rounds_succ]; go_wp2
 rw [rounds_succ]; go_wp2
 go_ret
 exact ⟨rfl, bel3 _ _ _ _⟩

theorem compare_any (k1 n1 : Int) (s1 : ByteArray) (k2 n2 : Int) (s2 : ByteArray) (w : World) :
   Calls Tryz.prog 155 #[.agg #[.int .i64 k1, .int .i64 n1, .string s1], .agg #[.int .i64 k2, .int .i64 n2, .string s2]] w fun e w' => e = .returned (.int .i64 (cmpV k1 n1 s1 k2 n2 s2)) ∧ Below w.heap.size w w' := by
 unfold cmpV cmpS
 by_cases h1 : k1 < k2
 · rw [if_pos h1]; exact compare_1 k1 n1 s1 k2 n2 s2 w h1
 rw [if_neg h1]
 by_cases h2 : k2 < k1
 · rw [if_pos h2]; exact compare_2 k1 n1 s1 k2 n2 s2 w h1 h2
 rw [if_neg h2]
 by_cases h3 : n1 < n2
 · rw [if_pos h3]; exact compare_3 k1 n1 s1 k2 n2 s2 w h1 h2 h3
 rw [if_neg h3]
 by_cases h4 : n2 < n1
 · rw [if_pos h4]; exact compare_4 k1 n1 s1 k2 n2 s2 w h1 h2 h3 h4
 rw [if_neg h4]
 by_cases h5 : Op.bytesLess s1.toList s2.toList = true
 · rw [if_pos h5]; exact compare_5 k1 n1 s1 k2 n2 s2 w h1 h2 h3 h4 h5
 rw [if_neg h5]
 by_cases h6 : (s1.toList == s2.toList) = true
 · rw [if_pos h6]; exact compare_7 k1 n1 s1 k2 n2 s2 w h1 h2 h3 h4 (by simpa using h5) h6
 rw [if_neg h6]
 exact compare_6 k1 n1 s1 k2 n2 s2 w h1 h2 h3 h4 (by simpa using h5) (by simpa using h6)
end Go.Proofs.YtckdmmfmnhcabaaGreatDoor.Vc
namespace Go.Proofs.YtckdmmfmnhcabaaGreatDoor.Vc
open Go.RowKit
set_option linter.unusedVariables false
set_option linter.unusedSimpArgs false
set_option maxRecDepth 100000

def validW (v : V) : Bool :=
 if v.k = 0 then decide (v.n = 0) && decide (v.s.size = 0)
 else if v.k = 1 then decide (v.s.size = 0)
 else if v.k = 2 then decide (v.s.size = 0) && (decide (v.n = 0) || decide (v.n = 1))
 else if v.k = 3 then decide (v.n = 0) && decide (v.s.size ≤ 60)
 else false
theorem isE (s : ByteArray) : s.toList.isEmpty = decide (s.size = 0) := by
 rw [ByteArray.toList_eq]
 have h : s.data.toList.length = s.size := by simp
 cases hl : s.data.toList with
 | nil => rw [hl] at h; have h' : s.size = 0 := h.symm; rw [h']; rfl
 | cons a r => rw [hl] at h; have h' : s.size = r.length + 1 := h.symm; rw [h']; rfl

theorem validB_V (v : V) : validB v.k v.n v.s = validW v := by
 have h : (v.s.toList == []) = decide (v.s.size = 0) := by
   rw [← isE]; cases v.s.toList <;> rfl
 have h60 : decide ((v.s.size : Int) ≤ 60) = decide (v.s.size ≤ 60) := by
   rw [decide_eq_decide]; omega
 unfold validB validW
 rw [h, h60]
 simp only [show ∀ a b : Int, (a == b) = decide (a = b) from fun a b => rfl]

set_option maxHeartbeats 2000000 in
theorem refValid_any (x : V) (w : World) (hs : x.s.size ≤ maxLen) :
   Calls Tryz.prog 33 #[.agg #[.int .i64 x.k, .int .i64 x.n, .string x.s]] w fun e w' => e = .returned (.bool (validW x)) ∧ Below w.heap.size w w' := by
 unfold maxLen at hs
 obtain ⟨k, n, s⟩ := x
 simp only at hs
 show Calls Tryz.prog 33 #[.agg #[.int .i64 k, .int .i64 n, .string s]] w fun e w' => e = .returned (.bool (validW ⟨k, n, s⟩)) ∧ Below w.heap.size w w'
 have HS : Hid (s.toList.isEmpty = decide (s.size = 0)) := isE s
 have HV : Hid (validW ⟨k, n, s⟩ = (if k = 0 then decide (n = 0) && decide (s.size = 0)
   else if k = 1 then decide (s.size = 0)
   else if k = 2 then decide (s.size = 0) && (decide (n = 0) || decide (n = 1))
   else if k = 3 then decide (n = 0) && decide (s.size ≤ 60)
   else false)) := rfl
 by_cases h0 : k = 0
 · subst h0
   by_cases hn : n = 0
   · subst hn
     go_enter Tryz.func33, Tryz.ntmps33
     go_wp2
     go_ret
     exact ⟨ret_bool (by rw [HV.out, HS.out]; simp), bel1 _ _⟩
   · have hn' : (n == 0) = false := by simpa using hn
     go_enter Tryz.func33, Tryz.ntmps33
     go_wp2
     go_ret
     exact ⟨ret_bool (by rw [HV.out]; simp [hn]), bel1 _ _⟩
 · by_cases h1 : k = 1
   · subst h1
     go_enter Tryz.func33, Tryz.ntmps33
     go_wp2
     go_ret
     exact ⟨ret_bool (by rw [HV.out, HS.out]; simp), bel1 _ _⟩
   · by_cases h2 : k = 2
     · subst h2
       cases he : s.toList.isEmpty with
       | false =>
         rw [he] at HS
         go_enter Tryz.func33, Tryz.ntmps33
         go_wp2
         go_ret
         exact ⟨ret_bool (by rw [HV.out, ← HS.out]; simp), bel1 _ _⟩
       | true =>
         rw [he] at HS
         by_cases hn : n = 0
         · subst hn
           go_enter Tryz.func33, Tryz.ntmps33
           go_wp2
           go_ret
           exact ⟨ret_bool (by rw [HV.out, ← HS.out]; simp), bel1 _ _⟩
         · have hn' : (n == 0) = false := by simpa using hn
           go_enter Tryz.func33, Tryz.ntmps33
           go_wp2
           go_ret
           exact ⟨ret_bool (by rw [HV.out, ← HS.out]; simp [hn]; rfl), bel1 _ _⟩
     · by_cases h3 : k = 3
       · subst h3
         by_cases hn : n = 0
         · subst hn
           go_enter Tryz.func33, Tryz.ntmps33
           go_wp2
           go_ret
           exact ⟨ret_bool (by rw [HV.out]; simp; omega), bel1 _ _⟩
         · have hn' : (n == 0) = false := by simpa using hn
           go_enter Tryz.func33, Tryz.ntmps33
           go_wp2
           go_ret
           exact ⟨ret_bool (by rw [HV.out]; simp [hn]), bel1 _ _⟩
       · go_enter Tryz.func33, Tryz.ntmps33
         go_wp2
         go_ret
         exact ⟨ret_bool (by rw [HV.out]; simp [h0, h1, h2, h3]), bel1 _ _⟩


end Go.Proofs.YtckdmmfmnhcabaaGreatDoor.Vc
