import Derived.Test.YtobhccmnlmlapaaGreatDoorGa
import Derived.Sort.Statements
import Derived.WalkKit
import Derived.Below
import Derived.WalkSmall
import Derived.LoopN
import Derived.Handy
import Derived.KernelRfl
import Derived.Laws.CopyOwn
import Derived.Deep.OwnRows
import Derived.Laws.OwnMore
import Derived.OwnWalk
import Derived.Deep.QuietTactic
import Derived.BigQuiet
import Derived.WideShapes
import Derived.Laws.AppendOwnNone
import Derived.Maps.AppendAt
import Derived.Deep.RegionHeld3
import Derived.Deep.DrawnRows
import Derived.Deep.AppendLies
import Derived.Lib.SliceRun
namespace Go.Proofs.YtobhccmnlmlapaaGreatDoor
set_option linter.unusedVariables false

/-- A row's data. -/
structure Rw where
  t : Int
  vs : List V
def v0 : V := ⟨0, 0, ⟨#[]⟩⟩
def vat (vs : List V) (i : Nat) : V := vs.getD i v0
def eqV (a b : V) : Bool := eqB a.k a.n a.s b.k b.n b.s
def ltW (a b : V) : Bool := ltV a.k a.n a.s b.k b.n b.s
theorem str_inj {s t : ByteArray} (h : s.toList = t.toList) : s = t := by
  rw [ByteArray.toList_eq, ByteArray.toList_eq] at h
  apply ByteArray.ext
  exact Array.toList_inj.1 h
theorem eqV_iff (a b : V) : eqV a b = true ↔ a = b := by
  obtain ⟨k1, n1, s1⟩ := a
  obtain ⟨k2, n2, s2⟩ := b
  unfold eqV eqB
  simp only [Bool.and_eq_true, beq_iff_eq, V.mk.injEq]
  exact ⟨fun ⟨h1, h2, h3⟩ => ⟨h1, h2, str_inj h3⟩, fun ⟨h1, h2, h3⟩ => ⟨h1, h2, by rw [h3]⟩⟩

theorem bl_trans : ∀ x y z : List UInt8, Op.bytesLess x y = true → Op.bytesLess y z = true → Op.bytesLess x z = true
  | [], y, [] => by intro _ h; cases y <;> simp [Op.bytesLess] at h
  | [], _, _ :: _ => by simp [Op.bytesLess]
  | _ :: _, [], _ => by simp [Op.bytesLess]
  | _ :: _, _ :: _, [] => by simp [Op.bytesLess]
  | a :: x, b :: y, c :: z => by
    intro h1 h2
    simp only [Op.bytesLess, Bool.or_eq_true, decide_eq_true_eq, Bool.and_eq_true, beq_iff_eq] at h1 h2 ⊢
    rcases h1 with h1 | ⟨e1, h1⟩
    · rcases h2 with h2 | ⟨e2, h2⟩
      · left; rw [UInt8.lt_iff_toNat_lt] at *; omega
      · left; rw [← e2]; exact h1
    · subst e1
      rcases h2 with h2 | ⟨e2, h2⟩
      · left; exact h2
      · right; exact ⟨e2, bl_trans x y z h1 h2⟩

theorem ltW_irrefl (a : V) : ltW a a = false := by unfold ltW ltV; simp [bl_irrefl]
theorem ltW_tri (a b : V) (h1 : ltW a b = false) (h2 : ltW b a = false) : a = b := by
  cases h : eqV a b
  · have := ltV_swap _ _ _ _ _ _ h
    unfold ltW at h1 h2
    rw [h1, h2] at this
    cases this
  · exact (eqV_iff a b).1 h
theorem ltW_trans (a b c : V) (h1 : ltW a b = true) (h2 : ltW b c = true) : ltW a c = true := by
  obtain ⟨k1, n1, s1⟩ := a
  obtain ⟨k2, n2, s2⟩ := b
  obtain ⟨k3, n3, s3⟩ := c
  unfold ltW ltV at *
  simp only at *
  by_cases e1 : k1 = k2
  · subst e1
    by_cases e2 : k1 = k3
    · subst e2
      simp at h1 h2 ⊢
      by_cases e3 : n1 = n2
      · subst e3
        by_cases e4 : n1 = n3
        · subst e4
          simp at h1 h2 ⊢
          exact bl_trans _ _ _ h1 h2
        · simp [e4] at h1 h2 ⊢
          exact h2
      · simp [e3] at h1
        by_cases e4 : n2 = n3
        · subst e4
          simp [e3]; exact h1
        · simp [e4] at h2
          have : ¬ n1 = n3 := by omega
          simp [this]; omega
    · simp [e2] at h2 ⊢
      exact h2
  · simp [e1] at h1
    by_cases e2 : k2 = k3
    · subst e2
      simp [e1]; exact h1
    · simp [e2] at h2
      have : ¬ k1 = k3 := by omega
      simp [this]; omega

def ltL : List V → List V → Bool
  | [], [] => false
  | [], _ :: _ => true
  | _ :: _, [] => false
  | a :: x, b :: y => if eqV a b = true then ltL x y else ltW a b
theorem eqV_self (a : V) : eqV a a = true := (eqV_iff a a).2 rfl
theorem ltL_irrefl : ∀ x, ltL x x = false
  | [] => rfl
  | a :: x => by simp [ltL, eqV_self, ltL_irrefl x]
theorem ltL_tri : ∀ x y, ltL x y = false → ltL y x = false → x = y
  | [], [] => fun _ _ => rfl
  | [], _ :: _ => fun h _ => by simp [ltL] at h
  | _ :: _, [] => fun _ h => by simp [ltL] at h
  | a :: x, b :: y => fun h1 h2 => by
    by_cases e : a = b
    · subst e
      simp [ltL, eqV_self] at h1 h2
      rw [ltL_tri x y h1 h2]
    · have n1 : ¬ eqV a b = true := fun h => e ((eqV_iff a b).1 h)
      have n2 : ¬ eqV b a = true := fun h => e ((eqV_iff b a).1 h).symm
      simp only [ltL, if_neg n1, if_neg n2] at h1 h2
      exact absurd (ltW_tri a b h1 h2) e
theorem ltL_trans : ∀ x y z, ltL x y = true → ltL y z = true → ltL x z = true
  | [], y, [] => by intro _ h; cases y <;> simp [ltL] at h
  | [], _, _ :: _ => by simp [ltL]
  | _ :: _, [], _ => by simp [ltL]
  | _ :: _, _ :: _, [] => by simp [ltL]
  | a :: x, b :: y, c :: z => by
    intro h1 h2
    by_cases e1 : a = b
    · subst e1
      by_cases e2 : a = c
      · subst e2
        simp [ltL, eqV_self] at h1 h2 ⊢
        exact ltL_trans x y z h1 h2
      · have n2 : ¬ eqV a c = true := fun h => e2 ((eqV_iff _ _).1 h)
        simp only [ltL, if_neg n2] at h2 ⊢
        exact h2
    · have n1 : ¬ eqV a b = true := fun h => e1 ((eqV_iff _ _).1 h)
      simp only [ltL, if_neg n1] at h1
      by_cases e2 : b = c
      · subst e2
        simp only [ltL, if_neg n1]; exact h1
      · have n2 : ¬ eqV b c = true := fun h => e2 ((eqV_iff _ _).1 h)
        simp only [ltL, if_neg n2] at h2
        have h3 := ltW_trans _ _ _ h1 h2
        have n3 : ¬ eqV a c = true := fun h => by
          rw [(eqV_iff _ _).1 h, ltW_irrefl] at h3; cases h3
        simp only [ltL, if_neg n3]; exact h3

theorem ltFrom_ltL (vs us : List V) : ∀ r k, r + k = min vs.length us.length → ltFrom (vat vs) (vat us) vs.length us.length r k = ltL (vs.drop k) (us.drop k)
  | 0, k, h => by
    simp only [ltFrom]
    rcases Nat.lt_trichotomy vs.length us.length with h1 | h1 | h1
    · rw [List.drop_of_length_le (show vs.length ≤ k by omega)]
      have : k < us.length := by omega
      rw [List.drop_eq_getElem_cons this]
      simp [ltL, h1]
    · rw [List.drop_of_length_le (show vs.length ≤ k by omega), List.drop_of_length_le (show us.length ≤ k by omega)]
      simp [ltL, h1]
    · rw [List.drop_of_length_le (show us.length ≤ k by omega)]
      have : k < vs.length := by omega
      rw [List.drop_eq_getElem_cons this]
      simp [ltL]; omega
  | r + 1, k, h => by
    have h1 : k < vs.length := by omega
    have h2 : k < us.length := by omega
    simp only [ltFrom]
    rw [ltFrom_ltL vs us r (k + 1) (by omega), List.drop_eq_getElem_cons h1, List.drop_eq_getElem_cons h2]
    have e1 : vat vs k = vs[k] := by simp [vat, h1]
    have e2 : vat us k = us[k] := by simp [vat, h2]
    rw [e1, e2]
    rfl

/-- Which of two rows comes first. -/
def ltR (r s : Rw) : Bool := ltRow r.t s.t (vat r.vs) (vat s.vs) r.vs.length s.vs.length
def cmpR (r s : Rw) : Int := cmpRow r.t s.t (vat r.vs) (vat s.vs) r.vs.length s.vs.length
theorem ltR_eq (r s : Rw) : ltR r s = if r.t = s.t then ltL r.vs s.vs else decide (r.t < s.t) := by
  unfold ltR ltRow
  rw [ltFrom_ltL _ _ _ _ (Nat.add_zero _)]
  by_cases h : r.t = s.t <;> simp [h]
theorem ltR_irrefl (r : Rw) : ltR r r = false := by rw [ltR_eq]; simp [ltL_irrefl]
theorem ltR_tri (r s : Rw) (h1 : ltR r s = false) (h2 : ltR s r = false) : r = s := by
  rw [ltR_eq] at h1 h2
  by_cases h : r.t = s.t
  · rw [if_pos h] at h1
    rw [if_pos h.symm] at h2
    have := ltL_tri _ _ h1 h2
    cases r; cases s; simp_all
  · rw [if_neg h] at h1
    rw [if_neg (fun e => h e.symm)] at h2
    simp at h1 h2
    omega
theorem ltR_trans (r s u : Rw) (h1 : ltR r s = true) (h2 : ltR s u = true) : ltR r u = true := by
  rw [ltR_eq] at *
  by_cases e1 : r.t = s.t
  · rw [if_pos e1] at h1
    by_cases e2 : s.t = u.t
    · rw [if_pos e2] at h2
      rw [if_pos (e1.trans e2)]
      exact ltL_trans _ _ _ h1 h2
    · rw [if_neg e2] at h2
      rw [if_neg (fun e => e2 (e1.symm.trans e)), e1]
      exact h2
  · rw [if_neg e1] at h1
    by_cases e2 : s.t = u.t
    · rw [if_neg (fun e => e1 (e.trans e2.symm)), ← e2]
      exact h1
    · rw [if_neg e2] at h2
      simp at h1 h2
      rw [if_neg (by omega)]
      simp; omega
theorem ltR_ntrans (r s u : Rw) (h1 : ltR r s = false) (h2 : ltR s u = false) : ltR r u = false := by
  cases h : ltR r u
  · rfl
  · exfalso
    cases h3 : ltR s r
    · rw [ltR_tri r s h1 h3, h2] at h; cases h
    · rw [ltR_trans _ _ _ h3 h] at h2; cases h2
theorem ltR_asymm (r s : Rw) (h : ltR r s = true) : ltR s r = false := by
  cases h2 : ltR s r
  · rfl
  · have := ltR_trans _ _ _ h h2; rw [ltR_irrefl] at this; cases this
theorem cmpR_lt (r s : Rw) : decide (cmpR r s < 0) = ltR r s := by
  unfold cmpR
  rw [row_sg]
  unfold sg ltR
  generalize ltRow r.t s.t (vat r.vs) (vat s.vs) r.vs.length s.vs.length = L
  generalize ltRow s.t r.t (vat s.vs) (vat r.vs) s.vs.length r.vs.length = M
  cases L <;> cases M <;> rfl

/-- In order. -/
def Asc (l : List Rw) : Prop := l.Pairwise fun x y => ltR y x = false
theorem asc_unique {l m : List Rw} (hp : l.Perm m) (h1 : Asc l) (h2 : Asc m) : l = m :=
  List.Perm.eq_of_pairwise (fun a b _ _ h h' => ltR_tri a b h' h) h1 h2 hp
theorem asc_insert {l : List Rw} (x : Rw) (k : Nat) (h : Asc l) (hk : k ≤ l.length) (h1 : ∀ i (hi : i < l.length), k ≤ i → ltR x l[i] = true) (h2 : ∀ (h0 : 0 < k), ltR x (l[k - 1]'(by omega)) = false) : Asc (l.take k ++ x :: l.drop k) := by
  unfold Asc at *
  have h' := h
  rw [← List.take_append_drop k l, List.pairwise_append] at h
  obtain ⟨ha, hb, hc⟩ := h
  rw [List.pairwise_append]
  have hx : ∀ a ∈ l.take k, ltR x a = false := by
    intro a hm
    obtain ⟨i, hi, rfl⟩ := List.getElem_of_mem hm
    have hik : i < k := by simp at hi; omega
    rw [List.getElem_take]
    have hlast := h2 (by omega)
    by_cases e : i = k - 1
    · subst e; exact hlast
    · have := List.pairwise_iff_getElem.1 h' i (k - 1) (by omega) (by omega) (by omega)
      exact ltR_ntrans _ _ _ hlast this
  have hy : ∀ b ∈ l.drop k, ltR x b = true := by
    intro b hm
    obtain ⟨i, hi, rfl⟩ := List.getElem_of_mem hm
    rw [List.getElem_drop]
    exact h1 _ _ (by omega)
  refine ⟨ha, List.pairwise_cons.2 ⟨fun b hb' => ltR_asymm _ _ (hy b hb'), hb⟩, fun a hm b hb' => ?_⟩
  rcases List.mem_cons.1 hb' with rfl | h3
  · exact hx a hm
  · exact hc a hm b h3
end Go.Proofs.YtobhccmnlmlapaaGreatDoor
namespace Go.Proofs.YtobhccmnlmlapaaGreatDoor
open Go.RowKit
set_option linter.unusedVariables false
set_option maxRecDepth 100000
attribute [local go_sem ↓] neq26 eql26
attribute [local go_sem] guard26

theorem bel1 (w : World) (o1 : Obj) : Below w.heap.size w (w.alloc o1) := (Below.refl _ _).alloc (Nat.le_refl _) _
/-- Values lie in memory where the slice 'a' begins. -/
def VLies (w : World) (a : Option Addr) (vs : List V) : Prop :=
  ∀ i (hi : i < vs.length), ∃ b off, a = some ⟨b, off, none⟩ ∧ w.cell? ⟨b, off + i * 3, none⟩ = some (.int .i64 vs[i].k) ∧ w.cell? ⟨b, off + i * 3 + 1, none⟩ = some (.int .i64 vs[i].n) ∧ w.cell? ⟨b, off + i * 3 + 2, none⟩ = some (.string vs[i].s)
theorem VLies.later {w wx : World} {a : Option Addr} {vs : List V} (h : VLies w a vs) (hb : Below w.heap.size w wx) : VLies wx a vs := fun i hi => by
  obtain ⟨b, off, e, h1, h2, h3⟩ := h i hi
  exact ⟨b, off, e, cell_later hb h1, cell_later hb h2, cell_later hb h3⟩
/-- Rows lie in memory where the slice 'a' begins. -/
def RLies (w : World) (a : Option Addr) (rs : List Rw) : Prop :=
  ∀ i (hi : i < rs.length), ∃ b off av cv, a = some ⟨b, off, none⟩ ∧ w.cell? ⟨b, off + i * 2, none⟩ = some (.int .i64 rs[i].t) ∧ w.cell? ⟨b, off + i * 2 + 1, none⟩ = some (.slice av rs[i].vs.length cv) ∧ VLies w av rs[i].vs
theorem RLies.later {w wx : World} {a : Option Addr} {rs : List Rw} (h : RLies w a rs) (hb : Below w.heap.size w wx) : RLies wx a rs := fun i hi => by
  obtain ⟨b, off, av, cv, e, h1, h2, h3⟩ := h i hi
  exact ⟨b, off, av, cv, e, cell_later hb h1, cell_later hb h2, h3.later hb⟩
theorem VLies.lies {w : World} {a : Option Addr} {vs : List V} (h : VLies w a vs) : Lies w a vs.length (vat vs) := fun i hi => by
  obtain ⟨b, off, e, h1, h2, h3⟩ := h i hi
  have e1 : vat vs i = vs[i] := by simp [vat, hi]
  rw [e1]
  exact ⟨b, off, e, h1, h2, h3⟩
theorem own_later {w w' : World} {B e size n : Nat} {v : Value} {xs : List Value} (h : w.ownsRow B e size v n xs) (hb : Below w.heap.size w w') : w'.ownsRow B e size v n xs := by
  refine ⟨h.1, ?_⟩
  rcases h.2 with h2 | ⟨g, cap, cur, h1, h2, h3, h4⟩
  · exact .inl h2
  · refine .inr ⟨g, cap, cur, h1, h2, ?_, h4⟩
    have hlt : g < w.heap.size := by
      rcases Nat.lt_or_ge g w.heap.size with h | h
      · exact h
      · rw [Array.getElem?_eq_none h] at h3; cases h3
    rw [hb.block g hlt]; exact h3

theorem own_grown {w w' : World} {B e size n : Nat} {v : Value} {xs : List Value} {r : Option Nat} (h : w.ownsRow B e size v n xs) (hg : w.grownBy w' r) (hne : ∀ g, v.ownBlock = some g → some g ≠ r) : w'.ownsRow B e size v n xs := by
  refine ⟨h.1, ?_⟩
  rcases h.2 with h2 | ⟨g, cap, cur, h1, h2, h3, h4⟩
  · exact .inl h2
  · refine .inr ⟨g, cap, cur, h1, h2, ?_, h4⟩
    have hlt : g < w.heap.size := by
      rcases Nat.lt_or_ge g w.heap.size with h | h
      · exact h
      · rw [Array.getElem?_eq_none h] at h3; cases h3
    rw [hg.block g hlt (hne g (by rw [h1]; rfl))]; exact h3
theorem grown_refl (w : World) (r : Option Nat) : w.grownBy w r := World.grownBy.refl _ _
theorem grown_trans {a b c : World} {r : Option Nat} (h : a.grownBy b r) (k : b.grownBy c r) : a.grownBy c r :=
  ⟨k.os.trans h.os, k.tape.trans h.tape, k.output.trans h.output, Nat.le_trans h.size k.size, fun i hi hr => (k.block i (Nat.lt_of_lt_of_le hi h.size) hr).trans (h.block i hi hr)⟩
theorem grown_below {a b : World} {r : Option Nat} (h : Below a.heap.size a b) : a.grownBy b r :=
  ⟨h.os, h.tape, h.output, h.size, fun i hi _ => h.block i hi⟩

/-- A struct of 'n' cells in a block of one's own. -/
def Own (w : World) (g t n : Nat) (xs : List Value) : Prop := w.ownsRow g t n (.slice (some ⟨g, 0, none⟩) 1 1) 1 xs
theorem Own.grown {w w' : World} {g t n : Nat} {xs : List Value} {r : Option Nat} (h : Own w g t n xs) (hg : w.grownBy w' r) (hne : some g ≠ r) : Own w' g t n xs :=
  own_grown h hg fun k hk => by cases hk; exact hne
theorem Own.later {w w' : World} {g t n : Nat} {xs : List Value} (h : Own w g t n xs) (hb : Below w.heap.size w w') : Own w' g t n xs := own_later h hb
theorem Own.lt {w : World} {g t n : Nat} {xs : List Value} (h : Own w g t n xs) : g < w.heap.size := (World.ownsRow.lt h g rfl).2
theorem Own.cell {w : World} {g t n : Nat} {xs : List Value} (h : Own w g t n xs) (j : Nat) (hj : j < n) : w.cell? ⟨g, j, none⟩ = xs[j]? := World.ownsRow.cellAt h j (by omega)
theorem Own.soft {w : World} {g t n : Nat} {xs : List Value} (h : Own w g t n xs) (j : Nat) : w.frozen? ⟨g, j, none⟩ = false := World.ownsRow.frozenAt h j
theorem Own.put {w : World} {g t n : Nat} {xs : List Value} (h : Own w g t n xs) (j : Nat) (u : Value) : Own (w.setCell ⟨g, j, none⟩ u) g t n (xs.set j u) ∧ w.grownBy (w.setCell ⟨g, j, none⟩ u) (some g) := World.ownsRow.stored h j u
theorem Own.new (w : World) (t n : Nat) (cs : Array Value) (hs : cs.size = n) : Own (w.alloc (.cells cs t)) w.heap.size t n cs.toList :=
  World.ownsRow_lit (base := w.heap.size) (e := t) (size := n) w cs 1 (Nat.le_refl _) (by decide) (by omega)

theorem grown_set (w : World) (a : Addr) (u : Value) : w.grownBy (w.setCell a u) (some a.block) :=
  ⟨rfl, rfl, rfl, by simp, fun k _ hk => heap_setCell_other w a k u (fun e => hk (by simp [e]))⟩
theorem grown_new {a b c : World} {r r' : Option Nat} (h : a.grownBy b r) (k : b.grownBy c r') (hr : ∀ n, r' = some n → a.heap.size ≤ n) : a.grownBy c r :=
  ⟨k.os.trans h.os, k.tape.trans h.tape, k.output.trans h.output, Nat.le_trans h.size k.size, fun i hi hne => (k.block i (Nat.lt_of_lt_of_le hi h.size) (fun e => by have := hr i e.symm; omega)).trans (h.block i hi hne)⟩
theorem size_set (w : World) (a : Addr) (u : Value) : (w.setCell a u).heap.size = w.heap.size := by simp
theorem info26 : (Tryz.prog.info? 48).map (fun i => (i.zero, i.size, i.bytes)) = some (some (.agg #[.int .i64 0, .int .i64 0, .string ⟨#[]⟩]), 3, 32) := by kernel_rfl
theorem info30 : (Tryz.prog.info? 122).map (fun i => (i.zero, i.size, i.bytes)) = some (some (.agg #[.int .i64 0, .slice none 0 0]), 2, 32) := by kernel_rfl
def cellsV (v : V) : List Value := [.int .i64 v.k, .int .i64 v.n, .string v.s]
/-- Values in a row of one's own. -/
def OV (w : World) (B : Nat) (x : Value) (vs : List V) : Prop := w.ownsRow B 48 3 x vs.length (vs.flatMap cellsV)
theorem flat_at {α β : Type} (f : α → List β) (m : Nat) (hf : ∀ a, (f a).length = m) : ∀ (l : List α) (i j : Nat) (hi : i < l.length), j < m → (l.flatMap f)[i * m + j]? = (f l[i])[j]?
  | a :: l, 0, j, _, hj => by
    rw [List.flatMap_cons, Nat.zero_mul, Nat.zero_add, List.getElem?_append_left (by rw [hf]; exact hj)]; rfl
  | a :: l, i + 1, j, hi, hj => by
    have ih := flat_at f m hf l i j (by simpa using hi) hj
    rw [List.flatMap_cons, List.getElem?_append_right (by rw [hf, Nat.add_mul]; omega), hf, show (i + 1) * m + j - m = i * m + j by rw [Nat.add_mul]; omega, ih]
    rfl
theorem OV.form {w : World} {B : Nat} {x : Value} {vs : List V} (h : OV w B x vs) : ∃ a c, x = .slice a vs.length c ∧ VLies w a vs ∧ ∀ y, a = some y → B ≤ y.block ∧ y.block < w.heap.size := by
  rcases h.2 with ⟨h1, h2⟩ | ⟨g, c, cur, h1, h2, h3, -⟩
  · refine ⟨none, 0, by rw [h1, h2], fun i hi => absurd hi (by omega), fun y hy => by cases hy⟩
  · refine ⟨some ⟨g, 0, none⟩, c, h1, fun i hi => ?_, fun y hy => ?_⟩
    · rw [h1] at h
      have key : ∀ j, j < 3 → w.cell? ⟨g, i * 3 + j, none⟩ = (cellsV vs[i])[j]? := fun j hj => by
        rw [World.ownsRow.cellAt h (i * 3 + j) (by omega), flat_at cellsV 3 (fun _ => rfl) vs i j hi hj]
      exact ⟨g, 0, rfl, by rw [Nat.zero_add]; exact key 0 (by decide), by rw [Nat.zero_add]; exact key 1 (by decide), by rw [Nat.zero_add]; exact key 2 (by decide)⟩
    · cases hy
      rcases Nat.lt_or_ge g w.heap.size with h | h
      · exact ⟨h2, h⟩
      · rw [Array.getElem?_eq_none h] at h3; cases h3
theorem OV.grown {w w' : World} {B : Nat} {x : Value} {vs : List V} {r : Option Nat} (h : OV w B x vs) (hg : w.grownBy w' r) (hr : ∀ k, r = some k → k < B) : OV w' B x vs :=
  own_grown h hg fun k hk e => by have h1 := (World.ownsRow.lt h k hk).1; have h2 := hr k e.symm; omega
theorem OV.later {w w' : World} {B : Nat} {x : Value} {vs : List V} (h : OV w B x vs) (hb : Below w.heap.size w w') : OV w' B x vs := own_later h hb
theorem VLies.grown {w w' : World} {a : Option Addr} {vs : List V} {r : Option Nat} (h : VLies w a vs) (hg : w.grownBy w' r) (hne : ∀ x, a = some x → some x.block ≠ r) : VLies w' a vs := fun i hi => by
  obtain ⟨b, off, e, h1, h2, h3⟩ := h i hi
  have hn := hne ⟨b, off, none⟩ e
  exact ⟨b, off, e, hg.cell h1 hn, hg.cell h2 hn, hg.cell h3 hn⟩

/-- A row and where its values lie. -/
structure Q where
  r : Rw
  a : Option Addr
  c : Nat
def cellsR (q : Q) : List Value := [.int .i64 q.r.t, .slice q.a q.r.vs.length q.c]
/-- Rows in a row of one's own; no list of values lies in it. -/
structure OR (w : World) (B : Nat) (x : Value) (qs : List Q) : Prop where
  own : w.ownsRow B 122 2 x qs.length (qs.flatMap cellsR)
  lies : ∀ q ∈ qs, VLies w q.a q.r.vs
  apart : ∀ q ∈ qs, ∀ y, q.a = some y → B ≤ y.block ∧ y.block < w.heap.size ∧ some y.block ≠ x.ownBlock
theorem OR.nil (w : World) (B : Nat) : OR w B (.slice none 0 0) [] := ⟨World.ownsRow_nil _ _ _ _, (fun q hq => by cases hq), (fun q hq => by cases hq)⟩
theorem OR.grown {w w' : World} {B : Nat} {x : Value} {qs : List Q} {r : Option Nat} (h : OR w B x qs) (hg : w.grownBy w' r) (hr : ∀ k, r = some k → k < B) : OR w' B x qs :=
  ⟨own_grown h.own hg fun k hk e => by have h1 := (World.ownsRow.lt h.own k hk).1; have h2 := hr k e.symm; omega,
   fun q hq => (h.lies q hq).grown hg fun y hy e => by have h1 := (h.apart q hq y hy).1; have h2 := hr _ e.symm; omega,
   fun q hq y hy => ⟨(h.apart q hq y hy).1, Nat.lt_of_lt_of_le (h.apart q hq y hy).2.1 hg.size, (h.apart q hq y hy).2.2⟩⟩
theorem OR.later {w w' : World} {B : Nat} {x : Value} {qs : List Q} (h : OR w B x qs) (hb : Below w.heap.size w w') : OR w' B x qs := h.grown (r := none) (grown_below hb) fun k hk => by cases hk
theorem OR.form {w : World} {B : Nat} {x : Value} {qs : List Q} (h : OR w B x qs) : ∃ a c, x = .slice a qs.length c ∧ RLies w a (qs.map (·.r)) := by
  rcases h.own.2 with ⟨h1, h2⟩ | ⟨g, c, cur, h1, h2, h3, -⟩
  · refine ⟨none, 0, by rw [h1, h2], fun i hi => absurd hi (by simp; omega)⟩
  · refine ⟨some ⟨g, 0, none⟩, c, h1, fun i hi => ?_⟩
    have hi' : i < qs.length := by simpa using hi
    have ho := h.own
    rw [h1] at ho
    have key : ∀ j, j < 2 → w.cell? ⟨g, i * 2 + j, none⟩ = (cellsR qs[i])[j]? := fun j hj => by
      rw [World.ownsRow.cellAt ho (i * 2 + j) (by omega), flat_at cellsR 2 (fun _ => rfl) qs i j hi' hj]
    refine ⟨g, 0, qs[i].a, qs[i].c, rfl, ?_, ?_, ?_⟩
    · rw [Nat.zero_add]; simpa [cellsR] using key 0 (by decide)
    · rw [Nat.zero_add]; simpa [cellsR] using key 1 (by decide)
    · simpa using h.lies qs[i] (List.getElem_mem hi')
/-- One row more. -/
theorem OR.more {w0 w w' : World} {B : Nat} {x x' : Value} {qs : List Q} {q : Q} (h : OR w0 B x qs) (h0 : OR w B x qs) (hown : w'.ownsRow B 122 2 x' (qs.length + 1) (qs.flatMap cellsR ++ cellsR q)) (hg : w.grownBy w' x.ownBlock) (hat : x'.ownBlock = x.ownBlock ∨ x'.ownBlock = some w.heap.size)
    (hB : B ≤ w0.heap.size) (hq : VLies w q.a q.r.vs) (hqa : ∀ y, q.a = some y → w0.heap.size ≤ y.block ∧ y.block < w.heap.size) : OR w' B x' (qs ++ [q]) := by
  have hx : ∀ k, x.ownBlock = some k → k < w0.heap.size := fun k hk => (World.ownsRow.lt h.own k hk).2
  have hqx : ∀ y, q.a = some y → some y.block ≠ x.ownBlock := fun y hy e => by have h1 := hx _ e.symm; have h2 := hqa y hy; omega
  refine ⟨?_, fun p hp => ?_, fun p hp y hy => ?_⟩
  · rw [List.length_append, List.flatMap_append]; simpa using hown
  · rcases List.mem_append.1 hp with hp | hp
    · exact (h0.lies p hp).grown hg fun y hy => (h0.apart p hp y hy).2.2
    · rw [List.mem_singleton.1 hp]; exact hq.grown hg hqx
  · rcases List.mem_append.1 hp with hp | hp
    · obtain ⟨h1, h2, h3⟩ := h0.apart p hp y hy
      refine ⟨h1, Nat.lt_of_lt_of_le h2 hg.size, ?_⟩
      rcases hat with e | e
      · rw [e]; exact h3
      · rw [e]; intro e2; have := Option.some.inj e2; omega
    · rw [List.mem_singleton.1 hp] at hy
      obtain ⟨h1, h2⟩ := hqa y hy
      refine ⟨by omega, Nat.lt_of_lt_of_le h2 hg.size, ?_⟩
      rcases hat with e | e
      · rw [e]; exact hqx y hy
      · rw [e]; intro e2; have := Option.some.inj e2; omega

theorem eqB_self (v : V) : eqB v.k v.n v.s v.k v.n v.s = true := by unfold eqB; simp

set_option maxHeartbeats 2000000 in
/-- Lists of the same values are the same. -/
theorem same_any (vs : List V) (a1 : Option Addr) (c1 : Nat) (a2 : Option Addr) (c2 : Nat) (w : World) (h1 : VLies w a1 vs) (h2 : VLies w a2 vs) (hl : vs.length ≤ 4398046511104) :
    Calls Tryz.prog 56 #[.slice a1 vs.length c1, .slice a2 vs.length c2] w fun e w' => e = .returned (.bool true) ∧ ∃ m, w' = w.drewN m := by
  have H1 : Hid (VLies w a1 vs) := h1
  have H2 : Hid (VLies w a2 vs) := h2
  clear h1 h2
  go_enter Tryz.func56, Tryz.ntmps56
  go_wp2
  go_loopw [5] (fun i w' => ∃ k : Nat, k ≤ vs.length ∧ i = .int .i64 k ∧ ∃ m, w' = w.drewN m) (fun i _ => vs.length - (intOf i).toNat)
  case atStart => exact ⟨0, Nat.zero_le _, rfl, 0, rfl⟩
  case round =>
    obtain ⟨k, hk, rfl, m, rfl⟩ := hrel
    by_cases hlt : k < vs.length
    · have hki : (k : Int) < (vs.length : Int) := by omega
      obtain ⟨b, o, rfl, e1, e2, e3⟩ := H1.out k hlt
      obtain ⟨b', o', rfl, g1, g2, g3⟩ := H2.out k hlt
      have he := eqB_self vs[k]
      go_wp2
      go_quiet (fail)
      go_wp2
      go_roundw
      case rel => exact ⟨k + 1, by omega, by go_num, _, rfl⟩
      case measure => simp [intOf]; omega
    · obtain rfl : k = vs.length := by omega
      go_wp2
      go_ret
      exact ⟨rfl, m, rfl⟩

end Go.Proofs.YtobhccmnlmlapaaGreatDoor
namespace Go.Proofs.YtobhccmnlmlapaaGreatDoor
open Go.RowKit
set_option linter.unusedVariables false
set_option maxRecDepth 100000

/-- copy of elements of 'k' cells into the beginning of a row that is known whole. -/
theorem run_copy_k {P : Program} (w : World) (dT sT ty elem : TypeId) (k g dLen dCap : Nat) (sp : Option Addr) (sLen sCap : Nat) (cur : List Value) (t : TypeId) (cs : List Value)
    (hu : P.underlying dT = some (.slice elem)) (hs : (P.info? elem).map (·.size) = some k)
    (hg : w.heap[g]? = some (.cells cur.toArray t (0, 0))) (hn : cs.length = Nat.min sLen dLen * k)
    (hk : 0 < k) (hsrc : 0 < cs.length → ∃ a, sp = some a ∧ ∀ j v, cs[j]? = some v → w.cell? (a.add j) = some v) (hfit : cs.length ≤ cur.length) (h1 : ∀ v ∈ cs, v.oneCell' = true) :
    (Builtin.copy_ #[dT, sT] ty #[.slice (some ⟨g, 0, none⟩) dLen dCap, .slice sp sLen sCap]).run P w =
      .ok (goInt (Nat.min sLen dLen)) (w.setRow g (cs ++ cur.drop cs.length).toArray) := by
  cases hq : P.info? elem with
  | none => simp [hq] at hs
  | some i =>
    have hi : i.size = k := by simpa [hq] using hs
    have hf : (Builtin.firstCells k (Nat.min sLen dLen) (.slice sp sLen sCap)).run P w = .ok cs.toArray w := by
      by_cases h0 : cs.length = 0
      · obtain rfl : cs = [] := List.eq_nil_of_length_eq_zero h0
        cases sp with
        | none => exact run_firstCells_none ..
        | some a => exact run_firstCells_some w k (Nat.min sLen dLen) a sLen sCap [] hn (fun j v hj => by simp at hj)
      · obtain ⟨a, rfl, hc⟩ := hsrc (by omega)
        exact run_firstCells_some w k (Nat.min sLen dLen) a sLen sCap cs hn hc
    have hst := run_storeCells_at P g 0 t cs 0 cur.toArray w hg (by simpa using hfit) h1
    simp only [Nat.zero_add, List.take_zero, List.nil_append] at hst
    simp [Builtin.copy_, run_underlying hu, Builtin.lenOf, sizeOf, typeInfo, hq, hi, hf, hst]

theorem wpList_copy_k {P : Program} {w : World} {ops : Array Oper} {rest : List Oper} {o : Oper} {a : Act} {Q : Exit → Act → World → Prop} (hgd : o.guard = none) (d s : Operand) (dT sT : TypeId)
    (ho : o.op = .call { callee := .builtin .copy, args := #[d, s], argTypes := #[dT, sT] }) (elem : TypeId) (k : Nat) (hu : P.underlying dT = some (.slice elem)) (hsz : (P.info? elem).map (·.size) = some k)
    (g dLen dCap : Nat) (sp : Option Addr) (sLen sCap : Nat) (hd : a.eval d = .slice (some ⟨g, 0, none⟩) dLen dCap) (hs : a.eval s = .slice sp sLen sCap)
    (cur : List Value) (t : TypeId) (hg : w.heap[g]? = some (.cells cur.toArray t (0, 0))) (cs : List Value) (hn : cs.length = Nat.min sLen dLen * k) (hk : 0 < k)
    (hsrc : 0 < cs.length → ∃ a, sp = some a ∧ ∀ j v, cs[j]? = some v → w.cell? (a.add j) = some v) (hfit : cs.length ≤ cur.length) (h1 : ∀ v ∈ cs, v.oneCell' = true)
    (B : Nat) (w0 : World) (hb : Below B w0 w) (hBg : B ≤ g)
    (h : ∀ w', Hid (w'.heap[g]? = some (.cells (cs ++ cur.drop cs.length).toArray t (0, 0))) → Below B w0 w' → wpList P ops Q rest (a.put o.dst (goInt (Nat.min sLen dLen))) w') : wpList P ops Q (o :: rest) a w := by
  refine wpList_plain hgd fun K hK => ?_
  have hrun := run_copy_k (P := P) w dT sT o.type elem k g dLen dCap sp sLen sCap cur t cs hu hsz hg hn hk hsrc hfit h1
  unfold Oper.wp
  simp only [execOp, ho, resolve, invoke, builtin, Sem.run_bind, Sem.run_pure, Result.andThen_ok, List.map_toArray, List.map_cons, List.map_nil, hd, hs, hrun]
  exact hK _ _ (h _ (show _ = _ from setRow_heap w g _ _ t _ hg) (below_setRow hb hBg _))

/-- append onto a row of one's own: in the row, or in a new block and nothing else. -/
theorem run_append_keep {P : Program} (w : World) (base : Nat) (t ty e : TypeId) (i : TypeInfo) (z : Value) (size bytes : Nat) (ht : P.underlying t = some (.slice e)) (hi : P.info? e = some i) (hz : i.zero = some z)
    (hsize : i.size = size) (hby : i.bytes = bytes) (hzs : z.cells.size = size) (hsz : 0 < size)
    (v : Value) (n : Nat) (xs : List Value) (hown : w.ownsRow base e size v n xs)
    (a : Addr) (m c : Nat) (news : List Value) (hl : news.length = m * size) (hnews : ∀ j u, news[j]? = some u → w.cell? (a.add j) = some u) (h1 : ∀ u ∈ news, u.oneCell' = true)
    (h63 : n + m ≤ maxLen) (hbytes : (n + m) * bytes ≤ 140737488355328) (hbase : base ≤ w.heap.size) :
    ∃ v' w', (Builtin.append_ #[t, t] ty #[v, .slice (some a) m c]).run P w = .ok v' w' ∧ w'.ownsRow base e size v' (n + m) (xs ++ news) ∧ w.grownBy w' v.ownBlock ∧
      (v'.ownBlock = v.ownBlock ∨ (v'.ownBlock = some w.heap.size ∧ w.grownBy w' none)) := by
  obtain ⟨v', w', hr, h2, h3, -, h5⟩ := run_append_own_at (P := P) w base t ty e i z size bytes ht hi hz hsize hby hzs hsz v n xs hown a m c news hl hnews h1 h63 hbytes hbase
  refine ⟨v', w', hr, h2, h3, ?_⟩
  rcases h5 with h5 | h5
  · exact .inl h5
  rcases hown.2 with ⟨rfl, -⟩ | ⟨g, cap, cur, rfl, -, hg, -, -, hcs, -⟩
  · exact .inr ⟨h5, h3⟩
  subst hsize
  subst hby
  by_cases hroom : n + m ≤ cap
  · have hr' := run_append_room (P := P) w t ty e i ht hi g n cap cur hg a m c news hl hnews h1 hroom (by rw [hl, hcs, ← Nat.add_mul]; exact Nat.mul_le_mul_right _ hroom)
    rw [hr] at hr'
    injection hr' with e1 e2
    exact .inl (by rw [e1]; rfl)
  · have hm : n + m ≤ 9223372036854775807 := h63
    have hr' := run_append_grow (P := P) w t ty e i z ht hi hz ⟨g, 0, none⟩ n cap xs hown.1 (hown.cells (g := g) rfl) a m c news hl hnews (by omega) (by omega) (growslice_fits (by omega) hbytes)
    rw [hr] at hr'
    injection hr' with e1 e2
    exact .inr ⟨h5, by rw [e2]; exact grown_below ((Below.refl _ w).drew.trans (bel1 w.drew _))⟩

theorem wpList_append_keep {P : Program} {w : World} {ops : Array Oper} {rest : List Oper} {o : Oper} {a : Act} {Q : Exit → Act → World → Prop} (hgd : o.guard = none) (s x : Operand) (t : TypeId)
    (ho : o.op = .call { callee := .builtin .append, args := #[s, x], argTypes := #[t, t] })
    (base : Nat) (e : TypeId) (i : TypeInfo) (z : Value) (size bytes : Nat) (ht : P.underlying t = some (.slice e)) (hi : P.info? e = some i) (hz : i.zero = some z)
    (hsize : i.size = size) (hby : i.bytes = bytes) (hzs : z.cells.size = size) (hsz : 0 < size)
    (v : Value) (n : Nat) (xs : List Value) (hs : a.eval s = v) (hown : w.ownsRow base e size v n xs)
    (ad : Addr) (m c : Nat) (news : List Value) (hx : a.eval x = .slice (some ad) m c) (hl : news.length = m * size) (hnews : ∀ j u, news[j]? = some u → w.cell? (ad.add j) = some u) (h1 : ∀ u ∈ news, u.oneCell' = true)
    (h63 : n + m ≤ maxLen) (hbytes : (n + m) * bytes ≤ 140737488355328) (hbase : base ≤ w.heap.size)
    (h : ∀ v' w', w'.ownsRow base e size v' (n + m) (xs ++ news) → w.grownBy w' v.ownBlock → (v'.ownBlock = v.ownBlock ∨ (v'.ownBlock = some w.heap.size ∧ w.grownBy w' none)) → wpList P ops Q rest (a.put o.dst v') w') :
    wpList P ops Q (o :: rest) a w := by
  refine wpList_plain hgd fun K hK => ?_
  obtain ⟨v', w', hr, h2, h3, h4⟩ := run_append_keep (P := P) w base t o.type e i z size bytes ht hi hz hsize hby hzs hsz v n xs hown ad m c news hl hnews h1 h63 hbytes hbase
  unfold Oper.wp execOp
  simp only [ho, resolve, invoke, builtin, Sem.run_bind, Sem.run_pure, Result.andThen_ok, List.map_toArray, List.map_cons, List.map_nil, hs, hx, hr]
  exact hK _ _ (h v' w' h2 h3 h4)

theorem flatR_set : ∀ (qs : List Q) (m : Nat) (q : Q), m < qs.length → (qs.set m q).flatMap cellsR = ((qs.flatMap cellsR).set (m * 2) (.int .i64 q.r.t)).set (m * 2 + 1) (.slice q.a q.r.vs.length q.c)
  | [], m, q, h => by simp at h
  | p :: qs, 0, q, _ => by simp [cellsR]
  | p :: qs, m + 1, q, h => by
    have ih := flatR_set qs m q (by simpa using h)
    rw [List.set_cons_succ, List.flatMap_cons, List.flatMap_cons, ih, show (m + 1) * 2 = m * 2 + 1 + 1 by omega]
    simp [cellsR]
theorem flatV_set : ∀ (vs : List V) (m : Nat) (v : V), m < vs.length → (vs.set m v).flatMap cellsV = (((vs.flatMap cellsV).set (m * 3) (.int .i64 v.k)).set (m * 3 + 1) (.int .i64 v.n)).set (m * 3 + 2) (.string v.s)
  | [], m, q, h => by simp at h
  | p :: qs, 0, q, _ => by simp [cellsV]
  | p :: qs, m + 1, q, h => by
    have ih := flatV_set qs m q (by simpa using h)
    rw [List.set_cons_succ, List.flatMap_cons, List.flatMap_cons, ih, show (m + 1) * 3 = m * 3 + 1 + 1 + 1 by omega]
    simp [cellsV]
end Go.Proofs.YtobhccmnlmlapaaGreatDoor
namespace Go.Proofs.YtobhccmnlmlapaaGreatDoor
open Go.RowKit
set_option linter.unusedVariables false
set_option maxRecDepth 100000

theorem OV.base {w : World} {B B' : Nat} {x : Value} {vs : List V} (h : OV w B x vs) (hb : B' ≤ B) : OV w B' x vs := by
  refine ⟨h.1, ?_⟩
  rcases h.2 with h2 | ⟨g, cap, cur, h1, h2, h3⟩
  · exact .inl h2
  · exact .inr ⟨g, cap, cur, h1, Nat.le_trans hb h2, h3⟩
theorem one_cellsV (v : V) : ∀ u ∈ cellsV v, u.oneCell' = true := by intro u hu; simp [cellsV] at hu; rcases hu with rfl | rfl | rfl <;> rfl
theorem len_cellsV (vs : List V) : (vs.flatMap cellsV).length = vs.length * 3 := by
  induction vs with
  | nil => rfl
  | cons a l ih => rw [List.flatMap_cons, List.length_append, ih, List.length_cons]; simp [cellsV]; omega
theorem VLies.cells {w : World} {b off : Nat} {vs : List V} (h : VLies w (some ⟨b, off, none⟩) vs) : ∀ j u, (vs.flatMap cellsV)[j]? = some u → w.cell? ⟨b, off + j, none⟩ = some u := by
  intro j u hj
  have hlt : j < vs.length * 3 := by
    have := (List.getElem?_eq_some_iff.1 hj).1
    rwa [len_cellsV] at this
  have hi : j / 3 < vs.length := by omega
  have e : j = j / 3 * 3 + j % 3 := by omega
  have hf := flat_at cellsV 3 (fun _ => rfl) vs (j / 3) (j % 3) hi (by omega)
  rw [← e, hj] at hf
  obtain ⟨b', off', e1, h1, h2, h3⟩ := h (j / 3) hi
  cases e1
  have hm : j % 3 = 0 ∨ j % 3 = 1 ∨ j % 3 = 2 := by omega
  rw [show off + j = off + j / 3 * 3 + j % 3 by omega]
  rcases hm with hm | hm | hm
  · rw [hm] at hf ⊢
    rw [hf]; exact h1
  · rw [hm] at hf ⊢
    rw [hf]; exact h2
  · rw [hm] at hf ⊢
    rw [hf]; exact h3

set_option maxHeartbeats 1000000 in
/-- slices.Clone of values. -/
theorem clone_any (a : Option Addr) (vs : List V) (c : Nat) (w : World) (h : VLies w a vs) (hl : vs.length ≤ 4398046511104) :
    Calls Tryz.prog 41 #[.slice a vs.length c] w fun e w' => ∃ a' c', e = .returned (.slice a' vs.length c') ∧ OV w' w.heap.size (.slice a' vs.length c') vs ∧ Below w.heap.size w w' := by
  obtain ⟨i0, hi0, hz0, hz1, hz2⟩ := info_parts info26
  have q22 : ∀ (w : World) (a : Option Addr) (n c n' c' : Nat), (binOp .eql 36 (.slice a n c) (.slice none n' c')).run Tryz.prog w = .ok (.bool a.isNone) w := fun w a n c n' c' => Lib.run_eql_slice_nil w _ _ a n c n' c' Tryz.underlying36
  cases a with
  | none =>
    have h0 : vs = [] := by
      cases vs with
      | nil => rfl
      | cons v l => obtain ⟨_, _, e, _⟩ := h 0 (by simp); cases e
    subst h0
    go_enter Tryz.func41, Tryz.ntmps41
    go_wp2
    go_ret
    exact ⟨none, 0, rfl, World.ownsRow_nil _ _ _ _, Below.refl _ _⟩
  | some ad =>
    have HV : Hid (VLies w (some ad) vs) := h
    clear h
    go_enter Tryz.func41, Tryz.ntmps41
    go_wp2_with (at_builtin; refine wpList_append_own_at _ rfl _ _ 36 rfl w.heap.size 48 i0 (.agg #[.int .i64 0, .int .i64 0, .string ⟨#[]⟩]) 3 32 Tryz.underlying36 hi0 hz0 hz1 hz2 rfl (by decide) _ 0 [] rfl (World.ownsRow_made w #[] 0 (Nat.le_refl _) (Nat.zero_le _) (by simp)) ad vs.length c (vs.flatMap cellsV) rfl ?qc1 ?qc2 ?qc3 ?qc4 ?qc5 ?qc6 ?_)
    case qc1 => exact len_cellsV vs
    case qc2 =>
      intro j u hj
      have hlt := (List.getElem?_eq_some_iff.1 hj).1
      rw [len_cellsV] at hlt
      obtain ⟨b, off, e, -⟩ := HV.out 0 (by omega)
      cases e
      rw [WideShapes.add_plain]
      exact Lib.cell?_alloc_some _ (HV.out.cells j u hj)
    case qc3 => intro u hu; obtain ⟨v, _, hu⟩ := List.mem_flatMap.1 hu; exact one_cellsV v u hu
    case qc4 => unfold maxLen; omega
    case qc5 => omega
    case qc6 => simp
    intro v' w1 hown hgrow hnil hat
    have hB : Below w.heap.size w w1 := ((Below.refl _ w).alloc (Nat.le_refl _) _).grown hgrow (by simp) (by intro k hk; simp [Value.ownBlock] at hk; omega)
    have hO : OV w1 w.heap.size v' vs := by
      unfold OV
      simpa using hown
    obtain ⟨a', c', rfl, -, -⟩ := hO.form
    have HO : Hid (OV w1 w.heap.size (.slice a' vs.length c') vs) := hO
    clear hown hgrow hnil hat hO
    go_wp2
    go_ret
    exact ⟨a', c', rfl, HO.out, hB⟩
end Go.Proofs.YtobhccmnlmlapaaGreatDoor
