import Derived.Test.YtpghfopbnicpmaaDoorGtC
namespace Go.Proofs.YtpghfopbnicpmaaDoor
open Go.RowKit
set_option linter.unusedVariables false
set_option linter.unusedSimpArgs false
set_option maxRecDepth 100000

/-- A gate in its block, its channels in theirs. -/
structure GT (w : World) (g b c : Nat) (tm mk : Int) (es : List En) : Prop where
  own : Own w g 61 3 [.int .i64 tm, .int .i64 mk, .slice (some ⟨b, 0, none⟩) es.length c]
  ent : w.ownsRow b 57 2 (.slice (some ⟨b, 0, none⟩) es.length c) es.length (es.flatMap cellsE)
  ne : b ≠ g
theorem GT.later {w w' : World} {g b c : Nat} {tm mk : Int} {es : List En} (h : GT w g b c tm mk es) (hb : Below w.heap.size w w') : GT w' g b c tm mk es := ⟨h.own.later hb, own_later h.ent hb, h.ne⟩
theorem GT.drew {w : World} {g b c : Nat} {tm mk : Int} {es : List En} (h : GT w g b c tm mk es) : GT w.drew g b c tm mk es := ⟨h.own, h.ent, h.ne⟩
theorem GT.lt {w : World} {g b c : Nat} {tm mk : Int} {es : List En} (h : GT w g b c tm mk es) : g < w.heap.size ∧ b < w.heap.size := ⟨h.own.lt, (World.ownsRow.lt h.ent b rfl).2⟩
theorem GT.cells {w : World} {g b c : Nat} {tm mk : Int} {es : List En} (h : GT w g b c tm mk es) : w.cell? ⟨g, 0, none⟩ = some (.int .i64 tm) ∧ w.cell? ⟨g, 1, none⟩ = some (.int .i64 mk) ∧ w.cell? ⟨g, 2, none⟩ = some (.slice (some ⟨b, 0, none⟩) es.length c) :=
  ⟨Own.cell h.own 0 (by decide), Own.cell h.own 1 (by decide), Own.cell h.own 2 (by decide)⟩
theorem GT.at {w : World} {g b c : Nat} {tm mk : Int} {es : List En} (h : GT w g b c tm mk es) (i : Nat) (hi : i < es.length) : w.cell? ⟨b, i * 2, none⟩ = some (.int .i64 es[i].t) ∧ w.cell? ⟨b, i * 2 + 1, none⟩ = some (.bool es[i].b) := by
  have key : ∀ j, j < 2 → w.cell? ⟨b, i * 2 + j, none⟩ = (cellsE es[i])[j]? := fun j hj => by
    rw [World.ownsRow.cellAt h.ent (i * 2 + j) (by omega), flat_at cellsE 2 (fun _ => rfl) es i j hi hj]
  exact ⟨key 0 (by decide), key 1 (by decide)⟩
/-- Nothing else is changed than two blocks. -/
structure Ch (w w' : World) (g b : Nat) : Prop where
  os : w'.os = w.os
  tape : w'.tape = w.tape
  output : w'.output = w.output
  size : w.heap.size ≤ w'.heap.size
  block : ∀ i, i < w.heap.size → i ≠ g → i ≠ b → w'.heap[i]? = w.heap[i]?
theorem Ch.refl (w : World) (g b : Nat) : Ch w w g b := ⟨rfl, rfl, rfl, Nat.le_refl _, fun _ _ _ _ => rfl⟩
theorem Ch.trans {w w' w'' : World} {g b : Nat} (h : Ch w w' g b) (k : Ch w' w'' g b) : Ch w w'' g b :=
  ⟨k.os.trans h.os, k.tape.trans h.tape, k.output.trans h.output, Nat.le_trans h.size k.size, fun i hi h1 h2 => (k.block i (Nat.lt_of_lt_of_le hi h.size) h1 h2).trans (h.block i hi h1 h2)⟩
theorem Ch.of_below {w w' : World} {g b : Nat} (h : Below w.heap.size w w') : Ch w w' g b := ⟨h.os, h.tape, h.output, h.size, fun i hi _ _ => h.block i hi⟩
theorem Ch.below {W w w' : World} {g b B : Nat} (h : Below B W w) (k : Ch w w' g b) (hB : B ≤ w.heap.size) (h1 : B ≤ g) (h2 : B ≤ b) : Below B W w' :=
  ⟨k.os.trans h.os, k.tape.trans h.tape, k.output.trans h.output, Nat.le_trans h.size k.size, fun i hi => (k.block i (Nat.lt_of_lt_of_le hi hB) (by omega) (by omega)).trans (h.block i hi)⟩
theorem Ch.grown {w w' : World} {g b : Nat} {r : Nat} (h : w.grownBy w' (some r)) (hr : r = g ∨ r = b) : Ch w w' g b :=
  ⟨h.os, h.tape, h.output, h.size, fun i hi h1 h2 => h.block i hi (fun e => by have := Option.some.inj e; omega)⟩
theorem Ch.cell {w w' : World} {g b : Nat} {p o : Nat} {v : Value} (k : Ch w w' g b) (h : w.cell? ⟨p, o, none⟩ = some v) (h1 : p ≠ g) (h2 : p ≠ b) : w'.cell? ⟨p, o, none⟩ = some v := by
  have hlt := World.block_lt_of_cell? _ _ h
  have := k.block p hlt h1 h2
  unfold World.cell? at h ⊢
  simpa [this] using h
theorem set_set2 {α : Type} : ∀ (es : List En) (i : Nat) (e : En), i < es.length → (es.set i e).flatMap cellsE = ((es.flatMap cellsE).set (i * 2) (.int .i64 e.t)).set (i * 2 + 1) (.bool e.b)
  | [], i, e, h => by simp at h
  | p :: es, 0, e, _ => by simp [cellsE]
  | p :: es, i + 1, e, h => by
    have ih := set_set2 (α := α) es i e (by simpa using h)
    rw [List.set_cons_succ, List.flatMap_cons, List.flatMap_cons, ih, show (i + 1) * 2 = i * 2 + 1 + 1 by omega]
    simp [cellsE]
theorem set_same {α : Type} (l : List α) (i : Nat) (a : α) (h : l[i]? = some a) : l.set i a = l := by
  apply List.ext_getElem?
  intro j
  rw [List.getElem?_set]
  split
  · next e => subst e; split
              · exact h.symm
              · next hl => rw [List.getElem?_eq_none (by omega)] at h; cases h
  · rfl
theorem set_t (es : List En) (i : Nat) (t : Int) (hi : i < es.length) : (es.set i ⟨t, es[i].b⟩).flatMap cellsE = (es.flatMap cellsE).set (i * 2) (.int .i64 t) := by
  rw [set_set2 (α := Nat) es i _ hi]
  apply set_same
  rw [List.getElem?_set_ne (by omega), flat_at cellsE 2 (fun _ => rfl) es i 1 hi (by decide)]; rfl
theorem set_b (es : List En) (i : Nat) (b : Bool) (hi : i < es.length) : (es.set i ⟨es[i].t, b⟩).flatMap cellsE = (es.flatMap cellsE).set (i * 2 + 1) (.bool b) := by
  rw [set_set2 (α := Nat) es i _ hi]
  rw [set_same (es.flatMap cellsE) (i * 2) (.int .i64 es[i].t)]
  have := flat_at cellsE 2 (fun _ => rfl) es i 0 hi (by decide)
  rw [Nat.add_zero] at this; rw [this]; rfl
theorem GT.putTime {w : World} {g b c : Nat} {tm mk : Int} {es : List En} (h : GT w g b c tm mk es) (t : Int) : GT (w.setCell ⟨g, 0, none⟩ (.int .i64 t)) g b c t mk es ∧ Ch w (w.setCell ⟨g, 0, none⟩ (.int .i64 t)) g b := by
  obtain ⟨h1, h2⟩ := h.own.put 0 (.int .i64 t)
  exact ⟨⟨h1, own_grown h.ent h2 (fun k hk => by cases hk; intro e; exact h.ne (Option.some.inj e)), h.ne⟩, .grown h2 (.inl rfl)⟩
theorem GT.putMark {w : World} {g b c : Nat} {tm mk : Int} {es : List En} (h : GT w g b c tm mk es) (m : Int) : GT (w.setCell ⟨g, 1, none⟩ (.int .i64 m)) g b c tm m es ∧ Ch w (w.setCell ⟨g, 1, none⟩ (.int .i64 m)) g b := by
  obtain ⟨h1, h2⟩ := h.own.put 1 (.int .i64 m)
  exact ⟨⟨h1, own_grown h.ent h2 (fun k hk => by cases hk; intro e; exact h.ne (Option.some.inj e)), h.ne⟩, .grown h2 (.inl rfl)⟩
theorem GT.putT {w : World} {g b c : Nat} {tm mk : Int} {es : List En} (h : GT w g b c tm mk es) (i : Nat) (hi : i < es.length) (t : Int) : GT (w.setCell ⟨b, i * 2, none⟩ (.int .i64 t)) g b c tm mk (es.set i ⟨t, es[i].b⟩) ∧ Ch w (w.setCell ⟨b, i * 2, none⟩ (.int .i64 t)) g b := by
  obtain ⟨h1, h2⟩ := World.ownsRow.stored h.ent (i * 2) (.int .i64 t)
  refine ⟨⟨?_, ?_, h.ne⟩, .grown h2 (.inr rfl)⟩
  · rw [List.length_set]; exact h.own.grown h2 (fun e => h.ne (Option.some.inj e).symm)
  · rw [List.length_set, set_t es i t hi]; exact h1
theorem GT.putB {w : World} {g b c : Nat} {tm mk : Int} {es : List En} (h : GT w g b c tm mk es) (i : Nat) (hi : i < es.length) (t : Bool) : GT (w.setCell ⟨b, i * 2 + 1, none⟩ (.bool t)) g b c tm mk (es.set i ⟨es[i].t, t⟩) ∧ Ch w (w.setCell ⟨b, i * 2 + 1, none⟩ (.bool t)) g b := by
  obtain ⟨h1, h2⟩ := World.ownsRow.stored h.ent (i * 2 + 1) (.bool t)
  refine ⟨⟨?_, ?_, h.ne⟩, .grown h2 (.inr rfl)⟩
  · rw [List.length_set]; exact h.own.grown h2 (fun e => h.ne (Option.some.inj e).symm)
  · rw [List.length_set, set_b es i t hi]; exact h1
theorem GT.soft {w : World} {g b c : Nat} {tm mk : Int} {es : List En} (h : GT w g b c tm mk es) : (∀ j, w.frozen? ⟨g, j, none⟩ = false) ∧ ∀ j, w.frozen? ⟨b, j, none⟩ = false := ⟨fun j => h.own.soft j, fun j => World.ownsRow.frozenAt h.ent j⟩

def NewPost (w : World) (n : Int) (e : Ending) (w' : World) : Prop :=
  Below w.heap.size w w' ∧ ((¬ (1 ≤ n ∧ n ≤ 64) ∧ e = .returned (.tuple #[.pointer none, .iface 28 (.int .i64 4)])) ∨
    (1 ≤ n ∧ n ≤ 64 ∧ ∃ g b c : Nat, e = .returned (.tuple #[.pointer (some ⟨g, 0, none⟩), .nilIface]) ∧ w.heap.size ≤ g ∧ w.heap.size ≤ b ∧ GT w' g b c (-1) 0 (List.replicate n.toNat ⟨-1, false⟩)))
theorem new_any (n : Int) (w : World) : Calls Tryd.prog 4 #[.int .i64 n] w (NewPost w n) := by
  by_cases h1 : n < 1
  · go_enter Tryd.func4, Tryd.ntmps4
    go_wp2
    go_ret2
    exact ⟨Below.refl _ _, .inl ⟨by omega, rfl⟩⟩
  by_cases h2 : n > 64
  · go_enter Tryd.func4, Tryd.ntmps4
    go_wp2
    go_ret2
    exact ⟨Below.refl _ _, .inl ⟨by omega, rfl⟩⟩
  obtain ⟨m, rfl⟩ : ∃ m : Nat, n = (m : Int) := ⟨n.toNat, by omega⟩
  go_enter Tryd.func4, Tryd.ntmps4
  go_wp2_with fail
  refine (repeat_any (-1) false (w.heap.size + 1) 1 m (by omega) (by omega) _ (by go_simp) (by go_simp)).mono ?_
  rintro e w1 ⟨k, rfl, hk, hg, hb⟩
  have hB : Below w.heap.size w w1 := ((bel1 w _).trans ((bel1 _ _).mono (by simp))).trans (hb.mono (by simp; omega))
  have HB := hidMk hB
  have HG := hidMk hg
  have hk' : w.heap.size + 2 ≤ k := by simpa using hk
  have hkl : k < w1.heap.size := by
    rcases Nat.lt_or_ge k w1.heap.size with h | h
    · exact h
    · rw [Array.getElem?_eq_none h] at hg; cases hg
  clear hg hb hB hk
  go_wp2_with fail
  go_ret2
  refine ⟨HB.out.trans ((bel1 _ _).mono HB.out.size), .inr ⟨by omega, by omega, w1.heap.size, k, m, rfl, HB.out.size, by omega, ?_, ?_, by omega⟩⟩
  · rw [List.length_replicate, Int.toNat_natCast]
    exact Own.new w1 61 3 #[.int .i64 (-1), .int .i64 0, .slice (some ⟨k, 0, none⟩) m m] rfl
  · rw [List.length_replicate, Int.toNat_natCast]
    have h9 := HG.out
    rw [filled_all] at h9
    have h10 : (w1.alloc (.cells #[.int .i64 (-1), .int .i64 0, .slice (some ⟨k, 0, none⟩) m m] 61)).heap[k]? = some (.cells ((List.replicate m (En.mk (-1) false)).flatMap cellsE).toArray 57 (0, 0)) := by
      rw [(bel1 w1 _).block k hkl]; exact h9
    refine ⟨by rw [len_cellsE]; simp, .inr ⟨k, m, _, rfl, Nat.le_refl _, h10, Nat.le_refl _, by unfold maxLen; omega, by rw [List.size_toArray, len_cellsE]; simp, ?_⟩⟩
    exact List.take_of_length_le (by rw [List.toList_toArray, len_cellsE]; simp)
/-- Whether an element of a channel may be let in. -/
def openB (es : List En) (k : Int) : Bool := if 0 ≤ k ∧ k < es.length then !(es.getD k.toNat ⟨0, true⟩).b else false
theorem open_any (w : World) (g b c : Nat) (tm mk : Int) (es : List En) (h : GT w g b c tm mk es) (k : Int) :
    Calls Tryd.prog 7 #[.pointer (some ⟨g, 0, none⟩), .int .i64 k] w fun e w' => e = .returned (.bool (openB es k)) ∧ w' = w := by
  obtain ⟨c0, c1, c2⟩ := h.cells
  unfold openB
  by_cases h1 : k < 0
  · rw [if_neg (by omega)]
    have h0 : ¬ 0 ≤ k := by omega
    clear h
    go_enter Tryd.func7, Tryd.ntmps7
    go_wp2
    go_ret
    exact ⟨rfl, rfl⟩
  obtain ⟨i, rfl⟩ : ∃ i : Nat, k = (i : Int) := ⟨k.toNat, by omega⟩
  by_cases h2 : i < es.length
  · rw [if_pos (by omega)]
    have h2' : (i : Int) < (es.length : Int) := by omega
    have h0 : (0 : Int) ≤ (i : Int) := by omega
    obtain ⟨e0, e1⟩ := h.at i h2
    have hd : es.getD (i : Int).toNat ⟨0, true⟩ = es[i] := by rw [Int.toNat_natCast]; simp [List.getD, h2]
    rw [hd]
    clear h hd
    generalize es[i] = q at *
    go_enter Tryd.func7, Tryd.ntmps7
    go_wp2
    go_ret
    exact ⟨rfl, rfl⟩
  · rw [if_neg (by omega)]
    have h2' : ¬ (i : Int) < (es.length : Int) := by omega
    have h0 : (0 : Int) ≤ (i : Int) := by omega
    clear h
    go_enter Tryd.func7, Tryd.ntmps7
    go_wp2
    go_ret
    exact ⟨rfl, rfl⟩
end Go.Proofs.YtpghfopbnicpmaaDoor
