import Derived.Test.YtkedbmpnhplmaaaMgP
import Derived.Deep.DeepCutAuto
import Derived.Deep.LoopGhost
import Derived.BigQuiet
import Derived.Deep.QuietTactic
import Derived.Laws.AppendOwnNone
namespace Go.Proofs.Ytkedbmpnhplmaaa
open Go.RowKit Go.Shelf
set_option linter.unusedVariables false
set_option linter.unusedSimpArgs false
set_option maxRecDepth 100000
set_option maxHeartbeats 4000000

theorem rmeet_any (x y : Wn) (w : World) : Calls Try.prog 9 #[.agg #[.int .i64 x.a, .int .i64 x.b], .agg #[.int .i64 y.a, .int .i64 y.b]] w fun e w' => e = .returned (.bool (meet x y)) ∧ w' = (w.alloc (.cells #[.int .i64 x.a, .int .i64 x.b] 24)).alloc (.cells #[.int .i64 y.a, .int .i64 y.b] 24) := by
  unfold meet
  cases h1 : decide (x.a < y.b) <;>
  · go_enter Try.func9, Try.ntmps9
    go_wp2
    go_ret
    exact ⟨rfl, rfl⟩

theorem ownsRow_baseW {w : World} {b b' e size n : Nat} {v : Value} {xs : List Value} (h : w.ownsRow b e size v n xs) (hb : b' ≤ b) : w.ownsRow b' e size v n xs := by
  refine ⟨h.1, ?_⟩
  rcases h.2 with h2 | ⟨g, cap, cur, h1, h2, h3⟩
  · exact .inl h2
  · exact .inr ⟨g, cap, cur, h1, Nat.le_trans hb h2, h3⟩
theorem below_ownW {B : Nat} {w0 w w1 : World} {e size n : Nat} {v : Value} {xs : List Value} (hb : Below B w0 w) (hB : B ≤ w.heap.size) (hr : w.ownsRow B e size v n xs) (hg : w.grownBy w1 v.ownBlock) : Below B w0 w1 := by
  refine hb.grown hg hB fun j ej => ?_
  rcases hr.2 with ⟨rfl, _⟩ | ⟨g, cap, cur, rfl, h2, _⟩
  · simp [Value.ownBlock] at ej
  · obtain rfl : g = j := by simpa [Value.ownBlock] using ej
    exact h2

theorem wcells_set (ys : List Wn) (i : Nat) (z : Wn) (hi : i < ys.length) : wcells (ys.set i z) = ((wcells ys).set (i * 2) (.int .i64 z.a)).set (i * 2 + 1) (.int .i64 z.b) := by
  induction ys generalizing i with
  | nil => simp at hi
  | cons y ys ih =>
    cases i with
    | zero => rfl
    | succ i =>
      rw [List.set_cons_succ, show wcells (y :: ys.set i z) = .int .i64 y.a :: .int .i64 y.b :: wcells (ys.set i z) from rfl, ih i (by simpa using hi), show wcells (y :: ys) = .int .i64 y.a :: .int .i64 y.b :: wcells ys from rfl, show (i + 1) * 2 = i * 2 + 1 + 1 by omega]
      rfl
theorem heap_setCell_atW (w : World) (g i : Nat) (u : Value) (cur : Array Value) (e : TypeId) (fr : Nat × Nat) (h : w.heap[g]? = some (.cells cur e fr)) : (w.setCell ⟨g, i, none⟩ u).heap[g]? = some (.cells (cur.setIfInBounds i u) e fr) := by
  obtain ⟨hlt, hk⟩ := Array.getElem?_eq_some_iff.1 h
  show (w.heap.modify g _)[g]? = _
  rw [Array.getElem?_eq_getElem (by rw [Array.size_modify]; exact hlt), Array.getElem_modify_self, hk]
  rfl
/-- One cell of one's own row anew. -/
theorem own_cell {w : World} {base g n cap : Nat} {xs : List Value} {j : Nat} {u : Value} (h : w.ownsRow base 24 2 (.slice (some ⟨g, 0, none⟩) n cap) n xs) :
    (w.setCell ⟨g, j, none⟩ u).ownsRow base 24 2 (.slice (some ⟨g, 0, none⟩) n cap) n (xs.set j u) := by
  refine ⟨by rw [List.length_set]; exact h.1, ?_⟩
  rcases h.2 with ⟨h1, _⟩ | ⟨g', cap', cur, h1, h2, h3, h4, h5, h6, h7⟩
  · simp at h1
  simp only [Value.slice.injEq, Option.some.injEq, Addr.mk.injEq, and_true, true_and] at h1
  obtain ⟨rfl, rfl⟩ := h1
  exact .inr ⟨g, cap, cur.setIfInBounds j u, rfl, h2, heap_setCell_atW w g _ _ cur _ _ h3, h4, h5, by rw [Array.size_setIfInBounds]; exact h6, by rw [Array.toList_setIfInBounds, List.take_set, h7]⟩
theorem set_same {α : Type} (l : List α) (i : Nat) (x : α) (h : l[i]? = some x) : l.set i x = l := by
  apply List.ext_getElem?
  intro n
  rw [List.getElem?_set]
  by_cases e : i = n
  · subst e; rw [if_pos rfl, h]; simp [(List.getElem?_eq_some_iff.1 h).1]
  · rw [if_neg e]
theorem own_setA {w : World} {base g n cap i : Nat} {ys : List Wn} {y : Wn} {z : Int} (h : w.ownsRow base 24 2 (.slice (some ⟨g, 0, none⟩) n cap) n (wcells ys)) (hy : ys[i]? = some y) :
    (w.setCell ⟨g, i * 2, none⟩ (.int .i64 z)).ownsRow base 24 2 (.slice (some ⟨g, 0, none⟩) n cap) n (wcells (ys.set i ⟨z, y.b⟩)) := by
  have hc := (wcells_at ys i y hy).2
  rw [wcells_set _ _ _ (List.getElem?_eq_some_iff.1 hy).1]
  have := own_cell (j := i * 2) (u := .int .i64 z) h
  rw [show (((wcells ys).set (i * 2) (Value.int .i64 z)).set (i * 2 + 1) (.int .i64 y.b)) = (wcells ys).set (i * 2) (.int .i64 z) from set_same _ _ _ (by rw [List.getElem?_set_ne (by omega), hc])]
  exact this
theorem own_setB2 {w : World} {base g n cap i : Nat} {ys : List Wn} {y : Wn} {z : Int} (h : w.ownsRow base 24 2 (.slice (some ⟨g, 0, none⟩) n cap) n (wcells ys)) (hy : ys[i]? = some y) :
    (w.setCell ⟨g, i * 2 + 1, none⟩ (.int .i64 z)).ownsRow base 24 2 (.slice (some ⟨g, 0, none⟩) n cap) n (wcells (ys.set i ⟨y.a, z⟩)) := by
  have hc := (wcells_at ys i y hy).1
  rw [wcells_set _ _ _ (List.getElem?_eq_some_iff.1 hy).1, set_same (wcells ys) (i * 2) _ hc]
  exact own_cell (j := i * 2 + 1) (u := .int .i64 z) h
/-- The cells of one's own row. -/
theorem own_at {w : World} {base g n cap i : Nat} {ys : List Wn} {y : Wn} (h : w.ownsRow base 24 2 (.slice (some ⟨g, 0, none⟩) n cap) n (wcells ys)) (hy : ys[i]? = some y) :
    w.cell? ⟨g, i * 2, none⟩ = some (.int .i64 y.a) ∧ w.cell? ⟨g, i * 2 + 1, none⟩ = some (.int .i64 y.b) := by
  obtain ⟨a', c', e', hcl⟩ := RdW.own h
  obtain ⟨b, o, ha, c1, c2⟩ := hcl i y hy
  subst ha
  simp at e'
  obtain ⟨⟨rfl, rfl⟩, -⟩ := e'
  simp only [Nat.zero_add] at c1 c2
  exact ⟨c1, c2⟩
theorem own_frozen {w : World} {base g n cap : Nat} {xs : List Value} (h : w.ownsRow base 24 2 (.slice (some ⟨g, 0, none⟩) n cap) n xs) (j : Nat) : w.frozen? ⟨g, j, none⟩ = false := by
  rcases h.2 with ⟨h1, _⟩ | ⟨g', cap', cur, h1, h2, h3, _⟩
  · simp at h1
  · simp only [Value.slice.injEq, Option.some.injEq, Addr.mk.injEq, and_true, true_and] at h1
    obtain ⟨rfl, rfl⟩ := h1
    simp [World.frozen?, h3]
theorem own_block {w : World} {base g n cap : Nat} {xs : List Value} (h : w.ownsRow base 24 2 (.slice (some ⟨g, 0, none⟩) n cap) n xs) : base ≤ g ∧ g < w.heap.size ∧ n ≤ cap := by
  rcases h.2 with ⟨h1, _⟩ | ⟨g', cap', cur, h1, h2, h3, h4, _⟩
  · simp at h1
  · simp only [Value.slice.injEq, Option.some.injEq, Addr.mk.injEq, and_true, true_and] at h1
    obtain ⟨rfl, rfl⟩ := h1
    exact ⟨h2, (Array.getElem?_eq_some_iff.1 h3).1, h4⟩
theorem own_form {w : World} {base n cap : Nat} {a : Option Addr} {xs : List Value} (h : w.ownsRow base 24 2 (.slice a n cap) n xs) (hn : 0 < n) : ∃ g, a = some ⟨g, 0, none⟩ := by
  rcases h.2 with ⟨h1, h2⟩ | ⟨g', cap', cur, h1, _⟩
  · omega
  · simp only [Value.slice.injEq, true_and] at h1
    exact ⟨g', h1.1⟩
theorem own_later {w w' : World} {base n : Nat} {v : Value} {xs : List Value} (h : w.ownsRow base 24 2 v n xs) (hb : Below w.heap.size w w') : w'.ownsRow base 24 2 v n xs := by
  refine ⟨h.1, ?_⟩
  rcases h.2 with h2 | ⟨g, cap, cur, h1, h2, h3, h4⟩
  · exact .inl h2
  · exact .inr ⟨g, cap, cur, h1, h2, by rw [hb.block g (Array.getElem?_eq_some_iff.1 h3).1]; exact h3, h4⟩
theorem below_drewN {B : Nat} {w0 w : World} (h : Below B w0 w) (n : Nat) : Below B w0 (w.drewN n) := ⟨h.os, h.tape, h.output, h.size, h.block⟩
theorem own_set2 {w : World} {base g n cap i : Nat} {ys : List Wn} {y : Wn} {za zb : Int} (h : w.ownsRow base 24 2 (.slice (some ⟨g, 0, none⟩) n cap) n (wcells ys)) (hy : ys[i]? = some y) :
    ((w.setCell ⟨g, i * 2, none⟩ (.int .i64 za)).setCell ⟨g, i * 2 + 1, none⟩ (.int .i64 zb)).ownsRow base 24 2 (.slice (some ⟨g, 0, none⟩) n cap) n (wcells (ys.set i ⟨za, zb⟩)) := by
  have h1 := own_setA (z := za) h hy
  have h2 := own_setB2 (z := zb) h1 (i := i) (y := ⟨za, y.b⟩) (by rw [List.getElem?_set_self (List.getElem?_eq_some_iff.1 hy).1])
  rw [List.set_set] at h2
  exact h2
theorem cell_setCell_ne {w : World} {g i b j : Nat} {u v : Value} (h : w.cell? ⟨b, j, none⟩ = some v) (hne : b ≠ g) : (w.setCell ⟨g, i, none⟩ u).cell? ⟨b, j, none⟩ = some v := by
  have := Below.heap_setCell w ⟨g, i, none⟩ u b hne
  simp only [World.cell?] at h ⊢
  rw [this]; exact h
theorem wcells_app (l m : List Wn) : wcells (l ++ m) = wcells l ++ wcells m := by unfold wcells; rw [List.flatMap_append]
theorem wcells_take (l : List Wn) (n : Nat) (hn : n ≤ l.length) : wcells (l.take n) = (wcells l).take (n * 2) := by
  have h : wcells l = wcells (l.take n) ++ wcells (l.drop n) := by rw [← wcells_app, List.take_append_drop]
  rw [h, List.take_left' (by rw [wcells_length, List.length_take]; omega)]
theorem wcells_drop (l : List Wn) (n : Nat) (hn : n ≤ l.length) : wcells (l.drop n) = (wcells l).drop (n * 2) := by
  have h : wcells l = wcells (l.take n) ++ wcells (l.drop n) := by rw [← wcells_app, List.take_append_drop]
  rw [h, List.drop_left' (by rw [wcells_length, List.length_take]; omega)]
theorem own_cellsW {w : World} {base g n cap : Nat} {xs : List Value} (h : w.ownsRow base 24 2 (.slice (some ⟨g, 0, none⟩) n cap) n xs) : ∀ (j : Nat) u, xs[j]? = some u → w.cell? ⟨g, j, none⟩ = some u := by
  intro j u hj
  have hl := (List.getElem?_eq_some_iff.1 hj).1
  rcases h.2 with ⟨h1, _⟩ | ⟨g', cap', cur, h1, h2, h3, h4, h5, h6, h7⟩
  · simp at h1
  simp only [Value.slice.injEq, Option.some.injEq, Addr.mk.injEq, and_true, true_and] at h1
  obtain ⟨rfl, rfl⟩ := h1
  rw [← h7, List.getElem?_take_of_lt (by rw [← h.1]; exact hl), Array.getElem?_toList] at hj
  simp [World.cell?, h3, hj]
theorem wcells_one (l : List Wn) : ∀ u ∈ wcells l, u.oneCell' = true := by
  intro u hu
  obtain ⟨x, _, hx⟩ := List.mem_flatMap.1 hu
  simp at hx
  rcases hx with rfl | rfl <;> rfl
theorem slice_toW (b o len cap m : Nat) (hm : m ≤ cap) (W : World) :
    (Instr.slice 22 (.slice (some ⟨b, o, none⟩) len cap) none (some (.int .i64 (m : Int))) none).run Try.prog W = .ok (.slice (some ⟨b, o, none⟩) m cap) W := by
  rw [run_slice_h (P := Try.prog) W 22 (some ⟨b, o, none⟩) len cap (Try.underlying22.trans (by kernel_rfl)) .i64 _ (by omega) (by omega)]
  rw [Int.toNat_natCast]
  have hs : (sizeOf (Try.prog.elem 22)).run Try.prog W = .ok 2 W := by
    rw [show Try.prog.elem 22 = 24 by kernel_rfl]; exact Try.sizeOf24 W
  rw [hs]
  simp only [Result.andThen, sliced, Option.map]
  rw [show ∀ j, (Addr.mk b o none).add j = Addr.mk b (o + j) none from fun j => WideShapes.add_plain ..]
  simp
theorem sliceAt_toW (b o len cap m : Nat) (hm : m ≤ cap) (W : World) :
    (Instr.sliceAt 22 (.slice (some ⟨b, o, none⟩) len cap) none (some (.int .i64 (m : Int))) none).run Try.prog W = .ok (.slice (some ⟨b, o, none⟩) m cap) W := by
  rw [run_sliceAt_slice W 22 _ _ _ _ (Try.underlying22.trans (by kernel_rfl))]
  exact slice_toW b o len cap m hm W
theorem slice_fromW (b o len cap m : Nat) (z : Int) (hz : z = (m : Int)) (hm : m ≤ len) (hc : len ≤ cap) (o' : Nat) (eA : (if cap = m then some (Addr.mk b o none) else some (Addr.mk b (o + m * 2) none)) = some (Addr.mk b o' none)) (W : World) :
    (Instr.slice 22 (.slice (some ⟨b, o, none⟩) len cap) (some (.int .i64 z)) none none).run Try.prog W = .ok (.slice (some ⟨b, o', none⟩) (len - m) (cap - m)) W := by
  subst hz
  rw [run_slice_l (P := Try.prog) W 22 (some ⟨b, o, none⟩) len cap (Try.underlying22.trans (by kernel_rfl)) .i64 _ (by omega) (by omega)]
  rw [Int.toNat_natCast]
  have hs : (sizeOf (Try.prog.elem 22)).run Try.prog W = .ok 2 W := by
    rw [show Try.prog.elem 22 = 24 by kernel_rfl]; exact Try.sizeOf24 W
  rw [hs]
  simp only [Result.andThen, sliced, Option.map]
  rw [show ∀ j, (Addr.mk b o none).add j = Addr.mk b (o + j) none from fun j => WideShapes.add_plain ..]
  rw [← eA]
theorem sliceAt_fromW (b o len cap m : Nat) (z : Int) (hz : z = (m : Int)) (hm : m ≤ len) (hc : len ≤ cap) (o' : Nat) (eA : (if cap = m then some (Addr.mk b o none) else some (Addr.mk b (o + m * 2) none)) = some (Addr.mk b o' none)) (W : World) :
    (Instr.sliceAt 22 (.slice (some ⟨b, o, none⟩) len cap) (some (.int .i64 z)) none none).run Try.prog W = .ok (.slice (some ⟨b, o', none⟩) (len - m) (cap - m)) W := by
  rw [run_sliceAt_slice W 22 _ _ _ _ (Try.underlying22.trans (by kernel_rfl))]
  exact slice_fromW b o len cap m z hz hm hc o' eA W
end Go.Proofs.Ytkedbmpnhplmaaa
