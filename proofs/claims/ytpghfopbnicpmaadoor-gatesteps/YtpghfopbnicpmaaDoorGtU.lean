import Derived.Test.YtpghfopbnicpmaaDoorGtT
namespace Go.Proofs.YtpghfopbnicpmaaDoor
open Go.RowKit
set_option linter.unusedVariables false
set_option linter.unusedSimpArgs false
set_option maxRecDepth 100000
set_option maxHeartbeats 2000000

/-- Nothing else is changed than three blocks. -/
structure Ch3 (w w' : World) (g p q : Nat) : Prop where
  os : w'.os = w.os
  tape : w'.tape = w.tape
  output : w'.output = w.output
  size : w.heap.size ≤ w'.heap.size
  block : ∀ i, i < w.heap.size → i ≠ g → i ≠ p → i ≠ q → w'.heap[i]? = w.heap[i]?
theorem Ch3.refl (w : World) (g p q : Nat) : Ch3 w w g p q := ⟨rfl, rfl, rfl, Nat.le_refl _, fun _ _ _ _ _ => rfl⟩
theorem Ch3.trans {w w' w'' : World} {g p q : Nat} (h : Ch3 w w' g p q) (k : Ch3 w' w'' g p q) : Ch3 w w'' g p q :=
  ⟨k.os.trans h.os, k.tape.trans h.tape, k.output.trans h.output, Nat.le_trans h.size k.size, fun i hi h1 h2 h3 => (k.block i (Nat.lt_of_lt_of_le hi h.size) h1 h2 h3).trans (h.block i hi h1 h2 h3)⟩
theorem Ch3.drew {w w' : World} {g p q : Nat} (h : Ch3 w w' g p q) : Ch3 w w'.drew g p q := ⟨h.os, h.tape, h.output, h.size, h.block⟩
theorem Ch3.of_below {w w' : World} {g p q : Nat} (h : Below w.heap.size w w') : Ch3 w w' g p q := ⟨h.os, h.tape, h.output, h.size, fun i hi _ _ _ => h.block i hi⟩
theorem Ch3.grown {w w' : World} {g p q : Nat} {r : Nat} (h : w.grownBy w' (some r)) (hr : r = g ∨ r = p ∨ r = q) : Ch3 w w' g p q :=
  ⟨h.os, h.tape, h.output, h.size, fun i hi h1 h2 h3 => h.block i hi (fun e => by have := Option.some.inj e; omega)⟩
theorem GR.drew {w : World} {g p q cp cq : Nat} {tm mk : Int} {es : List En} (h : GR w g p q cp cq tm mk es) : GR w.drew g p q cp cq tm mk es := ⟨h.own, h.times, h.marks, h.n1, h.n2, h.n3⟩
theorem timesL_set (es : List En) (i : Nat) (e : En) : timesL (es.set i e) = (timesL es).set i (.int .i64 e.t) := by unfold timesL; rw [List.map_set]
theorem marksL_set (mk : Int) (es : List En) (i : Nat) (e : En) : marksL mk (es.set i e) = (marksL mk es).set i (.int .i64 (if e.b then mk else 0)) := by unfold marksL; rw [List.map_set]
theorem marksL_same (mk : Int) (es : List En) (i : Nat) (hi : i < es.length) (t : Int) : marksL mk (es.set i ⟨t, es[i].b⟩) = marksL mk es := by
  rw [marksL_set]; exact set_same _ _ _ (by unfold marksL; simp [hi])
theorem GR.putTime {w : World} {g p q cp cq : Nat} {tm mk : Int} {es : List En} (h : GR w g p q cp cq tm mk es) (i : Nat) (hi : i < es.length) (t : Int) : GR (w.setCell ⟨p, i, none⟩ (.int .i64 t)) g p q cp cq tm mk (es.set i ⟨t, es[i].b⟩) ∧ Ch3 w (w.setCell ⟨p, i, none⟩ (.int .i64 t)) g p q := by
  obtain ⟨h1, h2⟩ := h.times.put i (.int .i64 t)
  refine ⟨⟨?_, ?_, ?_, h.n1, h.n2, h.n3⟩, .grown h2 (.inr (.inl rfl))⟩
  · rw [List.length_set]; exact h.own.grown h2 (fun e => h.n1 (Option.some.inj e).symm)
  · rw [List.length_set, timesL_set]; exact h1
  · rw [List.length_set, marksL_same mk es i hi]; exact h.marks.grown h2 (fun e => h.n3 e.symm)
theorem GR.putTold {w : World} {g p q cp cq : Nat} {tm mk : Int} {es : List En} (h : GR w g p q cp cq tm mk es) (t : Int) : GR (w.setCell ⟨g, 2, none⟩ (.int .i64 t)) g p q cp cq t mk es ∧ Ch3 w (w.setCell ⟨g, 2, none⟩ (.int .i64 t)) g p q := by
  obtain ⟨h1, h2⟩ := h.own.put 2 (.int .i64 t)
  exact ⟨⟨h1, h.times.grown h2 h.n1, h.marks.grown h2 h.n2, h.n1, h.n2, h.n3⟩, .grown h2 (.inl rfl)⟩
def NothingD (n : Int) (e : Ending) : Prop := e = .returned (.tuple #[.slice none 0 0, .int .i64 n])
def GoesD (w w' : World) (k rt : Int) (rv : Value) (t m : Int) (e : Ending) : Prop := ∃ p, w.heap.size ≤ p ∧ e = .returned (.tuple #[.slice (some ⟨p, 0, none⟩) 1 1, .int .i64 0]) ∧ OneE w' p k rt rv t m
theorem takeD_shut (w : World) (g p q cp cq : Nat) (tm mk : Int) (es : List En) (h : GR w g p q cp cq tm mk es) (hw : Waits mk es) (k : Int) (hs : openB es k = false) (ek rt : Int) (av : Option Addr) (n cv : Nat) (t m : Int) :
    Calls Tryd.prog 11 #[.pointer (some ⟨g, 0, none⟩), .int .i64 k, .agg #[.int .i64 ek, .int .i64 rt, .slice av n cv, .int .i64 t, .int .i64 m]] w fun e w' => NothingD 6 e ∧ Below w.heap.size w w' := by
  have H := hidMk h
  have HS := hidMk hs
  clear h hs
  go_enter Tryd.func11, Tryd.ntmps11
  go_wp2_with fail
  refine (openD_any _ g p q cp cq tm mk es (H.out.later (bel1 _ _)) hw k).mono ?_
  rintro e w1 ⟨rfl, rfl⟩
  rw [HS.out]
  go_wp2_with fail
  go_ret2
  exact ⟨rfl, bel1 _ _⟩
/-- The least, as the document has it. -/
theorem leastF_attained (m : Int) (l : List En) : leastF m l = m ∨ ∃ e ∈ l, leastF m l = e.t := by
  induction l generalizing m with
  | nil => exact .inl rfl
  | cons a l ih =>
    rw [leastF]
    rcases ih (min m a.t) with h | ⟨e, he, h⟩
    · rcases Int.le_total m a.t with h1 | h1
      · left; rw [h, Int.min_eq_left h1]
      · right; exact ⟨a, by simp, by rw [h, Int.min_eq_right h1]⟩
    · exact .inr ⟨e, List.mem_cons_of_mem _ he, h⟩
theorem leastF_low (m : Int) (l : List En) : leastF m l ≤ m ∧ ∀ e ∈ l, leastF m l ≤ e.t := by
  induction l generalizing m with
  | nil => exact ⟨Int.le_refl _, fun e he => by cases he⟩
  | cons a l ih =>
    obtain ⟨h1, h2⟩ := ih (min m a.t)
    rw [leastF]
    refine ⟨by omega, fun e he => ?_⟩
    rcases List.mem_cons.1 he with rfl | he
    · omega
    · exact h2 e he
/-- From whichever of them it begins. -/
theorem leastF_any (l : List En) (a b : Int) (ha : ∃ e ∈ l, a = e.t) (hb : ∃ e ∈ l, b = e.t) : leastF a l = leastF b l := by
  have key : ∀ a b : Int, (∃ e ∈ l, a = e.t) → (∃ e ∈ l, b = e.t) → leastF a l ≤ leastF b l := by
    intro a b ⟨e, he, ea⟩ ⟨e', he', eb⟩
    rcases leastF_attained b l with h | ⟨x, hx, h⟩
    · rw [h, eb]; exact (leastF_low a l).2 e' he'
    · rw [h]; exact (leastF_low a l).2 x hx
  have h1 := key a b ha hb
  have h2 := key b a hb ha
  omega
theorem leastE_of (es : List En) (i : Nat) (hi : i < es.length) : leastE es = leastF es[i].t es := by
  unfold leastE
  have h0 : 0 < es.length := by omega
  exact leastF_any es _ _ ⟨es[0], List.getElem_mem h0, by simp [List.getD, h0]⟩ ⟨es[i], List.getElem_mem hi, rfl⟩
def TimeD (w : World) (g p q cp cq : Nat) (tm mk : Int) (es es' : List En) (x : En) (t : Int) (e : Ending) (w' : World) : Prop :=
  Ch3 w w' g p q ∧ ((¬ (x.t < t ∧ t ≤ 1099511627777) ∧ NothingD 4 e ∧ GR w' g p q cp cq tm mk es) ∨
    (x.t < t ∧ t ≤ 1099511627777 ∧ ((leastE es' ≤ tm ∧ NothingD 0 e ∧ GR w' g p q cp cq tm mk es') ∨
      (tm < leastE es' ∧ GoesD w w' 2 0 (.slice none 0 0) (leastE es') 0 e ∧ GR w' g p q cp cq (leastE es') mk es'))))
theorem takeD_time (w : World) (g p q cp cq : Nat) (tm mk : Int) (es : List En) (h : GR w g p q cp cq tm mk es) (hw : Waits mk es) (hl : es.length ≤ 64) (i : Nat) (hi : i < es.length) (hs : openB es (i : Int) = true) (rt : Int) (av : Option Addr) (n cv : Nat) (t m : Int) :
    Calls Tryd.prog 11 #[.pointer (some ⟨g, 0, none⟩), .int .i64 i, .agg #[.int .i64 2, .int .i64 rt, .slice av n cv, .int .i64 t, .int .i64 m]] w (TimeD w g p q cp cq tm mk es (es.set i ⟨t, es[i].b⟩) es[i] t) := by
  have HOP := hidMk (fun w' (h' : GR w' g p q cp cq tm mk es) => openD_any w' g p q cp cq tm mk es h' hw (i : Int))
  have HS := hidMk hs
  have hi' : (i : Int) < (es.length : Int) := by omega
  obtain ⟨w1, hw1⟩ : ∃ w1, w1 = w.alloc (.cells #[.int .i64 2, .int .i64 rt, .slice av n cv, .int .i64 t, .int .i64 m] 36) := ⟨_, rfl⟩
  have HB1 : Hid (Below w.heap.size w w1) := by unfold Hid; rw [hw1]; exact bel1 _ _
  have h1 : GR w1 g p q cp cq tm mk es := h.later HB1.out
  have H1 := hidMk h1
  obtain ⟨c0, c1, c2⟩ := h1.cells
  have e0 := h1.timeAt i hi
  have sp := h1.times.soft i
  have HP := h1.putTime i hi t
  have hlen : (es.set i ⟨t, es[i].b⟩).length = es.length := List.length_set
  have HLE : Hid (leastE (es.set i ⟨t, es[i].b⟩) = leastF t (es.set i ⟨t, es[i].b⟩)) := by
    have := leastE_of (es.set i ⟨t, es[i].b⟩) i (by rw [hlen]; exact hi)
    rw [List.getElem_set_self] at this
    exact this
  generalize es.set i ⟨t, es[i].b⟩ = es' at *
  obtain ⟨P1, P2⟩ := HP
  have HP1 := hidMk P1
  have HP2 := hidMk P2
  have HL := hidMk hlen
  generalize es[i] = x at *
  have hgl := h.own.lt
  have d2 : w1.cell? ⟨w.heap.size, 0, none⟩ = some (.int .i64 2) := by rw [hw1]; go_simp
  have d3 : w1.cell? ⟨w.heap.size, 3, none⟩ = some (.int .i64 t) := by rw [hw1]; go_simp
  have hpl := h.times.lt
  have d5 : (w1.setCell ⟨p, i, none⟩ (.int .i64 t)).cell? ⟨w.heap.size, 3, none⟩ = some (.int .i64 t) := (grown_set w1 ⟨p, i, none⟩ (.int .i64 t)).cell d3 (fun e => by have := Option.some.inj e; simp at this; omega)
  clear h h1 P1 P2 hlen hs hw
  go_enter Tryd.func11, Tryd.ntmps11
  go_upto_region 1 with fail
  rw [← hw1]
  clear hw1
  go_wp2_with fail
  refine (HOP.out _ H1.out).mono ?_
  rintro e w2 ⟨rfl, rfl⟩
  rw [HS.out]
  by_cases ht1 : t ≤ x.t
  · go_wp2_with fail
    go_region
    go_wp2_with fail
    go_ret2
    exact ⟨Ch3.of_below HB1.out.drew, .inl ⟨by omega, rfl, H1.out.drew⟩⟩
  have ht1d : decide (t ≤ x.t) = false := by simpa using ht1
  by_cases ht2 : t > 1099511627777
  · go_wp2_with fail
    go_region
    go_wp2_with fail
    go_ret2
    exact ⟨Ch3.of_below HB1.out.drew, .inl ⟨by omega, rfl, H1.out.drew⟩⟩
  have ht2d : decide (1099511627777 < t) = false := by simpa using ht2
  go_wp2_with fail
  go_region
  go_wp2_with fail
  go_region
  go_wp2_with fail
  have HG5 : Hid (GR (w2.setCell ⟨p, i, none⟩ (.int .i64 t)).drew.drew g p q cp cq tm mk es') := HP1.out.drew.drew
  have HC5 : Hid (Ch3 w (w2.setCell ⟨p, i, none⟩ (.int .i64 t)).drew.drew g p q) := ((Ch3.of_below HB1.out).trans HP2.out).drew.drew
  generalize (w2.setCell ⟨p, i, none⟩ (.int .i64 t)).drew.drew = w5 at *
  clear c0 c1 c2 sp e0 d2 d3 d5 HP1 HP2 H1 HB1
  obtain ⟨c0, c1, c2⟩ := HG5.out.cells
  rw [HL.out] at c0 c1
  go_loopg [10, 11] es.length (fun gk l j wr => ∃ k : Nat, gk + k = es.length ∧ j = .int .i64 k ∧ l = .int .i64 (leastF t (es'.take k)) ∧ wr = w5)
  case atStart => exact ⟨0, by omega, rfl, rfl, rfl⟩
  case round =>
    obtain ⟨k, hgk, rfl, rfl, hwr⟩ := hrel
    subst hwr
    by_cases hk : k < es.length
    · have hk' : (k : Int) < (es.length : Int) := by omega
      have hk2 : k < es'.length := by rw [HL.out]; exact hk
      have f0 := HG5.out.timeAt k hk2
      have HT : Hid (leastF t (es'.take (k + 1)) = min (leastF t (es'.take k)) es'[k].t) := by rw [Hid, List.take_succ_eq_append_getElem hk2, leastF_snoc]
      generalize leastF t (es'.take k) = l at *
      generalize es'[k] = y at *
      by_cases hlt : y.t < l
      · go_wp2_with fail
        go_roundg (gk - 1)
        case measure => omega
        case rel => exact ⟨k + 1, by omega, by go_num, by rw [HT.out, Int.min_eq_right (by omega)], rfl⟩
      · go_wp2_with fail
        go_roundg (gk - 1)
        case measure => omega
        case rel => exact ⟨k + 1, by omega, by go_num, by rw [HT.out, Int.min_eq_left (by omega)], rfl⟩
    · have hk' : ¬ (k : Int) < (es.length : Int) := by omega
      have HF : Hid (leastF t (es'.take k) = leastE es') := by rw [Hid, HLE.out, List.take_of_length_le (by rw [HL.out]; omega)]
      rw [HF.out]
      obtain ⟨l, HLL⟩ : ∃ l, Hid (leastE es' = l) := ⟨_, rfl⟩
      rw [HLL.out]
      have s2 := HG5.out.own.soft 2
      by_cases hle : l ≤ tm
      · go_wp2_with fail
        go_ret2
        exact ⟨HC5.out, .inr ⟨ht1, ht2, .inl ⟨by rw [HLL.out]; exact hle, rfl, HG5.out⟩⟩⟩
      · have HG6 := hidMk (HG5.out.putTold l).1
        have HC6 : Hid (Ch3 w (wr.setCell ⟨g, 2, none⟩ (.int .i64 l)) g p q) := HC5.out.trans (HG5.out.putTold l).2
        go_wp2_with fail
        go_ret2
        exact ⟨HC6.out.trans (.of_below (bel1 _ _)), .inr ⟨ht1, ht2, .inr ⟨by rw [HLL.out]; omega, by rw [HLL.out]; exact ⟨(wr.setCell ⟨g, 2, none⟩ (.int .i64 l)).heap.size, HC6.out.size, by simp, by unfold OneE; go_simp⟩, by rw [HLL.out]; exact HG6.out.later (bel1 _ _)⟩⟩⟩
end Go.Proofs.YtpghfopbnicpmaaDoor
