import Derived.Test.YtmeeoamcelkhmaaGreatDoorSrtL
import Derived.Deep.AppendLies
import Derived.Lib.SliceRun
namespace Go.Proofs.YtmeeoamcelkhmaaGreatDoor
open Go.RowKit
set_option linter.unusedVariables false
set_option maxRecDepth 100000

theorem OV.base {w : World} {B B' : Nat} {x : Value} {vs : List V} (h : OV w B x vs) (hb : B' ≤ B) : OV w B' x vs := by
  refine ⟨h.1, ?_⟩
  rcases h.2 with h2 | ⟨g, cap, cur, h1, h2, h3⟩
  · exact .inl h2
  · exact .inr ⟨g, cap, cur, h1, Nat.le_trans hb h2, h3⟩
theorem one_cellsV (v : V) : ∀ u ∈ cellsV v, u.oneCell' = true := by intro u hu; simp [cellsV] at hu; rcases hu with rfl | rfl | rfl <;> rfl
theorem len_cellsV (vs : List V) : (vs.flatMap cellsV).length = vs.length * 3 := by
  induction vs with
  | nil => rfl
  | cons a l ih => rw [List.flatMap_cons, List.length_append, ih, List.length_cons]; simp [cellsV]; omega
theorem VLies.cells {w : World} {b off : Nat} {vs : List V} (h : VLies w (some ⟨b, off, none⟩) vs) : ∀ j u, (vs.flatMap cellsV)[j]? = some u → w.cell? ⟨b, off + j, none⟩ = some u := by
  intro j u hj
  have hlt : j < vs.length * 3 := by
    have := (List.getElem?_eq_some_iff.1 hj).1
    rwa [len_cellsV] at this
  have hi : j / 3 < vs.length := by omega
  have e : j = j / 3 * 3 + j % 3 := by omega
  have hf := flat_at cellsV 3 (fun _ => rfl) vs (j / 3) (j % 3) hi (by omega)
  rw [← e, hj] at hf
  obtain ⟨b', off', e1, h1, h2, h3⟩ := h (j / 3) hi
  cases e1
  have hm : j % 3 = 0 ∨ j % 3 = 1 ∨ j % 3 = 2 := by omega
  rw [show off + j = off + j / 3 * 3 + j % 3 by omega]
  rcases hm with hm | hm | hm
  · rw [hm] at hf ⊢
    rw [hf]; exact h1
  · rw [hm] at hf ⊢
    rw [hf]; exact h2
  · rw [hm] at hf ⊢
    rw [hf]; exact h3

set_option maxHeartbeats 1000000 in
/-- slices.Clone of values. -/
theorem clone_any (a : Option Addr) (vs : List V) (c : Nat) (w : World) (h : VLies w a vs) (hl : vs.length ≤ 4398046511104) :
    Calls Tryz.prog 27 #[.slice a vs.length c] w fun e w' => ∃ a' c', e = .returned (.slice a' vs.length c') ∧ OV w' w.heap.size (.slice a' vs.length c') vs ∧ Below w.heap.size w w' := by
  obtain ⟨i0, hi0, hz0, hz1, hz2⟩ := info_parts info26
  have q22 : ∀ (w : World) (a : Option Addr) (n c n' c' : Nat), (binOp .eql 32 (.slice a n c) (.slice none n' c')).run Tryz.prog w = .ok (.bool a.isNone) w := fun w a n c n' c' => Lib.run_eql_slice_nil w _ _ a n c n' c' Tryz.underlying32
  cases a with
  | none =>
    have h0 : vs = [] := by
      cases vs with
      | nil => rfl
      | cons v l => obtain ⟨_, _, e, _⟩ := h 0 (by simp); cases e
    subst h0
    go_enter Tryz.func27, Tryz.ntmps27
    go_wp2
    go_ret
    exact ⟨none, 0, rfl, World.ownsRow_nil _ _ _ _, Below.refl _ _⟩
  | some ad =>
    have HV : Hid (VLies w (some ad) vs) := h
    clear h
    go_enter Tryz.func27, Tryz.ntmps27
    go_wp2_with (at_builtin; refine wpList_append_own_at _ rfl _ _ 32 rfl w.heap.size 43 i0 (.agg #[.int .i64 0, .int .i64 0, .string ⟨#[]⟩]) 3 32 Tryz.underlying32 hi0 hz0 hz1 hz2 rfl (by decide) _ 0 [] rfl (World.ownsRow_made w #[] 0 (Nat.le_refl _) (Nat.zero_le _) (by simp)) ad vs.length c (vs.flatMap cellsV) rfl ?qc1 ?qc2 ?qc3 ?qc4 ?qc5 ?qc6 ?_)
    case qc1 => exact len_cellsV vs
    case qc2 =>
      intro j u hj
      have hlt := (List.getElem?_eq_some_iff.1 hj).1
      rw [len_cellsV] at hlt
      obtain ⟨b, off, e, -⟩ := HV.out 0 (by omega)
      cases e
      rw [WideShapes.add_plain]
      exact Lib.cell?_alloc_some _ (HV.out.cells j u hj)
    case qc3 => intro u hu; obtain ⟨v, _, hu⟩ := List.mem_flatMap.1 hu; exact one_cellsV v u hu
    case qc4 => unfold maxLen; omega
    case qc5 => omega
    case qc6 => simp
    intro v' w1 hown hgrow hnil hat
    have hB : Below w.heap.size w w1 := ((Below.refl _ w).alloc (Nat.le_refl _) _).grown hgrow (by simp) (by intro k hk; simp [Value.ownBlock] at hk; omega)
    have hO : OV w1 w.heap.size v' vs := by
      unfold OV
      simpa using hown
    obtain ⟨a', c', rfl, -, -⟩ := hO.form
    have HO : Hid (OV w1 w.heap.size (.slice a' vs.length c') vs) := hO
    clear hown hgrow hnil hat hO
    go_wp2
    go_ret
    exact ⟨a', c', rfl, HO.out, hB⟩
set_option maxHeartbeats 4000000 in
/-- The document's Copy. -/
theorem copy_any (t : Int) (a : Option Addr) (vs : List V) (c : Nat) (w : World) (h : VLies w a vs) (hl : vs.length ≤ 4398046511104) :
    Calls Tryz.prog 6 #[.agg #[.int .i64 t, .slice a vs.length c]] w fun e w' => ∃ a' c', e = .returned (.agg #[.int .i64 t, .slice a' vs.length c']) ∧ OV w' w.heap.size (.slice a' vs.length c') vs ∧ Below w.heap.size w w' := by
  obtain ⟨i0, hi0, hz0, hz1, hz2⟩ := info_parts info26
  have HV : Hid (VLies w a vs) := h
  clear h
  go_enter Tryz.func6, Tryz.ntmps6
  go_wp2
  go_loopw [4] (fun i w' => ∃ (k : Nat) (x : Value), k ≤ vs.length ∧ i = .int .i64 k ∧ Own w' w.heap.size 34 2 [.int .i64 t, .slice a vs.length c] ∧ Own w' (w.heap.size + 1) 34 2 [.int .i64 0, .slice none 0 0] ∧ Own w' (w.heap.size + 1 + 1) 34 2 [.int .i64 t, x] ∧ OV w' (w.heap.size + 1 + 1 + 1) x (vs.take k) ∧ Below w.heap.size w w') (fun i _ => vs.length - (intOf i).toNat)
  case atStart =>
    have h1 := Own.new w 34 2 #[.int .i64 t, .slice a vs.length c] rfl
    have h2 := Own.new (w.alloc (.cells #[.int .i64 t, .slice a vs.length c] 34)) 34 2 #[.int .i64 0, .slice none 0 0] rfl
    have h3 := Own.new ((w.alloc (.cells #[.int .i64 t, .slice a vs.length c] 34)).alloc (.cells #[.int .i64 0, .slice none 0 0] 34)) 34 2 #[.int .i64 t, .slice none 0 0] rfl
    refine ⟨0, .slice none 0 0, Nat.zero_le _, rfl, (h1.later (bel1 _ _)).later (bel1 _ _), ?_, ?_, World.ownsRow_nil _ _ _ _, bel3 _ _ _ _⟩
    · simpa using h2.later (bel1 _ _)
    · simpa using h3
  case round =>
    obtain ⟨k, x, hk, rfl, hO1, hO2, hO3, hOV, hb⟩ := hrel
    have hcl : (vs.take k).length = k := by rw [List.length_take]; omega
    obtain ⟨ax, cx, rfl, hVL, hax⟩ := hOV.form
    rw [hcl] at hO3 hOV
    have HO1 : Hid (Own wr w.heap.size 34 2 [.int .i64 t, .slice a vs.length c]) := hO1
    have HO2 : Hid (Own wr (w.heap.size + 1) 34 2 [.int .i64 0, .slice none 0 0]) := hO2
    have HO3 : Hid (Own wr (w.heap.size + 1 + 1) 34 2 [.int .i64 t, .slice ax k cx]) := hO3
    have HOV : Hid (OV wr (w.heap.size + 1 + 1 + 1) (.slice ax k cx) (vs.take k)) := hOV
    have HB : Hid (Below w.heap.size w wr) := hb
    have c1 : wr.cell? ⟨w.heap.size, 1, none⟩ = some (.slice a vs.length c) := by rw [hO1.cell 1 (by decide)]; rfl
    have c3 : wr.cell? ⟨w.heap.size + 1 + 1, 1, none⟩ = some (.slice ax k cx) := by rw [hO3.cell 1 (by decide)]; rfl
    have s3 : wr.frozen? ⟨w.heap.size + 1 + 1, 1, none⟩ = false := hO3.soft 1
    have hs := hO3.lt
    by_cases hlt : k < vs.length
    · have hki : (k : Int) < (vs.length : Int) := by omega
      obtain ⟨b, o, rfl, e1, e2, e3⟩ := HV.out.later HB.out k hlt
      have hob := World.block_lt_of_cell? wr _ e1
      have hbw : b < w.heap.size := by
        obtain ⟨b', o', e', e1', -⟩ := HV.out k hlt
        cases e'
        exact World.block_lt_of_cell? w _ e1'
      have hne : ∀ m, (Value.slice ax k cx).ownBlock = some m → w.heap.size + 1 + 1 + 1 ≤ m := fun m hm => (World.ownsRow.lt hOV m hm).1
      have hOV' : wr.ownsRow (w.heap.size + 1 + 1 + 1) 43 3 (.slice ax k cx) k ((vs.take k).flatMap cellsV) := by
        have := hOV
        unfold OV at this
        rw [hcl] at this
        exact this
      have HOV' : Hid (wr.ownsRow (w.heap.size + 1 + 1 + 1) 43 3 (.slice ax k cx) k ((vs.take k).flatMap cellsV)) := hOV'
      have HNE : Hid (∀ m, (Value.slice ax k cx).ownBlock = some m → w.heap.size + 1 + 1 + 1 ≤ m) := hne
      clear hO1 hO2 hO3 hOV hb hVL hax hOV' hne
      have HT : Hid ((vs.take k).flatMap cellsV ++ cellsV vs[k] = (vs.take (k + 1)).flatMap cellsV) := by
        rw [Hid, List.take_succ_eq_append_getElem hlt, List.flatMap_append]; simp
      generalize hv : vs[k] = v at *
      go_wp2_with fail
      go_region_law
        ((refine step_append_lies _ (by rfl) _ _ _ (by rfl) (w.heap.size + 1 + 1 + 1) 43 i0 _ 3 32 Tryz.underlying32 hi0 hz0 hz1 hz2 rfl (by omega) (.slice ax k cx) k ((vs.take k).flatMap cellsV) (by rfl) ((HOV'.out.alloc _).drew)
            ⟨wr.heap.size, 0, none⟩ 1 1 (cellsV v) (by rfl) (by rfl) (World.news_of_block (cs := #[.int .i64 v.k, .int .i64 v.n, .string v.s]) (t := 43) (fr := (0, 0)) (heap_alloc_new wr _)) (one_cellsV v)
            (by omega) (by unfold maxLen; omega) (by omega) (by simp; omega) (wr.heap.size + 1) (by simp) ?_; intro gg cap w1 hown1 hgrow hat hlt1
          have s3' : w1.frozen? ⟨w.heap.size + 1 + 1, 1, none⟩ = false := (hgrow.frozen_far ⟨w.heap.size + 1 + 1, 1, none⟩ (by simp; omega) (fun e => by have h : _ ≤ w.heap.size + 1 + 1 := HNE.out _ e.symm; omega)).trans (((HO3.out.later (bel1 _ _)).later ((Below.refl _ _).drew)).soft 1)
          have c3' : w1.cell? ⟨w.heap.size + 1 + 1, 1, none⟩ = some (.slice ax k cx) := (hgrow.cell_far ⟨w.heap.size + 1 + 1, 1, none⟩ (by simp; omega) (fun e => by have h : _ ≤ w.heap.size + 1 + 1 := HNE.out _ e.symm; omega)).trans (((HO3.out.later (bel1 _ _)).later ((Below.refl _ _).drew)).cell 1 (by decide))))
      all_goals
        have hb2 : Below wr.heap.size wr (wr.alloc (.cells #[.int .i64 v.k, .int .i64 v.n, .string v.s] 43)).drew := (bel1 _ _).drew
        have hg1 : wr.grownBy w1 (Value.slice ax k cx).ownBlock := grown_trans (grown_below hb2) hgrow
        have hO3 := HO3.out.grown hg1 (fun e => by have := HNE.out _ e.symm; omega)
        have hO2 := HO2.out.grown hg1 (fun e => by have := HNE.out _ e.symm; omega)
        have hO1 := HO1.out.grown hg1 (fun e => by have := HNE.out _ e.symm; omega)
        obtain ⟨hO3', hg3⟩ := hO3.put 1 (.slice (some ⟨gg, 0, none⟩) (k + 1) cap)
        have hOV1 : OV w1 (w.heap.size + 1 + 1 + 1) (.slice (some ⟨gg, 0, none⟩) (k + 1) cap) (vs.take (k + 1)) := by
          unfold OV
          rw [← HT.out, List.length_take, Nat.min_eq_left (by omega)]
          exact hown1
        have hB1 : Below w.heap.size w w1 := HB.out.grown hg1 HB.out.size (fun m hm => by have := HNE.out m hm; omega)
        have HW : Hid (∃ (k' : Nat) (x : Value), k' ≤ vs.length ∧ Value.int .i64 ((k : Int) + 1) = .int .i64 k' ∧ Own (w1.setCell ⟨w.heap.size + 1 + 1, 1, none⟩ (.slice (some ⟨gg, 0, none⟩) (k + 1) cap)) w.heap.size 34 2 [.int .i64 t, .slice (some ⟨b, o, none⟩) vs.length c] ∧ Own (w1.setCell ⟨w.heap.size + 1 + 1, 1, none⟩ (.slice (some ⟨gg, 0, none⟩) (k + 1) cap)) (w.heap.size + 1) 34 2 [.int .i64 0, .slice none 0 0] ∧ Own (w1.setCell ⟨w.heap.size + 1 + 1, 1, none⟩ (.slice (some ⟨gg, 0, none⟩) (k + 1) cap)) (w.heap.size + 1 + 1) 34 2 [.int .i64 t, x] ∧ OV (w1.setCell ⟨w.heap.size + 1 + 1, 1, none⟩ (.slice (some ⟨gg, 0, none⟩) (k + 1) cap)) (w.heap.size + 1 + 1 + 1) x (vs.take k') ∧ Below w.heap.size w (w1.setCell ⟨w.heap.size + 1 + 1, 1, none⟩ (.slice (some ⟨gg, 0, none⟩) (k + 1) cap))) :=
          ⟨k + 1, .slice (some ⟨gg, 0, none⟩) (k + 1) cap, by omega, by simp, hO1.grown hg3 (by simp; omega), hO2.grown hg3 (by simp), hO3', hOV1.grown hg3 (fun m hm => by cases hm; omega), hB1.grown hg3 hB1.size (fun m hm => by cases hm; omega)⟩
        clear hb2 hg1 hO3 hO2 hO1 hO3' hg3 hOV1 hB1 hown1 hgrow hat hlt1 s3' c3'
        go_wp2
        go_roundw
        case rel => exact HW.out
        case measure => simp [intOf]; omega
    · obtain rfl : k = vs.length := by omega
      have c30 : wr.cell? ⟨w.heap.size + 1 + 1, 0, none⟩ = some (.int .i64 t) := by rw [HO3.out.cell 0 (by decide)]; rfl
      have c20 : wr.cell? ⟨w.heap.size + 1, 0, none⟩ = some (.int .i64 0) := by rw [HO2.out.cell 0 (by decide)]; rfl
      have c21 : wr.cell? ⟨w.heap.size + 1, 1, none⟩ = some (.slice none 0 0) := by rw [HO2.out.cell 1 (by decide)]; rfl
      have s20 : wr.frozen? ⟨w.heap.size + 1, 0, none⟩ = false := HO2.out.soft 0
      have s21 : wr.frozen? ⟨w.heap.size + 1, 1, none⟩ = false := HO2.out.soft 1
      have HE : Hid (OV wr (w.heap.size + 1 + 1 + 1) (.slice ax vs.length cx) vs) := by
        have := hOV
        rw [List.take_of_length_le (Nat.le_refl _)] at this
        exact this
      clear hO1 hO2 hO3 hOV hb hVL hax
      go_wp2
      refine bodyPost_ret (v := .agg #[.int .i64 t, .slice ax vs.length cx]) (by simp [results, Tryz.results6, go_sem, c20, c21]) rfl ⟨ax, cx, rfl, ?_, ?_⟩
      · refine OV.base (B := w.heap.size + 1 + 1 + 1) ?_ (by omega)
        repeat (first | exact HE.out | refine OV.grown ?_ (grown_set _ _ _) (fun k hk => by cases hk; simp))
      · repeat (first | exact HB.out | refine Below.grown ?_ (grown_set _ _ _) (by have := HB.out.size; simp; omega) (fun k hk => by cases hk; simp))
end Go.Proofs.YtmeeoamcelkhmaaGreatDoor
