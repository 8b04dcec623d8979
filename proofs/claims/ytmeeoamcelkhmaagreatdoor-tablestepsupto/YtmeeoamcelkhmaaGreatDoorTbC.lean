import Derived.Test.YtmeeoamcelkhmaaGreatDoorTbB
namespace Go.Proofs.YtmeeoamcelkhmaaGreatDoor
open Go.RowKit Go.Maps Go.Sort
attribute [local go_sem] Oper.semAt_some
set_option linter.unusedVariables false
set_option linter.unusedSimpArgs false
set_option maxRecDepth 100000

/-- A slice of the set's values. -/
def IV (n0 B N : Nat) (pre : List Tx) (W : World) : Prop := ∃ v, Boxed W B 51 v ∧ W.ownsRow n0 27 3 v pre.length (pre.flatMap cellsT) ∧ pre.length ≤ N
def AxV (x : Tx) (Bx : Nat) (W : World) : Prop := W.heap[Bx]? = some (.cells #[.int .i64 x.m, .string x.sn, .int .i64 x.tk] 27 (0, 0))
theorem AxV.cell {x : Tx} {Bx : Nat} {W : World} (h : AxV x Bx W) : W.cell? ⟨Bx, 0, none⟩ = some (.int .i64 x.m) ∧ W.cell? ⟨Bx, 1, none⟩ = some (.string x.sn) ∧ W.cell? ⟨Bx, 2, none⟩ = some (.int .i64 x.tk) := by
  unfold AxV at h
  refine ⟨?_, ?_, ?_⟩ <;> simp [World.cell?, h]
set_option maxHeartbeats 2000000 in
theorem appendSeqV (Bm b nn : Nat) (D0 : DataW Value) (w : World) (hBm : Bm < w.heap.size) (hm : w.cell? ⟨Bm, 0, none⟩ = some (.map (some b))) (hown : w.ownsMap Tryz.prog 27 heldE b nn D0) (hmax : Maps.size D0 * 32 ≤ 140737488355328) :
    CallsIn Fence.wide 3 Tryz.prog 52 #[.slice none 0 0, .func (.func 37) #[] #[.pointer (some ⟨Bm, 0, none⟩)]] w fun e w' => ∃ u vs, e = .returned u ∧ KeysV D0 vs ∧ vs.length ≤ Maps.size D0 ∧ w'.ownsRow w.heap.size 27 3 u vs.length (vs.flatMap cellsT) ∧ Below w.heap.size w w' := by
  have hn1 : 1 ≤ 3 := by omega
  obtain ⟨i0, hi, hz0, hz1, hz2⟩ := info_parts infoT
  have hbox := Boxed.new w 51 (.slice none 0 0)
  have hb0 := bel1 w (.cells #[.slice none 0 0] 51)
  have hseq := keysV_stops Fence.wide (3 - 1) trivial rfl (by omega) Bm b nn D0 (w.alloc (.cells #[.slice none 0 0] 51)) (by simp; omega) ((hb0.cell (p := ⟨Bm, 0, none⟩) hBm).trans hm) (hown.alloc _)
  refine callsIn_of_wp_marks Tryz.func52 rfl trivial ?_ rfl
  simp only [Tryz.ntmps52, List.size_toArray, List.length_cons, List.length_nil, Nat.reduceAdd, Nat.reduceSub, Array.replicate_succ, Array.replicate_zero, List.push_toArray, List.append_toArray, List.nil_append, List.cons_append]
  gi_wp2
  generalize w.alloc (.cells #[.slice none 0 0] 51) = w2 at *
  refine wpIn_rangeFunc_ownH (F := Fence.wide) rfl hn1 (gf := 37) (lb := #[.pointer (some ⟨Bm, 0, none⟩)]) rfl trivial (xent Tryz.func37 (by kernel_rfl) rfl) hseq walksK_t walksK_b (Below.refl _ _) (fun _ => rfl)
    (fun pre W => IV w.heap.size w.heap.size (Maps.size D0) pre W ∧ Below w.heap.size w W)
    (fun _ _ _ => False)
    (OwnFrom.and (Own.from (holdsRow_own w.heap.size w.heap.size 51 27 3 (fun pre : List Tx => pre.length) (fun pre => pre.flatMap cellsT) (fun (pre : List Tx) _ => pre.length ≤ Maps.size D0)) _) (ownFrom_below (Nat.le_refl _) hb0.size))
    (fun _ _ _ _ _ hs _ _ => hs)
    ⟨⟨_, hbox, World.ownsRow_nil _ _ _ _, Nat.zero_le _⟩, hb0⟩
    (fun x a' W => ∃ Bx, AxV x Bx W ∧ a' = { tmps := #[.slice none 0 0, .func (.func 37) #[] #[.pointer (some ⟨Bm, 0, none⟩)], .pointer (some ⟨w.heap.size, 0, none⟩), undef, .slice none 0 0, .pointer (some ⟨Bx, 0, none⟩),
          .func (.func 37) #[] #[.pointer (some ⟨Bm, 0, none⟩)], vv x, undef, undef, undef, undef, undef], defers := [] })
    (fun x a' _ A A' row hs hg hr => by obtain ⟨Bx, h1, h2⟩ := hs; exact ⟨Bx, (grownBy_keeps_cells hg (fun r e => (hr r e).2) h1 rfl).trans h1, h2⟩) ?assign ?body ?done ?stop
  case assign =>
    rintro l pre x W K ⟨hi1, hi2⟩ hK
    unfold vv at hK ⊢
    gi_wp2
    obtain ⟨v, hv, hrow, hle⟩ := hi1
    exact hK _ _ ((KeepsOthers.alloc W _).from _) (KeepsWalks.alloc W _) ⟨⟨v, hv.alloc _, hrow.alloc _, hle⟩, hi2.alloc hi2.size _⟩ ⟨W.heap.size, World.alloc_heap_new W _, rfl⟩
  case body =>
    rintro l pre x a' W hl ⟨r, hr⟩ ⟨⟨v, hv, hrow, -⟩, hB⟩ ⟨Bx, hax, rfl⟩ hlt
    have hc := hv.cell
    obtain ⟨hx0, hx1, hx2⟩ := hax.cell
    have hxl : Bx < W.heap.size := (Array.getElem?_eq_some_iff.1 hax).1
    have hone : ∀ u ∈ cellsT x, u.oneCell' = true := by intro u hu; simp [cellsT] at hu; rcases hu with rfl | rfl | rfl <;> rfl
    gi_wp2_with (gi_at_builtin; refine wpListIn_append_own _ rfl _ _ 51 rfl w.heap.size 27 i0 (.agg #[.int .i64 0, .string ⟨#[]⟩, .int .i64 0]) 3 32 Tryz.underlying51 hi hz0 hz1 hz2 rfl (by decide) _ _ _ rfl (hrow.alloc _) ⟨W.heap.size, 0, none⟩ 1 1 (cellsT x) rfl rfl ?h1 hone ?h3 ?h4 ?h5 ?h6)
    case h1 => exact World.news_of_block (cs := #[.int .i64 x.m, .string x.sn, .int .i64 x.tk]) (World.alloc_heap_new W _)
    case h3 => unfold maxLen; omega
    case h4 => omega
    case h5 => have := hB.size; simp; omega
    case h6 =>
      intro v' w1 hown' hgrow _
      obtain ⟨g', cap', rfl⟩ := ownsRow_succ hown'
      obtain ⟨hv1, hv2, hr2, hk2, hb2⟩ := hv.appended (by decide) hrow hB.size (Nat.le_refl _) hown' hgrow
      have hc1 := hv1.cell
      have hf1 := hv1.frozen
      gi_wp2
      exact ⟨hk2.from _, hk2.walks, ⟨_, hv2, by simpa using hr2, by simp; omega⟩, hB.trans hb2⟩
  case done =>
    rintro D ys W hD hS ⟨⟨v, hv, hrow, hle⟩, hB⟩ hK
    have hc := hv.cell
    gi_wp2
    refine ⟨by simp, .inl ⟨_, _, rfl, run_takeDeferred hK, ?_⟩⟩
    exact ⟨_, results_tmp rfl _ _ _, v, ys, rfl, hS, hle, ownsRow_putObj hrow _ hK rfl, hB.trans (belowK_b (w := w) (Nat.le_refl _) W D _ _ (by have := hb0.size; omega) hK rfl rfl)⟩
  case stop =>
    rintro D c pre W _ _ h _
    exact h.elim
theorem collectV (Bm b nn : Nat) (D0 : DataW Value) (w : World) (hBm : Bm < w.heap.size) (hm : w.cell? ⟨Bm, 0, none⟩ = some (.map (some b))) (hown : w.ownsMap Tryz.prog 27 heldE b nn D0) (hmax : Maps.size D0 * 32 ≤ 140737488355328) :
    Calls Tryz.prog 35 #[.func (.func 37) #[] #[.pointer (some ⟨Bm, 0, none⟩)]] w fun e w' => ∃ u vs, e = .returned u ∧ KeysV D0 vs ∧ vs.length ≤ Maps.size D0 ∧ w'.ownsRow w.heap.size 27 3 u vs.length (vs.flatMap cellsT) ∧ Below w.heap.size w w' := by
  have H := callsIn_wide.1 (appendSeqV Bm b nn D0 w hBm hm hown hmax)
  go_enter Tryz.func35, Tryz.ntmps35
  go_wp2_with (go_at_call 52; refine H.mono ?_; rintro e w' ⟨u, vs, rfl, h1, h2, h3, h4⟩)
  go_ret
  exact ⟨u, vs, rfl, h1, h2, h3, h4⟩
end Go.Proofs.YtmeeoamcelkhmaaGreatDoor
