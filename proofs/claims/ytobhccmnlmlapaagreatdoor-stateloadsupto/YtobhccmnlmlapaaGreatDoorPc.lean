import Derived.Test.YtobhccmnlmlapaaGreatDoorQStZk
import Derived.RangeFuncSeq
import Derived.RangeFuncGives
import Derived.RangeFuncNested
import Derived.RangeFuncBox
import Derived.Sort.MapsRangeIn
import Derived.Sort.KeysCollected
import Derived.WalkKit
import Derived.OwnWalkIn
import Derived.TacticsInMore
import Derived.RegionIn
import Derived.LoopNIn
import Derived.LoopIn
import Derived.Deep.AppendLies
import Derived.Test.YtobhccmnlmlapaaGreatDoorPa
import Derived.Test.YtobhccmnlmlapaaGreatDoorQHdA
namespace Go.Proofs.YtobhccmnlmlapaaGreatDoor
open Go.RowKit Go.Maps Go.Sort
set_option linter.unusedVariables false
set_option linter.unusedSimpArgs false
set_option maxRecDepth 100000

theorem vvN_inj {a b : Wn} (h : vv a = vv b) : a = b := by
  obtain ⟨f1, t1⟩ := a
  obtain ⟨f2, t2⟩ := b
  simpa [vv] using h
def cellsN (v : Wn) : List Value := [.int .i64 v.f, .int .i64 v.t]
/-- Windows in a row of one's own. -/
def OW (w : World) (B : Nat) (x : Value) (ws : List Wn) : Prop := w.ownsRow B 38 2 x ws.length (ws.flatMap cellsN)
theorem infoW : (Tryz.prog.info? 38).map (fun i => (i.zero, i.size, i.bytes)) = some (some (.agg #[.int .i64 0, .int .i64 0]), 2, 16) := by kernel_rfl
/-- maps.Keys's walk. -/
def KeysN (m : List (Wn × Value)) (vs : List Wn) : Prop := vs.Perm (m.map (·.1))
set_option maxHeartbeats 1000000 in
theorem keys1N (F : Fence) (n : Nat) (h10 : F.fn 84) (hro : F.round = none) (hn : 1 ≤ n) (l Bm b nn : Nat) (m : List (Wn × Value)) (es : List (Lit × DataW Value)) (hes : es.Perm (mpOf wk m)) (hok : ∀ p ∈ m, wk.ok p.1) (hnd : (m.map (·.1)).Nodup) (J Jx : List Wn → World → Prop)
    (hY : ∀ pre x W, J pre W → pre.length < m.length → YieldAt F (n - 1) Tryz.prog l #[vv x] W fun e W' => (e = .returned (.bool true) ∧ J (pre ++ [x]) W' ∧ KeepsWalks W W') ∨ (e = .returned (.bool false) ∧ Jx (pre ++ [x]) W'))
    (W : World) (hJ : AbidesFrom W.heap.size J) (hm : W.cell? ⟨Bm, 0, none⟩ = some (.map (some b))) (hown : W.ownsMap Tryz.prog 38 heldE b nn (.map es)) (h0 : J [] W) :
    CallsIn F n Tryz.prog 84 #[.func (.yield l) #[] #[], .pointer (some ⟨Bm, 0, none⟩)] W fun e W' => (∃ v, e = .returned v) ∧ ((∃ vs : List Wn, KeysN m vs ∧ J vs W') ∨ (∃ pre : List Wn, True ∧ Jx pre W')) := by
  refine callsIn_of_wp Tryz.func84 rfl h10 ?_ hro
  simp only [Tryz.ntmps84, List.size_toArray, List.length_cons, List.length_nil, Nat.reduceAdd, Nat.reduceSub, Array.replicate_succ, Array.replicate_zero, List.push_toArray, List.append_toArray, List.nil_append, List.cons_append]
  gi_wp2_with (first
    | (gi_at_range; refine wpListIn_range_own _ rfl _ 85 rfl 38 _ lawV Tryz.underlying85 _ b nn _ rfl hown ?_; intro w0 hrg0 hg0 hs0)
    | gi_in)
  go_frame
  gi_loopw [3] (fun _ wr => ∃ (left : Lit → Bool) (cnt : Nat) (cs : List (Wn × Value)), wr.ranges Tryz.prog 38 heldE b W.heap.size nn (.map es) left cnt ∧ CollK wk m left cs ∧ J (cs.map (·.1)) wr)
    (fun _ wr => wr.rangeLeft b W.heap.size)
  case atStart =>
    exact ⟨_, _, [], hrg0, CollK.start lawV hes hok hnd, hJ [] W w0 none h0 hg0 (fun r e => by cases e)⟩
  case round =>
    obtain ⟨left, cnt, cs, hrg, hC, hJs⟩ := hrel
    gi_wp2_with (first
      | (gi_at_next; refine wpListIn_next_ranges _ rfl _ rfl 38 lawV heldE vv id (fun key kl hk => by obtain ⟨x, hx, _⟩ := keyV_inv hk; exact ⟨x, hx⟩) (fun v _ _ => ⟨v, rfl⟩) b W.heap.size nn _ _ _ rfl hrg ?_ ?_)
      | gi_in)
    · intro hc0 hl0
      gi_wp2
      go_end0
      exact ⟨⟨_, rfl⟩, .inl ⟨List.map (fun p : Wn × Value => p.1) cs, (hC.all hnd hl0).map (fun p : Wn × Value => p.1), hJs⟩⟩
    · intro x c kl yd yp w2 cnt2 hkey hlk hv hat hrg2 hlt hg2 hs2 hen
      obtain ⟨x', ex, hfx, rfl⟩ := keyV_inv hkey
      obtain rfl : x = x' := vvN_inj ex
      have hJ2 : J (cs.map (·.1)) w2 := hJ _ wr w2 (some W.heap.size) hJs hg2 (fun r e => by cases e; exact ⟨Nat.le_refl _, hrg.iter_walk⟩)
      clear hs2
      have hJ3 : J (cs.map (·.1)) (w2.alloc (.cells #[.int .i64 x.f, .int .i64 x.t] 38)) := hJ _ w2 _ none hJ2 (grown_below (r := none) (bel1 _ _)) (fun r e => by cases e)
      have hrg2' := hrg2.of_walks (KeepsWalks.alloc w2 (.cells #[.int .i64 x.f, .int .i64 x.t] 38))
      simp only [heldE, Option.some.injEq, Prod.mk.injEq] at hv
      obtain ⟨rfl, -⟩ := hv
      have hin : (x, c) ∈ m := mem_atK (kd := wk) lawV hes hok hnd hfx hat
      have hC2 := hC.step lawV hnd hok hin hlk
      have hlen : (cs.map (·.1)).length < m.length := by
        have h1 : ((cs ++ [(x, c)]).map (·.1)).length ≤ (m.map (·.1)).length := List.Nodup.length_le_of_subset hC2.1 (fun q hq => by obtain ⟨p, hp, e⟩ := List.mem_map.1 hq; exact List.mem_map.2 ⟨p, hC2.2.1 p hp, e⟩)
        simp at h1 ⊢
        omega
      obtain ⟨fn, tmps, assign, body, hy, hR⟩ := hY _ x _ hJ3 hlen
      obtain ⟨xf, xt⟩ := x
      unfold vv at hen hkey hy
      simp only [vv]
      gi_wp2
      refine hR.mono ?_
      rintro e W3 (⟨rfl, hJ4, hk3⟩ | ⟨rfl, hJx⟩)
      · gi_wp2
        have hrg3 := hrg2'.of_walks hk3
        go_roundw
        case rel => exact ⟨_, cnt2, cs ++ [_], hrg3, hC2, by rw [List.map_append]; exact hJ4⟩
        case measure => rw [hrg3.left_eq, hrg.left_eq]; exact hlt
      · gi_wp2
        refine bodyPost_ret (results_none rfl _ _ _) rfl ?_
        exact ⟨⟨_, rfl⟩, .inr ⟨_, trivial, hJx⟩⟩
theorem keysN_stops (F : Fence) (n : Nat) (h10 : F.fn 84) (hro : F.round = none) (hn : 1 ≤ n) (Bm b nn : Nat) (m : List (Wn × Value)) (es : List (Lit × DataW Value)) (hes : es.Perm (mpOf wk m)) (hok : ∀ p ∈ m, wk.ok p.1) (hnd : (m.map (·.1)).Nodup) (w : World) (hBm : Bm < w.heap.size) (hm : w.cell? ⟨Bm, 0, none⟩ = some (.map (some b))) (hown : w.ownsMap Tryz.prog 38 heldE b nn (.map es)) :
    SeqStopsK F n Tryz.prog 84 #[.pointer (some ⟨Bm, 0, none⟩)] (fun v => #[vv v]) KeepsWalks (KeysN m) (fun _ => True) m.length w := fun l J Jx W hW hJ _ hY h0 =>
  keys1N F n h10 hro hn l Bm b nn m es hes hok hnd J Jx hY W hJ ((hW.cell (p := ⟨Bm, 0, none⟩) hBm).trans hm) (hown.kept (grown_below (r := none) hW) (by simp)) h0
set_option maxHeartbeats 1000000 in
theorem keys0N (F : Fence) (n : Nat) (h10 : F.fn 84) (hro : F.round = none) (hn : 1 ≤ n) (l Bm : Nat) (J Jx : List Wn → World → Prop)
    (W : World) (hJ : AbidesFrom W.heap.size J) (hm : W.cell? ⟨Bm, 0, none⟩ = some (.map none)) (h0 : J [] W) :
    CallsIn F n Tryz.prog 84 #[.func (.yield l) #[] #[], .pointer (some ⟨Bm, 0, none⟩)] W fun e W' => (∃ v, e = .returned v) ∧ ((∃ vs : List Wn, KeysN [] vs ∧ J vs W') ∨ (∃ pre : List Wn, True ∧ Jx pre W')) := by
  refine callsIn_of_wp Tryz.func84 rfl h10 ?_ hro
  simp only [Tryz.ntmps84, List.size_toArray, List.length_cons, List.length_nil, Nat.reduceAdd, Nat.reduceSub, Array.replicate_succ, Array.replicate_zero, List.push_toArray, List.append_toArray, List.nil_append, List.cons_append]
  have hrg := run_range_nilMap (P := Tryz.prog) W 85 38 39 Tryz.underlying85
  have hnx : ∀ ty, (Instr.next (.pointer (some ⟨W.heap.size, 0, none⟩)) false ty).run Tryz.prog (W.alloc (.mapIter none 0 #[] 0)) = _ := fun ty => run_next_nilMap _ ty 0 0 #[]
  gi_wp2
  refine wpIn_loop_rounds 1 ?_
  rw [roundsIn_succ]
  gi_wp2
  go_end0
  exact ⟨⟨_, rfl⟩, .inl ⟨[], List.Perm.refl _, hJ [] W _ none h0 (World.grownBy_alloc W _ none) (fun r e => by cases e)⟩⟩
theorem keysN_stops0 (F : Fence) (n : Nat) (h10 : F.fn 84) (hro : F.round = none) (hn : 1 ≤ n) (Bm : Nat) (w : World) (hBm : Bm < w.heap.size) (hm : w.cell? ⟨Bm, 0, none⟩ = some (.map none)) :
    SeqStopsK F n Tryz.prog 84 #[.pointer (some ⟨Bm, 0, none⟩)] (fun v => #[vv v]) KeepsWalks (KeysN []) (fun _ => True) 0 w := fun l J Jx W hW hJ _ hY h0 =>
  keys0N F n h10 hro hn l Bm J Jx W hJ ((hW.cell (p := ⟨Bm, 0, none⟩) hBm).trans hm) h0
/-- A slice of windows while they are taken. -/
def IN (n0 B N : Nat) (pre : List Wn) (W : World) : Prop := ∃ v, Boxed W B 71 v ∧ W.ownsRow n0 38 2 v pre.length (pre.flatMap cellsN) ∧ pre.length ≤ N
def AxN (x : Wn) (Bx : Nat) (W : World) : Prop := W.heap[Bx]? = some (.cells #[.int .i64 x.f, .int .i64 x.t] 38 (0, 0))
theorem AxN.cell {x : Wn} {Bx : Nat} {W : World} (h : AxN x Bx W) : W.cell? ⟨Bx, 0, none⟩ = some (.int .i64 x.f) ∧ W.cell? ⟨Bx, 1, none⟩ = some (.int .i64 x.t) := by
  unfold AxN at h
  refine ⟨?_, ?_⟩ <;> simp [World.cell?, h]
attribute [local go_sem] Oper.semAt_some
set_option maxHeartbeats 2000000 in
theorem appendSeqN (Bm N : Nat) (m : List (Wn × Value)) (w : World) (hseq : SeqStopsK Fence.wide (3 - 1) Tryz.prog 84 #[.pointer (some ⟨Bm, 0, none⟩)] (fun v => #[vv v]) KeepsWalks (KeysN m) (fun _ => True) N (w.alloc (.cells #[.slice none 0 0] 71))) (hmax : N * 16 ≤ 140737488355328) :
    CallsIn Fence.wide 3 Tryz.prog 117 #[.slice none 0 0, .func (.func 84) #[] #[.pointer (some ⟨Bm, 0, none⟩)]] w fun e w' => ∃ u vs, e = .returned u ∧ KeysN m vs ∧ vs.length ≤ N ∧ w'.ownsRow w.heap.size 38 2 u vs.length (vs.flatMap cellsN) ∧ Below w.heap.size w w' := by
  have hn1 : 1 ≤ 3 := by omega
  obtain ⟨i0, hi, hz0, hz1, hz2⟩ := info_parts infoW
  have hbox := Boxed.new w 71 (.slice none 0 0)
  have hb0 := bel1 w (.cells #[.slice none 0 0] 71)
  refine callsIn_of_wp_marks Tryz.func117 rfl trivial ?_ rfl
  simp only [Tryz.ntmps117, List.size_toArray, List.length_cons, List.length_nil, Nat.reduceAdd, Nat.reduceSub, Array.replicate_succ, Array.replicate_zero, List.push_toArray, List.append_toArray, List.nil_append, List.cons_append]
  gi_wp2
  generalize w.alloc (.cells #[.slice none 0 0] 71) = w2 at *
  refine wpIn_rangeFunc_ownH (F := Fence.wide) rfl hn1 (gf := 84) (lb := #[.pointer (some ⟨Bm, 0, none⟩)]) rfl trivial (enters_of Tryz.func84 (by kernel_rfl) rfl) hseq walksK_t walksK_b (Below.refl _ _) (fun _ => rfl)
    (fun pre W => IN w.heap.size w.heap.size N pre W ∧ Below w.heap.size w W)
    (fun _ _ _ => False)
    (OwnFrom.and (Own.from (holdsRow_own w.heap.size w.heap.size 71 38 2 (fun pre : List Wn => pre.length) (fun pre => pre.flatMap cellsN) (fun (pre : List Wn) _ => pre.length ≤ N)) _) (ownFrom_below (Nat.le_refl _) hb0.size))
    (fun _ _ _ _ _ hs _ _ => hs)
    ⟨⟨_, hbox, World.ownsRow_nil _ _ _ _, Nat.zero_le _⟩, hb0⟩
    (fun x a' W => ∃ Bx, AxN x Bx W ∧ a' = { tmps := #[.slice none 0 0, .func (.func 84) #[] #[.pointer (some ⟨Bm, 0, none⟩)], .pointer (some ⟨w.heap.size, 0, none⟩), undef, .slice none 0 0, .pointer (some ⟨Bx, 0, none⟩),
          .func (.func 84) #[] #[.pointer (some ⟨Bm, 0, none⟩)], vv x, undef, undef, undef, undef, undef], defers := [] })
    (fun x a' _ A A' row hs hg hr => by obtain ⟨Bx, h1, h2⟩ := hs; exact ⟨Bx, (grownBy_keeps_cells hg (fun r e => (hr r e).2) h1 rfl).trans h1, h2⟩) ?assign ?body ?done ?stop
  case assign =>
    rintro l pre x W K ⟨hi1, hi2⟩ hK
    unfold vv at hK ⊢
    gi_wp2
    obtain ⟨v, hv, hrow, hle⟩ := hi1
    exact hK _ _ ((KeepsOthers.alloc W _).from _) (KeepsWalks.alloc W _) ⟨⟨v, hv.alloc _, hrow.alloc _, hle⟩, hi2.alloc hi2.size _⟩ ⟨W.heap.size, World.alloc_heap_new W _, rfl⟩
  case body =>
    rintro l pre x a' W hl ⟨r, hr⟩ ⟨⟨v, hv, hrow, -⟩, hB⟩ ⟨Bx, hax, rfl⟩ hlt
    have hc := hv.cell
    obtain ⟨hx0, hx1⟩ := hax.cell
    have hxl : Bx < W.heap.size := (Array.getElem?_eq_some_iff.1 hax).1
    have hone : ∀ u ∈ cellsN x, u.oneCell' = true := by intro u hu; simp [cellsN] at hu; rcases hu with rfl | rfl <;> rfl
    gi_wp2_with (gi_at_builtin; refine wpListIn_append_own _ rfl _ _ 71 rfl w.heap.size 38 i0 (.agg #[.int .i64 0, .int .i64 0]) 2 16 Tryz.underlying71 hi hz0 hz1 hz2 rfl (by decide) _ _ _ rfl (hrow.alloc _) ⟨W.heap.size, 0, none⟩ 1 1 (cellsN x) rfl rfl ?h1 hone ?h3 ?h4 ?h5 ?h6)
    case h1 => exact World.news_of_block (cs := #[.int .i64 x.f, .int .i64 x.t]) (World.alloc_heap_new W _)
    case h3 => unfold maxLen; omega
    case h4 => omega
    case h5 => have := hB.size; simp; omega
    case h6 =>
      intro v' w1 hown' hgrow _
      obtain ⟨g', cap', rfl⟩ := ownsRow_succ hown'
      obtain ⟨hv1, hv2, hr2, hk2, hb2⟩ := hv.appended (by decide) hrow hB.size (Nat.le_refl _) hown' hgrow
      have hc1 := hv1.cell
      have hf1 := hv1.frozen
      gi_wp2
      exact ⟨hk2.from _, hk2.walks, ⟨_, hv2, by simpa using hr2, by simp; omega⟩, hB.trans hb2⟩
  case done =>
    rintro D ys W hD hS ⟨⟨v, hv, hrow, hle⟩, hB⟩ hK
    have hc := hv.cell
    gi_wp2
    refine ⟨by simp, .inl ⟨_, _, rfl, run_takeDeferred hK, ?_⟩⟩
    exact ⟨_, results_tmp rfl _ _ _, v, ys, rfl, hS, hle, ownsRow_putObj hrow _ hK rfl, hB.trans (belowK_b (w := w) (Nat.le_refl _) W D _ _ (by have := hb0.size; omega) hK rfl rfl)⟩
  case stop =>
    rintro D c pre W _ _ h _
    exact h.elim
theorem collectN (Bm N : Nat) (m : List (Wn × Value)) (w : World) (hseq : SeqStopsK Fence.wide (3 - 1) Tryz.prog 84 #[.pointer (some ⟨Bm, 0, none⟩)] (fun v => #[vv v]) KeepsWalks (KeysN m) (fun _ => True) N (w.alloc (.cells #[.slice none 0 0] 71))) (hmax : N * 16 ≤ 140737488355328) :
    Calls Tryz.prog 82 #[.func (.func 84) #[] #[.pointer (some ⟨Bm, 0, none⟩)]] w fun e w' => ∃ u vs, e = .returned u ∧ KeysN m vs ∧ vs.length ≤ N ∧ OW w' w.heap.size u vs ∧ Below w.heap.size w w' := by
  have H := callsIn_wide.1 (appendSeqN Bm N m w hseq hmax)
  go_enter Tryz.func82, Tryz.ntmps82
  go_wp2_with (go_at_call 117; refine H.mono ?_; rintro e w' ⟨u, vs, rfl, h1, h2, h3, h4⟩)
  go_ret
  exact ⟨u, vs, rfl, h1, h2, h3, h4⟩
end Go.Proofs.YtobhccmnlmlapaaGreatDoor
namespace Go.Proofs.YtobhccmnlmlapaaGreatDoor
open Go.RowKit Go.Maps Go.Sort Go.Shelf
set_option linter.unusedVariables false
set_option linter.unusedSimpArgs false
set_option maxRecDepth 100000

instance : Inhabited Wn := ⟨⟨0, 0⟩⟩
theorem ltN_asymm (a b : Wn) (h : ltN a b = true) : ltN b a = false := by
  cases h' : ltN b a with
  | false => rfl
  | true => have := ltN_trans _ _ _ h h'; rw [ltN_irrefl] at this; cases this
theorem ltN_ntrans (a b c : Wn) (h1 : ltN a b = false) (h2 : ltN b c = false) : ltN a c = false := by
  cases h3 : ltN a c with
  | false => rfl
  | true =>
    cases h4 : ltN b a with
    | true => have := ltN_trans _ _ _ h4 h3; rw [h2] at this; cases this
    | false =>
      have e := ltN_tri _ _ h1 h4
      rw [e, h2] at h3; cases h3
def cfN (x y : Wn) : Int := cmpN x y
theorem ltFN (x y : Wn) : ltOf cfN x y = ltN x y := cmpN_lt _ _
theorem swoN : Sort.SWO (ltOf cfN) where
  irrefl x := by rw [ltFN]; exact ltN_irrefl _
  trans x y z h1 h2 := by rw [ltFN] at *; exact ltN_trans _ _ _ h1 h2
  ntrans x y z h1 h2 := by rw [ltFN] at *; exact ltN_ntrans _ _ _ h1 h2
theorem one_cellsN (x : Wn) : ∀ u ∈ cellsN x, u.oneCell' = true := by
  intro u hu; simp [cellsN] at hu; rcases hu with rfl | rfl <;> rfl
theorem cmpLaysN (w : World) (blk size : Nat) : CmpLays Tryz.prog 55 #[] cellsN 2 cfN blk 0 size w := fun m os dk _ x y => by
  refine (compareN_any x y (sortWorldK cellsN 2 w blk 0 m dk os)).mono ?_
  rintro e w' ⟨rfl, hb, hd⟩
  exact ⟨rfl, grow_of hb hd⟩
theorem len_cellsN (l : List Wn) : (l.flatMap cellsN).length = l.length * 2 := by
  induction l with
  | nil => rfl
  | cons x l ih => rw [List.flatMap_cons, List.length_append, ih, List.length_cons]; simp [cellsN]; omega
theorem flatN_list (d : Array Wn) : (Sort.flatK cellsN 2 d).toList = d.toList.flatMap cellsN := by
  apply List.ext_getElem?
  intro t
  by_cases ht : t < d.size * 2
  · have h1 := flat_at cellsN 2 (fun _ => rfl) d.toList (t / 2) (t % 2) (by simp; omega) (by omega)
    rw [show t / 2 * 2 + t % 2 = t by omega] at h1
    rw [h1]
    have hsz : t < (Sort.flatK cellsN 2 d).size := by rw [Sort.size_flatK]; exact ht
    rw [Array.getElem?_toList, Array.getElem?_eq_getElem hsz, ← getElem!_pos, Sort.get_flatK _ _ _ _ ht]
    have hd : t / 2 < d.size := by omega
    rw [getElem!_pos d _ hd]
    have hl : t % 2 < (cellsN d[t / 2]).length := by simp [cellsN]; omega
    rw [getElem!_pos (cellsN d[t / 2]) _ hl, List.getElem?_eq_getElem (by simpa [cellsN] using (by omega : t % 2 < 2))]
    simp
  · rw [List.getElem?_eq_none (by simp; omega), List.getElem?_eq_none (by rw [len_cellsN]; simp; omega)]
def AscN (l : List Wn) : Prop := l.Pairwise fun x y => ltN y x = false
theorem sortN_some (w : World) (base blk cap : Nat) (xs : List Wn) (hown : OW w base (.slice (some ⟨blk, 0, none⟩) xs.length cap) xs) (hl : xs.length ≤ 4398046511104) :
    Calls Tryz.prog 83 #[.slice (some ⟨blk, 0, none⟩) xs.length cap, .func (.func 55) #[] #[]] w fun e w' => e = .returned (.tuple #[]) ∧ ∃ ps : List Wn, ps.Perm xs ∧ AscN ps ∧ OW w' base (.slice (some ⟨blk, 0, none⟩) xs.length cap) ps ∧ w.grownBy w' (some blk) := by
  obtain ⟨d, hd⟩ : ∃ d : Array Wn, d.toList = xs := ⟨xs.toArray, by simp⟩
  rcases hown.2 with ⟨h1, _⟩ | ⟨g, cap', cur, h1, hbase, hg, hcap, hmax, hcs, htk⟩
  · simp at h1
  simp only [Value.slice.injEq, Option.some.injEq, Addr.mk.injEq, and_true, true_and] at h1
  obtain ⟨rfl, rfl⟩ := h1
  have hblk : blk < w.heap.size := (Array.getElem?_eq_some_iff.1 hg).1
  have hsz : d.size = xs.length := by rw [← hd]; simp
  have hfl := flatN_list d
  rw [hd] at hfl
  have hFs : (Sort.flatK cellsN 2 d).size = xs.length * 2 := by rw [Sort.size_flatK, hsz]
  have hH : Sort.HoldsK cellsN 2 w blk 0 d := by
    unfold Sort.HoldsK Sort.Holds
    intro j hj
    have hj2 : j < xs.length * 2 := by omega
    have e1 : (Sort.flatK cellsN 2 d)[j]? = (xs.flatMap cellsN)[j]? := by rw [← Array.getElem?_toList, hfl]
    rw [← htk, List.getElem?_take_of_lt hj2, Array.getElem?_toList] at e1
    constructor
    · simp only [World.cell?, hg, Nat.zero_add]
      rw [getElem!_pos (Sort.flatK cellsN 2 d) j hj, ← e1, Array.getElem?_eq_getElem hj]
      rfl
    · simp [World.frozen?, hg]
  have eg : ∀ args w, (callFunc 55 args).run Tryz.prog w = .ok (.enter 55 args) w := enters_of Tryz.func55 (by kernel_rfl) rfl
  have hcon := AnyQ.slices_SortFunc Tryz.sortWins 2 Tryz.isAgg38 Tryz.sizeOf38 cellsN (fun _ => rfl) one_cellsN cfN swoN 55 #[] blk 0 cap d w eg (cmpLaysN w blk d.size) hH hblk (by omega)
  change Calls Tryz.prog 83 _ _ _ at hcon
  rw [hsz] at hcon
  refine hcon.mono ?_
  rintro e w' ⟨rfl, d', n, os, hp, hs, rfl⟩
  obtain ⟨hp1, -, hp3⟩ := hp
  have hp1' : d'.size = xs.length := by rw [hp1, hsz]
  have hp4 : d'.toList.Perm d.toList := by
    rw [← hsz] at hp3
    have e1 : d.extract 0 d.size = d := by simp
    have e2 : d'.extract 0 d.size = d' := by rw [← hp1]; simp
    rw [e1, e2] at hp3
    exact hp3
  have hasc : AscN d'.toList := by
    unfold AscN
    rw [List.pairwise_iff_getElem]
    intro i j hi hj hij
    have hi' : i < d'.size := by simpa using hi
    have hj' : j < d'.size := by simpa using hj
    have := hs i j (Nat.zero_le _) hij (by omega)
    rw [ltFN, getElem!_pos d' i hi', getElem!_pos d' j hj'] at this
    simpa using this
  refine ⟨rfl, d'.toList, ?_, hasc, ?_, ?_⟩
  · rw [← hd]; exact hp4
  · have hF' := flatN_list d'
    have hdl : d'.toList.length = xs.length := by simp [hp1']
    unfold OW
    rw [hdl]
    refine ⟨by rw [len_cellsN]; simp [hp1'], .inr ⟨blk, cap, Sort.putCells id 0 (Sort.flatK cellsN 2 d') cur, rfl, hbase, ?_, hcap, hmax, ?_, ?_⟩⟩
    · unfold sortWorldK
      rw [Sort.heap_grow_old _ _ (by rw [Sort.size_putRowK]; exact hblk)]
      unfold Sort.putRowK Sort.putRow Sort.mapBlock
      simp only [Array.getElem?_modify, if_true]
      rw [show (Sort.ahead w n).heap[blk]? = w.heap[blk]? from rfl, hg]
      rfl
    · unfold Sort.putCells; rw [Array.size_mapIdx]; exact hcs
    · have e3 : (Sort.flatK cellsN 2 d').size = xs.length * 2 := by rw [Sort.size_flatK, hp1']
      have := putCells_take (Sort.flatK cellsN 2 d') cur (by rw [e3, hcs]; exact Nat.mul_le_mul_right _ hcap)
      rw [e3] at this
      rw [this, hF']
  · refine ⟨rfl, rfl, rfl, ?_, fun i hi hr => ?_⟩
    · exact size_sortWorldK_c _ _ _ _ _ _ _ _
    · unfold sortWorldK
      rw [Sort.heap_grow_old _ _ (by rw [Sort.size_putRowK]; exact hi)]
      unfold Sort.putRowK Sort.putRow Sort.mapBlock
      simp only [Array.getElem?_modify]
      rw [if_neg (fun e => hr (by rw [e]))]
      rfl
theorem sortsN (w : World) (B : Nat) (u : Value) (vs : List Wn) (h : OW w B u vs) (hl : vs.length ≤ 4398046511104) :
    Calls Tryz.prog 83 #[u, .func (.func 55) #[] #[]] w fun e w' => e = .returned (.tuple #[]) ∧ ∃ ps : List Wn, ps.Perm vs ∧ AscN ps ∧ OW w' B u ps ∧ w.grownBy w' u.ownBlock := by
  rcases h.2 with ⟨rfl, h0⟩ | ⟨g, cap', cur, rfl, -⟩
  · obtain rfl := List.eq_nil_of_length_eq_zero h0
    have hnone := AnyF.slices_SortFunc_none Tryz.sortWins none 0 (.func (.func 55) #[] #[]) w
    change Calls Tryz.prog 83 _ _ _ at hnone
    refine hnone.mono ?_
    rintro e w2 ⟨rfl, rfl⟩
    exact ⟨rfl, [], List.Perm.refl _, List.Pairwise.nil, h, World.grownBy.refl _ _⟩
  · exact (sortN_some w B g cap' vs h hl)
theorem row_formN {w : World} {B : Nat} {u : Value} {vs : List Wn} (h : OW w B u vs) : ∃ a c, u = .slice a vs.length c := row_form h
set_option maxHeartbeats 1000000 in
theorem sortedN (Bm N : Nat) (m : List (Wn × Value)) (w : World) (hseq : SeqStopsK Fence.wide (3 - 1) Tryz.prog 84 #[.pointer (some ⟨Bm, 0, none⟩)] (fun v => #[vv v]) KeepsWalks (KeysN m) (fun _ => True) N (w.alloc (.cells #[.slice none 0 0] 71))) (hmax : N ≤ 4194304) :
    Calls Tryz.prog 53 #[.func (.func 84) #[] #[.pointer (some ⟨Bm, 0, none⟩)], .func (.func 55) #[] #[]] w fun e w' => ∃ u vs, e = .returned u ∧ vs.Perm (m.map (·.1)) ∧ AscN vs ∧ OW w' w.heap.size u vs ∧ Below w.heap.size w w' := by
  have H := hidMk (collectN Bm N m w hseq (by omega))
  clear hseq
  go_enter Tryz.func53, Tryz.ntmps53
  go_wp2_with fail
  refine H.out.mono ?_
  rintro e w1 ⟨u, vs, rfl, h1, h2, h3, h4⟩
  have HO := hidMk h3
  have HK := hidMk h1
  have HB := hidMk h4
  obtain ⟨a, c, rfl⟩ := row_formN h3
  clear h1 h3 h4
  go_wp2_with fail
  refine (sortsN _ _ _ vs HO.out (by omega)).mono ?_
  rintro e w2 ⟨rfl, ps, p1, p2, p3, p4⟩
  have HP : Hid (∃ (u : Value) (vs' : List Wn), Ending.returned (.slice a vs.length c) = .returned u ∧ vs'.Perm (m.map (·.1)) ∧ AscN vs' ∧ OW w2 w.heap.size u vs' ∧ Below w.heap.size w w2) := ⟨_, ps, rfl, p1.trans HK.out, p2, p3, HB.out.grown p4 HB.out.size (fun j ej => (World.ownsRow.lt HO.out j ej).1)⟩
  clear p1 p2 p3 p4 HO HK HB
  go_wp2_with fail
  go_ret
  exact HP.out
theorem keysN_any (mb : Option Nat) (w : World) : Calls Tryz.prog 54 #[.map mb] w fun e w' => e = .returned (.func (.func 84) #[] #[.pointer (some ⟨w.heap.size, 0, none⟩)]) ∧ w' = w.alloc (.cells #[.map mb] 85) := by
  go_enter Tryz.func54, Tryz.ntmps54
  go_wp2
  go_ret
  exact ⟨rfl, rfl⟩
/-- The windows of a key. -/
def winsOf (ss : List Sh) (vs : List V) : List Wn := match (if vk vs = true then shOf ss vs else none) with | some s => s.ds.map (·.w) | none => []
attribute [local go_sem] fld0 fld1
set_option maxHeartbeats 2000000 in
theorem of_any (vs : List V) (a : Option Addr) (c : Nat) (w : World) (B t mp : Nat) (lo hi : Int) (ss : List Sh) (h : PS w B t mp lo hi ss) (hl : VLies w a vs) (hg : GoodK vs) (hvl : vs.length ≤ 549755813888) :
    Calls Tryz.prog 26 #[.pointer (some ⟨t, 0, none⟩), .slice a vs.length c] w fun e w' => ∃ u ws, e = .returned u ∧ ws.Perm (winsOf ss vs) ∧ AscN ws ∧ OW w' w.heap.size u ws ∧ Below w.heap.size w w' := by
  have HSH := hidMk (shelfOf_any vs a c w B t mp lo hi ss h hl hg hvl)
  have HS := hidMk h
  unfold winsOf
  have HSO : Hid (∀ s, (if vk vs = true then shOf ss vs else none) = some s → s ∈ ss) := fun s hs => by
    split at hs
    · exact (shOf_some hs).1
    · cases hs
  have HKY := hidMk (fun mb W => keysN_any mb W)
  clear h hl hg
  generalize (if vk vs = true then shOf ss vs else none) = o at *
  cases o with
  | none =>
    have HF : Hid (∀ w1, Below w.heap.size w w1 → Calls Tryz.prog 53 #[.func (.func 84) #[] #[.pointer (some ⟨w1.heap.size, 0, none⟩)], .func (.func 55) #[] #[]] (w1.alloc (.cells #[.map none] 85)) fun e w' => ∃ u ws, e = .returned u ∧ ws.Perm ([] : List Wn) ∧ AscN ws ∧ OW w' w.heap.size u ws ∧ Below w.heap.size w w') := fun w1 hb => by
      have hb1 := hb.alloc hb.size (.cells #[.map none] 85)
      have hseq := keysN_stops0 Fence.wide (3 - 1) trivial rfl (by omega) w1.heap.size ((w1.alloc (.cells #[.map none] 85)).alloc (.cells #[.slice none 0 0] 71)) (by simp; omega) (by go_simp)
      refine (sortedN w1.heap.size 0 [] (w1.alloc (.cells #[.map none] 85)) hseq (by omega)).mono ?_
      rintro e w' ⟨u, ws, rfl, q1, q2, q3, q4⟩
      exact ⟨u, ws, rfl, q1, q2, World.ownsRow.mono q3 hb1.size, hb1.trans (q4.mono hb1.size)⟩
    simp only [shV] at HSH
    go_enter Tryz.func26, Tryz.ntmps26
    go_wp2_with fail
    refine HSH.out.mono ?_
    rintro e w1 ⟨rfl, hb1⟩
    have HB1 := hidMk hb1
    clear hb1
    go_wp2_with fail
    refine (HKY.out _ _).mono ?_
    rintro e w2 ⟨rfl, hw2⟩
    subst hw2
    go_wp2_with fail
    refine (HF.out w1 HB1.out).mono ?_
    rintro e w3 ⟨u, ws, rfl, q1, q2, q3, q4⟩
    have HX : Hid (ws.Perm ([] : List Wn) ∧ AscN ws ∧ OW w3 w.heap.size u ws ∧ Below w.heap.size w w3) := ⟨q1, q2, q3, q4⟩
    clear q1 q2 q3 q4
    go_wp2_with fail
    go_ret
    exact ⟨u, ws, rfl, HX.out⟩
  | some s0 =>
    have hs0 := HSO.out s0 rfl
    have HF : Hid (∀ w1, Below w.heap.size w w1 → Calls Tryz.prog 53 #[.func (.func 84) #[] #[.pointer (some ⟨w1.heap.size, 0, none⟩)], .func (.func 55) #[] #[]] (w1.alloc (.cells #[.map (some s0.mb)] 85)) fun e w' => ∃ u ws, e = .returned u ∧ ws.Perm (s0.ds.map (·.w)) ∧ AscN ws ∧ OW w' w.heap.size u ws ∧ Below w.heap.size w w') := fun w1 hb => by
      have hb1 := hb.alloc hb.size (.cells #[.map (some s0.mb)] 85)
      have hP := HS.out.later (hb1.trans ((bel1 (w1.alloc (.cells #[.map (some s0.mb)] 85)) (.cells #[.slice none 0 0] 71)).mono hb1.size))
      obtain ⟨es, ho, hes, hok, hnd⟩ := (hP.sho s0 hs0).map
      have hn1 : s0.ds.length ≤ 2097152 := by
        have h1 := wt_len (ces ss)
        have h2 := HS.out.wl
        have h3 : s0.ds.length ≤ (ces ss).length := by
          obtain ⟨p, q, e⟩ := List.append_of_mem hs0
          rw [e]
          unfold ces
          rw [List.flatMap_append, List.flatMap_cons, List.length_append, List.length_append]
          have : (cesS s0).length = s0.ds.length := by unfold cesS; simp
          omega
        omega
      have hseq := keysN_stops Fence.wide (3 - 1) trivial rfl (by omega) w1.heap.size s0.mb _ (s0.ds.map entD) es hes hok hnd ((w1.alloc (.cells #[.map (some s0.mb)] 85)).alloc (.cells #[.slice none 0 0] 71)) (by simp; omega) (by go_simp) ho
      refine (sortedN w1.heap.size _ (s0.ds.map entD) (w1.alloc (.cells #[.map (some s0.mb)] 85)) hseq (by simp; omega)).mono ?_
      rintro e w' ⟨u, ws, rfl, q1, q2, q3, q4⟩
      rw [List.map_map] at q1
      exact ⟨u, ws, rfl, q1, q2, World.ownsRow.mono q3 hb1.size, hb1.trans (q4.mono hb1.size)⟩
    obtain ⟨ka, kc, hkv, -, -⟩ := (HS.out.sho s0 hs0).key.form
    simp only [shV, hkv] at HSH
    clear hs0 hkv
    go_enter Tryz.func26, Tryz.ntmps26
    go_wp2_with fail
    refine HSH.out.mono ?_
    rintro e w1 ⟨rfl, hb1⟩
    have HB1 := hidMk hb1
    clear hb1
    go_wp2_with fail
    refine (HKY.out _ _).mono ?_
    rintro e w2 ⟨rfl, hw2⟩
    subst hw2
    go_wp2_with fail
    refine (HF.out w1 HB1.out).mono ?_
    rintro e w3 ⟨u, ws, rfl, q1, q2, q3, q4⟩
    have HX : Hid (ws.Perm (s0.ds.map (·.w)) ∧ AscN ws ∧ OW w3 w.heap.size u ws ∧ Below w.heap.size w w3) := ⟨q1, q2, q3, q4⟩
    clear q1 q2 q3 q4
    go_wp2_with fail
    go_ret
    exact ⟨u, ws, rfl, HX.out⟩
end Go.Proofs.YtobhccmnlmlapaaGreatDoor
namespace Go.Proofs.YtobhccmnlmlapaaGreatDoor
open Go.RowKit Go.Maps
set_option linter.unusedVariables false
set_option linter.unusedSimpArgs false
set_option maxRecDepth 100000

def without (x : Wn) (ds : List Dt) : List Dt := ds.filter fun y => !decide (y.w = x)
theorem without_ent (x : Wn) (ds : List Dt) : (without x ds).map entD = del (ds.map entD) x := by
  unfold without del
  rw [List.filter_map]; rfl
theorem without_mem {x : Wn} {ds : List Dt} {y : Dt} (h : y ∈ without x ds) : y ∈ ds := (List.mem_filter.1 h).1
theorem without_ce (k : List V) (x : Wn) (d : List UInt8) (ds : List Dt) : (ds.map (ceOf k)).filter (fun y => !sameC ⟨k, x, d⟩ y) = (without x ds).map (ceOf k) := by
  unfold without
  rw [List.filter_map]
  congr 1
  refine List.filter_congr fun y _ => ?_
  simp only [sameC, ceOf, Function.comp, decide_true, Bool.true_and]
  exact congrArg _ (decide_eq_decide.2 Iff.rfl)
theorem others_ce (k : List V) (x : Wn) (d : List UInt8) : ∀ (ss : List Sh), (∀ s ∈ ss, s.key ≠ k) → (ces ss).filter (fun y => !sameC ⟨k, x, d⟩ y) = ces ss := fun ss h => by
  have := filter_others (k := k) (x := ⟨x, .int .i64 0, d⟩) ss h
  exact this
theorem split_keys {w : World} {B t mp : Nat} {lo hi nc nw : Int} {p q : List Sh} {s0 : Sh} (h : PQ w B t mp lo hi nc nw (p ++ s0 :: q)) : (∀ s ∈ p, s.key ≠ s0.key ∧ s.mb ≠ s0.mb) ∧ (∀ s ∈ q, s.key ≠ s0.key ∧ s.mb ≠ s0.mb) := by
  have hk := h.keys
  have hm := h.ds
  rw [List.map_append, List.map_cons, List.nodup_append] at hk hm
  refine ⟨fun s hs => ⟨fun e => ?_, fun e => ?_⟩, fun s hs => ⟨fun e => ?_, fun e => ?_⟩⟩
  · exact hk.2.2 _ (List.mem_map.2 ⟨s, hs, rfl⟩) _ (List.mem_cons_self ..) e
  · exact hm.2.2 _ (List.mem_map.2 ⟨s, hs, rfl⟩) _ (List.mem_cons_self ..) e
  · exact (List.nodup_cons.1 hk.2.1).1 (List.mem_map.2 ⟨s, hs, e⟩)
  · exact (List.nodup_cons.1 hm.2.1).1 (List.mem_map.2 ⟨s, hs, e⟩)
theorem drop_ces {w : World} {B t mp : Nat} {lo hi nc nw : Int} {p q : List Sh} {s0 : Sh} (h : PQ w B t mp lo hi nc nw (p ++ s0 :: q)) (x : Wn) (d : List UInt8) : (ces (p ++ s0 :: q)).filter (fun y => !sameC ⟨s0.key, x, d⟩ y) = ces p ++ ((without x s0.ds).map (ceOf s0.key) ++ ces q) := by
  obtain ⟨h1, h2⟩ := split_keys h
  have e : ces (p ++ s0 :: q) = ces p ++ (s0.ds.map (ceOf s0.key) ++ ces q) := by unfold ces cesS; rw [List.flatMap_append, List.flatMap_cons]
  rw [e, List.filter_append, List.filter_append, others_ce _ _ _ _ (fun s hs => (h1 s hs).1), others_ce _ _ _ _ (fun s hs => (h2 s hs).1), without_ce]
/-- What is left behind a Drop. -/
def DropFin (w : World) (B t mp : Nat) (lo hi : Int) (ss : List Sh) (c : Ce) (w' : World) : Prop := ∃ ss', PS w' B t mp lo hi ss' ∧ ces ss' = (ces ss).filter (fun y => !sameC c y) ∧ Gs (Tb t mp ss) w w' ∧ ∀ i, Bl t mp ss' i → Bl t mp ss i
theorem mem_sp {p q : List Sh} {s0 s : Sh} (h : s ∈ p ++ q) : s ∈ p ++ s0 :: q := by
  rcases List.mem_append.1 h with h | h
  · exact List.mem_append.2 (.inl h)
  · exact List.mem_append.2 (.inr (List.mem_cons_of_mem _ h))
theorem drop_some {w w5 w6 : World} {B t mp : Nat} {lo hi nc nw : Int} {p q : List Sh} {s0 : Sh} {x : Wn} {d : List UInt8} (h : PQ w B t mp lo hi nc nw (p ++ s0 :: q)) (g6 : Gs (fun i => i = t ∨ i = s0.mb) w w6)
    (o6 : Own w6 t 82 5 [.int .i64 lo, .int .i64 hi, .map (some mp), .int .i64 (((ces (p ++ s0 :: q)).filter (fun y => !sameC ⟨s0.key, x, d⟩ y)).length : Int), .int .i64 (wt ((ces (p ++ s0 :: q)).filter (fun y => !sameC ⟨s0.key, x, d⟩ y)) : Int)]) (m6 : MP w6 wk s0.mb (del (s0.ds.map entD) x)) (hne : without x s0.ds ≠ []) :
    DropFin w B t mp lo hi (p ++ s0 :: q) ⟨s0.key, x, d⟩ w6 := by
  obtain ⟨h1, h2⟩ := split_keys h
  have hs0 : s0 ∈ p ++ s0 :: q := by simp
  have hk0 := h.sho s0 hs0
  have hn0 := h.ne.2 s0 hs0
  have hce : ces (p ++ { s0 with ds := without x s0.ds } :: q) = (ces (p ++ s0 :: q)).filter (fun y => !sameC ⟨s0.key, x, d⟩ y) := by
    rw [drop_ces h]; unfold ces cesS; rw [List.flatMap_append, List.flatMap_cons]
  have hTb : ∀ i, Tb t mp (p ++ { s0 with ds := without x s0.ds } :: q) i → Tb t mp (p ++ s0 :: q) i := fun i hi' => by
    rcases hi' with e | e | ⟨s, hs, e⟩
    · exact .inl e
    · exact .inr (.inl e)
    · rcases List.mem_append.1 hs with hs | hs
      · exact .inr (.inr ⟨s, by simp [hs], e⟩)
      · rcases List.mem_cons.1 hs with rfl | hs
        · exact .inr (.inr ⟨s0, hs0, e⟩)
        · exact .inr (.inr ⟨s, by simp [hs], e⟩)
  have hFx : ∀ i, Fx (p ++ { s0 with ds := without x s0.ds } :: q) i → Fx (p ++ s0 :: q) i := fun i hi' => by
    obtain ⟨s, hs, hf⟩ := hi'
    rcases List.mem_append.1 hs with hs | hs
    · exact ⟨s, by simp [hs], hf⟩
    · rcases List.mem_cons.1 hs with rfl | hs
      · refine ⟨s0, hs0, ?_⟩
        rcases hf with hf | ⟨y, hy, hf⟩
        · exact .inl hf
        · exact .inr ⟨y, without_mem hy, hf⟩
      · exact ⟨s, by simp [hs], hf⟩
  have hout : ∀ s ∈ p ++ s0 :: q, ∀ i, (s.kv.ownBlock = some i ∨ ∃ y ∈ s.ds, y.v.ownBlock = some i) → ¬ (i = t ∨ i = s0.mb) := fun s hs i hi' e => by
    refine h.fx i ⟨s, hs, hi'⟩ ?_
    rcases e with e | e
    · exact .inl e
    · exact .inr (.inr ⟨s0, hs0, e⟩)
  refine ⟨p ++ { s0 with ds := without x s0.ds } :: q, ⟨by rw [hce]; exact o6, ?_, ?_, h.ge, ⟨h.ne.1, ?_⟩, ?_, fun i hi' ht => h.fx i (hFx i hi') (hTb i ht), ?_, h.rg⟩, hce, g6.mono (fun i _ e => ?_), fun i hi' => ?_⟩
  · have := g6.map h.mpo (fun e => by rcases e with e | e; exact h.ne.1 e.symm; exact hn0.2 e.symm)
    simpa [entS] using this
  · intro s hs
    have hold : ∀ s ∈ p ++ s0 :: q, s.mb ≠ s0.mb → ShOk w6 B lo hi s := fun s hs hm => (h.sho s hs).kept g6 (fun e => by rcases e with e | e; exact (h.ne.2 s hs).1 e; exact hm e) (hout s hs)
    rcases List.mem_append.1 hs with hs | hs
    · exact hold s (by simp [hs]) (h1 s hs).2
    · rcases List.mem_cons.1 hs with rfl | hs
      · refine ⟨g6.own hk0.key fun g hg => hout s0 hs0 g (.inl hg), hk0.good, hk0.val, hk0.gl, hk0.gh, by rw [without_ent]; exact m6, hk0.ge, hne, fun y hy => ?_⟩
        exact ⟨g6.own (hk0.dat y (without_mem hy)).1 fun g hg => hout s0 hs0 g (.inr ⟨y, without_mem hy, hg⟩), (hk0.dat y (without_mem hy)).2⟩
      · exact hold s (by simp [hs]) (h2 s hs).2
  · intro s hs
    rcases List.mem_append.1 hs with hs | hs
    · exact h.ne.2 s (by simp [hs])
    · rcases List.mem_cons.1 hs with rfl | hs
      · exact hn0
      · exact h.ne.2 s (by simp [hs])
  · have := h.ds; simpa using this
  · rw [hce]; exact Nat.le_trans (wt_sub List.filter_sublist) h.wl
  · rcases e with e | e
    · exact .inl e
    · exact .inr (.inr ⟨s0, hs0, e⟩)
  · rcases hi' with e | e
    · exact .inl (hTb i e)
    · exact .inr (hFx i e)
theorem del_names {p q : List Sh} {s0 : Sh} (hn : ((p ++ s0 :: q).map fun s => nameOf s.key).Nodup) : del ((p ++ s0 :: q).map entS) (nameOf s0.key) = (p ++ q).map entS := by
  rw [List.map_append, List.map_cons, List.nodup_append] at hn
  unfold del
  rw [List.map_append, List.map_cons, List.filter_append, List.filter_cons_of_neg (by simp [entS]), List.map_append]
  congr 1
  · refine List.filter_eq_self.2 fun e he => ?_
    obtain ⟨s, hs, rfl⟩ := List.mem_map.1 he
    simp only [entS, Bool.not_eq_true']
    exact decide_eq_false fun e => hn.2.2 _ (List.mem_map.2 ⟨s, hs, rfl⟩) _ (List.mem_cons_self ..) e
  · refine List.filter_eq_self.2 fun e he => ?_
    obtain ⟨s, hs, rfl⟩ := List.mem_map.1 he
    simp only [entS, Bool.not_eq_true']
    exact decide_eq_false fun e => (List.nodup_cons.1 hn.2.1).1 (List.mem_map.2 ⟨s, hs, e⟩)
theorem drop_none {w w6 : World} {B t mp : Nat} {lo hi nc nw : Int} {p q : List Sh} {s0 : Sh} {x : Wn} {d : List UInt8} (h : PQ w B t mp lo hi nc nw (p ++ s0 :: q)) (g6 : Gs (fun i => i = t ∨ i = s0.mb ∨ i = mp) w w6)
    (o6 : Own w6 t 82 5 [.int .i64 lo, .int .i64 hi, .map (some mp), .int .i64 (((ces (p ++ s0 :: q)).filter (fun y => !sameC ⟨s0.key, x, d⟩ y)).length : Int), .int .i64 (wt ((ces (p ++ s0 :: q)).filter (fun y => !sameC ⟨s0.key, x, d⟩ y)) : Int)]) (m6 : MP w6 sk mp (del ((p ++ s0 :: q).map entS) (nameOf s0.key))) (hne : without x s0.ds = []) :
    DropFin w B t mp lo hi (p ++ s0 :: q) ⟨s0.key, x, d⟩ w6 := by
  obtain ⟨h1, h2⟩ := split_keys h
  have hs0 : s0 ∈ p ++ s0 :: q := by simp
  have hce : ces (p ++ q) = (ces (p ++ s0 :: q)).filter (fun y => !sameC ⟨s0.key, x, d⟩ y) := by
    rw [drop_ces h, hne]; unfold ces; rw [List.flatMap_append]; rfl
  have hTb : ∀ i, Tb t mp (p ++ q) i → Tb t mp (p ++ s0 :: q) i := fun i hi' => by
    rcases hi' with e | e | ⟨s, hs, e⟩
    · exact .inl e
    · exact .inr (.inl e)
    · exact .inr (.inr ⟨s, mem_sp hs, e⟩)
  have hFx : ∀ i, Fx (p ++ q) i → Fx (p ++ s0 :: q) i := fun i hi' => by
    obtain ⟨s, hs, hf⟩ := hi'
    exact ⟨s, mem_sp hs, hf⟩
  have hout : ∀ s ∈ p ++ s0 :: q, ∀ i, (s.kv.ownBlock = some i ∨ ∃ y ∈ s.ds, y.v.ownBlock = some i) → ¬ (i = t ∨ i = s0.mb ∨ i = mp) := fun s hs i hi' e => by
    refine h.fx i ⟨s, hs, hi'⟩ ?_
    rcases e with e | e | e
    · exact .inl e
    · exact .inr (.inr ⟨s0, hs0, e⟩)
    · exact .inr (.inl e)
  refine ⟨p ++ q, ⟨by rw [hce]; exact o6, ?_, ?_, h.ge, ⟨h.ne.1, fun s hs => h.ne.2 s (mem_sp hs)⟩, ?_, fun i hi' ht => h.fx i (hFx i hi') (hTb i ht), ?_, h.rg⟩, hce, g6.mono (fun i _ e => ?_), fun i hi' => ?_⟩
  · rw [← del_names h.names]; exact m6
  · intro s hs
    have hm : s.mb ≠ s0.mb := by
      rcases List.mem_append.1 hs with hs | hs
      · exact (h1 s hs).2
      · exact (h2 s hs).2
    have hs' := mem_sp (s0 := s0) hs
    exact (h.sho s hs').kept g6 (fun e => by rcases e with e | e | e; exact (h.ne.2 s hs').1 e; exact hm e; exact (h.ne.2 s hs').2 e) (hout s hs')
  · refine h.ds.sublist ((List.Sublist.append (List.Sublist.refl p) (List.sublist_cons_self s0 q)).map _)
  · rw [hce]; exact Nat.le_trans (wt_sub List.filter_sublist) h.wl
  · rcases e with e | e | e
    · exact .inl e
    · exact .inr (.inr ⟨s0, hs0, e⟩)
    · exact .inr (.inl e)
  · rcases hi' with e | e
    · exact .inl (hTb i e)
    · exact .inr (hFx i e)
/-- How many there are behind a Drop, and what they weigh. -/
theorem drop_num {l : List Ce} {c o : Ce} (ha : Apart l) (ho : o ∈ l) (hk : o.key = c.key) (hw : o.w = c.w) : ((l.filter fun y => !sameC c y).length : Int) = (l.length : Int) - 1 ∧ ((wt (l.filter fun y => !sameC c y) : Nat) : Int) = (wt l : Int) - ((o.d.length + 64 * o.key.length + 32 : Nat) : Int) := by
  have hp := putC_len ha ho hk hw
  have h1 := hp.length_eq
  have h2 := wt_perm hp
  rw [List.length_cons] at h1
  rw [wt_cons] at h2
  have e : wg o = o.d.length + 64 * o.key.length + 32 := rfl
  omega
end Go.Proofs.YtobhccmnlmlapaaGreatDoor
namespace Go.Proofs.YtobhccmnlmlapaaGreatDoor
open Go.RowKit Go.Maps
set_option linter.unusedVariables false
set_option linter.unusedSimpArgs false
set_option maxRecDepth 100000

def dL : Option Dt → List UInt8
  | some y => y.d
  | none => []
theorem lookV_some {ss : List Sh} {vs : List V} {x : Wn} {y : Dt} (h : lookV ss vs x = some y) : vk vs = true ∧ ∃ s, shOf ss vs = some s ∧ s ∈ ss ∧ s.key = vs ∧ y ∈ s.ds ∧ y.w = x := by
  unfold lookV at h
  split at h
  · rename_i hv
    unfold look at h
    cases hs : shOf ss vs with
    | none => rw [hs] at h; cases h
    | some s =>
      rw [hs] at h
      have h' : dtOf s.ds x = some y := h
      obtain ⟨h1, h2⟩ := shOf_some hs
      obtain ⟨h3, h4⟩ := dtOf_some h'
      exact ⟨hv, s, rfl, h1, h2, h3, h4⟩
  · cases h
theorem lookV_none {w : World} {B t mp : Nat} {lo hi nc nw : Int} {ss : List Sh} {vs : List V} {x : Wn} (hP : PQ w B t mp lo hi nc nw ss) (h : lookV ss vs x = none) : ∀ c ∈ ces ss, ¬ (c.key = vs ∧ c.w = x) := fun c hc e => by
  obtain ⟨s, hs, y, hy, rfl⟩ := mem_ces.1 hc
  obtain ⟨e1, e2⟩ := e
  simp only at e1 e2
  have hvk : vk vs = true := e1 ▸ (hP.sho s hs).val
  unfold lookV at h
  rw [if_pos hvk] at h
  unfold look at h
  cases hso : shOf ss vs with
  | none => exact shOf_none hso s hs e1
  | some s' =>
    rw [hso] at h
    have h' : dtOf s'.ds x = none := h
    obtain ⟨q1, q2⟩ := shOf_some hso
    have e : s = s' := key_inj hP hs q1 (e1.trans q2.symm)
    exact dtOf_none h' y (e ▸ hy) e2
theorem dV_data {w : World} {B t mp : Nat} {lo hi nc nw : Int} {ss : List Sh} (h : PQ w B t mp lo hi nc nw ss) (vs : List V) (x : Wn) : ∃ a c, dV (lookV ss vs x) = .slice a (dL (lookV ss vs x)).length c ∧ Wr.Bytes w a (dL (lookV ss vs x)).length (Wr.lat (dL (lookV ss vs x))) ∧ (dL (lookV ss vs x)).length ≤ 67108864 := by
  cases hl : lookV ss vs x with
  | none => exact ⟨none, 0, rfl, (fun i hi => by simp [dL] at hi), by simp [dL]⟩
  | some y =>
    obtain ⟨-, s, -, hs, hk, hy, hw⟩ := lookV_some hl
    obtain ⟨a, c, e, hb, -⟩ := ((h.sho s hs).dat y hy).1.conv
    refine ⟨a, c, e, hb, ?_⟩
    have hm : (⟨s.key, y.w, y.d⟩ : Ce) ∈ ces ss := mem_ces.2 ⟨s, hs, y, hy, rfl⟩
    have h1 := wt_sub (List.singleton_sublist.2 hm)
    have h2 := h.wl
    have h3 : wt [(⟨s.key, y.w, y.d⟩ : Ce)] = y.d.length + 64 * s.key.length + 32 := by simp [wt, wg, wgh]
    show y.d.length ≤ _
    omega
set_option maxHeartbeats 2000000 in
theorem get_any (vs : List V) (a : Option Addr) (c : Nat) (x : Wn) (w : World) (B t mp : Nat) (lo hi : Int) (ss : List Sh) (h : PS w B t mp lo hi ss) (hl : VLies w a vs) (hg : GoodK vs) (hvl : vs.length ≤ 549755813888) (hx : Fits x) :
    Calls Tryz.prog 22 #[.pointer (some ⟨t, 0, none⟩), .slice a vs.length c, vv x] w fun e w' => ∃ v, e = .returned (.tuple #[v, .bool (lookV ss vs x).isSome]) ∧ Wr.OL w' w.heap.size v (dL (lookV ss vs x)) ∧ Below w.heap.size w w' := by
  have HB0 := hidMk (bel1 w (.cells #[.int .i64 x.f, .int .i64 x.t] 38))
  have HF := hidMk (fun W (hb : Below w.heap.size w W) => find_any vs a c x W B t mp lo hi ss (h.later hb) (hl.later hb) hg hvl hx)
  obtain ⟨da, dc, e1, e2, e3⟩ := dV_data h vs x
  have HC := hidMk (fun W (hb : Below w.heap.size w W) => bclone_any da (dL (lookV ss vs x)) dc W (e2.later hb) (by omega))
  rw [e1] at HF
  clear h hl hg e1 e2
  generalize dL (lookV ss vs x) = L at *
  generalize (lookV ss vs x).isSome = b at *
  unfold vv at *
  go_enter Tryz.func22, Tryz.ntmps22
  go_wp2_with fail
  refine (HF.out _ HB0.out).mono ?_
  rintro e w1 ⟨rfl, hb⟩
  have HB1 := hidMk (HB0.out.trans (hb.mono HB0.out.size))
  clear hb HF
  go_wp2_with fail
  refine (HC.out _ HB1.out).mono ?_
  rintro e w2 ⟨v, rfl, o2, hb⟩
  have HB2 := hidMk (HB1.out.trans (hb.mono HB1.out.size))
  have HO : Hid (Wr.OL w2 w.heap.size v L) := World.ownsRow.mono o2 HB1.out.size
  clear hb o2 HC
  go_wp2_with fail
  go_ret2
  exact ⟨v, rfl, HO.out, HB2.out⟩
theorem drop_some' {w w6 : World} {B t mp : Nat} {lo hi nc nw : Int} {ss : List Sh} {s0 : Sh} {x : Wn} {d : List UInt8} (h : PQ w B t mp lo hi nc nw ss) (hs : s0 ∈ ss) (g6 : Gs (fun i => i = t ∨ i = s0.mb) w w6)
    (o6 : Own w6 t 82 5 [.int .i64 lo, .int .i64 hi, .map (some mp), .int .i64 (((ces ss).filter (fun y => !sameC ⟨s0.key, x, d⟩ y)).length : Int), .int .i64 (wt ((ces ss).filter (fun y => !sameC ⟨s0.key, x, d⟩ y)) : Int)]) (m6 : MP w6 wk s0.mb (del (s0.ds.map entD) x)) (hne : without x s0.ds ≠ []) :
    DropFin w B t mp lo hi ss ⟨s0.key, x, d⟩ w6 := by
  obtain ⟨p, q, rfl⟩ := List.append_of_mem hs
  exact drop_some (w5 := w) h g6 o6 m6 hne
theorem drop_none' {w w6 : World} {B t mp : Nat} {lo hi nc nw : Int} {ss : List Sh} {s0 : Sh} {x : Wn} {d : List UInt8} (h : PQ w B t mp lo hi nc nw ss) (hs : s0 ∈ ss) (g6 : Gs (fun i => i = t ∨ i = s0.mb ∨ i = mp) w w6)
    (o6 : Own w6 t 82 5 [.int .i64 lo, .int .i64 hi, .map (some mp), .int .i64 (((ces ss).filter (fun y => !sameC ⟨s0.key, x, d⟩ y)).length : Int), .int .i64 (wt ((ces ss).filter (fun y => !sameC ⟨s0.key, x, d⟩ y)) : Int)]) (m6 : MP w6 sk mp (del (ss.map entS) (nameOf s0.key))) (hne : without x s0.ds = []) :
    DropFin w B t mp lo hi ss ⟨s0.key, x, d⟩ w6 := by
  obtain ⟨p, q, rfl⟩ := List.append_of_mem hs
  exact drop_none h g6 o6 m6 hne
theorem MP_len {w : World} {b : Nat} {m : List (Wn × Value)} (h : MP w wk b m) (ty : TypeId) : (Builtin.len_ #[85] ty #[.map (some b)]).run Tryz.prog w = .ok (.int .i64 (m.length : Int)) w := by
  obtain ⟨es, h1, h2, h3⟩ := h
  rw [h1.len Tryz.underlying85 ty]
  have e : Maps.size (DataW.map es) = m.length := by
    show es.length = _
    rw [h2.length_eq]
    unfold mpOf
    simp
  rw [e]
set_option maxHeartbeats 4000000 in
theorem drop_any (vs : List V) (a : Option Addr) (c : Nat) (x : Wn) (w : World) (B t mp : Nat) (lo hi : Int) (ss : List Sh) (h : PS w B t mp lo hi ss) (hl : VLies w a vs) (hg : GoodK vs) (hvl : vs.length ≤ 549755813888) (hx : Fits x) (hat : ∀ y, a = some y → 0 < vs.length → y.block ≠ t) :
    Calls Tryz.prog 24 #[.pointer (some ⟨t, 0, none⟩), .slice a vs.length c, vv x] w fun e w' => (lookV ss vs x = none ∧ e = .returned (.bool false) ∧ Below w.heap.size w w') ∨ (∃ y, lookV ss vs x = some y ∧ e = .returned (.bool true) ∧ DropFin w B t mp lo hi ss ⟨vs, x, []⟩ w') := by
  have hB0 := bel1 w (.cells #[.int .i64 x.f, .int .i64 x.t] 38)
  have d0 : (w.alloc (.cells #[.int .i64 x.f, .int .i64 x.t] 38)).cell? ⟨w.heap.size, 0, none⟩ = some (.int .i64 x.f) := by simp
  have d1 : (w.alloc (.cells #[.int .i64 x.f, .int .i64 x.t] 38)).cell? ⟨w.heap.size, 1, none⟩ = some (.int .i64 x.t) := by simp
  have HB0 := hidMk hB0
  have HF := hidMk (fun W (hb : Below w.heap.size w W) => find_any vs a c x W B t mp lo hi ss (h.later hb) (hl.later hb) hg hvl hx)
  have HS := hidMk h
  have HL := hidMk hl
  have HG := hidMk hg
  have HAT := hidMk hat
  obtain ⟨da, dc, e1, e2, e3⟩ := dV_data h vs x
  rw [e1] at HF
  generalize hW : w.alloc (.cells #[.int .i64 x.f, .int .i64 x.t] 38) = W at *
  have hszW : W.heap.size = w.heap.size + 1 := by rw [← hW]; simp
  clear h hl hg hat hB0 e1 e2
  unfold vv at *
  go_enter Tryz.func24, Tryz.ntmps24
  go_wp2_with fail
  try rw [hW]
  clear hW
  refine (HF.out _ HB0.out).mono ?_
  rintro e w1 ⟨rfl, hb⟩
  replace d0 := cell_later hb d0
  replace d1 := cell_later hb d1
  have HB1 := hidMk (HB0.out.trans (hb.mono HB0.out.size))
  have hs1 := hb.size
  clear hb HF
  cases hlk : lookV ss vs x with
  | none =>
    go_wp2_with fail
    go_ret
    exact .inl ⟨hlk, rfl, HB1.out⟩
  | some y =>
    obtain ⟨hvk, s0, hso, hs0, hk0, hy, hyw⟩ := lookV_some hlk
    have hmem : (⟨s0.key, y.w, y.d⟩ : Ce) ∈ ces ss := mem_ces.2 ⟨s0, hs0, y, hy, rfl⟩
    obtain ⟨hn1, hn2⟩ := drop_num (c := ⟨vs, x, []⟩) HS.out.apart hmem hk0 hyw
    rw [hlk] at e3
    simp only [dL, Option.isSome_some] at e3 ⊢
    simp only [hk0] at hn2
    have HP1 := hidMk (HS.out.later HB1.out)
    obtain ⟨c0, c1, c2, c3, c4⟩ := HP1.out.cells
    have f4 := HP1.out.own.soft 4
    have f3 := HP1.out.own.soft 3
    have hwl := HS.out.wl
    have hcl := wt_len (ces ss)
    have HW := hidMk (fun W => weigh_any a vs.length c da y.d.length dc W hvl (by omega))
    obtain ⟨td1, td2⟩ := HP1.out.told (((ces ss).length : Int) - 1) ((wt (ces ss) : Int) - ((y.d.length : Int) + 64 * (vs.length : Int) + 32))
    have HT5 := hidMk td1.drew
    have HG5 : Hid (Gs (fun i => i = t) w ((w1.setCell ⟨t, 4, none⟩ (.int .i64 ((wt (ces ss) : Int) - ((y.d.length : Int) + 64 * (vs.length : Int) + 32)))).setCell ⟨t, 3, none⟩ (.int .i64 (((ces ss).length : Int) - 1))).drew) := ((Gs.below HB1.out).trans td2).trans (Gs.below (below_drewN (Below.refl _ _) 1))
    have hwt : w.heap.size ≠ t := fun e => by have h9 : t < w.heap.size := (HS.out.lt (i := t) (.inl (.inl rfl))).2; omega
    have HX5 : Hid (((w1.setCell ⟨t, 4, none⟩ (.int .i64 ((wt (ces ss) : Int) - ((y.d.length : Int) + 64 * (vs.length : Int) + 32)))).setCell ⟨t, 3, none⟩ (.int .i64 (((ces ss).length : Int) - 1))).drew.cell? ⟨w.heap.size, 0, none⟩ = some (.int .i64 x.f) ∧ ((w1.setCell ⟨t, 4, none⟩ (.int .i64 ((wt (ces ss) : Int) - ((y.d.length : Int) + 64 * (vs.length : Int) + 32)))).setCell ⟨t, 3, none⟩ (.int .i64 (((ces ss).length : Int) - 1))).drew.cell? ⟨w.heap.size, 1, none⟩ = some (.int .i64 x.t)) := ⟨td2.cell d0 hwt, td2.cell d1 hwt⟩
    have HV5 : Hid (VLies ((w1.setCell ⟨t, 4, none⟩ (.int .i64 ((wt (ces ss) : Int) - ((y.d.length : Int) + 64 * (vs.length : Int) + 32)))).setCell ⟨t, 3, none⟩ (.int .i64 (((ces ss).length : Int) - 1))).drew a vs) := fun i hi => by
      obtain ⟨b, off, e, q1, q2, q3⟩ := HL.out i hi
      have hb : b ≠ t := HAT.out _ e (by omega)
      exact ⟨b, off, e, HG5.out.cell q1 hb, HG5.out.cell q2 hb, HG5.out.cell q3 hb⟩
    clear td1 td2
    have HLK := hidMk hlk
    have HN1 := hidMk hn1
    have HN2 := hidMk hn2
    have HSO := hidMk hso
    have HS0 := hidMk hs0
    have HK0 := hidMk hk0
    have HY := hidMk hy
    have HYW := hidMk hyw
    have HVK := hidMk hvk
    have hnw : y.d.length + 64 * vs.length + 32 ≤ wt (ces ss) := by
      have : (0 : Int) ≤ ((wt ((ces ss).filter fun y => !sameC ⟨vs, x, []⟩ y) : Nat) : Int) := by omega
      omega
    clear hlk hso hs0 hk0 hy hyw hvk hmem hn1 hn2
    go_wp2_with fail
    refine wp_region_head (K := 10) (C := (fun W => W = w1.drew)) 8 (by kernel_rfl) (by kernel_rfl) (by kernel_rfl) (by decide) (by kernel_rfl) (by kernel_rfl) rfl ?_
    simp only [List.take_succ_cons, List.take_zero]
    iterate 6
      with_reducible refine wpQuiet_step ?_
      intro K hK
      go_simp
      refine hK _ ?_
      clear hK K
    with_reducible refine wpQuiet_step ?_
    intro K hK
    go_simp
    refine ⟨_, HW.out _, hK _ ?_⟩
    clear hK K
    iterate 3
      with_reducible refine wpQuiet_step ?_
      intro K hK
      go_simp
      refine hK _ ?_
      clear hK K
    intro w' hC
    obtain rfl := hC
    refine wpAny_ready (fuel := 0) (rs := [10]) (by kernel_rfl) (by simp) ?_
    refine AllReady.cons rfl (fun K hK => ?_) AllReady.nil
    go_simp
    refine hK _ _ ?_
    clear hK K
    refine ⟨by kernel_rfl, ?_⟩
    have hs5 := HG5.out.size
    go_wp2_with fail
    generalize hW5 : ((w1.setCell ⟨t, 4, none⟩ (.int .i64 ((wt (ces ss) : Int) - ((y.d.length : Int) + 64 * (vs.length : Int) + 32)))).setCell ⟨t, 3, none⟩ (.int .i64 (((ces ss).length : Int) - 1))).drew = W5 at *
    clear hW5 c0 c1 c2 c3 c4 f3 f4 d0 d1
    have HSH := shelfOf_any vs a c W5 B t mp lo hi ss HT5.out HV5.out HG.out hvl
    rw [HVK.out, if_pos rfl, HSO.out] at HSH
    obtain ⟨ka, kc, hkv, -, -⟩ := (HT5.out.sho s0 HS0.out).key.form
    simp only [shV, hkv] at HSH
    refine HSH.mono ?_
    rintro e w6 ⟨rfl, hb6⟩
    clear HSH
    have HB6 := hidMk hb6
    have HT6 := hidMk (HT5.out.later hb6)
    obtain ⟨d0, d1⟩ := HX5.out
    replace d0 := cell_later hb6 d0
    replace d1 := cell_later hb6 d1
    clear hb6
    have HT7 := hidMk (HT6.out.later (bel1 w6 (.cells #[.slice ka s0.key.length kc, .map (some s0.mb)] 87)))
    have d0' := cell_later (bel1 w6 (.cells #[.slice ka s0.key.length kc, .map (some s0.mb)] 87)) d0
    have d1' := cell_later (bel1 w6 (.cells #[.slice ka s0.key.length kc, .map (some s0.mb)] 87)) d1
    obtain ⟨w8, hr8, hm8, ht8⟩ := (HT7.out.sho s0 HS0.out).map.drop lawV Tryz.underlying85 x hx 0
    have hr8' : (Builtin.delete_ #[85, 38] 0 #[.map (some s0.mb), .agg #[.int .i64 x.f, .int .i64 x.t]]).run Tryz.prog (w6.alloc (.cells #[.slice ka s0.key.length kc, .map (some s0.mb)] 87)) = .ok (.tuple #[]) w8 := hr8
    have HM8 := hidMk hm8
    have HT8 := hidMk ht8.grown
    clear hr8 hm8 ht8
    have o7 := HT7.out.own.grown HT8.out (fun e => (HT7.out.ne.2 s0 HS0.out).1 (Option.some.inj e).symm)
    have hl6 : s0.mb < w6.heap.size := (HT6.out.sho s0 HS0.out).map.lt
    have ox := (Own.new w6 87 2 #[.slice ka s0.key.length kc, .map (some s0.mb)] rfl).grown HT8.out (fun e => by have := Option.some.inj e; omega)
    have x1 : w8.cell? ⟨w6.heap.size, 1, none⟩ = some (.map (some s0.mb)) := ox.cell 1 (by decide)
    have hln := MP_len HM8.out 3
    rw [← without_ent, List.length_map] at hln
    have G8 : Gs (fun i => i = t ∨ i = s0.mb) w w8 := (((HG5.out.mono (fun i _ e => .inl e)).trans (Gs.below HB6.out)).trans (Gs.below (bel1 _ _))).trans (Gs.one HT8.out (fun k e => .inr (Option.some.inj e).symm))
    have HG8 := hidMk G8
    have O8 : Own w8 t 82 5 [.int .i64 lo, .int .i64 hi, .map (some mp), .int .i64 (((ces ss).filter (fun y => !sameC ⟨vs, x, []⟩ y)).length : Int), .int .i64 (wt ((ces ss).filter (fun y => !sameC ⟨vs, x, []⟩ y)) : Int)] := by
      rw [HN1.out, HN2.out]
      push_cast
      exact o7
    have HO8 := hidMk O8
    have c2 : w8.cell? ⟨t, 2, none⟩ = some (.map (some mp)) := O8.cell 2 (by decide)
    clear o7 ox G8 O8
    by_cases hem : without x s0.ds = []
    · have hz : (without x s0.ds).length = 0 := by rw [hem]; rfl
      rw [hz] at hln
      have HEM := hidMk hem
      have hs8 := HG8.out.size
      have hmp8 : MP w8 sk mp (ss.map entS) := HT7.out.mpo.kept HT8.out (fun e => (HT7.out.ne.2 s0 HS0.out).2 (Option.some.inj e).symm)
      have HV8 : Hid (VLies w8.drew a vs) := fun i hi => by
        obtain ⟨b, off, e, q1, q2, q3⟩ := HL.out i hi
        have hb : ¬ (b = t ∨ b = s0.mb) := by
          rintro (h | h)
          · exact HAT.out _ e (by omega) h
          · exact map_no_cell (HS.out.sho s0 HS0.out).map _ _ (h ▸ q1)
        exact ⟨b, off, e, HG8.out.cell q1 hb, HG8.out.cell q2 hb, HG8.out.cell q3 hb⟩
      have HN := hidMk (name_any vs a c w8.drew HV8.out HG.out HVK.out)
      have HF : Hid (∀ w9, Below w8.drew.heap.size w8.drew w9 → w9.cell? ⟨t, 2, none⟩ = some (.map (some mp)) ∧ ∃ w10, (Builtin.delete_ #[80, 9] 0 #[.map (some mp), .string (nameOf vs)]).run Tryz.prog w9 = .ok (.tuple #[]) w10 ∧ DropFin w B t mp lo hi ss ⟨vs, x, []⟩ w10) := fun w9 hb9 => by
        have hb9' : Below w8.heap.size w8 w9 := (below_drewN (Below.refl _ w8) 1).trans hb9
        have hm9 : MP w9 sk mp (ss.map entS) := hmp8.kept (grown_below (r := none) hb9') (by simp)
        obtain ⟨w10, hr, hm, ht⟩ := hm9.drop K9 Tryz.underlying80 (nameOf vs) (name_size vs HVK.out HG.out) 0
        refine ⟨cell_later hb9' c2, w10, hr, ?_⟩
        have hne : t ≠ mp := HS.out.ne.1
        have := drop_none' (x := x) (d := []) HS.out HS0.out (((HG8.out.mono (T := fun i => i = t ∨ i = s0.mb ∨ i = mp) (fun i _ e => e.elim .inl (fun e => .inr (.inl e)))).trans (Gs.below hb9')).trans (Gs.one ht.grown (fun k e => .inr (.inr (Option.some.inj e).symm)))) (by rw [HK0.out]; exact (HO8.out.later hb9').grown ht.grown (fun e => hne (Option.some.inj e))) (by rw [HK0.out]; exact hm) HEM.out
        rw [HK0.out] at this
        exact this
      clear hmp8 hem hz
      go_wp2_with fail
      go_region_with (first | (go_at_call 52; refine HN.out.mono ?_; rintro e w9 ⟨rfl, hb⟩; obtain ⟨c2', w10, hr10, hfin⟩ := HF.out _ hb; have HFIN := hidMk hfin; clear hb hfin))
      all_goals
        go_wp2_with fail
        go_ret
        exact .inr ⟨y, HLK.out, rfl, HFIN.out⟩
    · have hz : ¬ (without x s0.ds).length = 0 := fun e => hem (List.eq_nil_of_length_eq_zero e)
      have HFIN : Hid (DropFin w B t mp lo hi ss ⟨vs, x, []⟩ w8) := by
        have := drop_some' (x := x) (d := []) HS.out HS0.out HG8.out (by rw [HK0.out]; exact HO8.out) HM8.out hem
        rw [HK0.out] at this
        exact this
      have hz' : ((((without x s0.ds).length : Int)) == 0) = false := by simp; omega
      generalize (without x s0.ds).length = L at *
      clear hem
      go_wp2_with fail
      go_ret
      exact .inr ⟨y, HLK.out, rfl, HFIN.out⟩
end Go.Proofs.YtobhccmnlmlapaaGreatDoor
