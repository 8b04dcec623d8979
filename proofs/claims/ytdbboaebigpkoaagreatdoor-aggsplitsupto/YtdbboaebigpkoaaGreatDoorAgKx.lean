import Derived.Test.YtdbboaebigpkoaaGreatDoorAgW3
import Derived.RangeFuncSeq
import Derived.RangeFuncGives
import Derived.RangeFuncNested
import Derived.RangeFuncBox
import Derived.Sort.MapsRangeIn
import Derived.Sort.KeysCollected
import Derived.WalkKit
import Derived.OwnWalkIn
import Derived.TacticsInMore
import Derived.RegionIn
import Derived.LoopNIn
import Derived.LoopIn
import Derived.Deep.AppendLies
namespace Go.Proofs.YtdbboaebigpkoaaGreatDoor
open Go.RowKit Go.Maps Go.Sort
set_option linter.unusedVariables false
set_option linter.unusedSimpArgs false
set_option maxRecDepth 100000

theorem kl_int {t : TypeId} (hu : Tryz.prog.underlying t = some (.int .i64)) (d : Nat) (x : Value) (ls : List Lit) (h : Tryz.prog.keyLits (d + 1) t [x] = some ls) : ∃ n, x = .int .i64 n ∧ (Lit.int .i64 n).wf = true ∧ ls = [.int .i64 n] := by
  unfold Program.keyLits at h
  rw [hu] at h
  cases x <;> simp at h
  obtain ⟨⟨rfl, h1⟩, rfl⟩ := h
  exact ⟨_, rfl, h1, rfl⟩
theorem kl_str {t : TypeId} (hu : Tryz.prog.underlying t = some .string) (d : Nat) (x : Value) (ls : List Lit) (h : Tryz.prog.keyLits (d + 1) t [x] = some ls) : ∃ s : ByteArray, x = .string s ∧ s.size ≤ maxLen ∧ ls = [.string s.data.toList] := by
  unfold Program.keyLits at h
  rw [hu] at h
  cases x <;> simp at h
  obtain ⟨h1, rfl⟩ := h
  exact ⟨_, rfl, h1, rfl⟩
theorem keyV_inv {key : Value} {kl : Lit} (h : keyOf Tryz.prog 25 key = some kl) : ∃ v, key = vv v ∧ Fits v ∧ kl = keyV v := by
  have hu := Tryz.underlying25
  unfold keyOf at h
  rw [hu] at h
  simp only [keyTypeV, Bool.true_and] at h
  split at h
  case isFalse => cases h
  case isTrue hf =>
    cases key <;> simp [Value.formed, hu] at hf
    rename_i cs
    rw [cellsOfV] at hf
    obtain ⟨a, b, c, rfl⟩ : ∃ a b c, cs = #[a, b, c] := by
      obtain ⟨l⟩ := cs
      match l, hf with
      | [a, b, c], _ => exact ⟨a, b, c, rfl⟩
    rw [show Tryz.prog.types.size = (209 - 1) + 1 from by kernel_rfl] at h
    unfold Program.keyLits at h
    rw [hu] at h
    simp [Value.cells, cellsOfV, cellsOfK, cellsOfI, cellsOfS, List.mapM_cons] at h
    cases h1 : Tryz.prog.keyLits (209 - 1 + 1) 23 [a] with
    | none => simp [h1] at h
    | some l1 =>
    cases h2 : Tryz.prog.keyLits (209 - 1 + 1) 2 [b] with
    | none => simp [h1, h2] at h
    | some l2 =>
    cases h3 : Tryz.prog.keyLits (209 - 1 + 1) 9 [c] with
    | none => simp [h1, h2, h3] at h
    | some l3 =>
    simp [h1, h2, h3] at h
    subst h
    obtain ⟨k, rfl, e1, rfl⟩ := kl_int Tryz.underlying23 _ _ _ h1
    obtain ⟨n, rfl, e2, rfl⟩ := kl_int Tryz.underlying2 _ _ _ h2
    obtain ⟨s, rfl, e3, rfl⟩ := kl_str Tryz.underlying9 _ _ _ h3
    exact ⟨⟨k, n, s⟩, rfl, ⟨e1, e2, e3⟩, rfl⟩
theorem vv_inj {a b : V} (h : vv a = vv b) : a = b := by
  obtain ⟨k1, n1, s1⟩ := a
  obtain ⟨k2, n2, s2⟩ := b
  simpa [vv] using h
theorem same_keyV (a b : V) (ha : Fits a) (hb : Fits b) : (keyV a).sameKey (keyV b) = true ↔ a = b := by
  constructor
  · intro h
    refine keyV_inj a b ha hb ?_
    unfold keyV at h ⊢
    simpa [Lit.sameKey] using h
  · rintro rfl; unfold keyV; simp [Lit.sameKey]
/-- What has come of a set, and what is left of it. -/
def CollV (D : DataW Unit) (left : Lit → Bool) (vs : List V) : Prop := vs.Nodup ∧ (∀ v ∈ vs, Fits v) ∧ ∀ v, Fits v → (v ∈ vs ↔ Maps.has D (keyV v) = true ∧ left (keyV v) = false)
theorem CollV.start (D : DataW Unit) : CollV D (Maps.has D) [] := ⟨List.nodup_nil, fun v h => (by cases h), fun v _ => by cases Maps.has D (keyV v) <;> simp⟩
theorem CollV.step {D : DataW Unit} {left : Lit → Bool} {vs : List V} {v : V} {y : DataW Unit} (h : CollV D left vs) (hv : Fits v) (hlk : left (keyV v) = true) (hat : ∀ zd, D.atKey (keyV v) zd = y) : CollV D (fun z => left z && !z.sameKey (keyV v)) (vs ++ [v]) := by
  have hhas : Maps.has D (keyV v) = true := has_true_of_atKey hat
  have hnew : v ∉ vs := fun hx => by have := ((h.2.2 v hv).1 hx).2; rw [hlk] at this; cases this
  refine ⟨List.nodup_append.2 ⟨h.1, by simp, fun a ha b hb => by simp at hb; subst hb; exact fun e => hnew (e ▸ ha)⟩, fun x hx => ?_, fun x hx => ?_⟩
  · rcases List.mem_append.1 hx with h' | h'
    · exact h.2.1 x h'
    · rw [List.mem_singleton.1 h']; exact hv
  · by_cases e : x = v
    · subst e
      have : (keyV x).sameKey (keyV x) = true := (same_keyV x x hv hv).2 rfl
      simp [hhas, this]
    · have : (keyV x).sameKey (keyV v) = false := by
        cases hs : (keyV x).sameKey (keyV v) with
        | false => rfl
        | true => exact absurd ((same_keyV x v hx hv).1 hs) e
      simp [h.2.2 x hx, e, this]
theorem CollV.all {D : DataW Unit} {left : Lit → Bool} {vs l : List V} (h : CollV D left vs) (hl : ∀ kl, left kl = false) (hD : DSet D l) (hf : ∀ v ∈ l, Fits v) : ∀ v, v ∈ vs ↔ v ∈ l := fun v => by
  constructor
  · intro hv
    have hfv := h.2.1 v hv
    exact (hD.2 v hfv).1 ((h.2.2 v hfv).1 hv).1
  · intro hv
    exact (h.2.2 v (hf v hv)).2 ⟨(hD.2 v (hf v hv)).2 hv, hl _⟩
/-- maps.Keys's walk. -/
def KeysV (D : DataW Unit) (vs : List V) : Prop := vs.Nodup ∧ (∀ v ∈ vs, Fits v) ∧ ∀ v, Fits v → (v ∈ vs ↔ Maps.has D (keyV v) = true)
set_option maxHeartbeats 1000000 in
theorem keys1V (F : Fence) (n : Nat) (h10 : F.fn 100) (hro : F.round = none) (hn : 1 ≤ n) (l Bm b nn : Nat) (D0 : DataW Unit) (J Jx : List V → World → Prop)
    (hY : ∀ pre x W, J pre W → pre.length < Maps.size D0 → YieldAt F (n - 1) Tryz.prog l #[vv x] W fun e W' => (e = .returned (.bool true) ∧ J (pre ++ [x]) W' ∧ KeepsWalks W W') ∨ (e = .returned (.bool false) ∧ Jx (pre ++ [x]) W'))
    (W : World) (hJ : AbidesFrom W.heap.size J) (hm : W.cell? ⟨Bm, 0, none⟩ = some (.map (some b))) (hown : W.ownsMap Tryz.prog 25 (unitElem (H := Unit)) b nn D0) (h0 : J [] W) :
    CallsIn F n Tryz.prog 100 #[.func (.yield l) #[] #[], .pointer (some ⟨Bm, 0, none⟩)] W fun e W' => (∃ v, e = .returned v) ∧ ((∃ vs : List V, KeysV D0 vs ∧ J vs W') ∨ (∃ pre : List V, True ∧ Jx pre W')) := by
  refine callsIn_of_wp Tryz.func100 rfl h10 ?_ hro
  simp only [Tryz.ntmps100, List.size_toArray, List.length_cons, List.length_nil, Nat.reduceAdd, Nat.reduceSub, Array.replicate_succ, Array.replicate_zero, List.push_toArray, List.append_toArray, List.nil_append, List.cons_append]
  gi_wp2_with (first
    | (gi_at_range; refine wpListIn_range_own _ rfl _ 92 rfl 25 _ lawV Tryz.underlying92 _ b nn _ rfl hown ?_; intro w0 hrg0 hg0 hs0)
    | gi_in)
  go_frame
  gi_loopw [3] (fun _ wr => ∃ (left : Lit → Bool) (cnt : Nat) (ss : List V), wr.ranges Tryz.prog 25 (unitElem (H := Unit)) b W.heap.size nn D0 left cnt ∧ ss.length + cnt ≤ Maps.size D0 ∧ CollV D0 left ss ∧ J ss wr)
    (fun _ wr => wr.rangeLeft b W.heap.size)
  case atStart =>
    exact ⟨_, _, [], hrg0, by simp, CollV.start D0, hJ [] W w0 none h0 hg0 (fun r e => by cases e)⟩
  case round =>
    obtain ⟨left, cnt, ss, hrg, hcs, hC, hJs⟩ := hrel
    gi_wp2_with (first
      | (gi_at_next; refine wpListIn_next_ranges _ rfl _ rfl 25 lawV (unitElem (H := Unit)) vv id (fun key kl hk => by obtain ⟨x, hx, _⟩ := keyV_inv hk; exact ⟨x, hx⟩) (fun v _ _ => ⟨v, rfl⟩) b W.heap.size nn _ _ _ rfl hrg ?_ ?_)
      | gi_in)
    · intro hc0 hl0
      gi_wp2
      go_end0
      exact ⟨⟨_, rfl⟩, .inl ⟨ss, ⟨hC.1, hC.2.1, fun v hv => by rw [hC.2.2 v hv, hl0]; simp⟩, hJs⟩⟩
    · intro x c kl yd yp w2 cnt2 hkey hlk hv hat hrg2 hlt hg2 hs2 hen
      obtain ⟨x', ex, hfx, rfl⟩ := keyV_inv hkey
      obtain rfl : x = x' := vv_inj ex
      have hJ2 : J ss w2 := hJ ss wr w2 (some W.heap.size) hJs hg2 (fun r e => by cases e; exact ⟨Nat.le_refl _, hrg.iter_walk⟩)
      clear hs2
      have hJ3 : J ss (w2.alloc (.cells #[.int .i64 x.k, .int .i64 x.n, .string x.s] 25)) := hJ ss w2 _ none hJ2 (grown_below (r := none) (bel1 _ _)) (fun r e => by cases e)
      have hrg2' := hrg2.of_walks (KeepsWalks.alloc w2 (.cells #[.int .i64 x.k, .int .i64 x.n, .string x.s] 25))
      obtain ⟨fn, tmps, assign, body, hy, hR⟩ := hY ss x _ hJ3 (by omega)
      obtain ⟨xk, xn, xs⟩ := x
      unfold vv at hen hkey hy
      simp only [vv]
      gi_wp2
      refine hR.mono ?_
      rintro e W3 (⟨rfl, hJ4, hk3⟩ | ⟨rfl, hJx⟩)
      · gi_wp2
        have hrg3 := hrg2'.of_walks hk3
        go_roundw
        case rel => exact ⟨_, cnt2, ss ++ [_], hrg3, by simp; omega, hC.step hfx hlk hat, hJ4⟩
        case measure => rw [hrg3.left_eq, hrg.left_eq]; exact hlt
      · gi_wp2
        refine bodyPost_ret (results_none rfl _ _ _) rfl ?_
        exact ⟨⟨_, rfl⟩, .inr ⟨_, trivial, hJx⟩⟩
theorem keysV_stops (F : Fence) (n : Nat) (h10 : F.fn 100) (hro : F.round = none) (hn : 1 ≤ n) (Bm b nn : Nat) (D0 : DataW Unit) (w : World) (hBm : Bm < w.heap.size) (hm : w.cell? ⟨Bm, 0, none⟩ = some (.map (some b))) (hown : w.ownsMap Tryz.prog 25 (unitElem (H := Unit)) b nn D0) :
    SeqStopsK F n Tryz.prog 100 #[.pointer (some ⟨Bm, 0, none⟩)] (fun v => #[vv v]) KeepsWalks (KeysV D0) (fun _ => True) (Maps.size D0) w := fun l J Jx W hW hJ _ hY h0 =>
  keys1V F n h10 hro hn l Bm b nn D0 J Jx hY W hJ ((hW.cell (p := ⟨Bm, 0, none⟩) hBm).trans hm) (hown.kept (grown_below (r := none) hW) (by simp)) h0
end Go.Proofs.YtdbboaebigpkoaaGreatDoor
namespace Go.Proofs.YtdbboaebigpkoaaGreatDoor
open Go.RowKit Go.Maps Go.Sort
attribute [local go_sem] Oper.semAt_some
set_option linter.unusedVariables false
set_option linter.unusedSimpArgs false
set_option maxRecDepth 100000

/-- A slice of the set's values. -/
def IV (n0 B N : Nat) (pre : List V) (W : World) : Prop := ∃ v, Boxed W B 72 v ∧ W.ownsRow n0 25 3 v pre.length (pre.flatMap cellsV) ∧ pre.length ≤ N
def AxV (x : V) (Bx : Nat) (W : World) : Prop := W.heap[Bx]? = some (.cells #[.int .i64 x.k, .int .i64 x.n, .string x.s] 25 (0, 0))
theorem AxV.cell {x : V} {Bx : Nat} {W : World} (h : AxV x Bx W) : W.cell? ⟨Bx, 0, none⟩ = some (.int .i64 x.k) ∧ W.cell? ⟨Bx, 1, none⟩ = some (.int .i64 x.n) ∧ W.cell? ⟨Bx, 2, none⟩ = some (.string x.s) := by
  unfold AxV at h
  refine ⟨?_, ?_, ?_⟩ <;> simp [World.cell?, h]
set_option maxHeartbeats 2000000 in
theorem appendSeqV (Bm b nn : Nat) (D0 : DataW Unit) (w : World) (hBm : Bm < w.heap.size) (hm : w.cell? ⟨Bm, 0, none⟩ = some (.map (some b))) (hown : w.ownsMap Tryz.prog 25 (unitElem (H := Unit)) b nn D0) (hmax : Maps.size D0 * 32 ≤ 140737488355328) :
    CallsIn Fence.wide 3 Tryz.prog 101 #[.slice none 0 0, .func (.func 100) #[] #[.pointer (some ⟨Bm, 0, none⟩)]] w fun e w' => ∃ u vs, e = .returned u ∧ KeysV D0 vs ∧ vs.length ≤ Maps.size D0 ∧ w'.ownsRow w.heap.size 25 3 u vs.length (vs.flatMap cellsV) ∧ Below w.heap.size w w' := by
  have hn1 : 1 ≤ 3 := by omega
  obtain ⟨i0, hi, hz0, hz1, hz2⟩ := info_parts infoV
  have hbox := Boxed.new w 72 (.slice none 0 0)
  have hb0 := bel1 w (.cells #[.slice none 0 0] 72)
  have hseq := keysV_stops Fence.wide (3 - 1) trivial rfl (by omega) Bm b nn D0 (w.alloc (.cells #[.slice none 0 0] 72)) (by simp; omega) ((hb0.cell (p := ⟨Bm, 0, none⟩) hBm).trans hm) (hown.alloc _)
  refine callsIn_of_wp_marks Tryz.func101 rfl trivial ?_ rfl
  simp only [Tryz.ntmps101, List.size_toArray, List.length_cons, List.length_nil, Nat.reduceAdd, Nat.reduceSub, Array.replicate_succ, Array.replicate_zero, List.push_toArray, List.append_toArray, List.nil_append, List.cons_append]
  gi_wp2
  generalize w.alloc (.cells #[.slice none 0 0] 72) = w2 at *
  refine wpIn_rangeFunc_ownH (F := Fence.wide) rfl hn1 (gf := 100) (lb := #[.pointer (some ⟨Bm, 0, none⟩)]) rfl trivial (xent Tryz.func100 (by kernel_rfl) rfl) hseq walksK_t walksK_b (Below.refl _ _) (fun _ => rfl)
    (fun pre W => IV w.heap.size w.heap.size (Maps.size D0) pre W ∧ Below w.heap.size w W)
    (fun _ _ _ => False)
    (OwnFrom.and (Own.from (holdsRow_own w.heap.size w.heap.size 72 25 3 (fun pre : List V => pre.length) (fun pre => pre.flatMap cellsV) (fun (pre : List V) _ => pre.length ≤ Maps.size D0)) _) (ownFrom_below (Nat.le_refl _) hb0.size))
    (fun _ _ _ _ _ hs _ _ => hs)
    ⟨⟨_, hbox, World.ownsRow_nil _ _ _ _, Nat.zero_le _⟩, hb0⟩
    (fun x a' W => ∃ Bx, AxV x Bx W ∧ a' = { tmps := #[.slice none 0 0, .func (.func 100) #[] #[.pointer (some ⟨Bm, 0, none⟩)], .pointer (some ⟨w.heap.size, 0, none⟩), undef, .slice none 0 0, .pointer (some ⟨Bx, 0, none⟩),
          .func (.func 100) #[] #[.pointer (some ⟨Bm, 0, none⟩)], vv x, undef, undef, undef, undef, undef], defers := [] })
    (fun x a' _ A A' row hs hg hr => by obtain ⟨Bx, h1, h2⟩ := hs; exact ⟨Bx, (grownBy_keeps_cells hg (fun r e => (hr r e).2) h1 rfl).trans h1, h2⟩) ?assign ?body ?done ?stop
  case assign =>
    rintro l pre x W K ⟨hi1, hi2⟩ hK
    unfold vv at hK ⊢
    gi_wp2
    obtain ⟨v, hv, hrow, hle⟩ := hi1
    exact hK _ _ ((KeepsOthers.alloc W _).from _) (KeepsWalks.alloc W _) ⟨⟨v, hv.alloc _, hrow.alloc _, hle⟩, hi2.alloc hi2.size _⟩ ⟨W.heap.size, World.alloc_heap_new W _, rfl⟩
  case body =>
    rintro l pre x a' W hl ⟨r, hr⟩ ⟨⟨v, hv, hrow, -⟩, hB⟩ ⟨Bx, hax, rfl⟩ hlt
    have hc := hv.cell
    obtain ⟨hx0, hx1, hx2⟩ := hax.cell
    have hxl : Bx < W.heap.size := (Array.getElem?_eq_some_iff.1 hax).1
    have hone : ∀ u ∈ cellsV x, u.oneCell' = true := by intro u hu; simp [cellsV] at hu; rcases hu with rfl | rfl | rfl <;> rfl
    gi_wp2_with (gi_at_builtin; refine wpListIn_append_own _ rfl _ _ 72 rfl w.heap.size 25 i0 (.agg #[.int .i64 0, .int .i64 0, .string ⟨#[]⟩]) 3 32 Tryz.underlying72 hi hz0 hz1 hz2 rfl (by decide) _ _ _ rfl (hrow.alloc _) ⟨W.heap.size, 0, none⟩ 1 1 (cellsV x) rfl rfl ?h1 hone ?h3 ?h4 ?h5 ?h6)
    case h1 => exact World.news_of_block (cs := #[.int .i64 x.k, .int .i64 x.n, .string x.s]) (World.alloc_heap_new W _)
    case h3 => unfold maxLen; omega
    case h4 => omega
    case h5 => have := hB.size; simp; omega
    case h6 =>
      intro v' w1 hown' hgrow _
      obtain ⟨g', cap', rfl⟩ := ownsRow_succ hown'
      obtain ⟨hv1, hv2, hr2, hk2, hb2⟩ := hv.appended (by decide) hrow hB.size (Nat.le_refl _) hown' hgrow
      have hc1 := hv1.cell
      have hf1 := hv1.frozen
      gi_wp2
      exact ⟨hk2.from _, hk2.walks, ⟨_, hv2, by simpa using hr2, by simp; omega⟩, hB.trans hb2⟩
  case done =>
    rintro D ys W hD hS ⟨⟨v, hv, hrow, hle⟩, hB⟩ hK
    have hc := hv.cell
    gi_wp2
    refine ⟨by simp, .inl ⟨_, _, rfl, run_takeDeferred hK, ?_⟩⟩
    exact ⟨_, results_tmp rfl _ _ _, v, ys, rfl, hS, hle, ownsRow_putObj hrow _ hK rfl, hB.trans (belowK_b (w := w) (Nat.le_refl _) W D _ _ (by have := hb0.size; omega) hK rfl rfl)⟩
  case stop =>
    rintro D c pre W _ _ h _
    exact h.elim
theorem collectV (Bm b nn : Nat) (D0 : DataW Unit) (w : World) (hBm : Bm < w.heap.size) (hm : w.cell? ⟨Bm, 0, none⟩ = some (.map (some b))) (hown : w.ownsMap Tryz.prog 25 (unitElem (H := Unit)) b nn D0) (hmax : Maps.size D0 * 32 ≤ 140737488355328) :
    Calls Tryz.prog 98 #[.func (.func 100) #[] #[.pointer (some ⟨Bm, 0, none⟩)]] w fun e w' => ∃ u vs, e = .returned u ∧ KeysV D0 vs ∧ vs.length ≤ Maps.size D0 ∧ w'.ownsRow w.heap.size 25 3 u vs.length (vs.flatMap cellsV) ∧ Below w.heap.size w w' := by
  have H := callsIn_wide.1 (appendSeqV Bm b nn D0 w hBm hm hown hmax)
  go_enter Tryz.func98, Tryz.ntmps98
  go_wp2_with (go_at_call 101; refine H.mono ?_; rintro e w' ⟨u, vs, rfl, h1, h2, h3, h4⟩)
  go_ret
  exact ⟨u, vs, rfl, h1, h2, h3, h4⟩
end Go.Proofs.YtdbboaebigpkoaaGreatDoor
namespace Go.Proofs.YtdbboaebigpkoaaGreatDoor
open Go.RowKit Go.Maps Go.Sort
set_option linter.unusedVariables false
set_option linter.unusedSimpArgs false
set_option maxRecDepth 100000

/-- slices.SortFunc of values, by Compare, leaves the same values. -/
def SortsV : Prop := ∀ (w : World) (B : Nat) (u : Value) (vs : List V), OV w B u vs → vs.length ≤ 4398046511104 → Calls Tryz.prog 99 #[u, .func (.func 42) #[] #[]] w fun e w' => e = .returned (.tuple #[]) ∧ ∃ ps : List V, ps.Perm vs ∧ OV w' B u ps ∧ w.grownBy w' u.ownBlock
theorem KeysV.perm {D : DataW Unit} {vs ps : List V} (h : KeysV D vs) (hp : ps.Perm vs) : KeysV D ps := ⟨hp.nodup_iff.2 h.1, fun v hv => h.2.1 v (hp.mem_iff.1 hv), fun v hv => by rw [hp.mem_iff]; exact h.2.2 v hv⟩
set_option maxHeartbeats 1000000 in
theorem sortedV (HS : SortsV) (Bm b nn : Nat) (D0 : DataW Unit) (w : World) (hBm : Bm < w.heap.size) (hm : w.cell? ⟨Bm, 0, none⟩ = some (.map (some b))) (hown : w.ownsMap Tryz.prog 25 (unitElem (H := Unit)) b nn D0) (hmax : Maps.size D0 * 32 ≤ 140737488355328) :
    Calls Tryz.prog 96 #[.func (.func 100) #[] #[.pointer (some ⟨Bm, 0, none⟩)], .func (.func 42) #[] #[]] w fun e w' => ∃ u vs, e = .returned u ∧ KeysV D0 vs ∧ vs.length ≤ Maps.size D0 ∧ OV w' w.heap.size u vs ∧ Below w.heap.size w w' := by
  have H := hidMk (collectV Bm b nn D0 w hBm hm hown hmax)
  clear hBm hm hown
  go_enter Tryz.func96, Tryz.ntmps96
  go_wp2_with fail
  refine H.out.mono ?_
  rintro e w1 ⟨u, vs, rfl, h1, h2, h3, h4⟩
  have h3' : OV w1 w.heap.size u vs := h3
  have HO := hidMk h3'
  have HK := hidMk h1
  have HB := hidMk h4
  clear h1 h3 h4
  obtain ⟨a, c, rfl, -, -⟩ := h3'.form
  clear h3'
  go_wp2_with fail
  refine (HS _ _ _ vs HO.out (by omega)).mono ?_
  rintro e w2 ⟨rfl, ps, p1, p2, p3⟩
  have hlen := p1.length_eq
  have HP : Hid (∃ (u : Value) (vs' : List V), Ending.returned (.slice a vs.length c) = .returned u ∧ KeysV D0 vs' ∧ vs'.length ≤ Maps.size D0 ∧ OV w2 w.heap.size u vs' ∧ Below w.heap.size w w2) := ⟨_, ps, rfl, HK.out.perm p1, by omega, p2, HB.out.grown p3 HB.out.size (fun j ej => (World.ownsRow.lt HO.out j ej).1)⟩
  clear p1 p2 p3 HO HK HB
  go_wp2_with fail
  go_ret
  exact HP.out
theorem keysV_any (mb : Option Nat) (w : World) : Calls Tryz.prog 97 #[.map mb] w fun e w' => e = .returned (.func (.func 100) #[] #[.pointer (some ⟨w.heap.size, 0, none⟩)]) ∧ w' = w.alloc (.cells #[.map mb] 92) := by
  go_enter Tryz.func97, Tryz.ntmps97
  go_wp2
  go_ret
  exact ⟨rfl, rfl⟩
def tmOf (v : V) : Tm := ⟨0, v⟩
theorem OT.down {w : World} {B B' : Nat} {x : Value} {l : List Tm} (h : OT w B x l) (hb : B' ≤ B) : OT w B' x l := by
  refine ⟨h.1, ?_⟩
  rcases h.2 with hn | ⟨g, cap, cur, hv, hbg, rest⟩
  · exact .inl hn
  · exact .inr ⟨g, cap, cur, hv, Nat.le_trans hb hbg, rest⟩
theorem meth_dstParts (g : Nat) : Meth 91 (ptr g) "streamwright/agg.parts" 95 (ptr g) := ⟨fun W => by kernel_rfl, fun W => by kernel_rfl, xent Tryz.func95 (by kernel_rfl) (by rfl)⟩
set_option maxHeartbeats 2000000 in
theorem dparts_any (HS : SortsV) (g m nn : Nat) (D0 : DataW Unit) (w : World) (hO : Own w g 94 1 [.map (some m)]) (hown : w.ownsMap Tryz.prog 25 (unitElem (H := Unit)) m nn D0) (hmax : Maps.size D0 * 40 ≤ 140737488355328) :
    Calls Tryz.prog 95 #[ptr g] w fun e w' => ∃ y vs, e = .returned y ∧ KeysV D0 vs ∧ vs.length ≤ Maps.size D0 ∧ OT w' w.heap.size y (vs.map tmOf) ∧ Below w.heap.size w w' := by
  obtain ⟨i0, hi0, hz0, hz1, hz2⟩ := info_parts infoT
  have HK : Hid (∀ W, Calls Tryz.prog 97 #[.map (some m)] W fun e w' => e = .returned (.func (.func 100) #[] #[.pointer (some ⟨W.heap.size, 0, none⟩)]) ∧ w' = W.alloc (.cells #[.map (some m)] 92)) := fun W => keysV_any _ W
  have HF : Hid (Calls Tryz.prog 96 #[.func (.func 100) #[] #[.pointer (some ⟨w.heap.size, 0, none⟩)], .func (.func 42) #[] #[]] (w.alloc (.cells #[.map (some m)] 92)) fun e w' => ∃ u vs, e = .returned u ∧ KeysV D0 vs ∧ vs.length ≤ Maps.size D0 ∧ OV w' (w.alloc (.cells #[.map (some m)] 92)).heap.size u vs ∧ Below (w.alloc (.cells #[.map (some m)] 92)).heap.size (w.alloc (.cells #[.map (some m)] 92)) w') :=
    sortedV HS w.heap.size m nn D0 _ (by simp) ((Boxed.new w 92 (.map (some m))).cell) (hown.alloc _) (by omega)
  have c0 : w.cell? ⟨g, 0, none⟩ = some (.map (some m)) := by rw [hO.cell 0 (by decide)]; rfl
  have hlt := hO.lt
  clear hO hown
  unfold ptr
  go_enter Tryz.func95, Tryz.ntmps95
  go_wp2_with fail
  refine (HK.out _).mono ?_
  rintro e w0 ⟨rfl, hw0⟩
  subst hw0
  go_wp2_with fail
  refine HF.out.mono ?_
  rintro e w1 ⟨u, vs, rfl, h1, h2, h3, h4⟩
  obtain ⟨au, cu, rfl, hVL, -⟩ := h3.form
  have HKV := hidMk h1
  have HL := hidMk hVL
  have hB1 : Below w.heap.size w w1 := (bel1 _ _).trans (h4.mono (by simp))
  have HB1 := hidMk hB1
  have hs1 := hB1.size
  clear h1 h3 h4 hVL hB1
  go_wp2_with fail
  go_loopg [3, 13] vs.length (fun gk x i wr => ∃ k : Nat, gk + k = vs.length ∧ i = .int .i64 k ∧ OT wr w1.heap.size x ((vs.take k).map tmOf) ∧ Below w1.heap.size w1 wr)
  case atStart => exact ⟨0, by omega, rfl, World.ownsRow_nil _ _ _ _, Below.refl _ _⟩
  case round =>
    obtain ⟨k, hgk, rfl, hO, hb⟩ := hrel
    obtain ⟨ax, cx, rfl, hT⟩ := hO.form
    have HO := hidMk hO
    have HB := hidMk hb
    have hsz := hb.size
    have hnl : ((vs.take k).map tmOf).length = k := by rw [List.length_map, List.length_take]; omega
    clear hO hb hT
    by_cases hlt : k < vs.length
    · obtain ⟨b, off, rfl, e1, e2, e3⟩ := HL.out k hlt
      replace e1 := cell_later HB.out e1
      replace e2 := cell_later HB.out e2
      replace e3 := cell_later HB.out e3
      have hki : (k : Int) < (vs.length : Int) := by omega
      have HN : Hid ((vs.take (k + 1)).map tmOf = (vs.take k).map tmOf ++ [tmOf vs[k]]) := by rw [Hid, List.take_succ_eq_append_getElem hlt, List.map_append]; rfl
      generalize vs[k] = o at *
      generalize (vs.take k).map tmOf = s at *
      go_wp2_with (at_builtin; refine wpList_append_own_at _ rfl _ _ 22 rfl w1.heap.size 46 i0 (.agg #[.int .i64 0, .int .i64 0, .int .i64 0, .string ⟨#[]⟩]) 4 40 Tryz.underlying22 hi0 hz0 hz1 hz2 rfl (by decide) _ s.length (s.flatMap cellsT) rfl ((World.ownsRow.alloc HO.out _).alloc _) ⟨wr.heap.size + 1, 0, none⟩ 1 1 (cellsT (tmOf o)) rfl rfl (World.news_of_block (cs := #[.int .i64 0, .int .i64 o.k, .int .i64 o.n, .string o.s]) (t := 46) (fr := (0, 0)) (by rw [show wr.heap.size + 1 = (wr.alloc (.cells #[.int .i64 o.k, .int .i64 o.n, .string o.s] 25)).heap.size by simp]; exact heap_alloc_new _ _)) (one_cellsT _) (by unfold maxLen; omega) (by omega) (by simp; omega) ?_)
      intro v' w5 hown hgrow _ hat
      have hne : ∀ kk, Value.ownBlock (.slice ax k cx) = some kk → w1.heap.size ≤ kk := fun kk hkk => (World.ownsRow.lt HO.out kk (by rw [hnl]; exact hkk)).1
      have HO5 : Hid (OT w5 w1.heap.size v' (s ++ [tmOf o])) := OT.more (by rw [hnl]; exact hown)
      have HB5 : Hid (Below w1.heap.size w1 w5) := ((HB.out.alloc hsz _).alloc (by simp; omega) _).grown hgrow (by simp; omega) (fun j ej => hne _ ej)
      clear hown hgrow hat hne HO HB e1 e2 e3
      go_wp2
      go_roundg (gk - 1)
      case rel => exact ⟨k + 1, by omega, by go_num, by rw [HN.out]; exact HO5.out, HB5.out⟩
      case measure => omega
    · obtain rfl : k = vs.length := by omega
      have HOx : Hid (OT wr w1.heap.size (.slice ax ((vs.take vs.length).map tmOf).length cx) (vs.map tmOf)) := by
        have h := HO.out
        rw [List.take_of_length_le (Nat.le_refl _)] at h
        rw [Hid, List.take_of_length_le (Nat.le_refl _)]
        exact h
      go_wp2
      go_ret
      exact ⟨_, vs, rfl, HKV.out, h2, OT.down HOx.out hs1, HB1.out.trans (HB.out.mono hs1)⟩
theorem partsOf_keys {D : DataW Unit} {l : List Tm} {vs : List V} (h : KeysV D vs) (hD : DSet D (dst (nv l))) (hf : ∀ o ∈ l, Fits o.v) (hl : vs.length ≤ Maps.size D) : PartsOf 7 l (vs.map tmOf) := by
  have hm : ∀ v, v ∈ vs ↔ v ∈ nv l := fun v => by
    constructor
    · intro hv
      have hfv := h.2.1 v hv
      exact (dst_mem _ _).1 ((hD.2 v hfv).1 ((h.2.2 v hfv).1 hv))
    · intro hv
      have hfv : Fits v := by
        unfold nv nn at hv
        obtain ⟨o, ho, e⟩ := List.mem_map.1 hv
        rw [← e]; exact hf o (List.mem_filter.1 ho).1
      exact (h.2.2 v hfv).2 ((hD.2 v hfv).2 ((dst_mem _ _).2 hv))
  unfold PartsOf
  rw [if_pos rfl]
  refine ⟨fun v => ?_, ?_, fun p hp => ?_⟩
  · rw [List.map_map, show ((fun x : Tm => x.v) ∘ tmOf) = id from rfl, List.map_id]; exact hm v
  · rw [List.length_map]
    refine Nat.le_trans (Nat.le_trans hl (Nat.le_of_eq hD.1)) (Nat.le_trans (dst_len _) ?_)
    unfold nv nn
    rw [List.length_map]
    exact List.length_filter_le _ _
  · obtain ⟨v, hv, rfl⟩ := List.mem_map.1 hp
    refine ⟨?_, rfl⟩
    have := (hm v).1 hv
    unfold nv nn at this
    obtain ⟨o, ho, e⟩ := List.mem_map.1 this
    have := (List.mem_filter.1 ho).2
    rw [← e]
    show o.v.k ≠ 0
    simpa using this
theorem join_dst (HS : SortsV) : IsJoin 7 IDst JDst where
  ofI B w x l h := JDst.ofI h
  toI B D w x l h := JDst.toI h
  later B D w w' x l h hb := JDst.later h hb
  parts B w x l h hg := by
    obtain ⟨g, m, D, rfl, h2, h3, h4, h5, h6, h7, h8⟩ := h
    have hsz : Maps.size D ≤ l.length := by
      refine Nat.le_trans (Nat.le_of_eq h7.1) (Nat.le_trans (dst_len _) ?_)
      unfold nv nn
      rw [List.length_map]
      exact List.length_filter_le _ _
    refine ⟨_, _, _, _, rfl, meth_dstParts g, (dparts_any HS g m _ D w h5 h6 (by omega)).mono fun e w' ⟨y, vs, e1, e2, e3, e4, e5⟩ => ⟨y, _, e1, e4, partsOf_keys e2 h7 hg.2 e3, e5⟩⟩
  join B D w x l m ps a c h hp hl hap hf hlm hps := joins_dst B D w x l m ps a c h hp hl hap hf hlm hps
end Go.Proofs.YtdbboaebigpkoaaGreatDoor
