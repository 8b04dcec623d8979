import Derived.Test.YtkedbmpnhplmaaaMgB
namespace Go.Proofs.Ytkedbmpnhplmaaa
open Go.RowKit Go.Shelf
attribute [local go_sem] Oper.semAt_some
set_option linter.unusedVariables false
set_option linter.unusedSimpArgs false
set_option maxRecDepth 100000
set_option maxHeartbeats 2000000

/-- A slice of windows that stays readable. -/
def RdK (B ty : Nat) (w : World) (v : Value) (xs : List Wn) : Prop := ∃ a cap, v = .slice a xs.length cap ∧
  ∀ i x, xs[i]? = some x → ∃ b o, a = some ⟨b, o, none⟩ ∧ KeptC B ty w ⟨b, o + i * 2, none⟩ (.int .i64 x.a) ∧ KeptC B ty w ⟨b, o + i * 2 + 1, none⟩ (.int .i64 x.b)
theorem RdK.to {B ty : Nat} {w w' : World} {v : Value} {xs : List Wn} (h : RdK B ty w v xs) (k : KpR B ty w w') : RdK B ty w' v xs := by
  obtain ⟨a, cap, h1, h2⟩ := h
  refine ⟨a, cap, h1, fun i x hx => ?_⟩
  obtain ⟨b, o, e, c1, c2⟩ := h2 i x hx
  exact ⟨b, o, e, c1.to k, c2.to k⟩
theorem KeptC.below {B ty : Nat} {w W : World} {a : Addr} {v : Value} (h : KeptC B ty w a v) (hb : Below w.heap.size w W) (hB : B < w.heap.size) : KeptC B ty W a v :=
  ⟨xcell hb h.1, h.2.1, fun k => h.2.2 (k.below hb hB)⟩
theorem RdK.below {B ty : Nat} {w W : World} {v : Value} {xs : List Wn} (h : RdK B ty w v xs) (hb : Below w.heap.size w W) (hB : B < w.heap.size) : RdK B ty W v xs := by
  obtain ⟨a, cap, h1, h2⟩ := h
  refine ⟨a, cap, h1, fun i x hx => ?_⟩
  obtain ⟨b, o, e, c1, c2⟩ := h2 i x hx
  exact ⟨b, o, e, c1.below hb hB, c2.below hb hB⟩
/-- Whatever could be read ahead of the box can be kept. -/
theorem RdK.mk {w W : World} {B ty : Nat} {v : Value} {xs : List Wn} (h : RdW w v xs) (hb : Below w.heap.size w W) (hB : w.heap.size ≤ B) (hbox : Boxed W B ty (.slice none 0 0)) : RdK B ty W v xs := by
  obtain ⟨a, cap, h1, h2⟩ := h
  refine ⟨a, cap, h1, fun i x hx => ?_⟩
  obtain ⟨b, o, e, c1, c2⟩ := h2 i x hx
  have hlt := World.block_lt_of_cell? _ _ c1
  exact ⟨b, o, e, ⟨xcell hb c1, by show b ≠ B; simp at hlt; omega, not_rowAt hbox _⟩, ⟨xcell hb c2, by show b ≠ B; simp at hlt; omega, not_rowAt hbox _⟩⟩

theorem values_any (v : Value) (a : Option Addr) (len cap : Nat) (hv : v = .slice a len cap) (w : World) :
    Calls Try.prog 20 #[v] w fun e w' => e = .returned (.func (.func 28) #[] #[.pointer (some ⟨w.heap.size, 0, none⟩)]) ∧ w' = w.alloc (.cells #[v] 22) := by
  subst hv
  go_enter Try.func20, Try.ntmps20
  go_wp2
  go_ret
  exact ⟨rfl, rfl⟩

theorem values1_in (n : Nat) (hn : 1 ≤ n) (l Bs B ty : Nat) (v : Value) (xs : List Wn) (hmax : xs.length ≤ 4611686018427387904) (J Jx : List Wn → World → Prop) (hJ : ∀ s A, J s A → J s A.drew)
    (hJa : ∀ s A o, J s A → J s (A.alloc o))
    (hY : ∀ pre y W, J pre W → pre.length < xs.length → YieldAt Fence.wide (n - 1) Try.prog l #[wV y] W fun e W' =>
      (e = .returned (.bool true) ∧ J (pre ++ [y]) W' ∧ KpR B ty W W') ∨ (e = .returned (.bool false) ∧ Jx (pre ++ [y]) W'))
    (W : World) (hB : B < W.heap.size) (k0 : KeptO B ty W Bs #[v] 22) (hr : RdK B ty W v xs) (h0 : J [] W) :
    CallsIn Fence.wide n Try.prog 28 #[.func (.yield l) #[] #[], .pointer (some ⟨Bs, 0, none⟩)] W fun e W' => (∃ v, e = .returned v) ∧
      ((∃ ys, ys = xs ∧ J ys W') ∨ (∃ pre, True ∧ Jx pre W')) := by
  obtain ⟨a, cap, rfl, hcl⟩ := hr
  have hc0 := k0.cell
  refine callsIn_of_wp Try.func28 rfl trivial ?_ rfl
  simp only [Try.ntmps28, List.size_toArray, List.length_cons, List.length_nil, Nat.reduceAdd, Nat.reduceSub, Array.replicate_succ, Array.replicate_zero, List.push_toArray, List.append_toArray, List.nil_append, List.cons_append]
  gi_wp2
  gi_loopw [7] (fun i wr => ∃ k : Nat, k ≤ xs.length ∧ i = .int .i64 k ∧ J (xs.take k) wr ∧ KpR B ty W wr) (fun i _ => xs.length - (intOf i).toNat)
  case atStart => exact ⟨0, Nat.zero_le _, rfl, by simpa using h0, KpR.refl _ _ _⟩
  case round =>
    obtain ⟨k, hk, rfl, hJs, hkp⟩ := hrel
    have hBr : B < wr.heap.size := Nat.lt_of_lt_of_le hB hkp.1
    by_cases hlt : k < xs.length
    · have hi : (k : Int) < (xs.length : Int) := by omega
      obtain ⟨x, hx⟩ : ∃ x, xs[k]? = some x := ⟨xs[k], by simp [hlt]⟩
      have hxk : xs.take (k + 1) = xs.take k ++ [x] := by rw [List.take_add_one, hx]; rfl
      obtain ⟨b1, o1, rfl, e1, e2⟩ := hcl k x hx
      have f1 := (e1.to hkp).1
      have f2 := (e2.to hkp).1
      have hJ2 := hJa _ _ (.cells #[.int .i64 x.a, .int .i64 x.b] 24) hJs
      obtain ⟨fn, tmps, assign, body, hy, hR⟩ := hY _ x _ hJ2 (by rw [List.length_take]; omega)
      unfold wV at hy
      have HX : Hid (xs.take (k + 1) = xs.take k ++ [x]) := hxk
      clear hxk hcl e1 e2
      generalize xs.take k = pre at *
      gi_wp2
      refine hR.mono ?_
      rintro e W3 (⟨rfl, hJ3, hk3⟩ | ⟨rfl, hJx3⟩)
      · gi_wp2
        go_roundw
        case rel => exact ⟨k + 1, by omega, by go_num, by rw [HX.out]; exact hJ3, hkp.trans ((kpR_alloc hBr _).trans hk3)⟩
        case measure => simp [intOf]; omega
      · gi_wp2
        refine bodyPost_ret (results_none rfl _ _ _) rfl ?_
        exact ⟨⟨_, rfl⟩, .inr ⟨_, trivial, hJx3⟩⟩
    · obtain rfl : k = xs.length := by omega
      rw [List.take_length] at hJs
      gi_wp2
      go_end0
      exact ⟨⟨_, rfl⟩, .inl ⟨_, rfl, hJs⟩⟩

theorem values_stops (n : Nat) (hn : 1 ≤ n) (Bs B ty : Nat) (v : Value) (xs : List Wn) (hmax : xs.length ≤ 4611686018427387904) (w : World) (hB : B < w.heap.size) (k0 : KeptO B ty w Bs #[v] 22) (hr : RdK B ty w v xs) :
    SeqStopsK Fence.wide n Try.prog 28 #[.pointer (some ⟨Bs, 0, none⟩)] (fun y : Wn => #[wV y]) (KpR B ty) (fun ys => ys = xs) (fun _ => True) xs.length w := fun l J Jx W hW hJ _ hY h0 =>
  values1_in n hn l Bs B ty v xs hmax J Jx (fun u A h => hJ u A A.drew none h ⟨rfl, rfl, rfl, Nat.le_refl _, fun _ _ _ => rfl⟩ (fun _ e => by cases e)) (fun u A o h => hJ u A (A.alloc o) none h (World.grownBy_alloc A o none) (fun _ e => by cases e)) hY W (Nat.lt_of_lt_of_le hB hW.size) (k0.below hW hB) (hr.below hW hB) h0

/-- slices.AppendSeq of nothing and a slice's values: a copy. -/
theorem appendSeq_any (w : World) (Bs : Nat) (v : Value) (xs : List Wn) (hmax : xs.length * 16 ≤ 140737488355328) (hbs : Boxed w Bs 22 v) (hr : RdW w v xs) :
    CallsIn Fence.wide 3 Try.prog 31 #[.slice none 0 0, .func (.func 28) #[] #[.pointer (some ⟨Bs, 0, none⟩)]] w fun e w' => ∃ u, e = .returned u ∧ w'.ownsRow w.heap.size 24 2 u xs.length (wcells xs) ∧ (u = .slice none 0 0 ↔ xs = []) ∧ Below w.heap.size w w' := by
  have hn1 : 1 ≤ 3 := by omega
  obtain ⟨i0, hi, hz0, hz1, hz2⟩ := info_parts Try.infoWn
  have hbox := Boxed.new w 22 (.slice none 0 0)
  have hb0 := xbel1 w (.cells #[.slice none 0 0] 22)
  have k0 : KeptO w.heap.size 22 (w.alloc (.cells #[.slice none 0 0] 22)) Bs #[v] 22 := ⟨hbs.alloc _, by have := hbs.lt; omega, not_rowAt hbox _⟩
  have hrk := RdK.mk hr hb0 (Nat.le_refl _) hbox
  refine callsIn_of_wp_marks Try.func31 rfl trivial ?_ rfl
  simp only [Try.ntmps31, List.size_toArray, List.length_cons, List.length_nil, Nat.reduceAdd, Nat.reduceSub, Array.replicate_succ, Array.replicate_zero, List.push_toArray, List.append_toArray, List.nil_append, List.cons_append]
  gi_wp2
  have hlt0 : w.heap.size < (w.alloc (.cells #[.slice none 0 0] 22)).heap.size := by simp
  have hseq := values_stops (3 - 1) (by omega) Bs w.heap.size 22 v xs (by omega) _ hlt0 k0 hrk
  generalize w.alloc (.cells #[.slice none 0 0] 22) = w2 at *
  refine wpIn_rangeFunc_ownH (F := Fence.wide) rfl hn1 (gf := 28) (lb := #[.pointer (some ⟨Bs, 0, none⟩)]) rfl trivial (enters_of Try.func28 (by kernel_rfl) rfl) hseq (fun h k => h.trans k) (kpR_b hbox.lt) (Below.refl _ _) (fun _ => rfl)
    (fun pre W => LI w.heap.size w.heap.size 22 id pre W ∧ Below w.heap.size w W)
    (fun _ _ _ => False)
    (OwnFrom.and (Own.from (holdsRow_own w.heap.size w.heap.size 22 24 2 (fun pre => (id pre).length) (fun pre => wcells (id pre)) (fun pre v => v = .slice none 0 0 ↔ id pre = [])) _) (ownFrom_below (Nat.le_refl _) hb0.size))
    (fun _ _ _ _ _ hs _ _ => hs)
    ⟨⟨_, hbox, World.ownsRow_nil _ _ _ _, by simp⟩, hb0⟩
    (fun x a' W => ∃ Bx, AxOf w.heap.size 22 x Bx W ∧ a' = { tmps := #[.slice none 0 0, .func (.func 28) #[] #[.pointer (some ⟨Bs, 0, none⟩)], .pointer (some ⟨w.heap.size, 0, none⟩), undef, .slice none 0 0, .pointer (some ⟨Bx, 0, none⟩),
          .func (.func 28) #[] #[.pointer (some ⟨Bs, 0, none⟩)], wV x, undef, undef, undef, undef, undef], defers := [] })
    (fun x a' _ A A' row hs hg hr => by obtain ⟨Bx, h1, h2⟩ := hs; exact ⟨Bx, axOf_keep h1 hg (fun r e => (hr r e).2), h2⟩) ?assign ?body ?done ?stop
  case assign =>
    rintro l pre x W K ⟨hi1, hi2⟩ hK
    unfold wV
    gi_wp2
    have hax := axOf_new hi1 x
    obtain ⟨v, hv, hrow, hnil⟩ := hi1
    exact hK _ _ ((KeepsOthers.alloc W _).from _) (kpR_alloc hv.lt _) ⟨⟨v, hv.alloc _, hrow.alloc _, hnil⟩, hi2.alloc hi2.size _⟩ ⟨_, hax, rfl⟩
  case body =>
    rintro l pre x a' W hl ⟨r, hr⟩ ⟨⟨v, hv, hrow, hnil⟩, hB⟩ ⟨Bx, hax, rfl⟩ hlt
    have hc := hv.cell
    have hx0 := axOf_cell0 hax
    have hx1 := axOf_cell1 hax
    simp only [id] at hrow hnil
    gi_wp2_with (gi_at_builtin; refine wpListIn_append_at _ rfl _ _ 22 rfl w.heap.size 24 i0 (.agg #[.int .i64 0, .int .i64 0]) 2 16 Try.underlying22 hi hz0 hz1 hz2 rfl (by decide) _ _ _ rfl (hrow.alloc _) ⟨W.heap.size, 0, none⟩ 1 1 [.int .i64 x.a, .int .i64 x.b] rfl rfl ?h1 ?h2 ?h3 ?h4 ?h5 ?h6)
    case h1 => exact cell_two_new _ _ _ _
    case h2 => simp [Value.oneCell']
    case h3 => unfold maxLen; omega
    case h4 => omega
    case h5 => have := hB.size; simp; omega
    case h6 =>
      intro v' w1 hown' hgrow hat
      obtain ⟨g', cap', rfl⟩ := ownsRow_succ hown'
      obtain ⟨hv1, hv2, hr2, hk2, hb2⟩ := hv.appended (by decide) hrow hB.size (Nat.le_refl _) hown' hgrow
      have hkp := kpR_appended hv (by decide) hrow hgrow hat
      have hc1 := hv1.cell
      have hf1 := hv1.frozen
      gi_wp2
      exact ⟨hk2.from _, hkp, ⟨_, hv2, by simpa [wcells_snoc] using hr2, by simp⟩, hB.trans hb2⟩
  case done =>
    rintro D ys W hD rfl ⟨⟨v, hv, hrow, hnil⟩, hB⟩ hK
    have hc := hv.cell
    gi_wp2
    refine ⟨by simp, .inl ⟨_, _, rfl, run_takeDeferred hK, ?_⟩⟩
    exact ⟨_, results_tmp rfl _ _ _, v, rfl, ownsRow_putObj hrow _ hK rfl, hnil, hB.trans (belowK_b (w := w) (Nat.le_refl _) W D _ _ (by have := hb0.size; omega) hK rfl rfl)⟩
  case stop =>
    rintro D c pre W _ _ h _
    exact h.elim

theorem collect_any (w : World) (Bs : Nat) (v : Value) (xs : List Wn) (hmax : xs.length * 16 ≤ 140737488355328) (hbs : Boxed w Bs 22 v) (hr : RdW w v xs) :
    Calls Try.prog 26 #[.func (.func 28) #[] #[.pointer (some ⟨Bs, 0, none⟩)]] w fun e w' => ∃ u, e = .returned u ∧ w'.ownsRow w.heap.size 24 2 u xs.length (wcells xs) ∧ (u = .slice none 0 0 ↔ xs = []) ∧ Below w.heap.size w w' := by
  have H := callsIn_wide.1 (appendSeq_any w Bs v xs hmax hbs hr)
  go_enter Try.func26, Try.ntmps26
  go_wp2_with (go_at_call 31; refine H.mono ?_; rintro e w' ⟨u, rfl, h1, h2, h3⟩)
  go_ret
  exact ⟨u, rfl, h1, h2, h3⟩
end Go.Proofs.Ytkedbmpnhplmaaa
