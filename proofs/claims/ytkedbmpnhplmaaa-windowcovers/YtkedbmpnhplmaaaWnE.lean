import Derived.Test.YtkedbmpnhplmaaaWnD
namespace Go.Proofs.Ytkedbmpnhplmaaa
open Go.RowKit Go.Shelf
attribute [local go_sem] Oper.semAt_some
set_option linter.unusedVariables false
set_option linter.unusedSimpArgs false
set_option maxRecDepth 100000
set_option maxHeartbeats 2000000

theorem Try.infoWn : (Try.prog.info? 24).map (fun i => (i.zero, i.size, i.bytes)) = some (some (.agg #[.int .i64 0, .int .i64 0]), 2, 16) := by kernel_rfl

def wcells (l : List Wn) : List Value := l.flatMap fun x => [.int .i64 x.a, .int .i64 x.b]
theorem wcells_snoc (l : List Wn) (x : Wn) : wcells (l ++ [x]) = wcells l ++ [.int .i64 x.a, .int .i64 x.b] := by simp [wcells]
theorem wcells_length (l : List Wn) : (wcells l).length = l.length * 2 := by
  induction l with
  | nil => rfl
  | cons x l ih => show ([Value.int .i64 x.a, Value.int .i64 x.b] ++ wcells l).length = _; rw [List.length_append, ih]; simp; omega

/-- A slice of windows of its own, in a box. -/
def LI (n₀ B ty : Nat) (f : List Wn → List Wn) (pre : List Wn) (W : World) : Prop :=
  ∃ v, Boxed W B ty v ∧ W.ownsRow n₀ 24 2 v (f pre).length (wcells (f pre)) ∧ (v = .slice none 0 0 ↔ f pre = [])

/-- The loop's variable. -/
def AxOf (B ty : Nat) (x : Wn) (Bx : Nat) (W : World) : Prop := KeptO B ty W Bx #[.int .i64 x.a, .int .i64 x.b] 24 ∧ ∃ v, Boxed W B ty v
theorem axOf_keep {B ty : Nat} {x : Wn} {Bx : Nat} {W W' : World} {row : Option Nat} (h : AxOf B ty x Bx W) (hg : W.grownBy W' row) (hr : ∀ r, row = some r → ∃ o : Obj, W.heap[r]? = some o ∧ o.isCells = false) : AxOf B ty x Bx W' := by
  obtain ⟨⟨h1, h2, h3⟩, v, hv⟩ := h
  have nr : ∀ b cs u, W.heap[b]? = some (.cells cs u (0, 0)) → some b ≠ row := by
    rintro b cs u e1 e2
    obtain ⟨o, ho, hc⟩ := hr b e2.symm
    rw [e1] at ho; cases ho; simp [Obj.isCells] at hc
  have hv' : Boxed W' B ty v := hv.kept hg (nr B _ _ hv)
  refine ⟨⟨(hg.block Bx (Array.getElem?_eq_some_iff.1 h1).1 (nr Bx _ _ h1)).trans h1, h2, ?_⟩, v, hv'⟩
  rintro ⟨len, cap, e⟩
  rw [show W'.heap[B]? = _ from hv'] at e
  exact h3 ⟨len, cap, by rw [show W.heap[B]? = _ from hv, e]⟩
theorem axOf_cell0 {B ty : Nat} {x : Wn} {Bx : Nat} {W : World} (h : AxOf B ty x Bx W) : W.cell? ⟨Bx, 0, none⟩ = some (.int .i64 x.a) := by simp [World.cell?, h.1.1]
theorem axOf_cell1 {B ty : Nat} {x : Wn} {Bx : Nat} {W : World} (h : AxOf B ty x Bx W) : W.cell? ⟨Bx, 1, none⟩ = some (.int .i64 x.b) := by simp [World.cell?, h.1.1]

/-- A new block for the loop's variable. -/
theorem axOf_new {W : World} {n₀ B ty : Nat} {f : List Wn → List Wn} {pre : List Wn} (h : LI n₀ B ty f pre W) (x : Wn) : AxOf B ty x W.heap.size (W.alloc (.cells #[.int .i64 x.a, .int .i64 x.b] 24)) := by
  obtain ⟨v, hv, hrow, hnil⟩ := h
  refine ⟨⟨World.alloc_heap_new W _, by have := hv.lt; omega, ?_⟩, v, hv.alloc _⟩
  rintro ⟨len, cap, e⟩
  rw [show (W.alloc (.cells #[.int .i64 x.a, .int .i64 x.b] 24)).heap[B]? = _ from hv.alloc _] at e
  have e5 : v = .slice (some ⟨W.heap.size, 0, none⟩) len cap := by simpa using e
  subst e5
  rcases hrow.2 with ⟨h1, _⟩ | ⟨g, cap', cur, h1, _, hgb, _⟩
  · simp at h1
  · simp at h1
    have := (Array.getElem?_eq_some_iff.1 hgb).1
    omega

theorem kpR_alloc {W : World} {B ty : Nat} (hB : B < W.heap.size) (o : Obj) : KpR B ty W (W.alloc o) := by
  refine ⟨by simp, ?_⟩
  intro b ob e1 ec e2 e3
  refine ⟨(Below.heap_alloc _ _ _ (Array.getElem?_eq_some_iff.1 e1).1).trans e1, ?_⟩
  rintro ⟨len, cap, e⟩
  exact e3 ⟨len, cap, (Below.heap_alloc _ _ _ hB).symm.trans e⟩

theorem cell_two_new (w : World) (x y : Value) (t : TypeId) : ∀ j u, [x, y][j]? = some u → (w.alloc (.cells #[x, y] t)).cell? ((⟨w.heap.size, 0, none⟩ : Addr).add j) = some u := by
  intro j u hj
  match j, hj with
  | 0, hj => simp at hj; subst hj; simp [Addr.add]
  | 1, hj => simp at hj; subst hj; simp [Addr.add]
  | j + 2, hj => simp at hj

theorem assign_ok {k s p t : Int} (hs : (Lit.int .i64 s).wf = true) (hv : validB k s p = true) (h0 : 0 ≤ t) (h1 : t ≤ 1099511627776) (hlen : (inL k s p t).length ≤ 1048577) (n : Nat) (hn : 3 ≤ n) (w : World) :
    CallsIn Fence.wide n Try.prog 12 #[.agg #[.int .i64 k, .int .i64 s, .int .i64 p], .int .i64 t] w fun e w' => ∃ v, e = .returned (.tuple #[v, .nilIface]) ∧ w'.ownsRow w.heap.size 24 2 v (inL k s p t).length (wcells (inL k s p t)) ∧ Below w.heap.size w w' := by
  have hn1 : 1 ≤ n := by omega
  obtain ⟨i0, hi, hz0, hz1, hz2⟩ := info_parts Try.infoWn
  have g0 : decide (t < 0) = false := by simp; omega
  have g1 : decide (t > 1099511627776) = false := by simp; omega
  refine callsIn_of_wp_marks Try.func12 rfl trivial ?_ rfl
  simp only [Try.ntmps12, List.size_toArray, List.length_cons, List.length_nil, Nat.reduceAdd, Nat.reduceSub, Array.replicate_succ, Array.replicate_zero, List.push_toArray, List.append_toArray, List.nil_append, List.cons_append]
  gi_wp2_with (first
    | (refine ⟨trivial, ?_⟩; gi_at_call 16; refine (callsIn_wide.2 (valid_any k s p hs _)).mono ?_; rw [hv]; rintro e w' ⟨rfl, hb⟩; have c0 := xcell (a := ⟨w.heap.size, 0, none⟩) (v := .int .i64 k) hb (by go_simp); have c1 := xcell (a := ⟨w.heap.size, 1, none⟩) (v := .int .i64 s) hb (by go_simp); have c2 := xcell (a := ⟨w.heap.size, 2, none⟩) (v := .int .i64 p) hb (by go_simp); have d0 := xcell (xbel1 w' (.cells #[.slice none 0 0] 22)) c0; have d1 := xcell (xbel1 w' (.cells #[.slice none 0 0] 22)) c1; have d2 := xcell (xbel1 w' (.cells #[.slice none 0 0] 22)) c2)
    | (refine ⟨trivial, ?_⟩; gi_at_call 17; refine (around_any hv h0 h1 _ (by omega) w'.heap.size 22 _ (Boxed.new w' 22 (.slice none 0 0))).mono ?_; rintro e w2 ⟨gf, lb, Sp, rfl, hb2, hent, hseq⟩))
  have hBw : Below w.heap.size w w' := (xbel1 w _).trans (hb.mono (by simp))
  have hBw2 : Below w.heap.size w w2 := hBw.trans (((xbel1 w' _).trans (hb2.mono (by simp))).mono hBw.size)
  have hBox : Boxed w2 w'.heap.size 22 (.slice none 0 0) := (hb2.block _ (by simp)).trans (Boxed.new w' 22 (.slice none 0 0))
  refine wpIn_rangeFunc_ownH (F := Fence.wide) rfl hn1 (gf := gf) (lb := lb) rfl trivial hent (hseq (n - 1) (by omega)) (fun h k => h.trans k) (kpR_b hBox.lt) (Below.refl _ _) (fun _ => rfl)
    (fun pre W => LI w.heap.size w'.heap.size 22 id pre W ∧ Below w.heap.size w W)
    (fun _ _ _ => False)
    (OwnFrom.and (Own.from (holdsRow_own w.heap.size w'.heap.size 22 24 2 (fun pre => (id pre).length) (fun pre => wcells (id pre)) (fun pre v => v = .slice none 0 0 ↔ id pre = [])) _) (ownFrom_below (Nat.le_refl _) hBw2.size))
    (fun _ _ _ _ _ hs _ _ => hs)
    ⟨⟨_, hBox, World.ownsRow_nil _ _ _ _, by simp⟩, hBw2⟩
    (fun x a' W => ∃ Bx, AxOf w'.heap.size 22 x Bx W ∧ a' = { tmps := #[.agg #[.int .i64 k, .int .i64 s, .int .i64 p], .int .i64 t, .pointer (some ⟨w.heap.size, 0, none⟩), undef, .slice none 0 0, .nilIface, .pointer (some ⟨w'.heap.size, 0, none⟩), .pointer (some ⟨Bx, 0, none⟩),
          .agg #[.int .i64 k, .int .i64 s, .int .i64 p], .bool true, .bool false, .bool false, .int .i64 t, .bool false, .bool false, .bool false, .int .i64 t, .bool false, .bool false, undef,
          .agg #[.int .i64 k, .int .i64 s, .int .i64 p], .int .i64 t, .func (.func gf) #[] lb, wV x, undef, undef, undef, undef, undef], defers := [] })
    (fun x a' _ A A' row hs hg hr => by obtain ⟨Bx, h1, h2⟩ := hs; exact ⟨Bx, axOf_keep h1 hg (fun r e => (hr r e).2), h2⟩) ?assign ?body ?done ?stop
  case assign =>
    rintro l pre x W K ⟨hi1, hi2⟩ hK
    unfold wV
    gi_wp2
    have hax := axOf_new hi1 x
    obtain ⟨v, hv, hrow, hnil⟩ := hi1
    exact hK _ _ ((KeepsOthers.alloc W _).from _) (kpR_alloc hv.lt _) ⟨⟨v, hv.alloc _, hrow.alloc _, hnil⟩, hi2.alloc hi2.size _⟩ ⟨_, hax, rfl⟩
  case body =>
    rintro l pre x a' W hl ⟨r, hr⟩ ⟨⟨v, hv, hrow, hnil⟩, hB⟩ ⟨Bx, hax, rfl⟩ hlt
    have hc := hv.cell
    have hx0 := axOf_cell0 hax
    have hx1 := axOf_cell1 hax
    have hpl : pre.length < 1048577 := by omega
    simp only [id] at hrow hnil
    gi_wp2_with (gi_at_builtin; refine wpListIn_append_at _ rfl _ _ 22 rfl w.heap.size 24 i0 (.agg #[.int .i64 0, .int .i64 0]) 2 16 Try.underlying22 hi hz0 hz1 hz2 rfl (by decide) _ _ _ rfl (hrow.alloc _) ⟨W.heap.size, 0, none⟩ 1 1 [.int .i64 x.a, .int .i64 x.b] rfl rfl ?h1 ?h2 ?h3 ?h4 ?h5 ?h6)
    case h1 => exact cell_two_new _ _ _ _
    case h2 => simp [Value.oneCell']
    case h3 => unfold maxLen; omega
    case h4 => omega
    case h5 => have := hB.size; simp; omega
    case h6 =>
      intro v' w1 hown' hgrow hat
      obtain ⟨g', cap', rfl⟩ := ownsRow_succ hown'
      obtain ⟨hv1, hv2, hr2, hk2, hb2⟩ := hv.appended (by decide) hrow hB.size hBw.size hown' hgrow
      have hkp := kpR_appended hv (by decide) hrow hgrow hat
      have hc1 := hv1.cell
      have hf1 := hv1.frozen
      gi_wp2
      exact ⟨hk2.from _, hkp, ⟨_, hv2, by simpa [wcells_snoc] using hr2, by simp⟩, hB.trans hb2⟩
  case done =>
    rintro D ys W hD rfl ⟨⟨v, hv, hrow, hnil⟩, hB⟩ hK
    have hc := hv.cell
    gi_wp2
    refine ⟨by simp, .inl ⟨_, _, rfl, run_takeDeferred hK, ?_⟩⟩
    exact ⟨.tuple #[v, .nilIface], by simp [results, Try.f12, go_sem], v, rfl, ownsRow_putObj hrow _ hK rfl, hB.trans (belowK_b (w := w) (Nat.le_refl _) W D _ _ (by have := hBw2.size; omega) hK rfl rfl)⟩
  case stop =>
    rintro D c pre W _ _ h _
    exact h.elim

theorem assign_bad {k s p t : Int} (hs : (Lit.int .i64 s).wf = true) (hbad : (!validB k s p || decide (t < 0) || decide (t > 1099511627776)) = true) (n : Nat) (hn : 3 ≤ n) (w : World) :
    CallsIn Fence.wide n Try.prog 12 #[.agg #[.int .i64 k, .int .i64 s, .int .i64 p], .int .i64 t] w fun e w' => e = .returned (.tuple #[.slice none 0 0, .iface 43 (.int .i64 4)]) ∧ Below w.heap.size w w' := by
  have hn1 : 1 ≤ n := by omega
  refine callsIn_of_wp_marks Try.func12 rfl trivial ?_ rfl
  simp only [Try.ntmps12, List.size_toArray, List.length_cons, List.length_nil, Nat.reduceAdd, Nat.reduceSub, Array.replicate_succ, Array.replicate_zero, List.push_toArray, List.append_toArray, List.nil_append, List.cons_append]
  cases hv : validB k s p with
  | false =>
    gi_wp2_with (refine ⟨trivial, ?_⟩; gi_at_call 16; refine (callsIn_wide.2 (valid_any k s p hs _)).mono ?_; rw [hv]; rintro e w' ⟨rfl, hb⟩)
    exact ⟨.tuple #[.slice none 0 0, .iface 43 (.int .i64 4)], by simp [results, Try.f12, go_sem], rfl, (xbel1 w _).trans (hb.mono (by simp))⟩
  | true =>
    rw [hv] at hbad
    cases g0 : decide (t < 0) with
    | true =>
      have g0' : t < 0 := by simpa using g0
      gi_wp2_with (refine ⟨trivial, ?_⟩; gi_at_call 16; refine (callsIn_wide.2 (valid_any k s p hs _)).mono ?_; rw [hv]; rintro e w' ⟨rfl, hb⟩)
      exact ⟨.tuple #[.slice none 0 0, .iface 43 (.int .i64 4)], by simp [results, Try.f12, go_sem], rfl, (xbel1 w _).trans (hb.mono (by simp))⟩
    | false =>
      have g1 : t > 1099511627776 := by rw [g0] at hbad; simpa using hbad
      have g0' : ¬ t < 0 := by simpa using g0
      gi_wp2_with (refine ⟨trivial, ?_⟩; gi_at_call 16; refine (callsIn_wide.2 (valid_any k s p hs _)).mono ?_; rw [hv]; rintro e w' ⟨rfl, hb⟩)
      exact ⟨.tuple #[.slice none 0 0, .iface 43 (.int .i64 4)], by simp [results, Try.f12, go_sem], rfl, (xbel1 w _).trans (hb.mono (by simp))⟩
end Go.Proofs.Ytkedbmpnhplmaaa
