import Derived.Test.YtkedbmpnhplmaaaMgR
namespace Go.Proofs.Ytkedbmpnhplmaaa
open Go.RowKit Go.Shelf
attribute [local go_sem] Oper.semAt_some
set_option linter.unusedVariables false
set_option linter.unusedSimpArgs false
set_option maxRecDepth 100000
set_option maxHeartbeats 2000000

theorem meet_any (x y : Wn) (w : World) : Calls Try.prog 8 #[.agg #[.int .i64 x.a, .int .i64 x.b], .agg #[.int .i64 y.a, .int .i64 y.b]] w fun e w' => e = .returned (.bool (meet x y)) ∧ w' = (w.alloc (.cells #[.int .i64 x.a, .int .i64 x.b] 24)).alloc (.cells #[.int .i64 y.a, .int .i64 y.b] 24) := by
  unfold meet
  cases h1 : decide (x.a < y.b) <;>
  · go_enter Try.func8, Try.ntmps8
    go_wp2
    go_ret
    exact ⟨rfl, rfl⟩

theorem heap_setCell_at (w : World) (g i : Nat) (u : Value) (cur : Array Value) (e : TypeId) (fr : Nat × Nat) (h : w.heap[g]? = some (.cells cur e fr)) : (w.setCell ⟨g, i, none⟩ u).heap[g]? = some (.cells (cur.setIfInBounds i u) e fr) := by
  obtain ⟨hlt, hk⟩ := Array.getElem?_eq_some_iff.1 h
  show (w.heap.modify g _)[g]? = _
  rw [Array.getElem?_eq_getElem (by rw [Array.size_modify]; exact hlt), Array.getElem_modify_self, hk]
  rfl

/-- One window of one's own row anew. -/
theorem own_setB {w : World} {base g n cap : Nat} {ys : List Wn} {y : Wn} {z : Int} (h : w.ownsRow base 24 2 (.slice (some ⟨g, 0, none⟩) n cap) n (wcells (ys ++ [y]))) (hn : n = ys.length + 1) :
    (w.setCell ⟨g, ys.length * 2 + 1, none⟩ (.int .i64 z)).ownsRow base 24 2 (.slice (some ⟨g, 0, none⟩) n cap) n (wcells (ys ++ [⟨y.a, z⟩])) := by
  refine ⟨by rw [wcells_length]; simp [hn], ?_⟩
  rcases h.2 with ⟨h1, _⟩ | ⟨g', cap', cur, h1, h2, h3, h4, h5, h6, h7⟩
  · simp at h1
  simp only [Value.slice.injEq, Option.some.injEq, Addr.mk.injEq, and_true, true_and] at h1
  obtain ⟨rfl, rfl⟩ := h1
  refine .inr ⟨g, cap, cur.setIfInBounds (ys.length * 2 + 1) (.int .i64 z), rfl, h2, heap_setCell_at w g _ _ cur _ _ h3, h4, h5, by rw [Array.size_setIfInBounds]; exact h6, ?_⟩
  rw [Array.toList_setIfInBounds, List.take_set, h7]
  rw [wcells_snoc, wcells_snoc, List.set_append_right _ _ (by rw [wcells_length]; omega), wcells_length]
  rw [show ys.length * 2 + 1 - ys.length * 2 = 1 by omega]
  rfl

theorem kpR_setRow {W : World} {B : Nat} {t : TypeId} {g len cap : Nat} (hv : Boxed W B t (.slice (some ⟨g, 0, none⟩) len cap)) (hne : g ≠ B) (i : Nat) (u : Value) : KpR B t W (W.setCell ⟨g, i, none⟩ u) := by
  refine ⟨(KeepsOthers.setCell W ⟨g, i, none⟩ u).size, ?_⟩
  intro b ob e1 ec e2 e3
  have hbg : b ≠ g := fun e => e3 ⟨len, cap, by rw [e]; exact hv⟩
  refine ⟨(Below.heap_setCell _ _ _ b hbg).trans e1, ?_⟩
  rintro ⟨l', c', e4⟩
  rw [Below.heap_setCell _ _ _ B (Ne.symm hne)] at e4
  exact e3 ⟨l', c', e4⟩

theorem ownsRow_drew {w : World} {base e size n : Nat} {v : Value} {xs : List Value} (h : w.ownsRow base e size v n xs) : w.drew.ownsRow base e size v n xs := h
theorem boxed_drew {w : World} {B t : Nat} {v : Value} (h : Boxed w B t v) : Boxed w.drew B t v := h

theorem merge_any (w : World) (v : Value) (xs : List Wn) (hmax : xs.length * 16 ≤ 140737488355328) (hr : RdW w v xs) :
    CallsIn Fence.wide 3 Try.prog 5 #[v] w fun e w' => ∃ u ps, e = .returned u ∧ Srt xs ps ∧ w'.ownsRow w.heap.size 24 2 u (mFold (some_ ps)).length (wcells (mFold (some_ ps))) ∧ Below w.heap.size w w' := by
  have hn1 : 1 ≤ 3 := by omega
  obtain ⟨i0, hi, hz0, hz1, hz2⟩ := info_parts Try.infoWn
  have hbox := Boxed.new w 22 (.slice none 0 0)
  have hb0 := xbel1 w (.cells #[.slice none 0 0] 22)
  have hr1 := hr.later hb0
  obtain ⟨a, cap, hv, _⟩ := hr
  subst hv
  refine callsIn_of_wp_marks Try.func5 rfl trivial ?_ rfl
  simp only [Try.ntmps5, List.size_toArray, List.length_cons, List.length_nil, Nat.reduceAdd, Nat.reduceSub, Array.replicate_succ, Array.replicate_zero, List.push_toArray, List.append_toArray, List.nil_append, List.cons_append]
  gi_wp2_with (refine ⟨trivial, ?_⟩; gi_at_call 13; refine (callsIn_wide.2 (byBeg_any _ a xs.length cap rfl _)).mono ?_; rintro e w' ⟨rfl, rfl⟩)
  have hbx2 : Boxed ((w.alloc (.cells #[.slice none 0 0] 22)).alloc (.cells #[.slice a xs.length cap] 22)) w.heap.size 22 (.slice none 0 0) := hbox.alloc _
  have hbs : Boxed ((w.alloc (.cells #[.slice none 0 0] 22)).alloc (.cells #[.slice a xs.length cap] 22)) (w.heap.size + 1) 22 (.slice a xs.length cap) := by
    have := Boxed.new (w.alloc (.cells #[.slice none 0 0] 22)) 22 (.slice a xs.length cap)
    rwa [World.size_alloc] at this
  have hb2 := xbel1 (w.alloc (.cells #[.slice none 0 0] 22)) (.cells #[.slice a xs.length cap] 22)
  have hB2 : Below w.heap.size w ((w.alloc (.cells #[.slice none 0 0] 22)).alloc (.cells #[.slice a xs.length cap] 22)) := hb0.trans (hb2.mono (by simp))
  have hseq := byBeg_stops (3 - 1) (by omega) (w.heap.size + 1) w.heap.size 22 _ xs hmax _ hbx2 hbs (hr1.later hb2)
  clear hbox hb0 hr1 hb2 hbs
  generalize (w.alloc (.cells #[.slice none 0 0] 22)).alloc (.cells #[.slice a xs.length cap] 22) = w2 at *
  refine wpIn_rangeFunc_ownH (F := Fence.wide) rfl hn1 (gf := 18) (lb := #[.pointer (some ⟨w.heap.size + 1, 0, none⟩)]) rfl trivial (enters_of Try.func18 (by kernel_rfl) rfl) hseq (fun h k => h.trans k) (kpR_b hbx2.lt) (Below.refl _ _) (fun _ => rfl)
    (fun pre W => LI w.heap.size w.heap.size 22 mFold pre W ∧ Below w.heap.size w W)
    (fun _ _ _ => False)
    (OwnFrom.and (Own.from (holdsRow_own w.heap.size w.heap.size 22 24 2 (fun pre => (mFold pre).length) (fun pre => wcells (mFold pre)) (fun pre v => v = .slice none 0 0 ↔ mFold pre = [])) _) (ownFrom_below (Nat.le_refl _) hB2.size))
    (fun _ _ _ _ _ hs _ _ => hs)
    ⟨⟨_, hbx2, World.ownsRow_nil _ _ _ _, by simp [mFold]⟩, hB2⟩
    (fun x a' W => ∃ Bx, AxOf w.heap.size 22 x Bx W ∧ a' = { tmps := #[.slice a xs.length cap, undef, .slice none 0 0, .pointer (some ⟨w.heap.size, 0, none⟩), .pointer (some ⟨Bx, 0, none⟩), undef, .slice a xs.length cap,
          .func (.func 18) #[] #[.pointer (some ⟨w.heap.size + 1, 0, none⟩)], wV x, undef,
          undef, undef, undef, undef, undef, undef, undef, undef, undef, undef, undef, undef, undef, undef, undef,
          undef, undef, undef, undef, undef, undef, undef, undef, undef, undef, undef, undef, undef, undef], defers := [] })
    (fun x a' _ A A' row hs hg hr => by obtain ⟨Bx, h1, h2⟩ := hs; exact ⟨Bx, axOf_keep h1 hg (fun r e => (hr r e).2), h2⟩) ?assign ?body ?done ?stop
  case assign =>
    rintro l pre x W K ⟨hi1, hi2⟩ hK
    unfold wV
    gi_wp2
    have hax := axOf_new hi1 x
    obtain ⟨v, hv, hrow, hnil⟩ := hi1
    exact hK _ _ ((KeepsOthers.alloc W _).from _) (kpR_alloc hv.lt _) ⟨⟨v, hv.alloc _, hrow.alloc _, hnil⟩, hi2.alloc hi2.size _⟩ ⟨_, hax, rfl⟩
  case body =>
    rintro l pre x a' W hl ⟨r, hr⟩ ⟨⟨v, hv, hrow, hnil⟩, hB⟩ ⟨Bx, hax, rfl⟩ hlt
    have hc := hv.cell
    have hx0 := axOf_cell0 hax
    have hx1 := axOf_cell1 hax
    have hpl : (mFold pre).length ≤ pre.length := mFold_len pre
    have hmx : Try.prog.follows .mixedOrders = true := by kernel_rfl
    have hfn : Fence.wide.fn 8 := trivial
    have HS : Hid (mFold (pre ++ [x]) = mStep (mFold pre) x) := mFold_snoc pre x
    rcases snoc_cases (mFold pre) with he | ⟨ys, y, he⟩
    · obtain rfl := hnil.2 he
      rw [he] at hrow
      have HS2 : Hid (mFold (pre ++ [x]) = [x]) := by have := HS.out; rw [he] at this; exact this
      clear HS he hnil hpl
      gi_wp2
      rename_i KK hKK
      have hkey : Hid (KK { tmps := #[.slice a xs.length cap, undef, .slice none 0 0, .pointer (some ⟨w.heap.size, 0, none⟩), .pointer (some ⟨Bx, 0, none⟩), .int .i64 (-1), .slice a xs.length cap, .func (.func 18) #[] #[.pointer (some ⟨w.heap.size + 1, 0, none⟩)], wV x, .slice none 0 0, .int .i64 0, .int .i64 (-1), .int .i64 (-1), .bool false, .bool false, undef, undef, undef, undef, undef, undef, .bool false, undef, undef, undef, undef, undef, undef, undef, undef, undef, undef, undef, undef, undef, undef, undef, undef, undef], defers := [] } W.drew) := by
        have hrowD := ownsRow_drew hrow
        have hvD := boxed_drew hv
        have hBD : Below w.heap.size w W.drew := hB.drew
        have hKO := KeepsOthers.drew W
        have hKP := KpR.drew w.heap.size 22 W
        have hcD := hvD.cell
        have hxD0 : W.drew.cell? ⟨Bx, 0, none⟩ = some (.int .i64 x.a) := hx0
        have hxD1 : W.drew.cell? ⟨Bx, 1, none⟩ = some (.int .i64 x.b) := hx1
        generalize W.drew = WD at *
        unfold Hid
        apply hKK
        gi_wp2_with (gi_at_builtin; refine wpListIn_append_at _ rfl _ _ 22 rfl w.heap.size 24 i0 (.agg #[.int .i64 0, .int .i64 0]) 2 16 Try.underlying22 hi hz0 hz1 hz2 rfl (by decide) _ _ _ rfl (hrowD.alloc _) ⟨WD.heap.size, 0, none⟩ 1 1 [.int .i64 x.a, .int .i64 x.b] rfl rfl ?h1 ?h2 ?h3 ?h4 ?h5 ?h6)
        case h1 => exact cell_two_new _ _ _ _
        case h2 => simp [Value.oneCell']
        case h3 => unfold maxLen; first | omega | simp
        case h4 => first | omega | simp
        case h5 => have := hBD.size; simp; omega
        case h6 =>
          intro v' w1 hown' hgrow hat
          obtain ⟨g', cap', rfl⟩ := ownsRow_succ hown'
          obtain ⟨hv1, hv2, hr2, hk2, hb2⟩ := hvD.appended (by decide) hrowD hBD.size (Nat.le_refl _) hown' hgrow
          have hkp := kpR_appended hvD (by decide) hrowD hgrow hat
          have hc1 := hv1.cell
          have hf1 := hv1.frozen
          gi_wp2
          exact ⟨(hKO.trans hk2).from _, hKP.trans hkp, ⟨_, hv2, by rw [HS2.out]; simpa [wcells_snoc, wcells] using hr2, by rw [HS2.out]; simp⟩, hBD.trans hb2⟩
      gi_region_with_o (gi_at_call 8; fail)
      all_goals exact hkey.out
    · have hyl : ys.length + 1 ≤ pre.length := by rw [he] at hpl; simpa using hpl
      rw [he] at hrow
      rw [show (ys ++ [y]).length = ys.length + 1 by simp] at hrow
      obtain ⟨g, capv, rfl⟩ := ownsRow_succ hrow
      have hyc : W.cell? ⟨g, ys.length * 2, none⟩ = some (.int .i64 y.a) ∧ W.cell? ⟨g, ys.length * 2 + 1, none⟩ = some (.int .i64 y.b) := by
        obtain ⟨a', c', e', hcl⟩ := RdW.own hrow
        obtain ⟨b, o, ha, c1, c2⟩ := hcl ys.length y (by simp)
        subst ha
        simp at e'
        obtain ⟨⟨rfl, rfl⟩, -⟩ := e'
        simp only [Nat.zero_add] at c1 c2
        exact ⟨c1, c2⟩
      have hy0 := hyc.1
      have hy1 := hyc.2
      have HS2 : Hid (mFold (pre ++ [x]) = mStep (ys ++ [y]) x) := by have := HS.out; rw [he] at this; exact this
      have hw1 : wrap64 (((ys.length + 1 : Nat) : Int) - 1) = (ys.length : Int) := by rw [w64 (by omega) (by omega)]; omega
      have hfr : W.frozen? ⟨g, ys.length * 2 + 1, none⟩ = false := by
        rcases hrow.2 with ⟨h1, _⟩ | ⟨g', cap', cur, h1, h2, h3, _⟩
        · simp at h1
        · simp only [Value.slice.injEq, Option.some.injEq, Addr.mk.injEq, and_true, true_and] at h1
          obtain ⟨rfl, rfl⟩ := h1
          simp [World.frozen?, h3]
      clear HS he hnil hpl hyc
      cases hm : meet y x with
      | false =>
        gi_wp2
        rename_i KK hKK
        have hkey : Hid (KK { tmps := #[.slice a xs.length cap, undef, .slice none 0 0, .pointer (some ⟨w.heap.size, 0, none⟩), .pointer (some ⟨Bx, 0, none⟩), .int .i64 (ys.length : Int), .slice a xs.length cap, .func (.func 18) #[] #[.pointer (some ⟨w.heap.size + 1, 0, none⟩)], wV x, .slice (some ⟨g, 0, none⟩) (ys.length + 1) capv, .int .i64 ((ys.length : Int) + 1), .int .i64 (ys.length : Int), .int .i64 (ys.length : Int), .bool true, .bool true, .slice (some ⟨g, 0, none⟩) (ys.length + 1) capv, .int .i64 (ys.length : Int), .pointer (some ⟨g, ys.length * 2, none⟩), .agg #[.int .i64 y.a, .int .i64 y.b], .agg #[.int .i64 x.a, .int .i64 x.b], .bool false, .bool false, undef, undef, undef, undef, undef, undef, undef, undef, undef, undef, undef, undef, undef, undef, undef, undef, undef], defers := [] } (((W.alloc (.cells #[.int .i64 y.a, .int .i64 y.b] 24)).alloc (.cells #[.int .i64 x.a, .int .i64 x.b] 24)).drew)) := by
          have hvD : Boxed (((W.alloc (.cells #[.int .i64 y.a, .int .i64 y.b] 24)).alloc (.cells #[.int .i64 x.a, .int .i64 x.b] 24)).drew) w.heap.size 22 (.slice (some ⟨g, 0, none⟩) (ys.length + 1) capv) := boxed_drew ((hv.alloc _).alloc _)
          have hrowD : (((W.alloc (.cells #[.int .i64 y.a, .int .i64 y.b] 24)).alloc (.cells #[.int .i64 x.a, .int .i64 x.b] 24)).drew).ownsRow w.heap.size 24 2 (.slice (some ⟨g, 0, none⟩) (ys.length + 1) capv) (ys.length + 1) (wcells (ys ++ [y])) := ownsRow_drew ((hrow.alloc _).alloc _)
          have hBW1 := xbel1 W (.cells #[.int .i64 y.a, .int .i64 y.b] 24)
          have hBW2 : Below W.heap.size W (((W.alloc (.cells #[.int .i64 y.a, .int .i64 y.b] 24)).alloc (.cells #[.int .i64 x.a, .int .i64 x.b] 24)).drew) := (hBW1.trans ((xbel1 _ (.cells #[.int .i64 x.a, .int .i64 x.b] 24)).mono hBW1.size)).drew
          have hBD : Below w.heap.size w (((W.alloc (.cells #[.int .i64 y.a, .int .i64 y.b] 24)).alloc (.cells #[.int .i64 x.a, .int .i64 x.b] 24)).drew) := hB.trans (hBW2.mono hB.size)
          have hKO : KeepsOthers W (((W.alloc (.cells #[.int .i64 y.a, .int .i64 y.b] 24)).alloc (.cells #[.int .i64 x.a, .int .i64 x.b] 24)).drew) := ((KeepsOthers.alloc W _).trans (KeepsOthers.alloc _ _)).trans (KeepsOthers.drew _)
          have hKP : KpR w.heap.size 22 W (((W.alloc (.cells #[.int .i64 y.a, .int .i64 y.b] 24)).alloc (.cells #[.int .i64 x.a, .int .i64 x.b] 24)).drew) := ((kpR_alloc hv.lt _).trans (kpR_alloc (hv.alloc _).lt _)).trans (KpR.drew _ _ _)
          have hcD := hvD.cell
          have hxD0 := xcell hBW2 hx0
          have hxD1 := xcell hBW2 hx1
          have hyD0 := xcell hBW2 hy0
          have hyD1 := xcell hBW2 hy1
          have hfrD : (((W.alloc (.cells #[.int .i64 y.a, .int .i64 y.b] 24)).alloc (.cells #[.int .i64 x.a, .int .i64 x.b] 24)).drew).frozen? ⟨g, ys.length * 2 + 1, none⟩ = false := (hBW2.frozen (p := ⟨g, ys.length * 2 + 1, none⟩) (World.block_lt_of_cell? _ _ hy1)).trans hfr
          generalize ((W.alloc (.cells #[.int .i64 y.a, .int .i64 y.b] 24)).alloc (.cells #[.int .i64 x.a, .int .i64 x.b] 24)).drew = WD at *
          unfold Hid
          apply hKK
          have HS3 : Hid (mFold (pre ++ [x]) = ys ++ [y] ++ [x]) := by have := HS2.out; rw [mStep_miss _ _ _ hm] at this; exact this
          clear HS2
          have HS2 := HS3
          gi_wp2_with (gi_at_builtin; refine wpListIn_append_at _ rfl _ _ 22 rfl w.heap.size 24 i0 (.agg #[.int .i64 0, .int .i64 0]) 2 16 Try.underlying22 hi hz0 hz1 hz2 rfl (by decide) _ _ _ rfl (hrowD.alloc _) ⟨WD.heap.size, 0, none⟩ 1 1 [.int .i64 x.a, .int .i64 x.b] rfl rfl ?h1 ?h2 ?h3 ?h4 ?h5 ?h6)
          case h1 => exact cell_two_new _ _ _ _
          case h2 => simp [Value.oneCell']
          case h3 => unfold maxLen; first | omega | simp
          case h4 => first | omega | simp
          case h5 => have := hBD.size; simp; omega
          case h6 =>
            intro v' w1 hown' hgrow hat
            obtain ⟨g', cap', rfl⟩ := ownsRow_succ hown'
            obtain ⟨hv1, hv2, hr2, hk2, hb2⟩ := hvD.appended (by decide) hrowD hBD.size (Nat.le_refl _) hown' hgrow
            have hkp := kpR_appended hvD (by decide) hrowD hgrow hat
            have hc1 := hv1.cell
            have hf1 := hv1.frozen
            gi_wp2
            exact ⟨(hKO.trans hk2).from _, hKP.trans hkp, ⟨_, hv2, by rw [HS2.out]; simpa [wcells_snoc, wcells] using hr2, by rw [HS2.out]; simp⟩, hBD.trans hb2⟩
        gi_region_with_o (gi_at_call 8; refine (CallsIn.inRound l (callsIn_wide.2 (meet_any y x _))).mono ?_; rw [hm]; rintro e w' ⟨rfl, rfl⟩)
        all_goals exact hkey.out
      | true =>
        gi_wp2
        rename_i KK hKK
        have hkey : Hid (KK { tmps := #[.slice a xs.length cap, undef, .slice none 0 0, .pointer (some ⟨w.heap.size, 0, none⟩), .pointer (some ⟨Bx, 0, none⟩), .int .i64 (ys.length : Int), .slice a xs.length cap, .func (.func 18) #[] #[.pointer (some ⟨w.heap.size + 1, 0, none⟩)], wV x, .slice (some ⟨g, 0, none⟩) (ys.length + 1) capv, .int .i64 ((ys.length : Int) + 1), .int .i64 (ys.length : Int), .int .i64 (ys.length : Int), .bool true, .bool true, .slice (some ⟨g, 0, none⟩) (ys.length + 1) capv, .int .i64 (ys.length : Int), .pointer (some ⟨g, ys.length * 2, none⟩), .agg #[.int .i64 y.a, .int .i64 y.b], .agg #[.int .i64 x.a, .int .i64 x.b], .bool true, .bool true, undef, undef, undef, undef, undef, undef, undef, undef, undef, undef, undef, undef, undef, undef, undef, undef, undef], defers := [] } (((W.alloc (.cells #[.int .i64 y.a, .int .i64 y.b] 24)).alloc (.cells #[.int .i64 x.a, .int .i64 x.b] 24)).drew)) := by
          have hvD : Boxed (((W.alloc (.cells #[.int .i64 y.a, .int .i64 y.b] 24)).alloc (.cells #[.int .i64 x.a, .int .i64 x.b] 24)).drew) w.heap.size 22 (.slice (some ⟨g, 0, none⟩) (ys.length + 1) capv) := boxed_drew ((hv.alloc _).alloc _)
          have hrowD : (((W.alloc (.cells #[.int .i64 y.a, .int .i64 y.b] 24)).alloc (.cells #[.int .i64 x.a, .int .i64 x.b] 24)).drew).ownsRow w.heap.size 24 2 (.slice (some ⟨g, 0, none⟩) (ys.length + 1) capv) (ys.length + 1) (wcells (ys ++ [y])) := ownsRow_drew ((hrow.alloc _).alloc _)
          have hBW1 := xbel1 W (.cells #[.int .i64 y.a, .int .i64 y.b] 24)
          have hBW2 : Below W.heap.size W (((W.alloc (.cells #[.int .i64 y.a, .int .i64 y.b] 24)).alloc (.cells #[.int .i64 x.a, .int .i64 x.b] 24)).drew) := (hBW1.trans ((xbel1 _ (.cells #[.int .i64 x.a, .int .i64 x.b] 24)).mono hBW1.size)).drew
          have hBD : Below w.heap.size w (((W.alloc (.cells #[.int .i64 y.a, .int .i64 y.b] 24)).alloc (.cells #[.int .i64 x.a, .int .i64 x.b] 24)).drew) := hB.trans (hBW2.mono hB.size)
          have hKO : KeepsOthers W (((W.alloc (.cells #[.int .i64 y.a, .int .i64 y.b] 24)).alloc (.cells #[.int .i64 x.a, .int .i64 x.b] 24)).drew) := ((KeepsOthers.alloc W _).trans (KeepsOthers.alloc _ _)).trans (KeepsOthers.drew _)
          have hKP : KpR w.heap.size 22 W (((W.alloc (.cells #[.int .i64 y.a, .int .i64 y.b] 24)).alloc (.cells #[.int .i64 x.a, .int .i64 x.b] 24)).drew) := ((kpR_alloc hv.lt _).trans (kpR_alloc (hv.alloc _).lt _)).trans (KpR.drew _ _ _)
          have hcD := hvD.cell
          have hxD0 := xcell hBW2 hx0
          have hxD1 := xcell hBW2 hx1
          have hyD0 := xcell hBW2 hy0
          have hyD1 := xcell hBW2 hy1
          have hfrD : (((W.alloc (.cells #[.int .i64 y.a, .int .i64 y.b] 24)).alloc (.cells #[.int .i64 x.a, .int .i64 x.b] 24)).drew).frozen? ⟨g, ys.length * 2 + 1, none⟩ = false := (hBW2.frozen (p := ⟨g, ys.length * 2 + 1, none⟩) (World.block_lt_of_cell? _ _ hy1)).trans hfr
          generalize ((W.alloc (.cells #[.int .i64 y.a, .int .i64 y.b] 24)).alloc (.cells #[.int .i64 x.a, .int .i64 x.b] 24)).drew = WD at *
          unfold Hid
          apply hKK
          have HS3 : Hid (mFold (pre ++ [x]) = ys ++ [⟨y.a, max y.b x.b⟩]) := by have := HS2.out; rw [mStep_hit _ _ _ hm] at this; exact this
          clear HS2
          have hidx : (ys.length : Int) < (ys.length : Int) + 1 := by omega
          have hgb : w.heap.size ≤ g := by
            rcases hrowD.2 with ⟨h1, _⟩ | ⟨g', cap', cur, h1, h2, _⟩
            · simp at h1
            · simp only [Value.slice.injEq, Option.some.injEq, Addr.mk.injEq, and_true, true_and] at h1
              obtain ⟨rfl, rfl⟩ := h1
              exact h2
          have hgn : g ≠ w.heap.size := fun e => hvD.not_row (by decide) hrowD (by rw [e]; rfl)
          gi_wp2
          refine region_tail_in 10 hmx (by kernel_rfl) (by kernel_rfl) (by rintro ⟨_, _, h⟩; exact h) ?_
          simp only [List.take_succ_cons, List.take_zero, List.drop_succ_cons, List.drop_zero]
          repeat still_step
          refine wpStill_nil ?_
          go_wp2
          refine ⟨((hKO.trans (KeepsOthers.setCell _ _ _)).trans (KeepsOthers.drew _)).from _, hKP.trans ((kpR_setRow hvD hgn _ _).trans (KpR.drew _ _ _)), ⟨_, boxed_drew ((Below.heap_setCell _ _ _ _ (Ne.symm hgn)).trans hvD), ?_, by rw [HS3.out]; simp⟩, (hBD.setCell (p := ⟨g, ys.length * 2 + 1, none⟩) hgb _).drew⟩
          rw [HS3.out, show (ys ++ [(⟨y.a, max y.b x.b⟩ : Wn)]).length = ys.length + 1 by simp]
          exact ownsRow_drew (own_setB hrowD rfl)
        gi_region_with_o (gi_at_call 8; refine (CallsIn.inRound l (callsIn_wide.2 (meet_any y x _))).mono ?_; rw [hm]; rintro e w' ⟨rfl, rfl⟩)
        all_goals exact hkey.out
  case done =>
    rintro D ys W hD ⟨ps, hps, rfl⟩ ⟨⟨v, hv, hrow, hnil⟩, hB⟩ hK
    have hc := hv.cell
    gi_wp2
    refine ⟨by simp, .inl ⟨_, _, rfl, run_takeDeferred hK, ?_⟩⟩
    exact ⟨_, results_tmp rfl _ _ _, v, ps, rfl, hps, ownsRow_putObj hrow _ hK rfl, hB.trans (belowK_b (w := w) (Nat.le_refl _) W D _ _ (by have := hB2.size; omega) hK rfl rfl)⟩
  case stop =>
    rintro D c pre W _ _ h _
    exact h.elim
end Go.Proofs.Ytkedbmpnhplmaaa
