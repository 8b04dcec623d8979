import Derived.Test.YtkedbmpnhplmaaaMgC
import Derived.Test.YtkedbmpnhplmaaaMgP
import Derived.Shelf.SlSortCmp.NoneTotal
namespace Go.Proofs.Ytkedbmpnhplmaaa
open Go.RowKit Go.Shelf
attribute [local go_sem] Oper.semAt_some
set_option linter.unusedVariables false
set_option linter.unusedSimpArgs false
set_option maxRecDepth 100000
set_option maxHeartbeats 2000000

/-- The same windows, by their beginnings. -/
def Srt (xs ps : List Wn) : Prop := ps.Perm xs ∧ ps.Pairwise (fun x y => x.a ≤ y.a)

theorem sorted_any (w : World) (Bs : Nat) (v : Value) (xs : List Wn) (hmax : xs.length * 16 ≤ 140737488355328) (hbs : Boxed w Bs 22 v) (hr : RdW w v xs) :
    Calls Try.prog 19 #[.func (.func 28) #[] #[.pointer (some ⟨Bs, 0, none⟩)], .func (.func 21) #[] #[]] w fun e w' => ∃ u ps, e = .returned u ∧ Srt xs ps ∧ w'.ownsRow w.heap.size 24 2 u xs.length (wcells ps) ∧ Below w.heap.size w w' := by
  have H := collect_any w Bs v xs hmax hbs hr
  cases xs with
  | nil =>
    have hnone := fun W => AnyF.slices_SortFunc_none Try.sortWn none 0 (.func (.func 21) #[] #[]) W
    change ∀ W, Calls Try.prog 27 _ _ _ at hnone
    go_enter Try.func19, Try.ntmps19
    go_wp2_with (first
      | (go_at_call 26; refine H.mono ?_; rintro e w' ⟨u, rfl, h1, h2, h3⟩; obtain rfl := h2.2 rfl)
      | (go_at_call 27; refine (hnone _).mono ?_; rintro e w2 ⟨rfl, rfl⟩))
    go_ret
    exact ⟨_, [], rfl, ⟨List.Perm.refl _, List.Pairwise.nil⟩, h1, h3⟩
  | cons x xs =>
    go_enter Try.func19, Try.ntmps19
    go_wp2_with (first
      | (go_at_call 26; refine H.mono ?_; rintro e w' ⟨u, rfl, h1, h2, h3⟩; obtain ⟨g, cap, rfl⟩ := ownsRow_succ (show w'.ownsRow w.heap.size 24 2 u (xs.length + 1) _ from h1))
      | (go_at_call 27; refine (sort_some w' w.heap.size g cap (x :: xs) h1 (by omega)).mono ?_; rintro e w2 ⟨rfl, ps, p1, p2, p3, p4⟩))
    go_ret
    have hgb : w.heap.size ≤ g := by
      rcases h1.2 with ⟨e, _⟩ | ⟨g', cap', cur, e, hb, _⟩
      · simp at e
      · simp at e; omega
    exact ⟨_, ps, rfl, ⟨p1, p2⟩, p3, h3.grown p4 h3.size (fun j ej => by cases ej; exact hgb)⟩

theorem RdK.own {w : World} {B ty base n : Nat} {v : Value} {xs : List Wn} (h : w.ownsRow base 24 2 v n (wcells xs)) (hB : B < base) (hbox : Boxed w B ty (.slice none 0 0)) : RdK B ty w v xs := by
  obtain ⟨a, cap, h1, h2⟩ := RdW.own h
  refine ⟨a, cap, h1, fun i x hx => ?_⟩
  obtain ⟨b, o, e, c1, c2⟩ := h2 i x hx
  have hb : base ≤ b := by
    rcases h.2 with ⟨e1, _⟩ | ⟨g, cap', cur, e1, hb, _⟩
    · rw [h1, e] at e1; simp at e1
    · rw [h1, e] at e1; simp at e1; omega
  exact ⟨b, o, e, ⟨c1, by show b ≠ B; omega, not_rowAt hbox _⟩, ⟨c2, by show b ≠ B; omega, not_rowAt hbox _⟩⟩

theorem byBeg_any (v : Value) (a : Option Addr) (len cap : Nat) (hv : v = .slice a len cap) (w : World) :
    Calls Try.prog 13 #[v] w fun e w' => e = .returned (.func (.func 18) #[] #[.pointer (some ⟨w.heap.size, 0, none⟩)]) ∧ w' = w.alloc (.cells #[v] 22) := by
  subst hv
  go_enter Try.func13, Try.ntmps13
  go_wp2
  go_ret
  exact ⟨rfl, rfl⟩

theorem byBeg1_in (n : Nat) (hn : 1 ≤ n) (l Bs B ty : Nat) (v : Value) (xs : List Wn) (hmax : xs.length * 16 ≤ 140737488355328) (J Jx : List Wn → World → Prop) (hJ : ∀ s A A', J s A → A.grownBy A' none → J s A')
    (hY : ∀ pre y W, J pre W → pre.length < xs.length → YieldAt Fence.wide (n - 1) Try.prog l #[wV y] W fun e W' =>
      (e = .returned (.bool true) ∧ J (pre ++ [y]) W' ∧ KpR B ty W W') ∨ (e = .returned (.bool false) ∧ Jx (pre ++ [y]) W'))
    (W : World) (hB : Boxed W B ty (.slice none 0 0)) (k0 : Boxed W Bs 22 v) (hr : RdW W v xs) (h0 : J [] W) :
    CallsIn Fence.wide n Try.prog 18 #[.func (.yield l) #[] #[], .pointer (some ⟨Bs, 0, none⟩)] W fun e W' => (∃ v, e = .returned v) ∧
      ((∃ ys, (∃ ps, Srt xs ps ∧ ys = some_ ps) ∧ J ys W') ∨ (∃ pre, True ∧ Jx pre W')) := by
  have hc0 := k0.cell
  have hB1 : Boxed (W.alloc (.cells #[v] 22)) B ty (.slice none 0 0) := hB.alloc _
  have kv := Boxed.new W 22 v
  have hb1 := xbel1 W (.cells #[v] 22)
  have hr1 := hr.later hb1
  obtain ⟨a, cap, hv, _⟩ := hr
  refine callsIn_of_wp Try.func18 rfl trivial ?_ rfl
  simp only [Try.ntmps18, List.size_toArray, List.length_cons, List.length_nil, Nat.reduceAdd, Nat.reduceSub, Array.replicate_succ, Array.replicate_zero, List.push_toArray, List.append_toArray, List.nil_append, List.cons_append]
  subst hv
  gi_wp2_with (first
    | (refine ⟨trivial, ?_⟩; gi_at_call 20; refine (callsIn_wide.2 (values_any _ a xs.length cap rfl _)).mono ?_; rintro e w' ⟨rfl, rfl⟩)
    | (refine ⟨trivial, ?_⟩; gi_at_call 19; refine (callsIn_wide.2 (sorted_any _ W.heap.size (.slice a xs.length cap) xs hmax kv hr1)).mono ?_; rintro e w2 ⟨u, ps, rfl, hsr, hown, hbw⟩; have hlen : ps.length = xs.length := hsr.1.length_eq; have hbx2 : Boxed w2 B ty (.slice none 0 0) := (hbw.block B (by have := hB.lt; simp; omega)).trans hB1; have hrk : RdK B ty w2 u ps := RdK.own hown (by have := hB.lt; simp; omega) hbx2; obtain ⟨a2, cap2, rfl, hcl⟩ := hrk))
  have hBW : Below W.heap.size W w2 := hb1.trans (hbw.mono (by simp))
  have hJ2 : J [] w2 := hJ [] W w2 h0 ⟨hBW.os, hBW.tape, hBW.output, hBW.size, fun k hk _ => hBW.block k hk⟩
  have HSR : Hid (Srt xs ps) := hsr
  clear hsr hown hbw hr1 kv hB1 h0
  have HLEN : Hid (ps.length = xs.length) := hlen
  clear hlen
  gi_loopw [11] (fun i wr => ∃ k : Nat, k ≤ xs.length ∧ i = .int .i64 k ∧ J (some_ (ps.take k)) wr ∧ KpR B ty w2 wr) (fun i _ => xs.length - (intOf i).toNat)
  case atStart => exact ⟨0, Nat.zero_le _, rfl, hJ2, KpR.refl _ _ _⟩
  case round =>
    obtain ⟨k, hk, rfl, hJs, hkp⟩ := hrel
    have hBr : B < wr.heap.size := Nat.lt_of_lt_of_le hbx2.lt hkp.1
    by_cases hlt : k < xs.length
    · have hi : (k : Int) < (xs.length : Int) := by omega
      obtain ⟨x, hx⟩ : ∃ x, ps[k]? = some x := ⟨ps[k]'(by rw [HLEN.out]; exact hlt), by simp [HLEN.out, hlt]⟩
      have hpl : (some_ (ps.take k)).length < xs.length := by
        have h1 : (some_ (ps.take k)).length ≤ (ps.take k).length := List.length_filter_le _ _
        rw [List.length_take] at h1; omega
      obtain ⟨b1, o1, rfl, e1, e2⟩ := hcl k x hx
      have f1 := (e1.to hkp).1
      have f2 := (e2.to hkp).1
      have hJ3 := hJ _ _ _ hJs (World.grownBy_alloc wr (.cells #[.int .i64 x.a, .int .i64 x.b] 24) none)
      have HX : Hid (some_ (ps.take (k + 1)) = if x.a < x.b then some_ (ps.take k) ++ [x] else some_ (ps.take k)) := by
        unfold Hid; rw [List.take_add_one, hx]; exact some_snoc _ _
      clear hcl e1 e2
      by_cases hab : x.a < x.b
      · obtain ⟨fn, tmps, assign, body, hy, hR⟩ := hY _ x _ hJ3 hpl
        unfold wV at hy
        have HX2 : Hid (some_ (ps.take (k + 1)) = some_ (ps.take k) ++ [x]) := by have := HX.out; rw [if_pos hab] at this; exact this
        clear HX
        generalize some_ (ps.take k) = pre at *
        gi_wp2
        refine hR.mono ?_
        rintro e W3 (⟨rfl, hJ4, hk3⟩ | ⟨rfl, hJx3⟩)
        · gi_wp2
          go_roundw
          case rel => exact ⟨k + 1, by omega, by go_num, by rw [HX2.out]; exact hJ4, hkp.trans ((kpR_alloc hBr _).trans hk3)⟩
          case measure => simp [intOf]; omega
        · gi_wp2
          refine bodyPost_ret (results_none rfl _ _ _) rfl ?_
          exact ⟨⟨_, rfl⟩, .inr ⟨_, trivial, hJx3⟩⟩
      · have HX2 : Hid (some_ (ps.take (k + 1)) = some_ (ps.take k)) := by have := HX.out; rw [if_neg hab] at this; exact this
        clear HX
        generalize some_ (ps.take k) = pre at *
        gi_wp2
        refine ⟨fun _ h => (by cases h), ?_⟩
        gi_wp2
        go_roundw
        case rel => exact ⟨k + 1, by omega, by go_num, by rw [HX2.out]; exact hJ3, hkp.trans (kpR_alloc hBr _)⟩
        case measure => simp [intOf]; omega
    · obtain rfl : k = xs.length := by omega
      rw [← HLEN.out, List.take_length] at hJs
      gi_wp2
      go_end0
      exact ⟨⟨_, rfl⟩, .inl ⟨_, ⟨ps, HSR.out, rfl⟩, hJs⟩⟩

theorem byBeg_stops (n : Nat) (hn : 1 ≤ n) (Bs B ty : Nat) (v : Value) (xs : List Wn) (hmax : xs.length * 16 ≤ 140737488355328) (w : World) (hB : Boxed w B ty (.slice none 0 0)) (k0 : Boxed w Bs 22 v) (hr : RdW w v xs) :
    SeqStopsK Fence.wide n Try.prog 18 #[.pointer (some ⟨Bs, 0, none⟩)] (fun y : Wn => #[wV y]) (KpR B ty) (fun ys => ∃ ps, Srt xs ps ∧ ys = some_ ps) (fun _ => True) xs.length w := fun l J Jx W hW hJ _ hY h0 =>
  byBeg1_in n hn l Bs B ty v xs hmax J Jx (fun u A A' h hg => hJ u A A' none h hg (fun _ e => by cases e)) hY W ((hW.block B hB.lt).trans hB) ((hW.block Bs k0.lt).trans k0) (hr.later hW) h0
end Go.Proofs.Ytkedbmpnhplmaaa
