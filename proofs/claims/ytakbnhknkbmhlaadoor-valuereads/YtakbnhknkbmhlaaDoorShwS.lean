import Derived.Test.YtakbnhknkbmhlaaDoorShwR
import Derived.Test.YtakbnhknkbmhlaaDoorShwD
import Derived.Test.YtakbnhknkbmhlaaDoorShwP
import Derived.Test.YtakbnhknkbmhlaaDoorShelf
import Derived.Lib.AppendIntMem
namespace Go.Proofs.YtakbnhknkbmhlaaDoor
open Go.RowKit
set_option linter.unusedVariables false

theorem below_grow (w : World) (k : Nat) (os : Array Obj) : Below w.heap.size w (Sort.grow (w.drewN k) os) :=
  ⟨rfl, rfl, rfl, by simp, fun j hj => Sort.heap_grow_old (w.drewN k) os (by simpa using hj)⟩

set_option maxHeartbeats 400000 in
theorem refValidRow_any (t : Int) (a : Option Addr) (len cap : Nat) (f : Nat → V) (w : World) (h1 : Lies w a len f) (hm : len ≤ maxLen) :
    Calls Tryd.prog 10 #[.agg #[.int .i64 t, .slice a len cap]] w fun e w' => e = .returned (.bool (rowB t len f)) ∧ Below w.heap.size w w' := by
  unfold maxLen at hm
  go_enter Tryd.func10, Tryd.ntmps10
  go_wp2
  go_loopw [3] (fun i w' => ∃ k : Nat, k ≤ len ∧ i = .int .i64 k ∧ Below (w.alloc (.cells #[.int .i64 t, .slice a len cap] 27)).heap.size (w.alloc (.cells #[.int .i64 t, .slice a len cap] 27)) w' ∧ (∀ i, i < k → vv (f i) = true)) (fun i _ => len - (intOf i).toNat)
  case atStart => exact ⟨0, Nat.zero_le _, rfl, Below.refl _ _, fun i hi => absurd hi (by omega)⟩
  case round =>
    obtain ⟨k, hk, rfl, hb, hv0⟩ := hrel
    have HV : Hid (∀ i, i < k → vv (f i) = true) := hv0
    have hB : Below w.heap.size w wr := (bel1 w _).trans (hb.mono (by simp))
    have d0 : wr.cell? ⟨w.heap.size, 0, none⟩ = some (.int .i64 t) := cell_later hb (by go_simp)
    have d1 : wr.cell? ⟨w.heap.size, 1, none⟩ = some (.slice a len cap) := cell_later hb (by go_simp)
    have hbs := hb.size
    clear hv0
    by_cases hlt : k < len
    · have hi : (k : Int) < (len : Int) := by omega
      obtain ⟨b, o, rfl, ha1, ha2, ha3, ha4, _, _⟩ := h1.later hB k hlt
      clear h1
      cases hq : vv (f k) with
      | true =>
        go_wp2_with (first | (go_at_call 8; refine (refValid_any _ _ _ _ ha4).mono ?_; rw [show validB (f k).k (f k).n (f k).s = true from hq]; rintro e w2 ⟨rfl, hbb⟩))
        go_roundw
        case rel => exact ⟨k + 1, by omega, by go_num, hb.trans (hbb.mono hbs), fun i hi => by by_cases e : i = k; (· rw [e]; exact hq); exact HV.out i (by omega)⟩
        case measure => simp [intOf]; omega
      | false =>
        have H2 : Hid (rowB t len f = false) := by unfold Hid rowB; rw [allV_false f len k hlt hq]; simp
        go_wp2_with (first | (go_at_call 8; refine (refValid_any _ _ _ _ ha4).mono ?_; rw [show validB (f k).k (f k).n (f k).s = false from hq]; rintro e w2 ⟨rfl, hbb⟩))
        go_ret
        exact ⟨ret_bool H2.out.symm, hB.trans (hbb.mono hB.size)⟩
    · have H : Hid (allV f len = true) := allV_true f len (fun i hi => HV.out i (by omega))
      by_cases g0 : 0 ≤ t
      · by_cases g1 : t ≤ 1099511627776
        · have H2 : Hid (rowB t len f = decide ((len : Int) ≤ 8)) := by unfold Hid rowB; rw [H.out]; simp [g0, g1]
          go_wp2
          go_ret
          exact ⟨ret_bool H2.out.symm, hB⟩
        · have H2 : Hid (rowB t len f = false) := by unfold Hid rowB; simp [g1]
          have g1' : decide (t ≤ 1099511627776) = false := by simpa using g1
          go_wp2
          go_ret
          exact ⟨ret_bool H2.out.symm, hB⟩
      · have H2 : Hid (rowB t len f = false) := by unfold Hid rowB; simp [g0]
        have g1' : decide (0 ≤ t) = false := by simpa using g0
        go_wp2
        go_ret
        exact ⟨ret_bool H2.out.symm, hB⟩

theorem validRow_any (t : Int) (a : Option Addr) (len cap : Nat) (f : Nat → V) (w : World) (h1 : Lies w a len f) (hm : len ≤ maxLen) :
    Calls Tryd.prog 9 #[.agg #[.int .i64 t, .slice a len cap]] w fun e w' => e = .returned (.bool (rowB t len f)) ∧ Below w.heap.size w w' := by
  by_cases g0 : t < 0
  · exact validRow_out t a len cap f w (.inl g0) hm
  by_cases g1 : 1099511627776 < t
  · exact validRow_out t a len cap f w (.inr (.inl ⟨g0, g1⟩)) hm
  by_cases g2 : 8 < (len : Int)
  · exact validRow_out t a len cap f w (.inr (.inr ⟨g0, g1, g2⟩)) hm
  exact validRow_in t a len cap f w h1 g0 g1 g2

def showB (k n : Int) (s : ByteArray) : ByteArray :=
  if validB k n s = true then
    (if k = 1 then ⟨(Lib.itoa n).toArray⟩ else if k = 2 then (if n = 1 then ⟨#[116, 114, 117, 101]⟩ else ⟨#[102, 97, 108, 115, 101]⟩) else if k = 3 then ⟨(39 :: escAll s.data.toList ++ [39]).toArray⟩ else ⟨#[110, 117, 108, 108]⟩)
  else ⟨#[]⟩

theorem valid_kind {k n : Int} {s : ByteArray} (h : validB k n s = true) : k = 0 ∨ k = 1 ∨ (k = 2 ∧ n = 1) ∨ (k = 2 ∧ n = 0) ∨ (k = 3 ∧ s.size ≤ 60) := by
  unfold validB at h
  by_cases h0 : k = 0
  · exact .inl h0
  by_cases h1 : k = 1
  · exact .inr (.inl h1)
  rw [if_neg h0, if_neg h1] at h
  by_cases h2 : k = 2
  · rw [if_pos h2] at h
    simp at h
    rcases h.2 with e | e
    · exact .inr (.inr (.inr (.inl ⟨h2, e⟩)))
    · exact .inr (.inr (.inl ⟨h2, e⟩))
  rw [if_neg h2] at h
  by_cases h3 : k = 3
  · rw [if_pos h3] at h
    simp at h
    exact .inr (.inr (.inr (.inr ⟨h3, by omega⟩)))
  rw [if_neg h3] at h
  cases h

abbrev Tab (w : World) : Prop := Lib.TabIs Tryd.prog w "internal/strconv.uint64pow10" .u64 Lib.pow10Tab
theorem Tab.later {w w' : World} (h : Tab w) (hb : Below w.heap.size w w') : Tab w' := Lib.tabBelow_of_tabIs h w' hb

set_option maxHeartbeats 400000 in
theorem show_any (k n : Int) (s : ByteArray) (w : World) (hs : s.size ≤ maxLen) (h0 : -9223372036854775808 ≤ n) (h1 : n ≤ 9223372036854775807) (ht : Tab w) :
    Calls Tryd.prog 11 #[.agg #[.int .i64 k, .int .i64 n, .string s]] w fun e w' => e = .returned (.string (showB k n s)) ∧ Below w.heap.size w w' := by
  have HT : Hid (Tab w) := ht
  have H0 : Hid (-9223372036854775808 ≤ n) := h0
  have H1 : Hid (n ≤ 9223372036854775807) := h1
  have HS : Hid (s.size ≤ maxLen) := hs
  clear ht h0 h1 hs
  cases hv : validB k n s with
  | false =>
    have H : Hid (showB k n s = ⟨#[]⟩) := by unfold Hid showB; rw [if_neg (by simp [hv])]
    go_enter Tryd.func11, Tryd.ntmps11
    go_wp2_with (first | (go_at_call 7; refine (valid_any _ _ _ _ HS.out).mono ?_; rw [hv]; rintro e w2 ⟨rfl, hbb⟩))
    go_ret
    exact ⟨ret_str H.out.symm, (bel1 w _).trans (hbb.mono (by simp))⟩
  | true =>
    rcases valid_kind hv with rfl | rfl | ⟨rfl, rfl⟩ | ⟨rfl, rfl⟩ | ⟨rfl, hs60⟩
    · have H : Hid (showB 0 n s = ⟨#[110, 117, 108, 108]⟩) := by unfold Hid showB; rw [if_pos hv]; rfl
      go_enter Tryd.func11, Tryd.ntmps11
      go_wp2_with (first | (go_at_call 7; refine (valid_any _ _ _ _ HS.out).mono ?_; rw [hv]; rintro e w2 ⟨rfl, hbb⟩; have c0 := cell_later hbb (a := ⟨w.heap.size, 0, none⟩) (v := .int .i64 0) (by go_simp)))
      go_ret
      exact ⟨ret_str H.out.symm, (bel1 w _).trans (hbb.mono (by simp))⟩
    · have H : Hid (showB 1 n s = ⟨(Lib.itoa n).toArray⟩) := by unfold Hid showB; rw [if_pos hv]; rfl
      go_enter Tryd.func11, Tryd.ntmps11
      go_wp2_with (first
        | (go_at_call 7; refine (valid_any _ _ _ _ HS.out).mono ?_; rw [hv]; rintro e w2 ⟨rfl, hbb⟩; have c0 := cell_later hbb (a := ⟨w.heap.size, 0, none⟩) (v := .int .i64 1) (by go_simp); have c1 := cell_later hbb (a := ⟨w.heap.size, 1, none⟩) (v := .int .i64 n) (by go_simp))
        | (go_at_call 23; refine (Tryd.strconv_FormatInt_10 n H0.out H1.out _ (HT.out.later ((bel1 w _).trans (hbb.mono (by simp))))).mono ?_; rintro e w3 ⟨rfl, k3, os3, rfl⟩))
      go_ret
      exact ⟨ret_str H.out.symm, ((bel1 w _).trans (hbb.mono (by simp))).trans ((below_grow w2 k3 os3).mono ((bel1 w _).trans (hbb.mono (by simp))).size)⟩
    · have H : Hid (showB 2 1 s = ⟨#[116, 114, 117, 101]⟩) := by unfold Hid showB; rw [if_pos hv]; rfl
      go_enter Tryd.func11, Tryd.ntmps11
      go_wp2_with (first
        | (go_at_call 7; refine (valid_any _ _ _ _ HS.out).mono ?_; rw [hv]; rintro e w2 ⟨rfl, hbb⟩; have c0 := cell_later hbb (a := ⟨w.heap.size, 0, none⟩) (v := .int .i64 2) (by go_simp); have c1 := cell_later hbb (a := ⟨w.heap.size, 1, none⟩) (v := .int .i64 1) (by go_simp))
        | go_in)
      go_ret
      exact ⟨ret_str H.out.symm, (bel1 w _).trans (hbb.mono (by simp))⟩
    · have H : Hid (showB 2 0 s = ⟨#[102, 97, 108, 115, 101]⟩) := by unfold Hid showB; rw [if_pos hv]; rfl
      go_enter Tryd.func11, Tryd.ntmps11
      go_wp2_with (first
        | (go_at_call 7; refine (valid_any _ _ _ _ HS.out).mono ?_; rw [hv]; rintro e w2 ⟨rfl, hbb⟩; have c0 := cell_later hbb (a := ⟨w.heap.size, 0, none⟩) (v := .int .i64 2) (by go_simp); have c1 := cell_later hbb (a := ⟨w.heap.size, 1, none⟩) (v := .int .i64 0) (by go_simp))
        | go_in)
      go_ret
      exact ⟨ret_str H.out.symm, (bel1 w _).trans (hbb.mono (by simp))⟩
    · have H : Hid (showB 3 n s = ⟨(39 :: escAll s.data.toList ++ [39]).toArray⟩) := by unfold Hid showB; rw [if_pos hv]; rfl
      go_enter Tryd.func11, Tryd.ntmps11
      go_wp2_with (first
        | (go_at_call 7; refine (valid_any _ _ _ _ HS.out).mono ?_; rw [hv]; rintro e w2 ⟨rfl, hbb⟩; have c0 := cell_later hbb (a := ⟨w.heap.size, 0, none⟩) (v := .int .i64 3) (by go_simp); have c1 := cell_later hbb (a := ⟨w.heap.size, 2, none⟩) (v := .string s) (by go_simp))
        | (go_at_call 25; refine (quoted_any s _ hs60).mono ?_; rintro e w3 ⟨rfl, hb3⟩))
      go_ret
      exact ⟨ret_str H.out.symm, ((bel1 w _).trans (hbb.mono (by simp))).trans (hb3.mono ((bel1 w _).trans (hbb.mono (by simp))).size)⟩
end Go.Proofs.YtakbnhknkbmhlaaDoor
