import Derived.Test.YtakbnhknkbmhlaaDoorShwS
namespace Go.Proofs.YtakbnhknkbmhlaaDoor
open Go.RowKit
set_option linter.unusedVariables false

set_option maxHeartbeats 400000 in
theorem refShow_any (k n : Int) (s : ByteArray) (w : World) (hs : s.size ≤ maxLen) (h0 : -9223372036854775808 ≤ n) (h1 : n ≤ 9223372036854775807) :
    Calls Tryd.prog 12 #[.agg #[.int .i64 k, .int .i64 n, .string s]] w fun e w' => e = .returned (.string (showB k n s)) ∧ Below w.heap.size w w' := by
  have H0 : Hid (-9223372036854775808 ≤ n) := h0
  have H1 : Hid (n ≤ 9223372036854775807) := h1
  have HS : Hid (s.size ≤ maxLen) := hs
  clear h0 h1 hs
  cases hv : validB k n s with
  | false =>
    have H : Hid (showB k n s = ⟨#[]⟩) := by unfold Hid showB; rw [if_neg (by simp [hv])]
    go_enter Tryd.func12, Tryd.ntmps12
    go_wp2_with (first | (go_at_call 8; refine (refValid_any _ _ _ _ HS.out).mono ?_; rw [hv]; rintro e w2 ⟨rfl, hbb⟩))
    go_ret
    exact ⟨ret_str H.out.symm, (bel1 w _).trans (hbb.mono (by simp))⟩
  | true =>
    rcases valid_kind hv with rfl | rfl | ⟨rfl, rfl⟩ | ⟨rfl, rfl⟩ | ⟨rfl, hs60⟩
    · have H : Hid (showB 0 n s = ⟨#[110, 117, 108, 108]⟩) := by unfold Hid showB; rw [if_pos hv]; rfl
      go_enter Tryd.func12, Tryd.ntmps12
      go_wp2_with (first | (go_at_call 8; refine (refValid_any _ _ _ _ HS.out).mono ?_; rw [hv]; rintro e w2 ⟨rfl, hbb⟩; have c0 := cell_later hbb (a := ⟨w.heap.size, 0, none⟩) (v := .int .i64 0) (by go_simp)))
      go_ret
      exact ⟨ret_str H.out.symm, (bel1 w _).trans (hbb.mono (by simp))⟩
    · have H : Hid (showB 1 n s = ⟨(Lib.itoa n).toArray⟩) := by unfold Hid showB; rw [if_pos hv]; rfl
      go_enter Tryd.func12, Tryd.ntmps12
      go_wp2_with (first
        | (go_at_call 8; refine (refValid_any _ _ _ _ HS.out).mono ?_; rw [hv]; rintro e w2 ⟨rfl, hbb⟩; have c0 := cell_later hbb (a := ⟨w.heap.size, 0, none⟩) (v := .int .i64 1) (by go_simp); have c1 := cell_later hbb (a := ⟨w.heap.size, 1, none⟩) (v := .int .i64 n) (by go_simp))
        | (go_at_call 26; refine (decimal_any n _ H0.out H1.out).mono ?_; rintro e w3 ⟨rfl, rfl⟩))
      go_ret
      exact ⟨ret_str H.out.symm, (bel1 w _).trans (hbb.mono (by simp))⟩
    · have H : Hid (showB 2 1 s = ⟨#[116, 114, 117, 101]⟩) := by unfold Hid showB; rw [if_pos hv]; rfl
      go_enter Tryd.func12, Tryd.ntmps12
      go_wp2_with (first
        | (go_at_call 8; refine (refValid_any _ _ _ _ HS.out).mono ?_; rw [hv]; rintro e w2 ⟨rfl, hbb⟩; have c0 := cell_later hbb (a := ⟨w.heap.size, 0, none⟩) (v := .int .i64 2) (by go_simp); have c1 := cell_later hbb (a := ⟨w.heap.size, 1, none⟩) (v := .int .i64 1) (by go_simp)))
      go_ret
      exact ⟨ret_str H.out.symm, (bel1 w _).trans (hbb.mono (by simp))⟩
    · have H : Hid (showB 2 0 s = ⟨#[102, 97, 108, 115, 101]⟩) := by unfold Hid showB; rw [if_pos hv]; rfl
      go_enter Tryd.func12, Tryd.ntmps12
      go_wp2_with (first
        | (go_at_call 8; refine (refValid_any _ _ _ _ HS.out).mono ?_; rw [hv]; rintro e w2 ⟨rfl, hbb⟩; have c0 := cell_later hbb (a := ⟨w.heap.size, 0, none⟩) (v := .int .i64 2) (by go_simp); have c1 := cell_later hbb (a := ⟨w.heap.size, 1, none⟩) (v := .int .i64 0) (by go_simp)))
      go_ret
      exact ⟨ret_str H.out.symm, (bel1 w _).trans (hbb.mono (by simp))⟩
    · have H : Hid (showB 3 n s = ⟨(39 :: escAll s.data.toList ++ [39]).toArray⟩) := by unfold Hid showB; rw [if_pos hv]; rfl
      go_enter Tryd.func12, Tryd.ntmps12
      go_wp2_with (first
        | (go_at_call 8; refine (refValid_any _ _ _ _ HS.out).mono ?_; rw [hv]; rintro e w2 ⟨rfl, hbb⟩; have c0 := cell_later hbb (a := ⟨w.heap.size, 0, none⟩) (v := .int .i64 3) (by go_simp); have c1 := cell_later hbb (a := ⟨w.heap.size, 2, none⟩) (v := .string s) (by go_simp))
        | (go_at_call 27; refine (quote_any s _ hs60).mono ?_; rintro e w3 ⟨rfl, n3, rfl⟩))
      go_ret
      exact ⟨ret_str H.out.symm, below_drewN ((bel1 w _).trans (hbb.mono (by simp))) _⟩

theorem bel2 (w : World) (o1 o2 : Obj) : Below w.heap.size w ((w.alloc o1).alloc o2) := ((Below.refl _ _).alloc (Nat.le_refl _) _).alloc (by simp) _

set_option maxHeartbeats 1000000 in
theorem shows_walk (k n : Int) (s : ByteArray) (t : Int) (a : Option Addr) (len cap : Nat) (f : Nat → V) (w : World) (hs : s.size ≤ maxLen) (h0 : -9223372036854775808 ≤ n) (h1 : n ≤ 9223372036854775807) (ht : Tab w) (hl : Lies w a len f) (hm : len ≤ maxLen) :
    Calls Tryd.prog 3 #[.agg #[.int .i64 k, .int .i64 n, .string s], .agg #[.int .i64 t, .slice a len cap]] w fun e w' => e = .returned (.bool true) ∧ Below w.heap.size w w' := by
  have HT : Hid (Tab w) := ht
  have HL : Hid (Lies w a len f) := hl
  clear ht hl
  go_enter Tryd.func3, Tryd.ntmps3
  go_wp2_with fail
  have hW := bel2 w (.cells #[.int .i64 k, .int .i64 n, .string s] 24) (.cells #[.int .i64 t, .slice a len cap] 27)
  have d0 : ((w.alloc (.cells #[.int .i64 k, .int .i64 n, .string s] 24)).alloc (.cells #[.int .i64 t, .slice a len cap] 27)).cell? ⟨w.heap.size, 0, none⟩ = some (.int .i64 k) := by go_simp
  have d1 : ((w.alloc (.cells #[.int .i64 k, .int .i64 n, .string s] 24)).alloc (.cells #[.int .i64 t, .slice a len cap] 27)).cell? ⟨w.heap.size, 1, none⟩ = some (.int .i64 n) := by go_simp
  have d2 : ((w.alloc (.cells #[.int .i64 k, .int .i64 n, .string s] 24)).alloc (.cells #[.int .i64 t, .slice a len cap] 27)).cell? ⟨w.heap.size, 2, none⟩ = some (.string s) := by go_simp
  have d3 : ((w.alloc (.cells #[.int .i64 k, .int .i64 n, .string s] 24)).alloc (.cells #[.int .i64 t, .slice a len cap] 27)).cell? ⟨w.heap.size + 1, 0, none⟩ = some (.int .i64 t) := by go_simp
  have d4 : ((w.alloc (.cells #[.int .i64 k, .int .i64 n, .string s] 24)).alloc (.cells #[.int .i64 t, .slice a len cap] 27)).cell? ⟨w.heap.size + 1, 1, none⟩ = some (.slice a len cap) := by go_simp
  generalize ((w.alloc (.cells #[.int .i64 k, .int .i64 n, .string s] 24)).alloc (.cells #[.int .i64 t, .slice a len cap] 27)) = W at *
  refine (valid_any k n s W hs).mono ?_
  rintro e w1 ⟨rfl, hb1⟩
  replace d0 := cell_later hb1 d0
  replace d1 := cell_later hb1 d1
  replace d2 := cell_later hb1 d2
  replace d3 := cell_later hb1 d3
  replace d4 := cell_later hb1 d4
  replace hW := hW.trans (hb1.mono hW.size)
  clear hb1
  go_wp2_with fail
  refine (refValid_any k n s w1 hs).mono ?_
  rintro e w2 ⟨rfl, hb1⟩
  replace d0 := cell_later hb1 d0
  replace d1 := cell_later hb1 d1
  replace d2 := cell_later hb1 d2
  replace d3 := cell_later hb1 d3
  replace d4 := cell_later hb1 d4
  replace hW := hW.trans (hb1.mono hW.size)
  clear hb1
  go_wp2_with fail
  refine (validRow_any t a len cap f w2 (HL.out.later hW) hm).mono ?_
  rintro e w3 ⟨rfl, hb1⟩
  replace d0 := cell_later hb1 d0
  replace d1 := cell_later hb1 d1
  replace d2 := cell_later hb1 d2
  replace d3 := cell_later hb1 d3
  replace d4 := cell_later hb1 d4
  replace hW := hW.trans (hb1.mono hW.size)
  clear hb1
  go_wp2_with fail
  refine (refValidRow_any t a len cap f w3 (HL.out.later hW) hm).mono ?_
  rintro e w4 ⟨rfl, hb1⟩
  replace d0 := cell_later hb1 d0
  replace d1 := cell_later hb1 d1
  replace d2 := cell_later hb1 d2
  replace hW := hW.trans (hb1.mono hW.size)
  clear hb1 d3 d4
  go_wp2_with fail
  refine (show_any k n s w4 hs h0 h1 (HT.out.later hW)).mono ?_
  rintro e w5 ⟨rfl, hb1⟩
  replace d0 := cell_later hb1 d0
  replace d1 := cell_later hb1 d1
  replace d2 := cell_later hb1 d2
  replace hW := hW.trans (hb1.mono hW.size)
  clear hb1
  go_wp2_with fail
  refine (refShow_any k n s w5 hs h0 h1).mono ?_
  rintro e w6 ⟨rfl, hb1⟩
  replace hW := hW.trans (hb1.mono hW.size)
  clear hb1 d0 d1 d2
  go_wp2
  go_ret
  exact ⟨ret_bool (by simp), hW⟩
end Go.Proofs.YtakbnhknkbmhlaaDoor
