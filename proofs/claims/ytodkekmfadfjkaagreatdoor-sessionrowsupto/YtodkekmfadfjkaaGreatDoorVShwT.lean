import Derived.Test.YtodkekmfadfjkaaGreatDoorVShwS
namespace Go.Proofs.YtodkekmfadfjkaaGreatDoor.Vl
open Go.RowKit
set_option linter.unusedVariables false

set_option maxHeartbeats 400000 in
theorem refShow_any (k n : Int) (s : ByteArray) (w : World) (hs : s.size ≤ maxLen) (h0 : -9223372036854775808 ≤ n) (h1 : n ≤ 9223372036854775807) :
    Calls Tryz.prog 21 #[.agg #[.int .i64 k, .int .i64 n, .string s]] w fun e w' => e = .returned (.string (showB k n s)) ∧ Below w.heap.size w w' := by
  have H0 : Hid (-9223372036854775808 ≤ n) := h0
  have H1 : Hid (n ≤ 9223372036854775807) := h1
  have HS : Hid (s.size ≤ maxLen) := hs
  clear h0 h1 hs
  cases hv : validB k n s with
  | false =>
    have H : Hid (showB k n s = ⟨#[]⟩) := by unfold Hid showB; rw [if_neg (by simp [hv])]
    go_enter Tryz.func21, Tryz.ntmps21
    go_wp2_with (first | (go_at_call 15; refine (refValid_any _ _ _ _ HS.out).mono ?_; rw [hv]; rintro e w2 ⟨rfl, hbb⟩))
    go_ret
    exact ⟨ret_str H.out.symm, (bel1 w _).trans (hbb.mono (by simp))⟩
  | true =>
    rcases valid_kind hv with rfl | rfl | ⟨rfl, rfl⟩ | ⟨rfl, rfl⟩ | ⟨rfl, hs60⟩
    · have H : Hid (showB 0 n s = ⟨#[110, 117, 108, 108]⟩) := by unfold Hid showB; rw [if_pos hv]; rfl
      go_enter Tryz.func21, Tryz.ntmps21
      go_wp2_with (first | (go_at_call 15; refine (refValid_any _ _ _ _ HS.out).mono ?_; rw [hv]; rintro e w2 ⟨rfl, hbb⟩; have c0 := cell_later hbb (a := ⟨w.heap.size, 0, none⟩) (v := .int .i64 0) (by go_simp)))
      go_ret
      exact ⟨ret_str H.out.symm, (bel1 w _).trans (hbb.mono (by simp))⟩
    · have H : Hid (showB 1 n s = ⟨(Lib.itoa n).toArray⟩) := by unfold Hid showB; rw [if_pos hv]; rfl
      go_enter Tryz.func21, Tryz.ntmps21
      go_wp2_with (first
        | (go_at_call 15; refine (refValid_any _ _ _ _ HS.out).mono ?_; rw [hv]; rintro e w2 ⟨rfl, hbb⟩; have c0 := cell_later hbb (a := ⟨w.heap.size, 0, none⟩) (v := .int .i64 1) (by go_simp); have c1 := cell_later hbb (a := ⟨w.heap.size, 1, none⟩) (v := .int .i64 n) (by go_simp))
        | (go_at_call 36; refine (decimal_any n _ H0.out H1.out).mono ?_; rintro e w3 ⟨rfl, rfl⟩))
      go_ret
      exact ⟨ret_str H.out.symm, (bel1 w _).trans (hbb.mono (by simp))⟩
    · have H : Hid (showB 2 1 s = ⟨#[116, 114, 117, 101]⟩) := by unfold Hid showB; rw [if_pos hv]; rfl
      go_enter Tryz.func21, Tryz.ntmps21
      go_wp2_with (first
        | (go_at_call 15; refine (refValid_any _ _ _ _ HS.out).mono ?_; rw [hv]; rintro e w2 ⟨rfl, hbb⟩; have c0 := cell_later hbb (a := ⟨w.heap.size, 0, none⟩) (v := .int .i64 2) (by go_simp); have c1 := cell_later hbb (a := ⟨w.heap.size, 1, none⟩) (v := .int .i64 1) (by go_simp)))
      go_ret
      exact ⟨ret_str H.out.symm, (bel1 w _).trans (hbb.mono (by simp))⟩
    · have H : Hid (showB 2 0 s = ⟨#[102, 97, 108, 115, 101]⟩) := by unfold Hid showB; rw [if_pos hv]; rfl
      go_enter Tryz.func21, Tryz.ntmps21
      go_wp2_with (first
        | (go_at_call 15; refine (refValid_any _ _ _ _ HS.out).mono ?_; rw [hv]; rintro e w2 ⟨rfl, hbb⟩; have c0 := cell_later hbb (a := ⟨w.heap.size, 0, none⟩) (v := .int .i64 2) (by go_simp); have c1 := cell_later hbb (a := ⟨w.heap.size, 1, none⟩) (v := .int .i64 0) (by go_simp)))
      go_ret
      exact ⟨ret_str H.out.symm, (bel1 w _).trans (hbb.mono (by simp))⟩
    · have H : Hid (showB 3 n s = ⟨(39 :: escAll s.data.toList ++ [39]).toArray⟩) := by unfold Hid showB; rw [if_pos hv]; rfl
      go_enter Tryz.func21, Tryz.ntmps21
      go_wp2_with (first
        | (go_at_call 15; refine (refValid_any _ _ _ _ HS.out).mono ?_; rw [hv]; rintro e w2 ⟨rfl, hbb⟩; have c0 := cell_later hbb (a := ⟨w.heap.size, 0, none⟩) (v := .int .i64 3) (by go_simp); have c1 := cell_later hbb (a := ⟨w.heap.size, 2, none⟩) (v := .string s) (by go_simp))
        | (go_at_call 37; refine (quote_any s _ hs60).mono ?_; rintro e w3 ⟨rfl, n3, rfl⟩))
      go_ret
      exact ⟨ret_str H.out.symm, below_drewN ((bel1 w _).trans (hbb.mono (by simp))) _⟩

theorem bel2 (w : World) (o1 o2 : Obj) : Below w.heap.size w ((w.alloc o1).alloc o2) := ((Below.refl _ _).alloc (Nat.le_refl _) _).alloc (by simp) _

end Go.Proofs.YtodkekmfadfjkaaGreatDoor.Vl
