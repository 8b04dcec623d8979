import Derived.Test.YtodkekmfadfjkaaGreatDoorVShwR
import Derived.Test.YtodkekmfadfjkaaGreatDoorVShwD
import Derived.Test.YtodkekmfadfjkaaGreatDoorVShwP
import Derived.Test.YtodkekmfadfjkaaGreatDoorShelfV
import Derived.Lib.AppendIntMem
namespace Go.Proofs.YtodkekmfadfjkaaGreatDoor.Vl
open Go.RowKit
set_option linter.unusedVariables false

theorem below_grow (w : World) (k : Nat) (os : Array Obj) : Below w.heap.size w (Sort.grow (w.drewN k) os) :=
  ⟨rfl, rfl, rfl, by simp, fun j hj => Sort.heap_grow_old (w.drewN k) os (by simpa using hj)⟩

def showB (k n : Int) (s : ByteArray) : ByteArray :=
  if validB k n s = true then
    (if k = 1 then ⟨(Lib.itoa n).toArray⟩ else if k = 2 then (if n = 1 then ⟨#[116, 114, 117, 101]⟩ else ⟨#[102, 97, 108, 115, 101]⟩) else if k = 3 then ⟨(39 :: escAll s.data.toList ++ [39]).toArray⟩ else ⟨#[110, 117, 108, 108]⟩)
  else ⟨#[]⟩

theorem valid_kind {k n : Int} {s : ByteArray} (h : validB k n s = true) : k = 0 ∨ k = 1 ∨ (k = 2 ∧ n = 1) ∨ (k = 2 ∧ n = 0) ∨ (k = 3 ∧ s.size ≤ 60) := by
  unfold validB at h
  by_cases h0 : k = 0
  · exact .inl h0
  by_cases h1 : k = 1
  · exact .inr (.inl h1)
  rw [if_neg h0, if_neg h1] at h
  by_cases h2 : k = 2
  · rw [if_pos h2] at h
    simp at h
    rcases h.2 with e | e
    · exact .inr (.inr (.inr (.inl ⟨h2, e⟩)))
    · exact .inr (.inr (.inl ⟨h2, e⟩))
  rw [if_neg h2] at h
  by_cases h3 : k = 3
  · rw [if_pos h3] at h
    simp at h
    exact .inr (.inr (.inr (.inr ⟨h3, by omega⟩)))
  rw [if_neg h3] at h
  cases h

abbrev Tab (w : World) : Prop := Lib.TabIs Tryz.prog w "internal/strconv.uint64pow10" .u64 Lib.pow10Tab
theorem Tab.later {w w' : World} (h : Tab w) (hb : Below w.heap.size w w') : Tab w' := Lib.tabBelow_of_tabIs h w' hb

set_option maxHeartbeats 400000 in
theorem show_any (k n : Int) (s : ByteArray) (w : World) (hs : s.size ≤ maxLen) (h0 : -9223372036854775808 ≤ n) (h1 : n ≤ 9223372036854775807) (ht : Tab w) :
    Calls Tryz.prog 19 #[.agg #[.int .i64 k, .int .i64 n, .string s]] w fun e w' => e = .returned (.string (showB k n s)) ∧ Below w.heap.size w w' := by
  have HT : Hid (Tab w) := ht
  have H0 : Hid (-9223372036854775808 ≤ n) := h0
  have H1 : Hid (n ≤ 9223372036854775807) := h1
  have HS : Hid (s.size ≤ maxLen) := hs
  clear ht h0 h1 hs
  cases hv : validB k n s with
  | false =>
    have H : Hid (showB k n s = ⟨#[]⟩) := by unfold Hid showB; rw [if_neg (by simp [hv])]
    go_enter Tryz.func19, Tryz.ntmps19
    go_wp2_with (first | (go_at_call 25; refine (valid_any _ _ _ _ HS.out).mono ?_; rw [hv]; rintro e w2 ⟨rfl, hbb⟩))
    go_ret
    exact ⟨ret_str H.out.symm, (bel1 w _).trans (hbb.mono (by simp))⟩
  | true =>
    rcases valid_kind hv with rfl | rfl | ⟨rfl, rfl⟩ | ⟨rfl, rfl⟩ | ⟨rfl, hs60⟩
    · have H : Hid (showB 0 n s = ⟨#[110, 117, 108, 108]⟩) := by unfold Hid showB; rw [if_pos hv]; rfl
      go_enter Tryz.func19, Tryz.ntmps19
      go_wp2_with (first | (go_at_call 25; refine (valid_any _ _ _ _ HS.out).mono ?_; rw [hv]; rintro e w2 ⟨rfl, hbb⟩; have c0 := cell_later hbb (a := ⟨w.heap.size, 0, none⟩) (v := .int .i64 0) (by go_simp)))
      go_ret
      exact ⟨ret_str H.out.symm, (bel1 w _).trans (hbb.mono (by simp))⟩
    · have H : Hid (showB 1 n s = ⟨(Lib.itoa n).toArray⟩) := by unfold Hid showB; rw [if_pos hv]; rfl
      go_enter Tryz.func19, Tryz.ntmps19
      go_wp2_with (first
        | (go_at_call 25; refine (valid_any _ _ _ _ HS.out).mono ?_; rw [hv]; rintro e w2 ⟨rfl, hbb⟩; have c0 := cell_later hbb (a := ⟨w.heap.size, 0, none⟩) (v := .int .i64 1) (by go_simp); have c1 := cell_later hbb (a := ⟨w.heap.size, 1, none⟩) (v := .int .i64 n) (by go_simp))
        | (go_at_call 17; refine (Tryz.strconv_FormatInt_10 n H0.out H1.out _ (HT.out.later ((bel1 w _).trans (hbb.mono (by simp))))).mono ?_; rintro e w3 ⟨rfl, k3, os3, rfl⟩))
      go_ret
      exact ⟨ret_str H.out.symm, ((bel1 w _).trans (hbb.mono (by simp))).trans ((below_grow w2 k3 os3).mono ((bel1 w _).trans (hbb.mono (by simp))).size)⟩
    · have H : Hid (showB 2 1 s = ⟨#[116, 114, 117, 101]⟩) := by unfold Hid showB; rw [if_pos hv]; rfl
      go_enter Tryz.func19, Tryz.ntmps19
      go_wp2_with (first
        | (go_at_call 25; refine (valid_any _ _ _ _ HS.out).mono ?_; rw [hv]; rintro e w2 ⟨rfl, hbb⟩; have c0 := cell_later hbb (a := ⟨w.heap.size, 0, none⟩) (v := .int .i64 2) (by go_simp); have c1 := cell_later hbb (a := ⟨w.heap.size, 1, none⟩) (v := .int .i64 1) (by go_simp))
        | go_in)
      go_ret
      exact ⟨ret_str H.out.symm, (bel1 w _).trans (hbb.mono (by simp))⟩
    · have H : Hid (showB 2 0 s = ⟨#[102, 97, 108, 115, 101]⟩) := by unfold Hid showB; rw [if_pos hv]; rfl
      go_enter Tryz.func19, Tryz.ntmps19
      go_wp2_with (first
        | (go_at_call 25; refine (valid_any _ _ _ _ HS.out).mono ?_; rw [hv]; rintro e w2 ⟨rfl, hbb⟩; have c0 := cell_later hbb (a := ⟨w.heap.size, 0, none⟩) (v := .int .i64 2) (by go_simp); have c1 := cell_later hbb (a := ⟨w.heap.size, 1, none⟩) (v := .int .i64 0) (by go_simp))
        | go_in)
      go_ret
      exact ⟨ret_str H.out.symm, (bel1 w _).trans (hbb.mono (by simp))⟩
    · have H : Hid (showB 3 n s = ⟨(39 :: escAll s.data.toList ++ [39]).toArray⟩) := by unfold Hid showB; rw [if_pos hv]; rfl
      go_enter Tryz.func19, Tryz.ntmps19
      go_wp2_with (first
        | (go_at_call 25; refine (valid_any _ _ _ _ HS.out).mono ?_; rw [hv]; rintro e w2 ⟨rfl, hbb⟩; have c0 := cell_later hbb (a := ⟨w.heap.size, 0, none⟩) (v := .int .i64 3) (by go_simp); have c1 := cell_later hbb (a := ⟨w.heap.size, 2, none⟩) (v := .string s) (by go_simp))
        | (go_at_call 35; refine (quoted_any s _ hs60).mono ?_; rintro e w3 ⟨rfl, hb3⟩))
      go_ret
      exact ⟨ret_str H.out.symm, ((bel1 w _).trans (hbb.mono (by simp))).trans (hb3.mono ((bel1 w _).trans (hbb.mono (by simp))).size)⟩
end Go.Proofs.YtodkekmfadfjkaaGreatDoor.Vl
