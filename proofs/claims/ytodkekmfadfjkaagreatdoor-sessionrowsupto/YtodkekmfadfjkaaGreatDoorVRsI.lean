import Derived.Test.YtodkekmfadfjkaaGreatDoorVRsH
namespace Go.Proofs.YtodkekmfadfjkaaGreatDoor.Vl
open Go.RowKit
set_option linter.unusedVariables false
set_option maxRecDepth 100000
attribute [local go_sem ↓] neq24 eql24
attribute [local go_sem] guard24

/-- What the program's reader answers. -/
def QPost (w : World) (s : ByteArray) (e : Ending) (w' : World) : Prop := Below w.heap.size w w' ∧
  ((∃ (k n : Int) (t : ByteArray), validB k n t = true ∧ -9223372036854775808 ≤ n ∧ n ≤ 9223372036854775807 ∧ showB k n t = s ∧ e = .returned (.tuple #[.agg #[.int .i64 k, .int .i64 n, .string t], .nilIface])) ∨
   ((∀ k n t, -9223372036854775808 ≤ n → n ≤ 9223372036854775807 → validB k n t = true → showB k n t ≠ s) ∧ e = .returned (.tuple #[.agg #[.int .i64 0, .int .i64 0, .string ⟨#[]⟩], .iface 31 (.int .i64 1)])))

set_option maxHeartbeats 1000000 in
theorem read_tot (s : ByteArray) (w : World) (hs : s.size ≤ 140737488355327) (h2 : Sen w) (h3 : Sen3 w) (ht : Tab w) :
    Calls Tryz.prog 23 #[.string s] w (QPost w s) := by
  by_cases hA : ∃ (k n : Int) (t : ByteArray), validB k n t = true ∧ -9223372036854775808 ≤ n ∧ n ≤ 9223372036854775807 ∧ showB k n t = s
  · obtain ⟨k, n, t, hv, hn0, hn1, rfl⟩ := hA
    have htz : t.size ≤ maxLen := by
      rcases valid_form hv with ⟨_, _, rfl⟩ | ⟨_, rfl⟩ | ⟨_, _, rfl⟩ | ⟨_, _, rfl⟩ | ⟨_, _, h⟩
      · exact Nat.zero_le _
      · exact Nat.zero_le _
      · exact Nat.zero_le _
      · exact Nat.zero_le _
      · unfold maxLen; omega
    refine (read_show k n t w hv htz hn0 hn1 h2 ht).mono ?_
    rintro e w' ⟨rfl, hb⟩
    exact ⟨hb, .inl ⟨k, n, t, hv, hn0, hn1, rfl, rfl⟩⟩
  · have HN : Hid (∀ k n t, -9223372036854775808 ≤ n → n ≤ 9223372036854775807 → validB k n t = true → showB k n t ≠ s) := fun k n t a b c d => hA ⟨k, n, t, c, a, b, d⟩
    have HG : Hid (∀ W, Below w.heap.size w W → Calls Tryz.prog 39 #[.string s] W (GPost W s)) := fun W hW => guess_tot s W hs (h2.later hW) (h3.later hW)
    have HT : Hid (Tab w) := ht
    clear hA hs h2 h3 ht
    go_enter Tryz.func23, Tryz.ntmps23
    go_wp2_with fail
    refine (HG.out _ (bel1 w _)).mono ?_
    rintro e w1 ⟨k, n, t, rfl, hb1, htz, hn0, hn1, hval⟩
    have HS : Hid (∀ W, Below w.heap.size w W → Calls Tryz.prog 19 #[.agg #[.int .i64 k, .int .i64 n, .string t]] W fun e w' => e = .returned (.string (showB k n t)) ∧ Below W.heap.size W w') :=
      fun W hW => show_any k n t W htz hn0 hn1 (HT.out.later hW)
    have hne : ((showB k n t).toList == s.toList) = false := by
      rw [beq_eq_false_iff_ne]
      intro h
      have h' := toList_inj h
      cases hv : validB k n t
      · have he := show_none hv
        rw [he] at h'
        have := hval (by rw [← h']; rfl)
        rw [hv] at this
        cases this
      · exact HN.out k n t hn0 hn1 hv h'
    have hf0 := frozen_later (a := ⟨w.heap.size, 0, none⟩) hb1 (by simp) (by simp)
    have hf1 := frozen_later (a := ⟨w.heap.size, 1, none⟩) hb1 (by simp) (by simp)
    have hf2 := frozen_later (a := ⟨w.heap.size, 2, none⟩) hb1 (by simp) (by simp)
    have hc0 := cell_later (a := ⟨w.heap.size, 0, none⟩) (v := .int .i64 0) hb1 (by go_simp)
    have hc1 := cell_later (a := ⟨w.heap.size, 1, none⟩) (v := .int .i64 0) hb1 (by go_simp)
    have hc2 := cell_later (a := ⟨w.heap.size, 2, none⟩) (v := .string ⟨#[]⟩) hb1 (by go_simp)
    have hB1 := (bel1 w _).trans (hb1.mono (by simp))
    have hlt : w.heap.size < w1.heap.size := World.block_lt_of_cell? _ _ hc0
    clear hb1 htz hn0 hn1 hval HG HT
    generalize showB k n t = S at *
    go_wp2_with fail
    have hA := bel1 w1 (.cells #[.int .i64 k, .int .i64 n, .string t] 39)
    replace hf0 := frozen_later hA hlt hf0
    replace hf1 := frozen_later hA hlt hf1
    replace hf2 := frozen_later hA hlt hf2
    replace hc0 := cell_later hA hc0
    replace hc1 := cell_later hA hc1
    replace hc2 := cell_later hA hc2
    replace hB1 := hB1.trans (hA.mono hB1.size)
    have hlt2 : w.heap.size < (w1.alloc (.cells #[.int .i64 k, .int .i64 n, .string t] 39)).heap.size := World.block_lt_of_cell? _ _ hc0
    clear hA
    generalize hW : w1.alloc (.cells #[.int .i64 k, .int .i64 n, .string t] 39) = W at *
    clear hW
    refine (HS.out W hB1).mono ?_
    rintro e w2 ⟨rfl, hb2⟩
    replace hf0 := frozen_later hb2 hlt2 hf0
    replace hf1 := frozen_later hb2 hlt2 hf1
    replace hf2 := frozen_later hb2 hlt2 hf2
    replace hc0 := cell_later hb2 hc0
    replace hc1 := cell_later hb2 hc1
    replace hc2 := cell_later hb2 hc2
    replace hB1 := hB1.trans (hb2.mono hB1.size)
    have FIN : Hid (∀ w6, Below w.heap.size w w6 → QPost w s (.returned (.tuple #[.agg #[.int .i64 0, .int .i64 0, .string ⟨#[]⟩], .iface 31 (.int .i64 1)])) w6) := fun w6 h6 => ⟨h6, .inr ⟨HN.out, rfl⟩⟩
    clear hb2 hlt2 HS HN
    go_wp2
    exact bodyPost_ret (v := .tuple #[.agg #[.int .i64 0, .int .i64 0, .string ⟨#[]⟩], .iface 31 (.int .i64 1)]) (by simp [results, Tryz.results23, go_sem, hc0, hc1, hc2]) rfl (FIN.out _ (((hB1.setCell (Nat.le_refl _) _).setCell (Nat.le_refl _) _).setCell (Nat.le_refl _) _))
end Go.Proofs.YtodkekmfadfjkaaGreatDoor.Vl
