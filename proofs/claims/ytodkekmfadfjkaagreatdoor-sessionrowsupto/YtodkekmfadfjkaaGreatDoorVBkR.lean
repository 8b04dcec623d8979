import Derived.Test.YtodkekmfadfjkaaGreatDoorVBkG
import Derived.Test.YtodkekmfadfjkaaGreatDoorVBkI
namespace Go.Proofs.YtodkekmfadfjkaaGreatDoor.Vl
open Go.RowKit
set_option linter.unusedVariables false
set_option maxRecDepth 100000
attribute [local go_sem ↓] neq24 eql24
attribute [local go_sem] guard24

/-- The library's sentinel lies in its variable: whatever it is, it is an interface value. -/
def Sen (w : World) : Prop := ∃ ev, w.cell? ⟨5, 0, none⟩ = some ev ∧ (ev = .nilIface ∨ ∃ te pe, ev = .iface te pe)
theorem Sen.later {w w' : World} (h : Sen w) (hb : Below w.heap.size w w') : Sen w' := by
  obtain ⟨ev, h1, h2⟩ := h
  exact ⟨ev, cell_later hb h1, h2⟩

theorem guess_show (k n : Int) (s : ByteArray) (w : World) (hv : validB k n s = true) (h0 : -9223372036854775808 ≤ n) (h1 : n ≤ 9223372036854775807) (hs : Sen w) :
    Calls Tryz.prog 39 #[.string (showB k n s)] w fun e w' => e = .returned (.agg #[.int .i64 k, .int .i64 n, .string s]) ∧ Below w.heap.size w w' := by
  rw [show_valid hv]
  rcases valid_form hv with ⟨rfl, rfl, rfl⟩ | ⟨rfl, rfl⟩ | ⟨rfl, rfl, rfl⟩ | ⟨rfl, rfl, rfl⟩ | ⟨rfl, rfl, hs1⟩
  · obtain ⟨ev, e1, e2⟩ := hs
    exact guess_null w ev e1 e2
  · exact guess_num n w h0 h1
  · exact guess_true w
  · exact guess_false w
  · have := guess_text s.data.toList w (by simpa using hs1)
    rw [show (⟨s.data.toList.toArray⟩ : ByteArray) = s by apply ByteArray.ext; simp] at this
    exact this

set_option maxHeartbeats 1000000 in
theorem read_show (k n : Int) (s : ByteArray) (w : World) (hv : validB k n s = true) (hsz : s.size ≤ maxLen) (h0 : -9223372036854775808 ≤ n) (h1 : n ≤ 9223372036854775807) (hs : Sen w) (ht : Tab w) :
    Calls Tryz.prog 23 #[.string (showB k n s)] w fun e w' => e = .returned (.tuple #[.agg #[.int .i64 k, .int .i64 n, .string s], .nilIface]) ∧ Below w.heap.size w w' := by
  have HG : Hid (∀ W, Below w.heap.size w W → Calls Tryz.prog 39 #[.string (showB k n s)] W fun e w' => e = .returned (.agg #[.int .i64 k, .int .i64 n, .string s]) ∧ Below W.heap.size W w') :=
    fun W hW => guess_show k n s W hv h0 h1 (hs.later hW)
  have HS : Hid (∀ W, Below w.heap.size w W → Calls Tryz.prog 19 #[.agg #[.int .i64 k, .int .i64 n, .string s]] W fun e w' => e = .returned (.string (showB k n s)) ∧ Below W.heap.size W w') :=
    fun W hW => show_any k n s W hsz h0 h1 (ht.later hW)
  clear hv hsz h0 h1 hs ht
  generalize showB k n s = S at *
  go_enter Tryz.func23, Tryz.ntmps23
  go_wp2_with fail
  refine (HG.out _ (bel1 w _)).mono ?_
  rintro e w1 ⟨rfl, hb1⟩
  have hf0 := frozen_later (a := ⟨w.heap.size, 0, none⟩) hb1 (by simp) (by simp)
  have hf1 := frozen_later (a := ⟨w.heap.size, 1, none⟩) hb1 (by simp) (by simp)
  have hf2 := frozen_later (a := ⟨w.heap.size, 2, none⟩) hb1 (by simp) (by simp)
  have hc0 := cell_later (a := ⟨w.heap.size, 0, none⟩) (v := .int .i64 0) hb1 (by go_simp)
  have hc1 := cell_later (a := ⟨w.heap.size, 1, none⟩) (v := .int .i64 0) hb1 (by go_simp)
  have hc2 := cell_later (a := ⟨w.heap.size, 2, none⟩) (v := .string ⟨#[]⟩) hb1 (by go_simp)
  have hB1 := (bel1 w _).trans (hb1.mono (by simp))
  have hlt : w.heap.size < w1.heap.size := World.block_lt_of_cell? _ _ hc0
  clear hb1
  go_wp2_with fail
  have hA := bel1 w1 (.cells #[.int .i64 k, .int .i64 n, .string s] 39)
  replace hf0 := frozen_later hA hlt hf0
  replace hf1 := frozen_later hA hlt hf1
  replace hf2 := frozen_later hA hlt hf2
  replace hc0 := cell_later hA hc0
  replace hc1 := cell_later hA hc1
  replace hc2 := cell_later hA hc2
  have d0 : (w1.alloc (.cells #[.int .i64 k, .int .i64 n, .string s] 39)).cell? ⟨w1.heap.size, 0, none⟩ = some (.int .i64 k) := by go_simp
  have d1 : (w1.alloc (.cells #[.int .i64 k, .int .i64 n, .string s] 39)).cell? ⟨w1.heap.size, 1, none⟩ = some (.int .i64 n) := by go_simp
  have d2 : (w1.alloc (.cells #[.int .i64 k, .int .i64 n, .string s] 39)).cell? ⟨w1.heap.size, 2, none⟩ = some (.string s) := by go_simp
  replace hB1 := hB1.trans (hA.mono hB1.size)
  have hlt2 : w.heap.size < (w1.alloc (.cells #[.int .i64 k, .int .i64 n, .string s] 39)).heap.size := World.block_lt_of_cell? _ _ hc0
  clear hA
  generalize hW : w1.alloc (.cells #[.int .i64 k, .int .i64 n, .string s] 39) = W at *
  clear hW
  refine (HS.out W hB1).mono ?_
  rintro e w2 ⟨rfl, hb2⟩
  replace hf0 := frozen_later hb2 hlt2 hf0
  replace hf1 := frozen_later hb2 hlt2 hf1
  replace hf2 := frozen_later hb2 hlt2 hf2
  replace hc0 := cell_later hb2 hc0
  replace hc1 := cell_later hb2 hc1
  replace hc2 := cell_later hb2 hc2
  replace d0 := cell_later hb2 d0
  replace d1 := cell_later hb2 d1
  replace d2 := cell_later hb2 d2
  replace hB1 := hB1.trans (hb2.mono hB1.size)
  have hne : ¬ w1.heap.size = w.heap.size := by omega
  have hne' : ¬ w.heap.size = w1.heap.size := by omega
  clear hb2 hlt2 HS HG
  go_wp2
  exact bodyPost_ret (v := .tuple #[.agg #[.int .i64 k, .int .i64 n, .string s], .nilIface]) (by simp [results, Tryz.results23, go_sem, hc0, hc1, hc2]) rfl ⟨rfl, ((hB1.setCell (Nat.le_refl _) _).setCell (Nat.le_refl _) _).setCell (Nat.le_refl _) _⟩

theorem bel2' (w : World) (o1 o2 : Obj) : Below w.heap.size w ((w.alloc o1).alloc o2) := ((Below.refl _ _).alloc (Nat.le_refl _) _).alloc (by simp) _

end Go.Proofs.YtodkekmfadfjkaaGreatDoor.Vl
