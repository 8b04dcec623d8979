import Derived.Test.YtakbnhknkbmhlaaDoorBkG
import Derived.Test.YtakbnhknkbmhlaaDoorBkI
namespace Go.Proofs.YtakbnhknkbmhlaaDoor
open Go.RowKit
set_option linter.unusedVariables false
set_option maxRecDepth 100000
attribute [local go_sem ↓] neq24 eql24
attribute [local go_sem] guard24

/-- The library's sentinel lies in its variable: whatever it is, it is an interface value. -/
def Sen (w : World) : Prop := ∃ ev, w.cell? ⟨2, 0, none⟩ = some ev ∧ (ev = .nilIface ∨ ∃ te pe, ev = .iface te pe)
theorem Sen.later {w w' : World} (h : Sen w) (hb : Below w.heap.size w w') : Sen w' := by
  obtain ⟨ev, h1, h2⟩ := h
  exact ⟨ev, cell_later hb h1, h2⟩

theorem guess_show (k n : Int) (s : ByteArray) (w : World) (hv : validB k n s = true) (h0 : -9223372036854775808 ≤ n) (h1 : n ≤ 9223372036854775807) (hs : Sen w) :
    Calls Tryd.prog 28 #[.string (showB k n s)] w fun e w' => e = .returned (.agg #[.int .i64 k, .int .i64 n, .string s]) ∧ Below w.heap.size w w' := by
  rw [show_valid hv]
  rcases valid_form hv with ⟨rfl, rfl, rfl⟩ | ⟨rfl, rfl⟩ | ⟨rfl, rfl, rfl⟩ | ⟨rfl, rfl, rfl⟩ | ⟨rfl, rfl, hs1⟩
  · obtain ⟨ev, e1, e2⟩ := hs
    exact guess_null w ev e1 e2
  · exact guess_num n w h0 h1
  · exact guess_true w
  · exact guess_false w
  · have := guess_text s.data.toList w (by simpa using hs1)
    rw [show (⟨s.data.toList.toArray⟩ : ByteArray) = s by apply ByteArray.ext; simp] at this
    exact this

set_option maxHeartbeats 1000000 in
theorem read_show (k n : Int) (s : ByteArray) (w : World) (hv : validB k n s = true) (hsz : s.size ≤ maxLen) (h0 : -9223372036854775808 ≤ n) (h1 : n ≤ 9223372036854775807) (hs : Sen w) (ht : Tab w) :
    Calls Tryd.prog 13 #[.string (showB k n s)] w fun e w' => e = .returned (.tuple #[.agg #[.int .i64 k, .int .i64 n, .string s], .nilIface]) ∧ Below w.heap.size w w' := by
  have HG : Hid (∀ W, Below w.heap.size w W → Calls Tryd.prog 28 #[.string (showB k n s)] W fun e w' => e = .returned (.agg #[.int .i64 k, .int .i64 n, .string s]) ∧ Below W.heap.size W w') :=
    fun W hW => guess_show k n s W hv h0 h1 (hs.later hW)
  have HS : Hid (∀ W, Below w.heap.size w W → Calls Tryd.prog 11 #[.agg #[.int .i64 k, .int .i64 n, .string s]] W fun e w' => e = .returned (.string (showB k n s)) ∧ Below W.heap.size W w') :=
    fun W hW => show_any k n s W hsz h0 h1 (ht.later hW)
  clear hv hsz h0 h1 hs ht
  generalize showB k n s = S at *
  go_enter Tryd.func13, Tryd.ntmps13
  go_wp2_with fail
  refine (HG.out _ (bel1 w _)).mono ?_
  rintro e w1 ⟨rfl, hb1⟩
  have hf0 := frozen_later (a := ⟨w.heap.size, 0, none⟩) hb1 (by simp) (by simp)
  have hf1 := frozen_later (a := ⟨w.heap.size, 1, none⟩) hb1 (by simp) (by simp)
  have hf2 := frozen_later (a := ⟨w.heap.size, 2, none⟩) hb1 (by simp) (by simp)
  have hc0 := cell_later (a := ⟨w.heap.size, 0, none⟩) (v := .int .i64 0) hb1 (by go_simp)
  have hc1 := cell_later (a := ⟨w.heap.size, 1, none⟩) (v := .int .i64 0) hb1 (by go_simp)
  have hc2 := cell_later (a := ⟨w.heap.size, 2, none⟩) (v := .string ⟨#[]⟩) hb1 (by go_simp)
  have hB1 := (bel1 w _).trans (hb1.mono (by simp))
  have hlt : w.heap.size < w1.heap.size := World.block_lt_of_cell? _ _ hc0
  clear hb1
  go_wp2_with fail
  have hA := bel1 w1 (.cells #[.int .i64 k, .int .i64 n, .string s] 24)
  replace hf0 := frozen_later hA hlt hf0
  replace hf1 := frozen_later hA hlt hf1
  replace hf2 := frozen_later hA hlt hf2
  replace hc0 := cell_later hA hc0
  replace hc1 := cell_later hA hc1
  replace hc2 := cell_later hA hc2
  have d0 : (w1.alloc (.cells #[.int .i64 k, .int .i64 n, .string s] 24)).cell? ⟨w1.heap.size, 0, none⟩ = some (.int .i64 k) := by go_simp
  have d1 : (w1.alloc (.cells #[.int .i64 k, .int .i64 n, .string s] 24)).cell? ⟨w1.heap.size, 1, none⟩ = some (.int .i64 n) := by go_simp
  have d2 : (w1.alloc (.cells #[.int .i64 k, .int .i64 n, .string s] 24)).cell? ⟨w1.heap.size, 2, none⟩ = some (.string s) := by go_simp
  replace hB1 := hB1.trans (hA.mono hB1.size)
  have hlt2 : w.heap.size < (w1.alloc (.cells #[.int .i64 k, .int .i64 n, .string s] 24)).heap.size := World.block_lt_of_cell? _ _ hc0
  clear hA
  generalize hW : w1.alloc (.cells #[.int .i64 k, .int .i64 n, .string s] 24) = W at *
  clear hW
  refine (HS.out W hB1).mono ?_
  rintro e w2 ⟨rfl, hb2⟩
  replace hf0 := frozen_later hb2 hlt2 hf0
  replace hf1 := frozen_later hb2 hlt2 hf1
  replace hf2 := frozen_later hb2 hlt2 hf2
  replace hc0 := cell_later hb2 hc0
  replace hc1 := cell_later hb2 hc1
  replace hc2 := cell_later hb2 hc2
  replace d0 := cell_later hb2 d0
  replace d1 := cell_later hb2 d1
  replace d2 := cell_later hb2 d2
  replace hB1 := hB1.trans (hb2.mono hB1.size)
  have hne : ¬ w1.heap.size = w.heap.size := by omega
  have hne' : ¬ w.heap.size = w1.heap.size := by omega
  clear hb2 hlt2 HS HG
  go_wp2
  exact bodyPost_ret (v := .tuple #[.agg #[.int .i64 k, .int .i64 n, .string s], .nilIface]) (by simp [results, Tryd.results13, go_sem, hc0, hc1, hc2]) rfl ⟨rfl, ((hB1.setCell (Nat.le_refl _) _).setCell (Nat.le_refl _) _).setCell (Nat.le_refl _) _⟩

theorem bel2' (w : World) (o1 o2 : Obj) : Below w.heap.size w ((w.alloc o1).alloc o2) := ((Below.refl _ _).alloc (Nat.le_refl _) _).alloc (by simp) _

set_option maxHeartbeats 2000000 in
theorem back_walk (k n : Int) (s : ByteArray) (k' n' : Int) (s' : ByteArray) (w : World) (hsz : s.size ≤ maxLen) (h0 : -9223372036854775808 ≤ n) (h1 : n ≤ 9223372036854775807)
    (hsz' : s'.size ≤ maxLen) (h0' : -9223372036854775808 ≤ n') (h1' : n' ≤ 9223372036854775807) (hs : Sen w) (ht : Tab w) :
    Calls Tryd.prog 5 #[.agg #[.int .i64 k, .int .i64 n, .string s], .agg #[.int .i64 k', .int .i64 n', .string s']] w fun e w' => e = .returned (.bool true) ∧ Below w.heap.size w w' := by
  have H7 : Hid (∀ W, Below w.heap.size w W → Calls Tryd.prog 11 #[.agg #[.int .i64 1, .int .i64 (-7), .string ⟨#[]⟩]] W fun e w' => e = .returned (.string ⟨#[45, 55]⟩) ∧ Below W.heap.size W w') := by
    intro W hW
    have := show_any 1 (-7) ⟨#[]⟩ W (by unfold maxLen; decide) (by decide) (by decide) (ht.later hW)
    rw [show_seven] at this
    exact this
  have HV : Hid (∀ W, Calls Tryd.prog 7 #[.agg #[.int .i64 k, .int .i64 n, .string s]] W fun e w' => e = .returned (.bool (validB k n s)) ∧ Below W.heap.size W w') := fun W => valid_any k n s W hsz
  have HV' : Hid (∀ W, Calls Tryd.prog 7 #[.agg #[.int .i64 k', .int .i64 n', .string s']] W fun e w' => e = .returned (.bool (validB k' n' s')) ∧ Below W.heap.size W w') := fun W => valid_any k' n' s' W hsz'
  have HS : Hid (∀ W, Below w.heap.size w W → Calls Tryd.prog 11 #[.agg #[.int .i64 k, .int .i64 n, .string s]] W fun e w' => e = .returned (.string (showB k n s)) ∧ Below W.heap.size W w') :=
    fun W hW => show_any k n s W hsz h0 h1 (ht.later hW)
  have HS' : Hid (∀ W, Below w.heap.size w W → Calls Tryd.prog 11 #[.agg #[.int .i64 k', .int .i64 n', .string s']] W fun e w' => e = .returned (.string (showB k' n' s')) ∧ Below W.heap.size W w') :=
    fun W hW => show_any k' n' s' W hsz' h0' h1' (ht.later hW)
  have HR : Hid (validB k n s = true → ∀ W, Below w.heap.size w W → Calls Tryd.prog 13 #[.string (showB k n s)] W fun e w' => e = .returned (.tuple #[.agg #[.int .i64 k, .int .i64 n, .string s], .nilIface]) ∧ Below W.heap.size W w') :=
    fun hv W hW => read_show k n s W hv hsz h0 h1 (hs.later hW) (ht.later hW)
  have HQ : Hid (validB k n s = true → validB k' n' s' = true → ((showB k n s).toList == (showB k' n' s').toList) = eqB k n s k' n' s') := fun a b => show_beq a b h0 h1 h0' h1'
  have HN : Hid (validB k n s = false → showB k n s = ⟨#[]⟩) := show_none
  have HN' : Hid (validB k' n' s' = false → showB k' n' s' = ⟨#[]⟩) := show_none
  have HE : Hid (validB k n s = true → (showB k n s).toList.isEmpty = false) := show_empty
  have HE' : Hid (validB k' n' s' = true → (showB k' n' s').toList.isEmpty = false) := show_empty
  clear hsz h0 h1 hsz' h0' h1' hs ht
  generalize showB k n s = S at *
  generalize showB k' n' s' = S' at *
  generalize validB k n s = va at *
  generalize validB k' n' s' = vb at *
  go_enter Tryd.func5, Tryd.ntmps5
  go_wp2_with fail
  have hB := bel2' w (.cells #[.int .i64 k, .int .i64 n, .string s] 24) (.cells #[.int .i64 k', .int .i64 n', .string s'] 24)
  have c0 : ((w.alloc (.cells #[.int .i64 k, .int .i64 n, .string s] 24)).alloc (.cells #[.int .i64 k', .int .i64 n', .string s'] 24)).cell? ⟨w.heap.size, 0, none⟩ = some (.int .i64 k) := by go_simp
  have c1 : ((w.alloc (.cells #[.int .i64 k, .int .i64 n, .string s] 24)).alloc (.cells #[.int .i64 k', .int .i64 n', .string s'] 24)).cell? ⟨w.heap.size, 1, none⟩ = some (.int .i64 n) := by go_simp
  have c2 : ((w.alloc (.cells #[.int .i64 k, .int .i64 n, .string s] 24)).alloc (.cells #[.int .i64 k', .int .i64 n', .string s'] 24)).cell? ⟨w.heap.size, 2, none⟩ = some (.string s) := by go_simp
  have d0 : ((w.alloc (.cells #[.int .i64 k, .int .i64 n, .string s] 24)).alloc (.cells #[.int .i64 k', .int .i64 n', .string s'] 24)).cell? ⟨w.heap.size + 1, 0, none⟩ = some (.int .i64 k') := by go_simp
  have d1 : ((w.alloc (.cells #[.int .i64 k, .int .i64 n, .string s] 24)).alloc (.cells #[.int .i64 k', .int .i64 n', .string s'] 24)).cell? ⟨w.heap.size + 1, 1, none⟩ = some (.int .i64 n') := by go_simp
  have d2 : ((w.alloc (.cells #[.int .i64 k, .int .i64 n, .string s] 24)).alloc (.cells #[.int .i64 k', .int .i64 n', .string s'] 24)).cell? ⟨w.heap.size + 1, 2, none⟩ = some (.string s') := by go_simp
  generalize ((w.alloc (.cells #[.int .i64 k, .int .i64 n, .string s] 24)).alloc (.cells #[.int .i64 k', .int .i64 n', .string s'] 24)) = W at *
  refine (H7.out W hB).mono ?_
  rintro e w1 ⟨rfl, hb⟩
  replace c0 := cell_later hb c0
  replace c1 := cell_later hb c1
  replace c2 := cell_later hb c2
  replace d0 := cell_later hb d0
  replace d1 := cell_later hb d1
  replace d2 := cell_later hb d2
  replace hB := hB.trans (hb.mono hB.size)
  clear hb
  go_wp2_with fail
  refine (HV.out w1).mono ?_
  rintro e w2 ⟨rfl, hb⟩
  replace c0 := cell_later hb c0
  replace c1 := cell_later hb c1
  replace c2 := cell_later hb c2
  replace d0 := cell_later hb d0
  replace d1 := cell_later hb d1
  replace d2 := cell_later hb d2
  replace hB := hB.trans (hb.mono hB.size)
  clear hb
  go_wp2_with fail
  refine (HV'.out w2).mono ?_
  rintro e w3 ⟨rfl, hb⟩
  replace c0 := cell_later hb c0
  replace c1 := cell_later hb c1
  replace c2 := cell_later hb c2
  replace d0 := cell_later hb d0
  replace d1 := cell_later hb d1
  replace d2 := cell_later hb d2
  replace hB := hB.trans (hb.mono hB.size)
  clear hb
  go_wp2_with fail
  refine (HS.out w3 hB).mono ?_
  rintro e w4 ⟨rfl, hb⟩
  replace c0 := cell_later hb c0
  replace c1 := cell_later hb c1
  replace c2 := cell_later hb c2
  replace d0 := cell_later hb d0
  replace d1 := cell_later hb d1
  replace d2 := cell_later hb d2
  replace hB := hB.trans (hb.mono hB.size)
  clear hb
  go_wp2_with fail
  refine (HS'.out w4 hB).mono ?_
  rintro e w5 ⟨rfl, hb⟩
  replace c0 := cell_later hb c0
  replace c1 := cell_later hb c1
  replace c2 := cell_later hb c2
  replace d0 := cell_later hb d0
  replace d1 := cell_later hb d1
  replace d2 := cell_later hb d2
  replace hB := hB.trans (hb.mono hB.size)
  clear hb
  cases va with
  | false =>
    have e1 := HN.out rfl
    subst e1
    cases vb with
    | false =>
      have e2 := HN'.out rfl
      subst e2
      go_wp2
      go_ret
      exact ⟨rfl, hB⟩
    | true =>
      have e2 := HE'.out rfl
      go_wp2
      go_ret
      exact ⟨rfl, hB⟩
  | true =>
    have e1 := HE.out rfl
    cases vb with
    | false =>
      have e2 := HN'.out rfl
      subst e2
      go_wp2
      go_ret
      exact ⟨rfl, hB⟩
    | true =>
      have e2 := HE'.out rfl
      go_wp2_with fail
      refine (HR.out (by trivial) w5 hB).mono ?_
      rintro e w6 ⟨rfl, hb⟩
      replace c0 := cell_later hb c0
      replace c1 := cell_later hb c1
      replace c2 := cell_later hb c2
      replace d0 := cell_later hb d0
      replace d1 := cell_later hb d1
      replace d2 := cell_later hb d2
      replace hB := hB.trans (hb.mono hB.size)
      clear hb
      have hA := bel1 w6 (.cells #[.int .i64 k, .int .i64 n, .string s] 24)
      replace c0 := cell_later hA c0
      replace c1 := cell_later hA c1
      replace c2 := cell_later hA c2
      replace d0 := cell_later hA d0
      replace d1 := cell_later hA d1
      replace d2 := cell_later hA d2
      replace hB := hB.trans (hA.mono hB.size)
      clear hA
      have q1 := HQ.out (by trivial) (by trivial)
      have q2 : eqB k n s k n s = true := (eqB_iff _ _ _ _ _ _).2 ⟨rfl, rfl, rfl⟩
      go_wp2
      go_ret
      exact ⟨ret_bool (by simp), hB⟩
end Go.Proofs.YtakbnhknkbmhlaaDoor
