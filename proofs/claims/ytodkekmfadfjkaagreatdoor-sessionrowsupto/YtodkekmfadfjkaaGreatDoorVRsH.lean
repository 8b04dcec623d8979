import Derived.Test.YtodkekmfadfjkaaGreatDoorVRsG
import Derived.Lib.ParseIntBTie
namespace Go.Proofs.YtodkekmfadfjkaaGreatDoor.Vl
open Go.RowKit
set_option linter.unusedVariables false
set_option maxRecDepth 100000

/-- The library's other sentinel. -/
def Sen3 (w : World) : Prop := ∃ ev, w.cell? ⟨6, 0, none⟩ = some ev ∧ (ev = .nilIface ∨ ∃ te pe, ev = .iface te pe)
theorem Sen3.later {w w' : World} (h : Sen3 w) (hb : Below w.heap.size w w') : Sen3 w' := by
  obtain ⟨ev, h1, h2⟩ := h
  exact ⟨ev, cell_later hb h1, h2⟩

def PIPost (w : World) (s : ByteArray) (e : Ending) (w' : World) : Prop := Below w.heap.size w w' ∧ ((∃ v : Int, -9223372036854775808 ≤ v ∧ v ≤ 9223372036854775807 ∧ s.size ≠ 0 ∧ e = .returned (.tuple #[.int .i64 v, .nilIface])) ∨ ∃ (v : Int) (N : Nat), e = .returned (.tuple #[.int .i64 v, .iface 129 (.pointer (some ⟨N, 0, none⟩))]))
theorem parseInt_tot (s : ByteArray) (w : World) (hs : s.size ≤ 140737488355327) (h2 : Sen w) (h3 : Sen3 w) :
    Calls Tryz.prog 60 #[.string s, .int .i64 10, .int .i64 64] w (PIPost w s) := by
  obtain ⟨ev2, c2, e2⟩ := h2
  obtain ⟨ev3, c3, e3⟩ := h3
  cases hp : Lib.parseIntB 64 s.data.toList with
  | ok v =>
    have hb := Lib.parseIntB_bounds hp
    have hne : s.size ≠ 0 := fun h => by
      have : s.data.toList = [] := List.eq_nil_of_length_eq_zero (by simpa using h)
      rw [this] at hp
      cases hp
    refine (Tryz.strconv_ParseInt_10_at64_ok s (by omega) v hp w).mono ?_
    rintro e w' ⟨rfl, hw⟩
    refine ⟨?_, .inl ⟨v, by have := hb.1; simp at this; omega, by have := hb.2; simp at this; omega, hne, rfl⟩⟩
    rcases hw with rfl | ⟨t, rfl⟩
    · exact Below.refl _ _
    · exact below_bytes _ _ _
  | «syntax» =>
    refine (Any.strconv_ParseInt_10_at64_syntax Tryz.laysC174 s (by omega) hp ev2 w c2 e2).mono ?_
    rintro e w' ⟨N, rfl, _, _, hb⟩
    exact ⟨hb, .inr ⟨_, N, rfl⟩⟩
  | range =>
    refine (Any.strconv_ParseInt_10_at64_range Tryz.laysC174 s (by omega) hp ev3 w c3 e3).mono ?_
    rintro e w' ⟨N, rfl, _, _, hb⟩
    exact ⟨hb, .inr ⟨_, N, rfl⟩⟩

def GPost (w : World) (s : ByteArray) (e : Ending) (w' : World) : Prop := ∃ (k n : Int) (t : ByteArray), e = .returned (.agg #[.int .i64 k, .int .i64 n, .string t]) ∧ Below w.heap.size w w' ∧ t.size ≤ maxLen ∧ -9223372036854775808 ≤ n ∧ n ≤ 9223372036854775807 ∧ (s.size = 0 → validB k n t = true)

theorem cut_len (l : List UInt8) : (Lib.trimPrefix l [39]).length ≤ l.length := by
  unfold Lib.trimPrefix
  split
  · rw [List.length_drop]; omega
  · exact Nat.le_refl _
theorem trim_len (l : List UInt8) : (Lib.trimSuffix l [39]).length ≤ l.length := by
  unfold Lib.trimSuffix
  split
  · rw [List.length_take]; omega
  · exact Nat.le_refl _
theorem valid0 : validB 0 0 ⟨#[]⟩ = true := by unfold validB; simp

set_option maxHeartbeats 2000000 in
theorem guess_tot (s : ByteArray) (w : World) (hs : s.size ≤ 140737488355327) (h2 : Sen w) (h3 : Sen3 w) :
    Calls Tryz.prog 39 #[.string s] w (GPost w s) := by
  have H2 : Hid (Sen w) := h2
  have H3 : Hid (Sen3 w) := h3
  clear h2 h3
  have hlen : s.data.toList.length = s.size := by simp
  have HC := Tryz.strings_CutPrefix s ⟨#[39]⟩
  rw [show (⟨#[39]⟩ : ByteArray).data.toList = [39] from rfl] at HC
  have hc := cut_len s.data.toList
  obtain ⟨I, hI⟩ : ∃ I : ByteArray, I = ⟨(Lib.trimPrefix s.data.toList [39]).toArray⟩ := ⟨_, rfl⟩
  have hIz : I.size ≤ s.size := by rw [hI]; show (Lib.trimPrefix s.data.toList [39]).toArray.size ≤ _; rw [List.size_toArray]; omega
  have HC1 : Hid (∀ W, Calls Tryz.prog 57 #[.string s, .string ⟨#[39]⟩] W fun e w' => e = .returned (.tuple #[.string I, .bool (Lib.hasPrefix s.data.toList [39])]) ∧ w' = W) := by rw [hI]; exact HC
  have hE : Lib.hasPrefix s.data.toList [39] = true → s.size ≠ 0 := fun h h0 => by
    have : s.data.toList = [] := List.eq_nil_of_length_eq_zero (by omega)
    rw [this] at h
    simp [Lib.hasPrefix, List.isPrefixOf] at h
  clear HC hI hc
  cases hpre : Lib.hasPrefix s.data.toList [39] with
  | true =>
    rw [hpre] at HC1
    have hne := hE hpre
    have hlenI : I.data.toList.length = I.size := by simp
    have HT := fun W => Tryz.strings_TrimSuffix I ⟨#[39]⟩ W (by omega)
    rw [show (⟨#[39]⟩ : ByteArray).data.toList = [39] from rfl] at HT
    have ht := trim_len I.data.toList
    obtain ⟨T, hT⟩ : ∃ T : ByteArray, T = ⟨(Lib.trimSuffix I.data.toList [39]).toArray⟩ := ⟨_, rfl⟩
    have hTz : T.size ≤ I.size := by rw [hT]; show (Lib.trimSuffix I.data.toList [39]).toArray.size ≤ _; rw [List.size_toArray]; omega
    have HT1 : Hid (∀ W, Calls Tryz.prog 59 #[.string I, .string ⟨#[39]⟩] W fun e w' => e = .returned (.string T) ∧ w' = W) := by rw [hT]; exact HT
    have HU : Hid (∀ W, Below w.heap.size w W → Calls Tryz.prog 58 #[.string T] W (UPost W T)) := fun W hW => unescaped_tot T W (by omega) (H2.out.later hW)
    clear HT hT ht hlenI hE hpre
    go_enter Tryz.func39, Tryz.ntmps39
    go_wp2_with fail
    refine (HC1.out _).mono ?_
    rintro e w1 ⟨rfl, rfl⟩
    go_wp2_with fail
    refine (HT1.out _).mono ?_
    rintro e w1 ⟨rfl, rfl⟩
    go_wp2_with fail
    refine (HU.out _ (bel1 w _)).mono ?_
    rintro e w1 ⟨t, rfl, htz, hb1⟩
    have hf0 := frozen_later (a := ⟨w.heap.size, 0, none⟩) hb1 (by simp) (by simp)
    have hf1 := frozen_later (a := ⟨w.heap.size, 1, none⟩) hb1 (by simp) (by simp)
    have hf2 := frozen_later (a := ⟨w.heap.size, 2, none⟩) hb1 (by simp) (by simp)
    have hc0 := cell_later (a := ⟨w.heap.size, 0, none⟩) (v := .int .i64 0) hb1 (by go_simp)
    have hc1 := cell_later (a := ⟨w.heap.size, 1, none⟩) (v := .int .i64 0) hb1 (by go_simp)
    have hc2 := cell_later (a := ⟨w.heap.size, 2, none⟩) (v := .string ⟨#[]⟩) hb1 (by go_simp)
    have hB1 := (bel1 w _).trans (hb1.mono (by simp))
    clear hb1
    go_wp2_with fail
    refine (words_any _ _).mono ?_
    rintro e w2 ⟨rfl, hb2⟩
    have hlt : w.heap.size < w1.heap.size := World.block_lt_of_cell? _ _ hc0
    replace hf0 := frozen_later hb2 hlt hf0
    replace hf1 := frozen_later hb2 hlt hf1
    replace hf2 := frozen_later hb2 hlt hf2
    replace hc0 := cell_later hb2 hc0
    replace hc1 := cell_later hb2 hc1
    replace hc2 := cell_later hb2 hc2
    have hB2 := hB1.trans (hb2.mono hB1.size)
    have FIN : Hid (∀ w6, Below w.heap.size w w6 → GPost w s (.returned (.agg #[.int .i64 3, .int .i64 0, .string t])) w6) := fun w6 h6 => ⟨3, 0, t, rfl, h6, by unfold maxLen; omega, by omega, by omega, fun h => absurd h hne⟩
    clear hb2 hB1 hlt HC1 HT1 HU H2 H3
    go_wp2
    exact bodyPost_ret (v := .agg #[.int .i64 3, .int .i64 0, .string t]) (by simp [results, Tryz.results39, go_sem, hc0, hc1, hc2]) rfl (FIN.out _ (((hB2.setCell (Nat.le_refl _) _).setCell (Nat.le_refl _) _).setCell (Nat.le_refl _) _))
  | false =>
    rw [hpre] at HC1
    by_cases q1 : s = ⟨#[116, 114, 117, 101]⟩
    · subst q1
      refine (guess_true w).mono ?_
      rintro e w' ⟨rfl, hb⟩
      exact ⟨2, 1, ⟨#[]⟩, rfl, hb, Nat.zero_le _, by omega, by omega, fun h => by cases h⟩
    by_cases q2 : s = ⟨#[102, 97, 108, 115, 101]⟩
    · subst q2
      refine (guess_false w).mono ?_
      rintro e w' ⟨rfl, hb⟩
      exact ⟨2, 0, ⟨#[]⟩, rfl, hb, Nat.zero_le _, by omega, by omega, fun h => by cases h⟩
    have r1 : (s.toList == [116, 114, 117, 101]) = false := by
      rw [beq_eq_false_iff_ne]; intro h; exact q1 (toList_inj (by rw [h, ByteArray.toList_eq]))
    have r2 : (s.toList == [102, 97, 108, 115, 101]) = false := by
      rw [beq_eq_false_iff_ne]; intro h; exact q2 (toList_inj (by rw [h, ByteArray.toList_eq]))
    have HP : Hid (∀ W, Below w.heap.size w W → Calls Tryz.prog 60 #[.string s, .int .i64 10, .int .i64 64] W (PIPost W s)) := fun W hW => parseInt_tot s W hs (H2.out.later hW) (H3.out.later hW)
    clear q1 q2 hE hpre hIz H2 H3
    go_enter Tryz.func39, Tryz.ntmps39
    go_wp2_with fail
    refine (HC1.out _).mono ?_
    rintro e w1 ⟨rfl, rfl⟩
    go_wp2_with fail
    refine (HP.out _ (bel1 w _)).mono ?_
    rintro e w1 ⟨hb1, hcase⟩
    have hf0 := frozen_later (a := ⟨w.heap.size, 0, none⟩) hb1 (by simp) (by simp)
    have hf1 := frozen_later (a := ⟨w.heap.size, 1, none⟩) hb1 (by simp) (by simp)
    have hf2 := frozen_later (a := ⟨w.heap.size, 2, none⟩) hb1 (by simp) (by simp)
    have hc0 := cell_later (a := ⟨w.heap.size, 0, none⟩) (v := .int .i64 0) hb1 (by go_simp)
    have hc1 := cell_later (a := ⟨w.heap.size, 1, none⟩) (v := .int .i64 0) hb1 (by go_simp)
    have hc2 := cell_later (a := ⟨w.heap.size, 2, none⟩) (v := .string ⟨#[]⟩) hb1 (by go_simp)
    have hB1 := (bel1 w _).trans (hb1.mono (by simp))
    clear hb1 HP HC1
    rcases hcase with ⟨v, hv0, hv1, hne, rfl⟩ | ⟨v, N, rfl⟩
    · go_wp2_with fail
      refine (of_any _ _).mono ?_
      rintro e w2 ⟨rfl, hb2⟩
      have hlt : w.heap.size < w1.heap.size := World.block_lt_of_cell? _ _ hc0
      replace hf0 := frozen_later hb2 hlt hf0
      replace hf1 := frozen_later hb2 hlt hf1
      replace hf2 := frozen_later hb2 hlt hf2
      replace hc0 := cell_later hb2 hc0
      replace hc1 := cell_later hb2 hc1
      replace hc2 := cell_later hb2 hc2
      have hB2 := hB1.trans (hb2.mono hB1.size)
      have FIN : Hid (∀ w6, Below w.heap.size w w6 → GPost w s (.returned (.agg #[.int .i64 1, .int .i64 v, .string ⟨#[]⟩])) w6) := fun w6 h6 => ⟨1, v, ⟨#[]⟩, rfl, h6, Nat.zero_le _, hv0, hv1, fun h => absurd h hne⟩
      clear hb2 hB1 hlt
      go_wp2
      exact bodyPost_ret (v := .agg #[.int .i64 1, .int .i64 v, .string ⟨#[]⟩]) (by simp [results, Tryz.results39, go_sem, hc0, hc1, hc2]) rfl (FIN.out _ (((hB2.setCell (Nat.le_refl _) _).setCell (Nat.le_refl _) _).setCell (Nat.le_refl _) _))
    · have FIN : Hid (∀ w6, Below w.heap.size w w6 → GPost w s (.returned (.agg #[.int .i64 0, .int .i64 0, .string ⟨#[]⟩])) w6) := fun w6 h6 => ⟨0, 0, ⟨#[]⟩, rfl, h6, Nat.zero_le _, by omega, by omega, fun h => valid0⟩
      go_wp2
      exact bodyPost_ret (v := .agg #[.int .i64 0, .int .i64 0, .string ⟨#[]⟩]) (by simp [results, Tryz.results39, go_sem, hc0, hc1, hc2]) rfl (FIN.out _ (((hB1.setCell (Nat.le_refl _) _).setCell (Nat.le_refl _) _).setCell (Nat.le_refl _) _))
end Go.Proofs.YtodkekmfadfjkaaGreatDoor.Vl
