import Derived.Test.YtodkekmfadfjkaaGreatDoorVBkU
import Derived.Test.YtodkekmfadfjkaaGreatDoorShelfV
namespace Go.Proofs.YtodkekmfadfjkaaGreatDoor.Vl
open Go.RowKit
set_option linter.unusedVariables false
set_option maxRecDepth 100000

theorem frozen_later {w wx : World} {a : Addr} (hb : Below w.heap.size w wx) (ha : a.block < w.heap.size) (h : w.frozen? a = false) : wx.frozen? a = false := (hb.frozen ha).trans h

theorem cut_text (X : List UInt8) : Lib.trimPrefix (39 :: X) [39] = X ∧ Lib.hasPrefix (39 :: X) [39] = true := by
  unfold Lib.trimPrefix Lib.hasPrefix
  simp [List.isPrefixOf]
theorem trim_text (X : List UInt8) : Lib.trimSuffix (X ++ [39]) [39] = X := by
  unfold Lib.trimSuffix Lib.hasSuffix
  have : List.isSuffixOf [39] (X ++ [39]) = true := by
    rw [List.isSuffixOf_iff_suffix]; exact List.suffix_append X [39]
  simp [this]

set_option maxHeartbeats 1000000 in
theorem guess_text (l : List UInt8) (w : World) (hl : l.length ≤ 60) :
    Calls Tryz.prog 39 #[.string ⟨(39 :: escAll l ++ [39]).toArray⟩] w fun e w' => e = .returned (.agg #[.int .i64 3, .int .i64 0, .string ⟨l.toArray⟩]) ∧ Below w.heap.size w w' := by
  have hX := escAll_len l
  have h1 := cut_text (escAll l ++ [39])
  have h2 := trim_text (escAll l)
  have h3 : (⟨(39 :: escAll l ++ [39]).toArray⟩ : ByteArray).data.toList = 39 :: (escAll l ++ [39]) := by simp
  have h4 : (⟨(escAll l ++ [39]).toArray⟩ : ByteArray).data.toList = escAll l ++ [39] := by simp
  have HC : ∀ W, Calls Tryz.prog 57 #[.string ⟨(39 :: escAll l ++ [39]).toArray⟩, .string ⟨#[39]⟩] W fun e w' => e = .returned (.tuple #[.string ⟨(escAll l ++ [39]).toArray⟩, .bool true]) ∧ w' = W := by
    intro W
    have := Tryz.strings_CutPrefix ⟨(39 :: escAll l ++ [39]).toArray⟩ ⟨#[39]⟩ W
    rw [h3, show (⟨#[39]⟩ : ByteArray).data.toList = [39] from rfl, h1.1, h1.2] at this
    exact this
  have HT : ∀ W, Calls Tryz.prog 59 #[.string ⟨(escAll l ++ [39]).toArray⟩, .string ⟨#[39]⟩] W fun e w' => e = .returned (.string ⟨(escAll l).toArray⟩) ∧ w' = W := by
    intro W
    have := Tryz.strings_TrimSuffix ⟨(escAll l ++ [39]).toArray⟩ ⟨#[39]⟩ W (by show (escAll l ++ [39]).toArray.size ≤ _; simp; omega)
    rw [h4, show (⟨#[39]⟩ : ByteArray).data.toList = [39] from rfl, h2] at this
    exact this
  have HC' : Hid _ := HC
  have HT' : Hid _ := HT
  clear HC HT h1 h2 h3 h4 hX
  generalize (⟨(39 :: escAll l ++ [39]).toArray⟩ : ByteArray) = s at *
  generalize (⟨(escAll l ++ [39]).toArray⟩ : ByteArray) = s2 at *
  go_enter Tryz.func39, Tryz.ntmps39
  go_wp2_with fail
  refine (HC'.out _).mono ?_
  rintro e w1 ⟨rfl, rfl⟩
  go_wp2_with fail
  refine (HT'.out _).mono ?_
  rintro e w1 ⟨rfl, rfl⟩
  go_wp2_with fail
  refine (unescaped_any l _ hl).mono ?_
  rintro e w1 ⟨rfl, hb1⟩
  have hf0 := frozen_later (a := ⟨w.heap.size, 0, none⟩) hb1 (by simp) (by simp)
  have hf1 := frozen_later (a := ⟨w.heap.size, 1, none⟩) hb1 (by simp) (by simp)
  have hf2 := frozen_later (a := ⟨w.heap.size, 2, none⟩) hb1 (by simp) (by simp)
  have hc0 := cell_later (a := ⟨w.heap.size, 0, none⟩) (v := .int .i64 0) hb1 (by go_simp)
  have hc1 := cell_later (a := ⟨w.heap.size, 1, none⟩) (v := .int .i64 0) hb1 (by go_simp)
  have hc2 := cell_later (a := ⟨w.heap.size, 2, none⟩) (v := .string ⟨#[]⟩) hb1 (by go_simp)
  have hB1 := (bel1 w _).trans (hb1.mono (by simp))
  clear hb1
  go_wp2_with fail
  refine (words_any _ _).mono ?_
  rintro e w2 ⟨rfl, hb2⟩
  have hlt : w.heap.size < w1.heap.size := World.block_lt_of_cell? _ _ hc0
  replace hf0 := frozen_later hb2 hlt hf0
  replace hf1 := frozen_later hb2 hlt hf1
  replace hf2 := frozen_later hb2 hlt hf2
  replace hc0 := cell_later hb2 hc0
  replace hc1 := cell_later hb2 hc1
  replace hc2 := cell_later hb2 hc2
  have hB2 := hB1.trans (hb2.mono hB1.size)
  clear hb2 hB1 hlt HC' HT'
  go_wp2
  exact bodyPost_ret (v := .agg #[.int .i64 3, .int .i64 0, .string ⟨l.toArray⟩]) (by simp [results, Tryz.results39, go_sem, hc0, hc1, hc2]) rfl ⟨rfl, ((hB2.setCell (Nat.le_refl _) _).setCell (Nat.le_refl _) _).setCell (Nat.le_refl _) _⟩

theorem cut_other (c : UInt8) (X : List UInt8) (h : c ≠ 39) : Lib.trimPrefix (c :: X) [39] = c :: X ∧ Lib.hasPrefix (c :: X) [39] = false := by
  have : Lib.hasPrefix (c :: X) [39] = false := by
    unfold Lib.hasPrefix
    simp [List.isPrefixOf]
    exact fun e => h e.symm
  unfold Lib.trimPrefix
  rw [this]
  exact ⟨rfl, rfl⟩
theorem cutPrefix_other (s : ByteArray) (c : UInt8) (X : List UInt8) (hs : s.data.toList = c :: X) (h : c ≠ 39) (W : World) :
    Calls Tryz.prog 57 #[.string s, .string ⟨#[39]⟩] W fun e w' => e = .returned (.tuple #[.string s, .bool false]) ∧ w' = W := by
  have h1 := cut_other c X h
  have := Tryz.strings_CutPrefix s ⟨#[39]⟩ W
  rw [hs, show (⟨#[39]⟩ : ByteArray).data.toList = [39] from rfl, h1.1, h1.2, ← hs] at this
  exact this

set_option maxHeartbeats 1000000 in
theorem guess_true (w : World) :
    Calls Tryz.prog 39 #[.string ⟨#[116, 114, 117, 101]⟩] w fun e w' => e = .returned (.agg #[.int .i64 2, .int .i64 1, .string ⟨#[]⟩]) ∧ Below w.heap.size w w' := by
  go_enter Tryz.func39, Tryz.ntmps39
  go_wp2_with fail
  refine (cutPrefix_other _ 116 [114, 117, 101] rfl (by decide) _).mono ?_
  rintro e w1 ⟨rfl, rfl⟩
  go_wp2_with fail
  refine (truth_true _).mono ?_
  rintro e w1 ⟨rfl, hb1⟩
  have hf0 := frozen_later (a := ⟨w.heap.size, 0, none⟩) hb1 (by simp) (by simp)
  have hf1 := frozen_later (a := ⟨w.heap.size, 1, none⟩) hb1 (by simp) (by simp)
  have hf2 := frozen_later (a := ⟨w.heap.size, 2, none⟩) hb1 (by simp) (by simp)
  have hc0 := cell_later (a := ⟨w.heap.size, 0, none⟩) (v := .int .i64 0) hb1 (by go_simp)
  have hc1 := cell_later (a := ⟨w.heap.size, 1, none⟩) (v := .int .i64 0) hb1 (by go_simp)
  have hc2 := cell_later (a := ⟨w.heap.size, 2, none⟩) (v := .string ⟨#[]⟩) hb1 (by go_simp)
  have hB1 := (bel1 w _).trans (hb1.mono (by simp))
  clear hb1
  go_wp2
  exact bodyPost_ret (v := .agg #[.int .i64 2, .int .i64 1, .string ⟨#[]⟩]) (by simp [results, Tryz.results39, go_sem, hc0, hc1, hc2]) rfl ⟨rfl, ((hB1.setCell (Nat.le_refl _) _).setCell (Nat.le_refl _) _).setCell (Nat.le_refl _) _⟩

set_option maxHeartbeats 1000000 in
theorem guess_false (w : World) :
    Calls Tryz.prog 39 #[.string ⟨#[102, 97, 108, 115, 101]⟩] w fun e w' => e = .returned (.agg #[.int .i64 2, .int .i64 0, .string ⟨#[]⟩]) ∧ Below w.heap.size w w' := by
  go_enter Tryz.func39, Tryz.ntmps39
  go_wp2_with fail
  refine (cutPrefix_other _ 102 [97, 108, 115, 101] rfl (by decide) _).mono ?_
  rintro e w1 ⟨rfl, rfl⟩
  go_wp2_with fail
  refine (truth_false _).mono ?_
  rintro e w1 ⟨rfl, hb1⟩
  have hf0 := frozen_later (a := ⟨w.heap.size, 0, none⟩) hb1 (by simp) (by simp)
  have hf1 := frozen_later (a := ⟨w.heap.size, 1, none⟩) hb1 (by simp) (by simp)
  have hf2 := frozen_later (a := ⟨w.heap.size, 2, none⟩) hb1 (by simp) (by simp)
  have hc0 := cell_later (a := ⟨w.heap.size, 0, none⟩) (v := .int .i64 0) hb1 (by go_simp)
  have hc1 := cell_later (a := ⟨w.heap.size, 1, none⟩) (v := .int .i64 0) hb1 (by go_simp)
  have hc2 := cell_later (a := ⟨w.heap.size, 2, none⟩) (v := .string ⟨#[]⟩) hb1 (by go_simp)
  have hB1 := (bel1 w _).trans (hb1.mono (by simp))
  clear hb1
  go_wp2
  exact bodyPost_ret (v := .agg #[.int .i64 2, .int .i64 0, .string ⟨#[]⟩]) (by simp [results, Tryz.results39, go_sem, hc0, hc1, hc2]) rfl ⟨rfl, ((hB1.setCell (Nat.le_refl _) _).setCell (Nat.le_refl _) _).setCell (Nat.le_refl _) _⟩

theorem itoa_head (n : Int) : ∃ c X, Lib.itoa n = c :: X ∧ (c.toNat = 45 ∨ (48 ≤ c.toNat ∧ c.toNat ≤ 57)) := by
  by_cases hn : n < 0
  · exact ⟨45, Lib.decDigits n.natAbs, by unfold Lib.itoa; rw [if_pos hn], .inl rfl⟩
  · obtain ⟨c, r, e, h1, h2⟩ := dec_head n.toNat
    exact ⟨c, r, by unfold Lib.itoa; rw [if_neg hn, e], .inr ⟨h1, h2⟩⟩

set_option maxHeartbeats 1000000 in
theorem guess_num (n : Int) (w : World) (h0 : -9223372036854775808 ≤ n) (h1 : n ≤ 9223372036854775807) :
    Calls Tryz.prog 39 #[.string ⟨(Lib.itoa n).toArray⟩] w fun e w' => e = .returned (.agg #[.int .i64 1, .int .i64 n, .string ⟨#[]⟩]) ∧ Below w.heap.size w w' := by
  have hp := parse_itoa n h0 h1
  have hlen := Lib.itoa_length_le n h0 h1
  obtain ⟨c, X, e, hc⟩ := itoa_head n
  obtain ⟨s, hs⟩ : ∃ s : ByteArray, s = ⟨(Lib.itoa n).toArray⟩ := ⟨_, rfl⟩
  have hd : s.data.toList = Lib.itoa n := by rw [hs]
  rw [← hs]
  have hl : s.toList = c :: X := by rw [ByteArray.toList_eq]; rw [hd, e]
  have HC : Hid (∀ W, Calls Tryz.prog 57 #[.string s, .string ⟨#[39]⟩] W fun e w' => e = .returned (.tuple #[.string s, .bool false]) ∧ w' = W) :=
    cutPrefix_other s c X (by rw [hd, e]) (by rintro rfl; simp at hc)
  have q1 : (s.toList == [116, 114, 117, 101]) = false := by rw [hl]; simp; rintro rfl; simp at hc
  have q2 : (s.toList == [102, 97, 108, 115, 101]) = false := by rw [hl]; simp; rintro rfl; simp at hc
  have hsz : s.size ≤ 9223372036854775806 := by
    have h3 : s.data.toList.length = s.size := by simp
    rw [← h3, hd]; omega
  have HP : Hid (∀ W, Calls Tryz.prog 60 #[.string s, .int .i64 10, .int .i64 64] W fun e w' => e = .returned (.tuple #[.int .i64 n, .nilIface]) ∧ Below W.heap.size W w') := by
    intro W
    refine (Tryz.strconv_ParseInt_10_at64_ok s hsz n (by rw [hd]; exact hp) W).mono ?_
    rintro e w' ⟨rfl, hw⟩
    refine ⟨rfl, ?_⟩
    rcases hw with rfl | ⟨t, rfl⟩
    · exact Below.refl _ _
    · exact below_bytes _ _ _
  clear hp hlen e hc hs hd hl hsz h0 h1
  go_enter Tryz.func39, Tryz.ntmps39
  go_wp2_with fail
  refine (HC.out _).mono ?_
  rintro e w1 ⟨rfl, rfl⟩
  go_wp2_with fail
  refine (HP.out _).mono ?_
  rintro e w1 ⟨rfl, hb1⟩
  have hf0 := frozen_later (a := ⟨w.heap.size, 0, none⟩) hb1 (by simp) (by simp)
  have hf1 := frozen_later (a := ⟨w.heap.size, 1, none⟩) hb1 (by simp) (by simp)
  have hf2 := frozen_later (a := ⟨w.heap.size, 2, none⟩) hb1 (by simp) (by simp)
  have hc0 := cell_later (a := ⟨w.heap.size, 0, none⟩) (v := .int .i64 0) hb1 (by go_simp)
  have hc1 := cell_later (a := ⟨w.heap.size, 1, none⟩) (v := .int .i64 0) hb1 (by go_simp)
  have hc2 := cell_later (a := ⟨w.heap.size, 2, none⟩) (v := .string ⟨#[]⟩) hb1 (by go_simp)
  have hB1 := (bel1 w _).trans (hb1.mono (by simp))
  clear hb1
  go_wp2_with fail
  refine (of_any _ _).mono ?_
  rintro e w2 ⟨rfl, hb2⟩
  have hlt : w.heap.size < w1.heap.size := World.block_lt_of_cell? _ _ hc0
  replace hf0 := frozen_later hb2 hlt hf0
  replace hf1 := frozen_later hb2 hlt hf1
  replace hf2 := frozen_later hb2 hlt hf2
  replace hc0 := cell_later hb2 hc0
  replace hc1 := cell_later hb2 hc1
  replace hc2 := cell_later hb2 hc2
  have hB2 := hB1.trans (hb2.mono hB1.size)
  clear hb2 hB1 hlt HC HP
  go_wp2
  exact bodyPost_ret (v := .agg #[.int .i64 1, .int .i64 n, .string ⟨#[]⟩]) (by simp [results, Tryz.results39, go_sem, hc0, hc1, hc2]) rfl ⟨rfl, ((hB2.setCell (Nat.le_refl _) _).setCell (Nat.le_refl _) _).setCell (Nat.le_refl _) _⟩

set_option maxHeartbeats 1000000 in
theorem guess_null (w : World) (ev : Value) (hv : w.cell? ⟨5, 0, none⟩ = some ev) (hev : ev = .nilIface ∨ ∃ te pe, ev = .iface te pe) :
    Calls Tryz.prog 39 #[.string ⟨#[110, 117, 108, 108]⟩] w fun e w' => e = .returned (.agg #[.int .i64 0, .int .i64 0, .string ⟨#[]⟩]) ∧ Below w.heap.size w w' := by
  have HV : Hid (w.cell? ⟨5, 0, none⟩ = some ev) := hv
  have HP : Hid (∀ W, W.cell? ⟨5, 0, none⟩ = some ev → Calls Tryz.prog 60 #[.string ⟨#[110, 117, 108, 108]⟩, .int .i64 10, .int .i64 64] W fun e w' => ∃ N, e = .returned (.tuple #[.int .i64 0, .iface 129 (.pointer (some ⟨N, 0, none⟩))]) ∧ Below W.heap.size W w') := by
    intro W hW
    refine (Any.strconv_ParseInt_10_at64_syntax Tryz.laysC174 ⟨#[110, 117, 108, 108]⟩ (by decide) (by decide) ev W hW hev).mono ?_
    rintro e w' ⟨N, rfl, _, _, hb⟩
    exact ⟨N, rfl, hb⟩
  clear hv hev
  go_enter Tryz.func39, Tryz.ntmps39
  go_wp2_with fail
  refine (cutPrefix_other _ 110 [117, 108, 108] rfl (by decide) _).mono ?_
  rintro e w1 ⟨rfl, rfl⟩
  go_wp2_with fail
  refine (HP.out _ (cell_later (bel1 w _) HV.out)).mono ?_
  rintro e w1 ⟨N, rfl, hb1⟩
  have hf0 := frozen_later (a := ⟨w.heap.size, 0, none⟩) hb1 (by simp) (by simp)
  have hf1 := frozen_later (a := ⟨w.heap.size, 1, none⟩) hb1 (by simp) (by simp)
  have hf2 := frozen_later (a := ⟨w.heap.size, 2, none⟩) hb1 (by simp) (by simp)
  have hc0 := cell_later (a := ⟨w.heap.size, 0, none⟩) (v := .int .i64 0) hb1 (by go_simp)
  have hc1 := cell_later (a := ⟨w.heap.size, 1, none⟩) (v := .int .i64 0) hb1 (by go_simp)
  have hc2 := cell_later (a := ⟨w.heap.size, 2, none⟩) (v := .string ⟨#[]⟩) hb1 (by go_simp)
  have hB1 := (bel1 w _).trans (hb1.mono (by simp))
  clear hb1 HP HV
  go_wp2
  exact bodyPost_ret (v := .agg #[.int .i64 0, .int .i64 0, .string ⟨#[]⟩]) (by simp [results, Tryz.results39, go_sem, hc0, hc1, hc2]) rfl ⟨rfl, ((hB1.setCell (Nat.le_refl _) _).setCell (Nat.le_refl _) _).setCell (Nat.le_refl _) _⟩
end Go.Proofs.YtodkekmfadfjkaaGreatDoor.Vl
