import Derived.Test.YtnmelljaangfiaaGreatDoorXpT
namespace Go.Proofs.YtnmelljaangfiaaGreatDoor
open Go.RowKit
set_option linter.unusedVariables false
set_option linter.unusedSimpArgs false
set_option maxRecDepth 100000

theorem wLen_on {l : List UInt8} {k : Nat} (hk : k < l.length) (h : isWb l[k] = true) (hs : wLen l = k + wLen (l.drop k)) : wLen l = (k + 1) + wLen (l.drop (k + 1)) := by
  rw [hs, List.drop_eq_getElem_cons hk]
  conv => lhs; rw [wLen, if_pos h]
  omega
theorem wLen_off {l : List UInt8} {k : Nat} (hk : k < l.length) (h : isWb l[k] = false) (hs : wLen l = k + wLen (l.drop k)) : wLen l = k := by
  rw [hs, List.drop_eq_getElem_cons hk]
  rw [wLen, if_neg (by rw [h]; decide)]
  omega

set_option maxHeartbeats 2000000 in
theorem wordLen_any (s : ByteArray) (w : World) (hs : s.size ≤ 140737488355328) :
    Calls Tryz.prog 86 #[.string s] w fun e w' => e = .returned (.int .i64 (wLen s.data.toList)) ∧ w' = w := by
  have hlen : s.data.toList.length = s.size := by simp
  have HI : Hid (∀ (c : UInt8) (w : World), Calls Tryz.prog 87 #[.int .u8 c.toNat] w fun e w' => e = .returned (.bool (isWb c)) ∧ w' = w) := isWordByte_any
  go_enter Tryz.func86, Tryz.ntmps86
  go_wp2
  go_loopw [3] (fun i w' => ∃ k : Nat, k ≤ s.size ∧ i = .int .i64 k ∧ wLen s.data.toList = k + wLen (s.data.toList.drop k) ∧ w' = w) (fun i _ => s.size - (intOf i).toNat)
  case atStart => exact ⟨0, Nat.zero_le _, rfl, by simp, rfl⟩
  case round =>
    obtain ⟨k, hk, rfl, hsum, rfl⟩ := hrel
    have HS : Hid (wLen s.data.toList = k + wLen (s.data.toList.drop k)) := hsum
    clear hsum
    by_cases hlt : k < s.size
    · have hki : (k : Int) < (s.size : Int) := by omega
      have hk2 : k < s.data.toList.length := by omega
      have he : s.data.toList[k] = s[k] := by simp [ByteArray.getElem_eq_getElem_data]
      cases hb : isWb s[k]
      · have HO : Hid (wLen s.data.toList = k) := wLen_off hk2 (by rw [he]; exact hb) HS.out
        go_wp2_with fail
        refine (HI.out _ _).mono ?_
        rintro e w1 ⟨rfl, h⟩
        have := h.symm; subst this
        rw [hb]
        go_wp2
        go_ret
        exact ⟨ret_i (by rw [HO.out]), rfl⟩
      · have HO : Hid (wLen s.data.toList = (k + 1) + wLen (s.data.toList.drop (k + 1))) := wLen_on hk2 (by rw [he]; exact hb) HS.out
        go_wp2_with fail
        refine (HI.out _ _).mono ?_
        rintro e w1 ⟨rfl, h⟩
        have := h.symm; subst this
        rw [hb]
        go_wp2
        exact ⟨⟨k + 1, by omega, by go_num, HO.out, trivial⟩, by simp [intOf]; omega⟩
    · obtain rfl : k = s.size := by omega
      have HO : Hid (wLen s.data.toList = s.size) := by
        have := HS.out
        rw [List.drop_eq_nil_of_le (by omega)] at this
        unfold Hid; simpa [wLen] using this
      go_wp2
      go_ret
      exact ⟨ret_i (by rw [HO.out]), rfl⟩

theorem liteIndexByte (s : ByteArray) (c : UInt8) (w : World) :
    Calls Tryz.prog 102 #[.string s, .int .u8 c.toNat] w fun e w' => e = .returned (.int .i64 (Lib.indexByte s.data.toList c)) ∧ w' = w := by
  go_enter Tryz.func102, Tryz.ntmps102
  go_wp2
  rw [run_callFunc_extern Tryz.func112 (by kernel_rfl) (by kernel_rfl) (by kernel_rfl) (e := Extern.BytealgIndexByte.indexByte) (by kernel_rfl), Lib.run_indexByteString]
  simp only [Result.andThen]
  rw [Oper.upon_value]
  have e : (c.toNat : Int).toNat.toUInt8 = c := by simp
  rw [e]
  go_wp2
  go_ret
  exact ⟨rfl, rfl⟩
theorem indexByte_any (s : ByteArray) (c : UInt8) (w : World) :
    Calls Tryz.prog 88 #[.string s, .int .u8 c.toNat] w fun e w' => e = .returned (.int .i64 (Lib.indexByte s.data.toList c)) ∧ w' = w := by
  have HI := liteIndexByte s c
  go_enter Tryz.func88, Tryz.ntmps88
  go_wp2_with fail
  refine (HI _).mono ?_
  rintro e w1 ⟨rfl, h⟩
  have := h.symm; subst this
  go_wp2
  go_ret
  exact ⟨rfl, rfl⟩
end Go.Proofs.YtnmelljaangfiaaGreatDoor
