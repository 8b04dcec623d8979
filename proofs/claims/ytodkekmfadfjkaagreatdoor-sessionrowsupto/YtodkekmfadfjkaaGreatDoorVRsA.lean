import Derived.Test.YtodkekmfadfjkaaGreatDoorVShwA
import Derived.Lib.ItoaLen
import Derived.Laws.BitsLemmas
namespace Go.Proofs.YtodkekmfadfjkaaGreatDoor.Vl
open Go.RowKit
set_option linter.unusedVariables false
set_option maxRecDepth 100000

def isD (c : UInt8) : Bool := decide (48 ≤ c.toNat) && decide (c.toNat ≤ 57)
def wstep (n : Int) (c : UInt8) : Int := if isD c then wrap64 (wrap64 (n * 10) + ((c.toNat : Int) - 48)) else n
def wacc (l : List UInt8) : Int := l.foldl wstep 0
def wholeF (l : List UInt8) : Int := if l.head? = some 45 then wrap64 (-wacc l) else wacc l
theorem wrap64_in (x : Int) : -9223372036854775808 ≤ wrap64 x ∧ wrap64 x ≤ 9223372036854775807 := by unfold wrap64; omega
theorem wacc_in (l : List UInt8) : -9223372036854775808 ≤ wacc l ∧ wacc l ≤ 9223372036854775807 := by
  unfold wacc
  have : ∀ (l : List UInt8) (n : Int), (-9223372036854775808 ≤ n ∧ n ≤ 9223372036854775807) → (-9223372036854775808 ≤ l.foldl wstep n ∧ l.foldl wstep n ≤ 9223372036854775807) := by
    intro l
    induction l with
    | nil => intro n h; exact h
    | cons c l ih =>
      intro n h
      rw [List.foldl_cons]
      refine ih _ ?_
      unfold wstep
      split
      · exact wrap64_in _
      · exact h
  exact this l 0 (by omega)
theorem wacc_take (l : List UInt8) (k : Nat) (hk : k < l.length) : wacc (l.take (k + 1)) = wstep (wacc (l.take k)) l[k] := by
  unfold wacc; rw [List.take_succ_eq_append_getElem hk, List.foldl_append]; rfl

set_option maxHeartbeats 2000000 in
theorem whole_any (s : ByteArray) (w : World) (hs : s.size ≤ 140737488355328) :
    Calls Tryz.prog 26 #[.string s] w fun e w' => e = .returned (.int .i64 (wholeF s.data.toList)) ∧ w' = w := by
  have hlen : s.data.toList.length = s.size := by simp
  go_enter Tryz.func26, Tryz.ntmps26
  go_wp2
  go_loopw [3, 4] (fun n i w' => ∃ k : Nat, k ≤ s.size ∧ i = .int .i64 k ∧ n = .int .i64 (wacc (s.data.toList.take k)) ∧ w' = w) (fun _ i _ => s.size - (intOf i).toNat)
  case atStart => exact ⟨0, Nat.zero_le _, rfl, rfl, rfl⟩
  case round =>
    obtain ⟨k, hk, rfl, rfl, rfl⟩ := hrel
    by_cases hlt : k < s.size
    · have hki : (k : Int) < (s.size : Int) := by omega
      have hk2 : k < s.data.toList.length := by omega
      have HT : Hid (wacc (s.data.toList.take (k + 1)) = wstep (wacc (s.data.toList.take k)) s.data.toList[k]) := wacc_take _ k hk2
      have he : s.data.toList[k] = s[k] := by simp [ByteArray.getElem_eq_getElem_data]
      have hin := wacc_in (s.data.toList.take k)
      have hc2 := UInt8.toNat_lt s[k]
      generalize wacc (s.data.toList.take k) = N at *
      rw [he] at HT
      by_cases h48 : 48 ≤ s[k].toNat
      · by_cases h57 : s[k].toNat ≤ 57
        · have a1 : (48 : Int) ≤ (s[k].toNat : Int) := by omega
          have a2 : (s[k].toNat : Int) ≤ 57 := by omega
          have HD : Hid (wstep N s[k] = wrap64 (wrap64 (N * 10) + ((s[k].toNat : Int) - 48))) := by unfold Hid wstep isD; rw [decide_eq_true h48, decide_eq_true h57]; rfl
          go_wp2
          refine ⟨⟨k + 1, by omega, by go_num, by rw [HT.out, HD.out], trivial⟩, by simp [intOf]; omega⟩
        · have a1 : (48 : Int) ≤ (s[k].toNat : Int) := by omega
          have a2 : ¬ (s[k].toNat : Int) ≤ 57 := by omega
          have HD : Hid (wstep N s[k] = N) := by unfold Hid wstep isD; rw [decide_eq_false h57, Bool.and_false]; rfl
          go_wp2
          refine ⟨⟨k + 1, by omega, by go_num, by rw [HT.out, HD.out], trivial⟩, by simp [intOf]; omega⟩
      · have a1 : ¬ (48 : Int) ≤ (s[k].toNat : Int) := by omega
        have HD : Hid (wstep N s[k] = N) := by unfold Hid wstep isD; rw [decide_eq_false h48, Bool.false_and]; rfl
        go_wp2
        refine ⟨⟨k + 1, by omega, by go_num, by rw [HT.out, HD.out], trivial⟩, by simp [intOf]; omega⟩
    · obtain rfl : k = s.size := by omega
      have htk : s.data.toList.take s.size = s.data.toList := List.take_of_length_le (by omega)
      rw [htk]
      have HW : Hid (wholeF s.data.toList = if s.data.toList.head? = some 45 then wrap64 (-wacc s.data.toList) else wacc s.data.toList) := rfl
      have hin := wacc_in s.data.toList
      by_cases h0 : 0 < s.size
      · have h0i : (0 : Int) < (s.size : Int) := by omega
        have hh : s.data.toList.head? = some s[0] := by
          rw [List.head?_eq_getElem?, List.getElem?_eq_getElem (by omega)]; simp [ByteArray.getElem_eq_getElem_data]
        rw [hh] at HW
        generalize wacc s.data.toList = N at *
        cases h45 : ((s[0].toNat : Int) == 45)
        · have hne : ¬ some s[0] = some (45 : UInt8) := fun h => by
            have := Option.some.inj h
            rw [this] at h45
            simp at h45
          rw [if_neg hne] at HW
          go_wp2
          go_ret
          exact ⟨ret_int HW.out.symm, rfl⟩
        · have heq : some s[0] = some (45 : UInt8) := by
            have h : (s[0].toNat : Int) = 45 := by simpa using h45
            congr 1
            apply UInt8.toNat_inj.1
            show s[0].toNat = 45
            omega
          rw [if_pos heq] at HW
          go_wp2
          go_ret
          exact ⟨ret_int HW.out.symm, rfl⟩
      · have h0i : ¬ (0 : Int) < (s.size : Int) := by omega
        have hh : s.data.toList.head? = none := by
          have : s.data.toList = [] := List.eq_nil_of_length_eq_zero (by omega)
          rw [this]; rfl
        rw [hh, if_neg (by simp)] at HW
        go_wp2
        go_ret
        exact ⟨ret_int HW.out.symm, rfl⟩
end Go.Proofs.YtodkekmfadfjkaaGreatDoor.Vl
