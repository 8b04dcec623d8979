import Derived.Test.YtnmelljaangfiaaGreatDoorXpV
namespace Go.Proofs.YtnmelljaangfiaaGreatDoor
open Go.RowKit
set_option linter.unusedVariables false
set_option linter.unusedSimpArgs false
set_option maxRecDepth 100000

def fltV (pl why : Nat) : Value := .iface 71 (.agg #[.int .i64 pl, .int .i64 why])
def fltE (pl why : Nat) : Ending := .panicked [{ v := fltV pl why, recovered := false }]
def tkV (t : Tk) : Value := .agg #[.int .i64 t.pl, .int .i64 t.kd, .string t.tx]

theorem idx39 : ∀ l : List UInt8, Lib.indexByte l 39 = match l.findIdx? (· == 39) with | some i => (i : Int) | none => -1
  | [] => rfl
  | b :: l => by
    have ih := idx39 l
    rw [List.findIdx?_cons]
    unfold Lib.indexByte
    cases hb : (b == 39)
    · simp only [Bool.false_eq_true, if_false]
      rw [ih]
      cases l.findIdx? (· == 39) with
      | none => rfl
      | some i => simp
    · simp

theorem tokAt_cons (c : UInt8) (r : List UInt8) : tokAt (c :: r) = if isDg c then some (2, wLen (c :: r)) else if isWb c then some (1, wLen (c :: r)) else if c = 39 then (r.findIdx? (· == 39)).map (fun i => (3, i + 2)) else if 0 < sLen (c :: r) then some (4, sLen (c :: r)) else none := rfl
def TokAtPost (w : World) (pl : Nat) (R : List UInt8) (e : Ending) (w' : World) : Prop :=
  Below w.heap.size w w' ∧ match tokAt R with
  | none => e = fltE pl 1
  | some (kd, n) => e = .returned (tkV ⟨pl, kd, ⟨(R.take n).toArray⟩⟩)

set_option maxHeartbeats 2000000 in
theorem tokenAt_any (s : ByteArray) (pl : Nat) (w : World) (h0 : pl < s.size) (hs : s.size ≤ 140737488355328) :
    Calls Tryz.prog 67 #[.string s, .int .i64 pl] w (TokAtPost w pl (s.data.toList.drop pl)) := by
  have hlen : s.data.toList.length = s.size := by simp
  have hsl := fun w => slice_lo s pl (by omega) w
  obtain ⟨R, hR⟩ : ∃ R : ByteArray, R = ⟨(s.data.toList.drop pl).toArray⟩ := ⟨_, rfl⟩
  rw [← hR] at hsl
  have HL : s.data.toList.drop pl = R.data.toList := by rw [hR]
  have hz : R.size = s.size - pl := by rw [hR]; show ((s.data.toList.drop pl).toArray).size = _; simp
  have r0 : 0 < R.size := by omega
  have r0i : (0 : Int) < (R.size : Int) := by omega
  have rs : R.size ≤ 140737488355328 := by omega
  rw [HL]
  have hcons : R.data.toList = R[0] :: R.data.toList.drop 1 := by
    have hl2 : R.data.toList.length = R.size := by simp
    have e0 : R.data.toList[0]'(by omega) = R[0] := by simp [ByteArray.getElem_eq_getElem_data]
    rw [← e0]
    have := List.drop_eq_getElem_cons (l := R.data.toList) (i := 0) (by omega)
    simpa using this
  have HW : Hid (∀ W, Calls Tryz.prog 86 #[.string R] W fun e w' => e = .returned (.int .i64 (wLen R.data.toList)) ∧ w' = W) := fun W => wordLen_any R W rs
  have HS : Hid (∀ W, Calls Tryz.prog 89 #[.string R] W fun e w' => e = .returned (.int .i64 (sLen R.data.toList)) ∧ w' = W) := fun W => signLen_any R W r0 rs
  have HD : Hid (∀ W, Calls Tryz.prog 85 #[.int .u8 R[0].toNat] W fun e w' => e = .returned (.bool (isDg R[0])) ∧ w' = W) := fun W => isDigit_any R[0] W
  have HB : Hid (∀ W, Calls Tryz.prog 87 #[.int .u8 R[0].toNat] W fun e w' => e = .returned (.bool (isWb R[0])) ∧ w' = W) := fun W => isWordByte_any R[0] W
  have wl := wLen_le R.data.toList
  have sl := sLen_le R.data.toList
  have hl2 : R.data.toList.length = R.size := by simp
  have T : Hid (tokAt R.data.toList = if isDg R[0] then some (2, wLen R.data.toList) else if isWb R[0] then some (1, wLen R.data.toList)
    else if R[0] = 39 then ((R.data.toList.drop 1).findIdx? (· == 39)).map (fun i => (3, i + 2))
    else if 0 < sLen R.data.toList then some (4, sLen R.data.toList) else none) := by
    unfold Hid
    conv => lhs; rw [hcons, tokAt_cons]
    rw [← hcons]
  have hW := fun w => slice_hi R (wLen R.data.toList) (by omega) w
  have hS := fun w => slice_hi R (sLen R.data.toList) (by omega) w
  have h1 : ∀ w : World, (Instr.slice 9 (.string R) (some (.int .i64 1)) none none).run Tryz.prog w = .ok (.string ⟨(R.data.toList.drop 1).toArray⟩) w := fun w => slice_lo R 1 (by omega) w
  clear hlen hR HL hcons hl2
  unfold TokAtPost
  cases hd : isDg R[0]
  · cases hb : isWb R[0]
    · by_cases h39 : R[0] = 39
      · have hn : ((R[0].toNat : Int) == 39) = true := by rw [h39]; rfl
        have hT : tokAt R.data.toList = ((R.data.toList.drop 1).findIdx? (· == 39)).map (fun i => (3, i + 2)) := by rw [T.out, hd, hb, if_neg (by decide), if_neg (by decide), if_pos h39]
        have HR9 : Hid (R[0] = 39) := h39
        clear h39
        obtain ⟨R1, hR1⟩ : ∃ R1 : ByteArray, R1 = ⟨(R.data.toList.drop 1).toArray⟩ := ⟨_, rfl⟩
        have HX : Hid (∀ W, Calls Tryz.prog 88 #[.string R1, .int .u8 39] W fun e w' => e = .returned (.int .i64 (Lib.indexByte (R.data.toList.drop 1) 39)) ∧ w' = W) := fun W => by rw [hR1]; exact indexByte_any _ 39 W
        rw [← hR1] at h1
        clear hR1
        have h39' := idx39 (R.data.toList.drop 1)
        cases hf : (R.data.toList.drop 1).findIdx? (· == 39) with
        | none =>
          rw [hf] at hT
          replace hT : tokAt R.data.toList = none := hT
          rw [hT]
          rw [hf] at h39'
          replace h39' : Lib.indexByte (R.data.toList.drop 1) 39 = -1 := h39'
          go_enter Tryz.func67, Tryz.ntmps67
          go_wp2_with fail
          refine (HD.out _).mono ?_
          rintro e w1 ⟨rfl, h⟩
          have := h.symm; subst this
          rw [hd]
          go_wp2_with fail
          refine (HB.out _).mono ?_
          rintro e w1 ⟨rfl, h⟩
          have := h.symm; subst this
          rw [hb]
          go_wp2_with fail
          refine (HX.out _).mono ?_
          rintro e w1 ⟨rfl, h⟩
          have := h.symm; subst this
          rw [h39']
          go_wp2_with fail
          exact ⟨rfl, xbel1 _ _, rfl⟩
        | some i =>
          rw [hf] at hT
          replace hT : tokAt R.data.toList = some (3, i + 2) := hT
          rw [hT]
          rw [hf] at h39'
          replace h39' : Lib.indexByte (R.data.toList.drop 1) 39 = (i : Int) := h39'
          have hi := (List.findIdx?_eq_some_iff_findIdx_eq.1 hf).1
          rw [List.length_drop] at hi
          have hl2 : R.data.toList.length = R.size := by simp
          have hi0 : (0 : Int) ≤ (i : Int) := by omega
          have hq : ∀ w : World, (Instr.slice 9 (.string R) none (some (.int .i64 ((i : Int) + 2))) none).run Tryz.prog w = .ok (.string ⟨(R.data.toList.take (i + 2)).toArray⟩) w := fun w => slice_hi R (i + 2) (by omega) w
          have hi2 : i + 2 ≤ 140737488355328 := by omega
          clear hl2 hi hf
          go_enter Tryz.func67, Tryz.ntmps67
          go_wp2_with fail
          refine (HD.out _).mono ?_
          rintro e w1 ⟨rfl, h⟩
          have := h.symm; subst this
          rw [hd]
          go_wp2_with fail
          refine (HB.out _).mono ?_
          rintro e w1 ⟨rfl, h⟩
          have := h.symm; subst this
          rw [hb]
          go_wp2_with fail
          refine (HX.out _).mono ?_
          rintro e w1 ⟨rfl, h⟩
          have := h.symm; subst this
          rw [h39']
          go_wp2_with fail
          exact bodyPost_ret (v := tkV ⟨pl, 3, ⟨(R.data.toList.take (i + 2)).toArray⟩⟩) (by simp [results, Tryz.results67, go_sem]; rfl) rfl ⟨xbel1 _ _, rfl⟩
      · have hn : ((R[0].toNat : Int) == 39) = false := by
          rw [beq_eq_false_iff_ne]
          intro h
          apply h39
          apply UInt8.toNat_inj.1
          show R[0].toNat = 39
          omega
        by_cases hs0 : 0 < sLen R.data.toList
        · have hT : tokAt R.data.toList = some (4, sLen R.data.toList) := by rw [T.out, hd, hb, if_neg (by decide), if_neg (by decide), if_neg h39, if_pos hs0]
          rw [hT]
          have hsi : (0 : Int) < (sLen R.data.toList : Int) := by omega
          go_enter Tryz.func67, Tryz.ntmps67
          go_wp2_with fail
          refine (HD.out _).mono ?_
          rintro e w1 ⟨rfl, h⟩
          have := h.symm; subst this
          rw [hd]
          go_wp2_with fail
          refine (HB.out _).mono ?_
          rintro e w1 ⟨rfl, h⟩
          have := h.symm; subst this
          rw [hb]
          go_wp2_with fail
          refine (HS.out _).mono ?_
          rintro e w1 ⟨rfl, h⟩
          have := h.symm; subst this
          go_wp2_with fail
          refine (HS.out _).mono ?_
          rintro e w1 ⟨rfl, h⟩
          have := h.symm; subst this
          go_wp2_with fail
          exact bodyPost_ret (v := tkV ⟨pl, 4, ⟨(R.data.toList.take (sLen R.data.toList)).toArray⟩⟩) (by simp [results, Tryz.results67, go_sem]; rfl) rfl ⟨xbel1 _ _, rfl⟩
        · have hT : tokAt R.data.toList = none := by rw [T.out, hd, hb, if_neg (by decide), if_neg (by decide), if_neg h39, if_neg hs0]
          rw [hT]
          have hsi : sLen R.data.toList = 0 := by omega
          go_enter Tryz.func67, Tryz.ntmps67
          go_wp2_with fail
          refine (HD.out _).mono ?_
          rintro e w1 ⟨rfl, h⟩
          have := h.symm; subst this
          rw [hd]
          go_wp2_with fail
          refine (HB.out _).mono ?_
          rintro e w1 ⟨rfl, h⟩
          have := h.symm; subst this
          rw [hb]
          go_wp2_with fail
          refine (HS.out _).mono ?_
          rintro e w1 ⟨rfl, h⟩
          have := h.symm; subst this
          rw [hsi]
          go_wp2_with fail
          exact ⟨rfl, xbel1 _ _, rfl⟩
    · have hT : tokAt R.data.toList = some (1, wLen R.data.toList) := by rw [T.out, hd, hb, if_neg (by decide), if_pos rfl]
      rw [hT]
      go_enter Tryz.func67, Tryz.ntmps67
      go_wp2_with fail
      refine (HD.out _).mono ?_
      rintro e w1 ⟨rfl, h⟩
      have := h.symm; subst this
      rw [hd]
      go_wp2_with fail
      refine (HB.out _).mono ?_
      rintro e w1 ⟨rfl, h⟩
      have := h.symm; subst this
      rw [hb]
      go_wp2_with fail
      refine (HW.out _).mono ?_
      rintro e w1 ⟨rfl, h⟩
      have := h.symm; subst this
      go_wp2_with fail
      exact bodyPost_ret (v := tkV ⟨pl, 1, ⟨(R.data.toList.take (wLen R.data.toList)).toArray⟩⟩) (by simp [results, Tryz.results67, go_sem]; rfl) rfl ⟨xbel1 _ _, rfl⟩
  · have hT : tokAt R.data.toList = some (2, wLen R.data.toList) := by rw [T.out, hd, if_pos rfl]
    rw [hT]
    go_enter Tryz.func67, Tryz.ntmps67
    go_wp2_with fail
    refine (HD.out _).mono ?_
    rintro e w1 ⟨rfl, h⟩
    have := h.symm; subst this
    rw [hd]
    go_wp2_with fail
    refine (HW.out _).mono ?_
    rintro e w1 ⟨rfl, h⟩
    have := h.symm; subst this
    go_wp2_with fail
    exact bodyPost_ret (v := tkV ⟨pl, 2, ⟨(R.data.toList.take (wLen R.data.toList)).toArray⟩⟩) (by simp [results, Tryz.results67, go_sem]; rfl) rfl ⟨xbel1 _ _, rfl⟩
end Go.Proofs.YtnmelljaangfiaaGreatDoor
