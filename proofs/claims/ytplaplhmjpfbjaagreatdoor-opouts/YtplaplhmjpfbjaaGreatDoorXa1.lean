import Derived.Test.YtplaplhmjpfbjaaGreatDoorProg
import Derived.WalkKit
import Derived.Below
import Derived.WalkSmall
import Derived.LoopN
import Derived.Laws.StructEq
import Derived.Laws.Cover1
import Derived.Handy
import Derived.KernelRfl
import Derived.Deep.DrawnRows
import Derived.Deep.RegionWith
import Derived.Deep.QuietTactic
import Derived.BigQuiet
import Derived.Deep.OwnRows
import Derived.Laws.OwnMore
import Derived.OwnWalk
import Derived.Laws.IdiomStrings
import Derived.WideShapes
import Derived.Lib.Bytealg
import Derived.Laws.Slices
import Derived.Laws.Strings
import Derived.Laws.BytesString
import Derived.Test.YtplaplhmjpfbjaaGreatDoorXpK
namespace Go.Proofs.YtplaplhmjpfbjaaGreatDoor
open Go.RowKit
set_option linter.unusedVariables false
set_option maxRecDepth 100000

theorem xcell {w wx : World} {a : Addr} {v : Value} (hb : Below w.heap.size w wx) (h : w.cell? a = some v) : wx.cell? a = some v := (hb.cell (World.block_lt_of_cell? _ _ h)).trans h
theorem xbel1 (w : World) (o1 : Obj) : Below w.heap.size w (w.alloc o1) := (Below.refl _ _).alloc (Nat.le_refl _) _
theorem xtoList {s t : ByteArray} (h : s.toList = t.toList) : s = t := by
  have := congrArg List.toByteArray h
  apply ByteArray.ext
  apply Array.toList_inj.1
  simpa [ByteArray.toList_eq] using h
theorem xeq {s t : ByteArray} (h : s = t) : (s.toList == t.toList) = true := by rw [h]; exact beq_self_eq_true _
theorem xne {s t : ByteArray} (h : ¬ s = t) : (s.toList == t.toList) = false := by
  rw [beq_eq_false_iff_ne]; exact fun e => h (xtoList e)

theorem xl (t : ByteArray) (l : List UInt8) : (t.toList == l) = decide (t = ⟨l.toArray⟩) := by
  have e : (⟨l.toArray⟩ : ByteArray).toList = l := by simp [ByteArray.toList_eq]
  by_cases h : t = ⟨l.toArray⟩
  · rw [decide_eq_true h, h, e]; exact beq_self_eq_true _
  · rw [decide_eq_false h, beq_eq_false_iff_ne]
    exact fun h' => h (xtoList (h'.trans e.symm))
theorem xnl {t : ByteArray} {l : List UInt8} (h : ¬ t = ⟨l.toArray⟩) : (t.toList == l) = false := by rw [xl]; exact decide_eq_false h
end Go.Proofs.YtplaplhmjpfbjaaGreatDoor
namespace Go.Proofs.YtplaplhmjpfbjaaGreatDoor
open Go.RowKit
set_option linter.unusedVariables false
set_option linter.unusedSimpArgs false
set_option maxRecDepth 100000

theorem allB {P : UInt8 → Prop} (h : ∀ i : Fin 256, P (UInt8.ofFin i)) (c : UInt8) : P c := h c.toFin
theorem ret_b {a b : Bool} (h : a = b) : Ending.returned (.bool a) = .returned (.bool b) := by rw [h]
theorem ret_i {a b : Int} (h : a = b) : Ending.returned (.int .i64 a) = .returned (.int .i64 b) := by rw [h]

theorem isSpace_any (c : UInt8) (w : World) : Calls Tryz.prog 96 #[.int .u8 c.toNat] w fun e w' => e = .returned (.bool (isSp c)) ∧ w' = w := by
  have hc : isSp c = (((c.toNat : Int) == 32) || ((c.toNat : Int) == 9) || ((c.toNat : Int) == 10)) := by
    exact allB (P := fun c => isSp c = (((c.toNat : Int) == 32) || ((c.toNat : Int) == 9) || ((c.toNat : Int) == 10))) (by decide +kernel) c
  rw [hc]
  generalize (c.toNat : Int) = n
  cases h1 : (n == 32) <;> cases h2 : (n == 9) <;> cases h3 : (n == 10) <;>
  · go_enter Tryz.func96, Tryz.ntmps96
    go_wp2
    go_ret
    first | exact ⟨rfl, rfl⟩ | simp_all

theorem isDigit_any (c : UInt8) (w : World) : Calls Tryz.prog 63 #[.int .u8 c.toNat] w fun e w' => e = .returned (.bool (isDg c)) ∧ w' = w := by
  have hc : isDg c = (decide ((48 : Int) ≤ c.toNat) && decide ((c.toNat : Int) ≤ 57)) := by
    exact allB (P := fun c => isDg c = (decide ((48 : Int) ≤ c.toNat) && decide ((c.toNat : Int) ≤ 57))) (by decide +kernel) c
  rw [hc]
  generalize (c.toNat : Int) = n
  by_cases h1 : 48 ≤ n <;> by_cases h2 : n ≤ 57 <;>
  · go_enter Tryz.func63, Tryz.ntmps63
    go_wp2
    go_ret
    simp [h1, h2]
theorem isWordByte_any (c : UInt8) (w : World) : Calls Tryz.prog 77 #[.int .u8 c.toNat] w fun e w' => e = .returned (.bool (isWb c)) ∧ w' = w := by
  have hd := fun W => isDigit_any c W
  have hc : isWb c = ((decide ((97 : Int) ≤ c.toNat) && decide ((c.toNat : Int) ≤ 122)) || (decide ((65 : Int) ≤ c.toNat) && decide ((c.toNat : Int) ≤ 90)) || isDg c || ((c.toNat : Int) == 95)) := by
    exact allB (P := fun c => isWb c = ((decide ((97 : Int) ≤ c.toNat) && decide ((c.toNat : Int) ≤ 122)) || (decide ((65 : Int) ≤ c.toNat) && decide ((c.toNat : Int) ≤ 90)) || isDg c || ((c.toNat : Int) == 95))) (by decide +kernel) c
  rw [hc]
  generalize isDg c = D at *
  generalize (c.toNat : Int) = n at *
  by_cases h1 : 97 ≤ n <;> by_cases h2 : n ≤ 122 <;> by_cases h3 : 65 ≤ n <;> by_cases h4 : n ≤ 90 <;> first | (exfalso; omega) | skip
  all_goals
    go_enter Tryz.func77, Tryz.ntmps77
    go_wp2_with fail
    first
    | (go_ret; simp [h1, h2, h3, h4]; done)
    | (refine (hd _).mono ?_
       rintro e w1 ⟨rfl, h⟩
       have := h.symm; subst this
       cases D <;> cases h5 : (n == 95) <;> (go_wp2_with fail) <;> go_ret <;> simp [h1, h2, h3, h4, h5])
end Go.Proofs.YtplaplhmjpfbjaaGreatDoor
namespace Go.Proofs.YtplaplhmjpfbjaaGreatDoor
open Go.RowKit
set_option linter.unusedVariables false
set_option linter.unusedSimpArgs false
set_option maxRecDepth 100000

theorem wLen_on {l : List UInt8} {k : Nat} (hk : k < l.length) (h : isWb l[k] = true) (hs : wLen l = k + wLen (l.drop k)) : wLen l = (k + 1) + wLen (l.drop (k + 1)) := by
  rw [hs, List.drop_eq_getElem_cons hk]
  conv => lhs; rw [wLen, if_pos h]
  omega
theorem wLen_off {l : List UInt8} {k : Nat} (hk : k < l.length) (h : isWb l[k] = false) (hs : wLen l = k + wLen (l.drop k)) : wLen l = k := by
  rw [hs, List.drop_eq_getElem_cons hk]
  rw [wLen, if_neg (by rw [h]; decide)]
  omega

set_option maxHeartbeats 2000000 in
theorem wordLen_any (s : ByteArray) (w : World) (hs : s.size ≤ 140737488355328) :
    Calls Tryz.prog 64 #[.string s] w fun e w' => e = .returned (.int .i64 (wLen s.data.toList)) ∧ w' = w := by
  have hlen : s.data.toList.length = s.size := by simp
  have HI : Hid (∀ (c : UInt8) (w : World), Calls Tryz.prog 77 #[.int .u8 c.toNat] w fun e w' => e = .returned (.bool (isWb c)) ∧ w' = w) := isWordByte_any
  go_enter Tryz.func64, Tryz.ntmps64
  go_wp2
  go_loopw [3] (fun i w' => ∃ k : Nat, k ≤ s.size ∧ i = .int .i64 k ∧ wLen s.data.toList = k + wLen (s.data.toList.drop k) ∧ w' = w) (fun i _ => s.size - (intOf i).toNat)
  case atStart => exact ⟨0, Nat.zero_le _, rfl, by simp, rfl⟩
  case round =>
    obtain ⟨k, hk, rfl, hsum, rfl⟩ := hrel
    have HS : Hid (wLen s.data.toList = k + wLen (s.data.toList.drop k)) := hsum
    clear hsum
    by_cases hlt : k < s.size
    · have hki : (k : Int) < (s.size : Int) := by omega
      have hk2 : k < s.data.toList.length := by omega
      have he : s.data.toList[k] = s[k] := by simp [ByteArray.getElem_eq_getElem_data]
      cases hb : isWb s[k]
      · have HO : Hid (wLen s.data.toList = k) := wLen_off hk2 (by rw [he]; exact hb) HS.out
        go_wp2_with fail
        refine (HI.out _ _).mono ?_
        rintro e w1 ⟨rfl, h⟩
        have := h.symm; subst this
        rw [hb]
        go_wp2
        go_ret
        exact ⟨ret_i (by rw [HO.out]), rfl⟩
      · have HO : Hid (wLen s.data.toList = (k + 1) + wLen (s.data.toList.drop (k + 1))) := wLen_on hk2 (by rw [he]; exact hb) HS.out
        go_wp2_with fail
        refine (HI.out _ _).mono ?_
        rintro e w1 ⟨rfl, h⟩
        have := h.symm; subst this
        rw [hb]
        go_wp2
        exact ⟨⟨k + 1, by omega, by go_num, HO.out, trivial⟩, by simp [intOf]; omega⟩
    · obtain rfl : k = s.size := by omega
      have HO : Hid (wLen s.data.toList = s.size) := by
        have := HS.out
        rw [List.drop_eq_nil_of_le (by omega)] at this
        unfold Hid; simpa [wLen] using this
      go_wp2
      go_ret
      exact ⟨ret_i (by rw [HO.out]), rfl⟩

theorem liteIndexByte (s : ByteArray) (c : UInt8) (w : World) :
    Calls Tryz.prog 107 #[.string s, .int .u8 c.toNat] w fun e w' => e = .returned (.int .i64 (Lib.indexByte s.data.toList c)) ∧ w' = w := by
  go_enter Tryz.func107, Tryz.ntmps107
  go_wp2
  rw [run_callFunc_extern Tryz.func132 (by kernel_rfl) (by kernel_rfl) (by kernel_rfl) (e := Extern.BytealgIndexByte.indexByte) (by kernel_rfl), Lib.run_indexByteString]
  simp only [Result.andThen]
  rw [Oper.upon_value]
  have e : (c.toNat : Int).toNat.toUInt8 = c := by simp
  rw [e]
  go_wp2
  go_ret
  exact ⟨rfl, rfl⟩
theorem indexByte_any (s : ByteArray) (c : UInt8) (w : World) :
    Calls Tryz.prog 102 #[.string s, .int .u8 c.toNat] w fun e w' => e = .returned (.int .i64 (Lib.indexByte s.data.toList c)) ∧ w' = w := by
  have HI := liteIndexByte s c
  go_enter Tryz.func102, Tryz.ntmps102
  go_wp2_with fail
  refine (HI _).mono ?_
  rintro e w1 ⟨rfl, h⟩
  have := h.symm; subst this
  go_wp2
  go_ret
  exact ⟨rfl, rfl⟩
end Go.Proofs.YtplaplhmjpfbjaaGreatDoor
namespace Go.Proofs.YtplaplhmjpfbjaaGreatDoor
open Go.RowKit
set_option linter.unusedVariables false
set_option linter.unusedSimpArgs false
set_option maxRecDepth 100000

theorem slice_hi (s : ByteArray) (n : Nat) (h : n ≤ s.size) (w : World) :
    (Instr.slice 9 (.string s) none (some (.int .i64 n)) none).run Tryz.prog w = .ok (.string ⟨(s.data.toList.take n).toArray⟩) w := by
  have e : (Instr.slice 9 (.string s) none (some (.int .i64 n)) none).run Tryz.prog w = (Instr.slice 9 (.string s) (some (.int .i64 0)) (some (.int .i64 n)) none).run Tryz.prog w := rfl
  rw [e, run_slice_string w 9 s .i64 .i64 0 n Tryz.underlying9 (by omega) (by omega) (by omega)]
  rw [Int.toNat_natCast, show (0 : Int).toNat = 0 by rfl]
  congr 2
  apply ByteArray.ext
  apply Array.toList_inj.1
  rw [ByteArray.data_extract, Array.toList_extract]
  simp [List.extract]
theorem slice_lo (s : ByteArray) (n : Nat) (h : n ≤ s.size) (w : World) :
    (Instr.slice 9 (.string s) (some (.int .i64 n)) none none).run Tryz.prog w = .ok (.string ⟨(s.data.toList.drop n).toArray⟩) w := by
  rw [run_slice_string_l (P := Tryz.prog) w 9 s Tryz.underlying9 .i64 n (by omega) (by omega)]
  rw [Int.toNat_natCast]
  congr 2
  apply ByteArray.ext
  apply Array.toList_inj.1
  rw [ByteArray.data_extract, Array.toList_extract]
  simp [List.extract]
  rw [List.take_of_length_le]
  simp

theorem sign1 (c : UInt8) : decide (0 ≤ Lib.indexByte [61, 60, 62, 43, 45, 42, 47, 37, 40, 41, 44] c) = decide (some c ∈ [some (61 : UInt8), some 60, some 62, some 43, some 45, some 42, some 47, some 37, some 40, some 41, some 44]) :=
  allB (P := fun c => decide (0 ≤ Lib.indexByte [61, 60, 62, 43, 45, 42, 47, 37, 40, 41, 44] c) = decide (some c ∈ [some (61 : UInt8), some 60, some 62, some 43, some 45, some 42, some 47, some 37, some 40, some 41, some 44])) (by decide +kernel) c

/-- The end of 'signLen'. -/
theorem sLen_of {l : List UInt8} {c : UInt8} {r : List UInt8} (hl : l = c :: r) (h2 : ¬ l.take 2 ∈ [[60, 62], [60, 61], [62, 61], [43, 43]]) :
    sLen l = if decide (0 ≤ Lib.indexByte [61, 60, 62, 43, 45, 42, 47, 37, 40, 41, 44] c) = true then 1 else 0 := by
  unfold sLen
  rw [if_neg h2, sign1, hl]
  simp only [List.head?_cons, decide_eq_true_eq]
  congr

set_option maxHeartbeats 2000000 in
theorem signLen_any (s : ByteArray) (w : World) (h0 : 0 < s.size) (hs : s.size ≤ 140737488355328) :
    Calls Tryz.prog 103 #[.string s] w fun e w' => e = .returned (.int .i64 (sLen s.data.toList)) ∧ w' = w := by
  have hlen : s.data.toList.length = s.size := by simp
  have h0i : (0 : Int) < (s.size : Int) := by omega
  have HI : Hid (∀ (t : ByteArray) (c : UInt8) (w : World), Calls Tryz.prog 102 #[.string t, .int .u8 c.toNat] w fun e w' => e = .returned (.int .i64 (Lib.indexByte t.data.toList c)) ∧ w' = w) := indexByte_any
  have HL : Hid (s.data.toList = s[0] :: s.data.toList.drop 1) := by
    unfold Hid
    have e0 : s.data.toList[0]'(by omega) = s[0] := by simp [ByteArray.getElem_eq_getElem_data]
    rw [← e0]
    have := List.drop_eq_getElem_cons (l := s.data.toList) (i := 0) (by omega)
    simpa using this
  -- behind the two signs
  have END : Hid (¬ s.data.toList.take 2 ∈ [[60, 62], [60, 61], [62, 61], [43, 43]] → ∀ (N : Int), N = Lib.indexByte [61, 60, 62, 43, 45, 42, 47, 37, 40, 41, 44] s[0] → (0 ≤ N → Ending.returned (Value.int .i64 1) = .returned (.int .i64 (sLen s.data.toList))) ∧ (¬ 0 ≤ N → Ending.returned (Value.int .i64 0) = .returned (.int .i64 (sLen s.data.toList)))) := by
    intro h2 N hN
    rw [sLen_of HL.out h2, ← hN]
    exact ⟨fun h => by rw [if_pos (decide_eq_true h)]; rfl, fun h => by rw [if_neg (by rw [decide_eq_true_eq]; exact h)]; rfl⟩
  by_cases h1 : 1 < s.size
  · have h1i : (1 : Int) < (s.size : Int) := by omega
    have hsl : ∀ w : World, (Instr.slice 9 (.string s) none (some (.int .i64 2)) none).run Tryz.prog w = .ok (.string ⟨(s.data.toList.take 2).toArray⟩) w := fun w => slice_hi s 2 (by omega) w
    obtain ⟨T, hT⟩ : ∃ T : ByteArray, T = ⟨(s.data.toList.take 2).toArray⟩ := ⟨_, rfl⟩
    rw [← hT] at hsl
    have HT : Hid (T.data.toList = s.data.toList.take 2) := by rw [hT]; rfl
    have hT2 : ∀ a b : UInt8, T = ⟨#[a, b]⟩ → s.data.toList.take 2 = [a, b] := fun a b h => by rw [← HT.out, h]
    have hTn : ∀ a b : UInt8, ¬ T = ⟨#[a, b]⟩ → s.data.toList.take 2 ≠ [a, b] := fun a b h h' => h (ByteArray.ext (Array.toList_inj.1 (by rw [HT.out, h'])))
    clear hT
    have two : s.data.toList.take 2 ∈ [[60, 62], [60, 61], [62, 61], [43, 43]] → Ending.returned (Value.int .i64 2) = .returned (.int .i64 (sLen s.data.toList)) := fun h => by unfold sLen; rw [if_pos h]; rfl
    have HTWO : Hid (s.data.toList.take 2 ∈ [[60, 62], [60, 61], [62, 61], [43, 43]] → Ending.returned (Value.int .i64 2) = .returned (.int .i64 (sLen s.data.toList))) := two
    clear two hlen
    by_cases q1 : T = ⟨#[60, 62]⟩
    · have := hT2 _ _ q1
      subst q1
      go_enter Tryz.func103, Tryz.ntmps103
      go_wp2
      go_ret
      exact ⟨HTWO.out (by rw [this]; simp), rfl⟩
    by_cases q2 : T = ⟨#[60, 61]⟩
    · have := hT2 _ _ q2
      subst q2
      go_enter Tryz.func103, Tryz.ntmps103
      go_wp2
      go_ret
      exact ⟨HTWO.out (by rw [this]; simp), rfl⟩
    by_cases q3 : T = ⟨#[62, 61]⟩
    · have := hT2 _ _ q3
      subst q3
      go_enter Tryz.func103, Tryz.ntmps103
      go_wp2
      go_ret
      exact ⟨HTWO.out (by rw [this]; simp), rfl⟩
    by_cases q4 : T = ⟨#[43, 43]⟩
    · have := hT2 _ _ q4
      subst q4
      go_enter Tryz.func103, Tryz.ntmps103
      go_wp2
      go_ret
      exact ⟨HTWO.out (by rw [this]; simp), rfl⟩
    have n1 : (T.toList == [60, 62]) = false := xnl q1
    have n2 : (T.toList == [60, 61]) = false := xnl q2
    have n3 : (T.toList == [62, 61]) = false := xnl q3
    have n4 : (T.toList == [43, 43]) = false := xnl q4
    have E := END.out (by simp only [List.mem_cons, List.not_mem_nil, or_false]; exact fun h => h.elim (hTn _ _ q1) (fun h => h.elim (hTn _ _ q2) (fun h => h.elim (hTn _ _ q3) (hTn _ _ q4))))
    have HE : Hid (∀ (N : Int), N = Lib.indexByte [61, 60, 62, 43, 45, 42, 47, 37, 40, 41, 44] s[0] → (0 ≤ N → Ending.returned (Value.int .i64 1) = .returned (.int .i64 (sLen s.data.toList))) ∧ (¬ 0 ≤ N → Ending.returned (Value.int .i64 0) = .returned (.int .i64 (sLen s.data.toList)))) := E
    clear E hT2 hTn q1 q2 q3 q4
    go_enter Tryz.func103, Tryz.ntmps103
    go_wp2_with fail
    refine (HI.out _ _ _).mono ?_
    rintro e w1 ⟨rfl, h⟩
    have := h.symm; subst this
    obtain ⟨N, hN⟩ : ∃ N : Int, N = Lib.indexByte [61, 60, 62, 43, 45, 42, 47, 37, 40, 41, 44] s[0] := ⟨_, rfl⟩
    have := HE.out N hN
    rw [show (ByteArray.mk #[61, 60, 62, 43, 45, 42, 47, 37, 40, 41, 44]).data.toList = [61, 60, 62, 43, 45, 42, 47, 37, 40, 41, 44] from rfl, ← hN]
    clear HE hN
    by_cases hp : 0 ≤ N
    · go_wp2
      go_ret
      exact ⟨this.1 hp, rfl⟩
    · go_wp2
      go_ret
      exact ⟨this.2 (by omega), rfl⟩
  · have h1i : ¬ (1 : Int) < (s.size : Int) := by omega
    have E := END.out (fun h => by
      have : (s.data.toList.take 2).length = 2 := by
        simp only [List.mem_cons, List.not_mem_nil, or_false] at h
        rcases h with h | h | h | h <;> rw [h] <;> rfl
      rw [List.length_take] at this
      omega)
    have HE : Hid (∀ (N : Int), N = Lib.indexByte [61, 60, 62, 43, 45, 42, 47, 37, 40, 41, 44] s[0] → (0 ≤ N → Ending.returned (Value.int .i64 1) = .returned (.int .i64 (sLen s.data.toList))) ∧ (¬ 0 ≤ N → Ending.returned (Value.int .i64 0) = .returned (.int .i64 (sLen s.data.toList)))) := E
    clear E hlen
    go_enter Tryz.func103, Tryz.ntmps103
    go_wp2_with fail
    refine (HI.out _ _ _).mono ?_
    rintro e w1 ⟨rfl, h⟩
    have := h.symm; subst this
    obtain ⟨N, hN⟩ : ∃ N : Int, N = Lib.indexByte [61, 60, 62, 43, 45, 42, 47, 37, 40, 41, 44] s[0] := ⟨_, rfl⟩
    have := HE.out N hN
    rw [show (ByteArray.mk #[61, 60, 62, 43, 45, 42, 47, 37, 40, 41, 44]).data.toList = [61, 60, 62, 43, 45, 42, 47, 37, 40, 41, 44] from rfl, ← hN]
    clear HE hN
    by_cases hp : 0 ≤ N
    · go_wp2
      go_ret
      exact ⟨this.1 hp, rfl⟩
    · go_wp2
      go_ret
      exact ⟨this.2 (by omega), rfl⟩

theorem reserved_any (t : ByteArray) (w : World) : Calls Tryz.prog 43 #[.string t] w fun e w' => e = .returned (.bool (decide (res t))) ∧ w' = w := by
  go_enter Tryz.func43, Tryz.ntmps43
  go_wp2
  all_goals go_ret
  all_goals simp_all [xl, res, bAnd, bOr, bNot, bTrue, bFalse, bAs]
end Go.Proofs.YtplaplhmjpfbjaaGreatDoor
