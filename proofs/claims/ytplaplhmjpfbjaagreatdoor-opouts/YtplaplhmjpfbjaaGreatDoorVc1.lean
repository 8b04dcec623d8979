import Derived.Test.YtplaplhmjpfbjaaGreatDoorVb1
import Derived.Lib.ParseIntB
import Derived.Test.YtplaplhmjpfbjaaGreatDoorVa1
import Derived.Lib.ItoaLen
import Derived.Laws.BitsLemmas
import Derived.Maps.AppendAt
import Derived.Deep.OwnRows
import Derived.Laws.OwnMore
import Derived.OwnWalk
import Derived.Laws.BytesArg
import Derived.Laws.IdiomStrings
import Derived.Test.YtplaplhmjpfbjaaGreatDoorVBkA
import Derived.Test.YtplaplhmjpfbjaaGreatDoorShelfV
namespace Go.Proofs.YtplaplhmjpfbjaaGreatDoor.Vl
set_option linter.unusedVariables false

theorem dig_toNat (d : Nat) (h : d < 10) : (UInt8.ofNat (48 + d)).toNat = 48 + d := by
  rw [UInt8.toNat_ofNat']; omega

theorem parse_dec (M : Nat) (hM : M ≤ 18446744073709551615) (u : Nat) (r : List UInt8) (h : u ≤ M) : Lib.parseUintM M 0 (Lib.decDigits u ++ r) = Lib.parseUintM M u r := by
  induction u using Nat.strongRecOn generalizing r with
  | _ u ih =>
    by_cases hu : u < 10
    · rw [Lib.decDigits_one hu, List.singleton_append, Lib.parseUintM, dig_toNat u hu]
      rw [if_pos (by omega), if_neg (by omega), if_neg (by omega)]
      congr 1
      omega
    · rw [Lib.decDigits, dif_neg hu, List.append_assoc, ih (u / 10) (by omega) _ (by omega), List.singleton_append, Lib.parseUintM, dig_toNat (u % 10) (by omega)]
      rw [if_pos (by omega), if_neg (by omega), if_neg (by omega)]
      congr 1
      omega

theorem dec_head (u : Nat) : ∃ c r, Lib.decDigits u = c :: r ∧ 48 ≤ c.toNat ∧ c.toNat ≤ 57 := by
  induction u using Nat.strongRecOn with
  | _ u ih =>
    by_cases hu : u < 10
    · exact ⟨_, _, Lib.decDigits_one hu, by rw [dig_toNat u hu]; omega, by rw [dig_toNat u hu]; omega⟩
    · obtain ⟨c, r, e, h1, h2⟩ := ih (u / 10) (by omega)
      exact ⟨c, r ++ [UInt8.ofNat (48 + u % 10)], by rw [Lib.decDigits, dif_neg hu, e]; rfl, h1, h2⟩

theorem parseB_dec (u : Nat) (h : u ≤ 18446744073709551615) : Lib.parseUintB 64 (Lib.decDigits u) = .ok u := by
  obtain ⟨c, r, e, _, _⟩ := dec_head u
  unfold Lib.parseUintB
  rw [if_neg (by rw [e]; simp)]
  have := parse_dec 18446744073709551615 (by omega) u [] h
  rw [List.append_nil] at this
  rw [show (2 ^ 64 - 1 : Nat) = 18446744073709551615 from rfl, this]
  rfl

theorem parse_itoa (n : Int) (h0 : -9223372036854775808 ≤ n) (h1 : n ≤ 9223372036854775807) : Lib.parseIntB 64 (Lib.itoa n) = .ok n := by
  by_cases hn : n < 0
  · have e : Lib.itoa n = 45 :: Lib.decDigits n.natAbs := by unfold Lib.itoa; rw [if_pos hn]
    rw [e]
    unfold Lib.parseIntB
    have e2 := parseB_dec n.natAbs (by omega)
    have k1 : ¬ (¬ True ∧ 2 ^ (64 - 1) ≤ n.natAbs) := by simp
    have k2 : ¬ (True ∧ 2 ^ (64 - 1) < n.natAbs) := by simp; omega
    simp only [show (45 : UInt8).toNat = 45 from rfl, or_true, if_true, e2, k1, k2, if_false]
    congr 1
    omega
  · have e : Lib.itoa n = Lib.decDigits n.toNat := by unfold Lib.itoa; rw [if_neg hn]
    obtain ⟨c, r, e3, hc1, hc2⟩ := dec_head n.toNat
    have e2 := parseB_dec n.toNat (by omega)
    rw [e]
    rw [e3] at e2 ⊢
    unfold Lib.parseIntB
    have hc : ¬ c.toNat = 43 := by omega
    have hc' : ¬ c.toNat = 45 := by omega
    have k1 : ¬ (¬ False ∧ 2 ^ (64 - 1) ≤ n.toNat) := by simp; omega
    have k2 : ¬ (False ∧ 2 ^ (64 - 1) < n.toNat) := by simp
    simp only [hc, hc', or_self, if_false, e2, k1, k2]
    congr 1
    omega

theorem hexd_all : ∀ a, a < 16 → ∀ b, b < 16 → hexd a = hexd b → a = b := by decide
theorem hexd_inj {a b : Nat} (ha : a < 16) (hb : b < 16) (h : hexd a = hexd b) : a = b := hexd_all a ha b hb h
theorem bare_ne (c : UInt8) (h : bareB c = true) : c ≠ 92 := by
  rintro rfl; revert h; decide
theorem esc_all_inj : ∀ l m : List UInt8, escAll l = escAll m → l = m
  | [], [] => fun _ => rfl
  | [], c :: m => by
    intro h
    have : (escAll (c :: m)).length = 0 := by rw [← h]; rfl
    unfold escAll esc at this
    simp at this
    split at this <;> simp at this
  | c :: l, [] => by
    intro h
    have : (escAll (c :: l)).length = 0 := by rw [h]; rfl
    unfold escAll esc at this
    simp at this
    split at this <;> simp at this
  | c :: l, d :: m => by
    intro h
    have e1 : escAll (c :: l) = esc c ++ escAll l := by simp [escAll]
    have e2 : escAll (d :: m) = esc d ++ escAll m := by simp [escAll]
    rw [e1, e2] at h
    unfold esc at h
    cases hc : bareB c <;> cases hd : bareB d <;> simp only [hc, hd, if_true, if_false, Bool.false_eq_true] at h
    · simp at h
      have hi := hexd_inj (by have := UInt8.toNat_lt c; omega) (by have := UInt8.toNat_lt d; omega) h.1
      have lo := hexd_inj (by omega) (by omega) h.2.1
      have : c = d := UInt8.toNat_inj.1 (by omega)
      rw [this, esc_all_inj l m h.2.2]
    · simp at h
      exact absurd h.1.symm (bare_ne d hd)
    · simp at h
      exact absurd h.1 (bare_ne c hc)
    · simp at h
      rw [h.1, esc_all_inj l m h.2]
end Go.Proofs.YtplaplhmjpfbjaaGreatDoor.Vl
namespace Go.Proofs.YtplaplhmjpfbjaaGreatDoor.Vl
set_option linter.unusedVariables false

theorem toList_inj {s t : ByteArray} (h : s.toList = t.toList) : s = t := by
  rw [ByteArray.toList_eq, ByteArray.toList_eq] at h
  apply ByteArray.ext
  exact Array.toList_inj.1 h
theorem empty_of {s : ByteArray} (h : (s.toList == []) = true) : s = ⟨#[]⟩ := by
  apply toList_inj
  rw [empty_list]
  simpa using h

/-- A valid value, by its kind. -/
theorem valid_form {k n : Int} {s : ByteArray} (h : validB k n s = true) :
    (k = 0 ∧ n = 0 ∧ s = ⟨#[]⟩) ∨ (k = 1 ∧ s = ⟨#[]⟩) ∨ (k = 2 ∧ n = 1 ∧ s = ⟨#[]⟩) ∨ (k = 2 ∧ n = 0 ∧ s = ⟨#[]⟩) ∨ (k = 3 ∧ n = 0 ∧ s.size ≤ 60) := by
  unfold validB at h
  by_cases h0 : k = 0
  · rw [if_pos h0] at h
    simp only [Bool.and_eq_true, beq_iff_eq] at h
    exact .inl ⟨h0, h.1, empty_of (by simpa using h.2)⟩
  by_cases h1 : k = 1
  · rw [if_neg h0, if_pos h1] at h
    exact .inr (.inl ⟨h1, empty_of h⟩)
  rw [if_neg h0, if_neg h1] at h
  by_cases h2 : k = 2
  · rw [if_pos h2] at h
    simp only [Bool.and_eq_true, Bool.or_eq_true, beq_iff_eq] at h
    have hs := empty_of (s := s) (by simpa using h.1)
    rcases h.2 with e | e
    · exact .inr (.inr (.inr (.inl ⟨h2, e, hs⟩)))
    · exact .inr (.inr (.inl ⟨h2, e, hs⟩))
  rw [if_neg h2] at h
  by_cases h3 : k = 3
  · rw [if_pos h3] at h
    simp at h
    exact .inr (.inr (.inr (.inr ⟨h3, h.1, by omega⟩)))
  rw [if_neg h3] at h
  cases h

theorem show_valid {k n : Int} {s : ByteArray} (h : validB k n s = true) : showB k n s = (if k = 1 then ⟨(Lib.itoa n).toArray⟩ else if k = 2 then (if n = 1 then ⟨#[116, 114, 117, 101]⟩ else ⟨#[102, 97, 108, 115, 101]⟩) else if k = 3 then ⟨(39 :: escAll s.data.toList ++ [39]).toArray⟩ else ⟨#[110, 117, 108, 108]⟩) := by
  unfold showB; rw [if_pos h]

/-- The first letter tells the kind. -/
def tag (k n : Int) (c : UInt8) : Prop := (k = 0 → c.toNat = 110) ∧ (k = 1 → c.toNat = 45 ∨ (48 ≤ c.toNat ∧ c.toNat ≤ 57)) ∧ (k = 2 → (n = 1 → c.toNat = 116) ∧ (n = 0 → c.toNat = 102)) ∧ (k = 3 → c.toNat = 39)
theorem itoa_head' (n : Int) : ∃ c X, Lib.itoa n = c :: X ∧ (c.toNat = 45 ∨ (48 ≤ c.toNat ∧ c.toNat ≤ 57)) := by
  by_cases hn : n < 0
  · exact ⟨45, Lib.decDigits n.natAbs, by unfold Lib.itoa; rw [if_pos hn], .inl rfl⟩
  · obtain ⟨c, r, e, h1, h2⟩ := dec_head n.toNat
    exact ⟨c, r, by unfold Lib.itoa; rw [if_neg hn, e], .inr ⟨h1, h2⟩⟩
theorem show_head {k n : Int} {s : ByteArray} (h : validB k n s = true) : ∃ c X, (showB k n s).toList = c :: X ∧ tag k n c := by
  rw [show_valid h, ByteArray.toList_eq]
  rcases valid_form h with ⟨rfl, rfl, rfl⟩ | ⟨rfl, rfl⟩ | ⟨rfl, rfl, rfl⟩ | ⟨rfl, rfl, rfl⟩ | ⟨rfl, rfl, hs⟩
  · exact ⟨110, [117, 108, 108], rfl, by unfold tag; simp⟩
  · obtain ⟨c, X, e, hc⟩ := itoa_head' n
    exact ⟨c, X, by simp [e], by unfold tag; simp; exact hc⟩
  · exact ⟨116, [114, 117, 101], rfl, by unfold tag; simp⟩
  · exact ⟨102, [97, 108, 115, 101], rfl, by unfold tag; simp⟩
  · exact ⟨39, escAll s.data.toList ++ [39], by simp, by unfold tag; simp⟩

theorem eqB_iff (k1 n1 : Int) (s1 : ByteArray) (k2 n2 : Int) (s2 : ByteArray) : eqB k1 n1 s1 k2 n2 s2 = true ↔ k1 = k2 ∧ n1 = n2 ∧ s1 = s2 := by
  unfold eqB
  simp only [Bool.and_eq_true, beq_iff_eq]
  exact ⟨fun ⟨a, b, c⟩ => ⟨a, b, toList_inj c⟩, fun ⟨a, b, c⟩ => ⟨a, b, by rw [c]⟩⟩

theorem show_inj {k1 n1 : Int} {s1 : ByteArray} {k2 n2 : Int} {s2 : ByteArray} (h1 : validB k1 n1 s1 = true) (h2 : validB k2 n2 s2 = true)
    (a0 : -9223372036854775808 ≤ n1) (a1 : n1 ≤ 9223372036854775807) (b0 : -9223372036854775808 ≤ n2) (b1 : n2 ≤ 9223372036854775807) (h : showB k1 n1 s1 = showB k2 n2 s2) :
    k1 = k2 ∧ n1 = n2 ∧ s1 = s2 := by
  obtain ⟨c, X, e1, t1⟩ := show_head h1
  obtain ⟨d, Y, e2, t2⟩ := show_head h2
  rw [h, e2] at e1
  have hcd : d = c := (List.cons.inj e1).1
  subst hcd
  have v1 := show_valid h1
  have v2 := show_valid h2
  unfold tag at t1 t2
  rcases valid_form h1 with ⟨rfl, rfl, rfl⟩ | ⟨rfl, rfl⟩ | ⟨rfl, rfl, rfl⟩ | ⟨rfl, rfl, rfl⟩ | ⟨rfl, rfl, hs1⟩ <;>
  rcases valid_form h2 with ⟨rfl, rfl, rfl⟩ | ⟨rfl, rfl⟩ | ⟨rfl, rfl, rfl⟩ | ⟨rfl, rfl, rfl⟩ | ⟨rfl, rfl, hs2⟩ <;>
  first
    | exact ⟨rfl, rfl, rfl⟩
    | (exfalso; simp at t1 t2; omega)
    | skip
  · rw [h, v2] at v1
    simp at v1
    have p1 := parse_itoa n1 a0 a1
    have p2 := parse_itoa n2 b0 b1
    rw [← v1, p2] at p1
    exact ⟨rfl, (by injection p1 with e; exact e.symm), rfl⟩
  · rw [h, v2] at v1
    simp at v1
    have := esc_all_inj _ _ v1
    exact ⟨rfl, rfl, (by apply ByteArray.ext; exact (Array.toList_inj.1 this).symm)⟩

theorem show_beq {k1 n1 : Int} {s1 : ByteArray} {k2 n2 : Int} {s2 : ByteArray} (h1 : validB k1 n1 s1 = true) (h2 : validB k2 n2 s2 = true)
    (a0 : -9223372036854775808 ≤ n1) (a1 : n1 ≤ 9223372036854775807) (b0 : -9223372036854775808 ≤ n2) (b1 : n2 ≤ 9223372036854775807) :
    ((showB k1 n1 s1).toList == (showB k2 n2 s2).toList) = eqB k1 n1 s1 k2 n2 s2 := by
  rw [Bool.eq_iff_iff, eqB_iff, beq_iff_eq]
  constructor
  · intro h
    exact show_inj h1 h2 a0 a1 b0 b1 (toList_inj h)
  · rintro ⟨rfl, rfl, rfl⟩
    rfl
theorem show_empty {k n : Int} {s : ByteArray} (h : validB k n s = true) : (showB k n s).toList.isEmpty = false := by
  obtain ⟨c, X, e, _⟩ := show_head h
  rw [e]; rfl
theorem show_none {k n : Int} {s : ByteArray} (h : validB k n s = false) : showB k n s = ⟨#[]⟩ := by
  unfold showB; rw [if_neg (by simp [h])]
theorem show_seven : showB 1 (-7) ⟨#[]⟩ = ⟨#[45, 55]⟩ := by
  have hv : validB 1 (-7) ⟨#[]⟩ = true := by unfold validB; simp
  rw [show_valid hv]
  show (⟨(Lib.itoa (-7)).toArray⟩ : ByteArray) = _
  have : Lib.itoa (-7) = [45, 55] := by
    unfold Lib.itoa
    rw [if_pos (by decide)]
    rw [show (-7 : Int).natAbs = 7 from rfl, Lib.decDigits_one (by decide)]
    rfl
  rw [this]
end Go.Proofs.YtplaplhmjpfbjaaGreatDoor.Vl
namespace Go.Proofs.YtplaplhmjpfbjaaGreatDoor.Vl
open Go.RowKit
set_option linter.unusedVariables false
set_option maxRecDepth 100000

def isD (c : UInt8) : Bool := decide (48 ≤ c.toNat) && decide (c.toNat ≤ 57)
def wstep (n : Int) (c : UInt8) : Int := if isD c then wrap64 (wrap64 (n * 10) + ((c.toNat : Int) - 48)) else n
def wacc (l : List UInt8) : Int := l.foldl wstep 0
def wholeF (l : List UInt8) : Int := if l.head? = some 45 then wrap64 (-wacc l) else wacc l
theorem wrap64_in (x : Int) : -9223372036854775808 ≤ wrap64 x ∧ wrap64 x ≤ 9223372036854775807 := by unfold wrap64; omega
theorem wacc_in (l : List UInt8) : -9223372036854775808 ≤ wacc l ∧ wacc l ≤ 9223372036854775807 := by
  unfold wacc
  have : ∀ (l : List UInt8) (n : Int), (-9223372036854775808 ≤ n ∧ n ≤ 9223372036854775807) → (-9223372036854775808 ≤ l.foldl wstep n ∧ l.foldl wstep n ≤ 9223372036854775807) := by
    intro l
    induction l with
    | nil => intro n h; exact h
    | cons c l ih =>
      intro n h
      rw [List.foldl_cons]
      refine ih _ ?_
      unfold wstep
      split
      · exact wrap64_in _
      · exact h
  exact this l 0 (by omega)
theorem wacc_take (l : List UInt8) (k : Nat) (hk : k < l.length) : wacc (l.take (k + 1)) = wstep (wacc (l.take k)) l[k] := by
  unfold wacc; rw [List.take_succ_eq_append_getElem hk, List.foldl_append]; rfl

set_option maxHeartbeats 2000000 in
theorem whole_any (s : ByteArray) (w : World) (hs : s.size ≤ 140737488355328) :
    Calls Tryz.prog 85 #[.string s] w fun e w' => e = .returned (.int .i64 (wholeF s.data.toList)) ∧ w' = w := by
  have hlen : s.data.toList.length = s.size := by simp
  go_enter Tryz.func85, Tryz.ntmps85
  go_wp2
  go_loopw [3, 4] (fun n i w' => ∃ k : Nat, k ≤ s.size ∧ i = .int .i64 k ∧ n = .int .i64 (wacc (s.data.toList.take k)) ∧ w' = w) (fun _ i _ => s.size - (intOf i).toNat)
  case atStart => exact ⟨0, Nat.zero_le _, rfl, rfl, rfl⟩
  case round =>
    obtain ⟨k, hk, rfl, rfl, rfl⟩ := hrel
    by_cases hlt : k < s.size
    · have hki : (k : Int) < (s.size : Int) := by omega
      have hk2 : k < s.data.toList.length := by omega
      have HT : Hid (wacc (s.data.toList.take (k + 1)) = wstep (wacc (s.data.toList.take k)) s.data.toList[k]) := wacc_take _ k hk2
      have he : s.data.toList[k] = s[k] := by simp [ByteArray.getElem_eq_getElem_data]
      have hin := wacc_in (s.data.toList.take k)
      have hc2 := UInt8.toNat_lt s[k]
      generalize wacc (s.data.toList.take k) = N at *
      rw [he] at HT
      by_cases h48 : 48 ≤ s[k].toNat
      · by_cases h57 : s[k].toNat ≤ 57
        · have a1 : (48 : Int) ≤ (s[k].toNat : Int) := by omega
          have a2 : (s[k].toNat : Int) ≤ 57 := by omega
          have HD : Hid (wstep N s[k] = wrap64 (wrap64 (N * 10) + ((s[k].toNat : Int) - 48))) := by unfold Hid wstep isD; rw [decide_eq_true h48, decide_eq_true h57]; rfl
          go_wp2
          refine ⟨⟨k + 1, by omega, by go_num, by rw [HT.out, HD.out], trivial⟩, by simp [intOf]; omega⟩
        · have a1 : (48 : Int) ≤ (s[k].toNat : Int) := by omega
          have a2 : ¬ (s[k].toNat : Int) ≤ 57 := by omega
          have HD : Hid (wstep N s[k] = N) := by unfold Hid wstep isD; rw [decide_eq_false h57, Bool.and_false]; rfl
          go_wp2
          refine ⟨⟨k + 1, by omega, by go_num, by rw [HT.out, HD.out], trivial⟩, by simp [intOf]; omega⟩
      · have a1 : ¬ (48 : Int) ≤ (s[k].toNat : Int) := by omega
        have HD : Hid (wstep N s[k] = N) := by unfold Hid wstep isD; rw [decide_eq_false h48, Bool.false_and]; rfl
        go_wp2
        refine ⟨⟨k + 1, by omega, by go_num, by rw [HT.out, HD.out], trivial⟩, by simp [intOf]; omega⟩
    · obtain rfl : k = s.size := by omega
      have htk : s.data.toList.take s.size = s.data.toList := List.take_of_length_le (by omega)
      rw [htk]
      have HW : Hid (wholeF s.data.toList = if s.data.toList.head? = some 45 then wrap64 (-wacc s.data.toList) else wacc s.data.toList) := rfl
      have hin := wacc_in s.data.toList
      by_cases h0 : 0 < s.size
      · have h0i : (0 : Int) < (s.size : Int) := by omega
        have hh : s.data.toList.head? = some s[0] := by
          rw [List.head?_eq_getElem?, List.getElem?_eq_getElem (by omega)]; simp [ByteArray.getElem_eq_getElem_data]
        rw [hh] at HW
        generalize wacc s.data.toList = N at *
        cases h45 : ((s[0].toNat : Int) == 45)
        · have hne : ¬ some s[0] = some (45 : UInt8) := fun h => by
            have := Option.some.inj h
            rw [this] at h45
            simp at h45
          rw [if_neg hne] at HW
          go_wp2
          go_ret
          exact ⟨ret_int HW.out.symm, rfl⟩
        · have heq : some s[0] = some (45 : UInt8) := by
            have h : (s[0].toNat : Int) = 45 := by simpa using h45
            congr 1
            apply UInt8.toNat_inj.1
            show s[0].toNat = 45
            omega
          rw [if_pos heq] at HW
          go_wp2
          go_ret
          exact ⟨ret_int HW.out.symm, rfl⟩
      · have h0i : ¬ (0 : Int) < (s.size : Int) := by omega
        have hh : s.data.toList.head? = none := by
          have : s.data.toList = [] := List.eq_nil_of_length_eq_zero (by omega)
          rw [this]; rfl
        rw [hh, if_neg (by simp)] at HW
        go_wp2
        go_ret
        exact ⟨ret_int HW.out.symm, rfl⟩
end Go.Proofs.YtplaplhmjpfbjaaGreatDoor.Vl
namespace Go.Proofs.YtplaplhmjpfbjaaGreatDoor.Vl
open Go.RowKit
set_option linter.unusedVariables false
set_option maxRecDepth 100000

def hexv (c : UInt8) : Int := if isD c then (c.toNat : Int) - 48 else if decide (97 ≤ c.toNat) && decide (c.toNat ≤ 102) then (c.toNat : Int) - 97 + 10 else -1
theorem hexv_lt (c : UInt8) : hexv c < 16 ∧ -1 ≤ hexv c := by
  unfold hexv isD
  split
  · rename_i h; simp at h; omega
  · split
    · rename_i h; simp at h; omega
    · omega
set_option maxHeartbeats 1000000 in
theorem hex_any (c : UInt8) (w : World) : Calls Tryz.prog 92 #[.int .u8 (c.toNat : Int)] w fun e w' => e = .returned (.int .i64 (hexv c)) ∧ w' = w := by
  have hc2 := UInt8.toNat_lt c
  have HH : Hid (hexv c = if isD c then (c.toNat : Int) - 48 else if decide (97 ≤ c.toNat) && decide (c.toNat ≤ 102) then (c.toNat : Int) - 97 + 10 else -1) := rfl
  have HI : Hid (isD c = (decide (48 ≤ c.toNat) && decide (c.toNat ≤ 57))) := rfl
  generalize c.toNat = X at *
  by_cases h1 : 48 ≤ X ∧ X ≤ 57
  · have a1 : (48 : Int) ≤ (X : Int) := by omega
    have a2 : (X : Int) ≤ 57 := by omega
    have H : Hid (hexv c = (X : Int) - 48) := by rw [Hid, HH.out, HI.out, decide_eq_true h1.1, decide_eq_true h1.2]; rfl
    go_enter Tryz.func92, Tryz.ntmps92
    go_wp2
    go_ret
    exact ⟨ret_int H.out.symm, rfl⟩
  · have hi : isD c = false := by
      rw [HI.out]
      by_cases h : 48 ≤ X
      · rw [decide_eq_false (show ¬ X ≤ 57 by omega), Bool.and_false]
      · rw [decide_eq_false h, Bool.false_and]
    by_cases h2 : 97 ≤ X ∧ X ≤ 102
    · have a1 : (48 : Int) ≤ (X : Int) := by omega
      have a2 : ¬ (X : Int) ≤ 57 := by omega
      have a3 : (97 : Int) ≤ (X : Int) := by omega
      have a4 : (X : Int) ≤ 102 := by omega
      have H : Hid (hexv c = (X : Int) - 97 + 10) := by rw [Hid, HH.out, hi, decide_eq_true h2.1, decide_eq_true h2.2]; rfl
      go_enter Tryz.func92, Tryz.ntmps92
      go_wp2
      go_ret
      exact ⟨ret_int H.out.symm, rfl⟩
    · have H : Hid (hexv c = -1) := by
        rw [Hid, HH.out, hi]
        by_cases h : 97 ≤ X
        · rw [decide_eq_false (show ¬ X ≤ 102 by omega), Bool.and_false]; rfl
        · rw [decide_eq_false h, Bool.false_and]; rfl
      by_cases b1 : 48 ≤ X
      · have a1 : (48 : Int) ≤ (X : Int) := by omega
        have a2 : ¬ (X : Int) ≤ 57 := by omega
        by_cases b3 : 97 ≤ X
        · have a3 : (97 : Int) ≤ (X : Int) := by omega
          have a4 : ¬ (X : Int) ≤ 102 := by omega
          go_enter Tryz.func92, Tryz.ntmps92
          go_wp2
          go_ret
          exact ⟨ret_int H.out.symm, rfl⟩
        · have a3 : ¬ (97 : Int) ≤ (X : Int) := by omega
          go_enter Tryz.func92, Tryz.ntmps92
          go_wp2
          go_ret
          exact ⟨ret_int H.out.symm, rfl⟩
      · have a1 : ¬ (48 : Int) ≤ (X : Int) := by omega
        have a3 : ¬ (97 : Int) ≤ (X : Int) := by omega
        go_enter Tryz.func92, Tryz.ntmps92
        go_wp2
        go_ret
        exact ⟨ret_int H.out.symm, rfl⟩

/-- A text whose signs are turned back. -/
def unq : List UInt8 → List UInt8
  | [] => []
  | [c] => [c]
  | [c, d] => [c, d]
  | c :: x :: y :: r => if c = 92 ∧ 0 ≤ hexv x ∧ 0 ≤ hexv y then UInt8.ofNat (16 * hexv x + hexv y).toNat :: unq r else c :: unq (x :: y :: r)
theorem unq_len : ∀ l, (unq l).length ≤ l.length
  | [] => by simp [unq]
  | [c] => by simp [unq]
  | [c, d] => by simp [unq]
  | c :: x :: y :: r => by
    rw [unq]
    have h1 := unq_len r
    have h2 := unq_len (x :: y :: r)
    split
    · simp; omega
    · simp at h2 ⊢; omega
theorem unq_plain {c : UInt8} {r : List UInt8} (h : ∀ x y t, r = x :: y :: t → ¬ (c = 92 ∧ 0 ≤ hexv x ∧ 0 ≤ hexv y)) : unq (c :: r) = c :: unq r := by
  match r, h with
  | [], _ => rfl
  | [d], _ => rfl
  | x :: y :: t, h => rw [unq, if_neg (h x y t rfl)]
theorem unq_turn {x y : UInt8} {t : List UInt8} (hx : 0 ≤ hexv x) (hy : 0 ≤ hexv y) : unq (92 :: x :: y :: t) = UInt8.ofNat (16 * hexv x + hexv y).toNat :: unq t := by
  rw [unq, if_pos ⟨rfl, hx, hy⟩]

def ub (c : UInt8) : Value := .int .u8 (c.toNat : Int)
theorem infoB : (Tryz.prog.info? 5).map (fun i => (i.zero, i.size, i.bytes)) = some (some (.int .u8 0), 1, 1) := by kernel_rfl
def OB (w : World) (B : Nat) (v : Value) (l : List UInt8) : Prop := w.ownsRow B 5 1 v l.length (l.map ub)
theorem OB.alloc {w : World} {B : Nat} {v : Value} {l : List UInt8} (h : OB w B v l) (o : Obj) : OB (w.alloc o) B v l := World.ownsRow.alloc h o
theorem OB.conv {w : World} {B : Nat} {v : Value} {l : List UInt8} (h : OB w B v l) : ∃ a c, v = .slice a l.length c ∧ (convert 170 9 v).run Tryz.prog w = .ok (.string ⟨l.toArray⟩) w := by
  rcases h.2 with ⟨h1, h2⟩ | ⟨g, c, cur, h1, h2, h3, h4, h5, h6, h7⟩
  · have hl : l = [] := List.eq_nil_of_length_eq_zero h2
    subst hl h1
    exact ⟨none, 0, rfl, run_convert_bytes_nil (P := Tryz.prog) w 170 5 Tryz.underlying170 Tryz.underlying5 0 0 9 Tryz.underlying9⟩
  · subst h1
    refine ⟨_, c, rfl, ?_⟩
    have := run_convert_bytes_back (P := Tryz.prog) w 170 9 5 ⟨g, 0, none⟩ c l Tryz.underlying170 Tryz.underlying5 Tryz.underlying9 (by
      intro j hj
      rw [WideShapes.add_plain, Nat.zero_add, World.ownsRow.cellAt h j (by omega)]
      simp [ub, hj])
    exact this

set_option maxHeartbeats 4000000 in
theorem unquoted_any (s : ByteArray) (w : World) (hs : s.size ≤ 140737488355327) :
    Calls Tryz.prog 86 #[.string s] w fun e w' => e = .returned (.string ⟨(unq s.data.toList).toArray⟩) ∧ Below w.heap.size w w' := by
  obtain ⟨i0, hi0, hz0, hz1, hz2⟩ := info_parts infoB
  have hlen : s.data.toList.length = s.size := by simp
  have HG : Hid (∀ k (h : k < s.size), s.data.toList[k]'(by omega) = s[k]) := fun k h => by simp [ByteArray.getElem_eq_getElem_data]
  obtain ⟨L, hL⟩ : ∃ L, L = s.data.toList := ⟨_, rfl⟩
  rw [← hL] at hlen ⊢
  have HG2 : Hid (∀ k (h : k < s.size), L.drop k = s[k] :: L.drop (k + 1)) := fun k h => by
    subst hL
    rw [List.drop_eq_getElem_cons (by omega), HG.out k h]
  clear HG hL
  go_enter Tryz.func86, Tryz.ntmps86
  go_wp2
  go_loopw [3, 4] (fun b i w' => ∃ (k : Nat) (d : List UInt8), k ≤ s.size ∧ i = .int .i64 k ∧ OB w' w.heap.size b d ∧ d ++ unq (L.drop k) = unq L ∧ d.length ≤ k ∧ Below w.heap.size w w') (fun _ i _ => s.size - (intOf i).toNat)
  case atStart => exact ⟨0, [], Nat.zero_le _, rfl, World.ownsRow_nil _ _ _ _, rfl, Nat.zero_le _, Below.refl _ _⟩
  case round =>
    obtain ⟨k, d, hk, rfl, ho, hd, hdk, hb⟩ := hrel
    have HO : Hid (OB wr w.heap.size u3 d) := ho
    have HD : Hid (d ++ unq (L.drop k) = unq L) := hd
    have HB : Hid (Below w.heap.size w wr) := hb
    have hsz := hb.size
    clear ho hd hb
    by_cases hlt : k < s.size
    · have hki : (k : Int) < (s.size : Int) := by omega
      have hc2 := UInt8.toNat_lt s[k]
      have HC := HG2.out k hlt
      have HC' : Hid (L.drop k = s[k] :: L.drop (k + 1)) := HC
      clear HC
      by_cases hA : s[k].toNat = 92 ∧ k + 2 < s.size
      · obtain ⟨h92, hk2⟩ := hA
        have hk92 : s[k] = 92 := by apply UInt8.toNat_inj.1; exact h92
        have hb92 : ((s[k].toNat : Int) == 92) = true := by rw [beq_iff_eq]; omega
        have h2i : (k : Int) + 2 < (s.size : Int) := by omega
        have HC1 : Hid (L.drop (k + 1) = s[k + 1] :: L.drop (k + 2)) := HG2.out (k + 1) (by omega)
        have HC2 : Hid (L.drop (k + 2) = s[k + 2] :: L.drop (k + 3)) := HG2.out (k + 2) (by omega)
        have hx1 := hexv_lt s[k + 1]
        have hx2 := hexv_lt s[k + 2]
        have HX : Hid (∀ W, Calls Tryz.prog 92 #[.int .u8 (s[k + 1].toNat : Int)] W fun e w' => e = .returned (.int .i64 (hexv s[k + 1])) ∧ w' = W) := hex_any _
        have HY : Hid (∀ W, Calls Tryz.prog 92 #[.int .u8 (s[k + 2].toNat : Int)] W fun e w' => e = .returned (.int .i64 (hexv s[k + 2])) ∧ w' = W) := hex_any _
        have HUT : Hid (0 ≤ hexv s[k + 1] → 0 ≤ hexv s[k + 2] → unq (L.drop k) = UInt8.ofNat (16 * hexv s[k + 1] + hexv s[k + 2]).toNat :: unq (L.drop (k + 3))) := fun h1 h2 => by
          rw [HC'.out, HC1.out, HC2.out, hk92, unq_turn h1 h2]
        have HUP : Hid (¬ (0 ≤ hexv s[k + 1] ∧ 0 ≤ hexv s[k + 2]) → unq (L.drop k) = 92 :: unq (L.drop (k + 1))) := fun h => by
          rw [HC'.out, hk92]
          refine unq_plain (fun x y t he hh => h ?_)
          rw [HC1.out, HC2.out] at he
          injection he with e1 e2
          injection e2 with e3 e4
          subst e1 e3
          exact hh.2
        clear HC' HC1 HC2 hk92
        generalize hexv s[k + 1] = p at *
        generalize hexv s[k + 2] = q at *
        go_wp2_with fail
        refine (HX.out _).mono ?_
        rintro e w1 ⟨rfl, rfl⟩
        go_wp2_with fail
        refine (HY.out _).mono ?_
        rintro e w2 ⟨rfl, rfl⟩
        generalize w2 = wr at *
        clear HX HY
        by_cases hp : 0 ≤ p
        · by_cases hqq : 0 ≤ q
          · obtain ⟨c0, hc0⟩ : ∃ c0, c0 = UInt8.ofNat (16 * p + q).toNat := ⟨_, rfl⟩
            have hc0n : (c0.toNat : Int) = 16 * p + q := by rw [hc0, UInt8.toNat_ofNat']; omega
            have HW : Hid (∀ v' w5, OB w5 w.heap.size v' (d ++ [c0]) → Below w.heap.size w w5 → ∃ (k' : Nat) (d : List UInt8), k' ≤ s.size ∧ Value.int .i64 ((k : Int) + 3) = .int .i64 k' ∧ OB w5 w.heap.size v' d ∧ d ++ unq (L.drop k') = unq L ∧ d.length ≤ k' ∧ Below w.heap.size w w5) := fun v' w5 h1 h2 =>
              ⟨k + 3, d ++ [c0], by omega, by go_num, h1, by rw [← HD.out, HUT.out hp hqq, ← hc0]; simp, by simp; omega, h2⟩
            have HC0 : Hid ((c0.toNat : Int) = 16 * p + q) := hc0n
            have hwu : IntKind.u8.wrap (16 * p + q) = 16 * p + q := by rw [IntKind.wrap_u8']; omega
            clear HUT HUP hc0 hc0n
            go_wp2_with (first
              | (at_builtin; refine wpList_append_own_at _ rfl _ _ 170 rfl w.heap.size 5 i0 (.int .u8 0) 1 1 Tryz.underlying170 hi0 hz0 hz1 hz2 rfl (by decide) _ d.length (d.map ub) rfl (World.ownsRow.alloc HO.out _) ⟨wr.heap.size, 0, none⟩ 1 1 [ub c0] rfl rfl ?c1 ?c2 ?c3 ?c4 ?c5 ?_))
            case c1 =>
              intro j u hj
              match j, hj with
              | 0, hj => simp at hj; subst hj; simp [Addr.add, ub, HC0.out]
            case c2 => first | rfl | (intro u hu; simp at hu; subst hu; rfl)
            case c3 => unfold maxLen; omega
            case c4 => omega
            case c5 => first | omega | (simp; omega)
            · intro v' w5 hown' hgrow _ hat
              have hb5 : Below w.heap.size w w5 := (HB.out.alloc hsz _).grown hgrow (by simp; omega) (fun j hj => (World.ownsRow.lt HO.out j hj).1)
              have hO5 : OB w5 w.heap.size v' (d ++ [c0]) := by unfold OB; rw [List.length_append, List.map_append]; exact hown'
              have HR := HW.out v' w5 hO5 hb5
              have HR' : Hid (∃ (k' : Nat) (d : List UInt8), k' ≤ s.size ∧ Value.int .i64 ((k : Int) + 3) = .int .i64 k' ∧ OB w5 w.heap.size v' d ∧ d ++ unq (L.drop k') = unq L ∧ d.length ≤ k' ∧ Below w.heap.size w w5) := HR
              clear hown' hgrow hat hb5 hO5 HR HW HO
              go_wp2
              go_roundw
              case rel => (first | exact HR'.out | (have h := HR'.out; rw [show (k : Int) + 3 = (k : Int) + 2 + 1 by omega] at h; exact h))
              case measure => simp [intOf]; omega
          · have HW : Hid (∀ v' w5, OB w5 w.heap.size v' (d ++ [92]) → Below w.heap.size w w5 → ∃ (k' : Nat) (d : List UInt8), k' ≤ s.size ∧ Value.int .i64 ((k : Int) + 1) = .int .i64 k' ∧ OB w5 w.heap.size v' d ∧ d ++ unq (L.drop k') = unq L ∧ d.length ≤ k' ∧ Below w.heap.size w w5) := fun v' w5 h1 h2 =>
              ⟨k + 1, d ++ [92], by omega, by go_num, h1, by rw [← HD.out, HUP.out (fun h => hqq h.2)]; simp, by simp; omega, h2⟩
            clear HUT HUP
            go_wp2_with (first
              | (at_builtin; refine wpList_append_own_at _ rfl _ _ 170 rfl w.heap.size 5 i0 (.int .u8 0) 1 1 Tryz.underlying170 hi0 hz0 hz1 hz2 rfl (by decide) _ d.length (d.map ub) rfl (World.ownsRow.alloc HO.out _) ⟨wr.heap.size, 0, none⟩ 1 1 [ub 92] rfl rfl ?c1 ?c2 ?c3 ?c4 ?c5 ?_))
            case c1 =>
              intro j u hj
              match j, hj with
              | 0, hj => simp at hj; subst hj; simp [Addr.add, ub]
            case c2 => first | rfl | (intro u hu; simp at hu; subst hu; rfl)
            case c3 => unfold maxLen; omega
            case c4 => omega
            case c5 => first | omega | (simp; omega)
            · intro v' w5 hown' hgrow _ hat
              have hb5 : Below w.heap.size w w5 := (HB.out.alloc hsz _).grown hgrow (by simp; omega) (fun j hj => (World.ownsRow.lt HO.out j hj).1)
              have hO5 : OB w5 w.heap.size v' (d ++ [92]) := by unfold OB; rw [List.length_append, List.map_append]; exact hown'
              have HR := HW.out v' w5 hO5 hb5
              have HR' : Hid (∃ (k' : Nat) (d : List UInt8), k' ≤ s.size ∧ Value.int .i64 ((k : Int) + 1) = .int .i64 k' ∧ OB w5 w.heap.size v' d ∧ d ++ unq (L.drop k') = unq L ∧ d.length ≤ k' ∧ Below w.heap.size w w5) := HR
              clear hown' hgrow hat hb5 hO5 HR HW HO
              go_wp2
              go_roundw
              case rel => exact HR'.out
              case measure => simp [intOf]; omega
        · have HW : Hid (∀ v' w5, OB w5 w.heap.size v' (d ++ [92]) → Below w.heap.size w w5 → ∃ (k' : Nat) (d : List UInt8), k' ≤ s.size ∧ Value.int .i64 ((k : Int) + 1) = .int .i64 k' ∧ OB w5 w.heap.size v' d ∧ d ++ unq (L.drop k') = unq L ∧ d.length ≤ k' ∧ Below w.heap.size w w5) := fun v' w5 h1 h2 =>
            ⟨k + 1, d ++ [92], by omega, by go_num, h1, by rw [← HD.out, HUP.out (fun h => hp h.1)]; simp, by simp; omega, h2⟩
          clear HUT HUP
          go_wp2_with (first
            | (at_builtin; refine wpList_append_own_at _ rfl _ _ 170 rfl w.heap.size 5 i0 (.int .u8 0) 1 1 Tryz.underlying170 hi0 hz0 hz1 hz2 rfl (by decide) _ d.length (d.map ub) rfl (World.ownsRow.alloc HO.out _) ⟨wr.heap.size, 0, none⟩ 1 1 [ub 92] rfl rfl ?c1 ?c2 ?c3 ?c4 ?c5 ?_))
          case c1 =>
            intro j u hj
            match j, hj with
            | 0, hj => simp at hj; subst hj; simp [ub]
          case c2 => first | rfl | (intro u hu; simp at hu; subst hu; rfl)
          case c3 => unfold maxLen; omega
          case c4 => omega
          case c5 => first | omega | (simp; omega)
          · intro v' w5 hown' hgrow _ hat
            have hb5 : Below w.heap.size w w5 := (HB.out.alloc hsz _).grown hgrow (by simp; omega) (fun j hj => (World.ownsRow.lt HO.out j hj).1)
            have hO5 : OB w5 w.heap.size v' (d ++ [92]) := by unfold OB; rw [List.length_append, List.map_append]; exact hown'
            have HR := HW.out v' w5 hO5 hb5
            have HR' : Hid (∃ (k' : Nat) (d : List UInt8), k' ≤ s.size ∧ Value.int .i64 ((k : Int) + 1) = .int .i64 k' ∧ OB w5 w.heap.size v' d ∧ d ++ unq (L.drop k') = unq L ∧ d.length ≤ k' ∧ Below w.heap.size w w5) := HR
            clear hown' hgrow hat hb5 hO5 HR HW HO
            go_wp2
            go_roundw
            case rel => exact HR'.out
            case measure => simp [intOf]; omega
      · have HP : Hid (unq (L.drop k) = s[k] :: unq (L.drop (k + 1))) := by
          rw [Hid, HC'.out]
          refine unq_plain (fun x y t h hh => hA ⟨by rw [hh.1]; rfl, ?_⟩)
          have := congrArg List.length h
          rw [List.length_drop] at this
          simp at this
          omega
        have HW : Hid (∀ v' w5, OB w5 w.heap.size v' (d ++ [s[k]]) → Below w.heap.size w w5 → ∃ (k' : Nat) (d : List UInt8), k' ≤ s.size ∧ Value.int .i64 ((k : Int) + 1) = .int .i64 k' ∧ OB w5 w.heap.size v' d ∧ d ++ unq (L.drop k') = unq L ∧ d.length ≤ k' ∧ Below w.heap.size w w5) := fun v' w5 h1 h2 =>
          ⟨k + 1, d ++ [s[k]], by omega, by go_num, h1, by rw [← HD.out, HP.out]; simp, by simp; omega, h2⟩
        clear HD HP HC'
        obtain ⟨X, hX⟩ : ∃ X : Nat, X = s[k].toNat := ⟨_, rfl⟩
        have hor : (¬ X = 92) ∨ (X = 92 ∧ ¬ k + 2 < s.size) := by
          by_cases h : X = 92
          · exact .inr ⟨h, fun h2 => hA ⟨by omega, h2⟩⟩
          · exact .inl h
        rcases hor with h | ⟨h, h2⟩
        · have hb92 : ((s[k].toNat : Int) == 92) = false := by rw [beq_eq_false_iff_ne]; omega
          go_wp2_with (first
            | (at_builtin; refine wpList_append_own_at _ rfl _ _ 170 rfl w.heap.size 5 i0 (.int .u8 0) 1 1 Tryz.underlying170 hi0 hz0 hz1 hz2 rfl (by decide) _ d.length (d.map ub) rfl (World.ownsRow.alloc HO.out _) ⟨wr.heap.size, 0, none⟩ 1 1 [ub s[k]] rfl rfl ?c1 ?c2 ?c3 ?c4 ?c5 ?_))
          case c1 =>
            intro j u hj
            match j, hj with
            | 0, hj => simp at hj; subst hj; simp [Addr.add, ub]
          case c2 => first | rfl | (intro u hu; simp at hu; subst hu; rfl)
          case c3 => unfold maxLen; omega
          case c4 => omega
          case c5 => first | omega | (simp; omega)
          · intro v' w5 hown' hgrow _ hat
            have hb5 : Below w.heap.size w w5 := (HB.out.alloc hsz _).grown hgrow (by simp; omega) (fun j hj => (World.ownsRow.lt HO.out j hj).1)
            have hO5 : OB w5 w.heap.size v' (d ++ [s[k]]) := by unfold OB; rw [List.length_append, List.map_append]; exact hown'
            have HR := HW.out v' w5 hO5 hb5
            have HR' : Hid (∃ (k' : Nat) (d : List UInt8), k' ≤ s.size ∧ Value.int .i64 ((k : Int) + 1) = .int .i64 k' ∧ OB w5 w.heap.size v' d ∧ d ++ unq (L.drop k') = unq L ∧ d.length ≤ k' ∧ Below w.heap.size w w5) := HR
            clear hown' hgrow hat hb5 hO5 HR HW HO
            go_wp2
            go_roundw
            case rel => exact HR'.out
            case measure => simp [intOf]; omega
        · have hb92 : ((s[k].toNat : Int) == 92) = true := by rw [beq_iff_eq]; omega
          have hk92 : s[k] = 92 := by apply UInt8.toNat_inj.1; show s[k].toNat = 92; omega
          rw [hk92] at HW
          have h2i : ¬ (k : Int) + 2 < (s.size : Int) := by omega
          go_wp2_with (first
            | (at_builtin; refine wpList_append_own_at _ rfl _ _ 170 rfl w.heap.size 5 i0 (.int .u8 0) 1 1 Tryz.underlying170 hi0 hz0 hz1 hz2 rfl (by decide) _ d.length (d.map ub) rfl (World.ownsRow.alloc HO.out _) ⟨wr.heap.size, 0, none⟩ 1 1 [ub 92] rfl rfl ?c1 ?c2 ?c3 ?c4 ?c5 ?_))
          case c1 =>
            intro j u hj
            match j, hj with
            | 0, hj => simp at hj; subst hj; simp [ub]
          case c2 => first | rfl | (intro u hu; simp at hu; subst hu; rfl)
          case c3 => unfold maxLen; omega
          case c4 => omega
          case c5 => first | omega | (simp; omega)
          · intro v' w5 hown' hgrow _ hat
            have hb5 : Below w.heap.size w w5 := (HB.out.alloc hsz _).grown hgrow (by simp; omega) (fun j hj => (World.ownsRow.lt HO.out j hj).1)
            have hO5 : OB w5 w.heap.size v' (d ++ [92]) := by unfold OB; rw [List.length_append, List.map_append]; exact hown'
            have HR := HW.out v' w5 hO5 hb5
            have HR' : Hid (∃ (k' : Nat) (d : List UInt8), k' ≤ s.size ∧ Value.int .i64 ((k : Int) + 1) = .int .i64 k' ∧ OB w5 w.heap.size v' d ∧ d ++ unq (L.drop k') = unq L ∧ d.length ≤ k' ∧ Below w.heap.size w w5) := HR
            clear hown' hgrow hat hb5 hO5 HR HW HO
            go_wp2
            go_roundw
            case rel => exact HR'.out
            case measure => simp [intOf]; omega
    · obtain rfl : k = s.size := by omega
      have hde : d = unq L := by
        have := HD.out
        rw [List.drop_eq_nil_of_le (by omega), show unq [] = [] from rfl, List.append_nil] at this
        exact this
      subst hde
      obtain ⟨a, c, rfl, hcv⟩ := HO.out.conv
      go_wp2
      go_ret
      exact ⟨rfl, HB.out⟩
end Go.Proofs.YtplaplhmjpfbjaaGreatDoor.Vl
namespace Go.Proofs.YtplaplhmjpfbjaaGreatDoor.Vl
open Go.RowKit
set_option linter.unusedVariables false
set_option maxRecDepth 100000

theorem dgt_toNat (q : Nat) : (dgt q).toNat = 48 + q % 10 := by unfold dgt; rw [UInt8.toNat_ofNat']; omega
theorem wacc_snoc (l : List UInt8) (c : UInt8) : wacc (l ++ [c]) = wstep (wacc l) c := by unfold wacc; rw [List.foldl_append]; rfl
theorem wacc_dec (u : Nat) : wacc (Lib.decDigits u) = wrap64 (u : Int) := by
  induction u using Nat.strongRecOn with
  | ind u ih =>
    have hd : isD (dgt u) = true := by
      unfold isD; rw [dgt_toNat, decide_eq_true (by omega), decide_eq_true (by omega)]; rfl
    by_cases h : u / 10 = 0
    · rw [dec_last u h]
      show wstep 0 (dgt u) = _
      unfold wstep
      rw [hd, if_pos rfl, dgt_toNat]
      unfold wrap64
      omega
    · rw [dec_more u h, wacc_snoc, ih (u / 10) (by omega)]
      unfold wstep
      rw [hd, if_pos rfl, dgt_toNat]
      unfold wrap64
      omega
theorem wholeF_itoa (n : Int) (h0 : -9223372036854775808 ≤ n) (h1 : n ≤ 9223372036854775807) : wholeF (Lib.itoa n) = n := by
  unfold wholeF
  by_cases hn : n < 0
  · have e : Lib.itoa n = 45 :: Lib.decDigits n.natAbs := by unfold Lib.itoa; rw [if_pos hn]
    rw [e, if_pos (by simp)]
    have : wacc (45 :: Lib.decDigits n.natAbs) = wacc (Lib.decDigits n.natAbs) := rfl
    rw [this, wacc_dec]
    unfold wrap64
    omega
  · obtain ⟨c, r, e2, h3, h4⟩ := dec_head n.toNat
    have e : Lib.itoa n = Lib.decDigits n.toNat := by unfold Lib.itoa; rw [if_neg hn]
    rw [e, e2, if_neg (by rw [List.head?_cons]; intro h; have := Option.some.inj h; rw [this] at h3; simp at h3), ← e2, wacc_dec]
    unfold wrap64
    omega

theorem hexv_hexd (a : Nat) (h : a < 16) : hexv (hexd a) = (a : Int) := by
  have : ∀ a : Fin 16, hexv (hexd a.val) = ((a.val : Nat) : Int) := by decide
  exact this ⟨a, h⟩
theorem unq_esc : ∀ l : List UInt8, unq (escAll l) = l
  | [] => rfl
  | c :: l => by
    have ih := unq_esc l
    have e : escAll (c :: l) = esc c ++ escAll l := by simp [escAll]
    rw [e]
    unfold esc
    by_cases hb : bareB c = true
    · rw [if_pos hb]
      rw [List.singleton_append, unq_plain (fun x y t _ hh => bare_ne c hb hh.1), ih]
    · rw [if_neg hb]
      have hc := UInt8.toNat_lt c
      show unq (92 :: hexd (c.toNat / 16) :: hexd (c.toNat % 16) :: escAll l) = _
      rw [unq_turn (by rw [hexv_hexd _ (by omega)]; omega) (by rw [hexv_hexd _ (by omega)]; omega), hexv_hexd _ (by omega), hexv_hexd _ (by omega), ih]
      congr 1
      apply UInt8.toNat_inj.1
      rw [UInt8.toNat_ofNat']
      omega
end Go.Proofs.YtplaplhmjpfbjaaGreatDoor.Vl
namespace Go.Proofs.YtplaplhmjpfbjaaGreatDoor.Vl
open Go.RowKit
set_option linter.unusedVariables false
set_option maxRecDepth 100000

theorem getE {s : ByteArray} {p : Nat} (h : p < s.size) (X Y : List UInt8) (c : UInt8) (hs : s.data.toList = X ++ c :: Y) (hp : p = X.length) : s[p] = c := by
  subst hp
  have h1 : s.data.toList[X.length]? = some c := by rw [hs]; simp
  have h2 : s.data[X.length]? = some c := by simpa using h1
  have h3 : s.data[X.length]'(by simpa using h) = c := by
    have := Array.getElem?_eq_getElem (xs := s.data) (i := X.length) (by simpa using h)
    rw [this] at h2
    exact Option.some.inj h2
  exact h3

theorem slice_two (s : ByteArray) (p : Nat) (X Y : List UInt8) (a b c : UInt8) (hs : s.data.toList = X ++ c :: a :: b :: Y) (hp : p = X.length) (w : World) :
    (Instr.slice 9 (.string s) (some (.int .i64 ((p : Int) + 1))) (some (.int .i64 ((p : Int) + 3))) none).run Tryz.prog w = .ok (.string ⟨#[a, b]⟩) w := by
  have hsz : s.size = X.length + (Y.length + 3) := by
    have : s.data.toList.length = s.size := by simp
    rw [← this, hs]; simp
  rw [run_slice_string w 9 s .i64 .i64 ((p : Int) + 1) ((p : Int) + 3) Tryz.underlying9 (by omega) (by omega) (by omega)]
  rw [show ((p : Int) + 1).toNat = p + 1 by omega, show ((p : Int) + 3).toNat = p + 3 by omega]
  congr 2
  apply ByteArray.ext
  apply Array.toList_inj.1
  rw [ByteArray.data_extract, Array.toList_extract, hs, hp]
  simp [List.extract]

theorem owns_later {w w2 : World} {base : Nat} {e : TypeId} {size : Nat} {v : Value} {n : Nat} {xs : List Value} (h : w.ownsRow base e size v n xs) (hb : Below w.heap.size w w2) : w2.ownsRow base e size v n xs := by
  refine ⟨h.1, ?_⟩
  rcases h.2 with h1 | ⟨g, cap, cur, h1, h2, h3, h4⟩
  · exact .inl h1
  · refine .inr ⟨g, cap, cur, h1, h2, ?_, h4⟩
    have hlt : g < w.heap.size := by
      rcases Nat.lt_or_ge g w.heap.size with h | h
      · exact h
      · rw [Array.getElem?_eq_none h] at h3; cases h3
    rw [hb.block g hlt]; exact h3

theorem escAll_split (x : List UInt8) (c : UInt8) (y : List UInt8) : escAll (x ++ c :: y) = escAll x ++ (esc c ++ escAll y) := by simp [escAll]

set_option maxHeartbeats 1000000 in
theorem unescaped_any (l : List UInt8) (w : World) (hl : l.length ≤ 60) :
    Calls Tryz.prog 166 #[.string ⟨(escAll l).toArray⟩] w fun e w' => e = .returned (.string ⟨l.toArray⟩) ∧ Below w.heap.size w w' := by
  obtain ⟨i0, hi0, hz0, hz1, hz2⟩ := info_parts info5
  have hX := escAll_len l
  obtain ⟨s, hs⟩ : ∃ s : ByteArray, s = ⟨(escAll l).toArray⟩ := ⟨_, rfl⟩
  have HD : Hid (s.data.toList = escAll l) := by unfold Hid; rw [hs]
  have hsz : s.size ≤ 180 := by
    have h1 : s.data.toList.length = s.size := by simp
    rw [← h1, HD.out]
    omega
  rw [← hs]
  clear hs hX
  go_enter Tryz.func166, Tryz.ntmps166
  go_wp2
  go_loopw [3, 4] (fun v i w' => ∃ k : Nat, k ≤ l.length ∧ i = .int .i64 ((escAll (l.take k)).length : Int) ∧ w'.ownsRow w.heap.size 5 1 v k ((l.take k).map u8v) ∧ Below w.heap.size w w') (fun _ i _ => s.size - (intOf i).toNat)
  case atStart => exact ⟨0, Nat.zero_le _, rfl, World.ownsRow_nil _ _ _ _, Below.refl _ _⟩
  case round =>
    obtain ⟨k, hk, rfl, hown, hb⟩ := hrel
    have hbs := hb.size
    by_cases hlt : k < l.length
    · have hspl : l = l.take k ++ l[k] :: l.drop (k + 1) := by simp
      have HT : Hid (l.take (k + 1) = l.take k ++ [l[k]]) := by unfold Hid; rw [List.take_succ_eq_append_getElem hlt]
      have HE : Hid (s.data.toList = escAll (l.take k) ++ (esc l[k] ++ escAll (l.drop (k + 1)))) := by
        unfold Hid
        have h1 := congrArg escAll hspl
        rw [escAll_split] at h1
        rw [HD.out]
        exact h1
      have HL : Hid ((escAll (l.take (k + 1))).length = (escAll (l.take k)).length + (esc l[k]).length) := by unfold Hid; rw [HT.out, escAll_snoc]; simp
      generalize escAll (l.drop (k + 1)) = Y at *
      generalize hXX : escAll (l.take k) = X at *
      clear hspl hXX
      have t1 : (0 : Int) ≤ (l[k].toNat : Int) := by omega
      have t2 : (l[k].toNat : Int) ≤ 255 := by have := UInt8.toNat_lt l[k]; omega
      have hsl : s.size = X.length + ((esc l[k]).length + Y.length) := by
        have h1 : s.data.toList.length = s.size := by simp
        rw [← h1, HE.out]; simp
      have HO : Hid (wr.ownsRow w.heap.size 5 1 u3 k ((l.take k).map u8v)) := hown
      clear hown
      cases hbr : bareB l[k] with
      | true =>
        have he : esc l[k] = [l[k]] := by unfold esc; rw [if_pos hbr]
        rw [he] at HE HL hsl
        have hlen : X.length < s.size := by simp at hsl; omega
        have hg : s[X.length] = l[k] := getE hlen X Y l[k] (by rw [HE.out]; rfl) rfl
        have hn : ((l[k].toNat : Int) == 92) = false := by
          have := bare_ne _ hbr
          simp
          intro h
          exact this (UInt8.toNat_inj.1 (by have h' : l[k].toNat = 92 := by omega
                                            rw [h']; rfl))
        have HSL : Hid (s.size = X.length + ([l[k]].length + Y.length)) := hsl
        clear hsl he
        go_wp2_with (first
          | (at_builtin; refine wpList_append_own _ rfl _ _ 170 rfl w.heap.size 5 i0 (.int .u8 0) 1 1 Tryz.underlying170 hi0 hz0 hz1 hz2 rfl (by decide) _ _ _ rfl (HO.out.alloc _) ⟨wr.heap.size, 0, none⟩ 1 1 [u8v l[k]] rfl rfl ?c1 ?c2 ?c3 ?c4 ?c5 ?_))
        case c1 =>
          intro j u hj
          match j, hj with
          | 0, hj => simp at hj; subst hj; simp [Addr.add, u8v]
        case c2 => intro u hu; simp at hu; subst hu; rfl
        case c3 => unfold maxLen; omega
        case c4 => omega
        case c5 => simp; omega
        · intro v' w1 hown' hgrow _
          have hB : Below w.heap.size w w1 := (hb.alloc hbs _).grown hgrow (by simp; omega) (fun j hj => (HO.out.lt j hj).1)
          have HO' : Hid (w1.ownsRow w.heap.size 5 1 v' (k + 1) ((l.take (k + 1)).map u8v)) := by unfold Hid; rw [HT.out, List.map_append, List.map_take]; exact hown'
          clear hown' hgrow HO hb
          go_wp2
          go_roundw
          case rel => exact ⟨k + 1, by omega, by rw [HL.out]; go_num, HO'.out, hB⟩
          case measure => simp [intOf]; omega
      | false =>
        have he : esc l[k] = [92, hexd (l[k].toNat / 16), hexd (l[k].toNat % 16)] := by unfold esc; rw [if_neg (by simp [hbr])]
        rw [he] at HE HL hsl
        have hlen : X.length < s.size := by simp at hsl; omega
        have hlen2 : X.length + 2 < s.size := by simp at hsl; omega
        have hg : s[X.length] = 92 := getE hlen X _ 92 (by rw [HE.out]; rfl) rfl
        have hs2 := slice_two s X.length X Y (hexd (l[k].toNat / 16)) (hexd (l[k].toNat % 16)) 92 (by rw [HE.out]; rfl) rfl
        have HSL : Hid (s.size = X.length + (3 + Y.length)) := hsl
        have e16 : ((16 * (l[k].toNat / 16) + l[k].toNat % 16 : Nat) : Int) = (l[k].toNat : Int) := by omega
        clear hsl he
        go_wp2_with fail
        refine (parseUint16 (l[k].toNat / 16) (l[k].toNat % 16) (by have := UInt8.toNat_lt l[k]; omega) (by omega) wr).mono ?_
        rintro e w2 ⟨rfl, hb2⟩
        have HO2 : Hid (w2.ownsRow w.heap.size 5 1 u3 k ((l.take k).map u8v)) := owns_later HO.out hb2
        have hB2 : Below w.heap.size w w2 := hb.trans (hb2.mono hbs)
        have hbs2 := hB2.size
        rw [e16]
        clear hb2 hb HO hbs e16
        go_wp2_with (first
          | (at_builtin; refine wpList_append_own _ rfl _ _ 170 rfl w.heap.size 5 i0 (.int .u8 0) 1 1 Tryz.underlying170 hi0 hz0 hz1 hz2 rfl (by decide) _ _ _ rfl (HO2.out.alloc _) ⟨w2.heap.size, 0, none⟩ 1 1 [u8v l[k]] rfl rfl ?c1 ?c2 ?c3 ?c4 ?c5 ?_))
        case c1 =>
          intro j u hj
          match j, hj with
          | 0, hj => simp at hj; subst hj; simp [Addr.add, u8v]
        case c2 => intro u hu; simp at hu; subst hu; rfl
        case c3 => unfold maxLen; omega
        case c4 => omega
        case c5 => simp; omega
        · intro v' w1 hown' hgrow _
          have hB : Below w.heap.size w w1 := (hB2.alloc hbs2 _).grown hgrow (by simp; omega) (fun j hj => (HO2.out.lt j hj).1)
          have HO' : Hid (w1.ownsRow w.heap.size 5 1 v' (k + 1) ((l.take (k + 1)).map u8v)) := by unfold Hid; rw [HT.out, List.map_append, List.map_take]; exact hown'
          clear hown' hgrow HO2 hB2
          go_wp2
          go_roundw
          case rel => exact ⟨k + 1, by omega, by rw [HL.out]; go_num, HO'.out, hB⟩
          case measure => simp [intOf]; omega
    · have hkl : k = l.length := by omega
      have HT : Hid (l.take k = l) := by unfold Hid; rw [List.take_of_length_le (by omega)]
      have hlen : (escAll (l.take k)).length = s.size := by
        have h1 : s.data.toList.length = s.size := by simp
        rw [HT.out, ← h1, HD.out]
      have hc1 : ¬ (((escAll (l.take k)).length : Int) < (s.size : Int)) := by omega
      have hcv : ∀ W, W = wr → (convert 170 9 u3).run Tryz.prog W = .ok (.string ⟨l.toArray⟩) W := by
        rintro W rfl
        rw [HT.out] at hown
        rcases hown.2 with ⟨rfl, h0⟩ | ⟨g, cap, cur, rfl, _⟩
        · have : l = [] := List.length_eq_zero_iff.1 (by omega)
          subst this
          show Sem.run Tryz.prog _ _ = _
          kernel_rfl
        · exact conv_own l hown
      have hcv' := hcv wr rfl
      clear hcv hown
      generalize (escAll (l.take k)).length = p at *
      go_wp2
      go_ret
      exact ⟨rfl, hb⟩
end Go.Proofs.YtplaplhmjpfbjaaGreatDoor.Vl
namespace Go.Proofs.YtplaplhmjpfbjaaGreatDoor.Vl
open Go.RowKit
set_option linter.unusedVariables false
set_option maxRecDepth 100000

theorem frozen_later {w wx : World} {a : Addr} (hb : Below w.heap.size w wx) (ha : a.block < w.heap.size) (h : w.frozen? a = false) : wx.frozen? a = false := (hb.frozen ha).trans h

theorem cut_text (X : List UInt8) : Lib.trimPrefix (39 :: X) [39] = X ∧ Lib.hasPrefix (39 :: X) [39] = true := by
  unfold Lib.trimPrefix Lib.hasPrefix
  simp [List.isPrefixOf]
theorem trim_text (X : List UInt8) : Lib.trimSuffix (X ++ [39]) [39] = X := by
  unfold Lib.trimSuffix Lib.hasSuffix
  have : List.isSuffixOf [39] (X ++ [39]) = true := by
    rw [List.isSuffixOf_iff_suffix]; exact List.suffix_append X [39]
  simp [this]

set_option maxHeartbeats 1000000 in
theorem guess_text (l : List UInt8) (w : World) (hl : l.length ≤ 60) :
    Calls Tryz.prog 161 #[.string ⟨(39 :: escAll l ++ [39]).toArray⟩] w fun e w' => e = .returned (.agg #[.int .i64 3, .int .i64 0, .string ⟨l.toArray⟩]) ∧ Below w.heap.size w w' := by
  have hX := escAll_len l
  have h1 := cut_text (escAll l ++ [39])
  have h2 := trim_text (escAll l)
  have h3 : (⟨(39 :: escAll l ++ [39]).toArray⟩ : ByteArray).data.toList = 39 :: (escAll l ++ [39]) := by simp
  have h4 : (⟨(escAll l ++ [39]).toArray⟩ : ByteArray).data.toList = escAll l ++ [39] := by simp
  have HC : ∀ W, Calls Tryz.prog 165 #[.string ⟨(39 :: escAll l ++ [39]).toArray⟩, .string ⟨#[39]⟩] W fun e w' => e = .returned (.tuple #[.string ⟨(escAll l ++ [39]).toArray⟩, .bool true]) ∧ w' = W := by
    intro W
    have := Tryz.strings_CutPrefix ⟨(39 :: escAll l ++ [39]).toArray⟩ ⟨#[39]⟩ W
    rw [h3, show (⟨#[39]⟩ : ByteArray).data.toList = [39] from rfl, h1.1, h1.2] at this
    exact this
  have HT : ∀ W, Calls Tryz.prog 167 #[.string ⟨(escAll l ++ [39]).toArray⟩, .string ⟨#[39]⟩] W fun e w' => e = .returned (.string ⟨(escAll l).toArray⟩) ∧ w' = W := by
    intro W
    have := Tryz.strings_TrimSuffix ⟨(escAll l ++ [39]).toArray⟩ ⟨#[39]⟩ W (by show (escAll l ++ [39]).toArray.size ≤ _; simp; omega)
    rw [h4, show (⟨#[39]⟩ : ByteArray).data.toList = [39] from rfl, h2] at this
    exact this
  have HC' : Hid _ := HC
  have HT' : Hid _ := HT
  clear HC HT h1 h2 h3 h4 hX
  generalize (⟨(39 :: escAll l ++ [39]).toArray⟩ : ByteArray) = s at *
  generalize (⟨(escAll l ++ [39]).toArray⟩ : ByteArray) = s2 at *
  go_enter Tryz.func161, Tryz.ntmps161
  go_wp2_with fail
  refine (HC'.out _).mono ?_
  rintro e w1 ⟨rfl, rfl⟩
  go_wp2_with fail
  refine (HT'.out _).mono ?_
  rintro e w1 ⟨rfl, rfl⟩
  go_wp2_with fail
  refine (unescaped_any l _ hl).mono ?_
  rintro e w1 ⟨rfl, hb1⟩
  have hf0 := frozen_later (a := ⟨w.heap.size, 0, none⟩) hb1 (by simp) (by simp)
  have hf1 := frozen_later (a := ⟨w.heap.size, 1, none⟩) hb1 (by simp) (by simp)
  have hf2 := frozen_later (a := ⟨w.heap.size, 2, none⟩) hb1 (by simp) (by simp)
  have hc0 := cell_later (a := ⟨w.heap.size, 0, none⟩) (v := .int .i64 0) hb1 (by go_simp)
  have hc1 := cell_later (a := ⟨w.heap.size, 1, none⟩) (v := .int .i64 0) hb1 (by go_simp)
  have hc2 := cell_later (a := ⟨w.heap.size, 2, none⟩) (v := .string ⟨#[]⟩) hb1 (by go_simp)
  have hB1 := (bel1 w _).trans (hb1.mono (by simp))
  clear hb1
  go_wp2_with fail
  refine (words_any _ _).mono ?_
  rintro e w2 ⟨rfl, hb2⟩
  have hlt : w.heap.size < w1.heap.size := World.block_lt_of_cell? _ _ hc0
  replace hf0 := frozen_later hb2 hlt hf0
  replace hf1 := frozen_later hb2 hlt hf1
  replace hf2 := frozen_later hb2 hlt hf2
  replace hc0 := cell_later hb2 hc0
  replace hc1 := cell_later hb2 hc1
  replace hc2 := cell_later hb2 hc2
  have hB2 := hB1.trans (hb2.mono hB1.size)
  clear hb2 hB1 hlt HC' HT'
  go_wp2
  exact bodyPost_ret (v := .agg #[.int .i64 3, .int .i64 0, .string ⟨l.toArray⟩]) (by simp [results, Tryz.results161, go_sem, hc0, hc1, hc2]) rfl ⟨rfl, ((hB2.setCell (Nat.le_refl _) _).setCell (Nat.le_refl _) _).setCell (Nat.le_refl _) _⟩

theorem cut_other (c : UInt8) (X : List UInt8) (h : c ≠ 39) : Lib.trimPrefix (c :: X) [39] = c :: X ∧ Lib.hasPrefix (c :: X) [39] = false := by
  have : Lib.hasPrefix (c :: X) [39] = false := by
    unfold Lib.hasPrefix
    simp [List.isPrefixOf]
    exact fun e => h e.symm
  unfold Lib.trimPrefix
  rw [this]
  exact ⟨rfl, rfl⟩
theorem cutPrefix_other (s : ByteArray) (c : UInt8) (X : List UInt8) (hs : s.data.toList = c :: X) (h : c ≠ 39) (W : World) :
    Calls Tryz.prog 165 #[.string s, .string ⟨#[39]⟩] W fun e w' => e = .returned (.tuple #[.string s, .bool false]) ∧ w' = W := by
  have h1 := cut_other c X h
  have := Tryz.strings_CutPrefix s ⟨#[39]⟩ W
  rw [hs, show (⟨#[39]⟩ : ByteArray).data.toList = [39] from rfl, h1.1, h1.2, ← hs] at this
  exact this

set_option maxHeartbeats 1000000 in
theorem guess_true (w : World) :
    Calls Tryz.prog 161 #[.string ⟨#[116, 114, 117, 101]⟩] w fun e w' => e = .returned (.agg #[.int .i64 2, .int .i64 1, .string ⟨#[]⟩]) ∧ Below w.heap.size w w' := by
  go_enter Tryz.func161, Tryz.ntmps161
  go_wp2_with fail
  refine (cutPrefix_other _ 116 [114, 117, 101] rfl (by decide) _).mono ?_
  rintro e w1 ⟨rfl, rfl⟩
  go_wp2_with fail
  refine (truth_true _).mono ?_
  rintro e w1 ⟨rfl, hb1⟩
  have hf0 := frozen_later (a := ⟨w.heap.size, 0, none⟩) hb1 (by simp) (by simp)
  have hf1 := frozen_later (a := ⟨w.heap.size, 1, none⟩) hb1 (by simp) (by simp)
  have hf2 := frozen_later (a := ⟨w.heap.size, 2, none⟩) hb1 (by simp) (by simp)
  have hc0 := cell_later (a := ⟨w.heap.size, 0, none⟩) (v := .int .i64 0) hb1 (by go_simp)
  have hc1 := cell_later (a := ⟨w.heap.size, 1, none⟩) (v := .int .i64 0) hb1 (by go_simp)
  have hc2 := cell_later (a := ⟨w.heap.size, 2, none⟩) (v := .string ⟨#[]⟩) hb1 (by go_simp)
  have hB1 := (bel1 w _).trans (hb1.mono (by simp))
  clear hb1
  go_wp2
  exact bodyPost_ret (v := .agg #[.int .i64 2, .int .i64 1, .string ⟨#[]⟩]) (by simp [results, Tryz.results161, go_sem, hc0, hc1, hc2]) rfl ⟨rfl, ((hB1.setCell (Nat.le_refl _) _).setCell (Nat.le_refl _) _).setCell (Nat.le_refl _) _⟩

set_option maxHeartbeats 1000000 in
theorem guess_false (w : World) :
    Calls Tryz.prog 161 #[.string ⟨#[102, 97, 108, 115, 101]⟩] w fun e w' => e = .returned (.agg #[.int .i64 2, .int .i64 0, .string ⟨#[]⟩]) ∧ Below w.heap.size w w' := by
  go_enter Tryz.func161, Tryz.ntmps161
  go_wp2_with fail
  refine (cutPrefix_other _ 102 [97, 108, 115, 101] rfl (by decide) _).mono ?_
  rintro e w1 ⟨rfl, rfl⟩
  go_wp2_with fail
  refine (truth_false _).mono ?_
  rintro e w1 ⟨rfl, hb1⟩
  have hf0 := frozen_later (a := ⟨w.heap.size, 0, none⟩) hb1 (by simp) (by simp)
  have hf1 := frozen_later (a := ⟨w.heap.size, 1, none⟩) hb1 (by simp) (by simp)
  have hf2 := frozen_later (a := ⟨w.heap.size, 2, none⟩) hb1 (by simp) (by simp)
  have hc0 := cell_later (a := ⟨w.heap.size, 0, none⟩) (v := .int .i64 0) hb1 (by go_simp)
  have hc1 := cell_later (a := ⟨w.heap.size, 1, none⟩) (v := .int .i64 0) hb1 (by go_simp)
  have hc2 := cell_later (a := ⟨w.heap.size, 2, none⟩) (v := .string ⟨#[]⟩) hb1 (by go_simp)
  have hB1 := (bel1 w _).trans (hb1.mono (by simp))
  clear hb1
  go_wp2
  exact bodyPost_ret (v := .agg #[.int .i64 2, .int .i64 0, .string ⟨#[]⟩]) (by simp [results, Tryz.results161, go_sem, hc0, hc1, hc2]) rfl ⟨rfl, ((hB1.setCell (Nat.le_refl _) _).setCell (Nat.le_refl _) _).setCell (Nat.le_refl _) _⟩

theorem itoa_head (n : Int) : ∃ c X, Lib.itoa n = c :: X ∧ (c.toNat = 45 ∨ (48 ≤ c.toNat ∧ c.toNat ≤ 57)) := by
  by_cases hn : n < 0
  · exact ⟨45, Lib.decDigits n.natAbs, by unfold Lib.itoa; rw [if_pos hn], .inl rfl⟩
  · obtain ⟨c, r, e, h1, h2⟩ := dec_head n.toNat
    exact ⟨c, r, by unfold Lib.itoa; rw [if_neg hn, e], .inr ⟨h1, h2⟩⟩

set_option maxHeartbeats 1000000 in
theorem guess_num (n : Int) (w : World) (h0 : -9223372036854775808 ≤ n) (h1 : n ≤ 9223372036854775807) :
    Calls Tryz.prog 161 #[.string ⟨(Lib.itoa n).toArray⟩] w fun e w' => e = .returned (.agg #[.int .i64 1, .int .i64 n, .string ⟨#[]⟩]) ∧ Below w.heap.size w w' := by
  have hp := parse_itoa n h0 h1
  have hlen := Lib.itoa_length_le n h0 h1
  obtain ⟨c, X, e, hc⟩ := itoa_head n
  obtain ⟨s, hs⟩ : ∃ s : ByteArray, s = ⟨(Lib.itoa n).toArray⟩ := ⟨_, rfl⟩
  have hd : s.data.toList = Lib.itoa n := by rw [hs]
  rw [← hs]
  have hl : s.toList = c :: X := by rw [ByteArray.toList_eq]; rw [hd, e]
  have HC : Hid (∀ W, Calls Tryz.prog 165 #[.string s, .string ⟨#[39]⟩] W fun e w' => e = .returned (.tuple #[.string s, .bool false]) ∧ w' = W) :=
    cutPrefix_other s c X (by rw [hd, e]) (by rintro rfl; simp at hc)
  have q1 : (s.toList == [116, 114, 117, 101]) = false := by rw [hl]; simp; rintro rfl; simp at hc
  have q2 : (s.toList == [102, 97, 108, 115, 101]) = false := by rw [hl]; simp; rintro rfl; simp at hc
  have hsz : s.size ≤ 9223372036854775806 := by
    have h3 : s.data.toList.length = s.size := by simp
    rw [← h3, hd]; omega
  have HP : Hid (∀ W, Calls Tryz.prog 168 #[.string s, .int .i64 10, .int .i64 64] W fun e w' => e = .returned (.tuple #[.int .i64 n, .nilIface]) ∧ Below W.heap.size W w') := by
    intro W
    refine (Tryz.strconv_ParseInt_10_at64_ok s hsz n (by rw [hd]; exact hp) W).mono ?_
    rintro e w' ⟨rfl, hw⟩
    refine ⟨rfl, ?_⟩
    rcases hw with rfl | ⟨t, rfl⟩
    · exact Below.refl _ _
    · exact below_bytes _ _ _
  clear hp hlen e hc hs hd hl hsz h0 h1
  go_enter Tryz.func161, Tryz.ntmps161
  go_wp2_with fail
  refine (HC.out _).mono ?_
  rintro e w1 ⟨rfl, rfl⟩
  go_wp2_with fail
  refine (HP.out _).mono ?_
  rintro e w1 ⟨rfl, hb1⟩
  have hf0 := frozen_later (a := ⟨w.heap.size, 0, none⟩) hb1 (by simp) (by simp)
  have hf1 := frozen_later (a := ⟨w.heap.size, 1, none⟩) hb1 (by simp) (by simp)
  have hf2 := frozen_later (a := ⟨w.heap.size, 2, none⟩) hb1 (by simp) (by simp)
  have hc0 := cell_later (a := ⟨w.heap.size, 0, none⟩) (v := .int .i64 0) hb1 (by go_simp)
  have hc1 := cell_later (a := ⟨w.heap.size, 1, none⟩) (v := .int .i64 0) hb1 (by go_simp)
  have hc2 := cell_later (a := ⟨w.heap.size, 2, none⟩) (v := .string ⟨#[]⟩) hb1 (by go_simp)
  have hB1 := (bel1 w _).trans (hb1.mono (by simp))
  clear hb1
  go_wp2_with fail
  refine (of_any _ _).mono ?_
  rintro e w2 ⟨rfl, hb2⟩
  have hlt : w.heap.size < w1.heap.size := World.block_lt_of_cell? _ _ hc0
  replace hf0 := frozen_later hb2 hlt hf0
  replace hf1 := frozen_later hb2 hlt hf1
  replace hf2 := frozen_later hb2 hlt hf2
  replace hc0 := cell_later hb2 hc0
  replace hc1 := cell_later hb2 hc1
  replace hc2 := cell_later hb2 hc2
  have hB2 := hB1.trans (hb2.mono hB1.size)
  clear hb2 hB1 hlt HC HP
  go_wp2
  exact bodyPost_ret (v := .agg #[.int .i64 1, .int .i64 n, .string ⟨#[]⟩]) (by simp [results, Tryz.results161, go_sem, hc0, hc1, hc2]) rfl ⟨rfl, ((hB2.setCell (Nat.le_refl _) _).setCell (Nat.le_refl _) _).setCell (Nat.le_refl _) _⟩

set_option maxHeartbeats 1000000 in
theorem guess_null (w : World) (ev : Value) (hv : w.cell? ⟨2, 0, none⟩ = some ev) (hev : ev = .nilIface ∨ ∃ te pe, ev = .iface te pe) :
    Calls Tryz.prog 161 #[.string ⟨#[110, 117, 108, 108]⟩] w fun e w' => e = .returned (.agg #[.int .i64 0, .int .i64 0, .string ⟨#[]⟩]) ∧ Below w.heap.size w w' := by
  have HV : Hid (w.cell? ⟨2, 0, none⟩ = some ev) := hv
  have HP : Hid (∀ W, W.cell? ⟨2, 0, none⟩ = some ev → Calls Tryz.prog 168 #[.string ⟨#[110, 117, 108, 108]⟩, .int .i64 10, .int .i64 64] W fun e w' => ∃ N, e = .returned (.tuple #[.int .i64 0, .iface 241 (.pointer (some ⟨N, 0, none⟩))]) ∧ Below W.heap.size W w') := by
    intro W hW
    refine (Any.strconv_ParseInt_10_at64_syntax Tryz.laysC174 ⟨#[110, 117, 108, 108]⟩ (by decide) (by decide) ev W hW hev).mono ?_
    rintro e w' ⟨N, rfl, _, _, hb⟩
    exact ⟨N, rfl, hb⟩
  clear hv hev
  go_enter Tryz.func161, Tryz.ntmps161
  go_wp2_with fail
  refine (cutPrefix_other _ 110 [117, 108, 108] rfl (by decide) _).mono ?_
  rintro e w1 ⟨rfl, rfl⟩
  go_wp2_with fail
  refine (HP.out _ (cell_later (bel1 w _) HV.out)).mono ?_
  rintro e w1 ⟨N, rfl, hb1⟩
  have hf0 := frozen_later (a := ⟨w.heap.size, 0, none⟩) hb1 (by simp) (by simp)
  have hf1 := frozen_later (a := ⟨w.heap.size, 1, none⟩) hb1 (by simp) (by simp)
  have hf2 := frozen_later (a := ⟨w.heap.size, 2, none⟩) hb1 (by simp) (by simp)
  have hc0 := cell_later (a := ⟨w.heap.size, 0, none⟩) (v := .int .i64 0) hb1 (by go_simp)
  have hc1 := cell_later (a := ⟨w.heap.size, 1, none⟩) (v := .int .i64 0) hb1 (by go_simp)
  have hc2 := cell_later (a := ⟨w.heap.size, 2, none⟩) (v := .string ⟨#[]⟩) hb1 (by go_simp)
  have hB1 := (bel1 w _).trans (hb1.mono (by simp))
  clear hb1 HP HV
  go_wp2
  exact bodyPost_ret (v := .agg #[.int .i64 0, .int .i64 0, .string ⟨#[]⟩]) (by simp [results, Tryz.results161, go_sem, hc0, hc1, hc2]) rfl ⟨rfl, ((hB1.setCell (Nat.le_refl _) _).setCell (Nat.le_refl _) _).setCell (Nat.le_refl _) _⟩
end Go.Proofs.YtplaplhmjpfbjaaGreatDoor.Vl
namespace Go.Proofs.YtplaplhmjpfbjaaGreatDoor.Vl
open Go.RowKit
set_option linter.unusedVariables false
set_option maxRecDepth 100000
attribute [local go_sem ↓] neq24 eql24
attribute [local go_sem] guard24

/-- The library's sentinel lies in its variable: whatever it is, it is an interface value. -/
def Sen (w : World) : Prop := ∃ ev, w.cell? ⟨2, 0, none⟩ = some ev ∧ (ev = .nilIface ∨ ∃ te pe, ev = .iface te pe)
theorem Sen.later {w w' : World} (h : Sen w) (hb : Below w.heap.size w w') : Sen w' := by
  obtain ⟨ev, h1, h2⟩ := h
  exact ⟨ev, cell_later hb h1, h2⟩

theorem guess_show (k n : Int) (s : ByteArray) (w : World) (hv : validB k n s = true) (h0 : -9223372036854775808 ≤ n) (h1 : n ≤ 9223372036854775807) (hs : Sen w) :
    Calls Tryz.prog 161 #[.string (showB k n s)] w fun e w' => e = .returned (.agg #[.int .i64 k, .int .i64 n, .string s]) ∧ Below w.heap.size w w' := by
  rw [show_valid hv]
  rcases valid_form hv with ⟨rfl, rfl, rfl⟩ | ⟨rfl, rfl⟩ | ⟨rfl, rfl, rfl⟩ | ⟨rfl, rfl, rfl⟩ | ⟨rfl, rfl, hs1⟩
  · obtain ⟨ev, e1, e2⟩ := hs
    exact guess_null w ev e1 e2
  · exact guess_num n w h0 h1
  · exact guess_true w
  · exact guess_false w
  · have := guess_text s.data.toList w (by simpa using hs1)
    rw [show (⟨s.data.toList.toArray⟩ : ByteArray) = s by apply ByteArray.ext; simp] at this
    exact this

set_option maxHeartbeats 1000000 in
theorem read_show (k n : Int) (s : ByteArray) (w : World) (hv : validB k n s = true) (hsz : s.size ≤ maxLen) (h0 : -9223372036854775808 ≤ n) (h1 : n ≤ 9223372036854775807) (hs : Sen w) (ht : Tab w) :
    Calls Tryz.prog 159 #[.string (showB k n s)] w fun e w' => e = .returned (.tuple #[.agg #[.int .i64 k, .int .i64 n, .string s], .nilIface]) ∧ Below w.heap.size w w' := by
  have HG : Hid (∀ W, Below w.heap.size w W → Calls Tryz.prog 161 #[.string (showB k n s)] W fun e w' => e = .returned (.agg #[.int .i64 k, .int .i64 n, .string s]) ∧ Below W.heap.size W w') :=
    fun W hW => guess_show k n s W hv h0 h1 (hs.later hW)
  have HS : Hid (∀ W, Below w.heap.size w W → Calls Tryz.prog 162 #[.agg #[.int .i64 k, .int .i64 n, .string s]] W fun e w' => e = .returned (.string (showB k n s)) ∧ Below W.heap.size W w') :=
    fun W hW => show_any k n s W hsz h0 h1 (ht.later hW)
  clear hv hsz h0 h1 hs ht
  generalize showB k n s = S at *
  go_enter Tryz.func159, Tryz.ntmps159
  go_wp2_with fail
  refine (HG.out _ (bel1 w _)).mono ?_
  rintro e w1 ⟨rfl, hb1⟩
  have hf0 := frozen_later (a := ⟨w.heap.size, 0, none⟩) hb1 (by simp) (by simp)
  have hf1 := frozen_later (a := ⟨w.heap.size, 1, none⟩) hb1 (by simp) (by simp)
  have hf2 := frozen_later (a := ⟨w.heap.size, 2, none⟩) hb1 (by simp) (by simp)
  have hc0 := cell_later (a := ⟨w.heap.size, 0, none⟩) (v := .int .i64 0) hb1 (by go_simp)
  have hc1 := cell_later (a := ⟨w.heap.size, 1, none⟩) (v := .int .i64 0) hb1 (by go_simp)
  have hc2 := cell_later (a := ⟨w.heap.size, 2, none⟩) (v := .string ⟨#[]⟩) hb1 (by go_simp)
  have hB1 := (bel1 w _).trans (hb1.mono (by simp))
  have hlt : w.heap.size < w1.heap.size := World.block_lt_of_cell? _ _ hc0
  clear hb1
  go_wp2_with fail
  have hA := bel1 w1 (.cells #[.int .i64 k, .int .i64 n, .string s] 110)
  replace hf0 := frozen_later hA hlt hf0
  replace hf1 := frozen_later hA hlt hf1
  replace hf2 := frozen_later hA hlt hf2
  replace hc0 := cell_later hA hc0
  replace hc1 := cell_later hA hc1
  replace hc2 := cell_later hA hc2
  have d0 : (w1.alloc (.cells #[.int .i64 k, .int .i64 n, .string s] 110)).cell? ⟨w1.heap.size, 0, none⟩ = some (.int .i64 k) := by go_simp
  have d1 : (w1.alloc (.cells #[.int .i64 k, .int .i64 n, .string s] 110)).cell? ⟨w1.heap.size, 1, none⟩ = some (.int .i64 n) := by go_simp
  have d2 : (w1.alloc (.cells #[.int .i64 k, .int .i64 n, .string s] 110)).cell? ⟨w1.heap.size, 2, none⟩ = some (.string s) := by go_simp
  replace hB1 := hB1.trans (hA.mono hB1.size)
  have hlt2 : w.heap.size < (w1.alloc (.cells #[.int .i64 k, .int .i64 n, .string s] 110)).heap.size := World.block_lt_of_cell? _ _ hc0
  clear hA
  generalize hW : w1.alloc (.cells #[.int .i64 k, .int .i64 n, .string s] 110) = W at *
  clear hW
  refine (HS.out W hB1).mono ?_
  rintro e w2 ⟨rfl, hb2⟩
  replace hf0 := frozen_later hb2 hlt2 hf0
  replace hf1 := frozen_later hb2 hlt2 hf1
  replace hf2 := frozen_later hb2 hlt2 hf2
  replace hc0 := cell_later hb2 hc0
  replace hc1 := cell_later hb2 hc1
  replace hc2 := cell_later hb2 hc2
  replace d0 := cell_later hb2 d0
  replace d1 := cell_later hb2 d1
  replace d2 := cell_later hb2 d2
  replace hB1 := hB1.trans (hb2.mono hB1.size)
  have hne : ¬ w1.heap.size = w.heap.size := by omega
  have hne' : ¬ w.heap.size = w1.heap.size := by omega
  clear hb2 hlt2 HS HG
  go_wp2
  exact bodyPost_ret (v := .tuple #[.agg #[.int .i64 k, .int .i64 n, .string s], .nilIface]) (by simp [results, Tryz.results159, go_sem, hc0, hc1, hc2]) rfl ⟨rfl, ((hB1.setCell (Nat.le_refl _) _).setCell (Nat.le_refl _) _).setCell (Nat.le_refl _) _⟩

theorem bel2' (w : World) (o1 o2 : Obj) : Below w.heap.size w ((w.alloc o1).alloc o2) := ((Below.refl _ _).alloc (Nat.le_refl _) _).alloc (by simp) _

end Go.Proofs.YtplaplhmjpfbjaaGreatDoor.Vl
