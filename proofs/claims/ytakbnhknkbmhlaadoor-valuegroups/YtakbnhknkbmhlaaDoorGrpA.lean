import Derived.Test.YtakbnhknkbmhlaaDoorShwT
import Derived.Lib.ItoaLen
import Derived.OpenShut
namespace Go.Proofs.YtakbnhknkbmhlaaDoor
open Go.RowKit
set_option linter.unusedVariables false
set_option maxRecDepth 100000

def hstep (h : Int) (c : UInt8) : Int := IntKind.u64.wrap (bits .xor .u64 h (c.toNat : Int) * 1099511628211)
def hText (h : Int) (l : List UInt8) : Int := l.foldl hstep h
theorem hText_snoc (h : Int) (l : List UInt8) (c : UInt8) : hText h (l ++ [c]) = hstep (hText h l) c := by unfold hText; simp
def line (v : V) : ByteArray := showB v.k v.n v.s ++ ⟨#[10]⟩
def hAll (f : Nat → V) : Nat → Int
  | 0 => 14695981039346656037
  | k + 1 => hText (hAll f k) (line (f k)).data.toList

theorem show_len (k n : Int) (s : ByteArray) (h0 : -9223372036854775808 ≤ n) (h1 : n ≤ 9223372036854775807) : (showB k n s).size ≤ 200 := by
  unfold showB
  by_cases hv : validB k n s = true
  · rw [if_pos hv]
    rcases valid_kind hv with rfl | rfl | ⟨rfl, rfl⟩ | ⟨rfl, rfl⟩ | ⟨rfl, hs60⟩
    · show (ByteArray.size ⟨#[110, 117, 108, 108]⟩) ≤ 200
      decide
    · have := Lib.itoa_length_le n h0 h1
      clear h0 h1
      show (ByteArray.size ⟨(Lib.itoa n).toArray⟩) ≤ 200
      have e : (ByteArray.size ⟨(Lib.itoa n).toArray⟩) = (Lib.itoa n).length := by simp [ByteArray.size]
      omega
    · show (ByteArray.size ⟨#[116, 114, 117, 101]⟩) ≤ 200
      decide
    · show (ByteArray.size ⟨#[102, 97, 108, 115, 101]⟩) ≤ 200
      decide
    · clear h0 h1 hv
      have h3 := escAll_len s.data.toList
      have h2 : s.data.toList.length = s.size := by simp
      show (ByteArray.size ⟨(39 :: escAll s.data.toList ++ [39]).toArray⟩) ≤ 200
      have e : (ByteArray.size ⟨(39 :: escAll s.data.toList ++ [39]).toArray⟩) = (escAll s.data.toList).length + 2 := by simp [ByteArray.size]
      omega
  · rw [if_neg hv]
    decide

theorem wrap_u64_bd (x : Int) : 0 ≤ IntKind.u64.wrap x ∧ IntKind.u64.wrap x ≤ 18446744073709551615 := bounds_u64 (wf_wrap .u64 x)
theorem hText_bd (h : Int) (hh : 0 ≤ h ∧ h ≤ 18446744073709551615) (l : List UInt8) : 0 ≤ hText h l ∧ hText h l ≤ 18446744073709551615 := by
  unfold hText
  induction l generalizing h with
  | nil => exact hh
  | cons c l ih => exact ih _ (wrap_u64_bd _)
theorem hAll_bd (f : Nat → V) : ∀ k, 0 ≤ hAll f k ∧ hAll f k ≤ 18446744073709551615
  | 0 => by unfold hAll; omega
  | k + 1 => hText_bd _ (hAll_bd f k) _

set_option maxHeartbeats 1000000 in
theorem hash_any (a : Option Addr) (len cap : Nat) (f : Nat → V) (w : World) (hl : Lies w a len f) (hm : len ≤ maxLen) (ht : Tab w) :
    Calls Tryd.prog 16 #[.slice a len cap] w fun e w' => e = .returned (.int .u64 (hAll f len)) ∧ Below w.heap.size w w' := by
  have HT : Hid (Tab w) := ht
  have HL : Hid (Lies w a len f) := hl
  unfold maxLen at hm
  clear ht hl
  go_enter Tryd.func16, Tryd.ntmps16
  go_wp2
  go_loopw [3, 10] (fun h i w' => ∃ k : Nat, k ≤ len ∧ i = .int .i64 k ∧ h = .int .u64 (hAll f k) ∧ Below w.heap.size w w') (fun _ i _ => len - (intOf i).toNat)
  case atStart => exact ⟨0, Nat.zero_le _, rfl, rfl, Below.refl _ _⟩
  case round =>
    obtain ⟨k, hk, rfl, rfl, hb⟩ := hrel
    have hbs := hb.size
    by_cases hlt : k < len
    · have hi : (k : Int) < (len : Int) := by omega
      obtain ⟨b, o, rfl, ha1, ha2, ha3, ha4, ha5, ha6⟩ := HL.out.later hb k hlt
      have hlen := show_len (f k).k (f k).n (f k).s ha5 ha6
      have HA : Hid (hAll f (k + 1) = hText (hAll f k) (showB (f k).k (f k).n (f k).s ++ ⟨#[10]⟩).data.toList) := rfl
      generalize hAll f k = H0 at *
      have hB1 : Below w.heap.size w (wr.alloc (Obj.cells #[Value.int IntKind.i64 (f k).k, Value.int IntKind.i64 (f k).n, Value.string (f k).s] 24)) := hb.alloc hbs _
      go_wp2_with fail
      refine (show_any _ _ _ _ ha4 ha5 ha6 (HT.out.later hB1)).mono ?_
      rintro e w2 ⟨rfl, hb2⟩
      have hB2 : Below w.heap.size w w2 := hB1.trans (hb2.mono hB1.size)
      clear hb2 hB1 ha1 ha2 ha3 ha4 ha5 ha6 hb hbs
      generalize showB (f k).k (f k).n (f k).s = T at *
      go_wp2
      go_loop [3, 19] (fun h i => ∃ j : Nat, j ≤ T.size + 1 ∧ i = .int .i64 j ∧ h = .int .u64 (hText H0 ((T ++ ⟨#[10]⟩).data.toList.take j))) (fun _ i => T.size + 1 - (intOf i).toNat)
      case atStart => exact ⟨0, Nat.zero_le _, rfl, rfl⟩
      case round =>
        obtain ⟨j, hj, rfl, rfl⟩ := hrel
        by_cases hjt : j < T.size + 1
        · have hsz : j < (T ++ ⟨#[10]⟩ : ByteArray).size := by rw [ByteArray.size_append]; exact hjt
          have hji : (j : Int) < (T.size : Int) + 1 := by omega
          have HS : Hid (hText H0 ((T ++ ⟨#[10]⟩).data.toList.take (j + 1)) = hstep (hText H0 ((T ++ ⟨#[10]⟩).data.toList.take j)) (T ++ ⟨#[10]⟩ : ByteArray)[j]) := by
            unfold Hid; rw [take_snoc _ _ hsz, hText_snoc]
          have t1 : (0 : Int) ≤ ((T ++ ⟨#[10]⟩ : ByteArray)[j].toNat : Int) := by omega
          have t2 : ((T ++ ⟨#[10]⟩ : ByteArray)[j].toNat : Int) ≤ 255 := by have := UInt8.toNat_lt (T ++ ⟨#[10]⟩ : ByteArray)[j]; omega
          generalize hText H0 ((T ++ ⟨#[10]⟩).data.toList.take j) = H1 at *
          go_wp2
          refine ⟨⟨j + 1, by omega, by go_num, by rw [HS.out]; rfl⟩, ?_⟩
          simp [intOf]
          omega
        · have HJ : Hid (hText H0 ((T ++ ⟨#[10]⟩).data.toList.take j) = hAll f (k + 1)) := by
            unfold Hid
            rw [HA.out, List.take_of_length_le]
            have : (T ++ ⟨#[10]⟩ : ByteArray).size = T.size + 1 := ByteArray.size_append
            simp at this ⊢
            omega
          go_wp2
          go_roundw
          case rel => exact ⟨k + 1, by omega, by go_num, by rw [HJ.out], hB2⟩
          case measure => simp [intOf]; omega
    · go_wp2
      have e : k = len := by omega
      subst e
      go_ret
      exact ⟨rfl, hb⟩

set_option maxHeartbeats 1000000 in
theorem refHash_any (a : Option Addr) (len cap : Nat) (f : Nat → V) (w : World) (hl : Lies w a len f) (hm : len ≤ maxLen) :
    Calls Tryd.prog 18 #[.slice a len cap] w fun e w' => e = .returned (.int .u64 (hAll f len)) ∧ Below w.heap.size w w' := by
  have HL : Hid (Lies w a len f) := hl
  unfold maxLen at hm
  clear hl
  go_enter Tryd.func18, Tryd.ntmps18
  go_wp2
  go_loopw [3, 4] (fun h i w' => ∃ k : Nat, k ≤ len ∧ i = .int .i64 k ∧ h = .int .u64 (hAll f k) ∧ Below w.heap.size w w') (fun _ i _ => len - (intOf i).toNat)
  case atStart => exact ⟨0, Nat.zero_le _, rfl, rfl, Below.refl _ _⟩
  case round =>
    obtain ⟨k, hk, rfl, rfl, hb⟩ := hrel
    have hbs := hb.size
    by_cases hlt : k < len
    · have hi : (k : Int) < (len : Int) := by omega
      obtain ⟨b, o, rfl, ha1, ha2, ha3, ha4, ha5, ha6⟩ := HL.out.later hb k hlt
      have hlen := show_len (f k).k (f k).n (f k).s ha5 ha6
      have HA : Hid (hAll f (k + 1) = hText (hAll f k) (showB (f k).k (f k).n (f k).s ++ ⟨#[10]⟩).data.toList) := rfl
      generalize hAll f k = H0 at *
      go_wp2_with fail
      refine (refShow_any _ _ _ _ ha4 ha5 ha6).mono ?_
      rintro e w2 ⟨rfl, hb2⟩
      have hB2 : Below w.heap.size w w2 := hb.trans (hb2.mono hbs)
      clear hb2 ha1 ha2 ha3 ha4 ha5 ha6 hb hbs
      generalize showB (f k).k (f k).n (f k).s = T at *
      go_wp2
      go_loop [3, 6] (fun h i => ∃ j : Nat, j ≤ T.size + 1 ∧ i = .int .i64 j ∧ h = .int .u64 (hText H0 ((T ++ ⟨#[10]⟩).data.toList.take j))) (fun _ i => T.size + 1 - (intOf i).toNat)
      case atStart => exact ⟨0, Nat.zero_le _, rfl, rfl⟩
      case round =>
        obtain ⟨j, hj, rfl, rfl⟩ := hrel
        by_cases hjt : j < T.size + 1
        · have hsz : j < (T ++ ⟨#[10]⟩ : ByteArray).size := by rw [ByteArray.size_append]; exact hjt
          have hji : (j : Int) < (T.size : Int) + 1 := by omega
          have HS : Hid (hText H0 ((T ++ ⟨#[10]⟩).data.toList.take (j + 1)) = hstep (hText H0 ((T ++ ⟨#[10]⟩).data.toList.take j)) (T ++ ⟨#[10]⟩ : ByteArray)[j]) := by
            unfold Hid; rw [take_snoc _ _ hsz, hText_snoc]
          have t1 : (0 : Int) ≤ ((T ++ ⟨#[10]⟩ : ByteArray)[j].toNat : Int) := by omega
          have t2 : ((T ++ ⟨#[10]⟩ : ByteArray)[j].toNat : Int) ≤ 255 := by have := UInt8.toNat_lt (T ++ ⟨#[10]⟩ : ByteArray)[j]; omega
          generalize hText H0 ((T ++ ⟨#[10]⟩).data.toList.take j) = H1 at *
          go_wp2
          refine ⟨⟨j + 1, by omega, by go_num, by rw [HS.out]; rfl⟩, ?_⟩
          simp [intOf]
          omega
        · have HJ : Hid (hText H0 ((T ++ ⟨#[10]⟩).data.toList.take j) = hAll f (k + 1)) := by
            unfold Hid
            rw [HA.out, List.take_of_length_le]
            have : (T ++ ⟨#[10]⟩ : ByteArray).size = T.size + 1 := ByteArray.size_append
            simp at this ⊢
            omega
          go_wp2
          go_roundw
          case rel => exact ⟨k + 1, by omega, by go_num, by rw [HJ.out], hB2⟩
          case measure => simp [intOf]; omega
    · go_wp2
      have e : k = len := by omega
      subst e
      go_ret
      exact ⟨rfl, hb⟩

theorem group_any (a : Option Addr) (len cap : Nat) (f : Nat → V) (w : World) (hl : Lies w a len f) (hm : len ≤ maxLen) (ht : Tab w) :
    Calls Tryd.prog 17 #[.slice a len cap] w fun e w' => e = .returned (.int .i64 (hAll f len % 32)) ∧ Below w.heap.size w w' := by
  obtain ⟨g0, g1⟩ := hAll_bd f len
  go_enter Tryd.func17, Tryd.ntmps17
  go_wp2_with (first | (go_at_call 16; refine (hash_any a len cap f w hl hm ht).mono ?_; rintro e w2 ⟨rfl, hbb⟩))
  go_ret
  exact ⟨rfl, hbb⟩
theorem refGroup_any (a : Option Addr) (len cap : Nat) (f : Nat → V) (w : World) (hl : Lies w a len f) (hm : len ≤ maxLen) :
    Calls Tryd.prog 19 #[.slice a len cap] w fun e w' => e = .returned (.int .i64 (hAll f len % 32)) ∧ Below w.heap.size w w' := by
  obtain ⟨g0, g1⟩ := hAll_bd f len
  go_enter Tryd.func19, Tryd.ntmps19
  go_wp2_with (first | (go_at_call 18; refine (refHash_any a len cap f w hl hm).mono ?_; rintro e w2 ⟨rfl, hbb⟩))
  go_ret
  exact ⟨rfl, hbb⟩

theorem groups_walk (a : Option Addr) (len cap : Nat) (f : Nat → V) (w : World) (hl : Lies w a len f) (hm : len ≤ maxLen) (ht : Tab w) :
    Calls Tryd.prog 6 #[.slice a len cap] w fun e w' => e = .returned (.bool true) ∧ Below w.heap.size w w' := by
  have HT : Hid (Tab w) := ht
  have HL : Hid (Lies w a len f) := hl
  have HM : Hid (len ≤ maxLen) := hm
  clear ht hl hm
  go_enter Tryd.func6, Tryd.ntmps6
  go_wp2_with fail
  refine (hash_any a len cap f w HL.out HM.out HT.out).mono ?_
  rintro e w1 ⟨rfl, hb1⟩
  go_wp2_with fail
  refine (group_any a len cap f w1 (HL.out.later hb1) HM.out (HT.out.later hb1)).mono ?_
  rintro e w2 ⟨rfl, hb2⟩
  replace hb2 := hb1.trans (hb2.mono hb1.size)
  go_wp2_with fail
  refine (refHash_any a len cap f w2 (HL.out.later hb2) HM.out).mono ?_
  rintro e w3 ⟨rfl, hb3⟩
  replace hb3 := hb2.trans (hb3.mono hb2.size)
  go_wp2_with fail
  refine (refGroup_any a len cap f w3 (HL.out.later hb3) HM.out).mono ?_
  rintro e w4 ⟨rfl, hb4⟩
  replace hb4 := hb3.trans (hb4.mono hb3.size)
  clear hb1 hb2 hb3
  generalize hAll f len = H0 at *
  go_wp2
  go_ret
  exact ⟨ret_bool (by simp), hb4⟩
end Go.Proofs.YtakbnhknkbmhlaaDoor
