import Derived.Test.YtobhccmnlmlapaaGreatDoorGk
import Derived.Test.YtobhccmnlmlapaaGreatDoorGb
import Derived.Lib.ItoaLen
import Derived.OpenShut
import Derived.Test.YtobhccmnlmlapaaGreatDoorGc
import Derived.Test.YtobhccmnlmlapaaGreatDoorGi
import Derived.Test.YtobhccmnlmlapaaGreatDoorQBkP
namespace Go.Proofs.YtobhccmnlmlapaaGreatDoor.Vl
open Go.RowKit
set_option linter.unusedVariables false
set_option maxRecDepth 100000

def hstep (h : Int) (c : UInt8) : Int := IntKind.u64.wrap (bits .xor .u64 h (c.toNat : Int) * 1099511628211)
def hText (h : Int) (l : List UInt8) : Int := l.foldl hstep h
theorem hText_snoc (h : Int) (l : List UInt8) (c : UInt8) : hText h (l ++ [c]) = hstep (hText h l) c := by unfold hText; simp
def line (v : Go.Proofs.YtobhccmnlmlapaaGreatDoor.V) : ByteArray := showB v.k v.n v.s ++ ⟨#[10]⟩
/-- Texts and numbers that can be. -/
def GoodF (f : Nat → Go.Proofs.YtobhccmnlmlapaaGreatDoor.V) (len : Nat) : Prop := ∀ i, i < len → (f i).s.size ≤ maxLen ∧ -9223372036854775808 ≤ (f i).n ∧ (f i).n ≤ 9223372036854775807
def hAll (f : Nat → Go.Proofs.YtobhccmnlmlapaaGreatDoor.V) : Nat → Int
  | 0 => 14695981039346656037
  | k + 1 => hText (hAll f k) (line (f k)).data.toList

theorem show_len (k n : Int) (s : ByteArray) (h0 : -9223372036854775808 ≤ n) (h1 : n ≤ 9223372036854775807) : (showB k n s).size ≤ 200 := by
  unfold showB
  by_cases hv : validB k n s = true
  · rw [if_pos hv]
    rcases valid_kind hv with rfl | rfl | ⟨rfl, rfl⟩ | ⟨rfl, rfl⟩ | ⟨rfl, hs60⟩
    · show (ByteArray.size ⟨#[110, 117, 108, 108]⟩) ≤ 200
      decide
    · have := Lib.itoa_length_le n h0 h1
      clear h0 h1
      show (ByteArray.size ⟨(Lib.itoa n).toArray⟩) ≤ 200
      have e : (ByteArray.size ⟨(Lib.itoa n).toArray⟩) = (Lib.itoa n).length := by simp [ByteArray.size]
      omega
    · show (ByteArray.size ⟨#[116, 114, 117, 101]⟩) ≤ 200
      decide
    · show (ByteArray.size ⟨#[102, 97, 108, 115, 101]⟩) ≤ 200
      decide
    · clear h0 h1 hv
      have h3 := escAll_len s.data.toList
      have h2 : s.data.toList.length = s.size := by simp
      show (ByteArray.size ⟨(39 :: escAll s.data.toList ++ [39]).toArray⟩) ≤ 200
      have e : (ByteArray.size ⟨(39 :: escAll s.data.toList ++ [39]).toArray⟩) = (escAll s.data.toList).length + 2 := by simp [ByteArray.size]
      omega
  · rw [if_neg hv]
    decide

theorem wrap_u64_bd (x : Int) : 0 ≤ IntKind.u64.wrap x ∧ IntKind.u64.wrap x ≤ 18446744073709551615 := bounds_u64 (wf_wrap .u64 x)
theorem hText_bd (h : Int) (hh : 0 ≤ h ∧ h ≤ 18446744073709551615) (l : List UInt8) : 0 ≤ hText h l ∧ hText h l ≤ 18446744073709551615 := by
  unfold hText
  induction l generalizing h with
  | nil => exact hh
  | cons c l ih => exact ih _ (wrap_u64_bd _)
theorem hAll_bd (f : Nat → Go.Proofs.YtobhccmnlmlapaaGreatDoor.V) : ∀ k, 0 ≤ hAll f k ∧ hAll f k ≤ 18446744073709551615
  | 0 => by unfold hAll; omega
  | k + 1 => hText_bd _ (hAll_bd f k) _

set_option maxHeartbeats 1000000 in
theorem hash_any (a : Option Addr) (len cap : Nat) (f : Nat → Go.Proofs.YtobhccmnlmlapaaGreatDoor.V) (w : World) (hl : Go.Proofs.YtobhccmnlmlapaaGreatDoor.Lies w a len f) (hG : GoodF f len) (hm : len ≤ maxLen) (ht : Tab w) :
    Calls Tryz.prog 88 #[.slice a len cap] w fun e w' => e = .returned (.int .u64 (hAll f len)) ∧ Below w.heap.size w w' := by
  have HT : Hid (Tab w) := ht
  have HL : Hid (Go.Proofs.YtobhccmnlmlapaaGreatDoor.Lies w a len f) := hl
  have HGF : Hid (GoodF f len) := hG
  clear hG
  unfold maxLen at hm
  clear ht hl
  go_enter Tryz.func88, Tryz.ntmps88
  go_wp2
  go_loopw [3, 10] (fun h i w' => ∃ k : Nat, k ≤ len ∧ i = .int .i64 k ∧ h = .int .u64 (hAll f k) ∧ Below w.heap.size w w') (fun _ i _ => len - (intOf i).toNat)
  case atStart => exact ⟨0, Nat.zero_le _, rfl, rfl, Below.refl _ _⟩
  case round =>
    obtain ⟨k, hk, rfl, rfl, hb⟩ := hrel
    have hbs := hb.size
    by_cases hlt : k < len
    · have hi : (k : Int) < (len : Int) := by omega
      obtain ⟨b, o, rfl, ha1, ha2, ha3⟩ := HL.out.later hb k hlt
      obtain ⟨ha4, ha5, ha6⟩ := HGF.out k hlt
      have hlen := show_len (f k).k (f k).n (f k).s ha5 ha6
      have HA : Hid (hAll f (k + 1) = hText (hAll f k) (showB (f k).k (f k).n (f k).s ++ ⟨#[10]⟩).data.toList) := rfl
      generalize hAll f k = H0 at *
      have hB1 : Below w.heap.size w (wr.alloc (Obj.cells #[Value.int IntKind.i64 (f k).k, Value.int IntKind.i64 (f k).n, Value.string (f k).s] 48)) := hb.alloc hbs _
      go_wp2_with fail
      refine (show_any _ _ _ _ ha4 ha5 ha6 (HT.out.later hB1)).mono ?_
      rintro e w2 ⟨rfl, hb2⟩
      have hB2 : Below w.heap.size w w2 := hB1.trans (hb2.mono hB1.size)
      clear hb2 hB1 ha1 ha2 ha3 ha4 ha5 ha6 hb hbs
      generalize showB (f k).k (f k).n (f k).s = T at *
      go_wp2
      go_loop [3, 19] (fun h i => ∃ j : Nat, j ≤ T.size + 1 ∧ i = .int .i64 j ∧ h = .int .u64 (hText H0 ((T ++ ⟨#[10]⟩).data.toList.take j))) (fun _ i => T.size + 1 - (intOf i).toNat)
      case atStart => exact ⟨0, Nat.zero_le _, rfl, rfl⟩
      case round =>
        obtain ⟨j, hj, rfl, rfl⟩ := hrel
        by_cases hjt : j < T.size + 1
        · have hsz : j < (T ++ ⟨#[10]⟩ : ByteArray).size := by rw [ByteArray.size_append]; exact hjt
          have hji : (j : Int) < (T.size : Int) + 1 := by omega
          have HS : Hid (hText H0 ((T ++ ⟨#[10]⟩).data.toList.take (j + 1)) = hstep (hText H0 ((T ++ ⟨#[10]⟩).data.toList.take j)) (T ++ ⟨#[10]⟩ : ByteArray)[j]) := by
            unfold Hid; rw [take_snoc _ _ hsz, hText_snoc]
          have t1 : (0 : Int) ≤ ((T ++ ⟨#[10]⟩ : ByteArray)[j].toNat : Int) := by omega
          have t2 : ((T ++ ⟨#[10]⟩ : ByteArray)[j].toNat : Int) ≤ 255 := by have := UInt8.toNat_lt (T ++ ⟨#[10]⟩ : ByteArray)[j]; omega
          generalize hText H0 ((T ++ ⟨#[10]⟩).data.toList.take j) = H1 at *
          go_wp2
          refine ⟨⟨j + 1, by omega, by go_num, by rw [HS.out]; rfl⟩, ?_⟩
          simp [intOf]
          omega
        · have HJ : Hid (hText H0 ((T ++ ⟨#[10]⟩).data.toList.take j) = hAll f (k + 1)) := by
            unfold Hid
            rw [HA.out, List.take_of_length_le]
            have : (T ++ ⟨#[10]⟩ : ByteArray).size = T.size + 1 := ByteArray.size_append
            simp at this ⊢
            omega
          go_wp2
          go_roundw
          case rel => exact ⟨k + 1, by omega, by go_num, by rw [HJ.out], hB2⟩
          case measure => simp [intOf]; omega
    · go_wp2
      have e : k = len := by omega
      subst e
      go_ret
      exact ⟨rfl, hb⟩

set_option maxHeartbeats 1000000 in
theorem refHash_any (a : Option Addr) (len cap : Nat) (f : Nat → Go.Proofs.YtobhccmnlmlapaaGreatDoor.V) (w : World) (hl : Go.Proofs.YtobhccmnlmlapaaGreatDoor.Lies w a len f) (hG : GoodF f len) (hm : len ≤ maxLen) :
    Calls Tryz.prog 44 #[.slice a len cap] w fun e w' => e = .returned (.int .u64 (hAll f len)) ∧ Below w.heap.size w w' := by
  have HL : Hid (Go.Proofs.YtobhccmnlmlapaaGreatDoor.Lies w a len f) := hl
  have HGF : Hid (GoodF f len) := hG
  clear hG
  unfold maxLen at hm
  clear hl
  go_enter Tryz.func44, Tryz.ntmps44
  go_wp2
  go_loopw [3, 4] (fun h i w' => ∃ k : Nat, k ≤ len ∧ i = .int .i64 k ∧ h = .int .u64 (hAll f k) ∧ Below w.heap.size w w') (fun _ i _ => len - (intOf i).toNat)
  case atStart => exact ⟨0, Nat.zero_le _, rfl, rfl, Below.refl _ _⟩
  case round =>
    obtain ⟨k, hk, rfl, rfl, hb⟩ := hrel
    have hbs := hb.size
    by_cases hlt : k < len
    · have hi : (k : Int) < (len : Int) := by omega
      obtain ⟨b, o, rfl, ha1, ha2, ha3⟩ := HL.out.later hb k hlt
      obtain ⟨ha4, ha5, ha6⟩ := HGF.out k hlt
      have hlen := show_len (f k).k (f k).n (f k).s ha5 ha6
      have HA : Hid (hAll f (k + 1) = hText (hAll f k) (showB (f k).k (f k).n (f k).s ++ ⟨#[10]⟩).data.toList) := rfl
      generalize hAll f k = H0 at *
      go_wp2_with fail
      refine (refShow_any _ _ _ _ ha4 ha5 ha6).mono ?_
      rintro e w2 ⟨rfl, hb2⟩
      have hB2 : Below w.heap.size w w2 := hb.trans (hb2.mono hbs)
      clear hb2 ha1 ha2 ha3 ha4 ha5 ha6 hb hbs
      generalize showB (f k).k (f k).n (f k).s = T at *
      go_wp2
      go_loop [3, 6] (fun h i => ∃ j : Nat, j ≤ T.size + 1 ∧ i = .int .i64 j ∧ h = .int .u64 (hText H0 ((T ++ ⟨#[10]⟩).data.toList.take j))) (fun _ i => T.size + 1 - (intOf i).toNat)
      case atStart => exact ⟨0, Nat.zero_le _, rfl, rfl⟩
      case round =>
        obtain ⟨j, hj, rfl, rfl⟩ := hrel
        by_cases hjt : j < T.size + 1
        · have hsz : j < (T ++ ⟨#[10]⟩ : ByteArray).size := by rw [ByteArray.size_append]; exact hjt
          have hji : (j : Int) < (T.size : Int) + 1 := by omega
          have HS : Hid (hText H0 ((T ++ ⟨#[10]⟩).data.toList.take (j + 1)) = hstep (hText H0 ((T ++ ⟨#[10]⟩).data.toList.take j)) (T ++ ⟨#[10]⟩ : ByteArray)[j]) := by
            unfold Hid; rw [take_snoc _ _ hsz, hText_snoc]
          have t1 : (0 : Int) ≤ ((T ++ ⟨#[10]⟩ : ByteArray)[j].toNat : Int) := by omega
          have t2 : ((T ++ ⟨#[10]⟩ : ByteArray)[j].toNat : Int) ≤ 255 := by have := UInt8.toNat_lt (T ++ ⟨#[10]⟩ : ByteArray)[j]; omega
          generalize hText H0 ((T ++ ⟨#[10]⟩).data.toList.take j) = H1 at *
          go_wp2
          refine ⟨⟨j + 1, by omega, by go_num, by rw [HS.out]; rfl⟩, ?_⟩
          simp [intOf]
          omega
        · have HJ : Hid (hText H0 ((T ++ ⟨#[10]⟩).data.toList.take j) = hAll f (k + 1)) := by
            unfold Hid
            rw [HA.out, List.take_of_length_le]
            have : (T ++ ⟨#[10]⟩ : ByteArray).size = T.size + 1 := ByteArray.size_append
            simp at this ⊢
            omega
          go_wp2
          go_roundw
          case rel => exact ⟨k + 1, by omega, by go_num, by rw [HJ.out], hB2⟩
          case measure => simp [intOf]; omega
    · go_wp2
      have e : k = len := by omega
      subst e
      go_ret
      exact ⟨rfl, hb⟩

theorem group_any (a : Option Addr) (len cap : Nat) (f : Nat → Go.Proofs.YtobhccmnlmlapaaGreatDoor.V) (w : World) (hl : Go.Proofs.YtobhccmnlmlapaaGreatDoor.Lies w a len f) (hG : GoodF f len) (hm : len ≤ maxLen) (ht : Tab w) :
    Calls Tryz.prog 59 #[.slice a len cap] w fun e w' => e = .returned (.int .i64 (hAll f len % 32)) ∧ Below w.heap.size w w' := by
  obtain ⟨g0, g1⟩ := hAll_bd f len
  go_enter Tryz.func59, Tryz.ntmps59
  go_wp2_with (first | (go_at_call 88; refine (hash_any a len cap f w hl hG hm ht).mono ?_; rintro e w2 ⟨rfl, hbb⟩))
  go_ret
  exact ⟨rfl, hbb⟩
theorem refGroup_any (a : Option Addr) (len cap : Nat) (f : Nat → Go.Proofs.YtobhccmnlmlapaaGreatDoor.V) (w : World) (hl : Go.Proofs.YtobhccmnlmlapaaGreatDoor.Lies w a len f) (hG : GoodF f len) (hm : len ≤ maxLen) :
    Calls Tryz.prog 14 #[.slice a len cap] w fun e w' => e = .returned (.int .i64 (hAll f len % 32)) ∧ Below w.heap.size w w' := by
  obtain ⟨g0, g1⟩ := hAll_bd f len
  go_enter Tryz.func14, Tryz.ntmps14
  go_wp2_with (first | (go_at_call 44; refine (refHash_any a len cap f w hl hG hm).mono ?_; rintro e w2 ⟨rfl, hbb⟩))
  go_ret
  exact ⟨rfl, hbb⟩

end Go.Proofs.YtobhccmnlmlapaaGreatDoor.Vl
namespace Go.Proofs.YtobhccmnlmlapaaGreatDoor
set_option linter.unusedVariables false
set_option linter.unusedSimpArgs false

/-- What is kept of a key for a window. -/
structure Ce where
  key : List V
  w : Wn
  d : List UInt8
instance : DecidableEq V := fun a b => decidable_of_iff _ (eqV_iff a b)

def ltN (x y : Wn) : Bool := if x.t = y.t then decide (x.f < y.f) else decide (x.t < y.t)
theorem ltN_irrefl (x : Wn) : ltN x x = false := by unfold ltN; simp
theorem ltN_tri (x y : Wn) (h1 : ltN x y = false) (h2 : ltN y x = false) : x = y := by
  unfold ltN at h1 h2
  by_cases h : x.t = y.t
  · rw [if_pos h] at h1
    rw [if_pos h.symm] at h2
    simp only [decide_eq_false_iff_not] at h1 h2
    exact Wn.eq_of (by omega) h
  · rw [if_neg h] at h1
    rw [if_neg (fun e => h e.symm)] at h2
    simp only [decide_eq_false_iff_not] at h1 h2
    omega
theorem ltN_trans (x y z : Wn) (h1 : ltN x y = true) (h2 : ltN y z = true) : ltN x z = true := by
  unfold ltN at *
  by_cases h : x.t = y.t
  · rw [if_pos h] at h1
    by_cases k : y.t = z.t
    · rw [if_pos k] at h2
      rw [if_pos (h.trans k)]
      simp only [decide_eq_true_eq] at *
      omega
    · rw [if_neg k] at h2
      rw [if_neg (by omega)]
      simp only [decide_eq_true_eq] at *
      omega
  · rw [if_neg h] at h1
    by_cases k : y.t = z.t
    · rw [if_neg (by omega)]
      simp only [decide_eq_true_eq] at *
      omega
    · rw [if_neg k] at h2
      simp only [decide_eq_true_eq] at *
      rw [if_neg (by omega), decide_eq_true_eq]
      omega
theorem ltN_ne {x y : Wn} (h : ltN x y = true) : x ≠ y := fun e => by rw [e, ltN_irrefl] at h; cases h
/-- Which of two cells comes first. -/
def ltC (a b : Ce) : Bool := if a.w = b.w then ltL a.key b.key else ltN a.w b.w
theorem ltC_irrefl (a : Ce) : ltC a a = false := by unfold ltC; simp [ltL_irrefl]
theorem ltC_tri (a b : Ce) (h1 : ltC a b = false) (h2 : ltC b a = false) : a.key = b.key ∧ a.w = b.w := by
  unfold ltC at h1 h2
  by_cases h : a.w = b.w
  · rw [if_pos h] at h1
    rw [if_pos h.symm] at h2
    exact ⟨ltL_tri _ _ h1 h2, h⟩
  · rw [if_neg h] at h1
    rw [if_neg (fun e => h e.symm)] at h2
    exact absurd (ltN_tri _ _ h1 h2) h
theorem ltC_trans (a b c : Ce) (h1 : ltC a b = true) (h2 : ltC b c = true) : ltC a c = true := by
  unfold ltC at *
  by_cases h : a.w = b.w
  · rw [if_pos h] at h1
    by_cases k : b.w = c.w
    · rw [if_pos k] at h2
      rw [if_pos (h.trans k)]
      exact ltL_trans _ _ _ h1 h2
    · rw [if_neg k] at h2
      rw [h, if_neg k]; exact h2
  · rw [if_neg h] at h1
    by_cases k : b.w = c.w
    · rw [← k, if_neg h]; exact h1
    · rw [if_neg k] at h2
      have := ltN_trans _ _ _ h1 h2
      rw [if_neg (ltN_ne this)]; exact this
theorem ltC_asymm (a b : Ce) (h : ltC a b = true) : ltC b a = false := by
  cases h' : ltC b a with
  | false => rfl
  | true => have := ltC_trans _ _ _ h h'; rw [ltC_irrefl] at this; cases this
/-- Cells that are alike but for their data come at one place. -/
theorem ltC_congr {a a' b b' : Ce} (h1 : a.key = a'.key) (h2 : a.w = a'.w) (h3 : b.key = b'.key) (h4 : b.w = b'.w) : ltC a b = ltC a' b' := by unfold ltC; rw [h1, h2, h3, h4]
theorem ltC_ntrans (a b c : Ce) (h1 : ltC a b = false) (h2 : ltC b c = false) : ltC a c = false := by
  cases h3 : ltC a c with
  | false => rfl
  | true =>
    cases h4 : ltC b a with
    | true => have := ltC_trans _ _ _ h4 h3; rw [h2] at this; cases this
    | false =>
      obtain ⟨e1, e2⟩ := ltC_tri _ _ h1 h4
      rw [ltC_congr (a := a) (a' := b) (b := c) (b' := c) e1 e2 rfl rfl, h2] at h3; cases h3
def AscC (l : List Ce) : Prop := l.Pairwise fun x y => ltC y x = false
/-- No two of one key and window. -/
def Apart (l : List Ce) : Prop := l.Pairwise fun x y => ¬ (x.key = y.key ∧ x.w = y.w)
theorem Apart.perm {l m : List Ce} (h : Apart l) (hp : l.Perm m) : Apart m := (hp.pairwise_iff (fun {x y} hx e => hx ⟨e.1.symm, e.2.symm⟩)).1 h
theorem Apart.one {l : List Ce} (h : Apart l) {a b : Ce} (ha : a ∈ l) (hb : b ∈ l) (hk : a.key = b.key) (hw : a.w = b.w) : a = b := by
  induction l with
  | nil => cases ha
  | cons x l ih =>
    obtain ⟨h1, h2⟩ := List.pairwise_cons.1 h
    rcases List.mem_cons.1 ha with ea | pa
    · rcases List.mem_cons.1 hb with eb | pb
      · rw [ea, eb]
      · exact absurd ⟨by rw [← ea]; exact hk, by rw [← ea]; exact hw⟩ (h1 b pb)
    · rcases List.mem_cons.1 hb with eb | pb
      · exact absurd ⟨by rw [← eb]; exact hk.symm, by rw [← eb]; exact hw.symm⟩ (h1 a pa)
      · exact ih h2 pa pb
theorem ascC_uniq {l m : List Ce} (hp : l.Perm m) (ha : Apart l) (h1 : AscC l) (h2 : AscC m) : l = m :=
  List.Perm.eq_of_pairwise (fun a b ha' hb' h h' => by
    obtain ⟨e1, e2⟩ := ltC_tri a b h' h
    exact ha.one ha' (hp.mem_iff.2 hb') e1 e2) h1 h2 hp
def srt (l : List Ce) : List Ce := l.mergeSort (fun a b => !ltC b a)
theorem srt_perm (l : List Ce) : (srt l).Perm l := List.mergeSort_perm _ _
theorem srt_asc (l : List Ce) : AscC (srt l) := by
  have h := List.pairwise_mergeSort (le := fun a b : Ce => !ltC b a) (fun a b c h1 h2 => by
    simp only [Bool.not_eq_true'] at *
    exact ltC_ntrans _ _ _ h2 h1) (fun a b => by
    cases h : ltC b a with
    | false => rfl
    | true => simp [ltC_asymm _ _ h]) l
  exact h.imp (fun h => by simpa using h)
theorem srt_of {ps l : List Ce} (hp : ps.Perm l) (ha : Apart l) (h : AscC ps) : ps = srt l :=
  ascC_uniq (hp.trans (srt_perm l).symm) (ha.perm hp.symm) h (srt_asc l)
theorem srt_congr {l m : List Ce} (hp : l.Perm m) (ha : Apart l) : srt l = srt m := srt_of ((srt_perm l).trans hp) (ha.perm hp) (srt_asc l)
/-- Ascending, with no two alike: each is ahead of all behind it. -/
theorem asc_strict {l : List Ce} (h : AscC l) (ha : Apart l) : l.Pairwise fun x y => ltC x y = true := by
  refine (h.and ha).imp fun {x y} hxy => ?_
  cases hl : ltC x y with
  | true => rfl
  | false => exact absurd (ltC_tri _ _ hl hxy.1) hxy.2

/-- A key's group. -/
def grp (vs : List V) : Nat := (Vl.hAll (vat vs) vs.length % 32).toNat
theorem grp_lt (vs : List V) : grp vs < 32 := by unfold grp; omega
theorem grp_int (vs : List V) : ((grp vs : Nat) : Int) = Vl.hAll (vat vs) vs.length % 32 := by unfold grp; omega
def encKey (vs : List V) : List UInt8 := vs.flatMap Wr.encVal
def encCe (c : Ce) : List UInt8 := Wr.encInt (c.key.length : Int) ++ encKey c.key ++ Wr.encInt c.w.f ++ Wr.encInt c.w.t ++ Wr.encInt (c.d.length : Int) ++ c.d
def encBody (l : List Ce) : List UInt8 := Wr.encInt (l.length : Int) ++ l.flatMap encCe
def wgh (k : List V) (d : List UInt8) : Nat := d.length + 64 * k.length + 32
def wg (c : Ce) : Nat := wgh c.key c.d
def wt (l : List Ce) : Nat := (l.map wg).sum
theorem wt_perm {l m : List Ce} (h : l.Perm m) : wt l = wt m := (h.map wg).sum_nat
theorem wt_nil : wt [] = 0 := rfl
theorem wt_cons (c : Ce) (l : List Ce) : wt (c :: l) = wg c + wt l := by simp [wt]
theorem wt_append (l m : List Ce) : wt (l ++ m) = wt l + wt m := by simp [wt]
theorem wt_len (l : List Ce) : l.length * 32 ≤ wt l := by
  induction l with
  | nil => simp [wt]
  | cons c l ih => rw [wt_cons, List.length_cons]; unfold wg wgh; omega
/-- Values that can be a key. -/
def vk (vs : List V) : Bool := Wr.validR ⟨0, vs⟩
/-- A window that can be kept. -/
def kp (w : Wn) : Bool := decide (-1048576 ≤ w.f) && decide (w.f < w.t) && decide (w.t ≤ 1099512676353)
theorem kp_iff (w : Wn) : kp w = true ↔ -1048576 ≤ w.f ∧ w.f < w.t ∧ w.t ≤ 1099512676353 := by unfold kp; simp [and_assoc]
theorem vk_iff (vs : List V) : vk vs = true ↔ (∀ v ∈ vs, Wr.validV v = true) ∧ vs.length ≤ 8 := by unfold vk Wr.validR; simp
/-- A cell that can be kept of groups. -/
def okC (lo hi : Int) (c : Ce) : Prop := vk c.key = true ∧ kp c.w = true ∧ lo ≤ (grp c.key : Int) ∧ (grp c.key : Int) < hi
/-- The bytes of a group's cells. -/
def ofG (l : List Ce) (g : Nat) : List Ce := srt (l.filter fun c => grp c.key == g)
def pcs (l : List Ce) (g : Nat) : Option (Nat × List UInt8) := if (ofG l g).length = 0 then none else some (g, Wr.sealed (encBody (ofG l g)))
def saveP (l : List Ce) : List (Nat × List UInt8) := (List.range 32).filterMap (pcs l)
theorem ofG_perm (l : List Ce) (g : Nat) : (ofG l g).Perm (l.filter fun c => grp c.key == g) := srt_perm _
theorem Apart.filter {l : List Ce} (h : Apart l) (p : Ce → Bool) : Apart (l.filter p) := List.Pairwise.sublist (List.filter_sublist) h
theorem ofG_congr {l m : List Ce} (hp : l.Perm m) (ha : Apart l) (g : Nat) : ofG l g = ofG m g := srt_congr (hp.filter _) (ha.filter _)
theorem saveP_congr {l m : List Ce} (hp : l.Perm m) (ha : Apart l) : saveP l = saveP m := by
  unfold saveP
  congr 1
  funext g
  unfold pcs
  rw [ofG_congr hp ha g]
theorem ofG_mem {l : List Ce} {g : Nat} {c : Ce} : c ∈ ofG l g ↔ c ∈ l ∧ grp c.key = g := by rw [(ofG_perm l g).mem_iff, List.mem_filter]; simp
theorem ofG_apart {l : List Ce} (ha : Apart l) (g : Nat) : Apart (ofG l g) := (ha.filter _).perm (ofG_perm l g).symm
theorem ofG_asc (l : List Ce) (g : Nat) : AscC (ofG l g) := srt_asc _
theorem wt_sub {l m : List Ce} (h : l.Sublist m) : wt l ≤ wt m := by
  induction h with
  | slnil => exact Nat.le_refl _
  | cons a h ih => rw [wt_cons]; omega
  | cons_cons a h ih => rw [wt_cons, wt_cons]; omega
theorem ofG_wt (l : List Ce) (g : Nat) : wt (ofG l g) ≤ wt l := by rw [wt_perm (ofG_perm l g)]; exact wt_sub List.filter_sublist

theorem encVal_len (v : V) (h : Wr.validV v = true) (h0 : -9223372036854775808 ≤ v.n) (h1 : v.n ≤ 9223372036854775807) : (Wr.encVal v).length ≤ 71 := by
  unfold Wr.encVal Wr.encTail
  have a := Wr.encInt_len v.n h0 h1
  by_cases h12 : v.k = 1 ∨ v.k = 2
  · rw [if_pos h12]; simp; omega
  · rw [if_neg h12]
    by_cases h3 : v.k = 3
    · have hs : v.s.size ≤ 60 := by
        unfold Wr.validV at h
        simp [h3] at h
        omega
      rw [if_pos h3]
      have b := Wr.encInt_len (v.s.size : Int) (by omega) (by omega)
      have e : v.s.data.toList.length = v.s.size := by simp
      simp only [List.length_cons, List.length_append]
      omega
    · rw [if_neg h3]; simp
end Go.Proofs.YtobhccmnlmlapaaGreatDoor
