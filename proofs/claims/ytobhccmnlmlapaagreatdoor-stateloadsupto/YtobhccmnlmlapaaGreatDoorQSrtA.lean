import Derived.Test.YtobhccmnlmlapaaGreatDoorGa
import Derived.Sort.Grow
namespace Go.Proofs.YtobhccmnlmlapaaGreatDoor
open Go.RowKit
set_option linter.unusedVariables false
attribute [local go_sem ↓] neq26 eql26
attribute [local go_sem] guard26

theorem compareG_1 (k1 n1 : Int) (s1 : ByteArray) (k2 n2 : Int) (s2 : ByteArray) (w : World) (h : k1 < k2) :
    Calls Tryz.prog 129 #[.agg #[.int .i64 k1, .int .i64 n1, .string s1], .agg #[.int .i64 k2, .int .i64 n2, .string s2]] w fun e w' => e = .returned (.int .i64 (-1)) ∧ Below w.heap.size w w' ∧ w.drawn ≤ w'.drawn := by
  have hmf := hmf
  go_enter Tryz.func129, Tryz.ntmps129
  go_wp2
  refine wp_loop_rounds 4 ?_
  rw [rounds_succ]; go_wp2
  go_ret
  exact ⟨rfl, bel3 _ _ _ _, Nat.le_refl _⟩

theorem compareG_2 (k1 n1 : Int) (s1 : ByteArray) (k2 n2 : Int) (s2 : ByteArray) (w : World) (h1 : ¬ k1 < k2) (h2 : k2 < k1) :
    Calls Tryz.prog 129 #[.agg #[.int .i64 k1, .int .i64 n1, .string s1], .agg #[.int .i64 k2, .int .i64 n2, .string s2]] w fun e w' => e = .returned (.int .i64 1) ∧ Below w.heap.size w w' ∧ w.drawn ≤ w'.drawn := by
  have hmf := hmf
  go_enter Tryz.func129, Tryz.ntmps129
  go_wp2
  refine wp_loop_rounds 4 ?_
  rw [rounds_succ]; go_wp2
  go_ret
  exact ⟨rfl, bel3 _ _ _ _, Nat.le_refl _⟩

theorem compareG_3 (k1 n1 : Int) (s1 : ByteArray) (k2 n2 : Int) (s2 : ByteArray) (w : World) (h1 : ¬ k1 < k2) (h2 : ¬ k2 < k1) (h3 : n1 < n2) :
    Calls Tryz.prog 129 #[.agg #[.int .i64 k1, .int .i64 n1, .string s1], .agg #[.int .i64 k2, .int .i64 n2, .string s2]] w fun e w' => e = .returned (.int .i64 (-1)) ∧ Below w.heap.size w w' ∧ w.drawn ≤ w'.drawn := by
  have hmf := hmf
  go_enter Tryz.func129, Tryz.ntmps129
  go_wp2
  refine wp_loop_rounds 4 ?_
  rw [rounds_succ]; go_wp2
  rw [rounds_succ]; go_wp2
  go_ret
  exact ⟨rfl, bel3 _ _ _ _, Nat.le_refl _⟩

theorem compareG_4 (k1 n1 : Int) (s1 : ByteArray) (k2 n2 : Int) (s2 : ByteArray) (w : World) (h1 : ¬ k1 < k2) (h2 : ¬ k2 < k1) (h3 : ¬ n1 < n2) (h4 : n2 < n1) :
    Calls Tryz.prog 129 #[.agg #[.int .i64 k1, .int .i64 n1, .string s1], .agg #[.int .i64 k2, .int .i64 n2, .string s2]] w fun e w' => e = .returned (.int .i64 1) ∧ Below w.heap.size w w' ∧ w.drawn ≤ w'.drawn := by
  have hmf := hmf
  go_enter Tryz.func129, Tryz.ntmps129
  go_wp2
  refine wp_loop_rounds 4 ?_
  rw [rounds_succ]; go_wp2
  rw [rounds_succ]; go_wp2
  go_ret
  exact ⟨rfl, bel3 _ _ _ _, Nat.le_refl _⟩

theorem compareG_5 (k1 n1 : Int) (s1 : ByteArray) (k2 n2 : Int) (s2 : ByteArray) (w : World) (h1 : ¬ k1 < k2) (h2 : ¬ k2 < k1) (h3 : ¬ n1 < n2) (h4 : ¬ n2 < n1) (h5 : Op.bytesLess s1.toList s2.toList = true) :
    Calls Tryz.prog 129 #[.agg #[.int .i64 k1, .int .i64 n1, .string s1], .agg #[.int .i64 k2, .int .i64 n2, .string s2]] w fun e w' => e = .returned (.int .i64 (-1)) ∧ Below w.heap.size w w' ∧ w.drawn ≤ w'.drawn := by
  have hmf := hmf
  go_enter Tryz.func129, Tryz.ntmps129
  go_wp2
  refine wp_loop_rounds 4 ?_
  rw [rounds_succ]; go_wp2
  rw [rounds_succ]; go_wp2
  rw [rounds_succ]; go_wp2
  go_ret
  exact ⟨rfl, bel3 _ _ _ _, Nat.le_refl _⟩

theorem compareG_6 (k1 n1 : Int) (s1 : ByteArray) (k2 n2 : Int) (s2 : ByteArray) (w : World) (h1 : ¬ k1 < k2) (h2 : ¬ k2 < k1) (h3 : ¬ n1 < n2) (h4 : ¬ n2 < n1) (h5 : Op.bytesLess s1.toList s2.toList = false) (h6 : (s1.toList == s2.toList) = false) :
    Calls Tryz.prog 129 #[.agg #[.int .i64 k1, .int .i64 n1, .string s1], .agg #[.int .i64 k2, .int .i64 n2, .string s2]] w fun e w' => e = .returned (.int .i64 1) ∧ Below w.heap.size w w' ∧ w.drawn ≤ w'.drawn := by
  have hmf := hmf
  go_enter Tryz.func129, Tryz.ntmps129
  go_wp2
  refine wp_loop_rounds 4 ?_
  rw [rounds_succ]; go_wp2
  rw [rounds_succ]; go_wp2
  rw [rounds_succ]; go_wp2
  go_ret
  exact ⟨rfl, bel3 _ _ _ _, Nat.le_refl _⟩

theorem compareG_7 (k1 n1 : Int) (s1 : ByteArray) (k2 n2 : Int) (s2 : ByteArray) (w : World) (h1 : ¬ k1 < k2) (h2 : ¬ k2 < k1) (h3 : ¬ n1 < n2) (h4 : ¬ n2 < n1) (h5 : Op.bytesLess s1.toList s2.toList = false) (h6 : (s1.toList == s2.toList) = true) :
    Calls Tryz.prog 129 #[.agg #[.int .i64 k1, .int .i64 n1, .string s1], .agg #[.int .i64 k2, .int .i64 n2, .string s2]] w fun e w' => e = .returned (.int .i64 0) ∧ Below w.heap.size w w' ∧ w.drawn ≤ w'.drawn := by
  have hmf := hmf
  go_enter Tryz.func129, Tryz.ntmps129
  go_wp2
  refine wp_loop_rounds 4 ?_
  rw [rounds_succ]; go_wp2
  rw [rounds_succ]; go_wp2
  rw [rounds_succ]; go_wp2
  rw [rounds_succ]; go_wp2
  go_ret
  exact ⟨rfl, bel3 _ _ _ _, Nat.le_refl _⟩

theorem compareG_any (k1 n1 : Int) (s1 : ByteArray) (k2 n2 : Int) (s2 : ByteArray) (w : World) :
    Calls Tryz.prog 129 #[.agg #[.int .i64 k1, .int .i64 n1, .string s1], .agg #[.int .i64 k2, .int .i64 n2, .string s2]] w fun e w' => e = .returned (.int .i64 (cmpV k1 n1 s1 k2 n2 s2)) ∧ Below w.heap.size w w' ∧ w.drawn ≤ w'.drawn := by
  unfold cmpV cmpS
  by_cases h1 : k1 < k2
  · rw [if_pos h1]; exact compareG_1 k1 n1 s1 k2 n2 s2 w h1
  rw [if_neg h1]
  by_cases h2 : k2 < k1
  · rw [if_pos h2]; exact compareG_2 k1 n1 s1 k2 n2 s2 w h1 h2
  rw [if_neg h2]
  by_cases h3 : n1 < n2
  · rw [if_pos h3]; exact compareG_3 k1 n1 s1 k2 n2 s2 w h1 h2 h3
  rw [if_neg h3]
  by_cases h4 : n2 < n1
  · rw [if_pos h4]; exact compareG_4 k1 n1 s1 k2 n2 s2 w h1 h2 h3 h4
  rw [if_neg h4]
  by_cases h5 : Op.bytesLess s1.toList s2.toList = true
  · rw [if_pos h5]; exact compareG_5 k1 n1 s1 k2 n2 s2 w h1 h2 h3 h4 h5
  rw [if_neg h5]
  by_cases h6 : (s1.toList == s2.toList) = true
  · rw [if_pos h6]; exact compareG_7 k1 n1 s1 k2 n2 s2 w h1 h2 h3 h4 (by simpa using h5) h6
  rw [if_neg h6]
  exact compareG_6 k1 n1 s1 k2 n2 s2 w h1 h2 h3 h4 (by simpa using h5) (by simpa using h6)
set_option maxHeartbeats 400000 in
theorem compareListsG (a1 : Option Addr) (l1 c1 : Nat) (a2 : Option Addr) (l2 c2 : Nat) (f g : Nat → V) (w : World) (h1 : Lies w a1 l1 f) (h2 : Lies w a2 l2 g) (m1 : l1 ≤ maxLen) (m2 : l2 ≤ maxLen) :
    Calls Tryz.prog 112 #[.slice a1 l1 c1, .slice a2 l2 c2] w fun e w' => e = .returned (.int .i64 (cmpFrom f g l1 l2 (min l1 l2) 0)) ∧ Below w.heap.size w w' ∧ w.drawn ≤ w'.drawn := by
  unfold maxLen at m1 m2
  go_enter Tryz.func112, Tryz.ntmps112
  go_wp2
  all_goals
    go_loopw [11] (fun i w' => ∃ k : Nat, k ≤ l1 ∧ k ≤ l2 ∧ i = .int .i64 k ∧ Below w.heap.size w w' ∧ w.drawn ≤ w'.drawn ∧ cmpFrom f g l1 l2 (min l1 l2) 0 = cmpFrom f g l1 l2 (min l1 l2 - k) k) (fun i _ => l1 - (intOf i).toNat)
    case atStart => exact ⟨0, Nat.zero_le _, Nat.zero_le _, rfl, Below.refl _ _, Nat.le_refl _, rfl⟩
    case round =>
      rename_i wr _
      obtain ⟨k, hk1, hk2, rfl, hb, hd0, hE0⟩ := hrel
      have HD : Hid (w.drawn ≤ wr.drawn) := hd0
      clear hd0
      have HE : Hid (cmpFrom f g l1 l2 (min l1 l2) 0 = cmpFrom f g l1 l2 (min l1 l2 - k) k) := hE0
      clear hE0
      by_cases hlt : k < min l1 l2
      · have hlt1 : k < l1 := by omega
        have hlt2 : k < l2 := by omega
        have hi1 : (k : Int) < (l1 : Int) := by omega
        have hi2 : (k : Int) < (l2 : Int) := by omega
        obtain ⟨b1, o1, rfl, ha1, ha2, ha3⟩ := h1.later hb k hlt1
        obtain ⟨b2, o2, rfl, hb1, hb2, hb3⟩ := h2.later hb k hlt2
        have HS : Hid (cmpFrom f g l1 l2 (min l1 l2 - k) k = if eqB (f k).k (f k).n (f k).s (g k).k (g k).n (g k).s = true then cmpFrom f g l1 l2 (min l1 l2 - (k + 1)) (k + 1) else cmpV (f k).k (f k).n (f k).s (g k).k (g k).n (g k).s) := by
          unfold Hid
          rw [show min l1 l2 - k = (min l1 l2 - (k + 1)) + 1 by omega]; rfl
        clear h1 h2
        cases hq : eqB (f k).k (f k).n (f k).s (g k).k (g k).n (g k).s with
        | true =>
          have HS' : Hid (cmpFrom f g l1 l2 (min l1 l2) 0 = cmpFrom f g l1 l2 (min l1 l2 - (k + 1)) (k + 1)) := by
            unfold Hid; rw [HE.out, HS.out, if_pos hq]
          go_wp2
          go_quiet (fail)
          go_wp2
          go_roundw
          case rel => exact ⟨k + 1, by omega, by omega, by go_num, below_drewN hb _, Nat.le_trans HD.out (Nat.le_add_right _ _), HS'.out⟩
          case measure => simp [intOf]; omega
        | false =>
          have HS' : Hid (cmpFrom f g l1 l2 (min l1 l2) 0 = cmpV (f k).k (f k).n (f k).s (g k).k (g k).n (g k).s) := by
            unfold Hid; rw [HE.out, HS.out, if_neg (by simp [hq])]
          go_wp2
          go_quiet (fail)
          go_wp2
          go_region_held3 (fun w' => w'.cell? ⟨b1, o1 + k * 3, none⟩ = some (.int .i64 (f k).k) ∧ w'.cell? ⟨b1, o1 + k * 3 + 1, none⟩ = some (.int .i64 (f k).n) ∧ w'.cell? ⟨b1, o1 + k * 3 + 2, none⟩ = some (.string (f k).s)
              ∧ w'.cell? ⟨b2, o2 + k * 3, none⟩ = some (.int .i64 (g k).k) ∧ w'.cell? ⟨b2, o2 + k * 3 + 1, none⟩ = some (.int .i64 (g k).n) ∧ w'.cell? ⟨b2, o2 + k * 3 + 2, none⟩ = some (.string (g k).s))
            (first | go_keep | (go_split_ands; exact ⟨cell_later ‹_› ‹_›, cell_later ‹_› ‹_›, cell_later ‹_› ‹_›, cell_later ‹_› ‹_›, cell_later ‹_› ‹_›, cell_later ‹_› ‹_›⟩))
            (first | (go_at_call 129; refine (compareG_any _ _ _ _ _ _ _).mono ?_; rintro e w' ⟨rfl, hbb, hdd0⟩; have hdd : Hid (_ ≤ w'.drawn) := hdd0; clear hdd0))
          go_wp2
          go_ret
          exact ⟨ret_int HS'.out.symm, hb.trans (((below_drewN (Below.refl _ wr) _).trans hbb).mono hb.size), Nat.le_trans (Nat.le_trans HD.out (Nat.le_add_right _ _)) hdd.out⟩
      · have e : min l1 l2 - k = 0 := by omega
        have HS' : Hid (cmpFrom f g l1 l2 (min l1 l2) 0 = cmpI l1 l2) := by unfold Hid; rw [HE.out, e]; rfl
        have hno1 : ¬ ((k : Int) < (min l1 l2 : Nat)) := by omega
        go_wp2_with (first | (go_at_call 130; refine (cmpLen _ _ _).mono ?_; rintro e w' ⟨rfl, rfl⟩))
        go_ret
        exact ⟨ret_int HS'.out.symm, hb, HD.out⟩
set_option maxHeartbeats 400000 in
theorem compareRowsG_1 (s t : Int) (a1 : Option Addr) (l1 c1 : Nat) (a2 : Option Addr) (l2 c2 : Nat) (w : World) (h : s < t) :
    Calls Tryz.prog 74 #[.agg #[.int .i64 s, .slice a1 l1 c1], .agg #[.int .i64 t, .slice a2 l2 c2]] w fun e w' => e = .returned (.int .i64 (-1)) ∧ Below w.heap.size w w' ∧ w.drawn ≤ w'.drawn := by
  have hmf := hmf
  go_enter Tryz.func74, Tryz.ntmps74
  go_wp2
  refine wp_loop_rounds 3 ?_
  rw [rounds_succ]; go_wp2
  go_ret
  exact ⟨rfl, bel3 _ _ _ _, Nat.le_refl _⟩
set_option maxHeartbeats 400000 in
theorem compareRowsG_2 (s t : Int) (a1 : Option Addr) (l1 c1 : Nat) (a2 : Option Addr) (l2 c2 : Nat) (w : World) (h1 : ¬ s < t) (h2 : t < s) :
    Calls Tryz.prog 74 #[.agg #[.int .i64 s, .slice a1 l1 c1], .agg #[.int .i64 t, .slice a2 l2 c2]] w fun e w' => e = .returned (.int .i64 1) ∧ Below w.heap.size w w' ∧ w.drawn ≤ w'.drawn := by
  have hmf := hmf
  go_enter Tryz.func74, Tryz.ntmps74
  go_wp2
  refine wp_loop_rounds 3 ?_
  rw [rounds_succ]; go_wp2
  go_ret
  exact ⟨rfl, bel3 _ _ _ _, Nat.le_refl _⟩

set_option maxHeartbeats 400000 in
theorem compareRowsG_3 (s t : Int) (a1 : Option Addr) (l1 c1 : Nat) (a2 : Option Addr) (l2 c2 : Nat) (f g : Nat → V) (w : World) (h1 : Lies w a1 l1 f) (h2 : Lies w a2 l2 g) (m1 : l1 ≤ maxLen) (m2 : l2 ≤ maxLen) (h3 : ¬ s < t) (h4 : ¬ t < s) :
    Calls Tryz.prog 74 #[.agg #[.int .i64 s, .slice a1 l1 c1], .agg #[.int .i64 t, .slice a2 l2 c2]] w fun e w' => e = .returned (.int .i64 (cmpFrom f g l1 l2 (min l1 l2) 0)) ∧ Below w.heap.size w w' ∧ w.drawn ≤ w'.drawn := by
  have hmf := hmf
  have H1 : Hid (Lies w a1 l1 f) := h1
  have H2 : Hid (Lies w a2 l2 g) := h2
  clear h1 h2
  generalize hc : cmpFrom f g l1 l2 (min l1 l2) 0 = c
  have Hc : Hid (cmpFrom f g l1 l2 (min l1 l2) 0 = c) := hc
  clear hc
  cases hz : (c != 0) with
  | true =>
    go_enter Tryz.func74, Tryz.ntmps74
    go_wp2
    refine wp_loop_rounds 3 ?_
    rw [rounds_succ]; go_wp2
    rw [rounds_succ]
    go_wp2_with (first | (go_at_call 112; refine (compareListsG _ _ _ _ _ _ f g _ (H1.out.later (bel3 _ _ _ _)) (H2.out.later (bel3 _ _ _ _)) m1 m2).mono ?_; rw [Hc.out]; rintro e w' ⟨rfl, hbb, hdd0⟩; have hdd : Hid (_ ≤ w'.drawn) := hdd0; clear hdd0) | go_in)
    go_ret
    exact ⟨rfl, (bel3 w _ _ _).trans (hbb.mono (by simp; omega)), hdd.out⟩
  | false =>
    have hc0 : Hid (c = 0) := by unfold Hid; simpa using hz
    go_enter Tryz.func74, Tryz.ntmps74
    go_wp2
    refine wp_loop_rounds 3 ?_
    rw [rounds_succ]; go_wp2
    rw [rounds_succ]
    go_wp2_with (first | (go_at_call 112; refine (compareListsG _ _ _ _ _ _ f g _ (H1.out.later (bel3 _ _ _ _)) (H2.out.later (bel3 _ _ _ _)) m1 m2).mono ?_; rw [Hc.out]; rintro e w' ⟨rfl, hbb, hdd0⟩; have hdd : Hid (_ ≤ w'.drawn) := hdd0; clear hdd0) | go_in)
    rw [rounds_succ]; go_wp2
    go_ret
    exact ⟨ret_int hc0.out.symm, (bel3 w _ _ _).trans (hbb.mono (by simp; omega)), hdd.out⟩

theorem compareRowsG_any (s t : Int) (a1 : Option Addr) (l1 c1 : Nat) (a2 : Option Addr) (l2 c2 : Nat) (f g : Nat → V) (w : World) (h1 : Lies w a1 l1 f) (h2 : Lies w a2 l2 g) (m1 : l1 ≤ maxLen) (m2 : l2 ≤ maxLen) :
    Calls Tryz.prog 74 #[.agg #[.int .i64 s, .slice a1 l1 c1], .agg #[.int .i64 t, .slice a2 l2 c2]] w fun e w' => e = .returned (.int .i64 (cmpRow s t f g l1 l2)) ∧ Below w.heap.size w w' ∧ w.drawn ≤ w'.drawn := by
  unfold cmpRow
  by_cases h3 : s < t
  · rw [if_pos h3]; exact compareRowsG_1 s t a1 l1 c1 a2 l2 c2 w h3
  rw [if_neg h3]
  by_cases h4 : t < s
  · rw [if_pos h4]; exact compareRowsG_2 s t a1 l1 c1 a2 l2 c2 w h3 h4
  rw [if_neg h4]
  exact compareRowsG_3 s t a1 l1 c1 a2 l2 c2 f g w h1 h2 m1 m2 h3 h4

end Go.Proofs.YtobhccmnlmlapaaGreatDoor
