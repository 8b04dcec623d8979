import Derived.Test.YtakbnhknkbmhlaaOrdP
namespace Go.Proofs.Ytakbnhknkbmhlaa
open Go.RowKit
set_option linter.unusedVariables false
attribute [local go_sem ↓] neq26 eql26
attribute [local go_sem] guard26
attribute [local go_sem ↓] Go.wp_at_zero Go.wp_at_succ

set_option maxHeartbeats 1000000 in
theorem orders_walk (s t : Int) (a1 : Option Addr) (l1 c1 : Nat) (a2 : Option Addr) (l2 c2 : Nat) (f g : Nat → V) (w : World) (h1 : Lies w a1 l1 f) (h2 : Lies w a2 l2 g) (m1 : l1 ≤ maxLen) (m2 : l2 ≤ maxLen) :
    Calls Try.prog 3 #[.slice a1 l1 c1, .slice a2 l2 c2, .int .i64 s, .int .i64 t] w fun e w' => e = .returned (.bool true) ∧ Below w.heap.size w w' := by
  have M1 : Hid (l1 ≤ maxLen) := m1
  have M2 : Hid (l2 ≤ maxLen) := m2
  unfold maxLen at m1 m2
  go_enter Try.func3, Try.ntmps3
  go_wp2
  go_loopw [9] (fun i w' => ∃ k : Nat, k ≤ l1 ∧ k ≤ l2 ∧ i = .int .i64 k ∧ Below w.heap.size w w') (fun i _ => l1 - (intOf i).toNat)
  case atStart => exact ⟨0, Nat.zero_le _, Nat.zero_le _, rfl, Below.refl _ _⟩
  case round =>
    rename_i wr _
    obtain ⟨k, hk1, hk2, rfl, hb⟩ := hrel
    by_cases hlt : k < l1 ∧ k < l2
    · obtain ⟨hlt1, hlt2⟩ := hlt
      have hi1 : (k : Int) < (l1 : Int) := by omega
      have hi2 : (k : Int) < (l2 : Int) := by omega
      obtain ⟨b1, o1, rfl, ha1, ha2, ha3⟩ := h1.later hb k hlt1
      obtain ⟨b2, o2, rfl, hb1, hb2, hb3⟩ := h2.later hb k hlt2
      clear h1 h2
      have HV : Hid (cmpV (f k).k (f k).n (f k).s (g k).k (g k).n (g k).s = sg (ltV (f k).k (f k).n (f k).s (g k).k (g k).n (g k).s) (eqB (f k).k (f k).n (f k).s (g k).k (g k).n (g k).s)) := cmpV_sg _ _ _ _ _ _
      go_wp2
      go_region_held3 (fun w' => w'.cell? ⟨b1, o1 + k * 3, none⟩ = some (.int .i64 (f k).k) ∧ w'.cell? ⟨b1, o1 + k * 3 + 1, none⟩ = some (.int .i64 (f k).n) ∧ w'.cell? ⟨b1, o1 + k * 3 + 2, none⟩ = some (.string (f k).s)
          ∧ w'.cell? ⟨b2, o2 + k * 3, none⟩ = some (.int .i64 (g k).k) ∧ w'.cell? ⟨b2, o2 + k * 3 + 1, none⟩ = some (.int .i64 (g k).n) ∧ w'.cell? ⟨b2, o2 + k * 3 + 2, none⟩ = some (.string (g k).s))
        (first | go_keep | (go_split_ands; exact ⟨cell_later ‹_› ‹_›, cell_later ‹_› ‹_›, cell_later ‹_› ‹_›, cell_later ‹_› ‹_›, cell_later ‹_› ‹_›, cell_later ‹_› ‹_›⟩))
        (first | (go_at_call 5; refine (compare_any _ _ _ _ _ _ _).mono ?_; rw [HV.out]; rintro e w1 ⟨rfl, hbb⟩))
      rename_i hh
      obtain ⟨ha1', ha2', ha3', hb1', hb2', hb3'⟩ := hh
      have hB1 : Below w.heap.size w w1 := hb.trans (((below_drewN (Below.refl _ wr) _).trans hbb).mono hb.size)
      clear ha1 ha2 ha3 hb1 hb2 hb3 hbb hb
      go_wp2
      go_region_held3 (fun w' => w'.cell? ⟨b1, o1 + k * 3, none⟩ = some (.int .i64 (f k).k) ∧ w'.cell? ⟨b1, o1 + k * 3 + 1, none⟩ = some (.int .i64 (f k).n) ∧ w'.cell? ⟨b1, o1 + k * 3 + 2, none⟩ = some (.string (f k).s)
          ∧ w'.cell? ⟨b2, o2 + k * 3, none⟩ = some (.int .i64 (g k).k) ∧ w'.cell? ⟨b2, o2 + k * 3 + 1, none⟩ = some (.int .i64 (g k).n) ∧ w'.cell? ⟨b2, o2 + k * 3 + 2, none⟩ = some (.string (g k).s))
        (first | go_keep | (go_split_ands; exact ⟨cell_later ‹_› ‹_›, cell_later ‹_› ‹_›, cell_later ‹_› ‹_›, cell_later ‹_› ‹_›, cell_later ‹_› ‹_›, cell_later ‹_› ‹_›⟩))
        (first | (go_at_call 6; refine (before_any _ _ _ _ _ _ _).mono ?_; rintro e w2 ⟨rfl, hbb⟩))
      rename_i hh
      obtain ⟨ha1, ha2, ha3, hb1, hb2, hb3⟩ := hh
      have hB2 : Below w.heap.size w w2 := hB1.trans (((below_drewN (Below.refl _ w1) _).trans hbb).mono hB1.size)
      clear ha1' ha2' ha3' hb1' hb2' hb3' hbb hB1
      go_wp2
      go_region_held3 (fun w' => w'.cell? ⟨b1, o1 + k * 3, none⟩ = some (.int .i64 (f k).k) ∧ w'.cell? ⟨b1, o1 + k * 3 + 1, none⟩ = some (.int .i64 (f k).n) ∧ w'.cell? ⟨b1, o1 + k * 3 + 2, none⟩ = some (.string (f k).s)
          ∧ w'.cell? ⟨b2, o2 + k * 3, none⟩ = some (.int .i64 (g k).k) ∧ w'.cell? ⟨b2, o2 + k * 3 + 1, none⟩ = some (.int .i64 (g k).n) ∧ w'.cell? ⟨b2, o2 + k * 3 + 2, none⟩ = some (.string (g k).s))
        (first | go_keep | (go_split_ands; exact ⟨cell_later ‹_› ‹_›, cell_later ‹_› ‹_›, cell_later ‹_› ‹_›, cell_later ‹_› ‹_›, cell_later ‹_› ‹_›, cell_later ‹_› ‹_›⟩))
        (first | (go_at_call 7; refine (sign_any _ _ _).mono ?_; rintro e w3 ⟨rfl, rfl⟩))
      go_wp2
      go_roundw
      case rel => exact ⟨k + 1, by omega, by omega, by go_num, by first | exact hB2 | exact below_drewN hB2 _⟩
      case measure => simp [intOf]; omega
    · have HH : Hid (cmpRow s t f g l1 l2 = sg (ltRow s t f g l1 l2) (!ltRow s t f g l1 l2 && !ltRow t s g f l2 l1)) := row_sg s t f g l1 l2
      have h1 := h1.later hb
      have h2 := h2.later hb
      have H1 : Hid (Lies wr a1 l1 f) := h1
      have H2 : Hid (Lies wr a2 l2 g) := h2
      clear h1 h2
      by_cases hl : k < l1
      all_goals
        go_wp2_with fail
        have hW : Below wr.heap.size wr ((wr.alloc (Obj.cells #[Value.int IntKind.i64 s, Value.slice a1 l1 c1] 30)).alloc (Obj.cells #[Value.int IntKind.i64 t, Value.slice a2 l2 c2] 30)) := bel2 _ _ _
        have d0 : ((wr.alloc (Obj.cells #[Value.int IntKind.i64 s, Value.slice a1 l1 c1] 30)).alloc (Obj.cells #[Value.int IntKind.i64 t, Value.slice a2 l2 c2] 30)).cell? ⟨wr.heap.size, 0, none⟩ = some (.int .i64 s) := by go_simp
        have d1 : ((wr.alloc (Obj.cells #[Value.int IntKind.i64 s, Value.slice a1 l1 c1] 30)).alloc (Obj.cells #[Value.int IntKind.i64 t, Value.slice a2 l2 c2] 30)).cell? ⟨wr.heap.size, 1, none⟩ = some (.slice a1 l1 c1) := by go_simp
        have d2 : ((wr.alloc (Obj.cells #[Value.int IntKind.i64 s, Value.slice a1 l1 c1] 30)).alloc (Obj.cells #[Value.int IntKind.i64 t, Value.slice a2 l2 c2] 30)).cell? ⟨wr.heap.size + 1, 0, none⟩ = some (.int .i64 t) := by go_simp
        have d3 : ((wr.alloc (Obj.cells #[Value.int IntKind.i64 s, Value.slice a1 l1 c1] 30)).alloc (Obj.cells #[Value.int IntKind.i64 t, Value.slice a2 l2 c2] 30)).cell? ⟨wr.heap.size + 1, 1, none⟩ = some (.slice a2 l2 c2) := by go_simp
        generalize ((wr.alloc (Obj.cells #[Value.int IntKind.i64 s, Value.slice a1 l1 c1] 30)).alloc (Obj.cells #[Value.int IntKind.i64 t, Value.slice a2 l2 c2] 30)) = W at *
        refine (compareRows_any s t a1 l1 c1 a2 l2 c2 f g W (H1.out.later hW) (H2.out.later hW) M1.out M2.out).mono ?_
        rw [HH.out]
        rintro e w1 ⟨rfl, hb1⟩
        have H1' : Hid (Lies w1 a1 l1 f) := (H1.out.later hW).later hb1
        have H2' : Hid (Lies w1 a2 l2 g) := (H2.out.later hW).later hb1
        have e0 := cell_later hb1 d0
        have e1 := cell_later hb1 d1
        have e2 := cell_later hb1 d2
        have e3 := cell_later hb1 d3
        have hB : Below w.heap.size w w1 := hb.trans ((hW.trans (hb1.mono hW.size)).mono hb.size)
        clear d0 d1 d2 d3 hb1 hW H1 H2 hb
        go_wp2_with fail
        refine (rowBefore_any s t a1 l1 c1 a2 l2 c2 f g w1 H1'.out H2'.out M1.out M2.out).mono ?_
        rintro e w2 ⟨rfl, hb2⟩
        have H1 : Hid (Lies w2 a1 l1 f) := H1'.out.later hb2
        have H2 : Hid (Lies w2 a2 l2 g) := H2'.out.later hb2
        have f0 := cell_later hb2 e0
        have f1 := cell_later hb2 e1
        have f2 := cell_later hb2 e2
        have f3 := cell_later hb2 e3
        have hB2 : Below w.heap.size w w2 := hB.trans (hb2.mono hB.size)
        clear e0 e1 e2 e3 hb2 H1' H2' hB
        go_wp2_with fail
        refine (rowBefore_any t s a2 l2 c2 a1 l1 c1 g f w2 H2.out H1.out M2.out M1.out).mono ?_
        rintro e w3 ⟨rfl, hb3⟩
        have hB3 : Below w.heap.size w w3 := hB2.trans (hb3.mono hB2.size)
        clear f0 f1 f2 f3 hb3 H1 H2 hB2
        clear HH
        generalize ltRow s t f g l1 l2 = L
        generalize ltRow t s g f l2 l1 = M
        cases L <;> cases M
        all_goals
          go_wp2_with (first | (go_at_call 7; refine (sign_any _ _ _).mono ?_; rintro e w4 ⟨rfl, rfl⟩))
          go_ret
          exact ⟨ret_bool (by simp), hB3⟩
end Go.Proofs.Ytakbnhknkbmhlaa
