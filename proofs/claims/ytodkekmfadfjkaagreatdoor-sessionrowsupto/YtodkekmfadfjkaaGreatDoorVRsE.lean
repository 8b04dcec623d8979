import Derived.Test.YtodkekmfadfjkaaGreatDoorVBkA
namespace Go.Proofs.YtodkekmfadfjkaaGreatDoor.Vl
open Go.RowKit
set_option linter.unusedVariables false
set_option maxRecDepth 100000

/-- What the library's tests say of a letter that is a digit, and of one that is none. -/
def LOk (X L : Nat) : Prop := (48 ≤ X ∧ X ≤ 57) ∨ (57 < X ∧ 97 ≤ L ∧ L ≤ 102)
def LNo (X L : Nat) : Prop := (X < 48 ∧ L < 97) ∨ (57 < X ∧ L < 97) ∨ (57 < X ∧ 122 < L) ∨ (57 < X ∧ 102 < L ∧ L ≤ 122)
theorem low_cases : ∀ X : Fin 256, (48 ≤ X.val ∧ X.val ≤ 57) ∨ (57 < X.val ∧ 97 ≤ X.val ||| 32 ∧ X.val ||| 32 ≤ 102) ∨ (X.val < 48 ∧ X.val ||| 32 < 97) ∨ (57 < X.val ∧ X.val ||| 32 < 97) ∨ (57 < X.val ∧ 122 < X.val ||| 32) ∨ (57 < X.val ∧ 102 < X.val ||| 32 ∧ X.val ||| 32 ≤ 122) := by decide
theorem letter (X : Nat) (h : X < 256) : LOk X (X ||| 32) ∨ LNo X (X ||| 32) := by
  rcases low_cases ⟨X, h⟩ with h | h | h | h | h | h
  · exact .inl (.inl h)
  · exact .inl (.inr h)
  · exact .inr (.inl h)
  · exact .inr (.inr (.inl h))
  · exact .inr (.inr (.inr (.inl h)))
  · exact .inr (.inr (.inr (.inr h)))
theorem ne95 {X L : Nat} (hl : bits .or .u8 (X : Int) 32 = (L : Int)) (h : L ≤ 102) : ((X : Int) == 95) = false := by
  rw [beq_eq_false_iff_ne]
  intro h95
  rw [h95, show bits .or .u8 95 32 = 127 by decide +kernel] at hl
  omega
def P16 (W : World) (e : Ending) (w' : World) : Prop := w' = W ∧ ((∃ v : Nat, v < 256 ∧ e = .returned (.tuple #[.int .u64 (v : Int), .nilIface])) ∨ e = .returned (.tuple #[.int .u64 0, .iface 128 (.int .i64 2)]))

set_option maxHeartbeats 4000000 in
theorem parse16_no1 (s : ByteArray) (X1 X2 L1 cap : Nat) (w W : World) (hsz : s.size = 2) (hne : s.toList.isEmpty = false)
    (hcv : (convert 9 46 (.string s)).run Tryz.prog w = .ok (.slice (some ⟨w.heap.size, 0, none⟩) 2 cap) W)
    (k0 : W.cell? ⟨w.heap.size, 0, none⟩ = some (.int .u8 (X1 : Int))) (k1 : W.cell? ⟨w.heap.size, 1, none⟩ = some (.int .u8 (X2 : Int))) (x1 : X1 < 256) (hl1 : bits .or .u8 (X1 : Int) 32 = (L1 : Int)) (b1 : L1 < 256) (d1 : LNo X1 L1) :
    Calls Tryz.prog 80 #[.string s, .int .i64 16, .int .i64 8] w (P16 W) := by
  have FIN : Hid (P16 W (.returned (.tuple #[.int .u64 0, .iface 128 (.int .i64 2)])) W) := ⟨rfl, .inr rfl⟩
  rcases d1 with ⟨h1, h2⟩ | ⟨h1, h2⟩ | ⟨h1, h2⟩ | ⟨h1, h2, h3⟩
  · have i1 : ¬ (48 : Int) ≤ (X1 : Int) := by omega
    have i2 : ¬ (97 : Int) ≤ (L1 : Int) := by omega
    go_enter Tryz.func80, Tryz.ntmps80
    go_wp2
    refine wp_loop_rounds 3 ?_
    rw [rounds_succ]; go_wp2
    all_goals go_ret2
    all_goals exact FIN.out
  · have i0 : (48 : Int) ≤ (X1 : Int) := by omega
    have i1 : ¬ (X1 : Int) ≤ 57 := by omega
    have i2 : ¬ (97 : Int) ≤ (L1 : Int) := by omega
    go_enter Tryz.func80, Tryz.ntmps80
    go_wp2
    refine wp_loop_rounds 3 ?_
    rw [rounds_succ]; go_wp2
    all_goals go_ret2
    all_goals exact FIN.out
  · have i0 : (48 : Int) ≤ (X1 : Int) := by omega
    have i1 : ¬ (X1 : Int) ≤ 57 := by omega
    have i2 : (97 : Int) ≤ (L1 : Int) := by omega
    have i3 : ¬ (L1 : Int) ≤ 122 := by omega
    go_enter Tryz.func80, Tryz.ntmps80
    go_wp2
    refine wp_loop_rounds 3 ?_
    rw [rounds_succ]; go_wp2
    all_goals go_ret2
    all_goals exact FIN.out
  · have i0 : (48 : Int) ≤ (X1 : Int) := by omega
    have i1 : ¬ (X1 : Int) ≤ 57 := by omega
    have i2 : (97 : Int) ≤ (L1 : Int) := by omega
    have i3 : (L1 : Int) ≤ 122 := by omega
    have i4 : (103 : Int) ≤ (L1 : Int) := by omega
    go_enter Tryz.func80, Tryz.ntmps80
    go_wp2
    refine wp_loop_rounds 3 ?_
    rw [rounds_succ]; go_wp2
    all_goals go_ret2
    all_goals exact FIN.out

set_option maxHeartbeats 8000000 in
theorem parse16_no2 (s : ByteArray) (X1 X2 L1 L2 cap : Nat) (w W : World) (hsz : s.size = 2) (hne : s.toList.isEmpty = false)
    (hcv : (convert 9 46 (.string s)).run Tryz.prog w = .ok (.slice (some ⟨w.heap.size, 0, none⟩) 2 cap) W)
    (k0 : W.cell? ⟨w.heap.size, 0, none⟩ = some (.int .u8 (X1 : Int))) (k1 : W.cell? ⟨w.heap.size, 1, none⟩ = some (.int .u8 (X2 : Int))) (x1 : X1 < 256) (x2 : X2 < 256) (hl1 : bits .or .u8 (X1 : Int) 32 = (L1 : Int)) (hl2 : bits .or .u8 (X2 : Int) 32 = (L2 : Int)) (b1 : L1 < 256) (b2 : L2 < 256) (d1 : LOk X1 L1) (d2 : LNo X2 L2) :
    Calls Tryz.prog 80 #[.string s, .int .i64 16, .int .i64 8] w (P16 W) := by
  have FIN : Hid (P16 W (.returned (.tuple #[.int .u64 0, .iface 128 (.int .i64 2)])) W) := ⟨rfl, .inr rfl⟩
  rcases d1 with ⟨h1, h2⟩ | ⟨h1, h2, h3⟩
  · have i10 : (48 : Int) ≤ (X1 : Int) := by omega
    have i11 : (X1 : Int) ≤ 57 := by omega
    have i19 : ((X1 : Int) == 95) = false := by rw [beq_eq_false_iff_ne]; omega
    rcases d2 with ⟨g1, g2⟩ | ⟨g1, g2⟩ | ⟨g1, g2⟩ | ⟨g1, g2, g3⟩
    · have i20 : ¬ (48 : Int) ≤ (X2 : Int) := by omega
      have i22 : ¬ (97 : Int) ≤ (L2 : Int) := by omega
      go_enter Tryz.func80, Tryz.ntmps80
      go_wp2
      refine wp_loop_rounds 3 ?_
      rw [rounds_succ]; go_wp2
      rw [rounds_succ]; go_wp2
      all_goals go_ret2
      all_goals exact FIN.out
    · have i20 : (48 : Int) ≤ (X2 : Int) := by omega
      have i21 : ¬ (X2 : Int) ≤ 57 := by omega
      have i22 : ¬ (97 : Int) ≤ (L2 : Int) := by omega
      go_enter Tryz.func80, Tryz.ntmps80
      go_wp2
      refine wp_loop_rounds 3 ?_
      rw [rounds_succ]; go_wp2
      rw [rounds_succ]; go_wp2
      all_goals go_ret2
      all_goals exact FIN.out
    · have i20 : (48 : Int) ≤ (X2 : Int) := by omega
      have i21 : ¬ (X2 : Int) ≤ 57 := by omega
      have i22 : (97 : Int) ≤ (L2 : Int) := by omega
      have i23 : ¬ (L2 : Int) ≤ 122 := by omega
      go_enter Tryz.func80, Tryz.ntmps80
      go_wp2
      refine wp_loop_rounds 3 ?_
      rw [rounds_succ]; go_wp2
      rw [rounds_succ]; go_wp2
      all_goals go_ret2
      all_goals exact FIN.out
    · have i20 : (48 : Int) ≤ (X2 : Int) := by omega
      have i21 : ¬ (X2 : Int) ≤ 57 := by omega
      have i22 : (97 : Int) ≤ (L2 : Int) := by omega
      have i23 : (L2 : Int) ≤ 122 := by omega
      have i24 : (103 : Int) ≤ (L2 : Int) := by omega
      go_enter Tryz.func80, Tryz.ntmps80
      go_wp2
      refine wp_loop_rounds 3 ?_
      rw [rounds_succ]; go_wp2
      rw [rounds_succ]; go_wp2
      all_goals go_ret2
      all_goals exact FIN.out
  · have i10 : (48 : Int) ≤ (X1 : Int) := by omega
    have i11 : ¬ (X1 : Int) ≤ 57 := by omega
    have i12 : (97 : Int) ≤ (L1 : Int) := by omega
    have i13 : (L1 : Int) ≤ 122 := by omega
    have i14 : (L1 : Int) ≤ 102 := by omega
    have i19 := ne95 hl1 (by omega)
    rcases d2 with ⟨g1, g2⟩ | ⟨g1, g2⟩ | ⟨g1, g2⟩ | ⟨g1, g2, g3⟩
    · have i20 : ¬ (48 : Int) ≤ (X2 : Int) := by omega
      have i22 : ¬ (97 : Int) ≤ (L2 : Int) := by omega
      go_enter Tryz.func80, Tryz.ntmps80
      go_wp2
      refine wp_loop_rounds 3 ?_
      rw [rounds_succ]; go_wp2
      rw [rounds_succ]; go_wp2
      all_goals go_ret2
      all_goals exact FIN.out
    · have i20 : (48 : Int) ≤ (X2 : Int) := by omega
      have i21 : ¬ (X2 : Int) ≤ 57 := by omega
      have i22 : ¬ (97 : Int) ≤ (L2 : Int) := by omega
      go_enter Tryz.func80, Tryz.ntmps80
      go_wp2
      refine wp_loop_rounds 3 ?_
      rw [rounds_succ]; go_wp2
      rw [rounds_succ]; go_wp2
      all_goals go_ret2
      all_goals exact FIN.out
    · have i20 : (48 : Int) ≤ (X2 : Int) := by omega
      have i21 : ¬ (X2 : Int) ≤ 57 := by omega
      have i22 : (97 : Int) ≤ (L2 : Int) := by omega
      have i23 : ¬ (L2 : Int) ≤ 122 := by omega
      go_enter Tryz.func80, Tryz.ntmps80
      go_wp2
      refine wp_loop_rounds 3 ?_
      rw [rounds_succ]; go_wp2
      rw [rounds_succ]; go_wp2
      all_goals go_ret2
      all_goals exact FIN.out
    · have i20 : (48 : Int) ≤ (X2 : Int) := by omega
      have i21 : ¬ (X2 : Int) ≤ 57 := by omega
      have i22 : (97 : Int) ≤ (L2 : Int) := by omega
      have i23 : (L2 : Int) ≤ 122 := by omega
      have i24 : (103 : Int) ≤ (L2 : Int) := by omega
      go_enter Tryz.func80, Tryz.ntmps80
      go_wp2
      refine wp_loop_rounds 3 ?_
      rw [rounds_succ]; go_wp2
      rw [rounds_succ]; go_wp2
      all_goals go_ret2
      all_goals exact FIN.out

set_option maxHeartbeats 8000000 in
theorem parse16_ok (s : ByteArray) (X1 X2 L1 L2 cap : Nat) (w W : World) (hsz : s.size = 2) (hne : s.toList.isEmpty = false)
    (hcv : (convert 9 46 (.string s)).run Tryz.prog w = .ok (.slice (some ⟨w.heap.size, 0, none⟩) 2 cap) W)
    (k0 : W.cell? ⟨w.heap.size, 0, none⟩ = some (.int .u8 (X1 : Int))) (k1 : W.cell? ⟨w.heap.size, 1, none⟩ = some (.int .u8 (X2 : Int))) (x1 : X1 < 256) (x2 : X2 < 256) (hl1 : bits .or .u8 (X1 : Int) 32 = (L1 : Int)) (hl2 : bits .or .u8 (X2 : Int) 32 = (L2 : Int)) (b1 : L1 < 256) (b2 : L2 < 256) (d1 : LOk X1 L1) (d2 : LOk X2 L2) :
    Calls Tryz.prog 80 #[.string s, .int .i64 16, .int .i64 8] w (P16 W) := by
  have FIN : Hid (∀ v : Int, 0 ≤ v → v < 256 → P16 W (.returned (.tuple #[.int .u64 v, .nilIface])) W) := fun v h0 h1 => ⟨rfl, .inl ⟨v.toNat, by omega, by rw [show ((v.toNat : Nat) : Int) = v by omega]⟩⟩
  rcases d1 with ⟨h1, h2⟩ | ⟨h1, h2, h3⟩
  · have i10 : (48 : Int) ≤ (X1 : Int) := by omega
    have i11 : (X1 : Int) ≤ 57 := by omega
    have i19 : ((X1 : Int) == 95) = false := by rw [beq_eq_false_iff_ne]; omega
    rcases d2 with ⟨g1, g2⟩ | ⟨g1, g2, g3⟩
    · have i20 : (48 : Int) ≤ (X2 : Int) := by omega
      have i21 : (X2 : Int) ≤ 57 := by omega
      have i29 : ((X2 : Int) == 95) = false := by rw [beq_eq_false_iff_ne]; omega
      go_enter Tryz.func80, Tryz.ntmps80
      go_wp2
      refine wp_loop_rounds 3 ?_
      rw [rounds_succ]; go_wp2
      rw [rounds_succ]; go_wp2
      rw [rounds_succ]; go_wp2
      go_ret2
      exact FIN.out _ (by omega) (by omega)
    · have i20 : (48 : Int) ≤ (X2 : Int) := by omega
      have i21 : ¬ (X2 : Int) ≤ 57 := by omega
      have i22 : (97 : Int) ≤ (L2 : Int) := by omega
      have i23 : (L2 : Int) ≤ 122 := by omega
      have i24 : (L2 : Int) ≤ 102 := by omega
      have i29 := ne95 hl2 (by omega)
      go_enter Tryz.func80, Tryz.ntmps80
      go_wp2
      refine wp_loop_rounds 3 ?_
      rw [rounds_succ]; go_wp2
      rw [rounds_succ]; go_wp2
      rw [rounds_succ]; go_wp2
      go_ret2
      exact FIN.out _ (by omega) (by omega)
  · have i10 : (48 : Int) ≤ (X1 : Int) := by omega
    have i11 : ¬ (X1 : Int) ≤ 57 := by omega
    have i12 : (97 : Int) ≤ (L1 : Int) := by omega
    have i13 : (L1 : Int) ≤ 122 := by omega
    have i14 : (L1 : Int) ≤ 102 := by omega
    have i19 := ne95 hl1 (by omega)
    rcases d2 with ⟨g1, g2⟩ | ⟨g1, g2, g3⟩
    · have i20 : (48 : Int) ≤ (X2 : Int) := by omega
      have i21 : (X2 : Int) ≤ 57 := by omega
      have i29 : ((X2 : Int) == 95) = false := by rw [beq_eq_false_iff_ne]; omega
      go_enter Tryz.func80, Tryz.ntmps80
      go_wp2
      refine wp_loop_rounds 3 ?_
      rw [rounds_succ]; go_wp2
      rw [rounds_succ]; go_wp2
      rw [rounds_succ]; go_wp2
      go_ret2
      exact FIN.out _ (by omega) (by omega)
    · have i20 : (48 : Int) ≤ (X2 : Int) := by omega
      have i21 : ¬ (X2 : Int) ≤ 57 := by omega
      have i22 : (97 : Int) ≤ (L2 : Int) := by omega
      have i23 : (L2 : Int) ≤ 122 := by omega
      have i24 : (L2 : Int) ≤ 102 := by omega
      have i29 := ne95 hl2 (by omega)
      go_enter Tryz.func80, Tryz.ntmps80
      go_wp2
      refine wp_loop_rounds 3 ?_
      rw [rounds_succ]; go_wp2
      rw [rounds_succ]; go_wp2
      rw [rounds_succ]; go_wp2
      go_ret2
      exact FIN.out _ (by omega) (by omega)
end Go.Proofs.YtodkekmfadfjkaaGreatDoor.Vl
