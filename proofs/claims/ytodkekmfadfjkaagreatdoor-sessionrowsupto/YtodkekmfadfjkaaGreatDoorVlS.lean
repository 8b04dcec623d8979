import Derived.Test.YtodkekmfadfjkaaGreatDoorVlB
namespace Go.Proofs.YtodkekmfadfjkaaGreatDoor
open Go.RowKit
set_option linter.unusedVariables false
set_option linter.unusedSimpArgs false
set_option maxRecDepth 100000
attribute [local go_sem ↓] neqVal eqlVal
attribute [local go_sem] guardVal

theorem bel3 (w : World) (o1 o2 o3 : Obj) : Below w.heap.size w (((w.alloc o1).alloc o2).alloc o3) := (((Below.refl _ _).alloc (Nat.le_refl _) _).alloc (by simp) _).alloc (by simp; omega) _
theorem eqB_self (v : V) : eqB v.k v.n v.s v.k v.n v.s = true := by unfold eqB; simp

set_option maxHeartbeats 2000000 in
/-- Lists of the same values are the same. -/
theorem same_any (vs : List V) (a1 : Option Addr) (c1 : Nat) (a2 : Option Addr) (c2 : Nat) (w : World) (h1 : VLies w a1 vs) (h2 : VLies w a2 vs) (hl : vs.length ≤ 4398046511104) :
    Calls Tryz.prog 7 #[.slice a1 vs.length c1, .slice a2 vs.length c2] w fun e w' => e = .returned (.bool true) ∧ ∃ m, w' = w.drewN m := by
  have H1 : Hid (VLies w a1 vs) := h1
  have H2 : Hid (VLies w a2 vs) := h2
  clear h1 h2
  go_enter Tryz.func7, Tryz.ntmps7
  go_wp2
  go_loopw [5] (fun i w' => ∃ k : Nat, k ≤ vs.length ∧ i = .int .i64 k ∧ ∃ m, w' = w.drewN m) (fun i _ => vs.length - (intOf i).toNat)
  case atStart => exact ⟨0, Nat.zero_le _, rfl, 0, rfl⟩
  case round =>
    obtain ⟨k, hk, rfl, m, rfl⟩ := hrel
    by_cases hlt : k < vs.length
    · have hki : (k : Int) < (vs.length : Int) := by omega
      obtain ⟨b, o, rfl, e1, e2, e3⟩ := H1.out k hlt
      obtain ⟨b', o', rfl, g1, g2, g3⟩ := H2.out k hlt
      have he := eqB_self vs[k]
      go_wp2
      go_quiet (fail)
      go_wp2
      go_roundw
      case rel => exact ⟨k + 1, by omega, by go_num, _, rfl⟩
      case measure => simp [intOf]; omega
    · obtain rfl : k = vs.length := by omega
      go_wp2
      go_ret
      exact ⟨rfl, m, rfl⟩

end Go.Proofs.YtodkekmfadfjkaaGreatDoor
