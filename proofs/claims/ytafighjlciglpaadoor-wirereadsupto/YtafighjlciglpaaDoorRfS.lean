import Derived.Test.YtafighjlciglpaaDoorRdV
namespace Go.Proofs.YtafighjlciglpaaDoor
open Go.RowKit
set_option linter.unusedVariables false
set_option maxRecDepth 100000
attribute [local go_sem ↓] neq58 eql58
attribute [local go_sem] guard58

theorem eqB_self (v : V) : eqB v.k v.n v.s v.k v.n v.s = true := by unfold eqB; simp

set_option maxHeartbeats 2000000 in
/-- Lists of the same values are the same. -/
theorem same_any (vs : List V) (a1 : Option Addr) (c1 : Nat) (a2 : Option Addr) (c2 : Nat) (w : World) (h1 : VLies w a1 vs) (h2 : VLies w a2 vs) (hl : vs.length ≤ 549755813888) :
    Calls Tryd.prog 21 #[.slice a1 vs.length c1, .slice a2 vs.length c2] w fun e w' => e = .returned (.bool true) ∧ ∃ m, w' = w.drewN m := by
  have H1 : Hid (VLies w a1 vs) := h1
  have H2 : Hid (VLies w a2 vs) := h2
  clear h1 h2
  go_enter Tryd.func21, Tryd.ntmps21
  go_wp2
  go_loopw [5] (fun i w' => ∃ k : Nat, k ≤ vs.length ∧ i = .int .i64 k ∧ ∃ m, w' = w.drewN m) (fun i _ => vs.length - (intOf i).toNat)
  case atStart => exact ⟨0, Nat.zero_le _, rfl, 0, rfl⟩
  case round =>
    obtain ⟨k, hk, rfl, m, rfl⟩ := hrel
    by_cases hlt : k < vs.length
    · have hki : (k : Int) < (vs.length : Int) := by omega
      obtain ⟨b, o, rfl, e1, e2, e3⟩ := H1.out k hlt
      obtain ⟨b', o', rfl, g1, g2, g3⟩ := H2.out k hlt
      have he := eqB_self vs[k]
      go_wp2
      go_quiet (fail)
      go_wp2
      go_roundw
      case rel => exact ⟨k + 1, by omega, by go_num, _, rfl⟩
      case measure => simp [intOf]; omega
    · obtain rfl : k = vs.length := by omega
      go_wp2
      go_ret
      exact ⟨rfl, m, rfl⟩

set_option maxHeartbeats 4000000 in
theorem sameRows_any (rs : List Rw) (a1 : Option Addr) (c1 : Nat) (a2 : Option Addr) (c2 : Nat) (w : World) (h1 : RLies w a1 rs) (h2 : RLies w a2 rs) (hl : rs.length ≤ 549755813888) (hv : ∀ r ∈ rs, r.vs.length ≤ 549755813888) :
    Calls Tryd.prog 9 #[.slice a1 rs.length c1, .slice a2 rs.length c2] w fun e w' => e = .returned (.bool true) ∧ Below w.heap.size w w' := by
  have H1 : Hid (RLies w a1 rs) := h1
  have H2 : Hid (RLies w a2 rs) := h2
  have HV : Hid (∀ r ∈ rs, r.vs.length ≤ 549755813888) := hv
  clear h1 h2 hv
  go_enter Tryd.func9, Tryd.ntmps9
  go_wp2
  go_loopw [5] (fun i w' => ∃ k : Nat, k ≤ rs.length ∧ i = .int .i64 k ∧ Below w.heap.size w w') (fun i _ => rs.length - (intOf i).toNat)
  case atStart => exact ⟨0, Nat.zero_le _, rfl, Below.refl _ _⟩
  case round =>
    obtain ⟨k, hk, rfl, hb⟩ := hrel
    have HB : Hid (Below w.heap.size w wr) := hb
    clear hb
    by_cases hlt : k < rs.length
    · have hki : (k : Int) < (rs.length : Int) := by omega
      obtain ⟨b, o, av, cv, rfl, e1, e2, e3⟩ := H1.out k hlt
      obtain ⟨b', o', av', cv', rfl, g1, g2, g3⟩ := H2.out k hlt
      replace e1 := cell_later HB.out e1
      replace e2 := cell_later HB.out e2
      replace g1 := cell_later HB.out g1
      replace g2 := cell_later HB.out g2
      have HC : Hid (∀ q, Calls Tryd.prog 21 #[.slice av rs[k].vs.length cv, .slice av' rs[k].vs.length cv'] (wr.drewN q) fun e w' => e = .returned (.bool true) ∧ ∃ m', w' = (wr.drewN q).drewN m') := fun q =>
        same_any rs[k].vs av cv av' cv' (wr.drewN q) (e3.later (below_drewN HB.out q)) (g3.later (below_drewN HB.out q)) (HV.out _ (List.getElem_mem hlt))
      clear e3 g3
      go_wp2
      go_quiet (first | (go_at_call 21; refine Calls.quiet_of (HC.out _)))
      go_wp2
      go_quiet (fail)
      go_wp2
      go_roundw
      case rel => exact ⟨k + 1, by omega, by go_num, below_drewN HB.out _⟩
      case measure => simp [intOf]; omega
    · obtain rfl : k = rs.length := by omega
      go_wp2
      go_ret
      exact ⟨rfl, HB.out⟩
end Go.Proofs.YtafighjlciglpaaDoor
