import Derived.Test.YtakbnhknkbmhlaaSrtG
namespace Go.Proofs.Ytakbnhknkbmhlaa
open Go.RowKit
set_option linter.unusedVariables false
set_option maxRecDepth 100000

set_option maxHeartbeats 4000000 in
theorem marked_any (rs : List Rw) (a : Option Addr) (c : Nat) (w : World) (h : RLies w a rs) (hm : ∀ j (hj : j < rs.length), ∀ v ∈ rs[j].vs, v.n = (j : Int)) (hl : rs.length ≤ 4398046511104) (hv : ∀ r ∈ rs, r.vs.length ≤ 4398046511104) :
    Calls Try.prog 13 #[.slice a rs.length c] w fun e w' => e = .returned (.bool true) ∧ w' = w := by
  have HR : Hid (RLies w a rs) := h
  have HM : Hid (∀ j (hj : j < rs.length), ∀ v ∈ rs[j].vs, v.n = (j : Int)) := hm
  have HV : Hid (∀ r ∈ rs, r.vs.length ≤ 4398046511104) := hv
  clear h hm hv
  go_enter Try.func13, Try.ntmps13
  go_wp2
  go_loopw [3] (fun i w' => ∃ k : Nat, k ≤ rs.length ∧ i = .int .i64 k ∧ w' = w) (fun i _ => rs.length - (intOf i).toNat)
  case atStart => exact ⟨0, Nat.zero_le _, rfl, rfl⟩
  case round =>
    obtain ⟨k, hk, rfl, rfl⟩ := hrel
    by_cases hlt : k < rs.length
    · have hki : (k : Int) < (rs.length : Int) := by omega
      obtain ⟨b, o, av, cv, rfl, e1, e2, e3⟩ := HR.out k hlt
      have HV3 : Hid (VLies wr av rs[k].vs) := e3
      have hvk := HV.out _ (List.getElem_mem hlt)
      have HMK : Hid (∀ v ∈ rs[k].vs, v.n = (k : Int)) := HM.out k hlt
      clear e3
      generalize hr : rs[k] = r at *
      obtain ⟨w0, hw0⟩ : ∃ w0, w0 = wr := ⟨_, rfl⟩
      subst hw0
      go_wp2
      go_loopw [4] (fun i w' => ∃ j : Nat, j ≤ r.vs.length ∧ i = .int .i64 j ∧ w' = w0) (fun i _ => r.vs.length - (intOf i).toNat)
      case atStart => exact ⟨0, Nat.zero_le _, rfl, rfl⟩
      case round =>
        obtain ⟨j, hj, rfl, rfl⟩ := hrel
        by_cases hjt : j < r.vs.length
        · have hji : (j : Int) < (r.vs.length : Int) := by omega
          obtain ⟨b', o', rfl, f1, f2, f3⟩ := HV3.out j hjt
          have hn := HMK.out _ (List.getElem_mem hjt)
          rw [hn] at f2
          clear f1 f3 hn
          go_wp2
          go_roundw
          case rel => exact ⟨j + 1, by omega, by go_num, trivial⟩
          case measure => simp [intOf]; omega
        · go_wp2
          go_roundw
          case rel => exact ⟨k + 1, by omega, by go_num, trivial⟩
          case measure => simp [intOf]; omega
    · go_wp2
      go_ret
      exact ⟨rfl, rfl⟩
end Go.Proofs.Ytakbnhknkbmhlaa
