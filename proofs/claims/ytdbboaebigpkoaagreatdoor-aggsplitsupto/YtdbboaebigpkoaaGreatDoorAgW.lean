import Derived.Test.YtdbboaebigpkoaaGreatDoorAgV
namespace Go.Proofs.YtdbboaebigpkoaaGreatDoor
open Go.RowKit Go.Maps
set_option linter.unusedVariables false
set_option linter.unusedSimpArgs false
set_option maxRecDepth 100000

set_option maxHeartbeats 2000000 in
/-- Parts are taken in one after the other. -/
theorem joinAll_any (t : Nat) (p : Value) (ps : List Tm) (a : Option Addr) (c : Nat) (w : World) (hm : ps.length ≤ 4398046510977)
    (St : Nat → World → Prop) (h0 : St 0 w) (later : ∀ k W W', St k W → Below W.heap.size W W' → St k W')
    (lies : ∀ k W, St k W → TLies W a ps)
    (step : ∀ k (hk : k < ps.length) W, St k W → ∃ fn rc, Meth t p "streamwright/agg.join" fn rc ∧ Calls Tryz.prog fn #[rc, tmv ps[k]] W fun e w' => e = .returned (.tuple #[]) ∧ St (k + 1) w') :
    Calls Tryz.prog 9 #[.iface t p, .slice a ps.length c] w fun e w' => e = .returned (.tuple #[]) ∧ St ps.length w' := by
  have H0 := hidMk h0
  have HLt := hidMk later
  have HLi := hidMk lies
  have HSt := hidMk step
  clear h0 later lies step
  go_enter Tryz.func9, Tryz.ntmps9
  go_wp2_with fail
  go_loopw [8] (fun i w' => ∃ k : Nat, k ≤ ps.length ∧ i = .int .i64 k ∧ St k w') (fun i _ => ps.length - (intOf i).toNat)
  case atStart => exact ⟨0, Nat.zero_le _, rfl, H0.out⟩
  case round =>
    obtain ⟨k, hk, rfl, hs⟩ := hrel
    have HS := hidMk hs
    clear hs
    by_cases hlt : k < ps.length
    · obtain ⟨b, off, rfl, e0, e1, e2, e3⟩ := HLi.out k wr HS.out k hlt
      have hki : (k : Int) < (ps.length : Int) := by omega
      have HSt2 : Hid (∀ W, St k W → ∃ fn rc, Meth t p "streamwright/agg.join" fn rc ∧ Calls Tryz.prog fn #[rc, tmv ps[k]] W fun e w' => e = .returned (.tuple #[]) ∧ St (k + 1) w') := fun W h => HSt.out k hlt W h
      generalize ps[k] = o at *
      obtain ⟨fn, rc, hM, hC⟩ := HSt2.out _ (HLt.out k wr (wr.alloc (.cells #[.int .i64 o.t, .int .i64 o.v.k, .int .i64 o.v.n, .string o.v.s] 46)) HS.out (bel1 _ _))
      have m1 := hM.meth
      have m2 := hM.nila
      have m3 := hM.ent
      have HC := hidMk hC
      unfold tmv at HC
      clear hM hC HSt2
      go_wp2_with fail
      refine HC.out.mono ?_
      rintro e w3 ⟨rfl, h3⟩
      have H3 := hidMk h3
      clear h3 HC e0 e1 e2 e3
      go_wp2
      go_roundw
      case rel => exact ⟨k + 1, by omega, by go_num, H3.out⟩
      case measure => simp [intOf]; omega
    · obtain rfl : k = ps.length := by omega
      go_wp2
      go_end0
      exact ⟨rfl, HS.out⟩
end Go.Proofs.YtdbboaebigpkoaaGreatDoor
