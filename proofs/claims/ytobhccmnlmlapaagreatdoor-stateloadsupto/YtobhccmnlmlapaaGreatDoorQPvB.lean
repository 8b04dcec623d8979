import Derived.Test.YtobhccmnlmlapaaGreatDoorGn
import Derived.Test.YtobhccmnlmlapaaGreatDoorQPvA
namespace Go.Proofs.YtobhccmnlmlapaaGreatDoor
open Go.RowKit Go.Maps
set_option linter.unusedVariables false
set_option linter.unusedSimpArgs false
set_option maxRecDepth 100000

theorem tput_k (w0 w : World) (a : Option Addr) (cap : Nat) (vs : List V) (v : Value) (l : List UInt8) (hl : VLies w0 a vs) (hg : GoodK vs) (hvl : vs.length ≤ 549755813888) (hb0 : Below w0.heap.size w0 w) (hown : Wr.OL w w0.heap.size v l) (hlen : l.length + (encKey vs).length ≤ 549755813888) :
    Calls Tryz.prog 81 #[v, .slice a vs.length cap] w fun e w' => ∃ v', e = .returned v' ∧ Wr.OL w' w0.heap.size v' (l ++ encKey vs) ∧ Below w0.heap.size w w' ∧ Wr.KeepO w w' := by
  have HV : Hid (VLies w0 a vs) := hl
  have HGV : Hid (∀ v ∈ vs, Wr.GoodV v) := hg
  have HO : Hid (Wr.OL w w0.heap.size v l) := hown
  have HB0 : Hid (Below w0.heap.size w0 w) := hb0
  have hs0 := hb0.size
  unfold encKey at *
  clear hl hg hown hb0
  go_enter Tryz.func81, Tryz.ntmps81
  go_wp2
  go_loopw [0, 9] (fun v i w' => ∃ j : Nat, j ≤ vs.length ∧ i = .int .i64 j ∧ Wr.OL w' w0.heap.size v (l ++ (vs.take j).flatMap Wr.encVal) ∧ Below w0.heap.size w w' ∧ w0.heap.size ≤ w'.heap.size ∧ Wr.KeepO w w') (fun _ i _ => vs.length - (intOf i).toNat)
  case atStart => exact ⟨0, Nat.zero_le _, rfl, by simpa using HO.out, Below.refl _ _, hs0, Wr.KeepO.refl _⟩
  case round =>
    obtain ⟨j, hj, rfl, ho, hb, hsz', hkp⟩ := hrel
    have HKP := hidMk hkp
    clear hkp
    have HBJ : Hid (Below w0.heap.size w wr) := hb
    have HOJ : Hid (Wr.OL wr w0.heap.size u0 (l ++ (vs.take j).flatMap Wr.encVal)) := ho
    clear ho hb HO
    by_cases hjt : j < vs.length
    · obtain ⟨b', off', rfl, e1, e2, e3⟩ := HV.out j hjt
      replace e1 := cell_later (HB0.out.trans HBJ.out) e1
      replace e2 := cell_later (HB0.out.trans HBJ.out) e2
      replace e3 := cell_later (HB0.out.trans HBJ.out) e3
      have hgv := HGV.out _ (List.getElem_mem hjt)
      have HGJ : Hid (Wr.GoodV vs[j]) := hgv
      have hji : (j : Int) < (vs.length : Int) := by omega
      have hfj := Wr.flat_lt Wr.encVal vs j hjt
      have hmj : (l ++ (vs.take j).flatMap Wr.encVal).length = l.length + ((vs.take j).flatMap Wr.encVal).length := List.length_append
      have HFJ : Hid (l ++ (vs.take (j + 1)).flatMap Wr.encVal = l ++ (vs.take j).flatMap Wr.encVal ++ Wr.encVal vs[j]) := by unfold Hid; rw [Wr.take_flat Wr.encVal vs j hjt, List.append_assoc]
      clear hgv
      go_wp2_with fail
      refine (Wr.putValue_k u0 (l ++ (vs.take j).flatMap Wr.encVal) vs[j] w0.heap.size _ (HOJ.out.later (bel1 wr _)) (by simp; omega) HGJ.out (by omega)).mono ?_
      rintro e w5 ⟨v5, rfl, ho5, hb5, hk5⟩
      have HK5 := hidMk ((HKP.out.trans (Wr.KeepO.below (bel1 wr _))).trans hk5)
      clear hk5
      have HB5 : Hid (Below w0.heap.size w w5) := (HBJ.out.alloc hsz' _).trans hb5
      have H5 := hidMk ho5
      clear ho5 hb5
      go_wp2
      go_roundw
      case rel => exact ⟨j + 1, by omega, by go_num, by rw [HFJ.out]; exact H5.out, HB5.out, Nat.le_trans hs0 HB5.out.size, HK5.out⟩
      case measure => simp [intOf]; omega
    · obtain rfl : j = vs.length := by omega
      go_wp2
      go_ret
      refine ⟨u0, rfl, ?_, HBJ.out, HKP.out⟩
      have := HOJ.out
      rwa [List.take_of_length_le (Nat.le_refl _)] at this
end Go.Proofs.YtobhccmnlmlapaaGreatDoor
