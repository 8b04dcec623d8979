import Derived.Test.YtplaplhmjpfbjaaGreatDoorOc1
import Derived.Test.YtplaplhmjpfbjaaGreatDoorOoL
namespace Go.Proofs.YtplaplhmjpfbjaaGreatDoor.Oo
open Go.RowKit
set_option linter.unusedVariables false
set_option linter.unusedSimpArgs false
set_option maxRecDepth 100000

theorem stateEmpty_any (lo hi : Int) (w : World) : Calls Tryz.prog 38 #[.int .i64 lo, .int .i64 hi] w fun e w' => (∃ a, e = .returned (.pointer (some a))) ∧ Below w.heap.size w w' := by
  have hmm := @run_makeMap Tryz.prog
  go_enter Tryz.func38, Tryz.ntmps38
  go_wp2_with fail
  go_ret
  exact ⟨⟨_, rfl⟩, by first | exact xbel1 _ _ | exact (xbel1 _ _).trans ((xbel1 _ _).mono (by simp))⟩
theorem stateNew_ok (lo hi : Int) (w : World) (h1 : 0 ≤ lo) (h2 : lo ≤ hi) (h3 : hi ≤ 32) : Calls Tryz.prog 19 #[.int .i64 lo, .int .i64 hi] w fun e w' => (∃ a, e = .returned (.tuple #[.pointer (some a), .nilIface])) ∧ Below w.heap.size w w' := by
  have a1 : ¬ lo < 0 := by omega
  have a2 : ¬ hi < lo := by omega
  have a3 : ¬ (32 : Int) < hi := by omega
  go_enter Tryz.func19, Tryz.ntmps19
  go_wp2_with fail
  refine (stateEmpty_any lo hi _).mono ?_
  rintro e w1 ⟨⟨a, rfl⟩, hb⟩
  have HB := hidO hb
  clear hb
  go_wp2_with fail
  go_ret2
  exact ⟨⟨_, rfl⟩, HB.out⟩
theorem stateNew_bad (lo hi : Int) (w : World) (h : lo < 0 ∨ hi < lo ∨ 32 < hi) : Calls Tryz.prog 19 #[.int .i64 lo, .int .i64 hi] w fun e w' => e = .returned (.tuple #[.pointer none, .iface 36 (.int .i64 4)]) ∧ Below w.heap.size w w' := by
  by_cases a1 : lo < 0
  · clear h
    go_enter Tryz.func19, Tryz.ntmps19
    go_wp2_with fail
    go_ret2
    exact ⟨rfl, Below.refl _ _⟩
  · by_cases a2 : hi < lo
    · clear h
      go_enter Tryz.func19, Tryz.ntmps19
      go_wp2_with fail
      go_ret2
      exact ⟨rfl, Below.refl _ _⟩
    · have a3 : (32 : Int) < hi := by omega
      clear h
      go_enter Tryz.func19, Tryz.ntmps19
      go_wp2_with fail
      go_ret2
      exact ⟨rfl, Below.refl _ _⟩
set_option maxHeartbeats 4000000 in
theorem empty_any (o : OpD) (p : OpA) (lo hi : Int) (w : World) : Calls Tryz.prog 20 #[.agg (opCs o p), .int .i64 lo, .int .i64 hi] w fun e w' => (∃ a, e = .returned (.pointer (some a))) ∧ Below w.heap.size w w' := by
  obtain ⟨k, ex, nm, c, r, ks, os, wk, ws, wt, ag, ou⟩ := o
  obtain ⟨ea, ec, na, nc, ca, cc, ra, rc, ka, kc, oa, oc, ga, gc⟩ := p
  unfold opCs
  simp only
  have hmm := @run_makeMap Tryz.prog
  go_enter Tryz.func20, Tryz.ntmps20
  go_wp2_with fail
  go_ret
  exact ⟨⟨_, rfl⟩, by first | exact xbel1 _ _ | exact (xbel1 _ _).trans ((xbel1 _ _).mono (by simp)) | exact ((xbel1 _ _).trans ((xbel1 _ _).mono (by simp))).trans ((xbel1 _ _).mono (by simp; omega))⟩
end Go.Proofs.YtplaplhmjpfbjaaGreatDoor.Oo
namespace Go.Proofs.YtplaplhmjpfbjaaGreatDoor.Oo
open Go.RowKit
set_option linter.unusedVariables false
set_option linter.unusedSimpArgs false
set_option maxRecDepth 100000

/-- What New answers. -/
def NewP (w : World) (r : Except Nat (List Co)) (lo hi : Int) (e : Ending) (w' : World) : Prop := Below w.heap.size w w' ∧ match r with
  | .error n => e = .returned (.tuple #[.pointer none, .iface 36 (.int .i64 n)])
  | .ok _ => if 0 ≤ lo ∧ lo ≤ hi ∧ hi ≤ 32 then ∃ a, e = .returned (.tuple #[.pointer (some a), .nilIface]) else e = .returned (.tuple #[.pointer none, .iface 36 (.int .i64 4)])
set_option maxHeartbeats 8000000 in
theorem new_any (ck : ByteArray → Except Nat Int) (o : OpD) (p : OpA) (lo hi : Int) (w : World) (hs : OpSz o) (hat : OpAt w o p) (hck : CkOk w o.c ck) :
    Calls Tryz.prog 7 #[.agg (opCs o p), .int .i64 lo, .int .i64 hi] w (NewP w (outO ck o) lo hi) := by
  obtain ⟨W1, hW1⟩ : ∃ W1, W1 = w.alloc (.cells (opCs o p) 29) := ⟨_, rfl⟩
  have hA : Below w.heap.size w W1 := by rw [hW1]; exact xbel1 _ _
  have hOw : Own W1 w.heap.size 29 12 (opCs o p).toList := by rw [hW1]; exact Own.new w 29 12 (opCs o p) rfl
  have HA := hidO hA
  have HOw := hidO hOw
  have HOut : Hid (Calls Tryz.prog 4 #[.agg (opCs o p)] W1 (OutP W1 (outO ck o))) := out_any ck o p W1 hs (hat.later hA) (hck.later hA)
  have HCp : Hid (∀ W, Below w.heap.size w W → Calls Tryz.prog 21 #[.agg (opCs o p)] W fun e w' => (∃ p', e = .returned (.agg (opCs o p'))) ∧ Below W.heap.size W w') := fun W hW => copied_any o p W hs (hat.later hW)
  have HEm : Hid (∀ p' W, Calls Tryz.prog 20 #[.agg (opCs o p'), .int .i64 lo, .int .i64 hi] W fun e w' => (∃ a, e = .returned (.pointer (some a))) ∧ Below W.heap.size W w') := fun p' W => empty_any o p' lo hi W
  clear hA hOw hs hat hck
  generalize outO ck o = R at *
  obtain ⟨k, ex, nm, c, r, ks, os, wk, ws, wt, ag, ou⟩ := o
  obtain ⟨ea, ec, na, nc, ca, cc, ra, rc, ka, kc, oa, oc, ga, gc⟩ := p
  unfold opCs at *
  simp only at *
  cases R with
  | error n =>
    go_enter Tryz.func7, Tryz.ntmps7
    go_wp2_with fail
    rw [← hW1]
    refine HOut.out.mono ?_
    rintro e w1 ⟨hb1, rfl⟩
    have HB1 : Hid (Below w.heap.size w w1) := HA.out.trans (hb1.mono HA.out.size)
    clear hb1
    go_wp2_with fail
    go_ret2
    exact ⟨HB1.out, rfl⟩
  | ok l =>
    by_cases hlh : 0 ≤ lo ∧ lo ≤ hi ∧ hi ≤ 32
    · have HLH := hidO hlh
      clear hlh
      go_enter Tryz.func7, Tryz.ntmps7
      go_wp2_with fail
      rw [← hW1]
      refine HOut.out.mono ?_
      rintro e w1 ⟨hb1, a1, c1, rfl, -⟩
      have HB1 : Hid (Below w.heap.size w w1) := HA.out.trans (hb1.mono HA.out.size)
      have HO1 := hidO (HOw.out.later hb1)
      clear hb1
      go_wp2_with fail
      refine (stateNew_ok lo hi _ HLH.out.1 HLH.out.2.1 HLH.out.2.2).mono ?_
      rintro e w2 ⟨⟨a2, rfl⟩, hb2⟩
      have HB2 : Hid (Below w.heap.size w w2) := HB1.out.trans (hb2.mono HB1.out.size)
      have HO2 := hidO (HO1.out.later hb2)
      have d0 : w2.cell? ⟨w.heap.size, 0, none⟩ = some (.int .i64 k) := HO2.out.cell 0 (by decide)
      have d1 : w2.cell? ⟨w.heap.size, 1, none⟩ = some (.slice ea ex.length ec) := HO2.out.cell 1 (by decide)
      have d2 : w2.cell? ⟨w.heap.size, 2, none⟩ = some (.slice na nm.length nc) := HO2.out.cell 2 (by decide)
      have d3 : w2.cell? ⟨w.heap.size, 3, none⟩ = some (.slice ca c.length cc) := HO2.out.cell 3 (by decide)
      have d4 : w2.cell? ⟨w.heap.size, 4, none⟩ = some (.slice ra r.length rc) := HO2.out.cell 4 (by decide)
      have d5 : w2.cell? ⟨w.heap.size, 5, none⟩ = some (.slice ka ks.length kc) := HO2.out.cell 5 (by decide)
      have d6 : w2.cell? ⟨w.heap.size, 6, none⟩ = some (.slice oa os.length oc) := HO2.out.cell 6 (by decide)
      have d7 : w2.cell? ⟨w.heap.size, 7, none⟩ = some (.int .i64 wk) := HO2.out.cell 7 (by decide)
      have d8 : w2.cell? ⟨w.heap.size, 8, none⟩ = some (.int .i64 ws) := HO2.out.cell 8 (by decide)
      have d9 : w2.cell? ⟨w.heap.size, 9, none⟩ = some (.int .i64 wt) := HO2.out.cell 9 (by decide)
      have d10 : w2.cell? ⟨w.heap.size, 10, none⟩ = some (.slice ga ag.length gc) := HO2.out.cell 10 (by decide)
      have d11 : w2.cell? ⟨w.heap.size, 11, none⟩ = some (.bool ou) := HO2.out.cell 11 (by decide)
      have hl2 : w.heap.size < w2.heap.size := HO2.out.lt
      clear hb2
      go_wp2_with fail
      refine (HCp.out _ HB2.out).mono ?_
      rintro e w3 ⟨⟨p', rfl⟩, hb3⟩
      have HB3 : Hid (Below w.heap.size w w3) := HB2.out.trans (hb3.mono HB2.out.size)
      clear hb3 d0 d1 d2 d3 d4 d5 d6 d7 d8 d9 d10 d11
      go_wp2_with fail
      refine (HEm.out p' _).mono ?_
      rintro e w4 ⟨⟨a4, rfl⟩, hb4⟩
      have HB4 : Hid (Below w.heap.size w w4) := HB3.out.trans (hb4.mono HB3.out.size)
      clear hb4
      go_wp2_with fail
      go_ret2
      exact ⟨HB4.out, by simp only [if_pos HLH.out]; exact ⟨_, rfl⟩⟩
    · have HLH := hidO hlh
      have hbad : lo < 0 ∨ hi < lo ∨ 32 < hi := by omega
      have HBD := hidO hbad
      clear hlh hbad
      go_enter Tryz.func7, Tryz.ntmps7
      go_wp2_with fail
      rw [← hW1]
      refine HOut.out.mono ?_
      rintro e w1 ⟨hb1, a1, c1, rfl, -⟩
      have HB1 : Hid (Below w.heap.size w w1) := HA.out.trans (hb1.mono HA.out.size)
      clear hb1
      go_wp2_with fail
      refine (stateNew_bad lo hi _ HBD.out).mono ?_
      rintro e w2 ⟨rfl, hb2⟩
      have HB2 : Hid (Below w.heap.size w w2) := HB1.out.trans (hb2.mono HB1.out.size)
      clear hb2
      go_wp2_with fail
      go_ret2
      exact ⟨HB2.out, by simp only [if_neg HLH.out]; rfl⟩
end Go.Proofs.YtplaplhmjpfbjaaGreatDoor.Oo
