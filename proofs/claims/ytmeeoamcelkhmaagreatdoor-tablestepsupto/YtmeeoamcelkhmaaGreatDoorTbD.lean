import Derived.Test.YtmeeoamcelkhmaaGreatDoorTbC
import Derived.Test.YtmeeoamcelkhmaaGreatDoorHdA
namespace Go.Proofs.YtmeeoamcelkhmaaGreatDoor
open Go.RowKit Go.Maps
set_option linter.unusedVariables false
set_option linter.unusedSimpArgs false
set_option maxRecDepth 100000

theorem cmpStr (a b : ByteArray) (w : World) : Calls Tryz.prog 40 #[.string a, .string b] w fun e w' => e = .returned (.int .i64 (cmpS a b)) ∧ w' = w := by
  have ea : (a.toList == a.toList) = true := beq_self_eq_true _
  have eb : (b.toList == b.toList) = true := beq_self_eq_true _
  have na : (a.toList != a.toList) = false := by simp
  have nb : (b.toList != b.toList) = false := by simp
  by_cases h1 : Op.bytesLess a.toList b.toList = true
  · have H : Hid (cmpS a b = -1) := by unfold Hid cmpS; rw [if_pos h1]
    go_enter Tryz.func40, Tryz.ntmps40
    go_wp2
    all_goals go_ret
    all_goals exact ⟨ret_int H.out.symm, rfl⟩
  · have h1' : Op.bytesLess a.toList b.toList = false := by simpa using h1
    by_cases h2 : (a.toList == b.toList) = true
    · have H : Hid (cmpS a b = 0) := by unfold Hid cmpS; rw [if_neg h1, if_pos h2]
      have hab : a = b := toList_inj (eq_of_beq h2)
      subst hab
      have h3 : Op.bytesLess a.toList a.toList = false := bl_irrefl _
      clear h1 h1' h2
      go_enter Tryz.func40, Tryz.ntmps40
      go_wp2
      all_goals go_ret
      all_goals exact ⟨ret_int H.out.symm, rfl⟩
    · have H : Hid (cmpS a b = 1) := by unfold Hid cmpS; rw [if_neg h1, if_neg h2]
      have h2' : (a.toList == b.toList) = false := by simpa using h2
      have h3 : Op.bytesLess b.toList a.toList = true := bl_total _ _ h1' h2'
      clear h1 h2
      go_enter Tryz.func40, Tryz.ntmps40
      go_wp2
      all_goals go_ret
      all_goals exact ⟨ret_int H.out.symm, rfl⟩
def orI (x y : Int) : Int := if x = 0 then y else x
/-- Which of two transactions comes first. -/
def cmpT (x y : Tx) : Int := orI (cmpI x.m y.m) (orI (cmpS x.sn y.sn) (cmpI x.tk y.tk))
set_option maxHeartbeats 2000000 in
theorem or_three (x y z : Int) (b cap : Nat) (w : World) (h0 : w.cell? ⟨b, 0, none⟩ = some (.int .i64 x)) (h1 : w.cell? ⟨b, 1, none⟩ = some (.int .i64 y)) (h2 : w.cell? ⟨b, 2, none⟩ = some (.int .i64 z)) :
    Calls Tryz.prog 38 #[.slice (some ⟨b, 0, none⟩) 3 cap] w fun e w' => e = .returned (.int .i64 (orI x (orI y z))) ∧ w' = w := by
  go_enter Tryz.func38, Tryz.ntmps38
  go_wp2
  go_loopg [8] 3 (fun gk i wr => wr = w ∧ ((gk = 3 ∧ i = .int .i64 0) ∨ (gk = 2 ∧ i = .int .i64 1 ∧ x = 0) ∨ (gk = 1 ∧ i = .int .i64 2 ∧ x = 0 ∧ y = 0) ∨ (gk = 0 ∧ i = .int .i64 3 ∧ x = 0 ∧ y = 0 ∧ z = 0)))
  case atStart => exact ⟨rfl, .inl ⟨rfl, rfl⟩⟩
  case round =>
    obtain ⟨rfl, ⟨rfl, rfl⟩ | ⟨rfl, rfl, rfl⟩ | ⟨rfl, rfl, rfl, rfl⟩ | ⟨rfl, rfl, rfl, rfl, rfl⟩⟩ := hrel
    · by_cases hx : x = 0
      · subst hx
        go_wp2
        go_roundg 2
        case measure => omega
        case rel => simp
      · go_wp2
        go_ret
        exact ⟨by unfold orI; simp [hx], rfl⟩
    · by_cases hy : y = 0
      · subst hy
        go_wp2
        go_roundg 1
        case measure => omega
        case rel => simp
      · go_wp2
        go_ret
        exact ⟨by unfold orI; simp [hy], rfl⟩
    · by_cases hz : z = 0
      · subst hz
        go_wp2
        go_roundg 0
        case measure => omega
        case rel => simp
      · go_wp2
        go_ret
        exact ⟨by unfold orI; simp [hz], rfl⟩
    · go_wp2
      go_ret
      exact ⟨by unfold orI; simp, rfl⟩

set_option maxHeartbeats 2000000 in
theorem compareT_any (x y : Tx) (w : World) : Calls Tryz.prog 25 #[vv x, vv y] w fun e w' => e = .returned (.int .i64 (cmpT x y)) ∧ Below w.heap.size w w' ∧ w.drawn ≤ w'.drawn := by
  unfold cmpT vv
  have HB : Hid (Below w.heap.size w ((w.alloc (.cells #[.int .i64 x.m, .string x.sn, .int .i64 x.tk] 27)).alloc (.cells #[.int .i64 y.m, .string y.sn, .int .i64 y.tk] 27))) := (bel1 _ _).alloc (by simp) _
  have HD : Hid (w.drawn ≤ ((w.alloc (.cells #[.int .i64 x.m, .string x.sn, .int .i64 x.tk] 27)).alloc (.cells #[.int .i64 y.m, .string y.sn, .int .i64 y.tk] 27)).drawn) := Nat.le_refl _
  have HC1 := hidMk (fun a b W => cmpLen a b W)
  have HC2 := hidMk (fun a b W => cmpStr a b W)
  go_enter Tryz.func25, Tryz.ntmps25
  go_wp2_with fail
  have c0 : ((w.alloc (.cells #[.int .i64 x.m, .string x.sn, .int .i64 x.tk] 27)).alloc (.cells #[.int .i64 y.m, .string y.sn, .int .i64 y.tk] 27)).cell? ⟨w.heap.size, 0, none⟩ = some (.int .i64 x.m) := by go_simp
  have c1 : ((w.alloc (.cells #[.int .i64 x.m, .string x.sn, .int .i64 x.tk] 27)).alloc (.cells #[.int .i64 y.m, .string y.sn, .int .i64 y.tk] 27)).cell? ⟨w.heap.size, 1, none⟩ = some (.string x.sn) := by go_simp
  have c2 : ((w.alloc (.cells #[.int .i64 x.m, .string x.sn, .int .i64 x.tk] 27)).alloc (.cells #[.int .i64 y.m, .string y.sn, .int .i64 y.tk] 27)).cell? ⟨w.heap.size, 2, none⟩ = some (.int .i64 x.tk) := by go_simp
  have d0 : ((w.alloc (.cells #[.int .i64 x.m, .string x.sn, .int .i64 x.tk] 27)).alloc (.cells #[.int .i64 y.m, .string y.sn, .int .i64 y.tk] 27)).cell? ⟨w.heap.size + 1, 0, none⟩ = some (.int .i64 y.m) := by go_simp
  have d1 : ((w.alloc (.cells #[.int .i64 x.m, .string x.sn, .int .i64 x.tk] 27)).alloc (.cells #[.int .i64 y.m, .string y.sn, .int .i64 y.tk] 27)).cell? ⟨w.heap.size + 1, 1, none⟩ = some (.string y.sn) := by go_simp
  have d2 : ((w.alloc (.cells #[.int .i64 x.m, .string x.sn, .int .i64 x.tk] 27)).alloc (.cells #[.int .i64 y.m, .string y.sn, .int .i64 y.tk] 27)).cell? ⟨w.heap.size + 1, 2, none⟩ = some (.int .i64 y.tk) := by go_simp
  generalize (w.alloc (.cells #[.int .i64 x.m, .string x.sn, .int .i64 x.tk] 27)).alloc (.cells #[.int .i64 y.m, .string y.sn, .int .i64 y.tk] 27) = W1 at *
  refine wp_region_head (K := 15) (C := fun W => ∃ n, W = W1.drewN n) 6 (by kernel_rfl) (by kernel_rfl) (by kernel_rfl) (by decide) (by kernel_rfl) (by kernel_rfl) ⟨1, rfl⟩ ?_
  simp only [List.take_succ_cons, List.take_zero]
  with_reducible refine wpQuiet_step ?_
  intro K hK
  go_simp
  refine hK _ ?_
  clear hK K
  with_reducible refine wpQuiet_step ?_
  intro K hK
  go_simp
  refine hK _ ?_
  clear hK K
  with_reducible refine wpQuiet_step ?_
  intro K hK
  go_simp
  refine hK _ ?_
  clear hK K
  with_reducible refine wpQuiet_step ?_
  intro K hK
  go_simp
  refine hK _ ?_
  clear hK K
  with_reducible refine wpQuiet_step ?_
  intro K hK
  go_simp
  apply Exists.intro
  refine ⟨fun n => ?_, hK _ ?_⟩
  · exact (HC1.out _ _ _).mono (fun e w' he => ⟨he.1, n, he.2⟩)
  clear hK K
  with_reducible refine wpQuiet_step ?_
  intro K hK
  go_simp
  refine hK _ ?_
  clear hK K
  with_reducible refine wpQuiet_step ?_
  intro K hK
  go_simp
  refine hK _ ?_
  clear hK K
  with_reducible refine wpQuiet_step ?_
  intro K hK
  go_simp
  refine hK _ ?_
  clear hK K
  with_reducible refine wpQuiet_step ?_
  intro K hK
  go_simp
  refine hK _ ?_
  clear hK K
  with_reducible refine wpQuiet_step ?_
  intro K hK
  go_simp
  apply Exists.intro
  refine ⟨fun n => ?_, hK _ ?_⟩
  · exact (HC2.out _ _ _).mono (fun e w' he => ⟨he.1, n, he.2⟩)
  clear hK K
  with_reducible refine wpQuiet_step ?_
  intro K hK
  go_simp
  refine hK _ ?_
  clear hK K
  with_reducible refine wpQuiet_step ?_
  intro K hK
  go_simp
  refine hK _ ?_
  clear hK K
  with_reducible refine wpQuiet_step ?_
  intro K hK
  go_simp
  refine hK _ ?_
  clear hK K
  with_reducible refine wpQuiet_step ?_
  intro K hK
  go_simp
  refine hK _ ?_
  clear hK K
  with_reducible refine wpQuiet_step ?_
  intro K hK
  go_simp
  apply Exists.intro
  refine ⟨fun n => ?_, hK _ ?_⟩
  · exact (HC1.out _ _ _).mono (fun e w' he => ⟨he.1, n, he.2⟩)
  clear hK K
  intro w' hC
  obtain ⟨n, rfl⟩ := hC
  have HBn := hidMk (below_drewN HB.out n)
  have HDn : Hid (w.drawn ≤ (W1.drewN n).drawn) := Nat.le_trans HD.out (Nat.le_add_right _ _)
  clear HD HB c0 c1 c2 d0 d1 d2
  generalize W1.drewN n = W2 at *
  refine wpAny_ready (fuel := 2) (rs := [15]) (by kernel_rfl) (by simp) ?_
  refine AllReady.cons rfl (fun K hK => ?_) AllReady.nil
  go_simp
  refine hK _ _ ?_
  clear hK K
  refine wpAny_ready (fuel := 1) (rs := [16]) (by kernel_rfl) (by simp) ?_
  refine AllReady.cons rfl (fun K hK => ?_) AllReady.nil
  go_simp
  refine (or_three (cmpI x.m y.m) (cmpS x.sn y.sn) (cmpI x.tk y.tk) _ _ _ (by go_simp) (by go_simp) (by go_simp)).mono ?_
  rintro e w3 ⟨rfl, hw3⟩
  subst hw3
  refine hK _ _ ?_
  clear hK K
  refine wpAny_ready (fuel := 0) (rs := [17]) (by kernel_rfl) (by simp) ?_
  refine AllReady.cons rfl (fun K hK => ?_) AllReady.nil
  go_simp
  refine hK _ _ ?_
  clear hK K
  refine ⟨by kernel_rfl, ?_⟩
  have HBf := hidMk (HBn.out.alloc HBn.out.size (.cells #[.int .i64 (cmpI x.m y.m), .int .i64 (cmpS x.sn y.sn), .int .i64 (cmpI x.tk y.tk)] 3))
  go_wp2_with fail
  go_ret
  exact ⟨rfl, HBf.out, HDn.out⟩
end Go.Proofs.YtmeeoamcelkhmaaGreatDoor
