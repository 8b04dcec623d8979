import Derived.Test.YtobhccmnlmlapaaGreatDoorGl
import Derived.Test.YtobhccmnlmlapaaGreatDoorQHdA
import Derived.Test.YtobhccmnlmlapaaGreatDoorQSrtF
namespace Go.Proofs.YtobhccmnlmlapaaGreatDoor
open Go.RowKit Go.Maps
set_option linter.unusedVariables false
set_option linter.unusedSimpArgs false
set_option maxRecDepth 100000

theorem cmp64 (a b : Int) (w : World) : Calls Tryz.prog 86 #[.int .i64 a, .int .i64 b] w fun e w' => e = .returned (.int .i64 (cmpI a b)) ∧ w' = w := by
  by_cases h1 : a < b
  · have H : Hid (cmpI a b = -1) := by unfold Hid cmpI; rw [if_pos h1]
    go_enter Tryz.func86, Tryz.ntmps86
    go_wp2
    all_goals go_ret
    all_goals exact ⟨ret_int H.out.symm, rfl⟩
  · by_cases h2 : b < a
    · have H : Hid (cmpI a b = 1) := by unfold Hid cmpI; rw [if_neg h1, if_pos h2]
      go_enter Tryz.func86, Tryz.ntmps86
      go_wp2
      all_goals go_ret
      all_goals exact ⟨ret_int H.out.symm, rfl⟩
    · have H : Hid (cmpI a b = 0) := by unfold Hid cmpI; rw [if_neg h1, if_neg h2]
      go_enter Tryz.func86, Tryz.ntmps86
      go_wp2
      all_goals go_ret
      all_goals exact ⟨ret_int H.out.symm, rfl⟩
def orI (x y : Int) : Int := if x = 0 then y else x
set_option maxHeartbeats 2000000 in
theorem or_two (x y : Int) (b cap : Nat) (w : World) (h0 : w.cell? ⟨b, 0, none⟩ = some (.int .i64 x)) (h1 : w.cell? ⟨b, 1, none⟩ = some (.int .i64 y)) :
    Calls Tryz.prog 85 #[.slice (some ⟨b, 0, none⟩) 2 cap] w fun e w' => e = .returned (.int .i64 (orI x y)) ∧ w' = w := by
  go_enter Tryz.func85, Tryz.ntmps85
  go_wp2
  go_loopg [8] 2 (fun gk i wr => wr = w ∧ ((gk = 2 ∧ i = .int .i64 0) ∨ (gk = 1 ∧ i = .int .i64 1 ∧ x = 0) ∨ (gk = 0 ∧ i = .int .i64 2 ∧ x = 0 ∧ y = 0)))
  case atStart => exact ⟨rfl, .inl ⟨rfl, rfl⟩⟩
  case round =>
    obtain ⟨rfl, ⟨rfl, rfl⟩ | ⟨rfl, rfl, rfl⟩ | ⟨rfl, rfl, rfl, rfl⟩⟩ := hrel
    · by_cases hx : x = 0
      · subst hx
        go_wp2
        go_roundg 1
        case measure => omega
        case rel => simp
      · go_wp2
        go_ret
        exact ⟨by unfold orI; simp [hx], rfl⟩
    · by_cases hy : y = 0
      · subst hy
        go_wp2
        go_roundg 0
        case measure => omega
        case rel => simp
      · go_wp2
        go_ret
        exact ⟨by unfold orI; simp [hy], rfl⟩
    · go_wp2
      go_ret
      exact ⟨by unfold orI; simp, rfl⟩
/-- Which of two windows comes first. -/
def cmpN (x y : Wn) : Int := orI (cmpI x.t y.t) (cmpI x.f y.f)
set_option maxHeartbeats 2000000 in
theorem compareN_any (x y : Wn) (w : World) : Calls Tryz.prog 55 #[vv x, vv y] w fun e w' => e = .returned (.int .i64 (cmpN x y)) ∧ Below w.heap.size w w' ∧ w.drawn ≤ w'.drawn := by
  unfold cmpN vv
  have HB : Hid (Below w.heap.size w ((w.alloc (.cells #[.int .i64 x.f, .int .i64 x.t] 38)).alloc (.cells #[.int .i64 y.f, .int .i64 y.t] 38))) := (bel1 _ _).alloc (by simp) _
  have HD : Hid (w.drawn ≤ ((w.alloc (.cells #[.int .i64 x.f, .int .i64 x.t] 38)).alloc (.cells #[.int .i64 y.f, .int .i64 y.t] 38)).drawn) := Nat.le_refl _
  have HC1 := hidMk (fun a b W => cmp64 a b W)
  go_enter Tryz.func55, Tryz.ntmps55
  go_wp2_with fail
  have c0 : ((w.alloc (.cells #[.int .i64 x.f, .int .i64 x.t] 38)).alloc (.cells #[.int .i64 y.f, .int .i64 y.t] 38)).cell? ⟨w.heap.size, 0, none⟩ = some (.int .i64 x.f) := by go_simp
  have c1 : ((w.alloc (.cells #[.int .i64 x.f, .int .i64 x.t] 38)).alloc (.cells #[.int .i64 y.f, .int .i64 y.t] 38)).cell? ⟨w.heap.size, 1, none⟩ = some (.int .i64 x.t) := by go_simp
  have d0 : ((w.alloc (.cells #[.int .i64 x.f, .int .i64 x.t] 38)).alloc (.cells #[.int .i64 y.f, .int .i64 y.t] 38)).cell? ⟨w.heap.size + 1, 0, none⟩ = some (.int .i64 y.f) := by go_simp
  have d1 : ((w.alloc (.cells #[.int .i64 x.f, .int .i64 x.t] 38)).alloc (.cells #[.int .i64 y.f, .int .i64 y.t] 38)).cell? ⟨w.heap.size + 1, 1, none⟩ = some (.int .i64 y.t) := by go_simp
  generalize ((w.alloc (.cells #[.int .i64 x.f, .int .i64 x.t] 38)).alloc (.cells #[.int .i64 y.f, .int .i64 y.t] 38)) = W1 at *
  refine wp_region_head (K := 10) (C := fun W => ∃ n, W = W1.drewN n) 6 (by kernel_rfl) (by kernel_rfl) (by kernel_rfl) (by decide) (by kernel_rfl) (by kernel_rfl) ⟨1, rfl⟩ ?_
  simp only [List.take_succ_cons, List.take_zero]
  with_reducible refine wpQuiet_step ?_
  intro K hK
  go_simp
  refine hK _ ?_
  clear hK K
  with_reducible refine wpQuiet_step ?_
  intro K hK
  go_simp
  refine hK _ ?_
  clear hK K
  with_reducible refine wpQuiet_step ?_
  intro K hK
  go_simp
  refine hK _ ?_
  clear hK K
  with_reducible refine wpQuiet_step ?_
  intro K hK
  go_simp
  refine hK _ ?_
  clear hK K
  with_reducible refine wpQuiet_step ?_
  intro K hK
  go_simp
  apply Exists.intro
  refine ⟨fun n => ?_, hK _ ?_⟩
  · exact (HC1.out _ _ _).mono (fun e w' he => ⟨he.1, n, he.2⟩)
  clear hK K
  with_reducible refine wpQuiet_step ?_
  intro K hK
  go_simp
  refine hK _ ?_
  clear hK K
  with_reducible refine wpQuiet_step ?_
  intro K hK
  go_simp
  refine hK _ ?_
  clear hK K
  with_reducible refine wpQuiet_step ?_
  intro K hK
  go_simp
  refine hK _ ?_
  clear hK K
  with_reducible refine wpQuiet_step ?_
  intro K hK
  go_simp
  refine hK _ ?_
  clear hK K
  with_reducible refine wpQuiet_step ?_
  intro K hK
  go_simp
  apply Exists.intro
  refine ⟨fun n => ?_, hK _ ?_⟩
  · exact (HC1.out _ _ _).mono (fun e w' he => ⟨he.1, n, he.2⟩)
  clear hK K
  intro w' hC
  obtain ⟨n, rfl⟩ := hC
  have HBn := hidMk (below_drewN HB.out n)
  have HDn : Hid (w.drawn ≤ (W1.drewN n).drawn) := Nat.le_trans HD.out (Nat.le_add_right _ _)
  clear HD HB c0 c1 d0 d1
  generalize W1.drewN n = W2 at *
  refine wpAny_ready (fuel := 2) (rs := [10]) (by kernel_rfl) (by simp) ?_
  refine AllReady.cons rfl (fun K hK => ?_) AllReady.nil
  go_simp
  refine hK _ _ ?_
  clear hK K
  refine wpAny_ready (fuel := 1) (rs := [11]) (by kernel_rfl) (by simp) ?_
  refine AllReady.cons rfl (fun K hK => ?_) AllReady.nil
  go_simp
  refine (or_two (cmpI x.t y.t) (cmpI x.f y.f) _ _ _ (by go_simp) (by go_simp)).mono ?_
  rintro e w3 ⟨rfl, hw3⟩
  subst hw3
  refine hK _ _ ?_
  clear hK K
  refine wpAny_ready (fuel := 0) (rs := [12]) (by kernel_rfl) (by simp) ?_
  refine AllReady.cons rfl (fun K hK => ?_) AllReady.nil
  go_simp
  refine hK _ _ ?_
  clear hK K
  refine ⟨by kernel_rfl, ?_⟩
  have HBf := hidMk (HBn.out.alloc HBn.out.size (.cells #[.int .i64 (cmpI x.t y.t), .int .i64 (cmpI x.f y.f)] 3))
  go_wp2_with fail
  go_ret
  exact ⟨rfl, HBf.out, HDn.out⟩
end Go.Proofs.YtobhccmnlmlapaaGreatDoor
