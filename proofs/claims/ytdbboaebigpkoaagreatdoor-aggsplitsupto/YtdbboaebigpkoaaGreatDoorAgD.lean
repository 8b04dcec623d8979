import Derived.Test.YtdbboaebigpkoaaGreatDoorAgC
namespace Go.Proofs.YtdbboaebigpkoaaGreatDoor
open Go.RowKit
set_option linter.unusedVariables false
set_option linter.unusedSimpArgs false
set_option maxRecDepth 100000

theorem cmpI64 (a b : Int) (w : World) : Calls Tryz.prog 45 #[.int .i64 a, .int .i64 b] w fun e w' => e = .returned (.int .i64 (cmpI a b)) ∧ w' = w := by
  by_cases h1 : a < b
  · have H : Hid (cmpI a b = -1) := by unfold Hid cmpI; rw [if_pos h1]
    go_enter Tryz.func45, Tryz.ntmps45
    go_wp2
    all_goals go_ret
    all_goals exact ⟨ret_int H.out.symm, rfl⟩
  · by_cases h2 : b < a
    · have H : Hid (cmpI a b = 1) := by unfold Hid cmpI; rw [if_neg h1, if_pos h2]
      go_enter Tryz.func45, Tryz.ntmps45
      go_wp2
      all_goals go_ret
      all_goals exact ⟨ret_int H.out.symm, rfl⟩
    · have H : Hid (cmpI a b = 0) := by unfold Hid cmpI; rw [if_neg h1, if_neg h2]
      go_enter Tryz.func45, Tryz.ntmps45
      go_wp2
      all_goals go_ret
      all_goals exact ⟨ret_int H.out.symm, rfl⟩
def orI (a b : Int) : Int := if a ≠ 0 then a else b
theorem or_any (a b : Int) (bl cc : Nat) (w : World) (c0 : w.cell? ⟨bl, 0, none⟩ = some (.int .i64 a)) (c1 : w.cell? ⟨bl, 1, none⟩ = some (.int .i64 b)) :
    Calls Tryz.prog 44 #[.slice (some ⟨bl, 0, none⟩) 2 cc] w fun e w' => e = .returned (.int .i64 (orI a b)) ∧ Below w.heap.size w w' := by
  by_cases ha : a = 0
  · have E : Hid (orI a b = b) := by unfold Hid orI; rw [if_neg (by simpa using ha)]
    have ha' : (a == 0) = true := by simpa using ha
    by_cases hb : b = 0
    · have hb' : (b == 0) = true := by simpa using hb
      have E0 : Hid (b = 0) := hb
      go_enter Tryz.func44, Tryz.ntmps44
      go_wp2
      refine wp_loop_rounds 3 ?_
      rw [rounds_succ]; go_wp2
      rw [rounds_succ]; go_wp2
      rw [rounds_succ]; go_wp2
      go_ret
      exact ⟨ret_int (by first | rfl | rw [E.out, E0.out]), by first | exact Below.refl _ _ | exact bel1 _ _⟩
    · have hb' : (b == 0) = false := by simpa using hb
      go_enter Tryz.func44, Tryz.ntmps44
      go_wp2
      refine wp_loop_rounds 3 ?_
      rw [rounds_succ]; go_wp2
      rw [rounds_succ]; go_wp2
      go_ret
      exact ⟨ret_int (by first | rfl | rw [E.out]), by first | exact Below.refl _ _ | exact bel1 _ _⟩
  · have E : Hid (orI a b = a) := by unfold Hid orI; rw [if_pos (by simpa using ha)]
    have ha' : (a == 0) = false := by simpa using ha
    go_enter Tryz.func44, Tryz.ntmps44
    go_wp2
    refine wp_loop_rounds 3 ?_
    rw [rounds_succ]; go_wp2
    go_ret
    exact ⟨ret_int (by first | rfl | rw [E.out]), by first | exact Below.refl _ _ | exact bel1 _ _⟩
set_option maxHeartbeats 1000000 in
theorem byTime_any (a b : Tm) (w : World) : Calls Tryz.prog 30 #[tmv a, tmv b] w fun e w' => e = .returned (.int .i64 (cmpT a b)) ∧ Below w.heap.size w w' := by
  have HV : Hid (∀ W, Calls Tryz.prog 28 #[tmv a, tmv b] W fun e w' => e = .returned (.int .i64 (cmpV a.v.k a.v.n a.v.s b.v.k b.v.n b.v.s)) ∧ Below W.heap.size W w') := byValue_any a b
  unfold tmv at *
  go_enter Tryz.func30, Tryz.ntmps30
  go_wp2
  have d0 : ((w.alloc (.cells #[.int .i64 a.t, .int .i64 a.v.k, .int .i64 a.v.n, .string a.v.s] 46)).alloc (.cells #[.int .i64 b.t, .int .i64 b.v.k, .int .i64 b.v.n, .string b.v.s] 46)).cell? ⟨w.heap.size, 0, none⟩ = some (.int .i64 a.t) := by go_simp
  go_region_held3 (fun w' => w'.cell? ⟨w.heap.size, 0, none⟩ = some (.int .i64 a.t) ∧ w'.cell? ⟨w.heap.size, 1, none⟩ = some (.int .i64 a.v.k) ∧ w'.cell? ⟨w.heap.size, 2, none⟩ = some (.int .i64 a.v.n) ∧ w'.cell? ⟨w.heap.size, 3, none⟩ = some (.string a.v.s)
      ∧ w'.cell? ⟨w.heap.size + 1, 0, none⟩ = some (.int .i64 b.t) ∧ w'.cell? ⟨w.heap.size + 1, 1, none⟩ = some (.int .i64 b.v.k) ∧ w'.cell? ⟨w.heap.size + 1, 2, none⟩ = some (.int .i64 b.v.n) ∧ w'.cell? ⟨w.heap.size + 1, 3, none⟩ = some (.string b.v.s))
    (first | go_keep | (go_split_ands; exact ⟨cell_later ‹_› ‹_›, cell_later ‹_› ‹_›, cell_later ‹_› ‹_›, cell_later ‹_› ‹_›, cell_later ‹_› ‹_›, cell_later ‹_› ‹_›, cell_later ‹_› ‹_›, cell_later ‹_› ‹_›⟩))
    (first | (go_at_call 45; refine (cmpI64 _ _ _).mono ?_; rintro e w1 ⟨rfl, rfl⟩) | (go_at_call 28; refine (HV.out _).mono ?_; rintro e w1 ⟨rfl, hbb⟩) | (go_at_call 44; refine (or_any (cmpI a.t b.t) (cmpV a.v.k a.v.n a.v.s b.v.k b.v.n b.v.s) _ _ _ (by simp) (by simp)).mono ?_; rintro e w2 ⟨rfl, hb2⟩))
  have HB : Hid (Below w.heap.size w w2) := by
    have h1 := (bel2 w (.cells #[.int .i64 a.t, .int .i64 a.v.k, .int .i64 a.v.n, .string a.v.s] 46) (.cells #[.int .i64 b.t, .int .i64 b.v.k, .int .i64 b.v.n, .string b.v.s] 46)).drew.trans (hbb.mono (by simp; omega))
    have hs := h1.size
    exact (h1.trans ((bel1 w1 _).mono hs)).trans (hb2.mono (by simp; omega))
  clear hbb hb2
  go_wp2
  go_ret
  exact ⟨rfl, HB.out⟩

/-- What an order tells of two. -/
def OrdPost (n : Nat) (kind : Int) (a b : Tm) (w : World) (e : Ending) (w' : World) : Prop := ∃ c, e = .returned (.int .i64 c) ∧ decide (c < 0) = bet kind b a ∧ Below w.heap.size w w'
theorem ord_3 (a b : Tm) (w : World) : Calls Tryz.prog 28 #[tmv a, tmv b] w fun e w' => ∃ c, e = .returned (.int .i64 c) ∧ decide (c < 0) = bet 3 b a ∧ Below w.heap.size w w' :=
  (byValue_any a b w).mono fun e w' ⟨h1, h2⟩ => ⟨_, h1, by rw [cmp_lt]; simp [bet], h2⟩
theorem ord_5 (a b : Tm) (w : World) : Calls Tryz.prog 30 #[tmv a, tmv b] w fun e w' => ∃ c, e = .returned (.int .i64 c) ∧ decide (c < 0) = bet 5 b a ∧ Below w.heap.size w w' :=
  (byTime_any a b w).mono fun e w' ⟨h1, h2⟩ => ⟨_, h1, by rw [cmpT_lt]; simp [bet], h2⟩
theorem ent_byValue : ∀ (a : Array Value) (W : World), (callFunc 28 a).run Tryz.prog W = .ok (.enter 28 a) W := xent Tryz.func28 (by kernel_rfl) (by rfl)
theorem ent_byTime : ∀ (a : Array Value) (W : World), (callFunc 30 a).run Tryz.prog W = .ok (.enter 30 a) W := xent Tryz.func30 (by kernel_rfl) (by rfl)
theorem ent_turned : ∀ (a : Array Value) (W : World), (callFunc 43 a).run Tryz.prog W = .ok (.enter 43 a) W := xent Tryz.func43 (by kernel_rfl) (by rfl)
set_option maxHeartbeats 1000000 in
theorem turned1_any (n : Nat) (he : ∀ (a : Array Value) (W : World), (callFunc n a).run Tryz.prog W = .ok (.enter n a) W) (c : Nat) (a b : Tm) (w : World) (hc : w.cell? ⟨c, 0, none⟩ = some (.func (.func n) #[] #[])) (P : Int → Prop)
    (hn : ∀ W, Calls Tryz.prog n #[tmv b, tmv a] W fun e w' => ∃ r, e = .returned (.int .i64 r) ∧ P r ∧ Below W.heap.size W w') :
    Calls Tryz.prog 43 #[tmv a, tmv b, ptr c] w fun e w' => ∃ r, e = .returned (.int .i64 r) ∧ P r ∧ Below w.heap.size w w' := by
  have HN : Hid (∀ W, Calls Tryz.prog n #[tmv b, tmv a] W fun e w' => ∃ r, e = .returned (.int .i64 r) ∧ P r ∧ Below W.heap.size W w') := hn
  clear hn
  have hl : c < w.heap.size := World.block_lt_of_cell? _ _ hc
  unfold tmv ptr at *
  go_enter Tryz.func43, Tryz.ntmps43
  go_wp2_with fail
  refine (HN.out _).mono ?_
  rintro e w1 ⟨r, rfl, hp, hb1⟩
  have HB : Hid (Below w.heap.size w w1) := (bel2 w _ _).trans (hb1.mono (by simp; omega))
  have HP : Hid (P r) := hp
  clear hb1 hp HN
  go_wp2
  go_ret
  exact ⟨r, rfl, HP.out, HB.out⟩
end Go.Proofs.YtdbboaebigpkoaaGreatDoor
