import Derived.Test.YtdbboaebigpkoaaGreatDoorAgF
namespace Go.Proofs.YtdbboaebigpkoaaGreatDoor
open Go.RowKit
set_option linter.unusedVariables false
set_option linter.unusedSimpArgs false
set_option maxRecDepth 100000

set_option maxHeartbeats 4000000 in
theorem pickAdd_2 (g T : Nat) (kind : Int) (x o : Tm) (n : Nat) (cap : Array Value) (w : World) (h : Own w g T 5 (cellsT x ++ [.func (.func n) #[] cap])) (ho : o.v.k ≠ 0) (hk : (x.v.k == 0) = false) (he : ∀ (a : Array Value) (W : World), (callFunc n a).run Tryz.prog W = .ok (.enter n a) W)
    (hn : ∀ W, Below w.heap.size w W → Calls Tryz.prog n (#[tmv o, tmv x] ++ cap) W fun e w' => ∃ r, e = .returned (.int .i64 r) ∧ decide (r < 0) = bet kind x o ∧ Below W.heap.size W w') :
    Calls Tryz.prog 90 #[ptr g, tmv o] w fun e w' => e = .returned (.tuple #[]) ∧ Own w' g T 5 (cellsT (pickF kind x o) ++ [.func (.func n) #[] cap]) ∧ w.grownBy w' (some g) := by
  have H : Hid (Own w g T 5 (cellsT x ++ [.func (.func n) #[] cap])) := h
  obtain ⟨c0, c1, c2, c3⟩ := cell4 (n := 1) h
  have c4 : w.cell? ⟨g, 4, none⟩ = some (.func (.func n) #[] cap) := h.cell 4 (by decide)
  have hlt := h.lt
  have s0 := h.soft 0
  have s1 := h.soft 1
  have s2 := h.soft 2
  have s3 := h.soft 3
  have HE : Hid (∀ W, Below w.heap.size w W → Calls Tryz.prog 86 #[ptr g] W fun e w' => e = .returned (.bool (x.v.k == 0)) ∧ w' = W) := fun W hW => empty_any g T 1 x [.func (.func n) #[] cap] W (h.later hW)
  have HN : Hid (∀ W, Below w.heap.size w W → Calls Tryz.prog n (#[tmv o, tmv x] ++ cap) W fun e w' => ∃ r, e = .returned (.int .i64 r) ∧ decide (r < 0) = bet kind x o ∧ Below W.heap.size W w') := hn
  clear h hn
  have hne : ¬ w.heap.size = g := by omega
  unfold ptr tmv at *
  have ho1 : (o.v.k != 0) = true := by simpa using ho
  have hx : ¬ x.v.k = 0 := by simpa using hk
  have E : Hid (pickF kind x o = if bet kind x o = true then o else x) := by unfold Hid pickF; simp [ho, hx]
  rw [hk] at HE
  clear ho hx
  generalize bet kind x o = B at *
  go_enter Tryz.func90, Tryz.ntmps90
  go_wp2_with fail
  have hB0 : Below w.heap.size w (w.alloc (.cells #[.int .i64 o.t, .int .i64 o.v.k, .int .i64 o.v.n, .string o.v.s] 46)).drew := (bel1 w _).drew
  have d0 : (w.alloc (.cells #[.int .i64 o.t, .int .i64 o.v.k, .int .i64 o.v.n, .string o.v.s] 46)).cell? ⟨w.heap.size, 0, none⟩ = some (.int .i64 o.t) := by go_simp
  have d1 : (w.alloc (.cells #[.int .i64 o.t, .int .i64 o.v.k, .int .i64 o.v.n, .string o.v.s] 46)).cell? ⟨w.heap.size, 1, none⟩ = some (.int .i64 o.v.k) := by go_simp
  have d2 : (w.alloc (.cells #[.int .i64 o.t, .int .i64 o.v.k, .int .i64 o.v.n, .string o.v.s] 46)).cell? ⟨w.heap.size, 2, none⟩ = some (.int .i64 o.v.n) := by go_simp
  have d3 : (w.alloc (.cells #[.int .i64 o.t, .int .i64 o.v.k, .int .i64 o.v.n, .string o.v.s] 46)).cell? ⟨w.heap.size, 3, none⟩ = some (.string o.v.s) := by go_simp
  replace c0 := cell_later (bel1 w (.cells #[.int .i64 o.t, .int .i64 o.v.k, .int .i64 o.v.n, .string o.v.s] 46)) c0
  replace c1 := cell_later (bel1 w (.cells #[.int .i64 o.t, .int .i64 o.v.k, .int .i64 o.v.n, .string o.v.s] 46)) c1
  replace c2 := cell_later (bel1 w (.cells #[.int .i64 o.t, .int .i64 o.v.k, .int .i64 o.v.n, .string o.v.s] 46)) c2
  replace c3 := cell_later (bel1 w (.cells #[.int .i64 o.t, .int .i64 o.v.k, .int .i64 o.v.n, .string o.v.s] 46)) c3
  replace c4 := cell_later (bel1 w (.cells #[.int .i64 o.t, .int .i64 o.v.k, .int .i64 o.v.n, .string o.v.s] 46)) c4
  generalize w.alloc (.cells #[.int .i64 o.t, .int .i64 o.v.k, .int .i64 o.v.n, .string o.v.s] 46) = W1 at *
  go_region_held3 (fun w' => w'.cell? ⟨w.heap.size, 0, none⟩ = some (.int .i64 o.t) ∧ w'.cell? ⟨w.heap.size, 1, none⟩ = some (.int .i64 o.v.k) ∧ w'.cell? ⟨w.heap.size, 2, none⟩ = some (.int .i64 o.v.n) ∧ w'.cell? ⟨w.heap.size, 3, none⟩ = some (.string o.v.s)
      ∧ w'.cell? ⟨g, 0, none⟩ = some (.int .i64 x.t) ∧ w'.cell? ⟨g, 1, none⟩ = some (.int .i64 x.v.k) ∧ w'.cell? ⟨g, 2, none⟩ = some (.int .i64 x.v.n) ∧ w'.cell? ⟨g, 3, none⟩ = some (.string x.v.s) ∧ w'.cell? ⟨g, 4, none⟩ = some (.func (.func n) #[] cap) ∧ Below w.heap.size w w')
    (first | go_keep | (go_split_ands; exact ⟨cell_later ‹_› ‹_›, cell_later ‹_› ‹_›, cell_later ‹_› ‹_›, cell_later ‹_› ‹_›, cell_later ‹_› ‹_›, cell_later ‹_› ‹_›, cell_later ‹_› ‹_›, cell_later ‹_› ‹_›, cell_later ‹_› ‹_›, Below.trans ‹Below w.heap.size w _› (Below.mono ‹_› (Below.size ‹_›))⟩))
    (first | (go_at_call 86; refine (HE.out _ (by go_split_ands; assumption)).mono ?_; rintro e w1 ⟨rfl, rfl⟩) | (refine (HN.out _ (by go_split_ands; assumption)).mono ?_; rintro e w1 ⟨r, rfl, hr, hb1⟩))
  rename_i hH
  obtain ⟨e0, e1, e2, e3, f0, f1, f2, f3, f4, hBw⟩ := hH
  have HO := H.out.later hBw
  have t0' := HO.soft 0
  have t1' := HO.soft 1
  have t2' := HO.soft 2
  have t3' := HO.soft 3
  have hl1 := HO.lt
  have H1 : Hid (Own w1 g T 5 (cellsT x ++ [.func (.func n) #[] cap])) := HO
  have HB : Hid (Below w.heap.size w w1) := hBw
  clear c0 c1 c2 c3 c4 d0 d1 d2 d3 hB0 HO hBw hb1 H HN HE s0 s1 s2 s3 hr
  cases B with
  | true =>
    go_wp2
    go_end0
    rw [E.out]
    have hq := put4 H1.out o
    exact ⟨rfl, hq.1, grown_trans (grown_below HB.out) hq.2⟩
  | false =>
    go_wp2
    go_end0
    rw [E.out]
    exact ⟨rfl, H1.out, grown_below HB.out⟩

theorem pickAdd_any (g T : Nat) (kind : Int) (x o : Tm) (F : Value) (w : World) (h : Own w g T 5 (cellsT x ++ [F])) (hF : OrdF w g kind F) :
    Calls Tryz.prog 90 #[ptr g, tmv o] w fun e w' => e = .returned (.tuple #[]) ∧ Own w' g T 5 (cellsT (pickF kind x o) ++ [F]) ∧ w.grownBy w' (some g) := by
  obtain ⟨n, cap, rfl, he, hn⟩ := hF.does
  by_cases ho : o.v.k = 0
  · exact pickAdd_0 g T kind x o n cap w h ho
  · cases hk : (x.v.k == 0) with
    | true => exact pickAdd_1 g T kind x o n cap w h ho hk
    | false => exact pickAdd_2 g T kind x o n cap w h ho hk he fun W hW => hn o x W hW

/-- Ways 3 to 6: one is kept. -/
def IPick (kind : Int) (B : Nat) (w : World) (x : Value) (l : List Tm) : Prop := ∃ g F, x = .iface 86 (ptr g) ∧ B ≤ g ∧ Own w g 89 5 (cellsT (pickS kind l) ++ [F]) ∧ OrdF w g kind F
theorem meth_pickAdd (g : Nat) : Meth 86 (ptr g) "streamwright/agg.add" 90 (ptr g) := ⟨fun W => by kernel_rfl, fun W => by kernel_rfl, xent Tryz.func90 (by kernel_rfl) (by rfl)⟩
theorem meth_pickAns (g : Nat) : Meth 86 (ptr g) "streamwright/agg.answer" 85 (ptr g) := ⟨fun W => by kernel_rfl, fun W => by kernel_rfl, xent Tryz.func85 (by kernel_rfl) (by rfl)⟩
theorem turned_any (F : Value) (n : Nat) (hF : F = .func (.func n) #[] #[]) (w : World) : Calls Tryz.prog 29 #[F] w fun e w' => e = .returned (.func (.func 43) #[] #[ptr w.heap.size]) ∧ w' = w.alloc (.cells #[F] 87) := by
  have hm := hmf2
  subst hF
  unfold ptr
  go_enter Tryz.func29, Tryz.ntmps29
  go_wp2
  go_ret
  exact ⟨rfl, rfl⟩
set_option maxHeartbeats 1000000 in
theorem begun_3 (w : World) : Calls Tryz.prog 16 #[.int .i64 3] w (fun e w' => ∃ x, e = .returned x ∧ IPick 3 w.heap.size w' x [] ∧ Below w.heap.size w w') := by
  have hm := hmf2
  go_enter Tryz.func16, Tryz.ntmps16
  go_wp2
  go_ret
  exact ⟨_, rfl, ⟨w.heap.size, _, rfl, Nat.le_refl _, Own.new _ _ _ _ rfl, .inl ⟨rfl, rfl⟩⟩, bel1 _ _⟩
set_option maxHeartbeats 1000000 in
theorem begun_5 (w : World) : Calls Tryz.prog 16 #[.int .i64 5] w (fun e w' => ∃ x, e = .returned x ∧ IPick 5 w.heap.size w' x [] ∧ Below w.heap.size w w') := by
  have hm := hmf2
  go_enter Tryz.func16, Tryz.ntmps16
  go_wp2
  go_ret
  exact ⟨_, rfl, ⟨w.heap.size, _, rfl, Nat.le_refl _, Own.new _ _ _ _ rfl, .inr (.inl ⟨rfl, rfl⟩)⟩, bel1 _ _⟩
set_option maxHeartbeats 1000000 in
theorem begun_4 (w : World) : Calls Tryz.prog 16 #[.int .i64 4] w (fun e w' => ∃ x, e = .returned x ∧ IPick 4 w.heap.size w' x [] ∧ Below w.heap.size w w') := by
  have hm := hmf2
  go_enter Tryz.func16, Tryz.ntmps16
  go_wp2_with fail
  refine (turned_any _ 28 rfl _).mono ?_
  rintro e w1 ⟨rfl, rfl⟩
  unfold ptr
  go_wp2
  go_ret
  refine ⟨_, rfl, ⟨w.heap.size + 1, _, rfl, Nat.le_succ _, ?_, .inr (.inr (.inl ⟨rfl, w.heap.size, rfl, by omega, by go_simp⟩))⟩, bel2 _ _ _⟩
  have h := Own.new (w.alloc (.cells #[.func (.func 28) #[] #[]] 87)) 89 5 #[.int .i64 0, .int .i64 0, .int .i64 0, .string ⟨#[]⟩, .func (.func 43) #[] #[.pointer (some ⟨w.heap.size, 0, none⟩)]] rfl
  rw [show (w.alloc (.cells #[.func (.func 28) #[] #[]] 87)).heap.size = w.heap.size + 1 from by simp] at h
  exact h
set_option maxHeartbeats 1000000 in
theorem begun_6 (w : World) : Calls Tryz.prog 16 #[.int .i64 6] w (fun e w' => ∃ x, e = .returned x ∧ IPick 6 w.heap.size w' x [] ∧ Below w.heap.size w w') := by
  have hm := hmf2
  go_enter Tryz.func16, Tryz.ntmps16
  go_wp2_with fail
  refine (turned_any _ 30 rfl _).mono ?_
  rintro e w1 ⟨rfl, rfl⟩
  unfold ptr
  go_wp2
  go_ret
  refine ⟨_, rfl, ⟨w.heap.size + 1, _, rfl, Nat.le_succ _, ?_, .inr (.inr (.inr ⟨rfl, w.heap.size, rfl, by omega, by go_simp⟩))⟩, bel2 _ _ _⟩
  have h := Own.new (w.alloc (.cells #[.func (.func 30) #[] #[]] 87)) 89 5 #[.int .i64 0, .int .i64 0, .int .i64 0, .string ⟨#[]⟩, .func (.func 43) #[] #[.pointer (some ⟨w.heap.size, 0, none⟩)]] rfl
  rw [show (w.alloc (.cells #[.func (.func 30) #[] #[]] 87)).heap.size = w.heap.size + 1 from by simp] at h
  exact h

theorem way_pick (kind : Int) (hk : kind = 3 ∨ kind = 4 ∨ kind = 5 ∨ kind = 6) : IsWay kind (IPick kind) where
  later B w w' x l h hb := by
    obtain ⟨g, F, h1, h2, h3, h4⟩ := h
    exact ⟨g, F, h1, h2, h3.later hb, h4.grown (r := none) (grown_below hb) fun k hk => by cases hk⟩
  add B w x l o h hf hl := by
    obtain ⟨g, F, rfl, h2, h3, h4⟩ := h
    refine ⟨_, _, _, _, rfl, meth_pickAdd g, (pickAdd_any g _ kind _ o F w h3 h4).mono fun e w' ⟨he, h5, h6⟩ => ⟨he, ⟨g, F, rfl, h2, ?_, h4.grown h6 fun k hk => (Option.some.inj hk).symm⟩, below_own h2 h3.lt h6⟩⟩
    have e : pickS kind (l ++ [o]) = pickF kind (pickS kind l) o := by simp [pickS, List.foldl_append]
    rw [e]; exact h5
  answer B w x l h := by
    obtain ⟨g, F, rfl, h2, h3, h4⟩ := h
    refine ⟨_, _, _, _, rfl, meth_pickAns g, (answer_any g _ 1 (pickS kind l) [F] w h3).mono fun e w' ⟨he, hb⟩ => ⟨?_, hb⟩⟩
    rw [he]
    have e : foldV kind l = (pickS kind l).v := by
      unfold foldV
      rw [if_neg (by omega), if_neg (by omega), if_neg (by omega)]
    rw [e]
  beg w := by
    rcases hk with rfl | rfl | rfl | rfl
    · exact begun_3 w
    · exact begun_4 w
    · exact begun_5 w
    · exact begun_6 w
end Go.Proofs.YtdbboaebigpkoaaGreatDoor
