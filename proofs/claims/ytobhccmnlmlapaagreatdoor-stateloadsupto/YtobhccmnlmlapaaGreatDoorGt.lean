import Derived.Test.YtobhccmnlmlapaaGreatDoorQStZf
import Derived.Test.YtobhccmnlmlapaaGreatDoorQHdA
namespace Go.Proofs.YtobhccmnlmlapaaGreatDoor
open Go.RowKit Go.Maps
set_option linter.unusedVariables false
set_option linter.unusedSimpArgs false
set_option maxRecDepth 100000

theorem new_ok (lo hi : Int) (w : World) (hr : 0 ≤ lo ∧ lo ≤ hi ∧ hi ≤ 32) :
    Calls Tryz.prog 6 #[.int .i64 lo, .int .i64 hi] w fun e w' => ∃ t mp, e = .returned (.tuple #[.pointer (some ⟨t, 0, none⟩), .nilIface]) ∧ PS w' w.heap.size t mp lo hi [] ∧ Below w.heap.size w w' := by
  have HE := hidMk (empty_any lo hi w hr)
  have h0 : ¬ lo < 0 := by omega
  have h1 : ¬ hi < lo := by omega
  have h2 : ¬ 32 < hi := by omega
  clear hr
  go_enter Tryz.func6, Tryz.ntmps6
  go_wp2_with fail
  refine HE.out.mono ?_
  rintro e w' ⟨t, mp, rfl, hp, hb⟩
  have HP := hidMk hp
  have HB := hidMk hb
  clear hp hb HE
  go_wp2_with fail
  go_ret2
  exact ⟨t, mp, rfl, HP.out, HB.out⟩
theorem len_any (w : World) (B t mp : Nat) (lo hi nc nw : Int) (ss : List Sh) (h : PQ w B t mp lo hi nc nw ss) :
    Calls Tryz.prog 15 #[.pointer (some ⟨t, 0, none⟩)] w fun e w' => e = .returned (.int .i64 nc) ∧ w' = w := by
  have h3 := h.cells.2.2.2.1
  clear h
  go_enter Tryz.func15, Tryz.ntmps15
  go_wp2_with fail
  go_ret
  exact ⟨rfl, rfl⟩
theorem ShOk.low {w : World} {B B' : Nat} {lo hi : Int} {s : Sh} (h : ShOk w B lo hi s) (hB : B' ≤ B) : ShOk w B' lo hi s :=
  ⟨World.ownsRow.mono h.key hB, h.good, h.val, h.gl, h.gh, h.map, Nat.le_trans hB h.ge, h.ne, fun x hx => ⟨World.ownsRow.mono (h.dat x hx).1 hB, (h.dat x hx).2⟩⟩
/-- What a store is loaded to. -/
def LoadFin (w : World) (B t : Nat) (lo hi : Int) (l : List Ce) (w' : World) : Prop := ∃ mp ss, PS w' B t mp lo hi ss ∧ (ces ss).Perm l ∧ Gs (fun i => i = t) w w' ∧ ∀ i, Bl t mp ss i → i = t ∨ w.heap.size ≤ i
set_option maxHeartbeats 2000000 in
theorem load_ok (w : World) (B t mp : Nat) (lo hi : Int) (ss : List Sh) (pb : Option Addr) (pc : Nat) (cl : Nat → List Ce) (ps : List Pc) (h : PS w B t mp lo hi ss) (hin : PIn w w.heap.size pb ps) (hr : Reads lo hi cl ps) (ht : ∀ W, Below w.heap.size w W → Vl.Tab W ∧ Wr.Quart W) :
    Calls Tryz.prog 12 #[.pointer (some ⟨t, 0, none⟩), .slice pb ps.length pc] w fun e w' => e = .returned .nilIface ∧ LoadFin w B t lo hi (accP lo hi cl ps) w' := by
  have hlt := h.own.lt
  have HP := hidMk h
  have HI := hidMk hin
  have HR := hidMk hr
  have HT := hidMk ht
  have HE := hidMk (fun W => empty_any lo hi W h.rg)
  have e0 := h.cells.1
  have e1 := h.cells.2.1
  clear h hin hr ht
  go_enter Tryz.func12, Tryz.ntmps12
  go_wp2_with fail
  refine wp_region_head (K := 8) (C := (fun W => W = w.drew)) 8 (by kernel_rfl) (by kernel_rfl) (by kernel_rfl) (by decide) (by kernel_rfl) (by kernel_rfl) rfl ?_
  simp only [List.take_succ_cons, List.take_zero]
  with_reducible refine wpQuiet_step ?_
  intro K hK
  go_simp
  refine hK _ ?_
  clear hK K
  with_reducible refine wpQuiet_step ?_
  intro K hK
  go_simp
  refine hK _ ?_
  clear hK K
  with_reducible refine wpQuiet_step ?_
  intro K hK
  go_simp
  refine hK _ ?_
  clear hK K
  with_reducible refine wpQuiet_step ?_
  intro K hK
  go_simp
  refine hK _ ?_
  clear hK K
  with_reducible refine wpQuiet_step ?_
  intro K hK
  go_simp
  refine hK _ ?_
  clear hK K
  with_reducible refine wpQuiet_step ?_
  intro K hK
  go_simp
  refine hK _ ?_
  clear hK K
  with_reducible refine wpQuiet_step ?_
  intro K hK
  go_simp
  refine hK _ ?_
  clear hK K
  with_reducible refine wpQuiet_step ?_
  intro K hK
  go_simp
  refine hK _ ?_
  clear hK K
  intro w' hC
  obtain rfl := hC
  refine wpAny_ready (fuel := 1) (rs := [8]) (by kernel_rfl) (by simp) ?_
  refine AllReady.cons rfl (fun K hK => ?_) AllReady.nil
  go_simp
  refine (HE.out _).mono ?_
  rintro e w1 ⟨t1, mp1, rfl, hp1, hb1⟩
  refine hK _ _ ?_
  clear hK K
  refine wpAny_ready (fuel := 0) (rs := [9]) (by kernel_rfl) (by simp) ?_
  refine AllReady.cons rfl (fun K hK => ?_) AllReady.nil
  go_simp
  refine hK _ _ ?_
  clear hK K
  refine ⟨by kernel_rfl, ?_⟩
  have HP1 := hidMk hp1
  have hbw : Below w.heap.size w w1 := (below_drewN (Below.refl _ _) 1).trans hb1
  have HRd := hidMk (read_ok w1.drew w.heap.size t1 mp1 lo hi pb pc cl ps hp1.drew (HI.out.kept (below_drewN hbw 1)) HR.out (fun W hW => HT.out W ((below_drewN hbw 1).trans hW)) (by have := HP.out.rg; omega))
  have f0 : w1.drew.cell? ⟨t, 0, none⟩ = some (.int .i64 lo) := (hbw.cell (p := ⟨t, 0, none⟩) hlt).trans e0
  have f1 : w1.drew.cell? ⟨t, 1, none⟩ = some (.int .i64 hi) := (hbw.cell (p := ⟨t, 1, none⟩) hlt).trans e1
  have HBW := hidMk hbw
  clear hp1 hb1 e0 e1 hbw
  go_wp2_with fail
  refine wp_region_head (K := 11) (C := (fun W => W = w1.drew)) 8 (by kernel_rfl) (by kernel_rfl) (by kernel_rfl) (by decide) (by kernel_rfl) (by kernel_rfl) rfl ?_
  simp only [List.take_succ_cons, List.take_zero]
  with_reducible refine wpQuiet_step ?_
  intro K hK
  go_simp
  refine hK _ ?_
  clear hK K
  with_reducible refine wpQuiet_step ?_
  intro K hK
  go_simp
  refine hK _ ?_
  clear hK K
  with_reducible refine wpQuiet_step ?_
  intro K hK
  go_simp
  refine hK _ ?_
  clear hK K
  with_reducible refine wpQuiet_step ?_
  intro K hK
  go_simp
  refine hK _ ?_
  clear hK K
  with_reducible refine wpQuiet_step ?_
  intro K hK
  go_simp
  refine hK _ ?_
  clear hK K
  with_reducible refine wpQuiet_step ?_
  intro K hK
  go_simp
  refine hK _ ?_
  clear hK K
  with_reducible refine wpQuiet_step ?_
  intro K hK
  go_simp
  refine hK _ ?_
  clear hK K
  with_reducible refine wpQuiet_step ?_
  intro K hK
  go_simp
  refine hK _ ?_
  clear hK K
  with_reducible refine wpQuiet_step ?_
  intro K hK
  go_simp
  refine hK _ ?_
  clear hK K
  with_reducible refine wpQuiet_step ?_
  intro K hK
  go_simp
  refine hK _ ?_
  clear hK K
  with_reducible refine wpQuiet_step ?_
  intro K hK
  go_simp
  refine hK _ ?_
  clear hK K
  intro w' hC
  obtain rfl := hC
  refine wpAny_ready (fuel := 1) (rs := [11]) (by kernel_rfl) (by simp) ?_
  refine AllReady.cons rfl (fun K hK => ?_) AllReady.nil
  go_simp
  refine HRd.out.mono ?_
  rintro e w2 ⟨rfl, ss2, hp2, hm2, hb2⟩
  refine hK _ _ ?_
  clear hK K
  refine wpAny_ready (fuel := 0) (rs := [12]) (by kernel_rfl) (by simp) ?_
  refine AllReady.cons rfl (fun K hK => ?_) AllReady.nil
  go_simp
  refine hK _ _ ?_
  clear hK K
  refine ⟨by kernel_rfl, ?_⟩
  have hbw : Below w.heap.size w w2 := (below_drewN HBW.out 1).trans hb2
  have HP2 := hidMk hp2
  have HM2 := hidMk hm2
  have HBW2 := hidMk hbw
  obtain ⟨g0, g1, g2, g3, g4⟩ := hp2.cells
  have ho := HP.out.own.later hbw
  have q0 := ho.cell 0 (by decide)
  have q1 := ho.cell 1 (by decide)
  have q2 := ho.cell 2 (by decide)
  have q3 := ho.cell 3 (by decide)
  have q4 := ho.cell 4 (by decide)
  have r0 := ho.soft 0
  have r1 := ho.soft 1
  have r2 := ho.soft 2
  have r3 := ho.soft 3
  have r4 := ho.soft 4
  simp only [List.getElem?_cons_zero, List.getElem?_cons_succ] at q0 q1 q2 q3 q4
  have p1 := ho.put 0 (.int .i64 lo)
  have p2 := p1.1.put 1 (.int .i64 hi)
  have p3 := p2.1.put 2 (.map (some mp1))
  have p4 := p3.1.put 3 (.int .i64 ((ces ss2).length : Int))
  have p5 := p4.1.put 4 (.int .i64 (wt (ces ss2) : Int))
  have HG := hidMk (grown_trans p1.2 (grown_trans p2.2 (grown_trans p3.2 (grown_trans p4.2 p5.2))))
  have HO := hidMk p5.1
  clear hp2 hm2 hb2 hbw f0 f1 HBW HRd HE HT HI p1 p2 p3 p4 p5
  go_wp2_with fail
  go_ret
  refine ⟨rfl, mp1, ss2, ?_, HM2.out, ?_, ?_⟩
  · have hB : B ≤ w.heap.size := by have := HP.out.ge.1; omega
    have hg : Gs (fun i => i = t) w2 _ := Gs.one HG.out (fun k e => (Option.some.inj e).symm)
    have hne : ∀ i, Bl t1 mp1 ss2 i → i ≠ t := fun i hi e => by have := (HP2.out.lt hi).1; omega
    have hk := HP2.out.kept hg (fun i hi e => hne i hi e)
    exact ⟨HO.out, hk.mpo, fun s hs => (hk.sho s hs).low hB, ⟨HP.out.ge.1, Nat.le_trans hB hk.ge.2⟩, ⟨fun e => hne mp1 (.inl (.inr (.inl rfl))) e.symm, fun s hs => ⟨fun e => hne s.mb (.inl (.inr (.inr ⟨s, hs, rfl⟩))) e, (hk.ne.2 s hs).2⟩⟩, hk.ds, fun i hi hT => by
      rcases hT with rfl | hT
      · exact hne _ (.inr hi) rfl
      · exact hk.fx i hi (.inr hT), hk.wl, hk.rg⟩
  · exact (Gs.below HBW2.out).trans (Gs.one HG.out (fun k e => (Option.some.inj e).symm))
  · intro i hi
    rcases hi with (rfl | hi) | hi
    · exact .inl rfl
    · exact .inr (HP2.out.lt (.inl (.inr hi))).1
    · exact .inr (HP2.out.lt (.inr hi)).1
end Go.Proofs.YtobhccmnlmlapaaGreatDoor
namespace Go.Proofs.YtobhccmnlmlapaaGreatDoor
open Go.RowKit Go.Maps
set_option linter.unusedVariables false
set_option linter.unusedSimpArgs false

theorem filt_split {α : Type} (f : α → Nat) (n : Nat) (l : List α) : (l.filter (fun c => decide (f c < n + 1))).Perm (l.filter (fun c => decide (f c < n)) ++ l.filter (fun c => f c == n)) := by
  induction l with
  | nil => simp
  | cons c l ih =>
    by_cases h1 : f c < n
    · have h2 : f c < n + 1 := by omega
      have h3 : ¬ f c = n := by omega
      simp [h1, h2, h3]
      simpa using ih
    · by_cases h3 : f c = n
      · have h2 : decide (f c < n + 1) = true := by simp; omega
        have h4 : decide (f c < n) = false := by simp; omega
        have h5 : (f c == n) = true := by simp [h3]
        rw [List.filter_cons_of_pos (p := fun c => decide (f c < n + 1)) h2, List.filter_cons_of_neg (p := fun c => decide (f c < n)) (by simp only [h4]; simp), List.filter_cons_of_pos (p := fun c => f c == n) h5]
        exact (List.Perm.cons c ih).trans List.perm_middle.symm
      · have h2 : ¬ f c < n + 1 := by omega
        simp [h1, h2, h3]
        simpa using ih
theorem flat_groups {α : Type} (f : α → Nat) (l : List α) : ∀ n, ((List.range n).flatMap fun g => l.filter (fun c => f c == g)).Perm (l.filter (fun c => decide (f c < n)))
  | 0 => by simp
  | n + 1 => by
    rw [List.range_succ, List.flatMap_append]
    refine ((flat_groups f l n).append_right _).trans ?_
    simpa using (filt_split f n l).symm
/-- The cells of groups from lo to ahead of hi. -/
def inL (lo hi : Int) (c : Ce) : Bool := decide (lo ≤ (grp c.key : Int)) && decide ((grp c.key : Int) < hi)
theorem flatMap_filterMap (l : List Ce) (p : Nat → Bool) : ∀ (R : List Nat), ((R.filterMap (pcs l)).filter (fun q => p q.1)).flatMap (fun q => ofG l q.1) = (R.filter p).flatMap (ofG l)
  | [] => rfl
  | g :: R => by
    have ih := flatMap_filterMap l p R
    by_cases h0 : (ofG l g).length = 0
    · have e : pcs l g = none := by unfold pcs; rw [if_pos h0]
      rw [List.filterMap_cons, e]
      by_cases hp : p g = true
      · rw [List.filter_cons, if_pos hp, List.flatMap_cons, ← ih, List.eq_nil_of_length_eq_zero h0]; rfl
      · rw [List.filter_cons (x := g), if_neg hp]; exact ih
    · have e : pcs l g = some (g, Wr.sealed (encBody (ofG l g))) := by unfold pcs; rw [if_neg h0]
      rw [List.filterMap_cons, e]
      by_cases hp : p g = true
      · simp only [List.filter_cons, hp, if_true, List.flatMap_cons]
        rw [ih]
      · simp only [List.filter_cons, hp, if_false, Bool.false_eq_true]
        exact ih
theorem filt_of_range (l : List Ce) (p : Nat → Bool) : ∀ (R : List Nat), ((R.filter p).flatMap (ofG l)).Perm (R.flatMap fun g => (l.filter fun c => p (grp c.key)).filter (fun c => grp c.key == g))
  | [] => List.Perm.refl _
  | g :: R => by
    have ih := filt_of_range l p R
    rw [List.flatMap_cons]
    by_cases hp : p g = true
    · rw [List.filter_cons, if_pos hp, List.flatMap_cons]
      refine List.Perm.append ?_ ih
      refine (ofG_perm l g).trans ?_
      rw [List.filter_filter]
      have : (fun c => (grp c.key == g) && p (grp c.key)) = fun c : Ce => grp c.key == g := by
        funext c
        by_cases e : grp c.key = g
        · simp [e, hp]
        · simp [e]
      rw [this]
    · rw [List.filter_cons, if_neg hp]
      have : (l.filter fun c => p (grp c.key)).filter (fun c => grp c.key == g) = [] := by
        rw [List.filter_filter]
        apply List.filter_eq_nil_iff.2
        intro c hc h
        simp only [Bool.and_eq_true, beq_iff_eq] at h
        rw [h.1] at h
        exact hp h.2
      rw [this, List.nil_append]
      exact ih
theorem accP_perm (l : List Ce) (ps : List Pc) (lo hi : Int) (h : ps.map (fun p => (p.g, p.b)) = saveP l) : (accP lo hi (ofG l) ps).Perm (l.filter (inL lo hi)) := by
  have e : accP lo hi (ofG l) ps = ((saveP l).filter (fun q => decide (lo ≤ (q.1 : Int)) && decide ((q.1 : Int) < hi))).flatMap fun q => ofG l q.1 := by
    rw [← h]
    unfold accP
    rw [List.filter_map, List.flatMap_map]
    rfl
  rw [e]
  unfold saveP
  rw [flatMap_filterMap l (fun g => decide (lo ≤ (g : Int)) && decide ((g : Int) < hi))]
  refine (filt_of_range l (fun g => decide (lo ≤ (g : Int)) && decide ((g : Int) < hi)) _).trans ?_
  refine (flat_groups (fun c : Ce => grp c.key) _ 32).trans ?_
  rw [List.filter_filter]
  have : (fun a : Ce => decide (grp a.key < 32) && (decide (lo ≤ (grp a.key : Int)) && decide ((grp a.key : Int) < hi))) = inL lo hi := by
    funext c
    have := grp_lt c.key
    simp [inL, this]
  rw [this]
theorem pcs_cut (l : List Ce) (lo hi : Int) (g : Nat) : pcs (l.filter (inL lo hi)) g = if lo ≤ (g : Int) ∧ (g : Int) < hi then pcs l g else none := by
  have e : ofG (l.filter (inL lo hi)) g = if lo ≤ (g : Int) ∧ (g : Int) < hi then ofG l g else [] := by
    unfold ofG
    rw [List.filter_filter]
    by_cases hc : lo ≤ (g : Int) ∧ (g : Int) < hi
    · rw [if_pos hc]
      have : (fun a : Ce => (grp a.key == g) && inL lo hi a) = fun c : Ce => grp c.key == g := by
        funext c
        by_cases e : grp c.key = g
        · simp [e, inL, hc]
        · simp [e]
      rw [this]
    · rw [if_neg hc]
      have : l.filter (fun a : Ce => (grp a.key == g) && inL lo hi a) = [] := by
        apply List.filter_eq_nil_iff.2
        intro c hm h
        simp only [Bool.and_eq_true, beq_iff_eq, inL, decide_eq_true_eq] at h
        rw [h.1] at h
        exact hc h.2
      rw [this]
      exact List.eq_nil_of_length_eq_zero (by rw [(srt_perm []).length_eq]; rfl)
  unfold pcs
  rw [e]
  by_cases hc : lo ≤ (g : Int) ∧ (g : Int) < hi
  · simp [hc]
  · simp [hc]
theorem saveP_cut (l : List Ce) (k : Nat) (hk : k ≤ 32) : saveP (l.filter (inL 0 (k : Int))) ++ saveP (l.filter (inL (k : Int) 32)) = saveP l := by
  have hr : List.range 32 = List.range k ++ (List.range (32 - k)).map (k + ·) := by
    rw [← List.range_add]
    congr 1
    omega
  have none_of : ∀ (R : List Nat) (f g : Nat → Option (Nat × List UInt8)), (∀ i ∈ R, f i = g i) → R.filterMap f = R.filterMap g := fun R f g h => by
    induction R with
    | nil => rfl
    | cons a R ih =>
      rw [List.filterMap_cons, List.filterMap_cons, h a List.mem_cons_self, ih (fun i hi => h i (List.mem_cons_of_mem _ hi))]
  have fm_none : ∀ R : List Nat, R.filterMap (fun _ => (none : Option (Nat × List UInt8))) = [] := fun R => by induction R with | nil => rfl | cons a R ih => simp
  unfold saveP
  rw [hr]
  simp only [List.filterMap_append]
  have a1 : (List.range k).filterMap (pcs (l.filter (inL 0 (k : Int)))) = (List.range k).filterMap (pcs l) := none_of _ _ _ fun i hi => by
    rw [pcs_cut, if_pos]
    have := List.mem_range.1 hi
    omega
  have a2 : ((List.range (32 - k)).map (k + ·)).filterMap (pcs (l.filter (inL 0 (k : Int)))) = [] := by
    rw [none_of _ _ (fun _ => none) (fun i hi => ?_), fm_none]
    rw [pcs_cut, if_neg]
    obtain ⟨j, hj, rfl⟩ := List.mem_map.1 hi
    omega
  have b1 : (List.range k).filterMap (pcs (l.filter (inL (k : Int) 32))) = [] := by
    rw [none_of _ _ (fun _ => none) (fun i hi => ?_), fm_none]
    rw [pcs_cut, if_neg]
    have := List.mem_range.1 hi
    omega
  have b2 : ((List.range (32 - k)).map (k + ·)).filterMap (pcs (l.filter (inL (k : Int) 32))) = ((List.range (32 - k)).map (k + ·)).filterMap (pcs l) := none_of _ _ _ fun i hi => by
    rw [pcs_cut, if_pos]
    obtain ⟨j, hj, rfl⟩ := List.mem_map.1 hi
    have := List.mem_range.1 hj
    omega
  rw [a1, a2, b1, b2]
  simp
theorem inL_len (l : List Ce) (k : Nat) (hk : k ≤ 32) : (l.filter (inL 0 (k : Int))).length + (l.filter (inL (k : Int) 32)).length = l.length := by
  induction l with
  | nil => rfl
  | cons c l ih =>
    have h32 := grp_lt c.key
    by_cases h : grp c.key < k
    · have h1 : inL 0 (k : Int) c = true := by simp [inL]; omega
      have h2 : inL (k : Int) 32 c = false := by simp [inL]; omega
      simp [h1, h2]; omega
    · have h1 : inL 0 (k : Int) c = false := by simp [inL]; omega
      have h2 : inL (k : Int) 32 c = true := by simp [inL]; omega
      simp [h1, h2]; omega
theorem mem_saveP {l : List Ce} {q : Nat × List UInt8} (h : q ∈ saveP l) : q.1 < 32 ∧ ofG l q.1 ≠ [] ∧ q.2 = Wr.sealed (encBody (ofG l q.1)) := by
  unfold saveP at h
  obtain ⟨g, hg, e⟩ := List.mem_filterMap.1 h
  unfold pcs at e
  by_cases h0 : (ofG l g).length = 0
  · rw [if_pos h0] at e; cases e
  · rw [if_neg h0] at e
    cases e
    exact ⟨List.mem_range.1 hg, fun e' => h0 (by rw [e']; rfl), rfl⟩
theorem saveP_nodup (l : List Ce) : ((saveP l).map (·.1)).Nodup := by
  have : ∀ R : List Nat, R.Nodup → ((R.filterMap (pcs l)).map (·.1)).Nodup ∧ ∀ q ∈ (R.filterMap (pcs l)), q.1 ∈ R := fun R => by
    induction R with
    | nil => exact fun _ => ⟨List.nodup_nil, fun q hq => by cases hq⟩
    | cons g R ih =>
      intro hn
      obtain ⟨h1, h2⟩ := List.nodup_cons.1 hn
      obtain ⟨i1, i2⟩ := ih h2
      by_cases h0 : (ofG l g).length = 0
      · have e : pcs l g = none := by unfold pcs; rw [if_pos h0]
        rw [List.filterMap_cons, e]
        exact ⟨i1, fun q hq => List.mem_cons_of_mem _ (i2 q hq)⟩
      · have e : pcs l g = some (g, Wr.sealed (encBody (ofG l g))) := by unfold pcs; rw [if_neg h0]
        rw [List.filterMap_cons, e]
        refine ⟨List.nodup_cons.2 ⟨fun hm => ?_, i1⟩, fun q hq => ?_⟩
        · obtain ⟨q, hq, e'⟩ := List.mem_map.1 hm
          have e2 : q.1 = g := e'
          rw [← e2] at h1
          exact h1 (i2 q hq)
        · rcases List.mem_cons.1 hq with rfl | hq
          · exact List.mem_cons_self
          · exact List.mem_cons_of_mem _ (i2 q hq)
  exact (this _ List.nodup_range).1
/-- What was saved can be read, by a store of any groups. -/
theorem reads_of (l : List Ce) (ps : List Pc) (lo hi : Int) (h : ps.map (fun p => (p.g, p.b)) = saveP l) (ha : Apart l) (hk : ∀ c ∈ l, okC 0 32 c ∧ GoodK c.key) (hw : wt l ≤ 67108864) : Reads lo hi (ofG l) ps := by
  have hm : ∀ p ∈ ps, (p.g, p.b) ∈ saveP l := fun p hp => by rw [← h]; exact List.mem_map.2 ⟨p, hp, rfl⟩
  refine ⟨fun p hp => (mem_saveP (hm p hp)).1, ?_, fun p hp => ?_, fun p hp => asc_strict (ofG_asc l _) (ofG_apart ha _), fun p hp hin c hc => ?_, ?_⟩
  · have e : ps.map (·.g) = (saveP l).map (·.1) := by rw [← h, List.map_map]; rfl
    rw [e]
    exact saveP_nodup l
  · obtain ⟨h1, h2, h3⟩ := mem_saveP (hm p hp)
    refine ⟨h3, body_len _ (fun c hc => ?_) (Nat.le_trans (ofG_wt _ _) hw) h2⟩
    have := hk c (ofG_mem.1 hc).1
    exact ⟨this.1.1, this.2, this.1.2.1⟩
  · obtain ⟨c1, c2⟩ := ofG_mem.1 hc
    have := hk c c1
    unfold inR at hin
    simp only [Bool.and_eq_true, decide_eq_true_eq] at hin
    exact ⟨⟨this.1.1, this.1.2.1, by rw [c2]; exact hin.1, by rw [c2]; exact hin.2⟩, this.2, c2⟩
  · rw [wt_perm (accP_perm l ps lo hi h)]
    exact Nat.le_trans (wt_sub List.filter_sublist) hw
end Go.Proofs.YtobhccmnlmlapaaGreatDoor
