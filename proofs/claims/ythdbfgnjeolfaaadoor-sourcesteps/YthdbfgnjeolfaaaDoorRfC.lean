import Derived.Test.YthdbfgnjeolfaaaDoorRfB
namespace Go.Proofs.YthdbfgnjeolfaaaDoor
open Go.RowKit
set_option linter.unusedVariables false
set_option linter.unusedSimpArgs false
set_option maxRecDepth 100000
set_option maxHeartbeats 4000000

/-- One element more. -/
theorem OE.more {w w' : World} {B : Nat} {v v' : Value} {els : List El} {e : El} {tmp : Obj} (h : OE w B v els) (hB : B ≤ w.heap.size) (hown : w'.ownsRow B 62 5 v' (els.length + 1) (els.flatMap cellsE ++ cellsE e)) (hg : (w.alloc tmp).grownBy w' v.ownBlock)
    (hat : v'.ownBlock = v.ownBlock ∨ v'.ownBlock = some (w.heap.size + 1)) (he : OV w B (.slice e.q.a e.q.r.vs.length e.q.c) e.q.r.vs) (hea : ∀ y, e.q.a = some y → some y.block ≠ v.ownBlock) : OE w' B v' (els ++ [e]) := by
  have key : ∀ p : El, OV w B (.slice p.q.a p.q.r.vs.length p.q.c) p.q.r.vs → (∀ y, p.q.a = some y → some y.block ≠ v.ownBlock) → OV w' B (.slice p.q.a p.q.r.vs.length p.q.c) p.q.r.vs ∧ ∀ y, p.q.a = some y → some y.block ≠ v'.ownBlock := by
    intro p hp hpa
    obtain ⟨a2, c2, e2, -, h3⟩ := hp.form
    simp only [Value.slice.injEq, true_and] at e2
    constructor
    · refine own_grown (hp.later (bel1 w tmp)) hg (fun k hk => ?_)
      rcases hp.2 with ⟨h1, -⟩ | ⟨g2, c3, cur2, h1, -⟩
      · simp only [Value.slice.injEq] at h1
        rw [h1.1] at hk
        simp [Value.ownBlock] at hk
      · simp only [Value.slice.injEq] at h1
        rw [h1.1] at hk
        simp [Value.ownBlock] at hk
        subst hk
        exact hpa _ h1.1
    · intro y hy
      have hlt := (h3 y (by rw [← e2.1]; exact hy)).2
      rcases hat with h | h
      · rw [h]; exact hpa y hy
      · rw [h]; intro e4; have := Option.some.inj e4; omega
  refine ⟨?_, fun p hp => ?_, fun p hp => ?_⟩
  · rw [List.length_append, List.flatMap_append]; simpa using hown
  · rcases List.mem_append.1 hp with hp | hp
    · exact (key p (h.vals p hp) (h.apart p hp)).1
    · rw [List.mem_singleton.1 hp]; exact (key e he hea).1
  · rcases List.mem_append.1 hp with hp | hp
    · exact (key p (h.vals p hp) (h.apart p hp)).2
    · rw [List.mem_singleton.1 hp]; exact (key e he hea).2
theorem OE.later {w w' : World} {B : Nat} {v : Value} {els : List El} (h : OE w B v els) (hb : Below w.heap.size w w') : OE w' B v els :=
  ⟨own_later h.own hb, fun e he => (h.vals e he).later hb, h.apart⟩
theorem OE.drewN {w : World} {B : Nat} {x : Value} {els : List El} (h : OE w B x els) (n : Nat) : OE (w.drewN n) B x els := ⟨h.own, h.vals, h.apart⟩
/-- Elements stay where a block below them changes. -/
theorem OE.grown {w w' : World} {B g : Nat} {x : Value} {els : List El} (h : OE w B x els) (hg : w.grownBy w' (some g)) (hlt : g < B) : OE w' B x els :=
  ⟨own_grown h.own hg fun k hk e => by have := (World.ownsRow.lt h.own k hk).1; cases e; omega, fun e he => (h.vals e he).grown hg (fun k hk => by cases hk; exact hlt), h.apart⟩

theorem OE.own1 {w : World} {B : Nat} {x : Value} {e : El} (h : OE w B x [e]) : w.ownsRow B 62 5 x 1 (cellsE e) := by
  have h0 := h.own
  simp only [List.length_cons, List.length_nil, List.flatMap_cons, List.flatMap_nil, List.append_nil, Nat.zero_add] at h0
  exact h0

def RTakePost (w : World) (g : Nat) (x : Value) (bd : Int) (o : List Out) (at_ : Int) (e : Ending) (w' : World) : Prop :=
  ∃ v els, e = .returned v ∧ OE w' w.heap.size v els ∧ els.map outE = o ∧ Rdf w' g x bd at_ ∧ w.grownBy w' (some g)

/-- The time that flows: the end of the document's Take. -/
theorem rtake_over (W w : World) (g : Nat) (a : Option Addr) (c : Nat) (rs : List Rw) (bd : Int) (k : Nat) (hk : k = rs.length + 1) (h : Rdf w g (.slice a rs.length c) bd (k : Int)) (hn : rs.length ≤ 100) :
    Calls Tryd.prog 10 #[.pointer (some ⟨g, 0, none⟩)] w (RTakePost w g (.slice a rs.length c) bd [] (k : Int)) := by
  have HD := hidMk h
  obtain ⟨c0, c1, c2⟩ := h.cells
  have hk' : (k : Int) > (rs.length : Int) := by omega
  clear h hk
  go_enter Tryd.func10, Tryd.ntmps10
  go_wp2
  go_quiet (fail)
  go_wp2
  go_ret
  exact ⟨_, [], rfl, OE.nil _ _, rfl, HD.out, grown_drewN (grown_refl _ _) _⟩

theorem rtake_end (W w : World) (g : Nat) (a : Option Addr) (c : Nat) (rs : List Rw) (bd : Int) (h : Rdf w g (.slice a rs.length c) bd (rs.length : Int)) (hf : Fit rs bd) (hR : RLies W a rs) (hB : Below W.heap.size W w) (hg : W.heap.size ≤ g) :
    Calls Tryd.prog 10 #[.pointer (some ⟨g, 0, none⟩)] w (RTakePost w g (.slice a rs.length c) bd (outR rs bd rs.length) ((rs.length : Int) + 1)) := by
  obtain ⟨i0, hi0, hz0, hz1, hz2⟩ := info_parts infoE
  have HD := hidMk h
  have HRW := hidMk hR
  have HBW := hidMk hB
  have HF := hidMk hf
  have hn := hf.n
  have HGL : Hid (g < w.heap.size) := Own.lt h
  have HO : Hid (outR rs bd rs.length = [timeO 1099511627777]) := by
    have hle := (timeR_le rs bd hf.b0 (fun r hr => (hf.t r hr).2) rs.length (Nat.le_refl _)).2
    unfold Hid outR
    rw [List.getElem?_eq_none (Nat.le_refl _), timeR_none rs bd _ (Nat.le_refl _), if_pos (by omega)]
    rfl
  have hT0 := (timeR_le rs bd hf.b0 (fun r hr => (hf.t r hr).2) rs.length (Nat.le_refl _))
  have HT1 : Hid (timeR rs bd (rs.length + 1) = 1099511627777) := timeR_none rs bd _ (Nat.le_refl _)
  obtain ⟨c0, c1, c2⟩ := h.cells
  clear h hR hB hf
  have g1 : decide ((rs.length : Int) > (rs.length : Int)) = false := by simp
  go_enter Tryd.func10, Tryd.ntmps10
  go_wp2
  go_quiet (fail)
  go_wp2_with fail
  refine (rtime_any (w.drewN nq) g a c rs bd rs.length rs.length HD.out (HRW.out.later (below_drewN HBW.out nq)) HF.out (by omega)).mono ?_
  rintro e w1 ⟨rfl, m1, rfl⟩
  have HD1 : Hid (Rdf ((w.drewN nq).drewN m1) g (.slice a rs.length c) bd (rs.length : Int)) := HD.out
  have HB1 : Hid (Below W.heap.size W ((w.drewN nq).drewN m1)) := below_drewN (below_drewN HBW.out nq) m1
  have HG1 : Hid (w.grownBy ((w.drewN nq).drewN m1) (some g)) := grown_drewN (grown_drewN (grown_refl _ _) nq) m1
  clear c0 c1 c2 HD HBW
  generalize (w.drewN nq).drewN m1 = w1 at *
  obtain ⟨c0, c1, c2⟩ := HD1.out.cells
  have g2 : decide ((rs.length : Int) < (rs.length : Int)) = false := by simp
  go_wp2
  go_quiet (fail)
  have HD2 : Hid (Rdf (w1.drewN nq) g (.slice a rs.length c) bd (rs.length : Int)) := HD1.out
  have HB2 : Hid (Below W.heap.size W (w1.drewN nq)) := below_drewN HB1.out nq
  have HG2 : Hid (w.grownBy (w1.drewN nq) (some g)) := grown_drewN HG1.out nq
  clear c0 c1 c2 HD1 HB1 HG1
  generalize w1.drewN nq = w2 at *
  obtain ⟨c0, c1, c2⟩ := HD2.out.cells
  have s2 := Own.soft HD2.out 2
  go_wp2_with fail
  have HP := hidMk (Own.put HD2.out 2 (.int .i64 ((rs.length : Int) + 1)))
  have HD3 : Hid (Rdf (w2.setCell ⟨g, 2, none⟩ (.int .i64 ((rs.length : Int) + 1))) g (.slice a rs.length c) bd ((rs.length : Int) + 1)) := HP.out.1
  have HB3 : Hid (Below W.heap.size W (w2.setCell ⟨g, 2, none⟩ (.int .i64 ((rs.length : Int) + 1)))) := HB2.out.setCell (p := ⟨g, 2, none⟩) hg _
  have HG3 : Hid (w.grownBy (w2.setCell ⟨g, 2, none⟩ (.int .i64 ((rs.length : Int) + 1))) (some g)) := grown_trans HG2.out HP.out.2
  clear c0 c1 c2 s2 HD2 HB2 HG2 HP
  generalize w2.setCell ⟨g, 2, none⟩ (.int .i64 ((rs.length : Int) + 1)) = w3 at *
  refine (rtime_any w3 g a c rs bd _ (rs.length + 1) HD3.out (HRW.out.later HB3.out) HF.out (Nat.le_refl _)).mono ?_
  rw [HT1.out]
  rintro e w4 ⟨rfl, m4, hm4⟩
  have HD4 : Hid (Rdf w4 g (.slice a rs.length c) bd ((rs.length : Int) + 1)) := by unfold Hid; rw [hm4]; exact HD3.out
  have HG4 : Hid (w.grownBy w4 (some g)) := by unfold Hid; rw [hm4]; exact grown_drewN HG3.out m4
  have hs4 : w.heap.size ≤ w4.heap.size := HG4.out.size
  clear hm4 HD3 HB3 HG3
  have hnow : (1099511627777 : Int) > timeR rs bd rs.length := by omega
  go_wp2_with (at_builtin; refine wpList_append_own_at _ rfl _ _ 46 rfl w.heap.size 62 i0 (.agg #[.int .i64 0, .int .i64 0, .slice none 0 0, .int .i64 0, .int .i64 0]) 5 56 Tryd.underlying46 hi0 hz0 hz1 hz2 rfl (by decide) _ 0 [] rfl (World.ownsRow_nil _ _ _ _) ⟨w4.heap.size, 0, none⟩ 1 1 (cellsE (tmE 1099511627777)) rfl rfl (World.news_of_block (cs := #[.int .i64 2, .int .i64 0, .slice none 0 0, .int .i64 1099511627777, .int .i64 0]) (t := 62) (fr := (0, 0)) (heap_alloc_new w4 _)) (one_cellsE _) (by unfold maxLen; omega) (by omega) (by simp; omega) ?_)
  intro v' w5 hown hgrow _ hat
  have HE : Hid (OE w5 w.heap.size v' [tmE 1099511627777]) := OE.more (w := w4) (els := []) (OE.nil _ _) hs4 (by simpa using hown) hgrow hat (World.ownsRow_nil _ _ _ _) (fun y hy => by cases hy)
  have HD5 : Hid (Rdf w5 g (.slice a rs.length c) bd ((rs.length : Int) + 1)) := Own.grown (Own.later HD4.out (bel1 _ _)) hgrow (by simp [Value.ownBlock])
  have HG5 : Hid (w.grownBy w5 (some g)) := grown_new (grown_trans HG4.out (grown_below (bel1 _ _))) hgrow (fun n hn => by simp [Value.ownBlock] at hn)
  obtain ⟨av, cv, rfl⟩ := HE.out.form
  clear hown hgrow hat HD4 HG4
  go_wp2
  go_ret
  exact ⟨_, _, rfl, HE.out, by rw [HO.out]; rfl, HD5.out, HG5.out⟩

theorem outR_late {rs : List Rw} {bd : Int} {k : Nat} {r : Rw} (hr : rs[k]? = some r) (hl : lateR rs bd k = true) : outR rs bd k = [] ∧ timeR rs bd (k + 1) = timeR rs bd k := by
  have h1 : r.t < timeR rs bd k := by unfold lateR at hl; rw [hr] at hl; simpa using hl
  have h2 : timeR rs bd (k + 1) = timeR rs bd k := by rw [timeR_some hr, if_pos h1]
  refine ⟨?_, h2⟩
  unfold outR
  rw [hr, h2, if_neg (by omega)]
  simp [hl]
theorem outR_row {rs : List Rw} {bd : Int} {k : Nat} {r : Rw} (hr : rs[k]? = some r) (hl : lateR rs bd k = false) : outR rs bd k = rowO r :: (if timeR rs bd k < timeR rs bd (k + 1) then [timeO (timeR rs bd (k + 1))] else []) := by
  unfold outR
  rw [hr]
  simp [hl]

def CpR (w3 : World) (r : Rw) (p : Value) (wx : World) : Prop := ∃ (b6 : Nat) (a' : Option Addr) (c' : Nat), p = .pointer (some ⟨b6, 0, none⟩) ∧ wx.cell? ⟨b6, 0, none⟩ = some (.int .i64 r.t) ∧ wx.cell? ⟨b6, 1, none⟩ = some (.slice a' r.vs.length c') ∧ OV wx w3.heap.size (.slice a' r.vs.length c') r.vs ∧ Below w3.heap.size w3 wx
theorem cpR1 {w3 w4 : World} {r : Rw} {a' : Option Addr} {c' : Nat} (hOV : OV w4 w3.drew.heap.size (.slice a' r.vs.length c') r.vs) (hb : Below w3.drew.heap.size w3.drew w4) : CpR w3 r (.pointer (some ⟨w4.heap.size, 0, none⟩)) (w4.alloc (.cells #[.int .i64 r.t, .slice a' r.vs.length c'] 37)) := by
  have h1 : Below w3.heap.size w3 w4 := (Below.refl _ _).drew.trans hb
  exact ⟨_, a', c', rfl, by go_simp, by go_simp, OV.later hOV (bel1 _ _), h1.alloc h1.size _⟩
theorem cpR2 {w3 w4 : World} {r : Rw} {a' : Option Addr} {c' : Nat} {o : Obj} (hOV : OV w4 (w3.alloc o).drew.heap.size (.slice a' r.vs.length c') r.vs) (hb : Below (w3.alloc o).drew.heap.size (w3.alloc o).drew w4)
    (d0 : w4.cell? ⟨w3.heap.size, 0, none⟩ = some (.int .i64 0)) (d1 : w4.cell? ⟨w3.heap.size, 1, none⟩ = some (.slice none 0 0)) :
    CpR w3 r (.pointer (some ⟨w3.heap.size, 0, none⟩)) ((w4.setCell ⟨w3.heap.size, 0, none⟩ (.int .i64 r.t)).setCell ⟨w3.heap.size, 1, none⟩ (.slice a' r.vs.length c')) := by
  have h1 : Below w3.heap.size w3 w4 := (bel1 w3 o).drew.trans (hb.mono (by simp))
  have hs : (w3.alloc o).drew.heap.size = w3.heap.size + 1 := by simp
  rw [hs] at hOV
  have h2 : OV ((w4.setCell ⟨w3.heap.size, 0, none⟩ (.int .i64 r.t)).setCell ⟨w3.heap.size, 1, none⟩ (.slice a' r.vs.length c')) (w3.heap.size + 1) (.slice a' r.vs.length c') r.vs := hOV.grown (grown_trans (grown_set w4 ⟨w3.heap.size, 0, none⟩ _) (grown_set _ ⟨w3.heap.size, 1, none⟩ _)) (fun k hk => by cases hk; exact Nat.lt_succ_self _)
  exact ⟨_, a', c', rfl, by go_simp, by go_simp, h2.base (by omega), (h1.setCell (p := ⟨w3.heap.size, 0, none⟩) (Nat.le_refl _) _).setCell (p := ⟨w3.heap.size, 1, none⟩) (Nat.le_refl _) _⟩

theorem rtake_row (W w : World) (g : Nat) (a : Option Addr) (c : Nat) (rs : List Rw) (bd : Int) (k : Nat) (hk : k < rs.length) (h : Rdf w g (.slice a rs.length c) bd (k : Int)) (hf : Fit rs bd) (hR : RLies W a rs) (hB : Below W.heap.size W w) (hg : W.heap.size ≤ g) :
    Calls Tryd.prog 10 #[.pointer (some ⟨g, 0, none⟩)] w (RTakePost w g (.slice a rs.length c) bd (outR rs bd k) ((k : Int) + 1)) := by
  obtain ⟨i0, hi0, hz0, hz1, hz2⟩ := info_parts infoE
  have HD := hidMk h
  have HRW := hidMk hR
  have HBW := hidMk hB
  have HF := hidMk hf
  have hn := hf.n
  have HGL : Hid (g < w.heap.size) := Own.lt h
  obtain ⟨r, hr⟩ : ∃ r, rs[k]? = some r := ⟨rs[k], by simp [hk]⟩
  have HRK := hidMk hr
  have hv8 := hf.v r (List.mem_of_getElem? hr)
  have hT0 := (timeR_le rs bd hf.b0 (fun r hr => (hf.t r hr).2) k (by omega))
  have hT1 := (timeR_le rs bd hf.b0 (fun r hr => (hf.t r hr).2) (k + 1) (by omega))
  obtain ⟨c0, c1, c2⟩ := h.cells
  clear h hR hB hf hr
  have g1 : decide ((k : Int) > (rs.length : Int)) = false := by simp; omega
  have hk' : (k : Int) < (rs.length : Int) := by omega
  have hwk : wrap64 ((k : Int) + 1) = (k : Int) + 1 := w64 (by omega) (by omega)
  go_enter Tryd.func10, Tryd.ntmps10
  go_wp2
  go_quiet (fail)
  go_wp2_with fail
  refine (rtime_any (w.drewN nq) g a c rs bd k k HD.out (HRW.out.later (below_drewN HBW.out nq)) HF.out (by omega)).mono ?_
  rintro e w1 ⟨rfl, m1, rfl⟩
  have HD1 : Hid (Rdf ((w.drewN nq).drewN m1) g (.slice a rs.length c) bd (k : Int)) := HD.out
  have HB1 : Hid (Below W.heap.size W ((w.drewN nq).drewN m1)) := below_drewN (below_drewN HBW.out nq) m1
  have HG1 : Hid (w.grownBy ((w.drewN nq).drewN m1) (some g)) := grown_drewN (grown_drewN (grown_refl _ _) nq) m1
  clear c0 c1 c2 HD HBW
  generalize (w.drewN nq).drewN m1 = w1 at *
  obtain ⟨c0, c1, c2⟩ := HD1.out.cells
  go_wp2
  go_quiet (fail)
  have HD2 : Hid (Rdf (w1.drewN nq) g (.slice a rs.length c) bd (k : Int)) := HD1.out
  have HB2 : Hid (Below W.heap.size W (w1.drewN nq)) := below_drewN HB1.out nq
  have HG2 : Hid (w.grownBy (w1.drewN nq) (some g)) := grown_drewN HG1.out nq
  clear c0 c1 c2 HD1 HB1 HG1
  generalize w1.drewN nq = w2 at *
  obtain ⟨c0, c1, c2⟩ := HD2.out.cells
  go_wp2_with fail
  refine (rlate_any w2 g a c rs bd k k HD2.out (HRW.out.later HB2.out) HF.out hk).mono ?_
  rintro e w3 ⟨rfl, m3, hm3⟩
  have HD3 : Hid (Rdf w3 g (.slice a rs.length c) bd (k : Int)) := by unfold Hid; rw [hm3]; exact HD2.out
  have HB3 : Hid (Below W.heap.size W w3) := by unfold Hid; rw [hm3]; exact below_drewN HB2.out m3
  have HG3 : Hid (w.grownBy w3 (some g)) := by unfold Hid; rw [hm3]; exact grown_drewN HG2.out m3
  clear c0 c1 c2 hm3 HD2 HB2 HG2
  obtain ⟨c0, c1, c2⟩ := HD3.out.cells
  have s2 := Own.soft HD3.out 2
  have HP := hidMk (Own.put HD3.out 2 (.int .i64 ((k : Int) + 1)))
  cases hl : lateR rs bd k with
  | true =>
    obtain ⟨o1, o2⟩ := outR_late HRK.out hl
    have HO1 := hidMk o1
    have HO2 := hidMk o2
    clear o1 o2
    have HB4 : Hid (Below W.heap.size W (w3.setCell ⟨g, 2, none⟩ (.int .i64 ((k : Int) + 1)))) := HB3.out.setCell (p := ⟨g, 2, none⟩) hg _
    go_wp2_with fail
    refine (rtime_any (w3.setCell ⟨g, 2, none⟩ (.int .i64 ((k : Int) + 1))) g a c rs bd _ (k + 1) HP.out.1 (HRW.out.later HB4.out) HF.out (by omega)).mono ?_
    rw [HO2.out]
    rintro e w5 ⟨rfl, m5, rfl⟩
    have hnow : ¬ timeR rs bd k > timeR rs bd k := by omega
    go_wp2
    go_ret
    exact ⟨_, [], rfl, OE.nil _ _, by rw [HO1.out]; rfl, HP.out.1, grown_drewN (grown_trans HG3.out HP.out.2) m5⟩
  | false =>
    clear HP s2
    have HOR := hidMk (outR_row HRK.out hl)
    obtain ⟨b, off, av, cv, rfl, e1, e2, hV⟩ := (HRW.out.later HB3.out).at HRK.out
    have HV := hidMk hV
    clear hV
    go_upto_region 8 with fail
    go_cut [6] (fun p wx => CpR w3 r p wx)
    case first =>
      have Z0 : ((w3.alloc (.cells #[.int .i64 0, .slice none 0 0] 37)).drew).cell? ⟨w3.heap.size, 0, none⟩ = some (.int .i64 0) := by go_simp
      have Z1 : ((w3.alloc (.cells #[.int .i64 0, .slice none 0 0] 37)).drew).cell? ⟨w3.heap.size, 1, none⟩ = some (.slice none 0 0) := by go_simp
      have F0 : ((w3.alloc (.cells #[.int .i64 0, .slice none 0 0] 37)).drew).frozen? ⟨w3.heap.size, 0, none⟩ = false := by go_simp
      have F1 : ((w3.alloc (.cells #[.int .i64 0, .slice none 0 0] 37)).drew).frozen? ⟨w3.heap.size, 1, none⟩ = false := by go_simp
      have y0 := cell_later (bel1 w3 (.cells #[.int .i64 0, .slice none 0 0] 37)) c0
      have y2 := cell_later (bel1 w3 (.cells #[.int .i64 0, .slice none 0 0] 37)) c2
      have y3 := cell_later (bel1 w3 (.cells #[.int .i64 0, .slice none 0 0] 37)) e1
      have y4 := cell_later (bel1 w3 (.cells #[.int .i64 0, .slice none 0 0] 37)) e2
      have HVa := hidMk (HV.out.later (bel1 w3 (.cells #[.int .i64 0, .slice none 0 0] 37)).drew)
      have HVd := hidMk (HV.out.later (Below.refl w3.heap.size w3).drew)
      go_region_with (go_at_call 18; refine (copy_any r.t av r.vs cv _ (by with_reducible first | exact HVd.out | exact HVa.out) (by omega)).mono ?_; rintro e w4 ⟨a', c', rfl, hOV, hb4⟩; first | (have d0 := cell_later hb4 Z0; have d1 := cell_later hb4 Z1; have f0 := soft_later hb4 Z0 F0; have f1 := soft_later hb4 Z1 F1) | skip)
      all_goals (go_wp2_with fail; go_meet; first | exact cpR1 hOV hb4 | exact cpR2 hOV hb4 d0 d1)
    case rest =>
      obtain ⟨b6, a', c', rfl, d0, d1, hOV, hb4⟩ := hcut
      have HD4 : Hid (Rdf wc g (.slice (some ⟨b, off, none⟩) rs.length c) bd (k : Int)) := Own.later HD3.out hb4
      have HB4 : Hid (Below W.heap.size W wc) := HB3.out.trans (hb4.mono HB3.out.size)
      have HG4 : Hid (w.grownBy wc (some g)) := grown_trans HG3.out (grown_below hb4)
      have hs4 : w.heap.size ≤ wc.heap.size := HG4.out.size
      have hs3 : w.heap.size ≤ w3.heap.size := HG3.out.size
      have HOV := hidMk (hOV.base hs3)
      clear c0 c1 c2 e1 e2 HV hb4 hOV HD3 HB3 HG3
      go_wp2_with (at_builtin; refine wpList_append_own_at _ rfl _ _ 46 rfl w.heap.size 62 i0 (.agg #[.int .i64 0, .int .i64 0, .slice none 0 0, .int .i64 0, .int .i64 0]) 5 56 Tryd.underlying46 hi0 hz0 hz1 hz2 rfl (by decide) _ 0 [] rfl (World.ownsRow_nil _ _ _ _) ⟨wc.heap.size, 0, none⟩ 1 1 (cellsE ⟨1, ⟨r, a', c'⟩, 0⟩) rfl rfl (World.news_of_block (cs := #[.int .i64 1, .int .i64 r.t, .slice a' r.vs.length c', .int .i64 0, .int .i64 0]) (t := 62) (fr := (0, 0)) (heap_alloc_new wc _)) (one_cellsE _) (by unfold maxLen; omega) (by omega) (by simp; omega) ?_)
      intro v' w5 hown hgrow _ hat
      have HE5 : Hid (OE w5 w.heap.size v' [⟨1, ⟨r, a', c'⟩, 0⟩]) := OE.more (w := wc) (els := []) (OE.nil _ _) hs4 (by simpa using hown) hgrow hat HOV.out (fun y hy => by simp [Value.ownBlock])
      have HD5 : Hid (Rdf w5 g (.slice (some ⟨b, off, none⟩) rs.length c) bd (k : Int)) := Own.grown (Own.later HD4.out (bel1 _ _)) hgrow (by simp [Value.ownBlock])
      have HG5 : Hid (w.grownBy w5 (some g)) := grown_new (grown_trans HG4.out (grown_below (bel1 _ _))) hgrow (fun n hn => by simp [Value.ownBlock] at hn)
      have HB5 : Hid (Below W.heap.size W w5) := (HB4.out.alloc HB4.out.size _).grown hgrow (by simp; have := HB4.out.size; omega) (fun j ej => by simp [Value.ownBlock] at ej)
      obtain ⟨av5, cv5, rfl⟩ := HE5.out.form
      clear hown hgrow hat HD4 HG4 HB4 d0 d1 HOV
      obtain ⟨c0, c1, c2⟩ := HD5.out.cells
      have s2 := Own.soft HD5.out 2
      have HP := hidMk (Own.put HD5.out 2 (.int .i64 ((k : Int) + 1)))
      have HB6 : Hid (Below W.heap.size W (w5.setCell ⟨g, 2, none⟩ (.int .i64 ((k : Int) + 1)))) := HB5.out.setCell (p := ⟨g, 2, none⟩) hg _
      have HE6 := hidMk (HE5.out.grown HP.out.2 HGL.out)
      go_wp2_with fail
      refine (rtime_any (w5.setCell ⟨g, 2, none⟩ (.int .i64 ((k : Int) + 1))) g _ c rs bd _ (k + 1) HP.out.1 (HRW.out.later HB6.out) HF.out (by omega)).mono ?_
      rintro e w7 ⟨rfl, m7, hm7⟩
      have HE7 : Hid (OE w7 w.heap.size (.slice av5 [(⟨1, ⟨r, a', c'⟩, 0⟩ : El)].length cv5) [⟨1, ⟨r, a', c'⟩, 0⟩]) := by unfold Hid; rw [hm7]; exact HE6.out.drewN m7
      have HD7 : Hid (Rdf w7 g (.slice (some ⟨b, off, none⟩) rs.length c) bd ((k : Int) + 1)) := by unfold Hid; rw [hm7]; exact HP.out.1
      have HG7 : Hid (w.grownBy w7 (some g)) := by unfold Hid; rw [hm7]; exact grown_drewN (grown_trans HG5.out HP.out.2) m7
      have hs7 : w.heap.size ≤ w7.heap.size := HG7.out.size
      clear hm7 HE5 HE6 HD5 HG5 HB5 HB6 HP c0 c1 c2 s2
      by_cases hnow : timeR rs bd (k + 1) > timeR rs bd k
      · have HOR2 : Hid (outR rs bd k = [rowO r, timeO (timeR rs bd (k + 1))]) := by unfold Hid; rw [HOR.out, if_pos (by omega)]
        clear HOR
        generalize timeR rs bd (k + 1) = T1 at *
        go_wp2_with (at_builtin; refine wpList_append_own_at _ rfl _ _ 46 rfl w.heap.size 62 i0 (.agg #[.int .i64 0, .int .i64 0, .slice none 0 0, .int .i64 0, .int .i64 0]) 5 56 Tryd.underlying46 hi0 hz0 hz1 hz2 rfl (by decide) _ 1 (cellsE ⟨1, ⟨r, a', c'⟩, 0⟩) rfl (HE7.out.own1.alloc _) ⟨w7.heap.size, 0, none⟩ 1 1 (cellsE (tmE T1)) rfl rfl (World.news_of_block (cs := #[.int .i64 2, .int .i64 0, .slice none 0 0, .int .i64 T1, .int .i64 0]) (t := 62) (fr := (0, 0)) (heap_alloc_new w7 _)) (one_cellsE _) (by unfold maxLen; omega) (by omega) (by simp; omega) ?_)
        intro v8 w8 hown hgrow _ hat
        have hge : ∀ n, (Value.slice av5 1 cv5).ownBlock = some n → w.heap.size ≤ n := fun n hn => (World.ownsRow.lt HE7.out.own n hn).1
        have HE8 : Hid (OE w8 w.heap.size v8 ([⟨1, ⟨r, a', c'⟩, 0⟩] ++ [tmE T1])) := OE.more (w := w7) HE7.out hs7 (by simpa using hown) hgrow hat (World.ownsRow_nil _ _ _ _) (fun y hy => by cases hy)
        have HD8 : Hid (Rdf w8 g (.slice (some ⟨b, off, none⟩) rs.length c) bd ((k : Int) + 1)) := Own.grown (Own.later HD7.out (bel1 _ _)) hgrow (fun e => by have h1 := hge g e.symm; have h2 : g < w.heap.size := HGL.out; omega)
        have HG8 : Hid (w.grownBy w8 (some g)) := grown_new (grown_trans HG7.out (grown_below (bel1 _ _))) hgrow hge
        obtain ⟨av8, cv8, rfl⟩ := HE8.out.form
        clear hown hgrow hat hge HE7 HD7 HG7
        go_wp2
        go_ret
        exact ⟨_, _, rfl, HE8.out, by rw [HOR2.out]; rfl, HD8.out, HG8.out⟩
      · have HOR2 : Hid (outR rs bd k = [rowO r]) := by unfold Hid; rw [HOR.out, if_neg (by omega)]
        clear HOR
        go_wp2
        go_ret
        exact ⟨_, _, rfl, HE7.out, by rw [HOR2.out]; rfl, HD7.out, HG7.out⟩
end Go.Proofs.YthdbfgnjeolfaaaDoor
