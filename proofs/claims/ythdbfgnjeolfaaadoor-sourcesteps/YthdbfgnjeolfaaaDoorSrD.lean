import Derived.Test.YthdbfgnjeolfaaaDoorSrC
namespace Go.Proofs.YthdbfgnjeolfaaaDoor
open Go.RowKit
set_option linter.unusedVariables false
set_option linter.unusedSimpArgs false
set_option maxRecDepth 100000
set_option maxHeartbeats 4000000

theorem OR.drewN {w : World} {B : Nat} {x : Value} {qs : List Q} (h : OR w B x qs) (n : Nat) : OR (w.drewN n) B x qs := ⟨h.own, h.lies, h.apart⟩
theorem grown_drewN {w w1 : World} {r : Option Nat} (h : w.grownBy w1 r) (n : Nat) : w.grownBy (w1.drewN n) r := ⟨h.os, h.tape, h.output, h.size, h.block⟩
theorem grown_drew {w w1 : World} {r : Option Nat} (h : w.grownBy w1 r) : w.grownBy w1.drew r := ⟨h.os, h.tape, h.output, h.size, h.block⟩
theorem OE.nil (w : World) (B : Nat) : OE w B (.slice none 0 0) [] := ⟨World.ownsRow_nil _ _ _ _, (fun q hq => by cases hq), (fun q hq => by cases hq)⟩
theorem one_cellsE (e : El) : ∀ u ∈ cellsE e, u.oneCell' = true := by intro u hu; simp [cellsE] at hu; rcases hu with rfl | rfl | rfl | rfl | rfl <;> rfl

/-- One element in a new block. -/
theorem OE.one {w : World} {B : Nat} (e : El) (hB : B ≤ w.heap.size) (hv : OV w B (.slice e.q.a e.q.r.vs.length e.q.c) e.q.r.vs) :
    OE (w.alloc (.cells #[.int .i64 e.k, .int .i64 e.q.r.t, .slice e.q.a e.q.r.vs.length e.q.c, .int .i64 e.t, .int .i64 0] 62)) B (.slice (some ⟨w.heap.size, 0, none⟩) 1 1) [e] := by
  refine ⟨?_, ?_, ?_⟩
  · have := World.ownsRow_lit (base := B) (e := 62) (size := 5) w #[.int .i64 e.k, .int .i64 e.q.r.t, .slice e.q.a e.q.r.vs.length e.q.c, .int .i64 e.t, .int .i64 0] 1 hB (by decide) (by simp)
    simpa [cellsE] using this
  · intro e' he'
    rw [List.mem_singleton.1 he']
    exact hv.later (bel1 _ _)
  · intro e' he' y hy
    rw [List.mem_singleton.1 he'] at hy
    obtain ⟨a, c, h1, -, h3⟩ := hv.form
    cases h1
    have := (h3 y hy).2
    intro h
    simp [Value.ownBlock] at h
    omega

theorem OR.rowAt {w : World} {B n c i : Nat} {a : Option Addr} {qs : List Q} {q : Q} (h : OR w B (.slice a n c) qs) (hq : qs[i]? = some q) : ∃ b, a = some ⟨b, 0, none⟩ ∧ w.cell? ⟨b, i * 2, none⟩ = some (.int .i64 q.r.t) ∧ w.cell? ⟨b, i * 2 + 1, none⟩ = some (.slice q.a q.r.vs.length q.c) ∧ VLies w q.a q.r.vs := by
  obtain ⟨hi, e⟩ := List.getElem?_eq_some_iff.1 hq
  rcases h.own.2 with ⟨h1, h2⟩ | ⟨g, cap, cur, h1, h2, h3, -⟩
  · omega
  · have ho := h.own
    rw [h1] at ho
    simp only [Value.slice.injEq] at h1
    have key : ∀ j, j < 2 → w.cell? ⟨g, i * 2 + j, none⟩ = (cellsR qs[i])[j]? := fun j hj => by
      rw [World.ownsRow.cellAt ho (i * 2 + j) (by omega), flat_at cellsR 2 (fun _ => rfl) qs i j hi hj]
    refine ⟨g, h1.1, ?_, ?_, h.lies q (List.mem_of_getElem? hq)⟩
    · have := key 0 (by decide); rw [e] at this; exact this
    · have := key 1 (by decide); rw [e] at this; exact this

theorem tell_le (w : World) (g : Nat) (x : Value) (bd at_ tm lt t : Int) (h : Rdr w g x bd at_ tm lt) (ht : t ≤ tm) :
    Calls Tryd.prog 24 #[.pointer (some ⟨g, 0, none⟩), .int .i64 t] w fun e w' => e = .returned (.slice none 0 0) ∧ w' = w :=
  (tell_any w g x bd at_ tm lt t h).mono fun e w' hp => by
    rcases hp with ⟨_, h1, h2⟩ | ⟨h0, _⟩
    · exact ⟨h1, h2⟩
    · omega
theorem tell_gt (w : World) (g : Nat) (x : Value) (bd at_ tm lt t : Int) (h : Rdr w g x bd at_ tm lt) (ht : ¬ t ≤ tm) :
    Calls Tryd.prog 24 #[.pointer (some ⟨g, 0, none⟩), .int .i64 t] w fun e w' => e = .returned (.slice (some ⟨w.heap.size, 0, none⟩) 1 1) ∧ w' = (w.setCell ⟨g, 3, none⟩ (.int .i64 t)).alloc (.cells #[.int .i64 2, .int .i64 0, .slice none 0 0, .int .i64 t, .int .i64 0] 62) :=
  (tell_any w g x bd at_ tm lt t h).mono fun e w' hp => by
    rcases hp with ⟨h0, _⟩ | ⟨_, h1, h2⟩
    · omega
    · exact ⟨h1, h2⟩

theorem OE.drew {w : World} {B : Nat} {x : Value} {els : List El} (h : OE w B x els) : OE w.drew B x els := ⟨h.own, h.vals, h.apart⟩
/-- Rows stay where another block grows. -/
theorem OR.beside {w w' : World} {B : Nat} {x : Value} {qs : List Q} {k : Nat} (h : OR w B x qs) (hg : w.grownBy w' (some k)) (h1 : ∀ j, x.ownBlock = some j → j < k) (h2 : ∀ q ∈ qs, ∀ y, q.a = some y → y.block < k) : OR w' B x qs :=
  ⟨own_grown h.own hg fun j hj e => by have := h1 j hj; cases e; omega,
   fun q hq => (h.lies q hq).grown hg fun y hy e => by have := h2 q hq y hy; cases e; omega,
   fun q hq y hy => ⟨(h.apart q hq y hy).1, Nat.lt_of_lt_of_le (h.apart q hq y hy).2.1 hg.size, (h.apart q hq y hy).2.2⟩⟩

def TakePost (w : World) (g : Nat) (x : Value) (qs : List Q) (bd : Int) (S : List Out × Nat × Int × Int) (e : Ending) (w' : World) : Prop :=
  ∃ v els, e = .returned v ∧ OE w' w.heap.size v els ∧ els.map outE = S.1 ∧ Rdr w' g x bd (S.2.1 : Int) S.2.2.1 S.2.2.2 ∧ OR w' (g + 1) x qs ∧ w.grownBy w' (some g)

theorem take_any (w : World) (g : Nat) (ax : Option Addr) (cx : Nat) (bd : Int) (at_ : Nat) (tm lt : Int) (qs : List Q) (h : Rdr w g (.slice ax qs.length cx) bd (at_ : Int) tm lt) (hO : OR w (g + 1) (.slice ax qs.length cx) qs)
    (hat : at_ ≤ 1000000) (hlt : 0 ≤ lt ∧ lt ≤ 1000000) (hn : qs.length ≤ 100) (hbd : 0 ≤ bd ∧ bd ≤ 1048576) (hq : ∀ q ∈ qs, 0 ≤ q.r.t ∧ q.r.t ≤ 1099511627776 ∧ q.r.vs.length ≤ 8) :
    Calls Tryd.prog 9 #[.pointer (some ⟨g, 0, none⟩)] w (TakePost w g (.slice ax qs.length cx) qs bd (takeS (qs.map (·.r)) bd at_ tm lt)) := by
  have HQ := hidMk hq
  have HR0 := hidMk h
  have HO0 := hidMk hO
  have HGL : Hid (g < w.heap.size) := Own.lt h
  obtain ⟨i0, hi0, hz0, hz1, hz2⟩ := info_parts infoE
  clear h hO hq
  by_cases h1 : (at_ : Int) > (qs.length : Int)
  · have HS : Hid (takeS (qs.map (·.r)) bd at_ tm lt = ([], at_, tm, lt)) := by unfold Hid takeS; rw [if_pos (by rw [List.length_map]; omega)]
    have h1' : decide ((at_ : Int) > (qs.length : Int)) = true := by simpa using h1
    go_enter Tryd.func9, Tryd.ntmps9
    go_wp2_with fail
    refine (ended_any w g ax qs.length cx bd at_ tm lt HR0.out).mono ?_
    rw [h1']
    rintro e w1 ⟨rfl, m, rfl⟩
    go_wp2
    go_ret
    exact ⟨_, [], rfl, OE.nil _ _, by rw [HS.out]; rfl, by rw [HS.out]; exact HR0.out, HO0.out.drewN m, grown_drewN (grown_refl _ _) m⟩
  have h1' : decide ((at_ : Int) > (qs.length : Int)) = false := by simpa using h1
  have hw1 : wrap64 ((at_ : Int) + 1) = ((at_ + 1 : Nat) : Int) := by rw [w64 (by omega) (by omega)]; omega
  by_cases h2 : at_ = qs.length
  · have HS : Hid (takeS (qs.map (·.r)) bd at_ tm lt = ((tellS tm 1099511627777).1, at_ + 1, (tellS tm 1099511627777).2, lt)) := by
      unfold Hid takeS; rw [if_neg (by rw [List.length_map]; omega), List.getElem?_eq_none (by rw [List.length_map]; omega)]
    have h2' : decide ((at_ : Int) + 1 > (qs.length : Int)) = true := by simp; omega
    have H2 := hidMk h2
    clear h2
    go_enter Tryd.func9, Tryd.ntmps9
    go_wp2_with fail
    refine (ended_any w g ax qs.length cx bd at_ tm lt HR0.out).mono ?_
    rw [h1']
    rintro e w1 ⟨rfl, m, hm⟩
    have HR1 : Hid (Rdr w1 g (.slice ax qs.length cx) bd (at_ : Int) tm lt) := by unfold Hid; rw [hm]; exact HR0.out
    have HO1 : Hid (OR w1 (g + 1) (.slice ax qs.length cx) qs) := by unfold Hid; rw [hm]; exact HO0.out.drewN m
    have HG1 : Hid (w.grownBy w1 (some g)) := by unfold Hid; rw [hm]; exact grown_drewN (grown_refl _ _) m
    obtain ⟨c0, c1, c2, c3, c4⟩ := HR1.out.cells
    have s2 := Own.soft HR1.out 2
    clear hm
    go_wp2_with fail
    have HR2 : Hid (Rdr (w1.setCell ⟨g, 2, none⟩ (.int .i64 ((at_ : Int) + 1))) g (.slice ax qs.length cx) bd ((at_ : Int) + 1) tm lt) := (Own.put HR1.out 2 (.int .i64 ((at_ : Int) + 1))).1
    have HO2 : Hid (OR (w1.setCell ⟨g, 2, none⟩ (.int .i64 ((at_ : Int) + 1))) (g + 1) (.slice ax qs.length cx) qs) := HO1.out.grown (grown_set _ ⟨g, 2, none⟩ _) (fun k hk => by cases hk; exact Nat.lt_succ_self _)
    have HG2 : Hid (w.grownBy (w1.setCell ⟨g, 2, none⟩ (.int .i64 ((at_ : Int) + 1))) (some g)) := grown_trans HG1.out (grown_set _ ⟨g, 2, none⟩ _)
    clear c0 c1 c2 c3 c4 s2 HR1 HO1 HG1
    generalize w1.setCell ⟨g, 2, none⟩ (.int .i64 ((at_ : Int) + 1)) = w2 at *
    refine (ended_any w2 g ax qs.length cx bd ((at_ : Int) + 1) tm lt HR2.out).mono ?_
    rw [h2']
    rintro e w3 ⟨rfl, m3, hm3⟩
    have HR3 : Hid (Rdr w3 g (.slice ax qs.length cx) bd ((at_ : Int) + 1) tm lt) := by unfold Hid; rw [hm3]; exact HR2.out
    have HO3 : Hid (OR w3 (g + 1) (.slice ax qs.length cx) qs) := by unfold Hid; rw [hm3]; exact HO2.out.drewN m3
    have HG3 : Hid (w.grownBy w3 (some g)) := by unfold Hid; rw [hm3]; exact grown_drewN HG2.out m3
    clear hm3 HR2 HO2 HG2
    go_wp2_with fail
    refine (tell_any w3 g _ bd _ tm lt 1099511627777 HR3.out).mono ?_
    rintro e w4 (⟨t1, rfl, rfl⟩ | ⟨t1, rfl, e4⟩)
    · have HT : Hid (tellS tm 1099511627777 = ([], tm)) := by unfold Hid tellS; rw [if_pos t1]
      go_wp2
      go_ret
      exact ⟨_, [], rfl, OE.nil _ _, by rw [HS.out, HT.out]; rfl, by rw [HS.out, HT.out]; exact HR3.out, HO3.out, HG3.out⟩
    · have HT : Hid (tellS tm 1099511627777 = ([timeO 1099511627777], 1099511627777)) := by unfold Hid tellS; rw [if_neg (by omega)]
      have HP := hidMk (Own.put HR3.out 3 (.int .i64 1099511627777))
      have hg3 : w.heap.size ≤ (w3.setCell ⟨g, 3, none⟩ (.int .i64 1099511627777)).heap.size := by rw [World.size_setCell]; exact HG3.out.size
      have HE : Hid (OE w4 w.heap.size (.slice (some ⟨w3.heap.size, 0, none⟩) 1 1) [tmE 1099511627777]) := by
        unfold Hid; rw [e4]
        have := OE.one (w := w3.setCell ⟨g, 3, none⟩ (.int .i64 1099511627777)) (B := w.heap.size) (tmE 1099511627777) hg3 (World.ownsRow_nil _ _ _ _)
        rw [World.size_setCell] at this
        exact this
      have HR4 : Hid (Rdr w4 g (.slice ax qs.length cx) bd ((at_ : Int) + 1) 1099511627777 lt) := by unfold Hid; rw [e4]; exact Own.later HP.out.1 (bel1 _ _)
      have HG34 : Hid (w3.grownBy w4 (some g)) := by unfold Hid; rw [e4]; exact grown_trans HP.out.2 (grown_below (bel1 _ _))
      clear e4 HP
      go_wp2
      go_ret
      exact ⟨_, _, rfl, HE.out, by rw [HS.out, HT.out]; rfl, by rw [HS.out, HT.out]; exact HR4.out, HO3.out.grown HG34.out (fun k hk => by cases hk; exact Nat.lt_succ_self _), grown_trans HG3.out HG34.out⟩
  · have h3 : at_ < qs.length := by omega
    have h2' : decide ((at_ : Int) + 1 > (qs.length : Int)) = false := by simp; omega
    obtain ⟨q, hq⟩ : ∃ q, qs[at_]? = some q := ⟨qs[at_], by simp [h3]⟩
    have HQM : Hid (q ∈ qs) := List.mem_of_getElem? hq
    obtain ⟨k1, k2, k3⟩ := HQ.out q HQM.out
    have HS : Hid (takeS (qs.map (·.r)) bd at_ tm lt = if q.r.t < tm then ([], at_ + 1, tm, lt + 1) else (rowO q.r :: (tellS tm (q.r.t - bd)).1, at_ + 1, (tellS tm (q.r.t - bd)).2, lt)) := by
      unfold Hid takeS; rw [if_neg (by rw [List.length_map]; omega), List.getElem?_map, hq]; rfl
    have HQE := hidMk hq
    clear hq h2
    have h3' : (at_ : Int) < (qs.length : Int) := by omega
    have hws : wrap64 ((at_ : Int) + 1 - 1) = (at_ : Int) := by rw [w64 (by omega) (by omega)]; omega
    have hws2 : IntKind.i64.wrap ((at_ : Int) + 1 - 1) = (at_ : Int) := by rw [wi64 (by omega) (by omega)]; omega
    go_enter Tryd.func9, Tryd.ntmps9
    go_wp2_with fail
    refine (ended_any w g ax qs.length cx bd at_ tm lt HR0.out).mono ?_
    rw [h1']
    rintro e w1 ⟨rfl, m, hm⟩
    have HR1 : Hid (Rdr w1 g (.slice ax qs.length cx) bd (at_ : Int) tm lt) := by unfold Hid; rw [hm]; exact HR0.out
    have HO1 : Hid (OR w1 (g + 1) (.slice ax qs.length cx) qs) := by unfold Hid; rw [hm]; exact HO0.out.drewN m
    have HG1 : Hid (w.grownBy w1 (some g)) := by unfold Hid; rw [hm]; exact grown_drewN (grown_refl _ _) m
    obtain ⟨c0, c1, c2, c3, c4⟩ := HR1.out.cells
    have s2 := Own.soft HR1.out 2
    clear hm
    go_wp2_with fail
    have HR2 : Hid (Rdr (w1.setCell ⟨g, 2, none⟩ (.int .i64 ((at_ : Int) + 1))) g (.slice ax qs.length cx) bd ((at_ : Int) + 1) tm lt) := (Own.put HR1.out 2 (.int .i64 ((at_ : Int) + 1))).1
    have HO2 : Hid (OR (w1.setCell ⟨g, 2, none⟩ (.int .i64 ((at_ : Int) + 1))) (g + 1) (.slice ax qs.length cx) qs) := HO1.out.grown (grown_set _ ⟨g, 2, none⟩ _) (fun k hk => by cases hk; exact Nat.lt_succ_self _)
    have HG2 : Hid (w.grownBy (w1.setCell ⟨g, 2, none⟩ (.int .i64 ((at_ : Int) + 1))) (some g)) := grown_trans HG1.out (grown_set _ ⟨g, 2, none⟩ _)
    clear c0 c1 c2 c3 c4 s2 HR1 HO1 HG1
    generalize w1.setCell ⟨g, 2, none⟩ (.int .i64 ((at_ : Int) + 1)) = w2 at *
    refine (ended_any w2 g ax qs.length cx bd ((at_ : Int) + 1) tm lt HR2.out).mono ?_
    rw [h2']
    rintro e w3 ⟨rfl, m3, hm3⟩
    have HR3 : Hid (Rdr w3 g (.slice ax qs.length cx) bd ((at_ : Int) + 1) tm lt) := by unfold Hid; rw [hm3]; exact HR2.out
    have HO3 : Hid (OR w3 (g + 1) (.slice ax qs.length cx) qs) := by unfold Hid; rw [hm3]; exact HO2.out.drewN m3
    have HG3 : Hid (w.grownBy w3 (some g)) := by unfold Hid; rw [hm3]; exact grown_drewN HG2.out m3
    clear hm3 HR2 HO2 HG2
    obtain ⟨c0, c1, c2, c3, c4⟩ := HR3.out.cells
    have s4 := Own.soft HR3.out 4
    obtain ⟨b, rfl, r0, r1, r2⟩ := HO3.out.rowAt HQE.out
    have HV3 := hidMk r2
    clear r2
    go_upto_region 6 with fail
    go_cut [3] (fun p wx => p = .pointer (some ⟨w3.heap.size, 0, none⟩) ∧ Below w3.heap.size w3 wx ∧ w3.heap.size < wx.heap.size ∧ wx.cell? ⟨w3.heap.size, 0, none⟩ = some (.int .i64 q.r.t) ∧ wx.cell? ⟨w3.heap.size, 1, none⟩ = some (.slice q.a q.r.vs.length q.c))
    case first =>
      have z0 := cell_later (bel1 w3 (.cells #[.int .i64 0, .slice none 0 0] 37)) c0
      have z2 := cell_later (bel1 w3 (.cells #[.int .i64 0, .slice none 0 0] 37)) c2
      have y0 := cell_later (bel1 w3 (.cells #[.int .i64 0, .slice none 0 0] 37)) r0
      have y1 := cell_later (bel1 w3 (.cells #[.int .i64 0, .slice none 0 0] 37)) r1
      go_region
      go_wp2_with fail
      go_meet
      exact ⟨rfl, (bel1 _ _).drew, by simp, by go_simp, by go_simp⟩
    case rest =>
      obtain ⟨rfl, hb4, hl4, d0, d1⟩ := hcut
      have HR4 : Hid (Rdr wc g (.slice (some ⟨b, 0, none⟩) qs.length cx) bd ((at_ : Int) + 1) tm lt) := Own.later HR3.out hb4
      have HO4 : Hid (OR wc (g + 1) (.slice (some ⟨b, 0, none⟩) qs.length cx) qs) := HO3.out.later hb4
      have HG4 : Hid (w.grownBy wc (some g)) := grown_trans HG3.out (grown_below hb4)
      have HV4 : Hid (VLies wc q.a q.r.vs) := HV3.out.later hb4
      have hs3 : w.heap.size ≤ w3.heap.size := HG3.out.size
      clear c0 c1 c2 c3 c4 s4 HR3 HO3 HG3 HV3 r0 r1 hb4
      obtain ⟨c0, c1, c2, c3, c4⟩ := HR4.out.cells
      have s4 := Own.soft HR4.out 4
      by_cases hlate : q.r.t < tm
      · have HS2 : Hid (takeS (qs.map (·.r)) bd at_ tm lt = ([], at_ + 1, tm, lt + 1)) := by have := HS.out; rw [if_pos hlate] at this; exact this
        have hwl : wrap64 (lt + 1) = lt + 1 := w64 (by omega) (by omega)
        have HP := hidMk (Own.put HR4.out 4 (.int .i64 (lt + 1)))
        go_wp2
        go_quiet (fail)
        go_wp2
        go_ret
        exact ⟨_, [], rfl, OE.nil _ _, by rw [HS2.out]; rfl, by rw [HS2.out]; exact HP.out.1, (HO4.out.grown HP.out.2 (fun k hk => by cases hk; exact Nat.lt_succ_self _)).drewN _, grown_trans HG4.out (grown_drewN HP.out.2 _)⟩
      · have HS2 : Hid (takeS (qs.map (·.r)) bd at_ tm lt = (rowO q.r :: (tellS tm (q.r.t - bd)).1, at_ + 1, (tellS tm (q.r.t - bd)).2, lt)) := by have := HS.out; rw [if_neg hlate] at this; exact this
        clear HS
        go_wp2
        go_quiet (fail)
        go_wp2_with fail
        have HR4' : Hid (Rdr (wc.drewN nq) g (.slice (some ⟨b, 0, none⟩) qs.length cx) bd ((at_ : Int) + 1) tm lt) := HR4.out
        have HO4' : Hid (OR (wc.drewN nq) (g + 1) (.slice (some ⟨b, 0, none⟩) qs.length cx) qs) := HO4.out.drewN nq
        have HG4' : Hid (w.grownBy (wc.drewN nq) (some g)) := grown_drewN HG4.out nq
        have HV4' : Hid (VLies (wc.drewN nq) q.a q.r.vs) := HV4.out
        have d0' : (wc.drewN nq).cell? ⟨w3.heap.size, 0, none⟩ = some (.int .i64 q.r.t) := d0
        have hl4' : w3.heap.size < (wc.drewN nq).heap.size := hl4
        clear c0 c1 c2 c3 c4 s4 HR4 HO4 HG4 HV4 d0 d1 hl4
        generalize wc.drewN nq = w4 at *
        refine (copied_any q.r.t q.a q.r.vs q.c w4 HV4'.out (by omega)).mono ?_
        rintro e w5 ⟨a', c', rfl, hOV, hb5⟩
        have HR5 : Hid (Rdr w5 g (.slice (some ⟨b, 0, none⟩) qs.length cx) bd ((at_ : Int) + 1) tm lt) := Own.later HR4'.out hb5
        have HO5 : Hid (OR w5 (g + 1) (.slice (some ⟨b, 0, none⟩) qs.length cx) qs) := HO4'.out.later hb5
        have HG5 : Hid (w.grownBy w5 (some g)) := grown_trans HG4'.out (grown_below hb5)
        have HV5 : Hid (OV w5 w.heap.size (.slice a' q.r.vs.length c') q.r.vs) := hOV.base (by omega)
        have t5 := cell_later hb5 d0'
        have hs5 : w3.heap.size < w5.heap.size := by have := hb5.size; omega
        have HE6 := hidMk (OE.one (w := w5) (B := w.heap.size) ⟨1, ⟨q.r, a', c'⟩, 0⟩ (by omega) HV5.out)
        clear hOV hb5 HR4' HO4' HG4' HV4' d0' hl4'
        go_upto_region 11 with fail
        have hB6 := bel1 w5 (.cells #[.int .i64 1, .int .i64 q.r.t, .slice a' q.r.vs.length c', .int .i64 0, .int .i64 0] 62)
        have HR6 := hidMk (Own.later HR5.out hB6)
        have HO6 := hidMk (HO5.out.later hB6)
        have HL1 : Hid (∀ j, (Value.slice (some ⟨b, 0, none⟩) qs.length cx).ownBlock = some j → j < w5.heap.size) := fun j hj => (World.ownsRow.lt HO5.out.own j hj).2
        have HL2 : Hid (∀ p ∈ qs, ∀ y, p.a = some y → y.block < w5.heap.size) := fun p hp y hy => (HO5.out.apart p hp y hy).2.1
        have HG6 := hidMk (grown_trans HG5.out (grown_below (r := some g) hB6))
        have t6 := cell_later hB6 t5
        have hs6 : (w5.alloc (.cells #[.int .i64 1, .int .i64 q.r.t, .slice a' q.r.vs.length c', .int .i64 0, .int .i64 0] 62)).heap.size = w5.heap.size + 1 := by simp
        have HE6' : Hid (OE (w5.alloc (.cells #[.int .i64 1, .int .i64 q.r.t, .slice a' q.r.vs.length c', .int .i64 0, .int .i64 0] 62)) w.heap.size (.slice (some ⟨w5.heap.size, 0, none⟩) 1 1) [⟨1, ⟨q.r, a', c'⟩, 0⟩]) := HE6.out
        clear HE6 HR5 HO5 HG5 HV5 t5 hB6
        generalize w5.alloc (.cells #[.int .i64 1, .int .i64 q.r.t, .slice a' q.r.vs.length c', .int .i64 0, .int .i64 0] 62) = w6 at *
        obtain ⟨c0, c1, c2, c3, c4⟩ := Rdr.cells HR6.out
        have hwt : wrap64 (q.r.t - bd) = q.r.t - bd := w64 (by omega) (by omega)
        have hwt2 : IntKind.i64.wrap (q.r.t - bd) = q.r.t - bd := wi64 (by omega) (by omega)
        by_cases ht : q.r.t - bd ≤ tm
        · have HT : Hid (tellS tm (q.r.t - bd) = ([], tm)) := by unfold Hid tellS; rw [if_pos ht]
          go_region_with (go_at_call 24; refine (tell_le w6.drew g _ bd _ tm lt (q.r.t - bd) HR6.out ht).mono ?_; rintro e w7 ⟨rfl, rfl⟩)
          all_goals
            go_wp2
            go_ret
            exact ⟨_, _, rfl, HE6'.out.drew, by rw [HS2.out, HT.out]; rfl, by rw [HS2.out, HT.out]; exact HR6.out, HO6.out.drew, grown_drew HG6.out⟩
        · have HT : Hid (tellS tm (q.r.t - bd) = ([timeO (q.r.t - bd)], q.r.t - bd)) := by unfold Hid tellS; rw [if_neg ht]
          have HP := hidMk (Own.put (w := w6.drew) HR6.out 3 (.int .i64 (q.r.t - bd)))
          have HE7 : Hid ((w6.drew.setCell ⟨g, 3, none⟩ (.int .i64 (q.r.t - bd))).ownsRow w.heap.size 62 5 (.slice (some ⟨w5.heap.size, 0, none⟩) 1 1) 1 (cellsE ⟨1, ⟨q.r, a', c'⟩, 0⟩)) := by
            have h0 := HE6'.out.own
            have h1 : w6.drew.ownsRow w.heap.size 62 5 (.slice (some ⟨w5.heap.size, 0, none⟩) 1 1) 1 (cellsE ⟨1, ⟨q.r, a', c'⟩, 0⟩) := by
              simp only [List.length_cons, List.length_nil, List.flatMap_cons, List.flatMap_nil, List.append_nil, Nat.zero_add] at h0
              exact h0
            exact own_grown h1 HP.out.2 (fun k hk e => by simp [Value.ownBlock] at hk; cases e; have := HGL.out; omega)
          have hs7 : (w6.drew.setCell ⟨g, 3, none⟩ (.int .i64 (q.r.t - bd))).heap.size = w5.heap.size + 1 := by rw [World.size_setCell]; exact hs6
          go_region_law (first
            | (refine step_append_lies _ (by rfl) _ _ _ (by rfl) w.heap.size 62 i0 _ 5 56 Tryd.underlying46 hi0 hz0 hz1 hz2 rfl (by omega) (.slice (some ⟨w5.heap.size, 0, none⟩) 1 1) 1 (cellsE ⟨1, ⟨q.r, a', c'⟩, 0⟩) (by rfl) (HE7.out.alloc _) ⟨w5.heap.size + 1, 0, none⟩ 1 1 (cellsE (tmE (q.r.t - bd))) (by rfl) (by rfl) (World.news_of_block (cs := #[.int .i64 2, .int .i64 0, .slice none 0 0, .int .i64 (q.r.t - bd), .int .i64 0]) (t := 62) (fr := (0, 0)) (by rw [← hs7]; exact heap_alloc_new _ _)) (one_cellsE _) (by omega) (by unfold maxLen; omega) (by omega) (by simp; omega) (w5.heap.size + 2) (by simp; omega) ?_; intro gg cap w8 hown8 hgrow hat hlt8)
            | (go_simp; go_at_call 24; refine (tell_gt w6.drew g _ bd _ tm lt (q.r.t - bd) HR6.out ht).mono ?_; rintro e w7 ⟨rfl, rfl⟩; rw [show w6.drew.heap.size = w5.heap.size + 1 from hs6]))
          all_goals
            have hgw : g < w5.heap.size := by have := HGL.out; omega
            have hgE : ((w6.drew.setCell ⟨g, 3, none⟩ (.int .i64 (q.r.t - bd))).alloc (.cells #[.int .i64 2, .int .i64 0, .slice none 0 0, .int .i64 (q.r.t - bd), .int .i64 0] 62)).grownBy w8 (some w5.heap.size) := ⟨hgrow.os, hgrow.tape, hgrow.output, hgrow.size, hgrow.block⟩
            have HR8 : Hid (Rdr w8 g (.slice (some ⟨b, 0, none⟩) qs.length cx) bd ((at_ : Int) + 1) (q.r.t - bd) lt) := Own.grown (Own.later HP.out.1 (bel1 _ _)) hgE (by intro e; cases e; omega)
            have HO8 : Hid (OR w8 (g + 1) (.slice (some ⟨b, 0, none⟩) qs.length cx) qs) := ((HO6.out.drew.grown HP.out.2 (fun k hk => by cases hk; exact Nat.lt_succ_self _)).later (bel1 _ _)).beside hgE HL1.out HL2.out
            have HG8 : Hid (w.grownBy w8 (some g)) := grown_new (grown_trans (grown_trans (grown_drew HG6.out) HP.out.2) (grown_below (bel1 _ _))) hgE (fun n hn => by cases hn; omega)
            have hv6 := HE6'.out.vals ⟨1, ⟨q.r, a', c'⟩, 0⟩ (List.mem_singleton.2 rfl)
            have ha6 := HE6'.out.apart ⟨1, ⟨q.r, a', c'⟩, 0⟩ (List.mem_singleton.2 rfl)
            have hv8 : OV w8 w.heap.size (.slice a' q.r.vs.length c') q.r.vs := by
              have h1 : OV (w6.drew.setCell ⟨g, 3, none⟩ (.int .i64 (q.r.t - bd))) w.heap.size (.slice a' q.r.vs.length c') q.r.vs := OV.grown (w := w6.drew) hv6 HP.out.2 (fun k hk => by cases hk; exact HGL.out)
              refine own_grown (h1.later (bel1 _ _)) hgE (fun k hk e => ?_)
              cases a' with
              | none => simp [Value.ownBlock] at hk
              | some y =>
                have hyk : y.block = k := by
                  rcases hv6.2 with ⟨h, -⟩ | ⟨g2, c2, cur2, h, -⟩
                  · simp at h
                  · simp at h; rw [h.1] at hk ⊢; simpa [Value.ownBlock] using hk
                have := ha6 y rfl
                rw [hyk, e] at this
                simp [Value.ownBlock] at this
            have HE8 : Hid (OE w8 w.heap.size (.slice (some ⟨gg, 0, none⟩) (1 + 1) cap) [⟨1, ⟨q.r, a', c'⟩, 0⟩, tmE (q.r.t - bd)]) := by
              refine ⟨by simpa using hown8, fun e he => ?_, fun e he y hy => ?_⟩
              · simp at he
                rcases he with rfl | rfl
                · exact hv8
                · exact World.ownsRow_nil _ _ _ _
              · simp at he
                rcases he with rfl | rfl
                · have h1 := ha6 y hy
                  have h2 : y.block < w6.heap.size := by
                    obtain ⟨a2, c2, e2, -, h3⟩ := hv6.form
                    cases e2
                    exact (h3 y hy).2
                  have h3 : y.block ≠ w5.heap.size := fun e => h1 (by simp [Value.ownBlock, e])
                  intro h4
                  simp [Value.ownBlock] at h4
                  rcases hat with h | h
                  · simp [Value.ownBlock] at h; omega
                  · omega
                · cases hy
            clear hown8 hgrow hat hlt8 hgE hv6 ha6 hv8
            go_wp2
            go_ret
            exact ⟨_, _, rfl, HE8.out, by rw [HS2.out, HT.out]; rfl, by rw [HS2.out, HT.out]; exact HR8.out, HO8.out, HG8.out⟩
end Go.Proofs.YthdbfgnjeolfaaaDoor
