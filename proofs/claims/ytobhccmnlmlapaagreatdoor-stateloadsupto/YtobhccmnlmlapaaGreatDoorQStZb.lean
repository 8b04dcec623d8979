import Derived.Test.YtobhccmnlmlapaaGreatDoorQStJ
import Derived.Test.YtobhccmnlmlapaaGreatDoorQStR
import Derived.Test.YtobhccmnlmlapaaGreatDoorQRdE
import Derived.Test.YtobhccmnlmlapaaGreatDoorQPvA
namespace Go.Proofs.YtobhccmnlmlapaaGreatDoor
open Go.RowKit Go.Maps
set_option linter.unusedVariables false
set_option linter.unusedSimpArgs false
set_option maxRecDepth 100000

theorem empty_any (lo hi : Int) (w : World) (hr : 0 ≤ lo ∧ lo ≤ hi ∧ hi ≤ 32) :
    Calls Tryz.prog 19 #[.int .i64 lo, .int .i64 hi] w fun e w' => ∃ t mp, e = .returned (.pointer (some ⟨t, 0, none⟩)) ∧ PS w' w.heap.size t mp lo hi [] ∧ Below w.heap.size w w' := by
  have hmm := @run_makeMap Tryz.prog
  go_enter Tryz.func19, Tryz.ntmps19
  go_wp2_with fail
  go_ret
  have hb : Below w.heap.size w ((w.alloc (.map #[] 0)).alloc (.cells #[.int .i64 lo, .int .i64 hi, .map (some w.heap.size), .int .i64 0, .int .i64 0] 82)) := (bel1 _ _).alloc (by simp) _
  refine ⟨w.heap.size + 1, w.heap.size, rfl, ⟨?_, ?_, (fun s hs => by cases hs), ⟨by omega, Nat.le_refl _⟩, ⟨by omega, (fun s hs => by cases hs)⟩, List.nodup_nil, (fun i hf => by obtain ⟨s, hs, _⟩ := hf; cases hs), by decide, hr⟩, hb⟩
  · have := Own.new (w.alloc (.map #[] 0)) 82 5 #[.int .i64 lo, .int .i64 hi, .map (some w.heap.size), .int .i64 0, .int .i64 0] rfl
    rw [World.size_alloc] at this
    exact this
  · exact (MP.made w sk).kept (World.grownBy_alloc _ _ none) (by simp)
theorem num_ok (g : Nat) (R : List UInt8) (n : Int) (w : World) (hR : Wr.Rd w g (Wr.encInt n ++ R)) (hn : Wr.InI n) :
    Calls Tryz.prog 96 #[.pointer (some ⟨g, 0, none⟩)] w fun e w' => e = .returned (.tuple #[.int .i64 n, .bool true]) ∧ w.grownBy w' (some g) ∧ Wr.Rd w' g R := by
  refine (Wr.num_any g _ w hR).mono ?_
  rintro e w' ⟨m, ok, L', rfl, h1, h2, h3, h4, hy, hn'⟩
  cases ok with
  | false => exact absurd rfl (hn' rfl n R hn)
  | true =>
    obtain ⟨rfl, rfl⟩ := Wr.encInt_pf (hy rfl)
    exact ⟨rfl, h2, h3⟩
theorem cnt_ok (g : Nat) (R : List UInt8) (k : Nat) (w : World) (hR : Wr.Rd w g (Wr.encInt (k : Int) ++ R)) (hn : Wr.InI (k : Int)) (hk : k ≤ R.length) :
    Calls Tryz.prog 69 #[.pointer (some ⟨g, 0, none⟩)] w fun e w' => e = .returned (.tuple #[.int .i64 (k : Int), .bool true]) ∧ w.grownBy w' (some g) ∧ Wr.Rd w' g R := by
  refine (Wr.count_any g _ w hR).mono ?_
  rintro e w' ⟨m, ok, L', rfl, h2, h3, h4, hy, hn'⟩
  cases ok with
  | false => exact absurd rfl ((hn' rfl).2 k R hn hk)
  | true =>
    obtain ⟨e1, e2⟩ := Wr.encInt_pf (hy rfl).1
    rw [e1, e2]
    exact ⟨rfl, h2, h3⟩
theorem vals_ok (g : Nat) (R : List UInt8) (vs : List V) (w : World) (hR : Wr.Rd w g ((Wr.encInt (vs.length : Int) ++ encKey vs) ++ R)) (h8 : vs.length ≤ 8) (hf : ∀ v ∈ vs, Wr.FormV v ∧ Wr.InI v.n ∧ Wr.InI (v.s.size : Int)) (hl : ((Wr.encInt (vs.length : Int) ++ encKey vs) ++ R).length ≤ 549755813888) :
    Calls Tryz.prog 97 #[.pointer (some ⟨g, 0, none⟩)] w fun e w' => ∃ a c, e = .returned (.tuple #[.slice a vs.length c, .bool true]) ∧ w.grownBy w' (some g) ∧ Wr.Rd w' g R ∧ OV w' w.heap.size (.slice a vs.length c) vs := by
  refine (Wr.values_any g _ w hR hl).mono ?_
  rintro e w' ⟨us, a, c, ok, L', rfl, h2, h3, h4, hy, hn'⟩
  cases ok with
  | false => exact absurd rfl ((hn' rfl).2.2.2 vs R h8 hf)
  | true =>
    obtain ⟨y1, y2, y3, y4⟩ := hy rfl
    unfold encKey at y3
    rw [List.append_assoc, List.append_assoc] at y3
    obtain ⟨e1, e2⟩ := Wr.encInt_pf y3
    obtain ⟨e3, e4⟩ := Wr.flat_pf Wr.encVal_PF vs us R L' (fun v hv => (hf v hv).1) (fun v hv => (y2 v hv).1) (by omega) e2
    subst e3 e4
    exact ⟨a, c, rfl, h2, h3, y4⟩
set_option maxHeartbeats 1000000 in
theorem rbytes_ok (g : Nat) (R d : List UInt8) (w : World) (hR : Wr.Rd w g ((Wr.encInt (d.length : Int) ++ d) ++ R)) (hd : Wr.InI (d.length : Int)) :
    Calls Tryz.prog 98 #[.pointer (some ⟨g, 0, none⟩)] w fun e w' => ∃ v', e = .returned (.tuple #[v', .bool true]) ∧ w.grownBy w' (some g) ∧ Wr.Rd w' g R ∧ Wr.OL w' w.heap.size v' d := by
  have HR := hidMk hR
  have HD := hidMk hd
  clear hR hd
  go_enter Tryz.func98, Tryz.ntmps98
  go_wp2_with fail
  refine (Wr.counted_any g _ w HR.out).mono ?_
  rintro e w1 ⟨a, m, c, ok, L1, P, rfl, hg1, hR1, hl1, hP, hmL, hmc, hB, hap, hy, hn⟩
  cases ok with
  | false => exact absurd rfl ((hn rfl).2.2.2 d R HD.out)
  | true =>
    have h1 := hy rfl
    rw [List.append_assoc, List.append_assoc] at h1
    obtain ⟨e1, e2⟩ := Wr.encInt_pf h1
    have hdm : d.length = m := by omega
    obtain ⟨e3, e4⟩ := List.append_inj e2 (by omega)
    subst e3 e4
    have hsm := HR.out.small
    subst hdm
    have HCL := hidMk (bclone_any a d c w1 hB (by simp only [List.length_append] at hsm; omega))
    have HG1 := hidMk hg1
    have HR1 := hidMk hR1
    have hs1 := hg1.size
    clear hy hn hB hap h1 e1 e2 hg1 hR1
    go_wp2_with fail
    refine HCL.out.mono ?_
    rintro e w2 ⟨v', rfl, o2, b2⟩
    have HF : Hid (w.grownBy w2 (some g) ∧ Wr.Rd w2 g R ∧ Wr.OL w2 w.heap.size v' d) := by
      refine ⟨grown_trans HG1.out (grown_below b2), HR1.out.later b2, ?_⟩
      refine ⟨o2.1, ?_⟩
      rcases o2.2 with q | ⟨g', cap, cur, q1, q2, q3⟩
      · exact .inl q
      · exact .inr ⟨g', cap, cur, q1, Nat.le_trans hs1 q2, q3⟩
    clear o2 b2
    go_wp2_with fail
    go_ret2
    exact ⟨v', rfl, HF.out⟩
/-- A cell that can be written. -/
def Form (c : Ce) : Prop := c.key.length ≤ 8 ∧ (∀ v ∈ c.key, Wr.FormV v ∧ Wr.InI v.n ∧ Wr.InI (v.s.size : Int)) ∧ Wr.InI c.w.f ∧ Wr.InI c.w.t ∧ Wr.InI (c.d.length : Int)
set_option maxHeartbeats 2000000 in
theorem readCell_ok (g : Nat) (R : List UInt8) (c : Ce) (w : World) (hR : Wr.Rd w g (encCe c ++ R)) (hc : Form c) (hl : (encCe c ++ R).length ≤ 549755813888) :
    Calls Tryz.prog 70 #[.pointer (some ⟨g, 0, none⟩)] w fun e w' => ∃ q : Cx, q.c = c ∧ e = .returned (.tuple #[vC q, .bool true]) ∧ w.grownBy w' (some g) ∧ Wr.Rd w' g R ∧ OV w' w.heap.size (.slice q.ka c.key.length q.kc) c.key ∧ Wr.OL w' w.heap.size q.dv c.d := by
  obtain ⟨ck, cw, cd⟩ := c
  obtain ⟨c1, c2, c3, c4, c5⟩ := hc
  simp only at c1 c2 c3 c4 c5
  have HE : Hid (encCe ⟨ck, cw, cd⟩ ++ R = (Wr.encInt (ck.length : Int) ++ encKey ck) ++ (Wr.encInt cw.f ++ (Wr.encInt cw.t ++ ((Wr.encInt (cd.length : Int) ++ cd) ++ R)))) := by unfold Hid encCe; simp only [List.append_assoc]
  rw [HE.out] at hR hl
  have hgl := hR.lt
  have hB0 := bel1 w (.cells #[.slice none 0 0, .int .i64 0, .int .i64 0, .slice none 0 0] 55)
  have HOr := hidMk (Own.new w 55 4 #[.slice none 0 0, .int .i64 0, .int .i64 0, .slice none 0 0] rfl)
  have HV := hidMk (vals_ok g _ ck _ (hR.later hB0) c1 c2 hl)
  have HB0 := hidMk hB0
  have HC3 := hidMk c3
  have HC4 := hidMk c4
  have HC5 := hidMk c5
  clear hR hl hB0
  go_enter Tryz.func70, Tryz.ntmps70
  go_wp2_with fail
  refine HV.out.mono ?_
  rintro e w1 ⟨ka, kc, rfl, g1, r1, o1⟩
  have G1 := hidMk g1
  have O1 := hidMk o1
  have R1 := hidMk r1
  clear g1 o1 r1
  go_wp2_with fail
  refine (num_ok g _ cw.f w1 R1.out HC3.out).mono ?_
  rintro e w2 ⟨rfl, g2, r2⟩
  have G2 := hidMk g2
  have R2 := hidMk r2
  clear g2 r2
  go_wp2_with fail
  refine (num_ok g _ cw.t w2 R2.out HC4.out).mono ?_
  rintro e w3 ⟨rfl, g3, r3⟩
  have G3 := hidMk g3
  have R3 := hidMk r3
  clear g3 r3
  go_wp2_with fail
  refine (rbytes_ok g R cd w3 R3.out HC5.out).mono ?_
  rintro e w4 ⟨v4, rfl, g4, r4, o4⟩
  obtain ⟨va, vc, hv4⟩ := row_form o4
  have hgr : World.grownBy (w.alloc (.cells #[.slice none 0 0, .int .i64 0, .int .i64 0, .slice none 0 0] 55)) w4 (some g) := grown_trans G1.out (grown_trans (grown_trans G2.out G3.out) g4)
  have HR4 := hidMk (HOr.out.grown hgr (by simp; omega))
  have HF : Hid (w.grownBy w4 (some g) ∧ Wr.Rd w4 g R ∧ OV w4 (w.heap.size + 1) (.slice ka ck.length kc) ck ∧ Wr.OL w4 (w.heap.size + 1) v4 cd) := by
    have gg := grown_trans (grown_trans G2.out G3.out) g4
    have ho := O1.out
    rw [World.size_alloc] at ho
    refine ⟨grown_trans (grown_below HB0.out) hgr, r4, own_grown ho gg (fun b hb e => by have h1 := (World.ownsRow.lt ho b hb).1; have h2 := Option.some.inj e; omega), ?_⟩
    refine ⟨o4.1, ?_⟩
    rcases o4.2 with q | ⟨g', cap, cur, q1, q2, q3⟩
    · exact .inl q
    · have h1 := G1.out.size
      rw [World.size_alloc] at h1
      exact .inr ⟨g', cap, cur, q1, Nat.le_trans (Nat.le_trans h1 (Nat.le_trans G2.out.size G3.out.size)) q2, q3⟩
  clear g4 r4 o4 hgr
  subst hv4
  have p1 := HR4.out.put 0 (.slice ka ck.length kc)
  have p2 := p1.1.put 1 (.int .i64 cw.f)
  have p3 := p2.1.put 2 (.int .i64 cw.t)
  have p4 := p3.1.put 3 (.slice va cd.length vc)
  have HPO := hidMk p4.1
  have HPG := hidMk (grown_trans (grown_trans (grown_trans p1.2 p2.2) p3.2) p4.2)
  have c0 : w4.cell? ⟨w.heap.size, 0, none⟩ = some (.slice none 0 0) := HR4.out.cell 0 (by decide)
  have c1' : w4.cell? ⟨w.heap.size, 1, none⟩ = some (.int .i64 0) := HR4.out.cell 1 (by decide)
  have c2' : w4.cell? ⟨w.heap.size, 2, none⟩ = some (.int .i64 0) := HR4.out.cell 2 (by decide)
  have c3' : w4.cell? ⟨w.heap.size, 3, none⟩ = some (.slice none 0 0) := HR4.out.cell 3 (by decide)
  have f0 := HR4.out.soft 0
  have f1 := HR4.out.soft 1
  have f2 := HR4.out.soft 2
  have f3 := HR4.out.soft 3
  clear p1 p2 p3 p4
  go_wp2_with fail
  have k0 : ((((w4.setCell ⟨w.heap.size, 0, none⟩ (Value.slice ka ck.length kc)).setCell ⟨w.heap.size, 1, none⟩ (Value.int .i64 cw.f)).setCell ⟨w.heap.size, 2, none⟩ (Value.int .i64 cw.t)).setCell ⟨w.heap.size, 3, none⟩ (Value.slice va cd.length vc)).cell? ⟨w.heap.size, 0, none⟩ = some (.slice ka ck.length kc) := HPO.out.cell 0 (by decide)
  have k1 : ((((w4.setCell ⟨w.heap.size, 0, none⟩ (Value.slice ka ck.length kc)).setCell ⟨w.heap.size, 1, none⟩ (Value.int .i64 cw.f)).setCell ⟨w.heap.size, 2, none⟩ (Value.int .i64 cw.t)).setCell ⟨w.heap.size, 3, none⟩ (Value.slice va cd.length vc)).cell? ⟨w.heap.size, 1, none⟩ = some (.int .i64 cw.f) := HPO.out.cell 1 (by decide)
  have k2 : ((((w4.setCell ⟨w.heap.size, 0, none⟩ (Value.slice ka ck.length kc)).setCell ⟨w.heap.size, 1, none⟩ (Value.int .i64 cw.f)).setCell ⟨w.heap.size, 2, none⟩ (Value.int .i64 cw.t)).setCell ⟨w.heap.size, 3, none⟩ (Value.slice va cd.length vc)).cell? ⟨w.heap.size, 2, none⟩ = some (.int .i64 cw.t) := HPO.out.cell 2 (by decide)
  have k3 : ((((w4.setCell ⟨w.heap.size, 0, none⟩ (Value.slice ka ck.length kc)).setCell ⟨w.heap.size, 1, none⟩ (Value.int .i64 cw.f)).setCell ⟨w.heap.size, 2, none⟩ (Value.int .i64 cw.t)).setCell ⟨w.heap.size, 3, none⟩ (Value.slice va cd.length vc)).cell? ⟨w.heap.size, 3, none⟩ = some (.slice va cd.length vc) := HPO.out.cell 3 (by decide)
  generalize ((((w4.setCell ⟨w.heap.size, 0, none⟩ (Value.slice ka ck.length kc)).setCell ⟨w.heap.size, 1, none⟩ (Value.int .i64 cw.f)).setCell ⟨w.heap.size, 2, none⟩ (Value.int .i64 cw.t)).setCell ⟨w.heap.size, 3, none⟩ (Value.slice va cd.length vc)) = W5 at *
  refine bodyPost_ret (v := .tuple #[.agg #[.slice ka ck.length kc, .int .i64 cw.f, .int .i64 cw.t, .slice va cd.length vc], .bool true]) ?_ rfl ⟨⟨⟨ck, cw, cd⟩, ka, kc, .slice va cd.length vc⟩, rfl, rfl, ?_, ?_, ?_, ?_⟩
  · simp [results, Tryz.results70, go_sem, k0, k1, k2, k3]
  · exact grown_new HF.out.1 HPG.out (fun k e => by cases e; exact Nat.le_refl _)
  · exact HF.out.2.1.grown HPG.out (fun k e => by cases e; omega)
  · have r : OV W5 (w.heap.size + 1) (.slice ka ck.length kc) ck := own_grown HF.out.2.2.1 HPG.out (fun b hb e => by have h1 := (World.ownsRow.lt HF.out.2.2.1 b hb).1; have h2 := Option.some.inj e; omega)
    exact r.base (by omega)
  · have r := own_grown HF.out.2.2.2 HPG.out (fun b hb e => by have h1 := (World.ownsRow.lt HF.out.2.2.2 b hb).1; have h2 := Option.some.inj e; omega)
    refine ⟨r.1, ?_⟩
    rcases r.2 with q | ⟨g', cap, cur, q1, q2, q3⟩
    · exact .inl q
    · exact .inr ⟨g', cap, cur, q1, by omega, q3⟩
end Go.Proofs.YtobhccmnlmlapaaGreatDoor
