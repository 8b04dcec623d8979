import Derived.Test.YtplaplhmjpfbjaaGreatDoorOc1
import Derived.Deep.DeepCutAuto
namespace Go.Proofs.YtplaplhmjpfbjaaGreatDoor.Oo
open Go.RowKit
set_option linter.unusedVariables false
set_option linter.unusedSimpArgs false
set_option maxRecDepth 100000

def zero12 : List Value := [.int .i64 0, .slice none 0 0, .slice none 0 0, .slice none 0 0, .slice none 0 0, .slice none 0 0, .slice none 0 0, .int .i64 0, .int .i64 0, .int .i64 0, .slice none 0 0, .bool false]
/-- While an operator is copied. -/
def CS (w : World) (cs : List Value) (W : World) : Prop := Own W w.heap.size 29 12 cs ∧ Own W (w.heap.size + 1) 29 12 zero12 ∧ Below w.heap.size w W
theorem CS.drew {w : World} {cs : List Value} {W : World} (h : CS w cs W) : CS w cs W.drew := ⟨World.ownsRow.drew h.1, World.ownsRow.drew h.2.1, h.2.2.drew⟩
theorem CS.drewN {w : World} {cs : List Value} {W : World} {n : Nat} (h : CS w cs W) : CS w cs (W.drewN n) := ⟨h.1, h.2.1, belDrew h.2.2⟩
theorem CS.later {w : World} {cs : List Value} {W W' : World} (h : CS w cs W) (hb : Below W.heap.size W W') : CS w cs W' := ⟨h.1.later hb, h.2.1.later hb, h.2.2.trans (hb.mono h.2.2.size)⟩
theorem CS.put {w : World} {cs : List Value} {W : World} (h : CS w cs W) (j : Nat) (u : Value) : CS w (cs.set j u) (W.setCell ⟨w.heap.size, j, none⟩ u) :=
  ⟨(h.1.put j u).1, h.2.1.grown (h.1.put j u).2 (by simp), h.2.2.grown (h.1.put j u).2 h.2.2.size (fun k hk => by cases hk; exact Nat.le_refl _)⟩
theorem belSet {B : Nat} {a w : World} {x : Addr} {u : Value} (h : Below B a w) (hx : B ≤ x.block) : Below B a (w.setCell x u) :=
  ⟨h.os, h.tape, h.output, by simpa using h.size, fun i hi => (heap_setCell_other w x i u (by omega)).trans (h.block i hi)⟩
set_option maxHeartbeats 8000000 in
theorem copied_any (o : OpD) (p : OpA) (w : World) (hs : OpSz o) (hat : OpAt w o p) :
    Calls Tryz.prog 21 #[.agg (opCs o p)] w fun e w' => (∃ p', e = .returned (.agg (opCs o p'))) ∧ Below w.heap.size w w' := by
  have HE : Hid (∀ cs W, CS w cs W → Calls Tryz.prog 39 #[.slice p.ea o.ex.length p.ec] W fun e w' => (∃ a' c', e = .returned (.slice a' o.ex.length c')) ∧ CS w cs w') := fun cs W hW => (cloneS p.ea o.ex p.ec W (hat.e.later hW.2.2) hs.e).mono fun e w' ⟨a', c', h1, _, h3⟩ => ⟨⟨a', c', h1⟩, hW.later h3⟩
  have HN : Hid (∀ cs W, CS w cs W → Calls Tryz.prog 39 #[.slice p.na o.nm.length p.nc] W fun e w' => (∃ a' c', e = .returned (.slice a' o.nm.length c')) ∧ CS w cs w') := fun cs W hW => (cloneS p.na o.nm p.nc W (hat.n.later hW.2.2) hs.n).mono fun e w' ⟨a', c', h1, _, h3⟩ => ⟨⟨a', c', h1⟩, hW.later h3⟩
  have HC : Hid (∀ cs W, CS w cs W → Calls Tryz.prog 28 #[.slice p.ca o.c.length p.cc] W fun e w' => (∃ a' c', e = .returned (.slice a' o.c.length c')) ∧ CS w cs w') := fun cs W hW => (cloneC p.ca o.c p.cc W (hat.c.later hW.2.2) (by have := hs.c; omega)).mono fun e w' ⟨a', c', h1, _, h3⟩ => ⟨⟨a', c', h1⟩, hW.later h3⟩
  have HR : Hid (∀ cs W, CS w cs W → Calls Tryz.prog 28 #[.slice p.ra o.r.length p.rc] W fun e w' => (∃ a' c', e = .returned (.slice a' o.r.length c')) ∧ CS w cs w') := fun cs W hW => (cloneC p.ra o.r p.rc W (hat.r.later hW.2.2) (by have := hs.r; omega)).mono fun e w' ⟨a', c', h1, _, h3⟩ => ⟨⟨a', c', h1⟩, hW.later h3⟩
  have HK : Hid (∀ cs W, CS w cs W → Calls Tryz.prog 40 #[.slice p.ka o.ks.length p.kc] W fun e w' => (∃ a' c', e = .returned (.slice a' o.ks.length c')) ∧ CS w cs w') := fun cs W hW => (cloneI p.ka o.ks p.kc W (hat.k.later hW.2.2) hs.k).mono fun e w' ⟨a', c', h1, _, h3⟩ => ⟨⟨a', c', h1⟩, hW.later h3⟩
  have HO : Hid (∀ cs W, CS w cs W → Calls Tryz.prog 40 #[.slice p.oa o.os.length p.oc] W fun e w' => (∃ a' c', e = .returned (.slice a' o.os.length c')) ∧ CS w cs w') := fun cs W hW => (cloneI p.oa o.os p.oc W (hat.o.later hW.2.2) hs.o).mono fun e w' ⟨a', c', h1, _, h3⟩ => ⟨⟨a', c', h1⟩, hW.later h3⟩
  have HG : Hid (∀ cs W, CS w cs W → Calls Tryz.prog 41 #[.slice p.ga o.ag.length p.gc] W fun e w' => (∃ a' c', e = .returned (.slice a' o.ag.length c')) ∧ CS w cs w') := fun cs W hW => (cloneA p.ga o.ag p.gc W (hat.g.later hW.2.2) hs.g).mono fun e w' ⟨a', c', h1, _, h3⟩ => ⟨⟨a', c', h1⟩, hW.later h3⟩
  clear hs hat
  obtain ⟨k, ex, nm, c, r, ks, os, wk, ws, wt, ag, ou⟩ := o
  obtain ⟨ea, ec, na, nc, ca, cc, ra, rc, ka, kc, oa, oc, ga, gc⟩ := p
  unfold opCs
  simp only at *
  generalize ex.length = en at *
  generalize nm.length = nn at *
  generalize c.length = cn at *
  generalize r.length = rn at *
  generalize ks.length = kn at *
  generalize os.length = on at *
  generalize ag.length = gn at *
  obtain ⟨W2, hW2⟩ : ∃ W2, W2 = (w.alloc (.cells #[.int .i64 k, .slice ea en ec, .slice na nn nc, .slice ca cn cc, .slice ra rn rc, .slice ka kn kc, .slice oa on oc, .int .i64 wk, .int .i64 ws, .int .i64 wt, .slice ga gn gc, .bool ou] 29)).alloc (.cells #[.int .i64 0, .slice none 0 0, .slice none 0 0, .slice none 0 0, .slice none 0 0, .slice none 0 0, .slice none 0 0, .int .i64 0, .int .i64 0, .int .i64 0, .slice none 0 0, .bool false] 29) := ⟨_, rfl⟩
  have HS0 : Hid (CS w [.int .i64 k, .slice ea en ec, .slice na nn nc, .slice ca cn cc, .slice ra rn rc, .slice ka kn kc, .slice oa on oc, .int .i64 wk, .int .i64 ws, .int .i64 wt, .slice ga gn gc, .bool ou] W2) := by
    rw [hW2]
    have h1 := Own.new w 29 12 #[.int .i64 k, .slice ea en ec, .slice na nn nc, .slice ca cn cc, .slice ra rn rc, .slice ka kn kc, .slice oa on oc, .int .i64 wk, .int .i64 ws, .int .i64 wt, .slice ga gn gc, .bool ou] rfl
    have h2 := Own.new (w.alloc (.cells #[.int .i64 k, .slice ea en ec, .slice na nn nc, .slice ca cn cc, .slice ra rn rc, .slice ka kn kc, .slice oa on oc, .int .i64 wk, .int .i64 ws, .int .i64 wt, .slice ga gn gc, .bool ou] 29)) 29 12 #[.int .i64 0, .slice none 0 0, .slice none 0 0, .slice none 0 0, .slice none 0 0, .slice none 0 0, .slice none 0 0, .int .i64 0, .int .i64 0, .int .i64 0, .slice none 0 0, .bool false] rfl
    refine ⟨h1.later (xbel1 _ _), ?_, (xbel1 _ _).trans ((xbel1 _ _).mono (by simp))⟩
    have e : (w.alloc (.cells #[.int .i64 k, .slice ea en ec, .slice na nn nc, .slice ca cn cc, .slice ra rn rc, .slice ka kn kc, .slice oa on oc, .int .i64 wk, .int .i64 ws, .int .i64 wt, .slice ga gn gc, .bool ou] 29)).heap.size = w.heap.size + 1 := by simp
    rw [← e]
    exact h2
  go_enter Tryz.func21, Tryz.ntmps21
  go_wp2_with fail
  rw [← hW2]
  clear hW2
  go_cut [] from 3 to 10 (fun wx => ∃ a1 c1 a2 c2, CS w [.int .i64 k, .slice a1 en c1, .slice a2 nn c2, .slice ca cn cc, .slice ra rn rc, .slice ka kn kc, .slice oa on oc, .int .i64 wk, .int .i64 ws, .int .i64 wt, .slice ga gn gc, .bool ou] wx)
  case first =>
    have hS := HS0.out
    obtain ⟨hO, hZ, hB⟩ := HS0.out
    have k1 : W2.cell? ⟨w.heap.size, 1, none⟩ = some (.slice ea en ec) := hO.cell 1 (by decide)
    have s1 : W2.frozen? ⟨w.heap.size, 1, none⟩ = false := hO.soft 1
    have k2 : W2.cell? ⟨w.heap.size, 2, none⟩ = some (.slice na nn nc) := hO.cell 2 (by decide)
    have s2 : W2.frozen? ⟨w.heap.size, 2, none⟩ = false := hO.soft 2
    have hl : w.heap.size < W2.heap.size := hO.lt
    go_region_with (first
      | (go_at_call 39; refine (HE.out _ _ (by first | exact hKP | exact hKP.drew | exact hKP.drewN | exact hS | exact hS.drew | exact hS.drewN)).mono ?_; rintro e w9 ⟨⟨a9, c9, rfl⟩, hKP⟩; have hKQ := hKP; obtain ⟨hO, hZ, hB⟩ := hKQ; have k1 : w9.cell? ⟨w.heap.size, 1, none⟩ = some (.slice ea en ec) := hO.cell 1 (by decide); have s1 : w9.frozen? ⟨w.heap.size, 1, none⟩ = false := hO.soft 1; have k2 : w9.cell? ⟨w.heap.size, 2, none⟩ = some (.slice na nn nc) := hO.cell 2 (by decide); have s2 : w9.frozen? ⟨w.heap.size, 2, none⟩ = false := hO.soft 2;  have hl : w.heap.size < w9.heap.size := hO.lt)
      | (go_at_call 39; refine (HN.out _ _ (by first | exact hKP | exact hKP.drew | exact hKP.drewN | exact hS | exact hS.drew | exact hS.drewN)).mono ?_; rintro e w9 ⟨⟨a9, c9, rfl⟩, hKP⟩; have hKQ := hKP; obtain ⟨hO, hZ, hB⟩ := hKQ; have k1 : w9.cell? ⟨w.heap.size, 1, none⟩ = some (.slice ea en ec) := hO.cell 1 (by decide); have s1 : w9.frozen? ⟨w.heap.size, 1, none⟩ = false := hO.soft 1; have k2 : w9.cell? ⟨w.heap.size, 2, none⟩ = some (.slice na nn nc) := hO.cell 2 (by decide); have s2 : w9.frozen? ⟨w.heap.size, 2, none⟩ = false := hO.soft 2;  have hl : w.heap.size < w9.heap.size := hO.lt))
    all_goals
      go_wp2_with fail
      go_meet
      exact ⟨_, _, _, _, by first | exact (hKP.put 1 _).put 2 _ | exact ((hKP.put 1 _).put 2 _).drew | exact ((hKP.put 1 _).put 2 _).drewN | exact (hKP.drew.put 1 _).put 2 _ | exact (hKP.drewN.put 1 _).put 2 _⟩
  case rest =>
    obtain ⟨a1, c1, a2, c2, hS⟩ := hcut
    have HS1 := hidO hS
    clear hS
    go_wp2_with fail
    go_cut [] from 11 to 18 (fun wx => ∃ a3 c3 a4 c4, CS w [.int .i64 k, .slice a1 en c1, .slice a2 nn c2, .slice a3 cn c3, .slice a4 rn c4, .slice ka kn kc, .slice oa on oc, .int .i64 wk, .int .i64 ws, .int .i64 wt, .slice ga gn gc, .bool ou] wx)
    case first =>
      have hS := HS1.out
      obtain ⟨hO, hZ, hB⟩ := HS1.out
      have k3 : wc.cell? ⟨w.heap.size, 3, none⟩ = some (.slice ca cn cc) := hO.cell 3 (by decide)
      have s3 : wc.frozen? ⟨w.heap.size, 3, none⟩ = false := hO.soft 3
      have k4 : wc.cell? ⟨w.heap.size, 4, none⟩ = some (.slice ra rn rc) := hO.cell 4 (by decide)
      have s4 : wc.frozen? ⟨w.heap.size, 4, none⟩ = false := hO.soft 4
      have hl : w.heap.size < wc.heap.size := hO.lt
      go_region_with (first
        | (go_at_call 28; refine (HC.out _ _ (by first | exact hKP | exact hKP.drew | exact hKP.drewN | exact hS | exact hS.drew | exact hS.drewN)).mono ?_; rintro e w9 ⟨⟨a9, c9, rfl⟩, hKP⟩; have hKQ := hKP; obtain ⟨hO, hZ, hB⟩ := hKQ; have k3 : w9.cell? ⟨w.heap.size, 3, none⟩ = some (.slice ca cn cc) := hO.cell 3 (by decide); have s3 : w9.frozen? ⟨w.heap.size, 3, none⟩ = false := hO.soft 3; have k4 : w9.cell? ⟨w.heap.size, 4, none⟩ = some (.slice ra rn rc) := hO.cell 4 (by decide); have s4 : w9.frozen? ⟨w.heap.size, 4, none⟩ = false := hO.soft 4;  have hl : w.heap.size < w9.heap.size := hO.lt)
        | (go_at_call 28; refine (HR.out _ _ (by first | exact hKP | exact hKP.drew | exact hKP.drewN | exact hS | exact hS.drew | exact hS.drewN)).mono ?_; rintro e w9 ⟨⟨a9, c9, rfl⟩, hKP⟩; have hKQ := hKP; obtain ⟨hO, hZ, hB⟩ := hKQ; have k3 : w9.cell? ⟨w.heap.size, 3, none⟩ = some (.slice ca cn cc) := hO.cell 3 (by decide); have s3 : w9.frozen? ⟨w.heap.size, 3, none⟩ = false := hO.soft 3; have k4 : w9.cell? ⟨w.heap.size, 4, none⟩ = some (.slice ra rn rc) := hO.cell 4 (by decide); have s4 : w9.frozen? ⟨w.heap.size, 4, none⟩ = false := hO.soft 4;  have hl : w.heap.size < w9.heap.size := hO.lt))
      all_goals
        go_wp2_with fail
        go_meet
        exact ⟨_, _, _, _, by first | exact (hKP.put 3 _).put 4 _ | exact ((hKP.put 3 _).put 4 _).drew | exact ((hKP.put 3 _).put 4 _).drewN | exact (hKP.drew.put 3 _).put 4 _ | exact (hKP.drewN.put 3 _).put 4 _⟩
    case rest =>
      obtain ⟨a3, c3, a4, c4, hS⟩ := hcut
      have HS2 := hidO hS
      clear hS
      go_wp2_with fail
      go_cut [] from 19 to 26 (fun wx => ∃ a5 c5 a6 c6, CS w [.int .i64 k, .slice a1 en c1, .slice a2 nn c2, .slice a3 cn c3, .slice a4 rn c4, .slice a5 kn c5, .slice a6 on c6, .int .i64 wk, .int .i64 ws, .int .i64 wt, .slice ga gn gc, .bool ou] wx)
      case first =>
        have hS := HS2.out
        obtain ⟨hO, hZ, hB⟩ := HS2.out
        have k5 : wc.cell? ⟨w.heap.size, 5, none⟩ = some (.slice ka kn kc) := hO.cell 5 (by decide)
        have s5 : wc.frozen? ⟨w.heap.size, 5, none⟩ = false := hO.soft 5
        have k6 : wc.cell? ⟨w.heap.size, 6, none⟩ = some (.slice oa on oc) := hO.cell 6 (by decide)
        have s6 : wc.frozen? ⟨w.heap.size, 6, none⟩ = false := hO.soft 6
        have hl : w.heap.size < wc.heap.size := hO.lt
        go_region_with (first
          | (go_at_call 40; refine (HK.out _ _ (by first | exact hKP | exact hKP.drew | exact hKP.drewN | exact hS | exact hS.drew | exact hS.drewN)).mono ?_; rintro e w9 ⟨⟨a9, c9, rfl⟩, hKP⟩; have hKQ := hKP; obtain ⟨hO, hZ, hB⟩ := hKQ; have k5 : w9.cell? ⟨w.heap.size, 5, none⟩ = some (.slice ka kn kc) := hO.cell 5 (by decide); have s5 : w9.frozen? ⟨w.heap.size, 5, none⟩ = false := hO.soft 5; have k6 : w9.cell? ⟨w.heap.size, 6, none⟩ = some (.slice oa on oc) := hO.cell 6 (by decide); have s6 : w9.frozen? ⟨w.heap.size, 6, none⟩ = false := hO.soft 6;  have hl : w.heap.size < w9.heap.size := hO.lt)
          | (go_at_call 40; refine (HO.out _ _ (by first | exact hKP | exact hKP.drew | exact hKP.drewN | exact hS | exact hS.drew | exact hS.drewN)).mono ?_; rintro e w9 ⟨⟨a9, c9, rfl⟩, hKP⟩; have hKQ := hKP; obtain ⟨hO, hZ, hB⟩ := hKQ; have k5 : w9.cell? ⟨w.heap.size, 5, none⟩ = some (.slice ka kn kc) := hO.cell 5 (by decide); have s5 : w9.frozen? ⟨w.heap.size, 5, none⟩ = false := hO.soft 5; have k6 : w9.cell? ⟨w.heap.size, 6, none⟩ = some (.slice oa on oc) := hO.cell 6 (by decide); have s6 : w9.frozen? ⟨w.heap.size, 6, none⟩ = false := hO.soft 6;  have hl : w.heap.size < w9.heap.size := hO.lt))
        all_goals
          go_wp2_with fail
          go_meet
          exact ⟨_, _, _, _, by first | exact (hKP.put 5 _).put 6 _ | exact ((hKP.put 5 _).put 6 _).drew | exact ((hKP.put 5 _).put 6 _).drewN | exact (hKP.drew.put 5 _).put 6 _ | exact (hKP.drewN.put 5 _).put 6 _⟩
      case rest =>
        obtain ⟨a5, c5, a6, c6, hS⟩ := hcut
        have HS3 := hidO hS
        clear hS
        go_upto_region 4 with fail
        go_cut [] from 27 to 30 (fun wx => ∃ a7 c7, CS w [.int .i64 k, .slice a1 en c1, .slice a2 nn c2, .slice a3 cn c3, .slice a4 rn c4, .slice a5 kn c5, .slice a6 on c6, .int .i64 wk, .int .i64 ws, .int .i64 wt, .slice a7 gn c7, .bool ou] wx)
        case first =>
          have hS := HS3.out
          have k10 : wc.cell? ⟨w.heap.size, 10, none⟩ = some (.slice ga gn gc) := hS.1.cell 10 (by decide)
          have hl : w.heap.size < wc.heap.size := hS.1.lt
          clear hS
          go_wp2_with fail
          refine (HG.out _ _ HS3.out).mono ?_
          rintro e w4 ⟨⟨a7, c7, rfl⟩, hS4⟩
          have HS4 := hidO (hS4.put 10 (.slice a7 gn c7))
          have s10 : w4.frozen? ⟨w.heap.size, 10, none⟩ = false := hS4.1.soft 10
          have k10b : w4.cell? ⟨w.heap.size, 10, none⟩ = some (.slice ga gn gc) := hS4.1.cell 10 (by decide)
          have hl4 : w.heap.size < w4.heap.size := hS4.1.lt
          clear hS4 k10 hl
          go_wp2_with fail
          go_meet
          exact ⟨a7, c7, HS4.out⟩
        case rest =>
          obtain ⟨a7, c7, hS4⟩ := hcut
          have q0 : wc.cell? ⟨w.heap.size, 0, none⟩ = some (.int .i64 k) := hS4.1.cell 0 (by decide)
          have y0 : wc.frozen? ⟨w.heap.size + 1, 0, none⟩ = false := hS4.2.1.soft 0
          have z0 : wc.cell? ⟨w.heap.size + 1, 0, none⟩ = some (.int .i64 0) := hS4.2.1.cell 0 (by decide)
          have q1 : wc.cell? ⟨w.heap.size, 1, none⟩ = some (.slice a1 en c1) := hS4.1.cell 1 (by decide)
          have y1 : wc.frozen? ⟨w.heap.size + 1, 1, none⟩ = false := hS4.2.1.soft 1
          have z1 : wc.cell? ⟨w.heap.size + 1, 1, none⟩ = some (.slice none 0 0) := hS4.2.1.cell 1 (by decide)
          have q2 : wc.cell? ⟨w.heap.size, 2, none⟩ = some (.slice a2 nn c2) := hS4.1.cell 2 (by decide)
          have y2 : wc.frozen? ⟨w.heap.size + 1, 2, none⟩ = false := hS4.2.1.soft 2
          have z2 : wc.cell? ⟨w.heap.size + 1, 2, none⟩ = some (.slice none 0 0) := hS4.2.1.cell 2 (by decide)
          have q3 : wc.cell? ⟨w.heap.size, 3, none⟩ = some (.slice a3 cn c3) := hS4.1.cell 3 (by decide)
          have y3 : wc.frozen? ⟨w.heap.size + 1, 3, none⟩ = false := hS4.2.1.soft 3
          have z3 : wc.cell? ⟨w.heap.size + 1, 3, none⟩ = some (.slice none 0 0) := hS4.2.1.cell 3 (by decide)
          have q4 : wc.cell? ⟨w.heap.size, 4, none⟩ = some (.slice a4 rn c4) := hS4.1.cell 4 (by decide)
          have y4 : wc.frozen? ⟨w.heap.size + 1, 4, none⟩ = false := hS4.2.1.soft 4
          have z4 : wc.cell? ⟨w.heap.size + 1, 4, none⟩ = some (.slice none 0 0) := hS4.2.1.cell 4 (by decide)
          have q5 : wc.cell? ⟨w.heap.size, 5, none⟩ = some (.slice a5 kn c5) := hS4.1.cell 5 (by decide)
          have y5 : wc.frozen? ⟨w.heap.size + 1, 5, none⟩ = false := hS4.2.1.soft 5
          have z5 : wc.cell? ⟨w.heap.size + 1, 5, none⟩ = some (.slice none 0 0) := hS4.2.1.cell 5 (by decide)
          have q6 : wc.cell? ⟨w.heap.size, 6, none⟩ = some (.slice a6 on c6) := hS4.1.cell 6 (by decide)
          have y6 : wc.frozen? ⟨w.heap.size + 1, 6, none⟩ = false := hS4.2.1.soft 6
          have z6 : wc.cell? ⟨w.heap.size + 1, 6, none⟩ = some (.slice none 0 0) := hS4.2.1.cell 6 (by decide)
          have q7 : wc.cell? ⟨w.heap.size, 7, none⟩ = some (.int .i64 wk) := hS4.1.cell 7 (by decide)
          have y7 : wc.frozen? ⟨w.heap.size + 1, 7, none⟩ = false := hS4.2.1.soft 7
          have z7 : wc.cell? ⟨w.heap.size + 1, 7, none⟩ = some (.int .i64 0) := hS4.2.1.cell 7 (by decide)
          have q8 : wc.cell? ⟨w.heap.size, 8, none⟩ = some (.int .i64 ws) := hS4.1.cell 8 (by decide)
          have y8 : wc.frozen? ⟨w.heap.size + 1, 8, none⟩ = false := hS4.2.1.soft 8
          have z8 : wc.cell? ⟨w.heap.size + 1, 8, none⟩ = some (.int .i64 0) := hS4.2.1.cell 8 (by decide)
          have q9 : wc.cell? ⟨w.heap.size, 9, none⟩ = some (.int .i64 wt) := hS4.1.cell 9 (by decide)
          have y9 : wc.frozen? ⟨w.heap.size + 1, 9, none⟩ = false := hS4.2.1.soft 9
          have z9 : wc.cell? ⟨w.heap.size + 1, 9, none⟩ = some (.int .i64 0) := hS4.2.1.cell 9 (by decide)
          have q10 : wc.cell? ⟨w.heap.size, 10, none⟩ = some (.slice a7 gn c7) := hS4.1.cell 10 (by decide)
          have y10 : wc.frozen? ⟨w.heap.size + 1, 10, none⟩ = false := hS4.2.1.soft 10
          have z10 : wc.cell? ⟨w.heap.size + 1, 10, none⟩ = some (.slice none 0 0) := hS4.2.1.cell 10 (by decide)
          have q11 : wc.cell? ⟨w.heap.size, 11, none⟩ = some (.bool ou) := hS4.1.cell 11 (by decide)
          have y11 : wc.frozen? ⟨w.heap.size + 1, 11, none⟩ = false := hS4.2.1.soft 11
          have z11 : wc.cell? ⟨w.heap.size + 1, 11, none⟩ = some (.bool false) := hS4.2.1.cell 11 (by decide)
          have hl4 : w.heap.size < wc.heap.size := hS4.1.lt
          have hl41 : w.heap.size + 1 < wc.heap.size := hS4.2.1.lt
          have HZ4 : Hid (Own wc (w.heap.size + 1) 29 12 zero12) := hS4.2.1
          have HB4 : Hid (Below w.heap.size w wc) := hS4.2.2
          clear hS4
          obtain ⟨W5, hW5⟩ : ∃ W5, W5 = ((((((((((((wc.setCell ⟨w.heap.size + 1, 0, none⟩ (.int .i64 k)).setCell ⟨w.heap.size + 1, 1, none⟩ (.slice a1 en c1)).setCell ⟨w.heap.size + 1, 2, none⟩ (.slice a2 nn c2)).setCell ⟨w.heap.size + 1, 3, none⟩ (.slice a3 cn c3)).setCell ⟨w.heap.size + 1, 4, none⟩ (.slice a4 rn c4)).setCell ⟨w.heap.size + 1, 5, none⟩ (.slice a5 kn c5)).setCell ⟨w.heap.size + 1, 6, none⟩ (.slice a6 on c6)).setCell ⟨w.heap.size + 1, 7, none⟩ (.int .i64 wk)).setCell ⟨w.heap.size + 1, 8, none⟩ (.int .i64 ws)).setCell ⟨w.heap.size + 1, 9, none⟩ (.int .i64 wt)).setCell ⟨w.heap.size + 1, 10, none⟩ (.slice a7 gn c7)).setCell ⟨w.heap.size + 1, 11, none⟩ (.bool ou)) := ⟨_, rfl⟩
          have HO5 : Hid (Own W5 (w.heap.size + 1) 29 12 [.int .i64 k, .slice a1 en c1, .slice a2 nn c2, .slice a3 cn c3, .slice a4 rn c4, .slice a5 kn c5, .slice a6 on c6, .int .i64 wk, .int .i64 ws, .int .i64 wt, .slice a7 gn c7, .bool ou]) := by rw [hW5]; exact ((((((((((((HZ4.out.put 0 _).1.put 1 _).1.put 2 _).1.put 3 _).1.put 4 _).1.put 5 _).1.put 6 _).1.put 7 _).1.put 8 _).1.put 9 _).1.put 10 _).1.put 11 _).1
          have HB5 : Hid (Below w.heap.size w W5) := by rw [hW5]; exact (belSet (belSet (belSet (belSet (belSet (belSet (belSet (belSet (belSet (belSet (belSet (belSet HB4.out (Nat.le_succ _)) (Nat.le_succ _)) (Nat.le_succ _)) (Nat.le_succ _)) (Nat.le_succ _)) (Nat.le_succ _)) (Nat.le_succ _)) (Nat.le_succ _)) (Nat.le_succ _)) (Nat.le_succ _)) (Nat.le_succ _)) (Nat.le_succ _))
          have HW5 := hidO hW5
          clear hW5
          go_wp2_with fail
          rw [← HW5.out]
          clear HW5 HB4 HZ4 hl4 hl41 q0 y0 z0 q1 y1 z1 q2 y2 z2 q3 y3 z3 q4 y4 z4 q5 y5 z5 q6 y6 z6 q7 y7 z7 q8 y8 z8 q9 y9 z9 q10 y10 z10 q11 y11 z11
          have r0 : W5.cell? ⟨w.heap.size + 1, 0, none⟩ = some (.int .i64 k) := HO5.out.cell 0 (by decide)
          have r1 : W5.cell? ⟨w.heap.size + 1, 1, none⟩ = some (.slice a1 en c1) := HO5.out.cell 1 (by decide)
          have r2 : W5.cell? ⟨w.heap.size + 1, 2, none⟩ = some (.slice a2 nn c2) := HO5.out.cell 2 (by decide)
          have r3 : W5.cell? ⟨w.heap.size + 1, 3, none⟩ = some (.slice a3 cn c3) := HO5.out.cell 3 (by decide)
          have r4 : W5.cell? ⟨w.heap.size + 1, 4, none⟩ = some (.slice a4 rn c4) := HO5.out.cell 4 (by decide)
          have r5 : W5.cell? ⟨w.heap.size + 1, 5, none⟩ = some (.slice a5 kn c5) := HO5.out.cell 5 (by decide)
          have r6 : W5.cell? ⟨w.heap.size + 1, 6, none⟩ = some (.slice a6 on c6) := HO5.out.cell 6 (by decide)
          have r7 : W5.cell? ⟨w.heap.size + 1, 7, none⟩ = some (.int .i64 wk) := HO5.out.cell 7 (by decide)
          have r8 : W5.cell? ⟨w.heap.size + 1, 8, none⟩ = some (.int .i64 ws) := HO5.out.cell 8 (by decide)
          have r9 : W5.cell? ⟨w.heap.size + 1, 9, none⟩ = some (.int .i64 wt) := HO5.out.cell 9 (by decide)
          have r10 : W5.cell? ⟨w.heap.size + 1, 10, none⟩ = some (.slice a7 gn c7) := HO5.out.cell 10 (by decide)
          have r11 : W5.cell? ⟨w.heap.size + 1, 11, none⟩ = some (.bool ou) := HO5.out.cell 11 (by decide)
          have hl5 : w.heap.size + 1 < W5.heap.size := HO5.out.lt
          exact bodyPost_ret (v := .agg #[.int .i64 k, .slice a1 en c1, .slice a2 nn c2, .slice a3 cn c3, .slice a4 rn c4, .slice a5 kn c5, .slice a6 on c6, .int .i64 wk, .int .i64 ws, .int .i64 wt, .slice a7 gn c7, .bool ou]) (by simp [results, Tryz.results21, go_sem, r0, r1, r2, r3, r4, r5, r6, r7, r8, r9, r10, r11, hl5]; try rfl) rfl ⟨⟨⟨a1, c1, a2, c2, a3, c3, a4, c4, a5, c5, a6, c6, a7, c7⟩, rfl⟩, HB5.out⟩
end Go.Proofs.YtplaplhmjpfbjaaGreatDoor.Oo
