import Derived.Test.YthdbfgnjeolfaaaDoorRfC
import Derived.Test.YthdbfgnjeolfaaaDoorRfE
namespace Go.Proofs.YthdbfgnjeolfaaaDoor
open Go.RowKit
set_option linter.unusedVariables false
set_option linter.unusedSimpArgs false
set_option maxRecDepth 100000
set_option maxHeartbeats 4000000

/-- Elements that can be read. -/
def EL (w : World) (a : Option Addr) (els : List El) : Prop := ∀ j e, els[j]? = some e → ∃ b, a = some ⟨b, 0, none⟩ ∧ w.cell? ⟨b, j * 5, none⟩ = some (.int .i64 e.k) ∧ w.cell? ⟨b, j * 5 + 1, none⟩ = some (.int .i64 e.q.r.t) ∧ w.cell? ⟨b, j * 5 + 2, none⟩ = some (.slice e.q.a e.q.r.vs.length e.q.c) ∧ w.cell? ⟨b, j * 5 + 3, none⟩ = some (.int .i64 e.t) ∧ w.cell? ⟨b, j * 5 + 4, none⟩ = some (.int .i64 0)
theorem EL.later {w w' : World} {a : Option Addr} {els : List El} (h : EL w a els) (hb : Below w.heap.size w w') : EL w' a els := fun j e he => by
  obtain ⟨b, e0, h1, h2, h3, h4, h5⟩ := h j e he
  exact ⟨b, e0, cell_later hb h1, cell_later hb h2, cell_later hb h3, cell_later hb h4, cell_later hb h5⟩
theorem EL.grown {w w' : World} {a : Option Addr} {els : List El} {r : Option Nat} (h : EL w a els) (hg : w.grownBy w' r) (hne : ∀ y, a = some y → some y.block ≠ r) : EL w' a els := fun j e he => by
  obtain ⟨b, e0, h1, h2, h3, h4, h5⟩ := h j e he
  have hn := hne _ e0
  exact ⟨b, e0, hg.cell h1 hn, hg.cell h2 hn, hg.cell h3 hn, hg.cell h4 hn, hg.cell h5 hn⟩
theorem OE.el {w : World} {B : Nat} {a : Option Addr} {n c : Nat} {els : List El} (h : OE w B (.slice a n c) els) : EL w a els := fun j e he => h.at he

/-- The values of a row of one's own, whatever they hold: so many. -/
def Wr (w : World) (B : Nat) (a : Option Addr) (n c : Nat) : Prop := ∃ vs : List V, vs.length = n ∧ OV w B (.slice a n c) vs
theorem OV.put {w : World} {B g n c : Nat} {vs : List V} (h : OV w B (.slice (some ⟨g, 0, none⟩) n c) vs) (hn : vs.length = n) (m : Nat) (hm : m < n) :
    ∃ vs' : List V, vs'.length = n ∧ OV (((w.setCell ⟨g, m * 3, none⟩ (.int .i64 99)).setCell ⟨g, m * 3 + 1, none⟩ (.int .i64 0)).setCell ⟨g, m * 3 + 2, none⟩ (.string ⟨#[]⟩)) B (.slice (some ⟨g, 0, none⟩) n c) vs' := by
  subst hn
  obtain ⟨h1, -⟩ := World.ownsRow.stored h (m * 3) (.int .i64 99)
  obtain ⟨h2, -⟩ := World.ownsRow.stored h1 (m * 3 + 1) (.int .i64 0)
  obtain ⟨h3, -⟩ := World.ownsRow.stored h2 (m * 3 + 2) (.string ⟨#[]⟩)
  refine ⟨vs.set m ⟨99, 0, ⟨#[]⟩⟩, by simp, ?_⟩
  unfold OV
  have e : (vs.set m ⟨99, 0, ⟨#[]⟩⟩).flatMap cellsV = (((vs.flatMap cellsV).set (m * 3) (.int .i64 99)).set (m * 3 + 1) (.int .i64 0)).set (m * 3 + 2) (.string ⟨#[]⟩) := by
    clear h h1 h2 h3
    induction vs generalizing m with
    | nil => simp at hm
    | cons p ps ih =>
      cases m with
      | zero => simp [cellsV]
      | succ m =>
        have := ih m (by simpa using hm)
        rw [List.set_cons_succ, List.flatMap_cons, List.flatMap_cons, this, show (m + 1) * 3 = m * 3 + 1 + 1 + 1 by omega]
        simp [cellsV]
  rw [e, List.length_set]
  exact h3

theorem VLies.nilV (w : World) (a : Option Addr) : VLies w a [] := fun i hi => absurd hi (by simp)
theorem flows_any (w : World) (B B2 : Nat) (a1 a2 : Option Addr) (c1 c2 : Nat) (els1 els2 : List El) (h1 : OE w B (.slice a1 els1.length c1) els1) (h2 : OE w B2 (.slice a2 els2.length c2) els2) (hB : B ≤ w.heap.size)
    (hlt : ∀ y, a1 = some y → y.block < B2) (hltv : ∀ e ∈ els1, ∀ y, e.q.a = some y → y.block < B2)
    (hout : els1.map outE = els2.map outE) (hlen : els1.length ≤ 2) (htail : ∀ j e, els1[j + 1]? = some e → e.q.r.vs = []) (hv8 : ∀ e ∈ els1, e.q.r.vs.length ≤ 8) :
    Calls Tryd.prog 11 #[.slice a1 els1.length c1, .slice a2 els2.length c2] w fun e w' => e = .returned (.bool true) ∧ Below B w w' := by
  have hl2 : els1.length = els2.length := by have := congrArg List.length hout; simpa using this
  have H1 := hidMk h1
  have H2 := hidMk h2
  have HOUT := hidMk hout
  have HTL := hidMk htail
  have HV8 := hidMk hv8
  have HLT := hidMk hlt
  have HLV := hidMk hltv
  have HL2 := hidMk hl2
  have E1 := hidMk h1.el
  have E2 := hidMk h2.el
  have HA2 : Hid (∀ y, a2 = some y → B2 ≤ y.block) := fun y hy => by
    rcases h2.own.2 with ⟨hh, -⟩ | ⟨g2, c3, cur2, hh, hh2, -⟩
    · simp only [Value.slice.injEq] at hh; rw [hh.1] at hy; cases hy
    · simp only [Value.slice.injEq] at hh; rw [hh.1] at hy; cases hy; exact hh2
  have hne : ((els1.length : Int) != (els2.length : Int)) = false := by simp; omega
  clear h1 h2 hout htail hv8 hlt hltv hl2
  go_enter Tryd.func11, Tryd.ntmps11
  go_wp2
  go_loopg [5] els1.length (fun gk i wr => ∃ (k : Nat), gk + k = els1.length ∧ i = .int .i64 k ∧ (k = 0 → wr = w) ∧ EL wr a1 els1 ∧ EL wr a2 els2 ∧ Below B w wr)
  case atStart => exact ⟨0, by omega, rfl, (fun _ => rfl), E1.out, E2.out, Below.refl _ _⟩
  case round =>
    clear E1 E2
    obtain ⟨k, hgk, rfl, hz, he1, he2, hb⟩ := hrel
    have HZ := hidMk hz
    have E1 := hidMk he1
    have E2 := hidMk he2
    have HB := hidMk hb
    have hsz := hb.size
    clear hz he1 he2 hb
    by_cases hk : k < els1.length
    · have hk' : (k : Int) < (els1.length : Int) := by omega
      have hk2 : (k : Int) < (els2.length : Int) := by have := HL2.out; omega
      obtain ⟨e1, he1⟩ : ∃ e, els1[k]? = some e := ⟨els1[k], by simp [hk]⟩
      obtain ⟨e2, he2⟩ : ∃ e, els2[k]? = some e := ⟨els2[k]'(by have := HL2.out; omega), by simp [show k < els2.length by have := HL2.out; omega]⟩
      have heq : outE e1 = outE e2 := by
        have := congrArg (fun l => l[k]?) HOUT.out
        simp only [List.getElem?_map, he1, he2, Option.map_some, Option.some.injEq] at this
        exact this
      obtain ⟨b1, ea1, x0, x1, x2, x3, x4⟩ := E1.out k e1 he1
      obtain ⟨b2, ea2, y0, y1, y2, y3, y4⟩ := E2.out k e2 he2
      subst ea1
      subst ea2
      unfold outE at heq
      simp only [Prod.mk.injEq] at heq
      obtain ⟨q1, q2, q3⟩ := heq
      have HM1 : Hid (e1 ∈ els1) := List.mem_of_getElem? he1
      have HM2 : Hid (e2 ∈ els2) := List.mem_of_getElem? he2
      have hv := HV8.out e1 HM1.out
      have HKT : Hid (k ≠ 0 → e1.q.r.vs = []) := fun hk0 => by
        obtain ⟨j, rfl⟩ : ∃ j, k = j + 1 := ⟨k - 1, by omega⟩
        exact HTL.out j e1 he1
      rw [← q1] at y0
      rw [← q2] at y1 y2
      rw [← q3] at y3
      have HQ2 := hidMk q2
      have HE1 := hidMk he1
      clear he1 he2 q1 q2 q3
      go_upto_region 7 with fail
      have hba := bel1 wr (.cells #[.int .i64 e1.k, .int .i64 e1.q.r.t, .slice e1.q.a e1.q.r.vs.length e1.q.c, .int .i64 e1.t, .int .i64 0] 62)
      have A0 : Hid (Own (wr.alloc (.cells #[.int .i64 e1.k, .int .i64 e1.q.r.t, .slice e1.q.a e1.q.r.vs.length e1.q.c, .int .i64 e1.t, .int .i64 0] 62)) wr.heap.size 62 5 [.int .i64 e1.k, .int .i64 e1.q.r.t, .slice e1.q.a e1.q.r.vs.length e1.q.c, .int .i64 e1.t, .int .i64 0]) := Own.new wr 62 5 #[.int .i64 e1.k, .int .i64 e1.q.r.t, .slice e1.q.a e1.q.r.vs.length e1.q.c, .int .i64 e1.t, .int .i64 0] rfl
      replace y0 := cell_later hba y0
      replace y1 := cell_later hba y1
      replace y2 := cell_later hba y2
      replace y3 := cell_later hba y3
      replace y4 := cell_later hba y4
      have HBA := hidMk hba
      have hsa : (wr.alloc (.cells #[.int .i64 e1.k, .int .i64 e1.q.r.t, .slice e1.q.a e1.q.r.vs.length e1.q.c, .int .i64 e1.t, .int .i64 0] 62)).heap.size = wr.heap.size + 1 := by simp
      clear x0 x1 x2 x3 x4 hba
      generalize wr.alloc (.cells #[.int .i64 e1.k, .int .i64 e1.q.r.t, .slice e1.q.a e1.q.r.vs.length e1.q.c, .int .i64 e1.t, .int .i64 0] 62) = wa at *
      go_upto_region 8 with fail
      have hbb := bel1 wa (.cells #[.int .i64 e1.k, .int .i64 e1.q.r.t, .slice e2.q.a e1.q.r.vs.length e2.q.c, .int .i64 e1.t, .int .i64 0] 62)
      have B0 : Hid (Own (wa.alloc (.cells #[.int .i64 e1.k, .int .i64 e1.q.r.t, .slice e2.q.a e1.q.r.vs.length e2.q.c, .int .i64 e1.t, .int .i64 0] 62)) wa.heap.size 62 5 [.int .i64 e1.k, .int .i64 e1.q.r.t, .slice e2.q.a e1.q.r.vs.length e2.q.c, .int .i64 e1.t, .int .i64 0]) := Own.new wa 62 5 #[.int .i64 e1.k, .int .i64 e1.q.r.t, .slice e2.q.a e1.q.r.vs.length e2.q.c, .int .i64 e1.t, .int .i64 0] rfl
      have A1 := hidMk (Own.later A0.out hbb)
      have HBB : Hid (Below wr.heap.size wr (wa.alloc (.cells #[.int .i64 e1.k, .int .i64 e1.q.r.t, .slice e2.q.a e1.q.r.vs.length e2.q.c, .int .i64 e1.t, .int .i64 0] 62))) := HBA.out.trans (hbb.mono (by omega))
      clear y0 y1 y2 y3 y4 hbb A0 HBA
      generalize wa.alloc (.cells #[.int .i64 e1.k, .int .i64 e1.q.r.t, .slice e2.q.a e1.q.r.vs.length e2.q.c, .int .i64 e1.t, .int .i64 0] 62) = wb at *
      have hB0 := B0.out
      rw [hsa] at hB0
      have B1 := hidMk hB0
      clear hB0 B0
      have m0 := Own.cell A1.out 0 (by decide)
      have m1 := Own.cell A1.out 1 (by decide)
      have m2 := Own.cell A1.out 2 (by decide)
      have m3 := Own.cell A1.out 3 (by decide)
      have m4 := Own.cell A1.out 4 (by decide)
      have n0 := Own.cell B1.out 0 (by decide)
      have n1 := Own.cell B1.out 1 (by decide)
      have n2 := Own.cell B1.out 2 (by decide)
      have n3 := Own.cell B1.out 3 (by decide)
      have n4 := Own.cell B1.out 4 (by decide)
      simp only [List.getElem?_cons_zero, List.getElem?_cons_succ] at m0 m1 m2 m3 m4 n0 n1 n2 n3 n4
      have HVA : Hid (VLies wb e1.q.a e1.q.r.vs ∧ VLies wb e2.q.a e1.q.r.vs) := by
        by_cases hk0 : k = 0
        · have hw := HZ.out hk0
          subst hw
          constructor
          · obtain ⟨a', c', ee, hV, -⟩ := (H1.out.vals e1 HM1.out).form
            cases ee
            exact hV.later HBB.out
          · obtain ⟨a', c', ee, hV, -⟩ := (H2.out.vals e2 HM2.out).form
            cases ee
            rw [HQ2.out]
            exact hV.later HBB.out
        · rw [HKT.out hk0]
          exact ⟨VLies.nilV _ _, VLies.nilV _ _⟩
      go_wp2_with fail
      refine (same_any e1.q.r.vs e1.q.a e1.q.c e2.q.a e2.q.c wb HVA.out.1 HVA.out.2 (by omega)).mono ?_
      rintro e w3 ⟨rfl, mm, hmm⟩
      have A3 : Hid (Own w3 wr.heap.size 62 5 [.int .i64 e1.k, .int .i64 e1.q.r.t, .slice e1.q.a e1.q.r.vs.length e1.q.c, .int .i64 e1.t, .int .i64 0]) := by unfold Hid; rw [hmm]; exact A1.out
      have B3 : Hid (Own w3 (wr.heap.size + 1) 62 5 [.int .i64 e1.k, .int .i64 e1.q.r.t, .slice e2.q.a e1.q.r.vs.length e2.q.c, .int .i64 e1.t, .int .i64 0]) := by unfold Hid; rw [hmm]; exact B1.out
      have HB3 : Hid (Below wr.heap.size wr w3) := by unfold Hid; rw [hmm]; exact below_drewN HBB.out mm
      clear hmm m0 m1 m2 m3 m4 n0 n1 n2 n3 n4 A1 B1 HVA HBB
      have m0 := Own.cell A3.out 0 (by decide)
      have m1 := Own.cell A3.out 1 (by decide)
      have m2 := Own.cell A3.out 2 (by decide)
      have m3 := Own.cell A3.out 3 (by decide)
      have m4 := Own.cell A3.out 4 (by decide)
      have n0 := Own.cell B3.out 0 (by decide)
      have n1 := Own.cell B3.out 1 (by decide)
      have n2 := Own.cell B3.out 2 (by decide)
      have n3 := Own.cell B3.out 3 (by decide)
      have n4 := Own.cell B3.out 4 (by decide)
      simp only [List.getElem?_cons_zero, List.getElem?_cons_succ] at m0 m1 m2 m3 m4 n0 n1 n2 n3 n4
      have hkk : (e1.k != e1.k) = false := by simp
      have htt : (e1.t != e1.t) = false := by simp
      have hrr : (e1.q.r.t != e1.q.r.t) = false := by simp
      have HBw3 : Hid (Below B w w3) := HB.out.trans (HB3.out.mono (by omega))
      have HW3 : Hid (0 < e1.q.r.vs.length → Wr w3 B e1.q.a e1.q.r.vs.length e1.q.c ∧ ∀ y, e1.q.a = some y → y.block < w.heap.size ∧ B ≤ y.block) := fun hp => by
        have hk0 : k = 0 := by
          by_cases h : k = 0
          · exact h
          · have := HKT.out h; rw [this] at hp; simp at hp
        have hw := HZ.out hk0
        subst hw
        have hov := H1.out.vals e1 HM1.out
        refine ⟨⟨_, rfl, hov.later HB3.out⟩, fun y hy => ?_⟩
        obtain ⟨a', c', ee, -, hh⟩ := hov.form
        cases ee
        exact ⟨(hh y hy).2, (hh y hy).1⟩
      have HAP : Hid (∀ y, e1.q.a = some y → y.block ≠ b1 ∧ y.block ≠ b2) := fun y hy => by
        have h1 := H1.out.apart e1 HM1.out y hy
        have h2 := HLV.out e1 HM1.out y hy
        have h3 := HA2.out _ rfl
        refine ⟨fun e => h1 (by simp [Value.ownBlock, e]), fun e => ?_⟩
        simp only at h3
        omega
      have E13 := hidMk (E1.out.later HB3.out)
      have E23 := hidMk (E2.out.later HB3.out)
      have HEK : Hid (els1[k]? = some e1) := HE1.out
      have hkb : w.heap.size ≤ wr.heap.size := hsz
      go_upto_region 11 with fail
      clear m0 m1 m2 m3 m4 n0 n1 n2 n3 n4 B3 HB3 E1 E2 HB HZ
      go_wp2
      go_loopg [9] e1.q.r.vs.length (fun gk i wx => ∃ (j : Nat), gk + j = e1.q.r.vs.length ∧ i = .int .i64 j ∧ EL wx (some ⟨b1, 0, none⟩) els1 ∧ EL wx (some ⟨b2, 0, none⟩) els2 ∧ Own wx wr.heap.size 62 5 [.int .i64 e1.k, .int .i64 e1.q.r.t, .slice e1.q.a e1.q.r.vs.length e1.q.c, .int .i64 e1.t, .int .i64 0] ∧ Below B w wx ∧ (0 < e1.q.r.vs.length → Wr wx B e1.q.a e1.q.r.vs.length e1.q.c))
      case atStart => exact ⟨0, by omega, rfl, E13.out, E23.out, A3.out, HBw3.out, fun hp => (HW3.out hp).1⟩
      case round =>
        obtain ⟨j, hgj, rfl, hx1, hx2, hA, hbx, hwr⟩ := hrel
        have X1 := hidMk hx1
        have X2 := hidMk hx2
        have AA := hidMk hA
        have HBX := hidMk hbx
        have m2 := Own.cell hA 2 (by decide)
        simp only [List.getElem?_cons_zero, List.getElem?_cons_succ] at m2
        by_cases hj : j < e1.q.r.vs.length
        · have hj' : (j : Int) < (e1.q.r.vs.length : Int) := by omega
          obtain ⟨vs', hvl, hov⟩ := hwr (by omega)
          obtain ⟨-, hwy⟩ := HW3.out (by omega)
          obtain ⟨yb, hya⟩ : ∃ yb, e1.q.a = some ⟨yb, 0, none⟩ := by
            rcases hov.2 with ⟨hh, hh2⟩ | ⟨g2, c3, cur2, hh, -⟩
            · omega
            · simp only [Value.slice.injEq] at hh; exact ⟨g2, hh.1⟩
          obtain ⟨hy1, hy2⟩ := hwy _ hya
          obtain ⟨hy3, hy4⟩ := HAP.out _ hya
          simp only at hy1 hy2 hy3 hy4
          rw [hya] at hov
          have HPUT := hidMk (OV.put hov hvl j hj)
          obtain ⟨a', c', ee, hVL, -⟩ := hov.form
          simp only [Value.slice.injEq] at ee
          obtain ⟨rfl, -, -⟩ := ee
          obtain ⟨bb, oo, ee, v0, v1, v2⟩ := hVL j (by omega)
          cases ee
          simp only [Nat.zero_add] at v0 v1 v2
          have hov2 : OV wr B (.slice (some ⟨yb, 0, none⟩) vs'.length e1.q.c) vs' := by rw [hvl]; exact hov
          have f0 := World.ownsRow.frozenAt hov2 (j * 3)
          have f1 := World.ownsRow.frozenAt hov2 (j * 3 + 1)
          have f2 := World.ownsRow.frozenAt hov2 (j * 3 + 2)
          obtain ⟨b', eb, -, -, z2, -, -⟩ := hx1 k e1 HEK.out
          cases eb
          rw [hya] at m2 z2
          have HYA := hidMk hya
          obtain ⟨vv, hvv⟩ : ∃ vv, vs'[j]'(by omega) = vv := ⟨_, rfl⟩
          rw [hvv] at v0 v1 v2
          clear hvv
          clear hx1 hx2 hA hbx hwr hov hov2 hVL hwy hya hvl
          have HGR : Hid (wr.grownBy (((wr.setCell ⟨yb, j * 3, none⟩ (.int .i64 99)).setCell ⟨yb, j * 3 + 1, none⟩ (.int .i64 0)).setCell ⟨yb, j * 3 + 2, none⟩ (.string ⟨#[]⟩)) (some yb)) := grown_trans (grown_trans (grown_set wr ⟨yb, j * 3, none⟩ _) (grown_set _ ⟨yb, j * 3 + 1, none⟩ _)) (grown_set _ ⟨yb, j * 3 + 2, none⟩ _)
          go_wp2_with fail
          go_roundg (gk - 1)
          case measure => omega
          case rel => exact ⟨j + 1, by omega, by go_num, X1.out.grown HGR.out (fun y hy => by cases hy; intro e; cases e; exact hy3 rfl), X2.out.grown HGR.out (fun y hy => by cases hy; intro e; cases e; exact hy4 rfl), Own.grown AA.out HGR.out (fun e => by cases e; omega), ((HBX.out.setCell (p := ⟨yb, j * 3, none⟩) hy2 _).setCell (p := ⟨yb, j * 3 + 1, none⟩) hy2 _).setCell (p := ⟨yb, j * 3 + 2, none⟩) hy2 _, fun _ => by rw [HYA.out]; exact HPUT.out⟩
        · have hj' : ¬ (j : Int) < (e1.q.r.vs.length : Int) := by omega
          clear hx1 hx2 hA hbx hwr
          go_wp2
          go_roundg (els1.length - (k + 1))
          case measure => omega
          case rel => exact ⟨k + 1, by omega, by go_num, (fun h => by omega), X1.out, X2.out, HBX.out⟩
    · have hk' : ¬ (k : Int) < (els1.length : Int) := by omega
      go_wp2
      go_ret
      exact ⟨rfl, HB.out⟩
end Go.Proofs.YthdbfgnjeolfaaaDoor
