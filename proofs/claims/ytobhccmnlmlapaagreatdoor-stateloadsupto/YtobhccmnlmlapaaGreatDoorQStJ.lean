import Derived.Test.YtobhccmnlmlapaaGreatDoorQStH
import Derived.Test.YtobhccmnlmlapaaGreatDoorGp
import Derived.Test.YtobhccmnlmlapaaGreatDoorGf
namespace Go.Proofs.YtobhccmnlmlapaaGreatDoor
open Go.RowKit Go.Maps
attribute [local go_sem] fld0 fld1
set_option linter.unusedVariables false
set_option linter.unusedSimpArgs false
set_option maxRecDepth 100000

theorem bclone_any (a : Option Addr) (l : List UInt8) (c : Nat) (w : World) (h : Wr.Bytes w a l.length (Wr.lat l)) (hl : l.length ≤ 140737488355328) :
    Calls Tryz.prog 37 #[.slice a l.length c] w fun e w' => ∃ v', e = .returned v' ∧ Wr.OL w' w.heap.size v' l ∧ Below w.heap.size w w' := by
  cases a with
  | none =>
    have h0 : l = [] := by
      rcases Nat.eq_zero_or_pos l.length with h0 | h0
      · exact List.eq_nil_of_length_eq_zero h0
      · obtain ⟨b, o, e, _⟩ := h 0 h0; cases e
    subst h0
    refine (Tryz.bytes_Clone_nil _ c w).mono ?_
    rintro e w' ⟨rfl, rfl⟩
    exact ⟨_, rfl, World.ownsRow_nil _ _ _ _, Below.refl _ _⟩
  | some a =>
    refine (Tryz.bytes_Clone_at a l.length c (l.map fun x => (x.toNat : Int)) w (by simp) hl ?_).mono ?_
    · intro i hi
      obtain ⟨b, o, e, hc⟩ := h i hi
      cases e
      rw [WideShapes.add_plain, hc]
      simp [Wr.lat, hi]
    · rintro e w' ⟨v', rfl, h1, h2, h3⟩
      refine ⟨v', rfl, ?_, h3⟩
      unfold Wr.OL
      rw [List.map_map] at h1
      exact h1
/-- What is wrong with a cell. -/
def rngC (lo hi : Int) (vs : List V) (x : Wn) : Bool := ow lo hi vs && kp x
set_option maxHeartbeats 1000000 in
theorem put_range (vs : List V) (a : Option Addr) (c : Nat) (x : Wn) (dv : Value) (w : World) (B t mp : Nat) (lo hi : Int) (ss : List Sh) (h : PS w B t mp lo hi ss) (hl : VLies w a vs) (hg : GoodK vs) (hvl : vs.length ≤ 549755813888) (ht : Vl.Tab w) (hr : rngC lo hi vs x = false) :
    Calls Tryz.prog 11 #[.pointer (some ⟨t, 0, none⟩), .slice a vs.length c, vv x, dv] w fun e w' => e = .returned (Wr.errV 4) ∧ Below w.heap.size w w' := by
  have HB0 := hidMk (bel1 w (.cells #[.int .i64 x.f, .int .i64 x.t] 38))
  have h0 := h.later HB0.out
  have HO := hidMk (owns_any vs a c _ t lo hi h0.cells.1 h0.cells.2.1 (hl.later HB0.out) hg hvl (ht.later HB0.out))
  have HKp := hidMk (fun W => keepable_any x W)
  have HR := hidMk hr
  unfold rngC at HR
  unfold vv at HKp ⊢
  clear h h0 hl hg ht hr
  go_enter Tryz.func11, Tryz.ntmps11
  go_wp2_with fail
  refine HO.out.mono ?_
  rintro e w1 ⟨rfl, hb⟩
  have d0 : w1.cell? ⟨w.heap.size, 0, none⟩ = some (.int .i64 x.f) := cell_later hb (by simp)
  have d1 : w1.cell? ⟨w.heap.size, 1, none⟩ = some (.int .i64 x.t) := cell_later hb (by simp)
  have HB1 := hidMk (HB0.out.trans (hb.mono HB0.out.size))
  clear hb HB0
  cases hv : ow lo hi vs with
  | false =>
    go_wp2_with fail
    go_ret
    exact ⟨rfl, HB1.out⟩
  | true =>
    rw [hv, Bool.true_and] at HR
    go_wp2_with fail
    refine (HKp.out _).mono ?_
    rintro e w2 ⟨rfl, hb⟩
    have HB2 := hidMk (HB1.out.trans (hb.mono HB1.out.size))
    clear hb
    rw [HR.out]
    go_wp2_with fail
    go_ret
    exact ⟨rfl, HB2.out⟩
def PutPost (w : World) (B t mp : Nat) (lo hi : Int) (ss : List Sh) (vs : List V) (x : Wn) (d : List UInt8) (e : Ending) (w' : World) : Prop :=
  (67108864 < newW ss vs x d.length ∧ e = .returned (Wr.errV 5) ∧ Below w.heap.size w w') ∨
  (¬ 67108864 < newW ss vs x d.length ∧ e = .returned .nilIface ∧ PutFin w B t mp lo hi ss ⟨vs, x, d⟩ w')
theorem VLies.gs {S : Nat → Prop} {w w' : World} {a : Option Addr} {vs : List V} (h : VLies w a vs) (hg : Gs S w w') (hn : ∀ y, a = some y → 0 < vs.length → ¬ S y.block) : VLies w' a vs := fun i hi => by
  obtain ⟨b, off, e, h1, h2, h3⟩ := h i hi
  have := hn _ e (by omega)
  exact ⟨b, off, e, hg.cell h1 this, hg.cell h2 this, hg.cell h3 this⟩
theorem bytes_gs {S : Nat → Prop} {w w' : World} {a : Option Addr} {n : Nat} {f : Nat → UInt8} (h : Wr.Bytes w a n f) (hg : Gs S w w') (hn : ∀ y, a = some y → 0 < n → ¬ S y.block) : Wr.Bytes w' a n f := fun i hi => by
  obtain ⟨b, off, e, h1⟩ := h i hi
  have hb := hn _ e (by omega)
  exact ⟨b, off, e, hg.cell h1 hb⟩
/-- The store tells other numbers. -/
theorem PQ.told {w : World} {B t mp : Nat} {lo hi nc nw : Int} {ss : List Sh} (h : PQ w B t mp lo hi nc nw ss) (mc mw : Int) : PQ ((w.setCell ⟨t, 4, none⟩ (.int .i64 mw)).setCell ⟨t, 3, none⟩ (.int .i64 mc)) B t mp lo hi mc mw ss ∧ Gs (fun i => i = t) w ((w.setCell ⟨t, 4, none⟩ (.int .i64 mw)).setCell ⟨t, 3, none⟩ (.int .i64 mc)) := by
  have p1 := h.own.put 4 (.int .i64 mw)
  have p2 := p1.1.put 3 (.int .i64 mc)
  have g : Gs (fun i => i = t) w ((w.setCell ⟨t, 4, none⟩ (.int .i64 mw)).setCell ⟨t, 3, none⟩ (.int .i64 mc)) := Gs.one (grown_trans p1.2 p2.2) (fun k e => (Option.some.inj e).symm)
  refine ⟨⟨p2.1, g.map h.mpo (fun e => h.ne.1 e.symm), fun s hs => (h.sho s hs).kept g (fun e => (h.ne.2 s hs).1 e) fun i hi' e => h.fx i ⟨s, hs, hi'⟩ (.inl e), h.ge, h.ne, h.ds, h.fx, h.wl, h.rg⟩, g⟩
set_option maxHeartbeats 2000000 in
theorem put_fit (vs : List V) (a : Option Addr) (c : Nat) (x : Wn) (da : Option Addr) (d : List UInt8) (dn dc : Nat) (w : World) (B t mp : Nat) (lo hi : Int) (ss : List Sh) (h : PS w B t mp lo hi ss) (hl : VLies w a vs) (hg : GoodK vs) (hvl : vs.length ≤ 549755813888) (hx : Fits x) (ht : Vl.Tab w) (hdn : dn ≤ 1099511627776) (hr : rngC lo hi vs x = true) (hd : Wr.Bytes w da d.length (Wr.lat d)) (hdl : d.length = dn) (ha : ∀ y, a = some y → 0 < vs.length → y.block ≠ t ∧ y.block ≠ mp) (hda : ∀ y, da = some y → 0 < d.length → y.block ≠ t ∧ y.block ≠ mp) :
    Calls Tryz.prog 11 #[.pointer (some ⟨t, 0, none⟩), .slice a vs.length c, vv x, .slice da dn dc] w (PutPost w B t mp lo hi ss vs x d) := by
  have HB0 := hidMk (bel1 w (.cells #[.int .i64 x.f, .int .i64 x.t] 38))
  have h0 := h.later HB0.out
  have HO := hidMk (owns_any vs a c _ t lo hi h0.cells.1 h0.cells.2.1 (hl.later HB0.out) hg hvl (ht.later HB0.out))
  have HKp := hidMk (fun W => keepable_any x W)
  obtain ⟨hr1, hr2⟩ : ow lo hi vs = true ∧ kp x = true := by unfold rngC at hr; simpa using hr
  have hv : vk vs = true ∧ lo ≤ (grp vs : Int) ∧ (grp vs : Int) < hi := by unfold ow at hr1; simpa using hr1
  have HFd : Hid (∀ W, Below w.heap.size w W → Calls Tryz.prog 36 #[.pointer (some ⟨t, 0, none⟩), .slice a vs.length c, vv x] W fun e w' => e = .returned (.tuple #[dV (lookV ss vs x), .bool (lookV ss vs x).isSome]) ∧ Below W.heap.size W w') := fun W hb => find_any vs a c x W B t mp lo hi ss (h.later hb) (hl.later hb) hg hvl hx
  have HCl : Hid (∀ W, Below w.heap.size w W → W.cell? ⟨t, 3, none⟩ = some (.int .i64 ((ces ss).length : Int)) ∧ W.cell? ⟨t, 4, none⟩ = some (.int .i64 (wt (ces ss) : Int)) ∧ W.frozen? ⟨t, 3, none⟩ = false ∧ W.frozen? ⟨t, 4, none⟩ = false) := fun W hb => ⟨(h.later hb).cells.2.2.2.1, (h.later hb).cells.2.2.2.2, (h.later hb).own.soft 3, (h.later hb).own.soft 4⟩
  have HWg := hidMk (fun W n2 c2 h2 => weigh_any a vs.length c da n2 c2 W hvl h2)
  have HWa := hidMk (fun W aa n2 c2 h2 => weigh_any a vs.length c aa n2 c2 W hvl h2)
  have HDL := hidMk hdl
  have HP := hidMk h
  have HL := hidMk hl
  have HG := hidMk hg
  have HD := hidMk hd
  have HA := hidMk ha
  have HDA := hidMk hda
  have HX := hidMk hx
  have HV := hidMk hv.1
  have HGR := hidMk hv.2
  have hnew := new_eq h vs x d hv.1
  have HOW : Hid (∀ (W : World) (_ : True), Own W t 82 5 [.int .i64 lo, .int .i64 hi, .map (some mp), .int .i64 (newN ss vs x), .int .i64 (newW ss vs x dn)] → Own W t 82 5 [.int .i64 lo, .int .i64 hi, .map (some mp), .int .i64 ((putC (ces ss) ⟨vs, x, d⟩).length : Int), .int .i64 (wt (putC (ces ss) ⟨vs, x, d⟩) : Int)]) := fun W _ ho => by rw [← hnew.1, ← hnew.2, hdl]; exact ho
  have HWL : Hid (¬ 67108864 < newW ss vs x dn → wt (putC (ces ss) ⟨vs, x, d⟩) ≤ 67108864) := fun hh => by rw [← hdl, hnew.1] at hh; omega
  have hwl := h.wl
  have hcl := wt_len (ces ss)
  unfold vv at HKp HFd ⊢
  clear h h0 hl hg ht hr hd ha hda hv hnew
  go_enter Tryz.func11, Tryz.ntmps11
  go_wp2_with fail
  refine HO.out.mono ?_
  rintro e w1 ⟨rfl, hb⟩
  have d0 : w1.cell? ⟨w.heap.size, 0, none⟩ = some (.int .i64 x.f) := cell_later hb (by simp)
  have d1 : w1.cell? ⟨w.heap.size, 1, none⟩ = some (.int .i64 x.t) := cell_later hb (by simp)
  have HB1 := hidMk (HB0.out.trans (hb.mono HB0.out.size))
  clear hb HB0
  rw [hr1]
  go_wp2_with fail
  refine (HKp.out _).mono ?_
  rintro e w2 ⟨rfl, hb⟩
  have HB2 := hidMk (HB1.out.trans (hb.mono HB1.out.size))
  replace d0 := cell_later hb d0
  replace d1 := cell_later hb d1
  clear hb
  rw [hr2]
  obtain ⟨c3, c4, f3, f4⟩ := HCl.out _ HB2.out
  go_wp2_with fail
  go_quiet ((go_at_call 35; refine Calls.quiet_of_same (HWg.out _ dn dc hdn)))
  go_wp2_with fail
  refine (HFd.out _ (below_drewN HB2.out nq)).mono ?_
  rintro e w3 ⟨rfl, hb⟩
  have HB3 := hidMk ((below_drewN HB2.out nq).trans (hb.mono HB2.out.size))
  replace d0 := cell_later hb (show (w2.drewN nq).cell? _ = _ from d0)
  replace d1 := cell_later hb (show (w2.drewN nq).cell? _ = _ from d1)
  clear hb c3 c4 f3 f4
  have HT3 : Hid (∀ n m (w3' : World), Below w.heap.size w w3' → w3'.cell? ⟨w.heap.size, 0, none⟩ = some (.int .i64 x.f) → w3'.cell? ⟨w.heap.size, 1, none⟩ = some (.int .i64 x.t) → n = newW ss vs x dn → m = newN ss vs x → PQ ((w3'.setCell ⟨t, 4, none⟩ (.int .i64 n)).setCell ⟨t, 3, none⟩ (.int .i64 m)) B t mp lo hi (newN ss vs x) (newW ss vs x dn) ss ∧ Gs (fun i => i = t) w ((w3'.setCell ⟨t, 4, none⟩ (.int .i64 n)).setCell ⟨t, 3, none⟩ (.int .i64 m)) ∧ ((w3'.setCell ⟨t, 4, none⟩ (.int .i64 n)).setCell ⟨t, 3, none⟩ (.int .i64 m)).drew.cell? ⟨w.heap.size, 0, none⟩ = some (.int .i64 x.f) ∧ ((w3'.setCell ⟨t, 4, none⟩ (.int .i64 n)).setCell ⟨t, 3, none⟩ (.int .i64 m)).drew.cell? ⟨w.heap.size, 1, none⟩ = some (.int .i64 x.t)) := fun n m w3' hb3 u0 u1 hn hm => by
    subst hn hm
    obtain ⟨q1, q2⟩ := (HP.out.later hb3).told (newN ss vs x) (newW ss vs x dn)
    have lt0 := (HP.out.lt (.inl (.inl rfl))).2
    exact ⟨q1, (Gs.below hb3).trans q2, q2.cell u0 (fun e => by have e' : w.heap.size = t := e; omega), q2.cell u1 (fun e => by have e' : w.heap.size = t := e; omega)⟩
  cases hlk : lookV ss vs x with
  | none =>
    have hNW : (wt (ces ss) : Int) + ((dn : Int) + 64 * (vs.length : Int) + 32) = newW ss vs x dn := by unfold newW; rw [hlk]; simp
    have hNN : ((ces ss).length : Int) + 1 = newN ss vs x := by unfold newN; rw [hlk]; simp
    simp only [dV, Option.isSome_none]
    obtain ⟨c3, c4, f3, f4⟩ := HCl.out _ HB3.out
    by_cases hw : 67108864 < newW ss vs x dn
    · have hw2 : (67108864 : Int) < (wt (ces ss) : Int) + ((dn : Int) + 64 * (vs.length : Int) + 32) := by omega
      go_wp2_with fail
      go_ret
      exact .inl ⟨by rw [HDL.out]; exact hw, rfl, HB3.out⟩
    · have hw2 : ¬ (67108864 : Int) < (wt (ces ss) : Int) + ((dn : Int) + 64 * (vs.length : Int) + 32) := by omega
      have HT := hidMk (fun n m => HT3.out n m w3 HB3.out d0 d1)
      go_wp2_with fail
      cases hso : shOf ss vs with
      | none =>
        obtain ⟨hQ5, hG5, e0, e1⟩ := HT.out _ _ rfl rfl
        generalize ((w3.setCell ⟨t, 4, none⟩ (Value.int .i64 (newW ss vs x dn))).setCell ⟨t, 3, none⟩ (Value.int .i64 (newN ss vs x))) = W5 at *
        have b5 : Below W5.heap.size W5 W5.drew := below_drewN (Below.refl _ _) 1
        have HSF := hidMk (shelfFor_new vs a c W5.drew B t mp lo hi ss (hQ5.later b5) ((HL.out.gs hG5 (fun y hy hp e => (HA.out y hy hp).1 e)).later b5) HG.out HV.out hso)
        have HFin : Hid (∀ w6 ka kc mb, OV w6 W5.drew.heap.size (.slice ka vs.length kc) vs → MP w6 wk mb [] → MP w6 sk mp (ss.map entS ++ [(nameOf vs, .agg #[.slice ka vs.length kc, .map (some mb)])]) → Gs (fun i => i = mp) W5.drew w6 → W5.drew.heap.size ≤ mb → some mb ≠ (Value.slice ka vs.length kc).ownBlock → w6.cell? ⟨w.heap.size, 0, none⟩ = some (.int .i64 x.f) ∧ w6.cell? ⟨w.heap.size, 1, none⟩ = some (.int .i64 x.t) ∧ Calls Tryz.prog 37 #[.slice da dn dc] w6 fun e w7 => ∃ v', e = .returned v' ∧ ∃ w8, w7.cell? ⟨w.heap.size, 0, none⟩ = some (.int .i64 x.f) ∧ w7.cell? ⟨w.heap.size, 1, none⟩ = some (.int .i64 x.t) ∧ (Instr.mapUpdate 85 (.map (some mb)) (.agg #[.int .i64 x.f, .int .i64 x.t]) v').run Tryz.prog w7 = .ok () w8 ∧ w8.cell? ⟨w.heap.size, 0, none⟩ = some (.int .i64 x.f) ∧ w8.cell? ⟨w.heap.size, 1, none⟩ = some (.int .i64 x.t) ∧ PutFin w B t mp lo hi ss ⟨vs, x, d⟩ w8) := fun w6 ka kc mb h1 h2 h3 h4 h5 h6 => by
          have lm := (HP.out.lt (.inl (.inr (.inl rfl)))).2
          have hw5 : w.heap.size ≤ W5.heap.size := hG5.size
          have g6 : Gs (fun i => i = mp) W5 w6 := (Gs.below b5).trans h4
          have f0 := h4.cell e0 (fun e => by have e' : w.heap.size = mp := e; omega)
          have f1 := h4.cell e1 (fun e => by have e' : w.heap.size = mp := e; omega)
          refine ⟨f0, f1, ?_⟩
          have hcl := bclone_any da d dc w6 (bytes_gs (bytes_gs HD.out hG5 (fun y hy hp e => (HDA.out y hy hp).1 e)) g6 (fun y hy hp e => (HDA.out y hy hp).2 e)) (by rw [HDL.out]; omega)
          rw [HDL.out] at hcl
          refine hcl.mono ?_
          rintro e w7 ⟨v', rfl, hol, hb7⟩
          have h5' : W5.heap.size ≤ mb := h5
          obtain ⟨w8, q1, q2, q3⟩ := fin_new (x := x) (v' := v') (d := d) HP.out hso HV.out HG.out HGR.out.1 HGR.out.2 HX.out hr2 hG5 (HOW.out _ trivial hQ5.own) g6 (h1.base hw5) h2 (by omega) h6 h3 hb7 hol (HWL.out hw)
          have g0 := cell_later hb7 f0
          have g1 := cell_later hb7 f1
          have hlw := World.block_lt_of_cell? _ _ e0
          simp only at hlw
          exact ⟨v', rfl, w8, g0, g1, q1, q2.cell g0 (by simp; omega), q2.cell g1 (by simp; omega), q3⟩
        clear hQ5 hG5 HT
        go_region_held3 (fun W => W.cell? ⟨w.heap.size, 0, none⟩ = some (.int .i64 x.f) ∧ W.cell? ⟨w.heap.size, 1, none⟩ = some (.int .i64 x.t))
          (first | exact ⟨e0, e1⟩ | exact ⟨f0, f1⟩ | exact ⟨g0, g1⟩ | exact ⟨i0, i1⟩ | go_keep)
          (first
            | (go_at_call 38; refine HSF.out.mono ?_; rintro e w6 ⟨ka, kc, mb, rfl, n1, n2, n3, n4, n5, n6⟩; obtain ⟨f0, f1, hcl⟩ := HFin.out w6 ka kc mb n1 n2 n3 n4 n5 n6; have HCL := hidMk hcl; clear n1 n2 n3 n4 n5 n6 hcl)
            | (go_at_call 37; refine HCL.out.mono ?_; rintro e w7 ⟨v', rfl, w8, g0, g1, hr8, i0, i1, hfin⟩; have HFI := hidMk hfin; clear hfin))
        all_goals
          go_wp2_with fail
          go_ret
          exact .inr ⟨by rw [HDL.out]; omega, rfl, HFI.out⟩
      | some s0 =>
        obtain ⟨hs0, hk0⟩ := shOf_some hso
        obtain ⟨ka, kc, hkv, -⟩ := (HP.out.sho s0 hs0).key.form
        generalize hrn : s0.key.length = rn at hkv
        obtain ⟨hQ5, hG5, e0, e1⟩ := HT.out _ _ rfl rfl
        generalize ((w3.setCell ⟨t, 4, none⟩ (Value.int .i64 (newW ss vs x dn))).setCell ⟨t, 3, none⟩ (Value.int .i64 (newN ss vs x))) = W5 at *
        have b5 : Below W5.heap.size W5 W5.drew := below_drewN (Below.refl _ _) 1
        have hSF := shelfFor_old vs a c W5.drew B t mp lo hi ss s0 (hQ5.later b5) ((HL.out.gs hG5 (fun y hy hp e => (HA.out y hy hp).1 e)).later b5) HG.out HV.out hso
        rw [hkv] at hSF
        have HSF := hidMk hSF
        have HFin : Hid (∀ w6, Below W5.drew.heap.size W5.drew w6 → w6.cell? ⟨w.heap.size, 0, none⟩ = some (.int .i64 x.f) ∧ w6.cell? ⟨w.heap.size, 1, none⟩ = some (.int .i64 x.t) ∧ Calls Tryz.prog 37 #[.slice da dn dc] w6 fun e w7 => ∃ v', e = .returned v' ∧ ∃ w8, w7.cell? ⟨w.heap.size, 0, none⟩ = some (.int .i64 x.f) ∧ w7.cell? ⟨w.heap.size, 1, none⟩ = some (.int .i64 x.t) ∧ (Instr.mapUpdate 85 (.map (some s0.mb)) (.agg #[.int .i64 x.f, .int .i64 x.t]) v').run Tryz.prog w7 = .ok () w8 ∧ w8.cell? ⟨w.heap.size, 0, none⟩ = some (.int .i64 x.f) ∧ w8.cell? ⟨w.heap.size, 1, none⟩ = some (.int .i64 x.t) ∧ PutFin w B t mp lo hi ss ⟨vs, x, d⟩ w8) := fun w6 hb6 => by
          have b6 : Below W5.heap.size W5 w6 := b5.trans (hb6.mono (Nat.le_refl _))
          have f0 := cell_later hb6 e0
          have f1 := cell_later hb6 e1
          refine ⟨f0, f1, ?_⟩
          have hcl := bclone_any da d dc w6 ((bytes_gs HD.out hG5 (fun y hy hp e => (HDA.out y hy hp).1 e)).later b6) (by rw [HDL.out]; omega)
          rw [HDL.out] at hcl
          refine hcl.mono ?_
          rintro e w7 ⟨v', rfl, hol, hb7⟩
          have b7 : Below W5.heap.size W5 w7 := b6.trans (hb7.mono b6.size)
          have hw5 : w.heap.size ≤ W5.heap.size := hG5.size
          obtain ⟨w8, q1, q2, q3⟩ := fin_old (x := x) (v' := v') (d := d) HP.out hs0 HX.out hr2 hG5 (by rw [hk0]; exact HOW.out _ trivial hQ5.own) b7 (by
            refine ⟨hol.1, ?_⟩
            rcases hol.2 with q | ⟨g, cap, cur, q1, q2, q3⟩
            · exact .inl q
            · exact .inr ⟨g, cap, cur, q1, Nat.le_trans (Nat.le_trans hw5 b6.size) q2, q3⟩) (by rw [hk0]; exact HWL.out hw)
          have lm := (HP.out.lt (.inl (.inr (.inr ⟨s0, hs0, rfl⟩)))).2
          have g0 := cell_later hb7 f0
          have g1 := cell_later hb7 f1
          refine ⟨v', rfl, w8, g0, g1, q1, q2.cell g0 (by simp; omega), q2.cell g1 (by simp; omega), ?_⟩
          rw [← hk0]; exact q3
        clear hQ5 hG5 hSF hkv hs0 hk0 hrn HT
        go_region_held3 (fun W => W.cell? ⟨w.heap.size, 0, none⟩ = some (.int .i64 x.f) ∧ W.cell? ⟨w.heap.size, 1, none⟩ = some (.int .i64 x.t))
          (first | exact ⟨e0, e1⟩ | exact ⟨f0, f1⟩ | exact ⟨g0, g1⟩ | exact ⟨i0, i1⟩ | go_keep)
          (first
            | (go_at_call 38; refine HSF.out.mono ?_; rintro e w6 ⟨rfl, hb6⟩; obtain ⟨f0, f1, hcl⟩ := HFin.out _ hb6; have HCL := hidMk hcl; clear hb6 hcl)
            | (go_at_call 37; refine HCL.out.mono ?_; rintro e w7 ⟨v', rfl, w8, g0, g1, hr8, i0, i1, hfin⟩; have HFI := hidMk hfin; clear hfin))
        all_goals
          go_wp2_with fail
          go_ret
          exact .inr ⟨by rw [HDL.out]; omega, rfl, HFI.out⟩
  | some y =>
    obtain ⟨ya, yc, hyv⟩ : ∃ ya yc, y.v = .slice ya y.d.length yc := by
      have hlk' : look ss vs x = some y := by have := hlk; unfold lookV at this; rw [if_pos HV.out] at this; exact this
      obtain ⟨s, hs, -, hy, -⟩ := look_some hlk'
      exact row_form ((HP.out.sho s hs).dat y hy).1
    have hyl : y.d.length ≤ 67108864 := by
      have hlk' : look ss vs x = some y := by have := hlk; unfold lookV at this; rw [if_pos HV.out] at this; exact this
      obtain ⟨s, hs, -, hy, -⟩ := look_some hlk'
      have hm : (⟨s.key, y.w, y.d⟩ : Ce) ∈ ces ss := mem_ces.2 ⟨s, hs, y, hy, rfl⟩
      obtain ⟨p, q, e⟩ := List.append_of_mem hm
      rw [e, wt_append, wt_cons] at hwl
      simp only [wg, wgh] at hwl
      omega
    have hNW : (wt (ces ss) : Int) + ((dn : Int) + 64 * (vs.length : Int) + 32) - ((y.d.length : Int) + 64 * (vs.length : Int) + 32) = newW ss vs x dn := by unfold newW; rw [hlk]; simp
    have hNN : ((ces ss).length : Int) + 1 - 1 = newN ss vs x := by unfold newN; rw [hlk]
    simp only [dV, Option.isSome_some, hyv]
    obtain ⟨c3, c4, f3, f4⟩ := HCl.out _ HB3.out
    go_wp2_with fail
    refine (HWa.out _ ya y.d.length yc (by omega)).mono ?_
    rintro e w4 ⟨rfl, hw4⟩
    rw [hw4]
    clear hw4 w4
    by_cases hw : 67108864 < newW ss vs x dn
    · go_wp2_with fail
      go_ret
      exact .inl ⟨by rw [HDL.out]; exact hw, rfl, HB3.out⟩
    · have hw2 : newW ss vs x dn ≤ 67108864 := by omega
      have HT := hidMk (fun n m => HT3.out n m w3 HB3.out d0 d1)
      go_wp2_with fail
      cases hso : shOf ss vs with
      | none =>
        exfalso
        unfold lookV look at hlk
        rw [if_pos HV.out, hso] at hlk
        cases hlk
      | some s0 =>
        obtain ⟨hs0, hk0⟩ := shOf_some hso
        obtain ⟨ka, kc, hkv, -⟩ := (HP.out.sho s0 hs0).key.form
        generalize hrn : s0.key.length = rn at hkv
        obtain ⟨hQ5, hG5, e0, e1⟩ := HT.out _ _ rfl rfl
        generalize ((w3.setCell ⟨t, 4, none⟩ (Value.int .i64 (newW ss vs x dn))).setCell ⟨t, 3, none⟩ (Value.int .i64 (newN ss vs x))) = W5 at *
        have b5 : Below W5.heap.size W5 W5.drew := below_drewN (Below.refl _ _) 1
        have hSF := shelfFor_old vs a c W5.drew B t mp lo hi ss s0 (hQ5.later b5) ((HL.out.gs hG5 (fun y hy hp e => (HA.out y hy hp).1 e)).later b5) HG.out HV.out hso
        rw [hkv] at hSF
        have HSF := hidMk hSF
        have HFin : Hid (∀ w6, Below W5.drew.heap.size W5.drew w6 → w6.cell? ⟨w.heap.size, 0, none⟩ = some (.int .i64 x.f) ∧ w6.cell? ⟨w.heap.size, 1, none⟩ = some (.int .i64 x.t) ∧ Calls Tryz.prog 37 #[.slice da dn dc] w6 fun e w7 => ∃ v', e = .returned v' ∧ ∃ w8, w7.cell? ⟨w.heap.size, 0, none⟩ = some (.int .i64 x.f) ∧ w7.cell? ⟨w.heap.size, 1, none⟩ = some (.int .i64 x.t) ∧ (Instr.mapUpdate 85 (.map (some s0.mb)) (.agg #[.int .i64 x.f, .int .i64 x.t]) v').run Tryz.prog w7 = .ok () w8 ∧ w8.cell? ⟨w.heap.size, 0, none⟩ = some (.int .i64 x.f) ∧ w8.cell? ⟨w.heap.size, 1, none⟩ = some (.int .i64 x.t) ∧ PutFin w B t mp lo hi ss ⟨vs, x, d⟩ w8) := fun w6 hb6 => by
          have b6 : Below W5.heap.size W5 w6 := b5.trans (hb6.mono (Nat.le_refl _))
          have f0 := cell_later hb6 e0
          have f1 := cell_later hb6 e1
          refine ⟨f0, f1, ?_⟩
          have hcl := bclone_any da d dc w6 ((bytes_gs HD.out hG5 (fun y hy hp e => (HDA.out y hy hp).1 e)).later b6) (by rw [HDL.out]; omega)
          rw [HDL.out] at hcl
          refine hcl.mono ?_
          rintro e w7 ⟨v', rfl, hol, hb7⟩
          have b7 : Below W5.heap.size W5 w7 := b6.trans (hb7.mono b6.size)
          have hw5 : w.heap.size ≤ W5.heap.size := hG5.size
          obtain ⟨w8, q1, q2, q3⟩ := fin_old (x := x) (v' := v') (d := d) HP.out hs0 HX.out hr2 hG5 (by rw [hk0]; exact HOW.out _ trivial hQ5.own) b7 (by
            refine ⟨hol.1, ?_⟩
            rcases hol.2 with q | ⟨g, cap, cur, q1, q2, q3⟩
            · exact .inl q
            · exact .inr ⟨g, cap, cur, q1, Nat.le_trans (Nat.le_trans hw5 b6.size) q2, q3⟩) (by rw [hk0]; exact HWL.out hw)
          have lm := (HP.out.lt (.inl (.inr (.inr ⟨s0, hs0, rfl⟩)))).2
          have g0 := cell_later hb7 f0
          have g1 := cell_later hb7 f1
          refine ⟨v', rfl, w8, g0, g1, q1, q2.cell g0 (by simp; omega), q2.cell g1 (by simp; omega), ?_⟩
          rw [← hk0]; exact q3
        clear hQ5 hG5 hSF hkv hs0 hk0 hrn HT
        go_region_held3 (fun W => W.cell? ⟨w.heap.size, 0, none⟩ = some (.int .i64 x.f) ∧ W.cell? ⟨w.heap.size, 1, none⟩ = some (.int .i64 x.t))
          (first | exact ⟨e0, e1⟩ | exact ⟨f0, f1⟩ | exact ⟨g0, g1⟩ | exact ⟨i0, i1⟩ | go_keep)
          (first
            | (go_at_call 38; refine HSF.out.mono ?_; rintro e w6 ⟨rfl, hb6⟩; obtain ⟨f0, f1, hcl⟩ := HFin.out _ hb6; have HCL := hidMk hcl; clear hb6 hcl)
            | (go_at_call 37; refine HCL.out.mono ?_; rintro e w7 ⟨v', rfl, w8, g0, g1, hr8, i0, i1, hfin⟩; have HFI := hidMk hfin; clear hfin))
        all_goals
          go_wp2_with fail
          go_ret
          exact .inr ⟨by rw [HDL.out]; omega, rfl, HFI.out⟩
end Go.Proofs.YtobhccmnlmlapaaGreatDoor
