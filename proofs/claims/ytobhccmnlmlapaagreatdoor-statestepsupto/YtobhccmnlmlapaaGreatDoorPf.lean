import Derived.Test.YtobhccmnlmlapaaGreatDoorPd
import Derived.Test.YtobhccmnlmlapaaGreatDoorQHdA
namespace Go.Proofs.YtobhccmnlmlapaaGreatDoor
open Go.RowKit Go.Maps
set_option linter.unusedVariables false
set_option linter.unusedSimpArgs false
set_option maxRecDepth 100000
attribute [local go_sem ↓] eqlW neqW
attribute [local go_sem] guardW

set_option maxHeartbeats 8000000 in
theorem step_0 (w0 W : World) (t mp s : Nat) (lo hi : Int) (ss : List Sh) (u : Value) (qs : List Cx) (o : Ox) (h : SI w0 W t mp s lo hi ss u qs) (ho : OEnt W w0.heap.size o) (ht : ∀ V, Below w0.heap.size w0 V → Vl.Tab V ∧ Wr.Quart V ∧ Wr.Ety V) :
    Calls Tryz.prog 8 #[.pointer (some ⟨t, 0, none⟩), .pointer (some ⟨s, 0, none⟩), .agg #[.int .i64 0, .slice o.ka o.key.length o.kc, .int .i64 o.wn.f, .int .i64 o.wn.t, .slice o.da o.d.length o.dc, .int .i64 o.tm]] W (StepPost w0 s lo hi) := by
  obtain ⟨iv, hv0, hv1, hv2, hv3⟩ := info_parts info26
  obtain ⟨ib, hb0, hb1', hb2', hb3'⟩ := info_parts Wr.info5
  have hkl := ho.kl
  have hdl := ho.dl
  have HS := hidMk h
  have HO := hidMk ho
  have HT := hidMk ht
  have hmk1 : ∀ V : World, (Instr.makeSlice 36 (.int .i64 (o.key.length : Int)) (.int .i64 (o.key.length : Int))).run Tryz.prog V = .ok (.slice (some ⟨V.heap.size, 0, none⟩) o.key.length o.key.length) (V.alloc (.cells (madeCells #[.int .i64 0, .int .i64 0, .string ⟨#[]⟩] (o.key.length * 3)) 48)) := fun V => by
    have q := run_make (P := Tryz.prog) V 36 48 iv (.agg #[.int .i64 0, .int .i64 0, .string ⟨#[]⟩]) Tryz.underlying36 hv0 hv1 .i64 .i64 (o.key.length : Int) (o.key.length : Int) (by omega) (by omega) (by rw [hv3]; omega) (by omega)
    rw [q, hv2, Int.toNat_natCast]
    rfl
  have hmk2 : ∀ V : World, (Instr.makeSlice 39 (.int .i64 (o.d.length : Int)) (.int .i64 (o.d.length : Int))).run Tryz.prog V = .ok (.slice (some ⟨V.heap.size, 0, none⟩) o.d.length o.d.length) (V.alloc (.cells (madeCells #[.int .u8 0] o.d.length) 5)) := fun V => by
    have q := run_make (P := Tryz.prog) V 39 5 ib (.int .u8 0) Tryz.underlying39 hb0 hb1' .i64 .i64 (o.d.length : Int) (o.d.length : Int) (by omega) (by omega) (by rw [hb3']; omega) (by omega)
    rw [q, hb2', Int.toNat_natCast, Nat.mul_one]
    rfl
  have HM1 := hidMk (made_len #[.int .i64 0, .int .i64 0, .string ⟨#[]⟩] (o.key.length * 3) (by decide))
  have HM2 := hidMk (made_len #[.int .u8 0] o.d.length (by decide))
  generalize madeCells #[.int .i64 0, .int .i64 0, .string ⟨#[]⟩] (o.key.length * 3) = mc1 at *
  generalize madeCells #[.int .u8 0] o.d.length = mc2 at *
  have HBX := hidMk (bel1 W (.cells #[.int .i64 0, .slice o.ka o.key.length o.kc, .int .i64 o.wn.f, .int .i64 o.wn.t, .slice o.da o.d.length o.dc, .int .i64 o.tm] 41))
  have HOX := hidMk (Own.new W 41 6 #[.int .i64 0, .slice o.ka o.key.length o.kc, .int .i64 o.wn.f, .int .i64 o.wn.t, .slice o.da o.d.length o.dc, .int .i64 o.tm] rfl)
  have HG1 : Hid (((W.alloc (.cells #[.int .i64 0, .slice o.ka o.key.length o.kc, .int .i64 o.wn.f, .int .i64 o.wn.t, .slice o.da o.d.length o.dc, .int .i64 o.tm] 41)).alloc (.cells mc1 48)).heap[W.heap.size + 1]? = some (.cells mc1.toList.toArray 48 (0, 0))) := by
    have q := heap_alloc_new (W.alloc (.cells #[.int .i64 0, .slice o.ka o.key.length o.kc, .int .i64 o.wn.f, .int .i64 o.wn.t, .slice o.da o.d.length o.dc, .int .i64 o.tm] 41)) (.cells mc1 48)
    rw [show (W.alloc (.cells #[.int .i64 0, .slice o.ka o.key.length o.kc, .int .i64 o.wn.f, .int .i64 o.wn.t, .slice o.da o.d.length o.dc, .int .i64 o.tm] 41)).heap.size = W.heap.size + 1 by simp] at q
    rw [Hid, show mc1.toList.toArray = mc1 by simp]
    exact q
  have HB1 : Hid (Below W.heap.size W ((W.alloc (.cells #[.int .i64 0, .slice o.ka o.key.length o.kc, .int .i64 o.wn.f, .int .i64 o.wn.t, .slice o.da o.d.length o.dc, .int .i64 o.tm] 41)).alloc (.cells mc1 48))) := HBX.out.alloc HBX.out.size _
  have HX1 : Hid (Own ((W.alloc (.cells #[.int .i64 0, .slice o.ka o.key.length o.kc, .int .i64 o.wn.f, .int .i64 o.wn.t, .slice o.da o.d.length o.dc, .int .i64 o.tm] 41)).alloc (.cells mc1 48)) W.heap.size 41 6 #[.int .i64 0, .slice o.ka o.key.length o.kc, .int .i64 o.wn.f, .int .i64 o.wn.t, .slice o.da o.d.length o.dc, .int .i64 o.tm].toList) := HOX.out.later (bel1 _ _)
  have hs1 : ((W.alloc (.cells #[.int .i64 0, .slice o.ka o.key.length o.kc, .int .i64 o.wn.f, .int .i64 o.wn.t, .slice o.da o.d.length o.dc, .int .i64 o.tm] 41)).alloc (.cells mc1 48)).heap.size = W.heap.size + 2 := by simp
  clear h ho ht
  go_enter Tryz.func8, Tryz.ntmps8
  go_upto_region 2 with fail
  generalize ((W.alloc (.cells #[.int .i64 0, .slice o.ka o.key.length o.kc, .int .i64 o.wn.f, .int .i64 o.wn.t, .slice o.da o.d.length o.dc, .int .i64 o.tm] 41)).alloc (.cells mc1 48)) = W1 at *
  have x1 : W1.cell? ⟨W.heap.size, 1, none⟩ = some (.slice o.ka o.key.length o.kc) := HX1.out.cell 1 (by decide)
  obtain ⟨KC, hKC⟩ : ∃ KC, o.key.flatMap cellsV = KC := ⟨_, rfl⟩
  obtain ⟨DC', hDC⟩ : ∃ D, o.d.map Wr.u8v = D := ⟨_, rfl⟩
  have HKC := hidMk hKC
  have HDC := hidMk hDC
  have HKL : Hid (KC.length = o.key.length * 3) := by rw [Hid, ← hKC]; exact len_cellsV _
  have HDL : Hid (DC'.length = o.d.length) := by rw [Hid, ← hDC]; simp
  have HK1 : Hid (∀ v ∈ KC, v.oneCell' = true) := by rw [Hid, ← hKC]; exact one_flatV _
  have HD1 : Hid (∀ v ∈ DC', v.oneCell' = true) := by rw [Hid, ← hDC]; intro v hv; obtain ⟨q, -, rfl⟩ := List.mem_map.1 hv; rfl
  have HKS : Hid (∀ V, Below W.heap.size W V → 0 < KC.length → ∃ y, o.ka = some y ∧ ∀ j v, KC[j]? = some v → V.cell? (y.add j) = some v) := fun V hV => by rw [← hKC]; exact src_hs (src_V (HO.out.key.later hV))
  have HDS : Hid (∀ V, Below W.heap.size W V → 0 < DC'.length → ∃ y, o.da = some y ∧ ∀ j v, DC'[j]? = some v → V.cell? (y.add j) = some v) := fun V hV => by rw [← hDC]; exact src_hs (src_B (HO.out.dat.later hV))
  clear hKC hDC
  go_wp2_with (first
    | (refine wpList_copy_k rfl _ _ 36 36 rfl 48 3 Tryz.underlying36 size26 (W.heap.size + 1) o.key.length o.key.length o.ka o.key.length o.kc rfl rfl _ 48 HG1.out KC ?c0 (by decide) ?c1 ?c2 ?c3 (W.heap.size + 1) W1 (Below.refl _ _) (Nat.le_refl _) ?_))
  case c0 => first | exact HKL.out | (have q := HKL.out; simpa using q)
  case c1 => exact HKS.out _ HB1.out
  case c2 => have q := HM1.out; have q2 := HKL.out; simp at q ⊢; omega
  case c3 => exact HK1.out
  intro w1 HGK hb1
  have HGK1 : Hid (w1.heap[W.heap.size + 1]? = some (.cells KC.toArray 48 (0, 0))) := by
    have q := HGK.out
    rw [List.drop_eq_nil_of_le (by have q1 := HM1.out; have q2 := HKL.out; omega), List.append_nil] at q
    exact q
  have HB2 := hidMk (HB1.out.trans (hb1.mono (by omega)))
  have HX2 := hidMk ((Gs.under hb1).own HX1.out (fun g e => by have e' : W.heap.size = g := Option.some.inj e; omega))
  have hs2 := hb1.size
  have x3 : w1.cell? ⟨W.heap.size, 4, none⟩ = some (.slice o.da o.d.length o.dc) := (show Own w1 W.heap.size _ _ _ from HX2.out).cell 4 (by decide)
  have HG2 : Hid ((w1.alloc (.cells mc2 5)).heap[w1.heap.size]? = some (.cells mc2.toList.toArray 5 (0, 0))) := by
    rw [Hid, show mc2.toList.toArray = mc2 by simp]
    exact heap_alloc_new w1 (.cells mc2 5)
  have HB3 := hidMk (HB2.out.alloc HB2.out.size (.cells mc2 5))
  have HX3 := hidMk (Own.later (show Own w1 W.heap.size _ _ _ from HX2.out) (bel1 w1 (.cells mc2 5)))
  have HGK2 : Hid ((w1.alloc (.cells mc2 5)).heap[W.heap.size + 1]? = some (.cells KC.toArray 48 (0, 0))) := by
    rw [Hid, (bel1 w1 (.cells mc2 5)).block (W.heap.size + 1) (by omega)]; exact HGK1.out
  have x4 : (w1.alloc (.cells mc2 5)).cell? ⟨W.heap.size, 4, none⟩ = some (.slice o.da o.d.length o.dc) := HX3.out.cell 4 (by decide)
  clear HGK HX1 HB1 HG1 hb1 HGK1 x1
  go_upto_region 4 with fail
  generalize hW3 : w1.alloc (.cells mc2 5) = W3 at *
  generalize hdb : w1.heap.size = db at *
  clear hW3 hdb x3 HX2 HB2
  go_wp2_with (first
    | (refine wpList_copy_k rfl _ _ 39 39 rfl 5 1 Tryz.underlying39 Wr.size5 db o.d.length o.d.length o.da o.d.length o.dc rfl rfl _ 5 HG2.out DC' ?c0 (by decide) ?c1 ?c2 ?c3 db W3 (Below.refl _ _) (Nat.le_refl _) ?_))
  case c0 => first | exact HDL.out | (have q := HDL.out; simpa using q)
  case c1 => exact HDS.out _ HB3.out
  case c2 => have q := HM2.out; have q2 := HDL.out; simp at q ⊢; omega
  case c3 => exact HD1.out
  intro w4 HGD hb4
  have HOD : Hid (Wr.OL w4 W.heap.size (.slice (some ⟨db, 0, none⟩) o.d.length o.d.length) o.d) := by
    have q := HGD.out
    rw [List.drop_eq_nil_of_le (by have q1 := HM2.out; have q2 := HDL.out; omega), List.append_nil, ← HDC.out] at q
    exact row_of_block q (by omega) (by simp) (by unfold maxLen; omega)
  have HB4 := hidMk (HB3.out.trans (hb4.mono (by omega)))
  have HX4 := hidMk ((Gs.under hb4).own HX3.out (fun g e => by have e' : W.heap.size = g := Option.some.inj e; omega))
  have HOK : Hid (OV w4 W.heap.size (.slice (some ⟨W.heap.size + 1, 0, none⟩) o.key.length o.key.length) o.key) := by
    have q := HGK2.out
    rw [← hb4.block (W.heap.size + 1) (by omega), ← HKC.out] at q
    exact row_of_block q (by omega) (len_cellsV _) (by unfold maxLen; omega)
  have hs4 := hb4.size
  have HZ : Hid (db < w4.heap.size) := (World.ownsRow.lt HOD.out db rfl).2
  have hdb2 : W.heap.size + 2 ≤ db := by omega
  clear HGD HX3 HB3 HG2 hb4 HGK2 x4 hmk1 hmk2 HM1 HM2 HKC HDC HKL HDL HK1 HD1 HKS HDS
  obtain ⟨x0, x1, x2, x3, x4, x5⟩ : w4.cell? ⟨W.heap.size, 0, none⟩ = some (.int .i64 0) ∧ w4.cell? ⟨W.heap.size, 1, none⟩ = some (.slice o.ka o.key.length o.kc) ∧ w4.cell? ⟨W.heap.size, 2, none⟩ = some (.int .i64 o.wn.f) ∧ w4.cell? ⟨W.heap.size, 3, none⟩ = some (.int .i64 o.wn.t) ∧ w4.cell? ⟨W.heap.size, 4, none⟩ = some (.slice o.da o.d.length o.dc) ∧ w4.cell? ⟨W.heap.size, 5, none⟩ = some (.int .i64 o.tm) := by
    have q : Own w4 W.heap.size _ _ _ := HX4.out
    exact ⟨q.cell 0 (by decide), q.cell 1 (by decide), q.cell 2 (by decide), q.cell 3 (by decide), q.cell 4 (by decide), q.cell 5 (by decide)⟩
  have HS4 := hidMk (HS.out.later HB4.out)
  obtain ⟨ka4, kc4, hke, HKV', -⟩ := HOK.out.form
  have HKV := hidMk (show VLies w4 (some ⟨W.heap.size + 1, 0, none⟩) o.key from by injection hke with q1 q2 q3; rw [q1]; exact HKV')
  have HDB := hidMk HOD.out.bytes.2
  clear hke HKV'
  have hkt : ∀ i, Bl t mp ss i → i < W.heap.size := fun i hi => (HS.out.lt (.inl hi)).2
  have htl : t < W.heap.size := hkt t (.inl (.inl rfl))
  have hml : mp < W.heap.size := hkt mp (.inl (.inr (.inl rfl)))
  have HPU := hidMk (put_any o.key (some ⟨W.heap.size + 1, 0, none⟩) o.key.length o.wn (some ⟨db, 0, none⟩) o.d o.d.length w4 w0.heap.size t mp lo hi ss HS4.out.ps HKV.out HO.out.good (by omega) HO.out.fits (HT.out _ HS4.out.bel).1 (by omega) HDB.out (fun y hy _ => by cases hy; exact ⟨show W.heap.size + 1 ≠ t by omega, show W.heap.size + 1 ≠ mp by omega⟩) (fun y hy _ => by cases hy; exact ⟨show db ≠ t by omega, show db ≠ mp by omega⟩))
  have HSPL : Hid (∀ V, Below W.heap.size W V → OV V W.heap.size (.slice (some ⟨W.heap.size + 1, 0, none⟩) o.key.length o.key.length) o.key → Wr.OL V W.heap.size (.slice (some ⟨db, 0, none⟩) o.d.length o.d.length) o.d → Calls Tryz.prog 21 #[.slice (some ⟨db, 0, none⟩) o.d.length o.d.length, .slice (some ⟨W.heap.size + 1, 0, none⟩) o.key.length o.key.length] V fun e w' => e = .returned (.tuple #[]) ∧ KW (fun i => i = db ∨ i = W.heap.size + 1) V w') := fun V _ h1 h2 => spoil_any _ _ _ _ _ _ V _ (OL_WB h2) (OV_WV h1) (by omega) (by omega) (fun i hi => by
    rcases hi with ⟨-, h⟩ | ⟨-, h⟩
    · exact .inl (Option.some.inj h).symm
    · exact .inr (Option.some.inj h).symm)
  have HNW : Hid (newW ss o.key o.wn o.d.length = (wt (putC (ces ss) ⟨o.key, o.wn, o.d⟩) : Int) ∨ vk o.key = false) := by
    cases hv : vk o.key with
    | false => exact .inr rfl
    | true => exact .inl (new_eq HS.out.ps o.key o.wn o.d hv).1
  have HWQ : Hid (wt (putC (qs.map (·.c)) ⟨o.key, o.wn, o.d⟩) = wt (putC (ces ss) ⟨o.key, o.wn, o.d⟩)) := wt_perm (putC_perm HS.out.perm _)
  have l4 := HB4.out.size
  unfold vv at HPU
  go_wp2_with fail
  refine HPU.out.mono ?_
  rintro e w5 hans
  unfold PutAns at hans
  have HDP : Hid (∀ V, DS V w0.heap.size s lo hi u qs → Below w0.heap.size W V → Calls Tryz.prog 16 #[.pointer (some ⟨s, 0, none⟩), .slice o.ka o.key.length o.kc, .agg #[.int .i64 o.wn.f, .int .i64 o.wn.t], .slice o.da o.d.length o.dc] V (DPut V w0.heap.size s lo hi u qs ⟨o.key, o.wn, o.d⟩)) := fun V hd hV => putD_any o.key o.ka o.kc o.wn o.da o.d o.dc V w0.heap.size s lo hi u qs hd HS.out.dc HS.out.apart HS.out.asc (HO.out.kept hV).key HO.out.good (by omega) (by omega) (HO.out.kept hV).dat (Nat.le_trans HS.out.bel.size hV.size)
  clear HPU
  have HERR : Hid (∀ (n : Nat) (V : World), Below W.heap.size W V → Calls Tryz.prog 7 #[Wr.errV n] V fun e w' => e = .returned (.int .i64 (n : Int)) ∧ Below V.heap.size V w') := fun n V hV => Wr.told_any n V (HT.out _ (HS.out.bel.trans (hV.mono HS.out.bel.size))).2.2
  rcases hans with ⟨hr, rfl, b5⟩ | ⟨hr, hw, rfl, b5⟩ | ⟨hr, hw, rfl, hfin⟩
  · have HB5 := hidMk (HB4.out.trans (b5.mono HB4.out.size))
    replace x1 := cell_later b5 x1
    replace x2 := cell_later b5 x2
    replace x3 := cell_later b5 x3
    replace x4 := cell_later b5 x4
    have HK5 : Hid (OV w5 W.heap.size _ o.key) := own_later HOK.out b5
    have HD5 : Hid (Wr.OL w5 W.heap.size _ o.d) := own_later HOD.out b5
    have HRN := hidMk hr
    clear b5 hr
    have HTD := hidMk (HERR.out 4 w5 HB5.out)
    simp only [Wr.errV, if_neg (show ¬ (4 : Nat) = 0 by decide)] at HTD ⊢
    go_wp2_with fail
    refine HTD.out.mono ?_
    rintro e w6 ⟨rfl, b6⟩
    have HB6 := hidMk (HB5.out.trans (b6.mono HB5.out.size))
    replace x1 := cell_later b6 x1
    replace x2 := cell_later b6 x2
    replace x3 := cell_later b6 x3
    replace x4 := cell_later b6 x4
    have HK6 : Hid (OV w6 W.heap.size _ o.key) := own_later HK5.out b6
    have HD6 : Hid (Wr.OL w6 W.heap.size _ o.d) := own_later HD5.out b6
    clear b6
    go_wp2_with fail
    refine (HDP.out _ (HS.out.later HB6.out).ds (HB6.out.mono HS.out.bel.size)).mono ?_
    rintro e w7 hd
    unfold DPut at hd
    rcases hd with ⟨-, rfl, b7⟩ | ⟨q, -⟩ | ⟨q, -⟩
    · have HB7 := hidMk (HB6.out.trans (b7.mono HB6.out.size))
      have HSP := hidMk (HSPL.out w7 HB7.out (own_later HK6.out b7) (own_later HD6.out b7))
      clear b7
      go_wp2_with fail
      refine HSP.out.mono ?_
      rintro e w8 ⟨rfl, hkw⟩
      have HF := hidMk (HS.out.spoilt HB7.out (hkw.gs.mono (fun i _ h => by rcases h with h | h <;> omega)))
      clear hkw
      go_wp2_with fail
      go_ret2
      exact ⟨t, mp, ss, u, qs, by simp, HF.out⟩
    · rw [HRN.out] at q; cases q
    · rw [HRN.out] at q; cases q
  · have hvk : vk o.key = true := by unfold rngC ow at hr; simp at hr; exact hr.1.1
    have hwn : 67108864 < wt (putC (qs.map (·.c)) ⟨o.key, o.wn, o.d⟩) := by
      rcases HNW.out with q | q
      · have hw' : 67108864 < newW ss o.key o.wn o.d.length := hw
        have q2 := HWQ.out
        rw [q] at hw'
        omega
      · rw [hvk] at q; cases q
    have HB5 := hidMk (HB4.out.trans (b5.mono HB4.out.size))
    replace x1 := cell_later b5 x1
    replace x2 := cell_later b5 x2
    replace x3 := cell_later b5 x3
    replace x4 := cell_later b5 x4
    have HK5 : Hid (OV w5 W.heap.size _ o.key) := own_later HOK.out b5
    have HD5 : Hid (Wr.OL w5 W.heap.size _ o.d) := own_later HOD.out b5
    have HRN := hidMk hr
    have HWN := hidMk hwn
    clear b5 hr hw hwn hvk
    have HTD := hidMk (HERR.out 5 w5 HB5.out)
    simp only [Wr.errV, if_neg (show ¬ (5 : Nat) = 0 by decide)] at HTD ⊢
    go_wp2_with fail
    refine HTD.out.mono ?_
    rintro e w6 ⟨rfl, b6⟩
    have HB6 := hidMk (HB5.out.trans (b6.mono HB5.out.size))
    replace x1 := cell_later b6 x1
    replace x2 := cell_later b6 x2
    replace x3 := cell_later b6 x3
    replace x4 := cell_later b6 x4
    have HK6 : Hid (OV w6 W.heap.size _ o.key) := own_later HK5.out b6
    have HD6 : Hid (Wr.OL w6 W.heap.size _ o.d) := own_later HD5.out b6
    clear b6
    go_wp2_with fail
    refine (HDP.out _ (HS.out.later HB6.out).ds (HB6.out.mono HS.out.bel.size)).mono ?_
    rintro e w7 hd
    unfold DPut at hd
    rcases hd with ⟨q, -⟩ | ⟨-, -, rfl, b7⟩ | ⟨-, q, -⟩
    · rw [HRN.out] at q; cases q
    · have HB7 := hidMk (HB6.out.trans (b7.mono HB6.out.size))
      have HSP := hidMk (HSPL.out w7 HB7.out (own_later HK6.out b7) (own_later HD6.out b7))
      clear b7
      go_wp2_with fail
      refine HSP.out.mono ?_
      rintro e w8 ⟨rfl, hkw⟩
      have HF := hidMk (HS.out.spoilt HB7.out (hkw.gs.mono (fun i _ h => by rcases h with h | h <;> omega)))
      clear hkw
      go_wp2_with fail
      go_ret2
      exact ⟨t, mp, ss, u, qs, by simp, HF.out⟩
    · exact absurd HWN.out q
  · have hvk : vk o.key = true := by unfold rngC ow at hr; simp at hr; exact hr.1.1
    have hkp : kp o.wn = true := by unfold rngC at hr; simp at hr; exact hr.2
    have hwn : ¬ 67108864 < wt (putC (qs.map (·.c)) ⟨o.key, o.wn, o.d⟩) := by
      rcases HNW.out with q | q
      · have hw' : ¬ 67108864 < newW ss o.key o.wn o.d.length := hw
        have q2 := HWQ.out
        rw [q] at hw'
        omega
      · rw [hvk] at q; cases q
    obtain ⟨ss', hp5, hce, g5, hbl⟩ := hfin
    have b5 : Below w0.heap.size w4 w5 := g5.toBelow HS4.out.bel.size (fun i hi => (HS.out.lt (.inl (.inl hi))).1)
    have hd5 : DS w5 w0.heap.size s lo hi u qs := HS4.out.ds.kept g5 (fun i hi ht => HS.out.sep i (.inl ht) hi)
    have hx5 : ∀ j v, w4.cell? ⟨W.heap.size, j, none⟩ = some v → w5.cell? ⟨W.heap.size, j, none⟩ = some v := fun j v hc => g5.cell hc (fun ht => by have q := hkt _ (.inl ht); have q2 : W.heap.size < W.heap.size := q; omega)
    replace x1 := hx5 _ _ x1
    replace x2 := hx5 _ _ x2
    replace x3 := hx5 _ _ x3
    replace x4 := hx5 _ _ x4
    have HK5 : Hid (OV w5 W.heap.size (.slice (some ⟨W.heap.size + 1, 0, none⟩) o.key.length o.key.length) o.key) := g5.own HOK.out (fun g e ht => by have q := hkt _ (.inl ht); have e' : W.heap.size + 1 = g := Option.some.inj e; omega)
    have HD5 : Hid (Wr.OL w5 W.heap.size (.slice (some ⟨db, 0, none⟩) o.d.length o.d.length) o.d) := g5.own HOD.out (fun g e ht => by have q := hkt _ (.inl ht); have e' : db = g := Option.some.inj e; omega)
    have HP5 := hidMk hp5
    have HCE := hidMk hce
    have HG5 := hidMk g5
    have HBL := hidMk hbl
    have HW5 := hidMk ((HB4.out.mono HS.out.bel.size).trans b5)
    have HD5' := hidMk hd5
    have HRN := hidMk hr
    have HWN := hidMk hwn
    have HVK := hidMk hvk
    have HKP := hidMk hkp
    have HKT := hidMk hkt
    have l5 := g5.size
    have HSZ := hidMk HS.out.bel.size
    clear hr hw hwn hvk hkp hp5 hce g5 hbl b5 hd5 hx5 hkt
    go_wp2_with fail
    refine (Wr.told_nil w5).mono ?_
    rintro e w6 ⟨rfl, hw6⟩
    subst hw6
    go_wp2_with fail
    refine (HDP.out _ HD5'.out HW5.out).mono ?_
    rintro e w7 hd
    unfold DPut at hd
    rcases hd with ⟨q, -⟩ | ⟨-, q, -⟩ | ⟨-, -, rfl, u', qs', d7, hpm, has, g7, b7⟩
    · rw [HRN.out] at q; cases q
    · exact absurd q HWN.out
    · have HDBL : Hid (∀ i, DB s u qs i → i < W.heap.size ∧ w0.heap.size ≤ i) := fun i hi => ⟨(HS.out.lt (.inr hi)).2, (HS.out.lt (.inr hi)).1⟩
      have hsS : ∀ i, (i = s ∨ u.ownBlock = some i) → DB s u qs i := fun i hi => by
        rcases hi with e | e
        · exact .inl e
        · exact .inr (.inl e)
      have l7 := g7.size
      have hSI : SI w0 w7 t mp s lo hi ss' u' qs' := by
        refine ⟨HP5.out.kept g7 (fun i hi hs => ?_), d7, HS.out.dc.put hpm HO.out.good HVK.out HKP.out (by have q := HWN.out; omega), ?_, fun i hi hd => ?_, ?_⟩
        · have q1 := hsS i hs
          rcases HBL.out i hi with q | q
          · exact HS.out.sep i q q1
          · have q2 := (HDBL.out i q1).1; omega
        · exact srt_of ((hpm.trans (putC_perm HS.out.perm _)).trans HCE.out.symm) HP5.out.apart has
        · rcases b7 i hd with q | q
          · rcases HBL.out i hi with q1 | q1
            · exact HS.out.sep i q1 q
            · have q2 := (HDBL.out i q).1; omega
          · have q2 := (HP5.out.lt hi).2; omega
        · exact (HS.out.bel.trans HW5.out).trans (g7.toBelow (Nat.le_trans HSZ.out (by omega)) (fun i hi => (HDBL.out i (hsS i hi)).2))
      have hk7 : OV w7 W.heap.size (.slice (some ⟨W.heap.size + 1, 0, none⟩) o.key.length o.key.length) o.key := g7.own HK5.out (fun g e hs => by have q := (HDBL.out g (hsS g hs)).1; have e' : W.heap.size + 1 = g := Option.some.inj e; omega)
      have hd7 : Wr.OL w7 W.heap.size (.slice (some ⟨db, 0, none⟩) o.d.length o.d.length) o.d := g7.own HD5.out (fun g e hs => by have q := (HDBL.out g (hsS g hs)).1; have e' : db = g := Option.some.inj e; omega)
      have HSP := hidMk (spoil_any (some ⟨db, 0, none⟩) o.d.length o.d.length (some ⟨W.heap.size + 1, 0, none⟩) o.key.length o.key.length w7 (fun i => i = db ∨ i = W.heap.size + 1) (OL_WB hd7) (OV_WV hk7) (by omega) (by omega) (fun i hi => by
        rcases hi with ⟨-, h⟩ | ⟨-, h⟩
        · exact .inl (Option.some.inj h).symm
        · exact .inr (Option.some.inj h).symm))
      have HSI := hidMk hSI
      have HOUT : Hid (∀ i, (Bl t mp ss' i ∨ DB s u' qs' i) → ¬ (i = db ∨ i = W.heap.size + 1)) := fun i hi hs => by
        have hz := HZ.out
        rcases hi with hi | hi
        · rcases HBL.out i hi with q | q
          · have q1 := HKT.out i q; rcases hs with h | h <;> omega
          · rcases hs with h | h <;> omega
        · rcases b7 i hi with q | q
          · have q1 := (HDBL.out i q).1; rcases hs with h | h <;> omega
          · rcases hs with h | h <;> omega
      clear d7 hpm has g7 b7 hSI hk7 hd7 hsS
      go_wp2_with fail
      refine HSP.out.mono ?_
      rintro e w8 ⟨rfl, hkw⟩
      have HF := hidMk (HSI.out.kept hkw.gs (fun i hi => HOUT.out i (.inl hi)) (fun i hi => HOUT.out i (.inr hi)) (fun i hi => by have q := HSZ.out; rcases hi with h | h <;> omega))
      clear hkw
      go_wp2_with fail
      go_ret2
      exact ⟨t, mp, ss', u', qs', by simp, HF.out⟩
end Go.Proofs.YtobhccmnlmlapaaGreatDoor
namespace Go.Proofs.YtobhccmnlmlapaaGreatDoor
open Go.RowKit Go.Maps
set_option linter.unusedVariables false
set_option linter.unusedSimpArgs false
set_option maxRecDepth 100000
attribute [local go_sem ↓] eqlW neqW
attribute [local go_sem] guardW

set_option maxHeartbeats 8000000 in
theorem step_1 (w0 W : World) (t mp s : Nat) (lo hi : Int) (ss : List Sh) (u : Value) (qs : List Cx) (o : Ox) (h : SI w0 W t mp s lo hi ss u qs) (ho : OEnt W w0.heap.size o) (ht : ∀ V, Below w0.heap.size w0 V → Vl.Tab V ∧ Wr.Quart V ∧ Wr.Ety V) :
    Calls Tryz.prog 8 #[.pointer (some ⟨t, 0, none⟩), .pointer (some ⟨s, 0, none⟩), .agg #[.int .i64 1, .slice o.ka o.key.length o.kc, .int .i64 o.wn.f, .int .i64 o.wn.t, .slice o.da o.d.length o.dc, .int .i64 o.tm]] W (StepPost w0 s lo hi) := by
  obtain ⟨iv, hv0, hv1, hv2, hv3⟩ := info_parts info26
  obtain ⟨ib, hb0, hb1', hb2', hb3'⟩ := info_parts Wr.info5
  have hkl := ho.kl
  have hdl := ho.dl
  have HS := hidMk h
  have HO := hidMk ho
  have HT := hidMk ht
  have hmk1 : ∀ V : World, (Instr.makeSlice 36 (.int .i64 (o.key.length : Int)) (.int .i64 (o.key.length : Int))).run Tryz.prog V = .ok (.slice (some ⟨V.heap.size, 0, none⟩) o.key.length o.key.length) (V.alloc (.cells (madeCells #[.int .i64 0, .int .i64 0, .string ⟨#[]⟩] (o.key.length * 3)) 48)) := fun V => by
    have q := run_make (P := Tryz.prog) V 36 48 iv (.agg #[.int .i64 0, .int .i64 0, .string ⟨#[]⟩]) Tryz.underlying36 hv0 hv1 .i64 .i64 (o.key.length : Int) (o.key.length : Int) (by omega) (by omega) (by rw [hv3]; omega) (by omega)
    rw [q, hv2, Int.toNat_natCast]
    rfl
  have hmk2 : ∀ V : World, (Instr.makeSlice 39 (.int .i64 (o.d.length : Int)) (.int .i64 (o.d.length : Int))).run Tryz.prog V = .ok (.slice (some ⟨V.heap.size, 0, none⟩) o.d.length o.d.length) (V.alloc (.cells (madeCells #[.int .u8 0] o.d.length) 5)) := fun V => by
    have q := run_make (P := Tryz.prog) V 39 5 ib (.int .u8 0) Tryz.underlying39 hb0 hb1' .i64 .i64 (o.d.length : Int) (o.d.length : Int) (by omega) (by omega) (by rw [hb3']; omega) (by omega)
    rw [q, hb2', Int.toNat_natCast, Nat.mul_one]
    rfl
  have HM1 := hidMk (made_len #[.int .i64 0, .int .i64 0, .string ⟨#[]⟩] (o.key.length * 3) (by decide))
  have HM2 := hidMk (made_len #[.int .u8 0] o.d.length (by decide))
  generalize madeCells #[.int .i64 0, .int .i64 0, .string ⟨#[]⟩] (o.key.length * 3) = mc1 at *
  generalize madeCells #[.int .u8 0] o.d.length = mc2 at *
  have HBX := hidMk (bel1 W (.cells #[.int .i64 1, .slice o.ka o.key.length o.kc, .int .i64 o.wn.f, .int .i64 o.wn.t, .slice o.da o.d.length o.dc, .int .i64 o.tm] 41))
  have HOX := hidMk (Own.new W 41 6 #[.int .i64 1, .slice o.ka o.key.length o.kc, .int .i64 o.wn.f, .int .i64 o.wn.t, .slice o.da o.d.length o.dc, .int .i64 o.tm] rfl)
  have HG1 : Hid (((W.alloc (.cells #[.int .i64 1, .slice o.ka o.key.length o.kc, .int .i64 o.wn.f, .int .i64 o.wn.t, .slice o.da o.d.length o.dc, .int .i64 o.tm] 41)).alloc (.cells mc1 48)).heap[W.heap.size + 1]? = some (.cells mc1.toList.toArray 48 (0, 0))) := by
    have q := heap_alloc_new (W.alloc (.cells #[.int .i64 1, .slice o.ka o.key.length o.kc, .int .i64 o.wn.f, .int .i64 o.wn.t, .slice o.da o.d.length o.dc, .int .i64 o.tm] 41)) (.cells mc1 48)
    rw [show (W.alloc (.cells #[.int .i64 1, .slice o.ka o.key.length o.kc, .int .i64 o.wn.f, .int .i64 o.wn.t, .slice o.da o.d.length o.dc, .int .i64 o.tm] 41)).heap.size = W.heap.size + 1 by simp] at q
    rw [Hid, show mc1.toList.toArray = mc1 by simp]
    exact q
  have HB1 : Hid (Below W.heap.size W ((W.alloc (.cells #[.int .i64 1, .slice o.ka o.key.length o.kc, .int .i64 o.wn.f, .int .i64 o.wn.t, .slice o.da o.d.length o.dc, .int .i64 o.tm] 41)).alloc (.cells mc1 48))) := HBX.out.alloc HBX.out.size _
  have HX1 : Hid (Own ((W.alloc (.cells #[.int .i64 1, .slice o.ka o.key.length o.kc, .int .i64 o.wn.f, .int .i64 o.wn.t, .slice o.da o.d.length o.dc, .int .i64 o.tm] 41)).alloc (.cells mc1 48)) W.heap.size 41 6 #[.int .i64 1, .slice o.ka o.key.length o.kc, .int .i64 o.wn.f, .int .i64 o.wn.t, .slice o.da o.d.length o.dc, .int .i64 o.tm].toList) := HOX.out.later (bel1 _ _)
  have hs1 : ((W.alloc (.cells #[.int .i64 1, .slice o.ka o.key.length o.kc, .int .i64 o.wn.f, .int .i64 o.wn.t, .slice o.da o.d.length o.dc, .int .i64 o.tm] 41)).alloc (.cells mc1 48)).heap.size = W.heap.size + 2 := by simp
  clear h ho ht
  go_enter Tryz.func8, Tryz.ntmps8
  go_upto_region 2 with fail
  generalize ((W.alloc (.cells #[.int .i64 1, .slice o.ka o.key.length o.kc, .int .i64 o.wn.f, .int .i64 o.wn.t, .slice o.da o.d.length o.dc, .int .i64 o.tm] 41)).alloc (.cells mc1 48)) = W1 at *
  have x1 : W1.cell? ⟨W.heap.size, 1, none⟩ = some (.slice o.ka o.key.length o.kc) := HX1.out.cell 1 (by decide)
  obtain ⟨KC, hKC⟩ : ∃ KC, o.key.flatMap cellsV = KC := ⟨_, rfl⟩
  obtain ⟨DC', hDC⟩ : ∃ D, o.d.map Wr.u8v = D := ⟨_, rfl⟩
  have HKC := hidMk hKC
  have HDC := hidMk hDC
  have HKL : Hid (KC.length = o.key.length * 3) := by rw [Hid, ← hKC]; exact len_cellsV _
  have HDL : Hid (DC'.length = o.d.length) := by rw [Hid, ← hDC]; simp
  have HK1 : Hid (∀ v ∈ KC, v.oneCell' = true) := by rw [Hid, ← hKC]; exact one_flatV _
  have HD1 : Hid (∀ v ∈ DC', v.oneCell' = true) := by rw [Hid, ← hDC]; intro v hv; obtain ⟨q, -, rfl⟩ := List.mem_map.1 hv; rfl
  have HKS : Hid (∀ V, Below W.heap.size W V → 0 < KC.length → ∃ y, o.ka = some y ∧ ∀ j v, KC[j]? = some v → V.cell? (y.add j) = some v) := fun V hV => by rw [← hKC]; exact src_hs (src_V (HO.out.key.later hV))
  have HDS : Hid (∀ V, Below W.heap.size W V → 0 < DC'.length → ∃ y, o.da = some y ∧ ∀ j v, DC'[j]? = some v → V.cell? (y.add j) = some v) := fun V hV => by rw [← hDC]; exact src_hs (src_B (HO.out.dat.later hV))
  clear hKC hDC
  go_wp2_with (first
    | (refine wpList_copy_k rfl _ _ 36 36 rfl 48 3 Tryz.underlying36 size26 (W.heap.size + 1) o.key.length o.key.length o.ka o.key.length o.kc rfl rfl _ 48 HG1.out KC ?c0 (by decide) ?c1 ?c2 ?c3 (W.heap.size + 1) W1 (Below.refl _ _) (Nat.le_refl _) ?_))
  case c0 => first | exact HKL.out | (have q := HKL.out; simpa using q)
  case c1 => exact HKS.out _ HB1.out
  case c2 => have q := HM1.out; have q2 := HKL.out; simp at q ⊢; omega
  case c3 => exact HK1.out
  intro w1 HGK hb1
  have HGK1 : Hid (w1.heap[W.heap.size + 1]? = some (.cells KC.toArray 48 (0, 0))) := by
    have q := HGK.out
    rw [List.drop_eq_nil_of_le (by have q1 := HM1.out; have q2 := HKL.out; omega), List.append_nil] at q
    exact q
  have HB2 := hidMk (HB1.out.trans (hb1.mono (by omega)))
  have HX2 := hidMk ((Gs.under hb1).own HX1.out (fun g e => by have e' : W.heap.size = g := Option.some.inj e; omega))
  have hs2 := hb1.size
  have x3 : w1.cell? ⟨W.heap.size, 4, none⟩ = some (.slice o.da o.d.length o.dc) := (show Own w1 W.heap.size _ _ _ from HX2.out).cell 4 (by decide)
  have HG2 : Hid ((w1.alloc (.cells mc2 5)).heap[w1.heap.size]? = some (.cells mc2.toList.toArray 5 (0, 0))) := by
    rw [Hid, show mc2.toList.toArray = mc2 by simp]
    exact heap_alloc_new w1 (.cells mc2 5)
  have HB3 := hidMk (HB2.out.alloc HB2.out.size (.cells mc2 5))
  have HX3 := hidMk (Own.later (show Own w1 W.heap.size _ _ _ from HX2.out) (bel1 w1 (.cells mc2 5)))
  have HGK2 : Hid ((w1.alloc (.cells mc2 5)).heap[W.heap.size + 1]? = some (.cells KC.toArray 48 (0, 0))) := by
    rw [Hid, (bel1 w1 (.cells mc2 5)).block (W.heap.size + 1) (by omega)]; exact HGK1.out
  have x4 : (w1.alloc (.cells mc2 5)).cell? ⟨W.heap.size, 4, none⟩ = some (.slice o.da o.d.length o.dc) := HX3.out.cell 4 (by decide)
  clear HGK HX1 HB1 HG1 hb1 HGK1 x1
  go_upto_region 4 with fail
  generalize hW3 : w1.alloc (.cells mc2 5) = W3 at *
  generalize hdb : w1.heap.size = db at *
  clear hW3 hdb x3 HX2 HB2
  go_wp2_with (first
    | (refine wpList_copy_k rfl _ _ 39 39 rfl 5 1 Tryz.underlying39 Wr.size5 db o.d.length o.d.length o.da o.d.length o.dc rfl rfl _ 5 HG2.out DC' ?c0 (by decide) ?c1 ?c2 ?c3 db W3 (Below.refl _ _) (Nat.le_refl _) ?_))
  case c0 => first | exact HDL.out | (have q := HDL.out; simpa using q)
  case c1 => exact HDS.out _ HB3.out
  case c2 => have q := HM2.out; have q2 := HDL.out; simp at q ⊢; omega
  case c3 => exact HD1.out
  intro w4 HGD hb4
  have HOD : Hid (Wr.OL w4 W.heap.size (.slice (some ⟨db, 0, none⟩) o.d.length o.d.length) o.d) := by
    have q := HGD.out
    rw [List.drop_eq_nil_of_le (by have q1 := HM2.out; have q2 := HDL.out; omega), List.append_nil, ← HDC.out] at q
    exact row_of_block q (by omega) (by simp) (by unfold maxLen; omega)
  have HB4 := hidMk (HB3.out.trans (hb4.mono (by omega)))
  have HX4 := hidMk ((Gs.under hb4).own HX3.out (fun g e => by have e' : W.heap.size = g := Option.some.inj e; omega))
  have HOK : Hid (OV w4 W.heap.size (.slice (some ⟨W.heap.size + 1, 0, none⟩) o.key.length o.key.length) o.key) := by
    have q := HGK2.out
    rw [← hb4.block (W.heap.size + 1) (by omega), ← HKC.out] at q
    exact row_of_block q (by omega) (len_cellsV _) (by unfold maxLen; omega)
  have hs4 := hb4.size
  have HZ : Hid (db < w4.heap.size) := (World.ownsRow.lt HOD.out db rfl).2
  have hdb2 : W.heap.size + 2 ≤ db := by omega
  clear HGD HX3 HB3 HG2 hb4 HGK2 x4 hmk1 hmk2 HM1 HM2 HKC HDC HKL HDL HK1 HD1 HKS HDS
  obtain ⟨x0, x1, x2, x3, x4, x5⟩ : w4.cell? ⟨W.heap.size, 0, none⟩ = some (.int .i64 1) ∧ w4.cell? ⟨W.heap.size, 1, none⟩ = some (.slice o.ka o.key.length o.kc) ∧ w4.cell? ⟨W.heap.size, 2, none⟩ = some (.int .i64 o.wn.f) ∧ w4.cell? ⟨W.heap.size, 3, none⟩ = some (.int .i64 o.wn.t) ∧ w4.cell? ⟨W.heap.size, 4, none⟩ = some (.slice o.da o.d.length o.dc) ∧ w4.cell? ⟨W.heap.size, 5, none⟩ = some (.int .i64 o.tm) := by
    have q : Own w4 W.heap.size _ _ _ := HX4.out
    exact ⟨q.cell 0 (by decide), q.cell 1 (by decide), q.cell 2 (by decide), q.cell 3 (by decide), q.cell 4 (by decide), q.cell 5 (by decide)⟩
  have HS4 := hidMk (HS.out.later HB4.out)
  obtain ⟨ka4, kc4, hke, HKV', -⟩ := HOK.out.form
  have HKV := hidMk (show VLies w4 (some ⟨W.heap.size + 1, 0, none⟩) o.key from by injection hke with q1 q2 q3; rw [q1]; exact HKV')
  have HDB := hidMk HOD.out.bytes.2
  clear hke HKV'
  have HGE := hidMk (get_any o.key (some ⟨W.heap.size + 1, 0, none⟩) o.key.length o.wn w4 w0.heap.size t mp lo hi ss HS4.out.ps HKV.out HO.out.good (by omega) HO.out.fits)
  have HGD : Hid (∀ V, Below W.heap.size W V → _) := fun V hV => getD_any o.key o.ka o.kc o.wn V w0.heap.size s lo hi u qs (HS.out.later hV).ds HS.out.dc (HO.out.key.later hV) (by omega)
  have HLK := hidMk (HS.out.look o.key o.wn)
  have HDT : Hid (∀ V, Below W.heap.size W V → ∀ i (hi : i < qs.length), ∃ a c, qs[i].dv = .slice a qs[i].c.d.length c ∧ Wr.Bytes V a qs[i].c.d.length (Wr.lat qs[i].c.d)) := fun V hV i hi => (HS.out.later hV).ds.row.dform (List.getElem_mem hi)
  have HQL : Hid (∀ i (hi : i < qs.length), qs[i].c.d.length ≤ 67108864) := fun i hi => by
    have h1 := HS.out.dc.wl
    have h2 := wt_sub (List.singleton_sublist.2 (List.mem_map.2 ⟨qs[i], List.getElem_mem hi, rfl⟩ : qs[i].c ∈ qs.map (·.c)))
    have h3 : wt [qs[i].c] = qs[i].c.d.length + 64 * qs[i].c.key.length + 32 := by simp [wt, wg, wgh]
    omega
  unfold vv at HGE
  go_wp2_with fail
  refine HGE.out.mono ?_
  rintro e w5 ⟨v5, rfl, o5, b5⟩
  obtain ⟨a5, c5, hv5⟩ := bytes_form o5
  subst hv5
  have HO5 := hidMk o5
  have HOK5 : Hid (OV w5 W.heap.size (.slice (some ⟨W.heap.size + 1, 0, none⟩) o.key.length o.key.length) o.key) := own_later HOK.out b5
  have HB5 := hidMk (HB4.out.trans (b5.mono HB4.out.size))
  replace x1 := cell_later b5 x1
  replace x2 := cell_later b5 x2
  replace x3 := cell_later b5 x3
  clear o5 b5 HGE
  rcases HLK.out with ⟨l1, l2⟩ | ⟨y, i, hi', l1, l2, l3⟩
  · rw [l1] at HO5 ⊢
    simp only [dL, List.length_nil, Option.isSome_none] at HO5 ⊢
    go_wp2_with fail
    refine (HGD.out _ HB5.out).mono ?_
    rintro e w6 ⟨b6, hh⟩
    rcases hh with ⟨-, rfl⟩ | ⟨i, hi, q1, -⟩
    · have HB6 := hidMk (HB5.out.trans (b6.mono HB5.out.size))
      have HOK6 : Hid (OV w6 W.heap.size (.slice (some ⟨W.heap.size + 1, 0, none⟩) o.key.length o.key.length) o.key) := own_later HOK5.out b6
      have HO6 : Hid (Wr.OL w6 w4.heap.size (.slice a5 0 c5) []) := own_later HO5.out b6
      have cv1 := Wr.conv_bytes w6 a5 0 c5 (Wr.lat []) (fun i hi => absurd hi (by omega))
      have cv2 := Wr.conv_bytes w6 none 0 0 (Wr.lat []) (fun i hi => absurd hi (by omega))
      have HSP := hidMk (spoil_any a5 0 c5 (some ⟨W.heap.size + 1, 0, none⟩) o.key.length o.key.length w6 (fun i => W.heap.size ≤ i) (.inl rfl) (OV_WV HOK6.out) (by omega) (by omega) (fun i hi => by
        rcases hi with ⟨h1, -⟩ | ⟨-, h1⟩
        · omega
        · exact (World.ownsRow.lt HOK6.out i h1).1))
      clear b6
      go_wp2_with fail
      refine HSP.out.mono ?_
      rintro e w7 ⟨rfl, hkw⟩
      have HF := hidMk (HS.out.spoilt HB6.out hkw.gs)
      clear hkw
      go_wp2_with fail
      go_ret2
      exact ⟨t, mp, ss, u, qs, by simp, HF.out⟩
    · rw [l2] at q1; cases q1
  · rw [l1] at HO5 ⊢
    simp only [dL, Option.isSome_some] at HO5 ⊢
    have HQ := HQL.out i hi'
    rw [l3] at HQ
    obtain ⟨za, zc, hz1, -⟩ := HDT.out W (Below.refl _ _) i hi'
    have HZ2 : Hid (∀ V, Below W.heap.size W V → Wr.Bytes V za y.d.length (Wr.lat y.d)) := fun V hV => by
      obtain ⟨za', zc', q1, q2⟩ := HDT.out V hV i hi'
      rw [hz1] at q1
      injection q1 with q3
      rw [q3, ← l3]; exact q2
    rw [l3] at hz1
    have HZ1 := hidMk hz1
    have HL2 := hidMk l2
    clear l1 l2 l3 hz1
    go_wp2_with fail
    refine (HGD.out _ HB5.out).mono ?_
    rintro e w6 ⟨b6, hh⟩
    rcases hh with ⟨q1, -⟩ | ⟨i2, hi2, q1, rfl⟩
    · rw [HL2.out] at q1; cases q1
    · have e2 : i2 = i := by rw [HL2.out] at q1; exact (Option.some.inj q1).symm
      subst e2
      rw [HZ1.out]
      have HB6 := hidMk (HB5.out.trans (b6.mono HB5.out.size))
      have HOK6 : Hid (OV w6 W.heap.size (.slice (some ⟨W.heap.size + 1, 0, none⟩) o.key.length o.key.length) o.key) := own_later HOK5.out b6
      have HO6 : Hid (Wr.OL w6 w4.heap.size (.slice a5 y.d.length c5) y.d) := own_later HO5.out b6
      have cv1 := Wr.conv_bytes w6 a5 y.d.length c5 (Wr.lat y.d) HO6.out.bytes.2
      have cv2 := Wr.conv_bytes w6 za y.d.length zc (Wr.lat y.d) (HZ2.out w6 HB6.out)
      have l4 := HB4.out.size
      have HSP := hidMk (spoil_any a5 y.d.length c5 (some ⟨W.heap.size + 1, 0, none⟩) o.key.length o.key.length w6 (fun i => W.heap.size ≤ i) (OL_WB HO6.out) (OV_WV HOK6.out) (by omega) (by omega) (fun i hi => by
        rcases hi with ⟨-, h1⟩ | ⟨-, h1⟩
        · exact Nat.le_trans l4 (World.ownsRow.lt HO6.out i h1).1
        · exact (World.ownsRow.lt HOK6.out i h1).1))
      clear b6 q1
      go_wp2_with fail
      refine HSP.out.mono ?_
      rintro e w7 ⟨rfl, hkw⟩
      have HF := hidMk (HS.out.spoilt HB6.out hkw.gs)
      clear hkw
      go_wp2_with fail
      go_ret2
      exact ⟨t, mp, ss, u, qs, by simp, HF.out⟩
end Go.Proofs.YtobhccmnlmlapaaGreatDoor
namespace Go.Proofs.YtobhccmnlmlapaaGreatDoor
open Go.RowKit Go.Maps
set_option linter.unusedVariables false
set_option linter.unusedSimpArgs false
set_option maxRecDepth 100000
attribute [local go_sem ↓] eqlW neqW
attribute [local go_sem] guardW

set_option maxHeartbeats 8000000 in
theorem step_2 (w0 W : World) (t mp s : Nat) (lo hi : Int) (ss : List Sh) (u : Value) (qs : List Cx) (o : Ox) (h : SI w0 W t mp s lo hi ss u qs) (ho : OEnt W w0.heap.size o) (ht : ∀ V, Below w0.heap.size w0 V → Vl.Tab V ∧ Wr.Quart V ∧ Wr.Ety V) :
    Calls Tryz.prog 8 #[.pointer (some ⟨t, 0, none⟩), .pointer (some ⟨s, 0, none⟩), .agg #[.int .i64 2, .slice o.ka o.key.length o.kc, .int .i64 o.wn.f, .int .i64 o.wn.t, .slice o.da o.d.length o.dc, .int .i64 o.tm]] W (StepPost w0 s lo hi) := by
  obtain ⟨iv, hv0, hv1, hv2, hv3⟩ := info_parts info26
  obtain ⟨ib, hb0, hb1', hb2', hb3'⟩ := info_parts Wr.info5
  have hkl := ho.kl
  have hdl := ho.dl
  have HS := hidMk h
  have HO := hidMk ho
  have HT := hidMk ht
  have hmk1 : ∀ V : World, (Instr.makeSlice 36 (.int .i64 (o.key.length : Int)) (.int .i64 (o.key.length : Int))).run Tryz.prog V = .ok (.slice (some ⟨V.heap.size, 0, none⟩) o.key.length o.key.length) (V.alloc (.cells (madeCells #[.int .i64 0, .int .i64 0, .string ⟨#[]⟩] (o.key.length * 3)) 48)) := fun V => by
    have q := run_make (P := Tryz.prog) V 36 48 iv (.agg #[.int .i64 0, .int .i64 0, .string ⟨#[]⟩]) Tryz.underlying36 hv0 hv1 .i64 .i64 (o.key.length : Int) (o.key.length : Int) (by omega) (by omega) (by rw [hv3]; omega) (by omega)
    rw [q, hv2, Int.toNat_natCast]
    rfl
  have hmk2 : ∀ V : World, (Instr.makeSlice 39 (.int .i64 (o.d.length : Int)) (.int .i64 (o.d.length : Int))).run Tryz.prog V = .ok (.slice (some ⟨V.heap.size, 0, none⟩) o.d.length o.d.length) (V.alloc (.cells (madeCells #[.int .u8 0] o.d.length) 5)) := fun V => by
    have q := run_make (P := Tryz.prog) V 39 5 ib (.int .u8 0) Tryz.underlying39 hb0 hb1' .i64 .i64 (o.d.length : Int) (o.d.length : Int) (by omega) (by omega) (by rw [hb3']; omega) (by omega)
    rw [q, hb2', Int.toNat_natCast, Nat.mul_one]
    rfl
  have HM1 := hidMk (made_len #[.int .i64 0, .int .i64 0, .string ⟨#[]⟩] (o.key.length * 3) (by decide))
  have HM2 := hidMk (made_len #[.int .u8 0] o.d.length (by decide))
  generalize madeCells #[.int .i64 0, .int .i64 0, .string ⟨#[]⟩] (o.key.length * 3) = mc1 at *
  generalize madeCells #[.int .u8 0] o.d.length = mc2 at *
  have HBX := hidMk (bel1 W (.cells #[.int .i64 2, .slice o.ka o.key.length o.kc, .int .i64 o.wn.f, .int .i64 o.wn.t, .slice o.da o.d.length o.dc, .int .i64 o.tm] 41))
  have HOX := hidMk (Own.new W 41 6 #[.int .i64 2, .slice o.ka o.key.length o.kc, .int .i64 o.wn.f, .int .i64 o.wn.t, .slice o.da o.d.length o.dc, .int .i64 o.tm] rfl)
  have HG1 : Hid (((W.alloc (.cells #[.int .i64 2, .slice o.ka o.key.length o.kc, .int .i64 o.wn.f, .int .i64 o.wn.t, .slice o.da o.d.length o.dc, .int .i64 o.tm] 41)).alloc (.cells mc1 48)).heap[W.heap.size + 1]? = some (.cells mc1.toList.toArray 48 (0, 0))) := by
    have q := heap_alloc_new (W.alloc (.cells #[.int .i64 2, .slice o.ka o.key.length o.kc, .int .i64 o.wn.f, .int .i64 o.wn.t, .slice o.da o.d.length o.dc, .int .i64 o.tm] 41)) (.cells mc1 48)
    rw [show (W.alloc (.cells #[.int .i64 2, .slice o.ka o.key.length o.kc, .int .i64 o.wn.f, .int .i64 o.wn.t, .slice o.da o.d.length o.dc, .int .i64 o.tm] 41)).heap.size = W.heap.size + 1 by simp] at q
    rw [Hid, show mc1.toList.toArray = mc1 by simp]
    exact q
  have HB1 : Hid (Below W.heap.size W ((W.alloc (.cells #[.int .i64 2, .slice o.ka o.key.length o.kc, .int .i64 o.wn.f, .int .i64 o.wn.t, .slice o.da o.d.length o.dc, .int .i64 o.tm] 41)).alloc (.cells mc1 48))) := HBX.out.alloc HBX.out.size _
  have HX1 : Hid (Own ((W.alloc (.cells #[.int .i64 2, .slice o.ka o.key.length o.kc, .int .i64 o.wn.f, .int .i64 o.wn.t, .slice o.da o.d.length o.dc, .int .i64 o.tm] 41)).alloc (.cells mc1 48)) W.heap.size 41 6 #[.int .i64 2, .slice o.ka o.key.length o.kc, .int .i64 o.wn.f, .int .i64 o.wn.t, .slice o.da o.d.length o.dc, .int .i64 o.tm].toList) := HOX.out.later (bel1 _ _)
  have hs1 : ((W.alloc (.cells #[.int .i64 2, .slice o.ka o.key.length o.kc, .int .i64 o.wn.f, .int .i64 o.wn.t, .slice o.da o.d.length o.dc, .int .i64 o.tm] 41)).alloc (.cells mc1 48)).heap.size = W.heap.size + 2 := by simp
  clear h ho ht
  go_enter Tryz.func8, Tryz.ntmps8
  go_upto_region 2 with fail
  generalize ((W.alloc (.cells #[.int .i64 2, .slice o.ka o.key.length o.kc, .int .i64 o.wn.f, .int .i64 o.wn.t, .slice o.da o.d.length o.dc, .int .i64 o.tm] 41)).alloc (.cells mc1 48)) = W1 at *
  have x1 : W1.cell? ⟨W.heap.size, 1, none⟩ = some (.slice o.ka o.key.length o.kc) := HX1.out.cell 1 (by decide)
  obtain ⟨KC, hKC⟩ : ∃ KC, o.key.flatMap cellsV = KC := ⟨_, rfl⟩
  obtain ⟨DC', hDC⟩ : ∃ D, o.d.map Wr.u8v = D := ⟨_, rfl⟩
  have HKC := hidMk hKC
  have HDC := hidMk hDC
  have HKL : Hid (KC.length = o.key.length * 3) := by rw [Hid, ← hKC]; exact len_cellsV _
  have HDL : Hid (DC'.length = o.d.length) := by rw [Hid, ← hDC]; simp
  have HK1 : Hid (∀ v ∈ KC, v.oneCell' = true) := by rw [Hid, ← hKC]; exact one_flatV _
  have HD1 : Hid (∀ v ∈ DC', v.oneCell' = true) := by rw [Hid, ← hDC]; intro v hv; obtain ⟨q, -, rfl⟩ := List.mem_map.1 hv; rfl
  have HKS : Hid (∀ V, Below W.heap.size W V → 0 < KC.length → ∃ y, o.ka = some y ∧ ∀ j v, KC[j]? = some v → V.cell? (y.add j) = some v) := fun V hV => by rw [← hKC]; exact src_hs (src_V (HO.out.key.later hV))
  have HDS : Hid (∀ V, Below W.heap.size W V → 0 < DC'.length → ∃ y, o.da = some y ∧ ∀ j v, DC'[j]? = some v → V.cell? (y.add j) = some v) := fun V hV => by rw [← hDC]; exact src_hs (src_B (HO.out.dat.later hV))
  clear hKC hDC
  go_wp2_with (first
    | (refine wpList_copy_k rfl _ _ 36 36 rfl 48 3 Tryz.underlying36 size26 (W.heap.size + 1) o.key.length o.key.length o.ka o.key.length o.kc rfl rfl _ 48 HG1.out KC ?c0 (by decide) ?c1 ?c2 ?c3 (W.heap.size + 1) W1 (Below.refl _ _) (Nat.le_refl _) ?_))
  case c0 => first | exact HKL.out | (have q := HKL.out; simpa using q)
  case c1 => exact HKS.out _ HB1.out
  case c2 => have q := HM1.out; have q2 := HKL.out; simp at q ⊢; omega
  case c3 => exact HK1.out
  intro w1 HGK hb1
  have HGK1 : Hid (w1.heap[W.heap.size + 1]? = some (.cells KC.toArray 48 (0, 0))) := by
    have q := HGK.out
    rw [List.drop_eq_nil_of_le (by have q1 := HM1.out; have q2 := HKL.out; omega), List.append_nil] at q
    exact q
  have HB2 := hidMk (HB1.out.trans (hb1.mono (by omega)))
  have HX2 := hidMk ((Gs.under hb1).own HX1.out (fun g e => by have e' : W.heap.size = g := Option.some.inj e; omega))
  have hs2 := hb1.size
  have x3 : w1.cell? ⟨W.heap.size, 4, none⟩ = some (.slice o.da o.d.length o.dc) := (show Own w1 W.heap.size _ _ _ from HX2.out).cell 4 (by decide)
  have HG2 : Hid ((w1.alloc (.cells mc2 5)).heap[w1.heap.size]? = some (.cells mc2.toList.toArray 5 (0, 0))) := by
    rw [Hid, show mc2.toList.toArray = mc2 by simp]
    exact heap_alloc_new w1 (.cells mc2 5)
  have HB3 := hidMk (HB2.out.alloc HB2.out.size (.cells mc2 5))
  have HX3 := hidMk (Own.later (show Own w1 W.heap.size _ _ _ from HX2.out) (bel1 w1 (.cells mc2 5)))
  have HGK2 : Hid ((w1.alloc (.cells mc2 5)).heap[W.heap.size + 1]? = some (.cells KC.toArray 48 (0, 0))) := by
    rw [Hid, (bel1 w1 (.cells mc2 5)).block (W.heap.size + 1) (by omega)]; exact HGK1.out
  have x4 : (w1.alloc (.cells mc2 5)).cell? ⟨W.heap.size, 4, none⟩ = some (.slice o.da o.d.length o.dc) := HX3.out.cell 4 (by decide)
  clear HGK HX1 HB1 HG1 hb1 HGK1 x1
  go_upto_region 4 with fail
  generalize hW3 : w1.alloc (.cells mc2 5) = W3 at *
  generalize hdb : w1.heap.size = db at *
  clear hW3 hdb x3 HX2 HB2
  go_wp2_with (first
    | (refine wpList_copy_k rfl _ _ 39 39 rfl 5 1 Tryz.underlying39 Wr.size5 db o.d.length o.d.length o.da o.d.length o.dc rfl rfl _ 5 HG2.out DC' ?c0 (by decide) ?c1 ?c2 ?c3 db W3 (Below.refl _ _) (Nat.le_refl _) ?_))
  case c0 => first | exact HDL.out | (have q := HDL.out; simpa using q)
  case c1 => exact HDS.out _ HB3.out
  case c2 => have q := HM2.out; have q2 := HDL.out; simp at q ⊢; omega
  case c3 => exact HD1.out
  intro w4 HGD hb4
  have HOD : Hid (Wr.OL w4 W.heap.size (.slice (some ⟨db, 0, none⟩) o.d.length o.d.length) o.d) := by
    have q := HGD.out
    rw [List.drop_eq_nil_of_le (by have q1 := HM2.out; have q2 := HDL.out; omega), List.append_nil, ← HDC.out] at q
    exact row_of_block q (by omega) (by simp) (by unfold maxLen; omega)
  have HB4 := hidMk (HB3.out.trans (hb4.mono (by omega)))
  have HX4 := hidMk ((Gs.under hb4).own HX3.out (fun g e => by have e' : W.heap.size = g := Option.some.inj e; omega))
  have HOK : Hid (OV w4 W.heap.size (.slice (some ⟨W.heap.size + 1, 0, none⟩) o.key.length o.key.length) o.key) := by
    have q := HGK2.out
    rw [← hb4.block (W.heap.size + 1) (by omega), ← HKC.out] at q
    exact row_of_block q (by omega) (len_cellsV _) (by unfold maxLen; omega)
  have hs4 := hb4.size
  have HZ : Hid (db < w4.heap.size) := (World.ownsRow.lt HOD.out db rfl).2
  have hdb2 : W.heap.size + 2 ≤ db := by omega
  clear HGD HX3 HB3 HG2 hb4 HGK2 x4 hmk1 hmk2 HM1 HM2 HKC HDC HKL HDL HK1 HD1 HKS HDS
  obtain ⟨x0, x1, x2, x3, x4, x5⟩ : w4.cell? ⟨W.heap.size, 0, none⟩ = some (.int .i64 2) ∧ w4.cell? ⟨W.heap.size, 1, none⟩ = some (.slice o.ka o.key.length o.kc) ∧ w4.cell? ⟨W.heap.size, 2, none⟩ = some (.int .i64 o.wn.f) ∧ w4.cell? ⟨W.heap.size, 3, none⟩ = some (.int .i64 o.wn.t) ∧ w4.cell? ⟨W.heap.size, 4, none⟩ = some (.slice o.da o.d.length o.dc) ∧ w4.cell? ⟨W.heap.size, 5, none⟩ = some (.int .i64 o.tm) := by
    have q : Own w4 W.heap.size _ _ _ := HX4.out
    exact ⟨q.cell 0 (by decide), q.cell 1 (by decide), q.cell 2 (by decide), q.cell 3 (by decide), q.cell 4 (by decide), q.cell 5 (by decide)⟩
  have HS4 := hidMk (HS.out.later HB4.out)
  obtain ⟨ka4, kc4, hke, HKV', -⟩ := HOK.out.form
  have HKV := hidMk (show VLies w4 (some ⟨W.heap.size + 1, 0, none⟩) o.key from by injection hke with q1 q2 q3; rw [q1]; exact HKV')
  have HDB := hidMk HOD.out.bytes.2
  clear hke HKV'
  have HDR := hidMk (drop_any o.key (some ⟨W.heap.size + 1, 0, none⟩) o.key.length o.wn w4 w0.heap.size t mp lo hi ss HS4.out.ps HKV.out HO.out.good (by omega) HO.out.fits (fun y hy _ => by cases hy; have q := (HS.out.lt (.inl (.inl (.inl rfl)))).2; show W.heap.size + 1 ≠ t; omega))
  have HLK := hidMk (HS.out.look o.key o.wn)
  unfold vv at HDR
  go_wp2_with fail
  refine HDR.out.mono ?_
  rintro e w5 hh
  rcases hh with ⟨l1, rfl, b5⟩ | ⟨y, l1, rfl, hfin⟩
  · have hn : atI (qs.map (·.c)) o.key o.wn = none := by
      rcases HLK.out with ⟨-, q⟩ | ⟨y, i, -, q, -⟩
      · exact q
      · rw [l1] at q; cases q
    have HB5 := hidMk (HB4.out.trans (b5.mono HB4.out.size))
    have HDD := hidMk (dropD_any o.key o.ka o.kc o.wn w5 w0.heap.size s lo hi u qs (HS.out.later HB5.out).ds HS.out.dc (HO.out.key.later HB5.out) (by omega) (HS.out.later HB5.out).bel.size)
    replace x1 := cell_later b5 x1
    replace x2 := cell_later b5 x2
    replace x3 := cell_later b5 x3
    have HN := hidMk hn
    clear b5 hn l1 HDR HLK
    go_wp2_with fail
    refine HDD.out.mono ?_
    rintro e w6 hh
    unfold DDrop at hh
    rcases hh with ⟨-, rfl, b6⟩ | ⟨i, q, -⟩
    · have HF := hidMk ((HS.out.later HB5.out).later b6)
      clear b6
      go_wp2_with fail
      go_ret2
      exact ⟨t, mp, ss, u, qs, by simp, HF.out⟩
    · rw [HN.out] at q; cases q
  · obtain ⟨i, hi', hat⟩ : ∃ i, ∃ hi : i < qs.length, atI (qs.map (·.c)) o.key o.wn = some i := by
      rcases HLK.out with ⟨q, -⟩ | ⟨y, i, hi, -, q, -⟩
      · rw [l1] at q; cases q
      · exact ⟨i, hi, q⟩
    obtain ⟨ss', hp5, hce, g5, hbl⟩ := hfin
    have lw : ∀ i, Bl t mp ss i → w0.heap.size ≤ i ∧ i < W.heap.size := fun i hi => HS.out.lt (.inl hi)
    have b5 : Below w0.heap.size w4 w5 := g5.toBelow HS4.out.bel.size (fun i hi => (lw i (.inl hi)).1)
    have hd5 : DS w5 w0.heap.size s lo hi u qs := HS4.out.ds.kept g5 (fun i hi ht => HS.out.sep i (.inl ht) hi)
    have HL5 : Hid (VLies w5 o.ka o.key) := (HO.out.kept (HS.out.bel.trans (HB4.out.mono HS.out.bel.size) |>.trans b5 |> fun q => (HB4.out.mono HS.out.bel.size).trans b5)).key
    have hx5 : ∀ j v, w4.cell? ⟨W.heap.size, j, none⟩ = some v → w5.cell? ⟨W.heap.size, j, none⟩ = some v := fun j v hc => g5.cell hc (fun ht => by have q := (lw _ (.inl ht)).2; have q2 : W.heap.size < W.heap.size := q; omega)
    replace x1 := hx5 _ _ x1
    replace x2 := hx5 _ _ x2
    replace x3 := hx5 _ _ x3
    have HDD := hidMk (dropD_any o.key o.ka o.kc o.wn w5 w0.heap.size s lo hi u qs hd5 HS.out.dc HL5.out (by omega) (Nat.le_trans HS4.out.bel.size g5.size))
    have HP5 := hidMk hp5
    have HCE := hidMk hce
    have HG5 := hidMk g5
    have HBL := hidMk hbl
    have HB5 := hidMk (HS4.out.bel.trans b5)
    have HAT := hidMk hat
    have HD5 := hidMk hd5
    have HLW := hidMk lw
    clear l1 hp5 hce g5 hbl lw b5 hd5 hx5 HDR HLK hat
    go_wp2_with fail
    refine HDD.out.mono ?_
    rintro e w6 hh
    unfold DDrop at hh
    rcases hh with ⟨q, -⟩ | ⟨i2, q, rfl, u', d6, g6, b6⟩
    · rw [HAT.out] at q; cases q
    · have e2 : i2 = i := by rw [HAT.out] at q; exact (Option.some.inj q).symm
      subst e2
      have HF : Hid (SI w0 w6 t mp s lo hi ss' u' (qs.eraseIdx i2)) := by
        obtain ⟨hii, k1, k2, -⟩ := atI_some HAT.out
        have hmap : (qs.eraseIdx i2).map (·.c) = (qs.map (·.c)).eraseIdx i2 := by rw [List.eraseIdx_eq_take_drop_succ, List.eraseIdx_eq_take_drop_succ, List.map_append, List.map_take, List.map_drop]
        have hperm : ((qs.map (·.c)).eraseIdx i2).Perm (ces ss') := by
          rw [HCE.out]
          exact (er_perm HS.out.apart hii (c := ⟨o.key, o.wn, []⟩) k1 k2).trans (HS.out.perm.filter _)
        have hsep : ∀ i, Bl t mp ss' i → ¬ (i = s) := fun i hi e => HS.out.sep i (HBL.out i hi) (.inl e)
        refine ⟨HP5.out.kept g6 hsep, d6, ?_, ?_, fun i hi hd => ?_, HB5.out.trans (g6.toBelow HB5.out.size (fun i e => by have e' : i = s := e; rw [e']; exact HS.out.ds.ge))⟩
        · refine ⟨fun q hq => HS.out.dc.good q (List.mem_of_mem_eraseIdx hq), ?_⟩
          rw [hmap]
          exact Nat.le_trans (wt_sub (List.eraseIdx_sublist _ _)) HS.out.dc.wl
        · rw [hmap]
          exact srt_of hperm HP5.out.apart (er_asc HS.out.asc _)
        · have hb := HBL.out i hi
          rcases b6 i hd with q | q
          · exact HS.out.sep i hb q
          · have q1 := (HLW.out i hb).2
            have q2 := HG5.out.size
            have q3 := HB4.out.size
            omega
      clear d6 g6 b6 q
      go_wp2_with fail
      go_ret2
      exact ⟨t, mp, ss', u', qs.eraseIdx i2, by simp, HF.out⟩
end Go.Proofs.YtobhccmnlmlapaaGreatDoor
namespace Go.Proofs.YtobhccmnlmlapaaGreatDoor
open Go.RowKit Go.Maps
set_option linter.unusedVariables false
set_option linter.unusedSimpArgs false
set_option maxRecDepth 100000
attribute [local go_sem ↓] eqlW neqW
attribute [local go_sem] guardW

set_option maxHeartbeats 8000000 in
theorem step_3 (w0 W : World) (t mp s : Nat) (lo hi : Int) (ss : List Sh) (u : Value) (qs : List Cx) (o : Ox) (h : SI w0 W t mp s lo hi ss u qs) (ho : OEnt W w0.heap.size o) (ht : ∀ V, Below w0.heap.size w0 V → Vl.Tab V ∧ Wr.Quart V ∧ Wr.Ety V) :
    Calls Tryz.prog 8 #[.pointer (some ⟨t, 0, none⟩), .pointer (some ⟨s, 0, none⟩), .agg #[.int .i64 3, .slice o.ka o.key.length o.kc, .int .i64 o.wn.f, .int .i64 o.wn.t, .slice o.da o.d.length o.dc, .int .i64 o.tm]] W (StepPost w0 s lo hi) := by
  obtain ⟨iv, hv0, hv1, hv2, hv3⟩ := info_parts info26
  obtain ⟨ib, hb0, hb1', hb2', hb3'⟩ := info_parts Wr.info5
  have hkl := ho.kl
  have hdl := ho.dl
  have HS := hidMk h
  have HO := hidMk ho
  have HT := hidMk ht
  have hmk1 : ∀ V : World, (Instr.makeSlice 36 (.int .i64 (o.key.length : Int)) (.int .i64 (o.key.length : Int))).run Tryz.prog V = .ok (.slice (some ⟨V.heap.size, 0, none⟩) o.key.length o.key.length) (V.alloc (.cells (madeCells #[.int .i64 0, .int .i64 0, .string ⟨#[]⟩] (o.key.length * 3)) 48)) := fun V => by
    have q := run_make (P := Tryz.prog) V 36 48 iv (.agg #[.int .i64 0, .int .i64 0, .string ⟨#[]⟩]) Tryz.underlying36 hv0 hv1 .i64 .i64 (o.key.length : Int) (o.key.length : Int) (by omega) (by omega) (by rw [hv3]; omega) (by omega)
    rw [q, hv2, Int.toNat_natCast]
    rfl
  have hmk2 : ∀ V : World, (Instr.makeSlice 39 (.int .i64 (o.d.length : Int)) (.int .i64 (o.d.length : Int))).run Tryz.prog V = .ok (.slice (some ⟨V.heap.size, 0, none⟩) o.d.length o.d.length) (V.alloc (.cells (madeCells #[.int .u8 0] o.d.length) 5)) := fun V => by
    have q := run_make (P := Tryz.prog) V 39 5 ib (.int .u8 0) Tryz.underlying39 hb0 hb1' .i64 .i64 (o.d.length : Int) (o.d.length : Int) (by omega) (by omega) (by rw [hb3']; omega) (by omega)
    rw [q, hb2', Int.toNat_natCast, Nat.mul_one]
    rfl
  have HM1 := hidMk (made_len #[.int .i64 0, .int .i64 0, .string ⟨#[]⟩] (o.key.length * 3) (by decide))
  have HM2 := hidMk (made_len #[.int .u8 0] o.d.length (by decide))
  generalize madeCells #[.int .i64 0, .int .i64 0, .string ⟨#[]⟩] (o.key.length * 3) = mc1 at *
  generalize madeCells #[.int .u8 0] o.d.length = mc2 at *
  have HBX := hidMk (bel1 W (.cells #[.int .i64 3, .slice o.ka o.key.length o.kc, .int .i64 o.wn.f, .int .i64 o.wn.t, .slice o.da o.d.length o.dc, .int .i64 o.tm] 41))
  have HOX := hidMk (Own.new W 41 6 #[.int .i64 3, .slice o.ka o.key.length o.kc, .int .i64 o.wn.f, .int .i64 o.wn.t, .slice o.da o.d.length o.dc, .int .i64 o.tm] rfl)
  have HG1 : Hid (((W.alloc (.cells #[.int .i64 3, .slice o.ka o.key.length o.kc, .int .i64 o.wn.f, .int .i64 o.wn.t, .slice o.da o.d.length o.dc, .int .i64 o.tm] 41)).alloc (.cells mc1 48)).heap[W.heap.size + 1]? = some (.cells mc1.toList.toArray 48 (0, 0))) := by
    have q := heap_alloc_new (W.alloc (.cells #[.int .i64 3, .slice o.ka o.key.length o.kc, .int .i64 o.wn.f, .int .i64 o.wn.t, .slice o.da o.d.length o.dc, .int .i64 o.tm] 41)) (.cells mc1 48)
    rw [show (W.alloc (.cells #[.int .i64 3, .slice o.ka o.key.length o.kc, .int .i64 o.wn.f, .int .i64 o.wn.t, .slice o.da o.d.length o.dc, .int .i64 o.tm] 41)).heap.size = W.heap.size + 1 by simp] at q
    rw [Hid, show mc1.toList.toArray = mc1 by simp]
    exact q
  have HB1 : Hid (Below W.heap.size W ((W.alloc (.cells #[.int .i64 3, .slice o.ka o.key.length o.kc, .int .i64 o.wn.f, .int .i64 o.wn.t, .slice o.da o.d.length o.dc, .int .i64 o.tm] 41)).alloc (.cells mc1 48))) := HBX.out.alloc HBX.out.size _
  have HX1 : Hid (Own ((W.alloc (.cells #[.int .i64 3, .slice o.ka o.key.length o.kc, .int .i64 o.wn.f, .int .i64 o.wn.t, .slice o.da o.d.length o.dc, .int .i64 o.tm] 41)).alloc (.cells mc1 48)) W.heap.size 41 6 #[.int .i64 3, .slice o.ka o.key.length o.kc, .int .i64 o.wn.f, .int .i64 o.wn.t, .slice o.da o.d.length o.dc, .int .i64 o.tm].toList) := HOX.out.later (bel1 _ _)
  have hs1 : ((W.alloc (.cells #[.int .i64 3, .slice o.ka o.key.length o.kc, .int .i64 o.wn.f, .int .i64 o.wn.t, .slice o.da o.d.length o.dc, .int .i64 o.tm] 41)).alloc (.cells mc1 48)).heap.size = W.heap.size + 2 := by simp
  clear h ho ht
  go_enter Tryz.func8, Tryz.ntmps8
  go_upto_region 2 with fail
  generalize ((W.alloc (.cells #[.int .i64 3, .slice o.ka o.key.length o.kc, .int .i64 o.wn.f, .int .i64 o.wn.t, .slice o.da o.d.length o.dc, .int .i64 o.tm] 41)).alloc (.cells mc1 48)) = W1 at *
  have x1 : W1.cell? ⟨W.heap.size, 1, none⟩ = some (.slice o.ka o.key.length o.kc) := HX1.out.cell 1 (by decide)
  obtain ⟨KC, hKC⟩ : ∃ KC, o.key.flatMap cellsV = KC := ⟨_, rfl⟩
  obtain ⟨DC', hDC⟩ : ∃ D, o.d.map Wr.u8v = D := ⟨_, rfl⟩
  have HKC := hidMk hKC
  have HDC := hidMk hDC
  have HKL : Hid (KC.length = o.key.length * 3) := by rw [Hid, ← hKC]; exact len_cellsV _
  have HDL : Hid (DC'.length = o.d.length) := by rw [Hid, ← hDC]; simp
  have HK1 : Hid (∀ v ∈ KC, v.oneCell' = true) := by rw [Hid, ← hKC]; exact one_flatV _
  have HD1 : Hid (∀ v ∈ DC', v.oneCell' = true) := by rw [Hid, ← hDC]; intro v hv; obtain ⟨q, -, rfl⟩ := List.mem_map.1 hv; rfl
  have HKS : Hid (∀ V, Below W.heap.size W V → 0 < KC.length → ∃ y, o.ka = some y ∧ ∀ j v, KC[j]? = some v → V.cell? (y.add j) = some v) := fun V hV => by rw [← hKC]; exact src_hs (src_V (HO.out.key.later hV))
  have HDS : Hid (∀ V, Below W.heap.size W V → 0 < DC'.length → ∃ y, o.da = some y ∧ ∀ j v, DC'[j]? = some v → V.cell? (y.add j) = some v) := fun V hV => by rw [← hDC]; exact src_hs (src_B (HO.out.dat.later hV))
  clear hKC hDC
  go_wp2_with (first
    | (refine wpList_copy_k rfl _ _ 36 36 rfl 48 3 Tryz.underlying36 size26 (W.heap.size + 1) o.key.length o.key.length o.ka o.key.length o.kc rfl rfl _ 48 HG1.out KC ?c0 (by decide) ?c1 ?c2 ?c3 (W.heap.size + 1) W1 (Below.refl _ _) (Nat.le_refl _) ?_))
  case c0 => first | exact HKL.out | (have q := HKL.out; simpa using q)
  case c1 => exact HKS.out _ HB1.out
  case c2 => have q := HM1.out; have q2 := HKL.out; simp at q ⊢; omega
  case c3 => exact HK1.out
  intro w1 HGK hb1
  have HGK1 : Hid (w1.heap[W.heap.size + 1]? = some (.cells KC.toArray 48 (0, 0))) := by
    have q := HGK.out
    rw [List.drop_eq_nil_of_le (by have q1 := HM1.out; have q2 := HKL.out; omega), List.append_nil] at q
    exact q
  have HB2 := hidMk (HB1.out.trans (hb1.mono (by omega)))
  have HX2 := hidMk ((Gs.under hb1).own HX1.out (fun g e => by have e' : W.heap.size = g := Option.some.inj e; omega))
  have hs2 := hb1.size
  have x3 : w1.cell? ⟨W.heap.size, 4, none⟩ = some (.slice o.da o.d.length o.dc) := (show Own w1 W.heap.size _ _ _ from HX2.out).cell 4 (by decide)
  have HG2 : Hid ((w1.alloc (.cells mc2 5)).heap[w1.heap.size]? = some (.cells mc2.toList.toArray 5 (0, 0))) := by
    rw [Hid, show mc2.toList.toArray = mc2 by simp]
    exact heap_alloc_new w1 (.cells mc2 5)
  have HB3 := hidMk (HB2.out.alloc HB2.out.size (.cells mc2 5))
  have HX3 := hidMk (Own.later (show Own w1 W.heap.size _ _ _ from HX2.out) (bel1 w1 (.cells mc2 5)))
  have HGK2 : Hid ((w1.alloc (.cells mc2 5)).heap[W.heap.size + 1]? = some (.cells KC.toArray 48 (0, 0))) := by
    rw [Hid, (bel1 w1 (.cells mc2 5)).block (W.heap.size + 1) (by omega)]; exact HGK1.out
  have x4 : (w1.alloc (.cells mc2 5)).cell? ⟨W.heap.size, 4, none⟩ = some (.slice o.da o.d.length o.dc) := HX3.out.cell 4 (by decide)
  clear HGK HX1 HB1 HG1 hb1 HGK1 x1
  go_upto_region 4 with fail
  generalize hW3 : w1.alloc (.cells mc2 5) = W3 at *
  generalize hdb : w1.heap.size = db at *
  clear hW3 hdb x3 HX2 HB2
  go_wp2_with (first
    | (refine wpList_copy_k rfl _ _ 39 39 rfl 5 1 Tryz.underlying39 Wr.size5 db o.d.length o.d.length o.da o.d.length o.dc rfl rfl _ 5 HG2.out DC' ?c0 (by decide) ?c1 ?c2 ?c3 db W3 (Below.refl _ _) (Nat.le_refl _) ?_))
  case c0 => first | exact HDL.out | (have q := HDL.out; simpa using q)
  case c1 => exact HDS.out _ HB3.out
  case c2 => have q := HM2.out; have q2 := HDL.out; simp at q ⊢; omega
  case c3 => exact HD1.out
  intro w4 HGD hb4
  have HOD : Hid (Wr.OL w4 W.heap.size (.slice (some ⟨db, 0, none⟩) o.d.length o.d.length) o.d) := by
    have q := HGD.out
    rw [List.drop_eq_nil_of_le (by have q1 := HM2.out; have q2 := HDL.out; omega), List.append_nil, ← HDC.out] at q
    exact row_of_block q (by omega) (by simp) (by unfold maxLen; omega)
  have HB4 := hidMk (HB3.out.trans (hb4.mono (by omega)))
  have HX4 := hidMk ((Gs.under hb4).own HX3.out (fun g e => by have e' : W.heap.size = g := Option.some.inj e; omega))
  have HOK : Hid (OV w4 W.heap.size (.slice (some ⟨W.heap.size + 1, 0, none⟩) o.key.length o.key.length) o.key) := by
    have q := HGK2.out
    rw [← hb4.block (W.heap.size + 1) (by omega), ← HKC.out] at q
    exact row_of_block q (by omega) (len_cellsV _) (by unfold maxLen; omega)
  have hs4 := hb4.size
  have HZ : Hid (db < w4.heap.size) := (World.ownsRow.lt HOD.out db rfl).2
  have hdb2 : W.heap.size + 2 ≤ db := by omega
  clear HGD HX3 HB3 HG2 hb4 HGK2 x4 hmk1 hmk2 HM1 HM2 HKC HDC HKL HDL HK1 HD1 HKS HDS
  obtain ⟨x0, x1, x2, x3, x4, x5⟩ : w4.cell? ⟨W.heap.size, 0, none⟩ = some (.int .i64 3) ∧ w4.cell? ⟨W.heap.size, 1, none⟩ = some (.slice o.ka o.key.length o.kc) ∧ w4.cell? ⟨W.heap.size, 2, none⟩ = some (.int .i64 o.wn.f) ∧ w4.cell? ⟨W.heap.size, 3, none⟩ = some (.int .i64 o.wn.t) ∧ w4.cell? ⟨W.heap.size, 4, none⟩ = some (.slice o.da o.d.length o.dc) ∧ w4.cell? ⟨W.heap.size, 5, none⟩ = some (.int .i64 o.tm) := by
    have q : Own w4 W.heap.size _ _ _ := HX4.out
    exact ⟨q.cell 0 (by decide), q.cell 1 (by decide), q.cell 2 (by decide), q.cell 3 (by decide), q.cell 4 (by decide), q.cell 5 (by decide)⟩
  have HS4 := hidMk (HS.out.later HB4.out)
  obtain ⟨ka4, kc4, hke, HKV', -⟩ := HOK.out.form
  have HKV := hidMk (show VLies w4 (some ⟨W.heap.size + 1, 0, none⟩) o.key from by injection hke with q1 q2 q3; rw [q1]; exact HKV')
  have HDB := hidMk HOD.out.bytes.2
  clear hke HKV'
  have HOF := hidMk (of_any o.key (some ⟨W.heap.size + 1, 0, none⟩) o.key.length w4 w0.heap.size t mp lo hi ss HS4.out.ps HKV.out HO.out.good (by omega))
  have HOD2 : Hid (∀ V, Below W.heap.size W V → _) := fun V hV => ofD_any o.key o.ka o.kc V w0.heap.size s lo hi u qs (HS.out.later hV).ds HS.out.dc (HO.out.key.later hV) (by omega)
  go_wp2_with fail
  refine HOF.out.mono ?_
  rintro e w5 ⟨u5, ws, rfl, hp5, ha5, o5, b5⟩
  have hws := HS.out.wins o.key hp5 ha5
  have HB5 := hidMk (HB4.out.trans (b5.mono HB4.out.size))
  have hdq := HOD2.out w5 HB5.out
  rw [← hws] at hdq
  have hwl : ws.length ≤ 2097152 := by rw [hws, List.length_map]; exact Nat.le_trans (List.length_filter_le _ _) HS.out.dc.len
  obtain ⟨a5, c5, hv5⟩ := row_formN o5
  subst hv5
  replace x1 := cell_later b5 x1
  have HO5 := hidMk o5
  have HDQ := hidMk hdq
  clear hp5 ha5 o5 b5 hws hdq HOF HOD2
  go_wp2_with fail
  refine HDQ.out.mono ?_
  rintro e w6 ⟨u6, rfl, o6, b6⟩
  obtain ⟨a6, c6, hv6⟩ := row_formN o6
  subst hv6
  have HB6 := hidMk (HB5.out.trans (b6.mono HB5.out.size))
  have HO6 := hidMk o6
  have HO56 : Hid (OW w6 w4.heap.size (.slice a5 ws.length c5) ws) := own_later HO5.out b6
  have HCL : Hid (∀ {B : Nat} {a : Option Addr} {c : Nat}, OW w6 B (.slice a ws.length c) ws → ∀ i (hi : i < ws.length), ∃ g, a = some ⟨g, 0, none⟩ ∧ w6.cell? ⟨g, i * 2, none⟩ = some (.int .i64 ws[i].f) ∧ w6.cell? ⟨g, i * 2 + 1, none⟩ = some (.int .i64 ws[i].t)) := fun {B a c} ho i hi => by
    obtain ⟨g, hg⟩ : ∃ g, a = some ⟨g, 0, none⟩ := by
      rcases ho.2 with ⟨h1, h2⟩ | ⟨g, cap, cur, h1, -⟩
      · omega
      · injection h1 with h1; exact ⟨g, h1⟩
    subst hg
    have key : ∀ j, j < 2 → w6.cell? ⟨g, i * 2 + j, none⟩ = (cellsN ws[i])[j]? := fun j hj => by
      rw [World.ownsRow.cellAt ho (i * 2 + j) (by omega), flat_at cellsN 2 (fun _ => rfl) ws i j hi hj]
    exact ⟨g, rfl, key 0 (by decide), key 1 (by decide)⟩
  clear o6 b6 HDQ HO5
  go_wp2_with fail
  go_loopg [22] ws.length (fun gk i wr => ∃ j : Nat, gk + j = ws.length ∧ i = .int .i64 j ∧ ∃ n, wr = w6.drewN n)
  case atStart => exact ⟨0, by omega, rfl, 0, rfl⟩
  case round =>
    obtain ⟨j, hgk, rfl, n, rfl⟩ := hrel
    by_cases hj : j < ws.length
    · have hj' : (j : Int) < (ws.length : Int) := by omega
      obtain ⟨g1, e1, c1, c2⟩ := HCL.out HO56.out j hj
      obtain ⟨g2, e2, c3, c4⟩ := HCL.out HO6.out j hj
      subst e1 e2
      generalize ws[j] = y at *
      have heq : eqN y.f y.t y.f y.t = true := by unfold eqN; simp
      go_wp2_with fail
      go_quiet (fail)
      go_wp2_with fail
      go_roundg (gk - 1)
      case measure => omega
      case rel => exact ⟨j + 1, by omega, by go_num, n + nq, by simp⟩
    · have hj' : ¬ (j : Int) < (ws.length : Int) := by omega
      have HF := hidMk (HS.out.later (below_drewN HB6.out n))
      go_wp2_with fail
      go_ret2
      exact ⟨t, mp, ss, u, qs, by simp, HF.out⟩
end Go.Proofs.YtobhccmnlmlapaaGreatDoor
namespace Go.Proofs.YtobhccmnlmlapaaGreatDoor
open Go.RowKit Go.Maps
set_option linter.unusedVariables false
set_option linter.unusedSimpArgs false
set_option maxRecDepth 100000
attribute [local go_sem ↓] eqlW neqW
attribute [local go_sem] guardW

set_option maxHeartbeats 8000000 in
theorem step_4 (w0 W : World) (t mp s : Nat) (lo hi : Int) (ss : List Sh) (u : Value) (qs : List Cx) (o : Ox) (h : SI w0 W t mp s lo hi ss u qs) (ho : OEnt W w0.heap.size o) (ht : ∀ V, Below w0.heap.size w0 V → Vl.Tab V ∧ Wr.Quart V ∧ Wr.Ety V) :
    Calls Tryz.prog 8 #[.pointer (some ⟨t, 0, none⟩), .pointer (some ⟨s, 0, none⟩), .agg #[.int .i64 4, .slice o.ka o.key.length o.kc, .int .i64 o.wn.f, .int .i64 o.wn.t, .slice o.da o.d.length o.dc, .int .i64 o.tm]] W (StepPost w0 s lo hi) := by
  obtain ⟨iv, hv0, hv1, hv2, hv3⟩ := info_parts info26
  obtain ⟨ib, hb0, hb1', hb2', hb3'⟩ := info_parts Wr.info5
  have hkl := ho.kl
  have hdl := ho.dl
  have HS := hidMk h
  have HO := hidMk ho
  have HT := hidMk ht
  have hmk1 : ∀ V : World, (Instr.makeSlice 36 (.int .i64 (o.key.length : Int)) (.int .i64 (o.key.length : Int))).run Tryz.prog V = .ok (.slice (some ⟨V.heap.size, 0, none⟩) o.key.length o.key.length) (V.alloc (.cells (madeCells #[.int .i64 0, .int .i64 0, .string ⟨#[]⟩] (o.key.length * 3)) 48)) := fun V => by
    have q := run_make (P := Tryz.prog) V 36 48 iv (.agg #[.int .i64 0, .int .i64 0, .string ⟨#[]⟩]) Tryz.underlying36 hv0 hv1 .i64 .i64 (o.key.length : Int) (o.key.length : Int) (by omega) (by omega) (by rw [hv3]; omega) (by omega)
    rw [q, hv2, Int.toNat_natCast]
    rfl
  have hmk2 : ∀ V : World, (Instr.makeSlice 39 (.int .i64 (o.d.length : Int)) (.int .i64 (o.d.length : Int))).run Tryz.prog V = .ok (.slice (some ⟨V.heap.size, 0, none⟩) o.d.length o.d.length) (V.alloc (.cells (madeCells #[.int .u8 0] o.d.length) 5)) := fun V => by
    have q := run_make (P := Tryz.prog) V 39 5 ib (.int .u8 0) Tryz.underlying39 hb0 hb1' .i64 .i64 (o.d.length : Int) (o.d.length : Int) (by omega) (by omega) (by rw [hb3']; omega) (by omega)
    rw [q, hb2', Int.toNat_natCast, Nat.mul_one]
    rfl
  have HM1 := hidMk (made_len #[.int .i64 0, .int .i64 0, .string ⟨#[]⟩] (o.key.length * 3) (by decide))
  have HM2 := hidMk (made_len #[.int .u8 0] o.d.length (by decide))
  generalize madeCells #[.int .i64 0, .int .i64 0, .string ⟨#[]⟩] (o.key.length * 3) = mc1 at *
  generalize madeCells #[.int .u8 0] o.d.length = mc2 at *
  have HBX := hidMk (bel1 W (.cells #[.int .i64 4, .slice o.ka o.key.length o.kc, .int .i64 o.wn.f, .int .i64 o.wn.t, .slice o.da o.d.length o.dc, .int .i64 o.tm] 41))
  have HOX := hidMk (Own.new W 41 6 #[.int .i64 4, .slice o.ka o.key.length o.kc, .int .i64 o.wn.f, .int .i64 o.wn.t, .slice o.da o.d.length o.dc, .int .i64 o.tm] rfl)
  have HG1 : Hid (((W.alloc (.cells #[.int .i64 4, .slice o.ka o.key.length o.kc, .int .i64 o.wn.f, .int .i64 o.wn.t, .slice o.da o.d.length o.dc, .int .i64 o.tm] 41)).alloc (.cells mc1 48)).heap[W.heap.size + 1]? = some (.cells mc1.toList.toArray 48 (0, 0))) := by
    have q := heap_alloc_new (W.alloc (.cells #[.int .i64 4, .slice o.ka o.key.length o.kc, .int .i64 o.wn.f, .int .i64 o.wn.t, .slice o.da o.d.length o.dc, .int .i64 o.tm] 41)) (.cells mc1 48)
    rw [show (W.alloc (.cells #[.int .i64 4, .slice o.ka o.key.length o.kc, .int .i64 o.wn.f, .int .i64 o.wn.t, .slice o.da o.d.length o.dc, .int .i64 o.tm] 41)).heap.size = W.heap.size + 1 by simp] at q
    rw [Hid, show mc1.toList.toArray = mc1 by simp]
    exact q
  have HB1 : Hid (Below W.heap.size W ((W.alloc (.cells #[.int .i64 4, .slice o.ka o.key.length o.kc, .int .i64 o.wn.f, .int .i64 o.wn.t, .slice o.da o.d.length o.dc, .int .i64 o.tm] 41)).alloc (.cells mc1 48))) := HBX.out.alloc HBX.out.size _
  have HX1 : Hid (Own ((W.alloc (.cells #[.int .i64 4, .slice o.ka o.key.length o.kc, .int .i64 o.wn.f, .int .i64 o.wn.t, .slice o.da o.d.length o.dc, .int .i64 o.tm] 41)).alloc (.cells mc1 48)) W.heap.size 41 6 #[.int .i64 4, .slice o.ka o.key.length o.kc, .int .i64 o.wn.f, .int .i64 o.wn.t, .slice o.da o.d.length o.dc, .int .i64 o.tm].toList) := HOX.out.later (bel1 _ _)
  have hs1 : ((W.alloc (.cells #[.int .i64 4, .slice o.ka o.key.length o.kc, .int .i64 o.wn.f, .int .i64 o.wn.t, .slice o.da o.d.length o.dc, .int .i64 o.tm] 41)).alloc (.cells mc1 48)).heap.size = W.heap.size + 2 := by simp
  clear h ho ht
  go_enter Tryz.func8, Tryz.ntmps8
  go_upto_region 2 with fail
  generalize ((W.alloc (.cells #[.int .i64 4, .slice o.ka o.key.length o.kc, .int .i64 o.wn.f, .int .i64 o.wn.t, .slice o.da o.d.length o.dc, .int .i64 o.tm] 41)).alloc (.cells mc1 48)) = W1 at *
  have x1 : W1.cell? ⟨W.heap.size, 1, none⟩ = some (.slice o.ka o.key.length o.kc) := HX1.out.cell 1 (by decide)
  obtain ⟨KC, hKC⟩ : ∃ KC, o.key.flatMap cellsV = KC := ⟨_, rfl⟩
  obtain ⟨DC', hDC⟩ : ∃ D, o.d.map Wr.u8v = D := ⟨_, rfl⟩
  have HKC := hidMk hKC
  have HDC := hidMk hDC
  have HKL : Hid (KC.length = o.key.length * 3) := by rw [Hid, ← hKC]; exact len_cellsV _
  have HDL : Hid (DC'.length = o.d.length) := by rw [Hid, ← hDC]; simp
  have HK1 : Hid (∀ v ∈ KC, v.oneCell' = true) := by rw [Hid, ← hKC]; exact one_flatV _
  have HD1 : Hid (∀ v ∈ DC', v.oneCell' = true) := by rw [Hid, ← hDC]; intro v hv; obtain ⟨q, -, rfl⟩ := List.mem_map.1 hv; rfl
  have HKS : Hid (∀ V, Below W.heap.size W V → 0 < KC.length → ∃ y, o.ka = some y ∧ ∀ j v, KC[j]? = some v → V.cell? (y.add j) = some v) := fun V hV => by rw [← hKC]; exact src_hs (src_V (HO.out.key.later hV))
  have HDS : Hid (∀ V, Below W.heap.size W V → 0 < DC'.length → ∃ y, o.da = some y ∧ ∀ j v, DC'[j]? = some v → V.cell? (y.add j) = some v) := fun V hV => by rw [← hDC]; exact src_hs (src_B (HO.out.dat.later hV))
  clear hKC hDC
  go_wp2_with (first
    | (refine wpList_copy_k rfl _ _ 36 36 rfl 48 3 Tryz.underlying36 size26 (W.heap.size + 1) o.key.length o.key.length o.ka o.key.length o.kc rfl rfl _ 48 HG1.out KC ?c0 (by decide) ?c1 ?c2 ?c3 (W.heap.size + 1) W1 (Below.refl _ _) (Nat.le_refl _) ?_))
  case c0 => first | exact HKL.out | (have q := HKL.out; simpa using q)
  case c1 => exact HKS.out _ HB1.out
  case c2 => have q := HM1.out; have q2 := HKL.out; simp at q ⊢; omega
  case c3 => exact HK1.out
  intro w1 HGK hb1
  have HGK1 : Hid (w1.heap[W.heap.size + 1]? = some (.cells KC.toArray 48 (0, 0))) := by
    have q := HGK.out
    rw [List.drop_eq_nil_of_le (by have q1 := HM1.out; have q2 := HKL.out; omega), List.append_nil] at q
    exact q
  have HB2 := hidMk (HB1.out.trans (hb1.mono (by omega)))
  have HX2 := hidMk ((Gs.under hb1).own HX1.out (fun g e => by have e' : W.heap.size = g := Option.some.inj e; omega))
  have hs2 := hb1.size
  have x3 : w1.cell? ⟨W.heap.size, 4, none⟩ = some (.slice o.da o.d.length o.dc) := (show Own w1 W.heap.size _ _ _ from HX2.out).cell 4 (by decide)
  have HG2 : Hid ((w1.alloc (.cells mc2 5)).heap[w1.heap.size]? = some (.cells mc2.toList.toArray 5 (0, 0))) := by
    rw [Hid, show mc2.toList.toArray = mc2 by simp]
    exact heap_alloc_new w1 (.cells mc2 5)
  have HB3 := hidMk (HB2.out.alloc HB2.out.size (.cells mc2 5))
  have HX3 := hidMk (Own.later (show Own w1 W.heap.size _ _ _ from HX2.out) (bel1 w1 (.cells mc2 5)))
  have HGK2 : Hid ((w1.alloc (.cells mc2 5)).heap[W.heap.size + 1]? = some (.cells KC.toArray 48 (0, 0))) := by
    rw [Hid, (bel1 w1 (.cells mc2 5)).block (W.heap.size + 1) (by omega)]; exact HGK1.out
  have x4 : (w1.alloc (.cells mc2 5)).cell? ⟨W.heap.size, 4, none⟩ = some (.slice o.da o.d.length o.dc) := HX3.out.cell 4 (by decide)
  clear HGK HX1 HB1 HG1 hb1 HGK1 x1
  go_upto_region 4 with fail
  generalize hW3 : w1.alloc (.cells mc2 5) = W3 at *
  generalize hdb : w1.heap.size = db at *
  clear hW3 hdb x3 HX2 HB2
  go_wp2_with (first
    | (refine wpList_copy_k rfl _ _ 39 39 rfl 5 1 Tryz.underlying39 Wr.size5 db o.d.length o.d.length o.da o.d.length o.dc rfl rfl _ 5 HG2.out DC' ?c0 (by decide) ?c1 ?c2 ?c3 db W3 (Below.refl _ _) (Nat.le_refl _) ?_))
  case c0 => first | exact HDL.out | (have q := HDL.out; simpa using q)
  case c1 => exact HDS.out _ HB3.out
  case c2 => have q := HM2.out; have q2 := HDL.out; simp at q ⊢; omega
  case c3 => exact HD1.out
  intro w4 HGD hb4
  have HOD : Hid (Wr.OL w4 W.heap.size (.slice (some ⟨db, 0, none⟩) o.d.length o.d.length) o.d) := by
    have q := HGD.out
    rw [List.drop_eq_nil_of_le (by have q1 := HM2.out; have q2 := HDL.out; omega), List.append_nil, ← HDC.out] at q
    exact row_of_block q (by omega) (by simp) (by unfold maxLen; omega)
  have HB4 := hidMk (HB3.out.trans (hb4.mono (by omega)))
  have HX4 := hidMk ((Gs.under hb4).own HX3.out (fun g e => by have e' : W.heap.size = g := Option.some.inj e; omega))
  have HOK : Hid (OV w4 W.heap.size (.slice (some ⟨W.heap.size + 1, 0, none⟩) o.key.length o.key.length) o.key) := by
    have q := HGK2.out
    rw [← hb4.block (W.heap.size + 1) (by omega), ← HKC.out] at q
    exact row_of_block q (by omega) (len_cellsV _) (by unfold maxLen; omega)
  have hs4 := hb4.size
  have HZ : Hid (db < w4.heap.size) := (World.ownsRow.lt HOD.out db rfl).2
  have hdb2 : W.heap.size + 2 ≤ db := by omega
  clear HGD HX3 HB3 HG2 hb4 HGK2 x4 hmk1 hmk2 HM1 HM2 HKC HDC HKL HDL HK1 HD1 HKS HDS
  obtain ⟨x0, x1, x2, x3, x4, x5⟩ : w4.cell? ⟨W.heap.size, 0, none⟩ = some (.int .i64 4) ∧ w4.cell? ⟨W.heap.size, 1, none⟩ = some (.slice o.ka o.key.length o.kc) ∧ w4.cell? ⟨W.heap.size, 2, none⟩ = some (.int .i64 o.wn.f) ∧ w4.cell? ⟨W.heap.size, 3, none⟩ = some (.int .i64 o.wn.t) ∧ w4.cell? ⟨W.heap.size, 4, none⟩ = some (.slice o.da o.d.length o.dc) ∧ w4.cell? ⟨W.heap.size, 5, none⟩ = some (.int .i64 o.tm) := by
    have q : Own w4 W.heap.size _ _ _ := HX4.out
    exact ⟨q.cell 0 (by decide), q.cell 1 (by decide), q.cell 2 (by decide), q.cell 3 (by decide), q.cell 4 (by decide), q.cell 5 (by decide)⟩
  have HS4 := hidMk (HS.out.later HB4.out)
  obtain ⟨ka4, kc4, hke, HKV', -⟩ := HOK.out.form
  have HKV := hidMk (show VLies w4 (some ⟨W.heap.size + 1, 0, none⟩) o.key from by injection hke with q1 q2 q3; rw [q1]; exact HKV')
  have HDB := hidMk HOD.out.bytes.2
  clear hke HKV'
  have HRP := hidMk (ripe_any w4 w0.heap.size t mp lo hi o.tm ss HS4.out.ps)
  go_wp2_with fail
  refine HRP.out.mono ?_
  rintro e w5 ⟨v5, ps, rfl, rc5, e5, b5⟩
  have hps : ps.map (·.c) = (qs.map (·.c)).filter (ripe o.tm) := by rw [e5, HS.out.eq]; exact filter_srt HS.out.ps.apart _
  have HB5 := hidMk (HB4.out.trans (b5.mono HB4.out.size))
  have HCE := hidMk (cellsL_any o.tm w5 w0.heap.size s w4.heap.size lo hi u v5 qs ps (HS.out.later HB5.out).ds HS.out.dc rc5 hps)
  have HIN : Hid (∀ q ∈ ps, q.c.d.length ≤ 67108864 ∧ q.c.key.length ≤ 8) := fun q hq => by
    have hm : q.c ∈ qs.map (·.c) := by
      have h1 : q.c ∈ ps.map (·.c) := List.mem_map.2 ⟨q, hq, rfl⟩
      rw [hps] at h1
      exact (List.mem_filter.1 h1).1
    obtain ⟨q', hq', e'⟩ := List.mem_map.1 hm
    have h1 := HS.out.dc.wl
    have h2 := wt_sub (List.singleton_sublist.2 hm)
    have h3 : wt [q.c] = q.c.d.length + 64 * q.c.key.length + 32 := by simp [wt, wg, wgh]
    have h4 := HS.out.dc.klen hq'
    rw [e'] at h4
    exact ⟨by omega, h4⟩
  have hpl : ps.length ≤ 2097152 := by
    have h1 : ps.length = ((qs.map (·.c)).filter (ripe o.tm)).length := by rw [← hps, List.length_map]
    rw [h1]
    exact Nat.le_trans (List.length_filter_le _ _) (by simpa using HS.out.dc.len)
  obtain ⟨va, vc, hv5⟩ := row_form rc5.own
  subst hv5
  have HRC := hidMk rc5
  replace x5 := cell_later b5 x5
  clear rc5 e5 b5 hps HRP
  go_wp2_with fail
  refine HCE.out.mono ?_
  rintro e w6 ⟨rfl, b6⟩
  have HB6 := hidMk (HB5.out.trans (b6.mono HB5.out.size))
  have HR6 := hidMk (HRC.out.later b6)
  have l4 := HB4.out.size
  clear b6 HCE HRC
  go_wp2_with fail
  go_loopg [25] ps.length (fun gk i wr => ∃ j : Nat, gk + j = ps.length ∧ i = .int .i64 j ∧ KW (fun i => W.heap.size ≤ i ∧ (Value.slice va ps.length vc).ownBlock ≠ some i) w6 wr)
  case atStart => exact ⟨0, by omega, rfl, KW.refl _ _⟩
  case round =>
    obtain ⟨j, hgk, rfl, hkw⟩ := hrel
    have HKW := hidMk hkw
    by_cases hj : j < ps.length
    · have hj' : (j : Int) < (ps.length : Int) := by omega
      have hro : OC wr w4.heap.size (.slice va ps.length vc) ps := hkw.gs.own HR6.out.own (fun g e hs => hs.2 e)
      obtain ⟨g, hg⟩ : ∃ g, va = some ⟨g, 0, none⟩ := by
        rcases hro.2 with ⟨h1, h2⟩ | ⟨g, cap, cur, h1, -⟩
        · omega
        · injection h1 with h1; exact ⟨g, h1⟩
      subst hg
      have hm : ps[j] ∈ ps := List.getElem_mem hj
      have key : ∀ i, i < 4 → wr.cell? ⟨g, j * 4 + i, none⟩ = (cellsC ps[j])[i]? := fun i hi => by
        rw [World.ownsRow.cellAt hro (j * 4 + i) (by omega), flat_at cellsC 4 (fun _ => rfl) ps j i hj hi]
      have c0 : wr.cell? ⟨g, j * 4, none⟩ = some (.slice ps[j].ka ps[j].c.key.length ps[j].kc) := key 0 (by decide)
      have c3 : wr.cell? ⟨g, j * 4 + 3, none⟩ = some ps[j].dv := key 3 (by decide)
      obtain ⟨za, zc, hz⟩ := bytes_form (HR6.out.dat _ hm)
      rw [hz] at c3
      have hwb0 := HR6.out.dat _ hm
      rw [hz] at hwb0
      have hwb := hkw.wb _ _ (OL_WB hwb0)
      have hwv := hkw.wv _ _ (OV_WV (HR6.out.key _ hm))
      obtain ⟨b1, b2⟩ := HIN.out _ hm
      have hrow : ∃ cur : Array Value, wr.heap[g]? = some (.cells cur 55 (0, 0)) := by
        rcases hro.2 with ⟨h1, h2⟩ | ⟨g', cap, cur, h1, -, h3, -⟩
        · cases h1
        · injection h1 with h1; injection h1 with h1; injection h1 with h1; rw [h1]; exact ⟨cur, h3⟩
      have HSP := hidMk (fun V (hV : V = wr.drew) => spoil_any za ps[j].c.d.length zc ps[j].ka ps[j].c.key.length ps[j].kc V (fun i => W.heap.size ≤ i ∧ (Value.slice (some ⟨g, 0, none⟩) ps.length vc).ownBlock ≠ some i) (by rw [hV]; exact hwb) (by rw [hV]; exact hwv) (by omega) (by omega) (fun i hi => by
        obtain ⟨cur, hcur⟩ := hrow
        rcases hi with ⟨h1, h2⟩ | ⟨h1, h2⟩
        · refine ⟨Nat.le_trans l4 (World.ownsRow.lt hwb0 i h2).1, fun e => ?_⟩
          have e' : g = i := Option.some.inj e
          rcases hwb with q | ⟨g', q1, cu, q2, -⟩
          · omega
          · rw [q1] at h2
            have e2 : g' = i := Option.some.inj h2
            rw [e2, ← e', hcur] at q2
            injection q2 with q2
            injection q2 with _ q3
            exact absurd q3 (by decide)
        · refine ⟨Nat.le_trans l4 (World.ownsRow.lt (HR6.out.key _ hm) i h2).1, fun e => ?_⟩
          have e' : g = i := Option.some.inj e
          rcases hwv with q | ⟨g', q1, cu, q2, -⟩
          · omega
          · rw [q1] at h2
            have e2 : g' = i := Option.some.inj h2
            rw [e2, ← e', hcur] at q2
            injection q2 with q2
            injection q2 with _ q3
            exact absurd q3 (by decide)))
      generalize ps[j] = y at *
      clear hkw hro hm key hwb hwv hwb0 hrow hz
      go_wp2_with fail
      refine wp_region_head (K := 10) (C := (fun V => V = wr.drew)) 8 (by kernel_rfl) (by kernel_rfl) (by kernel_rfl) (by decide) (by kernel_rfl) (by kernel_rfl) rfl ?_
      simp only [List.take_succ_cons, List.take_zero]
      with_reducible refine wpQuiet_step ?_
      intro K hK
      go_simp
      refine hK _ ?_
      clear hK K
      with_reducible refine wpQuiet_step ?_
      intro K hK
      go_simp
      refine hK _ ?_
      clear hK K
      with_reducible refine wpQuiet_step ?_
      intro K hK
      go_simp
      refine hK _ ?_
      clear hK K
      with_reducible refine wpQuiet_step ?_
      intro K hK
      go_simp
      refine hK _ ?_
      clear hK K
      with_reducible refine wpQuiet_step ?_
      intro K hK
      go_simp
      refine hK _ ?_
      clear hK K
      with_reducible refine wpQuiet_step ?_
      intro K hK
      go_simp
      refine hK _ ?_
      clear hK K
      with_reducible refine wpQuiet_step ?_
      intro K hK
      go_simp
      refine hK _ ?_
      clear hK K
      with_reducible refine wpQuiet_step ?_
      intro K hK
      go_simp
      refine hK _ ?_
      clear hK K
      with_reducible refine wpQuiet_step ?_
      intro K hK
      go_simp
      refine hK _ ?_
      clear hK K
      with_reducible refine wpQuiet_step ?_
      intro K hK
      go_simp
      refine hK _ ?_
      clear hK K
      intro w' hC
      obtain rfl := hC
      refine wpAny_ready (fuel := 0) (rs := [10]) (by kernel_rfl) (by simp) ?_
      refine AllReady.cons rfl (fun K hK => ?_) AllReady.nil
      go_simp
      refine (HSP.out _ rfl).mono ?_
      rintro e w8 ⟨rfl, hk8⟩
      refine hK _ _ ?_
      clear hK K
      refine ⟨by kernel_rfl, ?_⟩
      have HK8 : Hid (KW (fun i => W.heap.size ≤ i ∧ (Value.slice (some ⟨g, 0, none⟩) ps.length vc).ownBlock ≠ some i) w6 w8) := ⟨(HKW.out.gs.trans (Gs.below (below_drewN (Below.refl _ _) 1))).trans hk8.gs, fun a n h => hk8.wb a n (HKW.out.wb a n h), fun a n h => hk8.wv a n (HKW.out.wv a n h)⟩
      clear hk8 HSP
      go_wp2_with fail
      go_roundg (gk - 1)
      case measure => omega
      case rel => exact ⟨j + 1, by omega, by go_num, HK8.out⟩
    · have hj' : ¬ (j : Int) < (ps.length : Int) := by omega
      have HF := hidMk (HS.out.spoilt HB6.out (hkw.gs.mono (fun i _ h => h.1)))
      clear hkw
      go_wp2_with fail
      go_ret2
      exact ⟨t, mp, ss, u, qs, by simp, HF.out⟩
end Go.Proofs.YtobhccmnlmlapaaGreatDoor
namespace Go.Proofs.YtobhccmnlmlapaaGreatDoor
open Go.RowKit Go.Maps
set_option linter.unusedVariables false
set_option linter.unusedSimpArgs false
set_option maxRecDepth 100000
attribute [local go_sem ↓] eqlW neqW
attribute [local go_sem] guardW

set_option maxHeartbeats 8000000 in
theorem step_5 (w0 W : World) (t mp s : Nat) (lo hi : Int) (ss : List Sh) (u : Value) (qs : List Cx) (o : Ox) (h : SI w0 W t mp s lo hi ss u qs) (ho : OEnt W w0.heap.size o) (ht : ∀ V, Below w0.heap.size w0 V → Vl.Tab V ∧ Wr.Quart V ∧ Wr.Ety V) :
    Calls Tryz.prog 8 #[.pointer (some ⟨t, 0, none⟩), .pointer (some ⟨s, 0, none⟩), .agg #[.int .i64 5, .slice o.ka o.key.length o.kc, .int .i64 o.wn.f, .int .i64 o.wn.t, .slice o.da o.d.length o.dc, .int .i64 o.tm]] W (StepPost w0 s lo hi) := by
  obtain ⟨iv, hv0, hv1, hv2, hv3⟩ := info_parts info26
  obtain ⟨ib, hb0, hb1', hb2', hb3'⟩ := info_parts Wr.info5
  have hkl := ho.kl
  have hdl := ho.dl
  have HS := hidMk h
  have HO := hidMk ho
  have HT := hidMk ht
  have hmk1 : ∀ V : World, (Instr.makeSlice 36 (.int .i64 (o.key.length : Int)) (.int .i64 (o.key.length : Int))).run Tryz.prog V = .ok (.slice (some ⟨V.heap.size, 0, none⟩) o.key.length o.key.length) (V.alloc (.cells (madeCells #[.int .i64 0, .int .i64 0, .string ⟨#[]⟩] (o.key.length * 3)) 48)) := fun V => by
    have q := run_make (P := Tryz.prog) V 36 48 iv (.agg #[.int .i64 0, .int .i64 0, .string ⟨#[]⟩]) Tryz.underlying36 hv0 hv1 .i64 .i64 (o.key.length : Int) (o.key.length : Int) (by omega) (by omega) (by rw [hv3]; omega) (by omega)
    rw [q, hv2, Int.toNat_natCast]
    rfl
  have hmk2 : ∀ V : World, (Instr.makeSlice 39 (.int .i64 (o.d.length : Int)) (.int .i64 (o.d.length : Int))).run Tryz.prog V = .ok (.slice (some ⟨V.heap.size, 0, none⟩) o.d.length o.d.length) (V.alloc (.cells (madeCells #[.int .u8 0] o.d.length) 5)) := fun V => by
    have q := run_make (P := Tryz.prog) V 39 5 ib (.int .u8 0) Tryz.underlying39 hb0 hb1' .i64 .i64 (o.d.length : Int) (o.d.length : Int) (by omega) (by omega) (by rw [hb3']; omega) (by omega)
    rw [q, hb2', Int.toNat_natCast, Nat.mul_one]
    rfl
  have HM1 := hidMk (made_len #[.int .i64 0, .int .i64 0, .string ⟨#[]⟩] (o.key.length * 3) (by decide))
  have HM2 := hidMk (made_len #[.int .u8 0] o.d.length (by decide))
  generalize madeCells #[.int .i64 0, .int .i64 0, .string ⟨#[]⟩] (o.key.length * 3) = mc1 at *
  generalize madeCells #[.int .u8 0] o.d.length = mc2 at *
  have HBX := hidMk (bel1 W (.cells #[.int .i64 5, .slice o.ka o.key.length o.kc, .int .i64 o.wn.f, .int .i64 o.wn.t, .slice o.da o.d.length o.dc, .int .i64 o.tm] 41))
  have HOX := hidMk (Own.new W 41 6 #[.int .i64 5, .slice o.ka o.key.length o.kc, .int .i64 o.wn.f, .int .i64 o.wn.t, .slice o.da o.d.length o.dc, .int .i64 o.tm] rfl)
  have HG1 : Hid (((W.alloc (.cells #[.int .i64 5, .slice o.ka o.key.length o.kc, .int .i64 o.wn.f, .int .i64 o.wn.t, .slice o.da o.d.length o.dc, .int .i64 o.tm] 41)).alloc (.cells mc1 48)).heap[W.heap.size + 1]? = some (.cells mc1.toList.toArray 48 (0, 0))) := by
    have q := heap_alloc_new (W.alloc (.cells #[.int .i64 5, .slice o.ka o.key.length o.kc, .int .i64 o.wn.f, .int .i64 o.wn.t, .slice o.da o.d.length o.dc, .int .i64 o.tm] 41)) (.cells mc1 48)
    rw [show (W.alloc (.cells #[.int .i64 5, .slice o.ka o.key.length o.kc, .int .i64 o.wn.f, .int .i64 o.wn.t, .slice o.da o.d.length o.dc, .int .i64 o.tm] 41)).heap.size = W.heap.size + 1 by simp] at q
    rw [Hid, show mc1.toList.toArray = mc1 by simp]
    exact q
  have HB1 : Hid (Below W.heap.size W ((W.alloc (.cells #[.int .i64 5, .slice o.ka o.key.length o.kc, .int .i64 o.wn.f, .int .i64 o.wn.t, .slice o.da o.d.length o.dc, .int .i64 o.tm] 41)).alloc (.cells mc1 48))) := HBX.out.alloc HBX.out.size _
  have HX1 : Hid (Own ((W.alloc (.cells #[.int .i64 5, .slice o.ka o.key.length o.kc, .int .i64 o.wn.f, .int .i64 o.wn.t, .slice o.da o.d.length o.dc, .int .i64 o.tm] 41)).alloc (.cells mc1 48)) W.heap.size 41 6 #[.int .i64 5, .slice o.ka o.key.length o.kc, .int .i64 o.wn.f, .int .i64 o.wn.t, .slice o.da o.d.length o.dc, .int .i64 o.tm].toList) := HOX.out.later (bel1 _ _)
  have hs1 : ((W.alloc (.cells #[.int .i64 5, .slice o.ka o.key.length o.kc, .int .i64 o.wn.f, .int .i64 o.wn.t, .slice o.da o.d.length o.dc, .int .i64 o.tm] 41)).alloc (.cells mc1 48)).heap.size = W.heap.size + 2 := by simp
  clear h ho ht
  go_enter Tryz.func8, Tryz.ntmps8
  go_upto_region 2 with fail
  generalize ((W.alloc (.cells #[.int .i64 5, .slice o.ka o.key.length o.kc, .int .i64 o.wn.f, .int .i64 o.wn.t, .slice o.da o.d.length o.dc, .int .i64 o.tm] 41)).alloc (.cells mc1 48)) = W1 at *
  have x1 : W1.cell? ⟨W.heap.size, 1, none⟩ = some (.slice o.ka o.key.length o.kc) := HX1.out.cell 1 (by decide)
  obtain ⟨KC, hKC⟩ : ∃ KC, o.key.flatMap cellsV = KC := ⟨_, rfl⟩
  obtain ⟨DC', hDC⟩ : ∃ D, o.d.map Wr.u8v = D := ⟨_, rfl⟩
  have HKC := hidMk hKC
  have HDC := hidMk hDC
  have HKL : Hid (KC.length = o.key.length * 3) := by rw [Hid, ← hKC]; exact len_cellsV _
  have HDL : Hid (DC'.length = o.d.length) := by rw [Hid, ← hDC]; simp
  have HK1 : Hid (∀ v ∈ KC, v.oneCell' = true) := by rw [Hid, ← hKC]; exact one_flatV _
  have HD1 : Hid (∀ v ∈ DC', v.oneCell' = true) := by rw [Hid, ← hDC]; intro v hv; obtain ⟨q, -, rfl⟩ := List.mem_map.1 hv; rfl
  have HKS : Hid (∀ V, Below W.heap.size W V → 0 < KC.length → ∃ y, o.ka = some y ∧ ∀ j v, KC[j]? = some v → V.cell? (y.add j) = some v) := fun V hV => by rw [← hKC]; exact src_hs (src_V (HO.out.key.later hV))
  have HDS : Hid (∀ V, Below W.heap.size W V → 0 < DC'.length → ∃ y, o.da = some y ∧ ∀ j v, DC'[j]? = some v → V.cell? (y.add j) = some v) := fun V hV => by rw [← hDC]; exact src_hs (src_B (HO.out.dat.later hV))
  clear hKC hDC
  go_wp2_with (first
    | (refine wpList_copy_k rfl _ _ 36 36 rfl 48 3 Tryz.underlying36 size26 (W.heap.size + 1) o.key.length o.key.length o.ka o.key.length o.kc rfl rfl _ 48 HG1.out KC ?c0 (by decide) ?c1 ?c2 ?c3 (W.heap.size + 1) W1 (Below.refl _ _) (Nat.le_refl _) ?_))
  case c0 => first | exact HKL.out | (have q := HKL.out; simpa using q)
  case c1 => exact HKS.out _ HB1.out
  case c2 => have q := HM1.out; have q2 := HKL.out; simp at q ⊢; omega
  case c3 => exact HK1.out
  intro w1 HGK hb1
  have HGK1 : Hid (w1.heap[W.heap.size + 1]? = some (.cells KC.toArray 48 (0, 0))) := by
    have q := HGK.out
    rw [List.drop_eq_nil_of_le (by have q1 := HM1.out; have q2 := HKL.out; omega), List.append_nil] at q
    exact q
  have HB2 := hidMk (HB1.out.trans (hb1.mono (by omega)))
  have HX2 := hidMk ((Gs.under hb1).own HX1.out (fun g e => by have e' : W.heap.size = g := Option.some.inj e; omega))
  have hs2 := hb1.size
  have x3 : w1.cell? ⟨W.heap.size, 4, none⟩ = some (.slice o.da o.d.length o.dc) := (show Own w1 W.heap.size _ _ _ from HX2.out).cell 4 (by decide)
  have HG2 : Hid ((w1.alloc (.cells mc2 5)).heap[w1.heap.size]? = some (.cells mc2.toList.toArray 5 (0, 0))) := by
    rw [Hid, show mc2.toList.toArray = mc2 by simp]
    exact heap_alloc_new w1 (.cells mc2 5)
  have HB3 := hidMk (HB2.out.alloc HB2.out.size (.cells mc2 5))
  have HX3 := hidMk (Own.later (show Own w1 W.heap.size _ _ _ from HX2.out) (bel1 w1 (.cells mc2 5)))
  have HGK2 : Hid ((w1.alloc (.cells mc2 5)).heap[W.heap.size + 1]? = some (.cells KC.toArray 48 (0, 0))) := by
    rw [Hid, (bel1 w1 (.cells mc2 5)).block (W.heap.size + 1) (by omega)]; exact HGK1.out
  have x4 : (w1.alloc (.cells mc2 5)).cell? ⟨W.heap.size, 4, none⟩ = some (.slice o.da o.d.length o.dc) := HX3.out.cell 4 (by decide)
  clear HGK HX1 HB1 HG1 hb1 HGK1 x1
  go_upto_region 4 with fail
  generalize hW3 : w1.alloc (.cells mc2 5) = W3 at *
  generalize hdb : w1.heap.size = db at *
  clear hW3 hdb x3 HX2 HB2
  go_wp2_with (first
    | (refine wpList_copy_k rfl _ _ 39 39 rfl 5 1 Tryz.underlying39 Wr.size5 db o.d.length o.d.length o.da o.d.length o.dc rfl rfl _ 5 HG2.out DC' ?c0 (by decide) ?c1 ?c2 ?c3 db W3 (Below.refl _ _) (Nat.le_refl _) ?_))
  case c0 => first | exact HDL.out | (have q := HDL.out; simpa using q)
  case c1 => exact HDS.out _ HB3.out
  case c2 => have q := HM2.out; have q2 := HDL.out; simp at q ⊢; omega
  case c3 => exact HD1.out
  intro w4 HGD hb4
  have HOD : Hid (Wr.OL w4 W.heap.size (.slice (some ⟨db, 0, none⟩) o.d.length o.d.length) o.d) := by
    have q := HGD.out
    rw [List.drop_eq_nil_of_le (by have q1 := HM2.out; have q2 := HDL.out; omega), List.append_nil, ← HDC.out] at q
    exact row_of_block q (by omega) (by simp) (by unfold maxLen; omega)
  have HB4 := hidMk (HB3.out.trans (hb4.mono (by omega)))
  have HX4 := hidMk ((Gs.under hb4).own HX3.out (fun g e => by have e' : W.heap.size = g := Option.some.inj e; omega))
  have HOK : Hid (OV w4 W.heap.size (.slice (some ⟨W.heap.size + 1, 0, none⟩) o.key.length o.key.length) o.key) := by
    have q := HGK2.out
    rw [← hb4.block (W.heap.size + 1) (by omega), ← HKC.out] at q
    exact row_of_block q (by omega) (len_cellsV _) (by unfold maxLen; omega)
  have hs4 := hb4.size
  have HZ : Hid (db < w4.heap.size) := (World.ownsRow.lt HOD.out db rfl).2
  have hdb2 : W.heap.size + 2 ≤ db := by omega
  clear HGD HX3 HB3 HG2 hb4 HGK2 x4 hmk1 hmk2 HM1 HM2 HKC HDC HKL HDL HK1 HD1 HKS HDS
  obtain ⟨x0, x1, x2, x3, x4, x5⟩ : w4.cell? ⟨W.heap.size, 0, none⟩ = some (.int .i64 5) ∧ w4.cell? ⟨W.heap.size, 1, none⟩ = some (.slice o.ka o.key.length o.kc) ∧ w4.cell? ⟨W.heap.size, 2, none⟩ = some (.int .i64 o.wn.f) ∧ w4.cell? ⟨W.heap.size, 3, none⟩ = some (.int .i64 o.wn.t) ∧ w4.cell? ⟨W.heap.size, 4, none⟩ = some (.slice o.da o.d.length o.dc) ∧ w4.cell? ⟨W.heap.size, 5, none⟩ = some (.int .i64 o.tm) := by
    have q : Own w4 W.heap.size _ _ _ := HX4.out
    exact ⟨q.cell 0 (by decide), q.cell 1 (by decide), q.cell 2 (by decide), q.cell 3 (by decide), q.cell 4 (by decide), q.cell 5 (by decide)⟩
  have HS4 := hidMk (HS.out.later HB4.out)
  obtain ⟨ka4, kc4, hke, HKV', -⟩ := HOK.out.form
  have HKV := hidMk (show VLies w4 (some ⟨W.heap.size + 1, 0, none⟩) o.key from by injection hke with q1 q2 q3; rw [q1]; exact HKV')
  have HDB := hidMk HOD.out.bytes.2
  clear hke HKV'
  have HSV := hidMk (save_any w4 w0.heap.size t mp lo hi ss HS4.out.ps (HT.out _ HS4.out.bel).1 (HT.out _ HS4.out.bel).2.1)
  have hrg := HS.out.ps.rg
  obtain ⟨a, ha⟩ : ∃ a : Nat, lo = (a : Int) := ⟨lo.toNat, by omega⟩
  obtain ⟨b, hb⟩ : ∃ b : Nat, hi = (b : Int) := ⟨hi.toNat, by omega⟩
  subst ha hb
  have hab : a ≤ b ∧ b ≤ 32 := ⟨by omega, by omega⟩
  have HGR : Hid (∀ c ∈ ces ss, a ≤ grp c.key ∧ grp c.key < b) := fun c hc => by
    obtain ⟨-, -, q1, q2⟩ := HS.out.ps.okC c hc
    exact ⟨by omega, by omega⟩
  have l4 := HB4.out.size
  go_wp2_with fail
  refine HSV.out.mono ?_
  rintro e w5 ⟨u5, ps, rfl, o5, e5, b5⟩
  have HB5 := hidMk (HB4.out.trans (b5.mono HB4.out.size))
  have HPI := hidMk (piecesL_any w5 w0.heap.size s w4.heap.size a b u u5 qs ps (ces ss) hab (HS.out.later HB5.out).ds HS.out.dc o5 e5 HS.out.ps.apart HS.out.eq HGR.out)
  obtain ⟨pb, pc, hu5, -⟩ := o5.pin
  subst hu5
  have HO5 := hidMk o5
  have HE5 := hidMk e5
  have hpl : ps.length ≤ 32 := by
    have q : ps.length = (saveP (ces ss)).length := by rw [← e5, List.length_map]
    rw [q]; unfold saveP
    exact Nat.le_trans (List.length_filterMap_le _ _) (by simp)
  clear o5 e5 b5 HSV
  go_wp2_with fail
  refine HPI.out.mono ?_
  rintro e w6 ⟨rfl, b6⟩
  have HB6 := hidMk (HB5.out.trans (b6.mono HB5.out.size))
  have HO6 := hidMk (HO5.out.later b6)
  have l6 := HB6.out.size
  clear b6 HPI HO5
  obtain ⟨d0, d1, -⟩ := (HS.out.later HB6.out).ds.cells
  have HNW := hidMk (fun V => new_ok (a : Int) (b : Int) V (by omega))
  have HRD : Hid (Reads (a : Int) (b : Int) (ofG (ces ss)) ps) := reads_of (ces ss) ps _ _ HE5.out HS.out.ps.apart (fun c hc => ⟨by
    obtain ⟨q1, q2, q3, q4⟩ := HS.out.ps.okC c hc
    exact ⟨q1, q2, by omega, by omega⟩, HS.out.ps.good c hc⟩) HS.out.ps.wl
  have HF7 : Hid (∀ w7, Below w6.drew.heap.size w6.drew w7 → w7.cell? ⟨s, 0, none⟩ = some (.int .i64 (a : Int)) ∧ w7.cell? ⟨s, 1, none⟩ = some (.int .i64 (b : Int))) := fun w7 hb => ⟨cell_later hb d0, cell_later hb d1⟩
  go_wp2_with fail
  go_region_held3 (fun V => V.cell? ⟨s, 0, none⟩ = some (.int .i64 (a : Int)) ∧ V.cell? ⟨s, 1, none⟩ = some (.int .i64 (b : Int)))
    (first | exact ⟨d0, d1⟩ | exact ⟨k0, k1⟩ | go_keep)
    (first | (go_at_call 6; refine (HNW.out _).mono ?_; rintro e w7 ⟨t7, m7, rfl, hp7, hb7⟩; obtain ⟨k0, k1⟩ := HF7.out _ hb7))
  have B67 : Below w6.heap.size w6 w7 := (below_drewN (Below.refl _ w6) 1).trans hb7
  have HB7 := hidMk (HB6.out.trans (B67.mono HB6.out.size))
  have HO7 := hidMk (HO6.out.later B67)
  have l7 := B67.size
  have HT7 : Hid (w6.heap.size ≤ t7) := hp7.ge.1
  have HP7 := hidMk hp7
  have HPIN : Hid (PIn w7 w7.heap.size pb ps) := by
    obtain ⟨pb', c', ec, hin⟩ := HO7.out.pin
    injection ec with q1 q2 q3
    rw [q1]; exact hin
  have HLD := hidMk (load_ok w7 w6.drew.heap.size t7 m7 (a : Int) (b : Int) [] pb pc (ofG (ces ss)) ps HP7.out HPIN.out HRD.out (fun V hV => by
    have q := HT.out V ((HS.out.later HB7.out).bel.trans (hV.mono (HS.out.later HB7.out).bel.size))
    exact ⟨q.1, q.2.1⟩))
  clear hp7 hb7 B67 HF7 HNW k0 k1 d0 d1
  go_wp2_with fail
  refine HLD.out.mono ?_
  rintro e w8 ⟨rfl, m8, ss8, p8, e8, g8, k8⟩
  have hlt6 : ∀ {BB T sz n : Nat} {v : Value} {xs : List Value}, w6.ownsRow BB T sz v n xs → ∀ g, v.ownBlock = some g → ¬ (g = t7) := fun hr g hg e => by
    have q1 := (World.ownsRow.lt hr g hg).2
    have q2 := HT7.out
    omega
  have HR8 : Hid (w8.ownsRow w4.heap.size 57 2 (.slice pb ps.length pc) ps.length (ps.flatMap cellsP)) := g8.own HO7.out.own (hlt6 HO6.out.own)
  have HB8 : Hid (∀ p ∈ ps, Wr.OL w8 w4.heap.size p.v p.b) := fun p hp => g8.own (HO7.out.byt p hp) (hlt6 (HO6.out.byt p hp))
  have HLT : Hid (∀ p ∈ ps, ∀ g, p.v.ownBlock = some g → w4.heap.size ≤ g ∧ g < w6.heap.size) := fun p hp g hg => World.ownsRow.lt (HO6.out.byt p hp) g hg
  have HBN : Hid (∀ p ∈ ps, p.b.length ≤ 134217736) := fun p hp => by
    obtain ⟨q1, q2⟩ := HRD.out.byt p hp
    rw [q1, Wr.sealed_len]; omega
  have HSI : Hid (∀ V, Gs (fun i => W.heap.size ≤ i ∧ i < w6.heap.size ∧ (Value.slice pb ps.length pc).ownBlock ≠ some i) w8 V → SI w0 V t7 m8 s (a : Int) (b : Int) ss8 u qs) := fun V hV => by
    have q2 := HT7.out
    have hB : ∀ i, Bl t7 m8 ss8 i → w6.heap.size ≤ i := fun i hi => by rcases k8 i hi with q | q <;> omega
    have hD : ∀ i, DB s u qs i → i < W.heap.size := fun i hi => (HS.out.lt (.inr hi)).2
    have hW := (HS.out.later HB7.out).bel.size
    have hds := ((HS.out.later HB7.out).ds.kept g8 (fun i hi e => by have q1 := hD i hi; have e' : i = t7 := e; omega)).kept hV (fun i hi hs => by have q1 := hD i hi; have q3 := hs.1; omega)
    have hw0 := HS.out.bel.size
    refine ⟨(p8.low (show w0.heap.size ≤ w6.drew.heap.size from Nat.le_trans hw0 l6)).kept hV (fun i hi hs => by have q1 := hB i hi; have q3 := hs.2.1; omega), hds, HS.out.dc, ?_, fun i hi hd => by have q1 := hB i hi; have q3 := hD i hd; omega, ?_⟩
    · rw [HS.out.eq]
      refine srt_congr ?_ HS.out.ps.apart
      refine (List.Perm.trans e8 ?_).symm
      refine (accP_perm (ces ss) ps (a : Int) (b : Int) HE5.out).trans ?_
      rw [List.filter_eq_self.2 fun c hc => ?_]
      obtain ⟨q1, q3⟩ := HGR.out c hc
      unfold inL
      simp
      omega
    · exact ((HS.out.later HB7.out).bel.trans (g8.toBelow (Nat.le_trans hw0 (Nat.le_trans l6 l7)) (fun i e => by have e' : i = t7 := e; omega))).trans (hV.toBelow (Nat.le_trans hw0 (Nat.le_trans l6 (Nat.le_trans l7 g8.size))) (fun i hs => by have q := hs.1; omega))
  clear p8 e8 g8 k8 hlt6 HO7 HO6 HP7 HPIN HLD HRD
  go_wp2_with fail
  go_loopg [30] ps.length (fun gk i wr => ∃ j : Nat, gk + j = ps.length ∧ i = .int .i64 j ∧ KW (fun i => W.heap.size ≤ i ∧ i < w6.heap.size ∧ (Value.slice pb ps.length pc).ownBlock ≠ some i) w8 wr)
  case atStart => exact ⟨0, by omega, rfl, KW.refl _ _⟩
  case round =>
    obtain ⟨j, hgk, rfl, hkw⟩ := hrel
    have HKW := hidMk hkw
    by_cases hj : j < ps.length
    · have hj' : (j : Int) < (ps.length : Int) := by omega
      have hro : wr.ownsRow w4.heap.size 57 2 (.slice pb ps.length pc) ps.length (ps.flatMap cellsP) := hkw.gs.own HR8.out (fun g e hs => hs.2.2 e)
      obtain ⟨g, hg⟩ : ∃ g, pb = some ⟨g, 0, none⟩ := by
        rcases hro.2 with ⟨h1, h2⟩ | ⟨g, cap, cur, h1, -⟩
        · omega
        · injection h1 with h1; exact ⟨g, h1⟩
      subst hg
      have hm : ps[j] ∈ ps := List.getElem_mem hj
      have key : ∀ i, i < 2 → wr.cell? ⟨g, j * 2 + i, none⟩ = (cellsP ps[j])[i]? := fun i hi => by
        rw [World.ownsRow.cellAt hro (j * 2 + i) (by omega), flat_at cellsP 2 (fun _ => rfl) ps j i hj hi]
      have c1 : wr.cell? ⟨g, j * 2 + 1, none⟩ = some ps[j].v := key 1 (by decide)
      obtain ⟨za, zc, hz⟩ := bytes_form (HB8.out _ hm)
      have hwb0 := HB8.out _ hm
      have hlt := HLT.out _ hm
      rw [hz] at c1 hwb0 hlt
      have hwb := hkw.wb _ _ (OL_WB hwb0)
      have hbn := HBN.out _ hm
      have hrow : ∃ cur : Array Value, wr.heap[g]? = some (.cells cur 57 (0, 0)) := by
        rcases hro.2 with ⟨h1, h2⟩ | ⟨g', cap, cur, h1, -, h3, -⟩
        · cases h1
        · injection h1 with h1; injection h1 with h1; injection h1 with h1; rw [h1]; exact ⟨cur, h3⟩
      have HSP := hidMk (spoil_any za ps[j].b.length zc none 0 0 wr (fun i => W.heap.size ≤ i ∧ i < w6.heap.size ∧ (Value.slice (some ⟨g, 0, none⟩) ps.length pc).ownBlock ≠ some i) hwb (.inl rfl) (by omega) (by omega) (fun i hi => by
        obtain ⟨cur, hcur⟩ := hrow
        rcases hi with ⟨h1, h2⟩ | ⟨h1, h2⟩
        · refine ⟨Nat.le_trans l4 (hlt i h2).1, (hlt i h2).2, fun e => ?_⟩
          have e' : g = i := Option.some.inj e
          rcases hwb with q | ⟨g', q1, cu, q2, -⟩
          · omega
          · rw [q1] at h2
            have e2 : g' = i := Option.some.inj h2
            rw [e2, ← e', hcur] at q2
            injection q2 with q2
            injection q2 with _ q3
            exact absurd q3 (by decide)
        · omega))
      generalize ps[j].b.length = bl at *
      clear hkw hro hm key hwb hwb0 hlt hrow hz
      go_wp2_with fail
      refine HSP.out.mono ?_
      rintro e w9 ⟨rfl, hk9⟩
      have HK9 : Hid (KW (fun i => W.heap.size ≤ i ∧ i < w6.heap.size ∧ (Value.slice (some ⟨g, 0, none⟩) ps.length pc).ownBlock ≠ some i) w8 w9) := ⟨HKW.out.gs.trans hk9.gs, fun a n h => hk9.wb a n (HKW.out.wb a n h), fun a n h => hk9.wv a n (HKW.out.wv a n h)⟩
      clear hk9 HSP
      go_wp2_with fail
      go_roundg (gk - 1)
      case measure => omega
      case rel => exact ⟨j + 1, by omega, by go_num, HK9.out⟩
    · have hj' : ¬ (j : Int) < (ps.length : Int) := by omega
      have HF := hidMk (fun n => (HSI.out wr hkw.gs).later (below_drewN (Below.refl _ _) n))
      clear hkw
      go_wp2_with fail
      go_quiet (fail)
      go_wp2_with fail
      go_ret2
      exact ⟨t7, m8, ss8, u, qs, by simp, HF.out _⟩
end Go.Proofs.YtobhccmnlmlapaaGreatDoor
namespace Go.Proofs.YtobhccmnlmlapaaGreatDoor
open Go.RowKit Go.Maps
set_option linter.unusedVariables false
set_option linter.unusedSimpArgs false
set_option maxRecDepth 100000
attribute [local go_sem ↓] eqlW neqW
attribute [local go_sem] guardW

set_option maxHeartbeats 8000000 in
theorem step_6 (w0 W : World) (t mp s : Nat) (lo hi : Int) (ss : List Sh) (u : Value) (qs : List Cx) (o : Ox) (h : SI w0 W t mp s lo hi ss u qs) (ho : OEnt W w0.heap.size o) (ht : ∀ V, Below w0.heap.size w0 V → Vl.Tab V ∧ Wr.Quart V ∧ Wr.Ety V) (h0 : (o.kd == 0) = false) (h1 : (o.kd == 1) = false) (h2 : (o.kd == 2) = false) (h3 : (o.kd == 3) = false) (h4 : (o.kd == 4) = false) (h5 : (o.kd == 5) = false) :
    Calls Tryz.prog 8 #[.pointer (some ⟨t, 0, none⟩), .pointer (some ⟨s, 0, none⟩), .agg #[.int .i64 o.kd, .slice o.ka o.key.length o.kc, .int .i64 o.wn.f, .int .i64 o.wn.t, .slice o.da o.d.length o.dc, .int .i64 o.tm]] W (StepPost w0 s lo hi) := by
  obtain ⟨iv, hv0, hv1, hv2, hv3⟩ := info_parts info26
  obtain ⟨ib, hb0, hb1', hb2', hb3'⟩ := info_parts Wr.info5
  have hkl := ho.kl
  have hdl := ho.dl
  have HS := hidMk h
  have HO := hidMk ho
  have HT := hidMk ht
  have hmk1 : ∀ V : World, (Instr.makeSlice 36 (.int .i64 (o.key.length : Int)) (.int .i64 (o.key.length : Int))).run Tryz.prog V = .ok (.slice (some ⟨V.heap.size, 0, none⟩) o.key.length o.key.length) (V.alloc (.cells (madeCells #[.int .i64 0, .int .i64 0, .string ⟨#[]⟩] (o.key.length * 3)) 48)) := fun V => by
    have q := run_make (P := Tryz.prog) V 36 48 iv (.agg #[.int .i64 0, .int .i64 0, .string ⟨#[]⟩]) Tryz.underlying36 hv0 hv1 .i64 .i64 (o.key.length : Int) (o.key.length : Int) (by omega) (by omega) (by rw [hv3]; omega) (by omega)
    rw [q, hv2, Int.toNat_natCast]
    rfl
  have hmk2 : ∀ V : World, (Instr.makeSlice 39 (.int .i64 (o.d.length : Int)) (.int .i64 (o.d.length : Int))).run Tryz.prog V = .ok (.slice (some ⟨V.heap.size, 0, none⟩) o.d.length o.d.length) (V.alloc (.cells (madeCells #[.int .u8 0] o.d.length) 5)) := fun V => by
    have q := run_make (P := Tryz.prog) V 39 5 ib (.int .u8 0) Tryz.underlying39 hb0 hb1' .i64 .i64 (o.d.length : Int) (o.d.length : Int) (by omega) (by omega) (by rw [hb3']; omega) (by omega)
    rw [q, hb2', Int.toNat_natCast, Nat.mul_one]
    rfl
  have HM1 := hidMk (made_len #[.int .i64 0, .int .i64 0, .string ⟨#[]⟩] (o.key.length * 3) (by decide))
  have HM2 := hidMk (made_len #[.int .u8 0] o.d.length (by decide))
  generalize madeCells #[.int .i64 0, .int .i64 0, .string ⟨#[]⟩] (o.key.length * 3) = mc1 at *
  generalize madeCells #[.int .u8 0] o.d.length = mc2 at *
  have HBX := hidMk (bel1 W (.cells #[.int .i64 o.kd, .slice o.ka o.key.length o.kc, .int .i64 o.wn.f, .int .i64 o.wn.t, .slice o.da o.d.length o.dc, .int .i64 o.tm] 41))
  have HOX := hidMk (Own.new W 41 6 #[.int .i64 o.kd, .slice o.ka o.key.length o.kc, .int .i64 o.wn.f, .int .i64 o.wn.t, .slice o.da o.d.length o.dc, .int .i64 o.tm] rfl)
  have HG1 : Hid (((W.alloc (.cells #[.int .i64 o.kd, .slice o.ka o.key.length o.kc, .int .i64 o.wn.f, .int .i64 o.wn.t, .slice o.da o.d.length o.dc, .int .i64 o.tm] 41)).alloc (.cells mc1 48)).heap[W.heap.size + 1]? = some (.cells mc1.toList.toArray 48 (0, 0))) := by
    have q := heap_alloc_new (W.alloc (.cells #[.int .i64 o.kd, .slice o.ka o.key.length o.kc, .int .i64 o.wn.f, .int .i64 o.wn.t, .slice o.da o.d.length o.dc, .int .i64 o.tm] 41)) (.cells mc1 48)
    rw [show (W.alloc (.cells #[.int .i64 o.kd, .slice o.ka o.key.length o.kc, .int .i64 o.wn.f, .int .i64 o.wn.t, .slice o.da o.d.length o.dc, .int .i64 o.tm] 41)).heap.size = W.heap.size + 1 by simp] at q
    rw [Hid, show mc1.toList.toArray = mc1 by simp]
    exact q
  have HB1 : Hid (Below W.heap.size W ((W.alloc (.cells #[.int .i64 o.kd, .slice o.ka o.key.length o.kc, .int .i64 o.wn.f, .int .i64 o.wn.t, .slice o.da o.d.length o.dc, .int .i64 o.tm] 41)).alloc (.cells mc1 48))) := HBX.out.alloc HBX.out.size _
  have HX1 : Hid (Own ((W.alloc (.cells #[.int .i64 o.kd, .slice o.ka o.key.length o.kc, .int .i64 o.wn.f, .int .i64 o.wn.t, .slice o.da o.d.length o.dc, .int .i64 o.tm] 41)).alloc (.cells mc1 48)) W.heap.size 41 6 #[.int .i64 o.kd, .slice o.ka o.key.length o.kc, .int .i64 o.wn.f, .int .i64 o.wn.t, .slice o.da o.d.length o.dc, .int .i64 o.tm].toList) := HOX.out.later (bel1 _ _)
  have hs1 : ((W.alloc (.cells #[.int .i64 o.kd, .slice o.ka o.key.length o.kc, .int .i64 o.wn.f, .int .i64 o.wn.t, .slice o.da o.d.length o.dc, .int .i64 o.tm] 41)).alloc (.cells mc1 48)).heap.size = W.heap.size + 2 := by simp
  clear h ho ht
  go_enter Tryz.func8, Tryz.ntmps8
  go_upto_region 2 with fail
  generalize ((W.alloc (.cells #[.int .i64 o.kd, .slice o.ka o.key.length o.kc, .int .i64 o.wn.f, .int .i64 o.wn.t, .slice o.da o.d.length o.dc, .int .i64 o.tm] 41)).alloc (.cells mc1 48)) = W1 at *
  have x1 : W1.cell? ⟨W.heap.size, 1, none⟩ = some (.slice o.ka o.key.length o.kc) := HX1.out.cell 1 (by decide)
  obtain ⟨KC, hKC⟩ : ∃ KC, o.key.flatMap cellsV = KC := ⟨_, rfl⟩
  obtain ⟨DC', hDC⟩ : ∃ D, o.d.map Wr.u8v = D := ⟨_, rfl⟩
  have HKC := hidMk hKC
  have HDC := hidMk hDC
  have HKL : Hid (KC.length = o.key.length * 3) := by rw [Hid, ← hKC]; exact len_cellsV _
  have HDL : Hid (DC'.length = o.d.length) := by rw [Hid, ← hDC]; simp
  have HK1 : Hid (∀ v ∈ KC, v.oneCell' = true) := by rw [Hid, ← hKC]; exact one_flatV _
  have HD1 : Hid (∀ v ∈ DC', v.oneCell' = true) := by rw [Hid, ← hDC]; intro v hv; obtain ⟨q, -, rfl⟩ := List.mem_map.1 hv; rfl
  have HKS : Hid (∀ V, Below W.heap.size W V → 0 < KC.length → ∃ y, o.ka = some y ∧ ∀ j v, KC[j]? = some v → V.cell? (y.add j) = some v) := fun V hV => by rw [← hKC]; exact src_hs (src_V (HO.out.key.later hV))
  have HDS : Hid (∀ V, Below W.heap.size W V → 0 < DC'.length → ∃ y, o.da = some y ∧ ∀ j v, DC'[j]? = some v → V.cell? (y.add j) = some v) := fun V hV => by rw [← hDC]; exact src_hs (src_B (HO.out.dat.later hV))
  clear hKC hDC
  go_wp2_with (first
    | (refine wpList_copy_k rfl _ _ 36 36 rfl 48 3 Tryz.underlying36 size26 (W.heap.size + 1) o.key.length o.key.length o.ka o.key.length o.kc rfl rfl _ 48 HG1.out KC ?c0 (by decide) ?c1 ?c2 ?c3 (W.heap.size + 1) W1 (Below.refl _ _) (Nat.le_refl _) ?_))
  case c0 => first | exact HKL.out | (have q := HKL.out; simpa using q)
  case c1 => exact HKS.out _ HB1.out
  case c2 => have q := HM1.out; have q2 := HKL.out; simp at q ⊢; omega
  case c3 => exact HK1.out
  intro w1 HGK hb1
  have HGK1 : Hid (w1.heap[W.heap.size + 1]? = some (.cells KC.toArray 48 (0, 0))) := by
    have q := HGK.out
    rw [List.drop_eq_nil_of_le (by have q1 := HM1.out; have q2 := HKL.out; omega), List.append_nil] at q
    exact q
  have HB2 := hidMk (HB1.out.trans (hb1.mono (by omega)))
  have HX2 := hidMk ((Gs.under hb1).own HX1.out (fun g e => by have e' : W.heap.size = g := Option.some.inj e; omega))
  have hs2 := hb1.size
  have x3 : w1.cell? ⟨W.heap.size, 4, none⟩ = some (.slice o.da o.d.length o.dc) := (show Own w1 W.heap.size _ _ _ from HX2.out).cell 4 (by decide)
  have HG2 : Hid ((w1.alloc (.cells mc2 5)).heap[w1.heap.size]? = some (.cells mc2.toList.toArray 5 (0, 0))) := by
    rw [Hid, show mc2.toList.toArray = mc2 by simp]
    exact heap_alloc_new w1 (.cells mc2 5)
  have HB3 := hidMk (HB2.out.alloc HB2.out.size (.cells mc2 5))
  have HX3 := hidMk (Own.later (show Own w1 W.heap.size _ _ _ from HX2.out) (bel1 w1 (.cells mc2 5)))
  have HGK2 : Hid ((w1.alloc (.cells mc2 5)).heap[W.heap.size + 1]? = some (.cells KC.toArray 48 (0, 0))) := by
    rw [Hid, (bel1 w1 (.cells mc2 5)).block (W.heap.size + 1) (by omega)]; exact HGK1.out
  have x4 : (w1.alloc (.cells mc2 5)).cell? ⟨W.heap.size, 4, none⟩ = some (.slice o.da o.d.length o.dc) := HX3.out.cell 4 (by decide)
  clear HGK HX1 HB1 HG1 hb1 HGK1 x1
  go_upto_region 4 with fail
  generalize hW3 : w1.alloc (.cells mc2 5) = W3 at *
  generalize hdb : w1.heap.size = db at *
  clear hW3 hdb x3 HX2 HB2
  go_wp2_with (first
    | (refine wpList_copy_k rfl _ _ 39 39 rfl 5 1 Tryz.underlying39 Wr.size5 db o.d.length o.d.length o.da o.d.length o.dc rfl rfl _ 5 HG2.out DC' ?c0 (by decide) ?c1 ?c2 ?c3 db W3 (Below.refl _ _) (Nat.le_refl _) ?_))
  case c0 => first | exact HDL.out | (have q := HDL.out; simpa using q)
  case c1 => exact HDS.out _ HB3.out
  case c2 => have q := HM2.out; have q2 := HDL.out; simp at q ⊢; omega
  case c3 => exact HD1.out
  intro w4 HGD hb4
  have HOD : Hid (Wr.OL w4 W.heap.size (.slice (some ⟨db, 0, none⟩) o.d.length o.d.length) o.d) := by
    have q := HGD.out
    rw [List.drop_eq_nil_of_le (by have q1 := HM2.out; have q2 := HDL.out; omega), List.append_nil, ← HDC.out] at q
    exact row_of_block q (by omega) (by simp) (by unfold maxLen; omega)
  have HB4 := hidMk (HB3.out.trans (hb4.mono (by omega)))
  have HX4 := hidMk ((Gs.under hb4).own HX3.out (fun g e => by have e' : W.heap.size = g := Option.some.inj e; omega))
  have HOK : Hid (OV w4 W.heap.size (.slice (some ⟨W.heap.size + 1, 0, none⟩) o.key.length o.key.length) o.key) := by
    have q := HGK2.out
    rw [← hb4.block (W.heap.size + 1) (by omega), ← HKC.out] at q
    exact row_of_block q (by omega) (len_cellsV _) (by unfold maxLen; omega)
  have hs4 := hb4.size
  have HZ : Hid (db < w4.heap.size) := (World.ownsRow.lt HOD.out db rfl).2
  have hdb2 : W.heap.size + 2 ≤ db := by omega
  clear HGD HX3 HB3 HG2 hb4 HGK2 x4 hmk1 hmk2 HM1 HM2 HKC HDC HKL HDL HK1 HD1 HKS HDS
  obtain ⟨x0, x1, x2, x3, x4, x5⟩ : w4.cell? ⟨W.heap.size, 0, none⟩ = some (.int .i64 o.kd) ∧ w4.cell? ⟨W.heap.size, 1, none⟩ = some (.slice o.ka o.key.length o.kc) ∧ w4.cell? ⟨W.heap.size, 2, none⟩ = some (.int .i64 o.wn.f) ∧ w4.cell? ⟨W.heap.size, 3, none⟩ = some (.int .i64 o.wn.t) ∧ w4.cell? ⟨W.heap.size, 4, none⟩ = some (.slice o.da o.d.length o.dc) ∧ w4.cell? ⟨W.heap.size, 5, none⟩ = some (.int .i64 o.tm) := by
    have q : Own w4 W.heap.size _ _ _ := HX4.out
    exact ⟨q.cell 0 (by decide), q.cell 1 (by decide), q.cell 2 (by decide), q.cell 3 (by decide), q.cell 4 (by decide), q.cell 5 (by decide)⟩
  have HS4 := hidMk (HS.out.later HB4.out)
  obtain ⟨ka4, kc4, hke, HKV', -⟩ := HOK.out.form
  have HKV := hidMk (show VLies w4 (some ⟨W.heap.size + 1, 0, none⟩) o.key from by injection hke with q1 q2 q3; rw [q1]; exact HKV')
  have HDB := hidMk HOD.out.bytes.2
  clear hke HKV'
  obtain ⟨p0, p1, -⟩ := HS4.out.ps.cells
  have HOW := hidMk (owns_any o.key (some ⟨W.heap.size + 1, 0, none⟩) o.key.length w4 t lo hi p0 p1 HKV.out HO.out.good (by omega) (HT.out _ HS4.out.bel).1)
  have HOD2 : Hid (∀ V, Below W.heap.size W V → Calls Tryz.prog 30 #[.pointer (some ⟨s, 0, none⟩), .slice o.ka o.key.length o.kc] V fun e w' => e = .returned (.bool (ow lo hi o.key)) ∧ Below V.heap.size V w') := fun V hV => ownsD_any o.key o.ka o.kc V s lo hi ((HS.out.later hV).ds.cells.1) ((HS.out.later hV).ds.cells.2.1) (HO.out.key.later hV) HO.out.good (by omega)
  have HLN : Hid (∀ V, Below W.heap.size W V → Calls Tryz.prog 15 #[.pointer (some ⟨t, 0, none⟩)] V fun e w' => e = .returned (.int .i64 ((ces ss).length : Int)) ∧ w' = V) := fun V hV => len_any V w0.heap.size t mp lo hi _ _ ss (HS.out.later hV).ps
  have hql : qs.length = (ces ss).length := by have q := HS.out.perm.length_eq; simpa using q
  obtain ⟨ua, uc, hu, -⟩ := HS.out.ds.row.form
  subst hu
  rw [hql] at HS HS4
  clear p0 p1
  go_wp2_with fail
  refine HOW.out.mono ?_
  rintro e w5 ⟨rfl, b5⟩
  replace x1 := cell_later b5 x1
  have HB5 := hidMk (HB4.out.trans (b5.mono HB4.out.size))
  clear b5
  go_wp2_with fail
  refine (HOD2.out _ HB5.out).mono ?_
  rintro e w6 ⟨rfl, b6⟩
  have HB6 := hidMk (HB5.out.trans (b6.mono HB5.out.size))
  clear b6
  go_wp2_with fail
  refine (HLN.out _ HB6.out).mono ?_
  rintro e w7 ⟨rfl, hw7⟩
  subst hw7
  have d2 := (HS.out.later HB6.out).ds.cells.2.2
  clear hql
  generalize ow lo hi o.key = bo at *
  have hbb : (bo == bo) = true := by simp
  go_wp2_with fail
  go_quiet (fail)
  go_wp2_with fail
  go_ret2
  refine ⟨t, mp, ss, .slice ua (ces ss).length uc, qs, by simp, HS.out.later (below_drewN HB6.out nq)⟩
end Go.Proofs.YtobhccmnlmlapaaGreatDoor
