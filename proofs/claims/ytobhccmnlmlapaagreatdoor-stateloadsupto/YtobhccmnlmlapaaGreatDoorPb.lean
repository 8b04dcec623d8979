import Derived.Test.YtobhccmnlmlapaaGreatDoorPa
import Derived.Test.YtobhccmnlmlapaaGreatDoorQStZk
import Derived.Test.YtobhccmnlmlapaaGreatDoorPa
import Derived.Deep.AppendLies
import Derived.Test.YtobhccmnlmlapaaGreatDoorQHdA
namespace Go.Proofs.YtobhccmnlmlapaaGreatDoor
open Go.RowKit Go.Maps
set_option linter.unusedVariables false
set_option linter.unusedSimpArgs false
set_option maxRecDepth 100000
attribute [local go_sem ↓] eqlW neqW
attribute [local go_sem] guardW

theorem DC.put {qs qs' : List Cx} {c : Ce} (h : DC qs) (hp : (qs'.map (·.c)).Perm (putC (qs.map (·.c)) c)) (hg : GoodK c.key) (hv : vk c.key = true) (hk : kp c.w = true) (hw : wt (putC (qs.map (·.c)) c) ≤ 67108864) : DC qs' := by
  refine ⟨fun q hq => ?_, by rw [wt_perm hp]; exact hw⟩
  have hm := hp.mem_iff.1 (List.mem_map.2 ⟨q, hq, rfl⟩)
  unfold putC at hm
  rcases List.mem_cons.1 hm with e | hm
  · rw [e]; exact ⟨hg, hv, hk⟩
  · obtain ⟨q', hq', e⟩ := List.mem_map.1 (List.mem_filter.1 hm).1
    rw [← e]; exact h.good q' hq'
/-- What the document's Put answers. -/
def DPut (w : World) (B s : Nat) (lo hi : Int) (u : Value) (qs : List Cx) (c : Ce) (e : Ending) (w' : World) : Prop :=
  (rngC lo hi c.key c.w = false ∧ e = .returned (.int .i64 4) ∧ Below w.heap.size w w') ∨
  (rngC lo hi c.key c.w = true ∧ 67108864 < wt (putC (qs.map (·.c)) c) ∧ e = .returned (.int .i64 5) ∧ Below w.heap.size w w') ∨
  (rngC lo hi c.key c.w = true ∧ ¬ 67108864 < wt (putC (qs.map (·.c)) c) ∧ e = .returned (.int .i64 0) ∧ ∃ u' qs', DS w' B s lo hi u' qs' ∧ (qs'.map (·.c)).Perm (putC (qs.map (·.c)) c) ∧ AscC (qs'.map (·.c)) ∧ Gs (fun i => i = s ∨ u.ownBlock = some i) w w' ∧ ∀ i, DB s u' qs' i → DB s u qs i ∨ w.heap.size ≤ i)
set_option maxHeartbeats 8000000 in
theorem putD_any (vs : List V) (a : Option Addr) (c : Nat) (x : Wn) (da : Option Addr) (d : List UInt8) (dc : Nat) (w : World) (B s : Nat) (lo hi : Int) (u : Value) (qs : List Cx) (h : DS w B s lo hi u qs) (hc : DC qs) (hap : Apart (qs.map (·.c))) (hasc : AscC (qs.map (·.c))) (hl : VLies w a vs) (hg : GoodK vs) (hvl : vs.length ≤ 1048576) (hdn : d.length ≤ 1048576) (hd : Wr.Bytes w da d.length (Wr.lat d)) (hB : B ≤ w.heap.size) :
    Calls Tryz.prog 16 #[.pointer (some ⟨s, 0, none⟩), .slice a vs.length c, .agg #[.int .i64 x.f, .int .i64 x.t], .slice da d.length dc] w (DPut w B s lo hi u qs ⟨vs, x, d⟩) := by
  obtain ⟨iv, hv0, hv1, hv2, hv3⟩ := info_parts info26
  obtain ⟨ib, hb0, hb1', hb2', hb3'⟩ := info_parts Wr.info5
  obtain ⟨ic, hc0, hc1, hc2, hc3⟩ := info_parts infoD
  have hBB := bel1 w (.cells #[.int .i64 x.f, .int .i64 x.t] 38)
  have HO := hidMk (fun W (hb : Below w.heap.size w W) => ownsD_any vs a c W s lo hi (cell_later hb h.cells.1) (cell_later hb h.cells.2.1) (hl.later hb) hg (by omega))
  have HA := hidMk (fun W (hb : Below w.heap.size w W) => at_any vs a c x W B s lo hi u qs (h.later hb) hc (hl.later hb) (by omega))
  have HS := hidMk h
  have HC := hidMk hc
  have HL := hidMk hl
  have HD := hidMk hd
  have HG := hidMk hg
  have HAP := hidMk hap
  have HAS := hidMk hasc
  have d0 : (w.alloc (.cells #[.int .i64 x.f, .int .i64 x.t] 38)).cell? ⟨w.heap.size, 0, none⟩ = some (.int .i64 x.f) := by simp
  have d1 : (w.alloc (.cells #[.int .i64 x.f, .int .i64 x.t] 38)).cell? ⟨w.heap.size, 1, none⟩ = some (.int .i64 x.t) := by simp
  have HBB := hidMk hBB
  have hsz : (w.alloc (.cells #[.int .i64 x.f, .int .i64 x.t] 38)).heap.size = w.heap.size + 1 := by simp
  generalize hW : w.alloc (.cells #[.int .i64 x.f, .int .i64 x.t] 38) = W at *
  clear h hc hl hd hg hap hasc hBB
  unfold DPut
  have HRN : Hid (rngC lo hi vs x = (ow lo hi vs && kp x)) := rfl
  have HKP := hidMk (kp_iff x)
  generalize rngC lo hi vs x = rn at *
  go_enter Tryz.func16, Tryz.ntmps16
  go_wp2_with fail
  try rw [hW]
  clear hW
  refine (HO.out _ HBB.out).mono ?_
  rintro e w1 ⟨rfl, hb1⟩
  replace d0 := cell_later hb1 d0
  replace d1 := cell_later hb1 d1
  have HB1 := hidMk (HBB.out.trans (hb1.mono HBB.out.size))
  have hs1 := hb1.size
  clear hb1 HO
  cases how : ow lo hi vs with
  | false =>
    have HR : Hid (rn = false) := by rw [Hid, HRN.out, how]; rfl
    go_wp2_with fail
    go_ret
    exact .inl ⟨HR.out, rfl, HB1.out⟩
  | true =>
    by_cases hx1 : -1048576 ≤ x.f
    · by_cases hx2 : x.f < x.t
      · by_cases hx3 : x.t ≤ 1099512676353
        · have HR : Hid (rn = true) := by rw [Hid, HRN.out, how, HKP.out.2 ⟨hx1, hx2, hx3⟩]; rfl
          have HX := hidMk (show kp x = true from HKP.out.2 ⟨hx1, hx2, hx3⟩)
          have hx1' : ¬ x.f < -1048576 := by omega
          have hx2' : ¬ x.t ≤ x.f := by omega
          have hx3' : ¬ 1099512676353 < x.t := by omega
          clear hx1 hx2 hx3
          go_wp2_with fail
          refine (HA.out _ HB1.out).mono ?_
          rintro e w2 ⟨rfl, hb2⟩
          have HB2 := hidMk (HB1.out.trans (hb2.mono HB1.out.size))
          replace d0 := cell_later hb2 d0
          replace d1 := cell_later hb2 d1
          have hs2 := hb2.size
          clear hb2 HA
          generalize hat0 : atI (qs.map (·.c)) vs x = o at *
          have HAT0 := hidMk hat0
          clear hat0
          have HS2 := hidMk (HS.out.later HB2.out)
          have d2 := HS2.out.cells.2.2
          obtain ⟨ua, uc, hu, hcase⟩ := HS2.out.row.form
          subst hu
          have HCASE := hidMk hcase
          have hn := HC.out.len
          have HWL : Hid (∀ j, j ≤ qs.length → wEx (qs.map (·.c)) o j ≤ 67108864) := fun j hj => Nat.le_trans (wEx_le _ _ j (by simpa using hj)) (Nat.le_trans (wt_take_le _ _) HC.out.wl)
          clear hcase
          go_wp2_with fail
          go_loopg [11, 12] qs.length (fun gk y i wr => ∃ j : Nat, gk + j = qs.length ∧ i = .int .i64 j ∧ y = .int .i64 ((d.length + 64 * vs.length + 32 + wEx (qs.map (·.c)) o j : Nat) : Int) ∧ Below w2.heap.size w2 wr)
          case atStart => exact ⟨0, by omega, rfl, by go_num, Below.refl _ _⟩
          case round =>
            obtain ⟨j, hgk, rfl, rfl, hbl⟩ := hrel
            have HBL := hidMk hbl
            have e2 := cell_later hbl d2
            by_cases hj : j < qs.length
            · have hj' : (j : Int) < (qs.length : Int) := by omega
              obtain ⟨g, hg0, -⟩ : ∃ g, ua = some ⟨g, 0, none⟩ ∧ True := by
                rcases HCASE.out with ⟨h1, -⟩ | ⟨g, h1, -⟩
                · rw [h1] at hj; simp at hj
                · exact ⟨g, h1, trivial⟩
              subst hg0
              have hw1 := HWL.out j (by omega)
              have hw2 := HWL.out (j + 1) (by omega)
              have hm : qs[j] ∈ qs := List.getElem_mem hj
              have hkl := HC.out.klen hm
              obtain ⟨ya, yc, hdv, -⟩ := HS2.out.row.dform hm
              obtain ⟨c0, -, -, c3⟩ := HS2.out.row.cells j hj
              rw [hdv] at c3
              have c0 := cell_later hbl c0
              have c3 := cell_later hbl c3
              have hstep : wEx (qs.map (·.c)) o (j + 1) = wEx (qs.map (·.c)) o j + (if o = some j then 0 else qs[j].c.d.length + 64 * qs[j].c.key.length + 32) := by
                show wEx (qs.map (·.c)) o j + _ = _
                rw [List.getElem?_map, List.getElem?_eq_getElem hj]
                rfl
              obtain ⟨N, hN⟩ : ∃ N, wEx (qs.map (·.c)) o j = N := ⟨_, rfl⟩
              rw [hN] at hw1 hstep ⊢
              by_cases ho : o = some j
              · have hov : ((j : Int) == atV o) = true := by rw [ho]; simp [atV]
                have HN : Hid (wEx (qs.map (·.c)) o (j + 1) = N) := by rw [Hid, hstep, if_pos ho]; omega
                clear hbl hm hdv hstep hN hw2 ho
                generalize qs[j] = y at *
                generalize atV o = k at *
                go_wp2_with fail
                go_roundg (gk - 1)
                case measure => omega
                case rel => exact ⟨j + 1, by omega, by go_num, by rw [HN.out], HBL.out⟩
              · have hov : ((j : Int) == atV o) = false := by
                  cases o with
                  | none => simp [atV]
                  | some i => simp [atV] at ho ⊢; omega
                have HN : Hid (wEx (qs.map (·.c)) o (j + 1) = N + (qs[j].c.d.length + 64 * qs[j].c.key.length + 32)) := by rw [Hid, hstep, if_neg ho]
                have hnn : N + (qs[j].c.d.length + 64 * qs[j].c.key.length + 32) ≤ 67108864 := by have := HN.out; omega
                clear hbl hm hdv hstep hN hw2 ho
                generalize qs[j] = y at *
                generalize atV o = k at *
                go_wp2_with fail
                go_quiet (fail)
                go_wp2_with fail
                go_roundg (gk - 1)
                case measure => omega
                case rel => exact ⟨j + 1, by omega, by go_num, by rw [HN.out]; go_num, below_drewN HBL.out nq⟩
            · have hj' : ¬ (j : Int) < (qs.length : Int) := by omega
              have HWT : Hid (d.length + 64 * vs.length + 32 + wEx (qs.map (·.c)) o j = wt (putC (qs.map (·.c)) ⟨vs, x, d⟩)) := by
                have h1 := wEx_all (qs.map (·.c)) HAP.out ⟨vs, x, d⟩
                rw [List.length_map] at h1
                rw [Hid, show j = qs.length by omega, ← h1]
                simp only
                rw [HAT0.out]
                rfl
              obtain ⟨N, hN⟩ : ∃ N, d.length + 64 * vs.length + 32 + wEx (qs.map (·.c)) o j = N := ⟨_, rfl⟩
              rw [hN] at HWT ⊢
              have hNb : N ≤ 1048576 + 64 * 1048576 + 32 + 67108864 := by have := HWL.out j (by omega); omega
              have HB3 : Hid (Below w.heap.size w wr) := HB2.out.trans (hbl.mono HB2.out.size)
              have HS3 := hidMk (HS.out.later HB3.out)
              replace d0 := cell_later hbl d0
              replace d1 := cell_later hbl d1
              have hs3 := HB3.out.size
              have hszr : w.heap.size < wr.heap.size := by have := hbl.size; omega
              clear hN hbl HBL HWL
              by_cases hbig : 67108864 < N
              · have hbig' : (67108864 : Int) < (N : Int) := by omega
                go_wp2_with fail
                go_ret
                exact .inr (.inl ⟨HR.out, by rw [← HWT.out]; exact hbig, rfl, HB3.out⟩)
              · have hbig' : ¬ (67108864 : Int) < (N : Int) := by omega
                go_wp2_with (first
                  | (at_builtin; refine wpList_append_src rfl _ _ 36 rfl w.heap.size 48 iv (.agg #[.int .i64 0, .int .i64 0, .string ⟨#[]⟩]) 3 32 Tryz.underlying36 hv0 hv1 hv2 hv3 rfl (by decide) (.slice none 0 0) 0 [] rfl (World.ownsRow_nil _ _ _ _) a vs.length c (vs.flatMap cellsV) rfl ?c0 ?c1 ?c2 ?c3 ?c4 ?c5 ?_))
                case c0 => have h1 := len_cellsV vs; simpa [List.length_flatMap] using h1
                case c1 => exact src_V (HL.out.later (HB3.out.alloc hs3 _))
                case c2 => exact fun u y hy hu => one_flatV vs u (List.mem_flatMap.2 ⟨y, hy, hu⟩)
                case c3 => unfold maxLen; omega
                case c4 => omega
                case c5 => omega
                intro v1 w4 hown1 hgrow1 hat1
                have b4 : Below (wr.heap.size + 1) (wr.alloc (.cells #[.slice none 0 0, .int .i64 x.f, .int .i64 x.t, .slice none 0 0] 97)) w4 := ⟨hgrow1.os, hgrow1.tape, hgrow1.output, by have := hgrow1.size; simpa using this, fun i hi => hgrow1.block i (by simpa using hi) (by simp [Value.ownBlock])⟩
                obtain ⟨ka, kc, hv1⟩ := row_form hown1
                subst hv1
                have HK4 := hidMk hown1
                have oc : Own w4 wr.heap.size 97 4 [.slice none 0 0, .int .i64 x.f, .int .i64 x.t, .slice none 0 0] := (Own.new wr 97 4 #[.slice none 0 0, .int .i64 x.f, .int .i64 x.t, .slice none 0 0] rfl).later (by simpa using b4)
                have HB4 : Hid (Below w.heap.size w w4) := (HB3.out.alloc hs3 _).trans (b4.mono (by omega))
                have hs4 : wr.heap.size + 1 ≤ w4.heap.size := by have := b4.size; simpa using this
                have f0 := oc.soft 0
                have e00 : w4.cell? ⟨wr.heap.size, 0, none⟩ = some (.slice none 0 0) := oc.cell 0 (by decide)
                have hlt4 := oc.lt
                obtain ⟨o5, g5⟩ := oc.put 0 (.slice ka vs.length kc)
                have e3 : (w4.setCell ⟨wr.heap.size, 0, none⟩ (.slice ka vs.length kc)).cell? ⟨wr.heap.size, 3, none⟩ = some (.slice none 0 0) := o5.cell 3 (by decide)
                have HB5 : Hid (Below w.heap.size w (w4.setCell ⟨wr.heap.size, 0, none⟩ (.slice ka vs.length kc))) := HB4.out.grown g5 HB4.out.size (fun k e => by cases e; omega)
                have HO5 := hidMk o5
                have HK5 : Hid (OV (w4.setCell ⟨wr.heap.size, 0, none⟩ (.slice ka vs.length kc)) w.heap.size (.slice ka vs.length kc) vs) := own_grown HK4.out g5 (fun gg hgg e => own_not_row oc HK4.out (by decide) gg hgg (Option.some.inj e))
                clear hown1 hgrow1 hat1 b4 oc o5 g5
                go_wp2_with (first
                  | (at_builtin; refine wpList_append_src rfl _ _ 39 rfl w.heap.size 5 ib (.int .u8 0) 1 1 Tryz.underlying39 hb0 hb1' hb2' hb3' rfl (by decide) (.slice none 0 0) 0 [] rfl (World.ownsRow_nil _ _ _ _) da d.length dc (d.map Wr.u8v) rfl ?c0 ?c1 ?c2 ?c3 ?c4 ?c5 ?_))
                case c0 => simp
                case c1 => exact src_B (HD.out.later HB5.out)
                case c2 => intro u hu; simp at hu; obtain ⟨q, -, rfl⟩ := hu; rfl
                case c3 => unfold maxLen; omega
                case c4 => omega
                case c5 => have := HB5.out.size; simpa using this
                intro v2 w6 hown2 hgrow2 hat2
                have b6 : Below (w4.setCell ⟨wr.heap.size, 0, none⟩ (.slice ka vs.length kc)).heap.size (w4.setCell ⟨wr.heap.size, 0, none⟩ (.slice ka vs.length kc)) w6 := ⟨hgrow2.os, hgrow2.tape, hgrow2.output, hgrow2.size, fun i hi => hgrow2.block i hi (by simp [Value.ownBlock])⟩
                obtain ⟨va, vc, hv2⟩ := row_form hown2
                subst hv2
                have HD6 := hidMk hown2
                have oc := HO5.out.later b6
                have HB6 : Hid (Below w.heap.size w w6) := HB5.out.trans (b6.mono HB5.out.size)
                have HK6 : Hid (OV w6 w.heap.size (.slice ka vs.length kc) vs) := own_later HK5.out b6
                have hlt6 := oc.lt
                have f3 := oc.soft 3
                have e30 : w6.cell? ⟨wr.heap.size, 3, none⟩ = some (.slice none 0 0) := oc.cell 3 (by decide)
                obtain ⟨o7, g7⟩ := oc.put 3 (.slice va d.length vc)
                have o7' : Own (w6.setCell ⟨wr.heap.size, 3, none⟩ (.slice va d.length vc)) wr.heap.size 97 4 [.slice ka vs.length kc, .int .i64 x.f, .int .i64 x.t, .slice va d.length vc] := o7
                have HB7 : Hid (Below w.heap.size w (w6.setCell ⟨wr.heap.size, 3, none⟩ (.slice va d.length vc))) := HB6.out.grown g7 HB6.out.size (fun k e => by cases e; omega)
                have HK7 : Hid (OV (w6.setCell ⟨wr.heap.size, 3, none⟩ (.slice va d.length vc)) w.heap.size (.slice ka vs.length kc) vs) := own_grown HK6.out g7 (fun gg hgg e => own_not_row oc HK6.out (by decide) gg hgg (Option.some.inj e))
                have HD7 : Hid (Wr.OL (w6.setCell ⟨wr.heap.size, 3, none⟩ (.slice va d.length vc)) w.heap.size (.slice va d.length vc) d) := own_grown HD6.out g7 (fun gg hgg e => own_not_row oc HD6.out (by decide) gg hgg (Option.some.inj e))
                have HO7 := hidMk o7'
                have q0 : (w6.setCell ⟨wr.heap.size, 3, none⟩ (.slice va d.length vc)).cell? ⟨wr.heap.size, 0, none⟩ = some (.slice ka vs.length kc) := o7'.cell 0 (by decide)
                have q1 : (w6.setCell ⟨wr.heap.size, 3, none⟩ (.slice va d.length vc)).cell? ⟨wr.heap.size, 1, none⟩ = some (.int .i64 x.f) := o7'.cell 1 (by decide)
                have q2 : (w6.setCell ⟨wr.heap.size, 3, none⟩ (.slice va d.length vc)).cell? ⟨wr.heap.size, 2, none⟩ = some (.int .i64 x.t) := o7'.cell 2 (by decide)
                have q3 : (w6.setCell ⟨wr.heap.size, 3, none⟩ (.slice va d.length vc)).cell? ⟨wr.heap.size, 3, none⟩ = some (.slice va d.length vc) := o7'.cell 3 (by decide)
                have HS7 := hidMk (HS.out.later HB7.out)
                have r2 := HS7.out.cells.2.2
                clear hown2 hgrow2 hat2 b6 oc o7 o7' g7 e3 HB4 HB5 HO5 HK4 HK5 HK6 HD6 HB6
                cases o with
                | some i =>
                  unfold atV
                  have hin : i < qs.length := by obtain ⟨hh, -⟩ := atI_some HAT0.out; simpa using hh
                  have hin' : (i : Int) < (qs.length : Int) := by omega
                  obtain ⟨g, hg0⟩ : ∃ g, ua = some ⟨g, 0, none⟩ := by
                    rcases HCASE.out with ⟨h1, -⟩ | ⟨g, h1, -⟩
                    · rw [h1] at hin; simp at hin
                    · exact ⟨g, h1⟩
                  subst hg0
                  obtain ⟨z0, z1, z2, z3, y0, y1, y2, y3⟩ := HS7.out.row.slot i hin
                  obtain ⟨da', dc', hdv', -⟩ := HS7.out.row.dform (List.getElem_mem hin)
                  rw [hdv'] at z3
                  have HFin : Hid (∃ u' qs', DS (((((w6.setCell ⟨wr.heap.size, 3, none⟩ (.slice va d.length vc)).drew.setCell ⟨g, i * 4, none⟩ (.slice ka vs.length kc)).setCell ⟨g, i * 4 + 1, none⟩ (.int .i64 x.f)).setCell ⟨g, i * 4 + 2, none⟩ (.int .i64 x.t)).setCell ⟨g, i * 4 + 3, none⟩ (.slice va d.length vc)) B s lo hi u' qs' ∧ (qs'.map (·.c)).Perm (putC (qs.map (·.c)) ⟨vs, x, d⟩) ∧ AscC (qs'.map (·.c)) ∧ Gs (fun j => j = s ∨ (Value.slice (some ⟨g, 0, none⟩) qs.length uc).ownBlock = some j) w (((((w6.setCell ⟨wr.heap.size, 3, none⟩ (.slice va d.length vc)).drew.setCell ⟨g, i * 4, none⟩ (.slice ka vs.length kc)).setCell ⟨g, i * 4 + 1, none⟩ (.int .i64 x.f)).setCell ⟨g, i * 4 + 2, none⟩ (.int .i64 x.t)).setCell ⟨g, i * 4 + 3, none⟩ (.slice va d.length vc)) ∧ ∀ j, DB s u' qs' j → DB s (.slice (some ⟨g, 0, none⟩) qs.length uc) qs j ∨ w.heap.size ≤ j) := by
                    have hdr : Below (w6.setCell ⟨wr.heap.size, 3, none⟩ (.slice va d.length vc)).heap.size (w6.setCell ⟨wr.heap.size, 3, none⟩ (.slice va d.length vc)) (w6.setCell ⟨wr.heap.size, 3, none⟩ (.slice va d.length vc)).drew := below_drewN (Below.refl _ _) 1
                    obtain ⟨p1, p2⟩ := (HS7.out.later hdr).setq i hin ⟨⟨vs, x, d⟩, ka, kc, .slice va d.length vc⟩ (World.ownsRow.mono (own_later HK7.out hdr) hB) (World.ownsRow.mono (own_later HD7.out hdr) hB)
                    obtain ⟨hii, k1, k2, -⟩ := atI_some HAT0.out
                    refine ⟨_, _, p1, ?_, ?_, ?_, fun j hj => ?_⟩
                    · rw [List.map_set]; exact set_perm HAP.out hii k1 k2
                    · rw [List.map_set]; exact set_asc HAS.out hii k1 k2
                    · exact (Gs.below (HB7.out.trans (hdr.mono HB7.out.size))).trans (Gs.one p2 (fun k e => .inr e))
                    · rcases hj.set with hj | hj | hj
                      · exact .inl hj
                      · exact .inr (World.ownsRow.lt HK7.out j hj).1
                      · exact .inr (World.ownsRow.lt HD7.out j hj).1
                  clear HCASE
                  go_wp2_with fail
                  generalize hW7 : w6.setCell ⟨wr.heap.size, 3, none⟩ (.slice va d.length vc) = W7 at *
                  clear hW7
                  generalize qs[i] = y at *
                  refine wp_region_head (K := 7) (C := (fun W => W = W7.drew)) 8 (by kernel_rfl) (by kernel_rfl) (by kernel_rfl) (by decide) (by kernel_rfl) (by kernel_rfl) rfl ?_
                  simp only [List.take_succ_cons, List.take_zero]
                  with_reducible refine wpQuiet_step ?_
                  intro K hK
                  go_simp
                  refine hK _ ?_
                  clear hK K
                  with_reducible refine wpQuiet_step ?_
                  intro K hK
                  go_simp
                  refine hK _ ?_
                  clear hK K
                  with_reducible refine wpQuiet_step ?_
                  intro K hK
                  go_simp
                  refine hK _ ?_
                  clear hK K
                  with_reducible refine wpQuiet_step ?_
                  intro K hK
                  go_simp
                  refine hK _ ?_
                  clear hK K
                  with_reducible refine wpQuiet_step ?_
                  intro K hK
                  go_simp
                  refine hK _ ?_
                  clear hK K
                  with_reducible refine wpQuiet_step ?_
                  intro K hK
                  go_simp
                  refine hK _ ?_
                  clear hK K
                  with_reducible refine wpQuiet_step ?_
                  intro K hK
                  go_simp
                  refine hK _ ?_
                  clear hK K
                  intro w' hC
                  obtain rfl := hC
                  refine wpAny_ready (fuel := 0) (rs := [7]) (by kernel_rfl) (by simp) ?_
                  refine AllReady.cons rfl (fun K hK => ?_) AllReady.nil
                  go_simp
                  refine hK _ _ ?_
                  clear hK K
                  refine ⟨by kernel_rfl, ?_⟩
                  go_wp2_with fail
                  go_ret
                  exact .inr (.inr ⟨HR.out, by rw [← HWT.out]; exact hbig, rfl, HFin.out⟩)
                | none =>
                  unfold atV
                  go_wp2_with fail
                  generalize hW7 : w6.setCell ⟨wr.heap.size, 3, none⟩ (.slice va d.length vc) = W7 at *
                  clear hW7
                  have l7 := HB7.out.size
                  have bA : Below W7.heap.size W7 (W7.alloc (.cells #[.slice ka vs.length kc, .int .i64 x.f, .int .i64 x.t, .slice va d.length vc] 97)).drew := below_drewN (bel1 _ _) 1
                  have lA : (W7.alloc (.cells #[.slice ka vs.length kc, .int .i64 x.f, .int .i64 x.t, .slice va d.length vc] 97)).drew.heap.size = W7.heap.size + 1 := (show _ = W7.heap.size + 1 by simp)
                  have HSA := hidMk (HS7.out.later bA)
                  have HR8 := hidMk HSA.out.row.own
                  have HNX : Hid (∀ gg cap w8, w8.ownsRow B 97 4 (.slice (some ⟨gg, 0, none⟩) (qs.length + 1) cap) (qs.length + 1) (qs.flatMap cellsC ++ cellsC ⟨⟨vs, x, d⟩, ka, kc, .slice va d.length vc⟩) → (W7.alloc (.cells #[.slice ka vs.length kc, .int .i64 x.f, .int .i64 x.t, .slice va d.length vc] 97)).drew.grownBy w8 (Value.slice ua qs.length uc).ownBlock → ((Value.slice ua qs.length uc).ownBlock = some gg ∨ gg = W7.heap.size + 1) → Own w8 s 33 3 [.int .i64 lo, .int .i64 hi, .slice ua qs.length uc] ∧ DS (w8.setCell ⟨s, 2, none⟩ (.slice (some ⟨gg, 0, none⟩) (qs.length + 1) cap)) B s lo hi (.slice (some ⟨gg, 0, none⟩) (qs.length + 1) cap) (qs ++ [⟨⟨vs, x, d⟩, ka, kc, .slice va d.length vc⟩]) ∧ Gs (fun j => j = s ∨ (Value.slice ua qs.length uc).ownBlock = some j) w (w8.setCell ⟨s, 2, none⟩ (.slice (some ⟨gg, 0, none⟩) (qs.length + 1) cap)) ∧ (gg < w.heap.size → gg = s ∨ (Value.slice ua qs.length uc).ownBlock = some gg)) := fun gg cap w8 hown8 hg8 hat8 => by
                    have l8 := hg8.size
                    have o8 := HSA.out.own.grown hg8 (fun e => own_not_row HSA.out.own HSA.out.row.own (by decide) s e.symm rfl)
                    obtain ⟨p8, k8⟩ := o8.put 2 (.slice (some ⟨gg, 0, none⟩) (qs.length + 1) cap)
                    have hks : ∀ {BB T sz nn : Nat} {v : Value} {xs : List Value}, (W7.alloc (.cells #[.slice ka vs.length kc, .int .i64 x.f, .int .i64 x.t, .slice va d.length vc] 97)).drew.ownsRow BB T sz v nn xs → T ≠ 97 → T ≠ 33 → (w8.setCell ⟨s, 2, none⟩ (.slice (some ⟨gg, 0, none⟩) (qs.length + 1) cap)).ownsRow BB T sz v nn xs := fun hrow hT1 hT2 => by
                      have r1 := own_grown hrow hg8 (fun gg hgg e => rows_ne HSA.out.row.own hrow (fun e => hT1 e.symm) gg e.symm hgg)
                      exact own_grown r1 k8 (fun gg hgg e => own_not_row o8 r1 (fun e => hT2 e.symm) gg hgg (Option.some.inj e))
                    refine ⟨o8, ⟨p8, ⟨?_, fun q hq => ?_, fun q hq => ?_⟩, HS7.out.ge⟩, ?_, fun hlt => ?_⟩
                    · rw [List.length_append, List.flatMap_append]
                      exact own_grown (by simpa using hown8) k8 (fun gg hgg e => own_not_row o8 hown8 (by decide) gg hgg (Option.some.inj e))
                    · rcases List.mem_append.1 hq with hq | hq
                      · exact hks (HSA.out.row.key q hq) (by decide) (by decide)
                      · rw [List.mem_singleton.1 hq]; exact hks (World.ownsRow.mono (own_later HK7.out bA) hB) (by decide) (by decide)
                    · rcases List.mem_append.1 hq with hq | hq
                      · exact hks (HSA.out.row.dat q hq) (by decide) (by decide)
                      · rw [List.mem_singleton.1 hq]; exact hks (World.ownsRow.mono (own_later HD7.out bA) hB) (by decide) (by decide)
                    · exact ((Gs.below (HB7.out.trans (bA.mono l7))).trans (Gs.one hg8 (fun k e => .inr e))).trans (Gs.one k8 (fun k e => .inl (Option.some.inj e).symm))
                    · rcases hat8 with h | h
                      · exact .inr h
                      · omega
                  have HDB : Hid (∀ gg cap, (gg < w.heap.size → gg = s ∨ (Value.slice ua qs.length uc).ownBlock = some gg) → ∀ m j, DB s (.slice (some ⟨gg, 0, none⟩) (qs.length + 1) cap) (qs.take m ++ ⟨⟨vs, x, d⟩, ka, kc, .slice va d.length vc⟩ :: qs.drop m) j → DB s (.slice ua qs.length uc) qs j ∨ w.heap.size ≤ j) := fun gg cap hgg m j hj => by
                    rcases hj with e | e | ⟨q, hq, e⟩
                    · exact .inl (.inl e)
                    · have e' : gg = j := Option.some.inj e
                      subst e'
                      by_cases hlt : gg < w.heap.size
                      · rcases hgg hlt with h | h
                        · exact .inl (.inl h)
                        · exact .inl (.inr (.inl h))
                      · exact .inr (by omega)
                    · have hq' : q ∈ qs ∨ q = ⟨⟨vs, x, d⟩, ka, kc, .slice va d.length vc⟩ := by
                        rcases List.mem_append.1 hq with h | h
                        · exact .inl (List.mem_of_mem_take h)
                        · rcases List.mem_cons.1 h with h | h
                          · exact .inr h
                          · exact .inl (List.mem_of_mem_drop h)
                      rcases hq' with hq | hq
                      · exact .inl (.inr (.inr ⟨q, hq, e⟩))
                      · subst hq
                        rcases e with e | e
                        · exact .inr (World.ownsRow.lt HK7.out j e).1
                        · exact .inr (World.ownsRow.lt HD7.out j e).1
                  have lB : B ≤ W7.heap.size + 1 := by omega
                  have r2a : (W7.alloc (.cells #[.slice ka vs.length kc, .int .i64 x.f, .int .i64 x.t, .slice va d.length vc] 97)).cell? ⟨s, 2, none⟩ = some (.slice ua qs.length uc) := cell_later (bel1 _ _) r2
                  clear bA
                  go_region_law
                    ((refine step_append_lies _ (by rfl) _ _ _ (by rfl) B 97 ic _ 4 64 Tryz.underlying31 hc0 hc1 hc2 hc3 rfl (by omega) (.slice ua qs.length uc) qs.length (qs.flatMap cellsC) (by rfl) HR8.out
                        ⟨W7.heap.size, 0, none⟩ 1 1 [.slice ka vs.length kc, .int .i64 x.f, .int .i64 x.t, .slice va d.length vc] (by rfl) (by rfl) (World.news_of_block (cs := #[.slice ka vs.length kc, .int .i64 x.f, .int .i64 x.t, .slice va d.length vc]) (t := 97) (fr := (0, 0)) (heap_alloc_new W7 _)) (by intro u hu; simp at hu; rcases hu with rfl | rfl | rfl | rfl <;> rfl)
                        (by omega) (by unfold maxLen; omega) (by omega) (by simp; omega) (W7.heap.size + 1) (by simp) ?_; intro gg cap w8 hown8 hg8 hat8 hlt8
                      have c9 : w8.cell? ⟨s, 2, none⟩ = some (.slice ua qs.length uc) := (HNX.out gg cap w8 hown8 hg8 hat8).1.cell 2 (by decide)
                      have f9 : w8.frozen? ⟨s, 2, none⟩ = false := (HNX.out gg cap w8 hown8 hg8 hat8).1.soft 2))
                  all_goals
                    obtain ⟨-, hd9, hg9, ht9⟩ := HNX.out gg cap w8 hown8 hg8 hat8
                    have HDB9 := hidMk (HDB.out gg cap ht9)
                    have HD9 := hidMk hd9
                    have HG9 := hidMk hg9
                    have HT9 := hidMk ht9
                    have hr9 := hd9.cells.2.2
                    clear hown8 hg8 hat8 hlt8 c9 f9 hd9 hg9 ht9 HNX HDB
                    go_wp2_with fail
                    have HFN : Hid (∀ (m : Nat) (W : World), m ≤ qs.length → DS W B s lo hi (.slice (some ⟨gg, 0, none⟩) (qs.length + 1) cap) (qs.take m ++ ⟨⟨vs, x, d⟩, ka, kc, .slice va d.length vc⟩ :: qs.drop m) → Gs (fun j => j = s ∨ (Value.slice ua qs.length uc).ownBlock = some j) w W → (∀ q ∈ qs.drop m, ltC ⟨vs, x, d⟩ q.c = true) → (∀ k (hk : k < qs.length), m = k + 1 → ltC ⟨vs, x, d⟩ qs[k].c = false) → ∃ u' qs', DS W B s lo hi u' qs' ∧ (qs'.map (·.c)).Perm (putC (qs.map (·.c)) ⟨vs, x, d⟩) ∧ AscC (qs'.map (·.c)) ∧ Gs (fun i => i = s ∨ (Value.slice ua qs.length uc).ownBlock = some i) w W ∧ ∀ i, DB s u' qs' i → DB s (.slice ua qs.length uc) qs i ∨ w.heap.size ≤ i) := fun m W hm q1 q2 q3 q4 => by
                      refine ⟨_, _, q1, ?_, ?_, q2, HDB9.out m⟩
                      · rw [putC_new (atI_none HAT0.out), List.map_append, List.map_cons]
                        refine List.perm_middle.trans ?_
                        rw [← List.map_append, List.take_append_drop]
                      · rw [List.map_append, List.map_cons]
                        refine ins_asc ?_ ?_ ?_
                        · rw [← List.map_append, List.take_append_drop]; exact HAS.out
                        · intro y hy
                          obtain ⟨q, hq, rfl⟩ := List.mem_map.1 hy
                          exact q3 q hq
                        · by_cases h0 : m = 0
                          · exact .inl (by rw [h0]; rfl)
                          · obtain ⟨k, hk⟩ : ∃ k, m = k + 1 := ⟨m - 1, by omega⟩
                            have hkl : k < qs.length := by omega
                            refine .inr ⟨qs[k].c, ?_, q4 k hkl hk⟩
                            rw [hk, List.take_succ_eq_append_getElem hkl, List.map_append]
                            simp
                    have HQN : Hid (GoodK vs ∧ vs.length ≤ 1048576) := ⟨HG.out, hvl⟩
                    go_loopg [14] qs.length (fun gk i W => gk ≤ qs.length ∧ i = .int .i64 (gk : Int) ∧ DS W B s lo hi (.slice (some ⟨gg, 0, none⟩) (qs.length + 1) cap) (qs.take gk ++ ⟨⟨vs, x, d⟩, ka, kc, .slice va d.length vc⟩ :: qs.drop gk) ∧ Gs (fun j => j = s ∨ (Value.slice ua qs.length uc).ownBlock = some j) w W ∧ ∀ q ∈ qs.drop gk, ltC ⟨vs, x, d⟩ q.c = true)
                    case atStart => exact ⟨Nat.le_refl _, by go_num, by rw [List.take_length, List.drop_length]; exact HD9.out, HG9.out, fun q hq => by rw [List.drop_length] at hq; cases hq⟩
                    case round =>
                      obtain ⟨hgk, rfl, hD, hG, hup⟩ := hrel
                      have HDD := hidMk hD
                      have HGG := hidMk hG
                      have HUP := hidMk hup
                      by_cases h0 : gk = 0
                      · have HX0 := hidMk (HFN.out gk wr hgk hD hG hup (fun k hk e => by omega))
                        have h0' : ¬ (0 : Int) < (gk : Int) := by omega
                        clear hD hG hup h0
                        go_wp2_with fail
                        go_ret
                        exact .inr (.inr ⟨HR.out, by rw [← HWT.out]; omega, rfl, HX0.out⟩)
                      · obtain ⟨k, hk⟩ : ∃ k, gk = k + 1 := ⟨gk - 1, by omega⟩
                        have hkl : k < qs.length := by omega
                        have hln : (qs.take gk ++ ⟨⟨vs, x, d⟩, ka, kc, .slice va d.length vc⟩ :: qs.drop gk).length = qs.length + 1 := ins_len' qs gk hgk _
                        have hg1 : (qs.take gk ++ ⟨⟨vs, x, d⟩, ka, kc, .slice va d.length vc⟩ :: qs.drop gk)[gk]'(by omega) = ⟨⟨vs, x, d⟩, ka, kc, .slice va d.length vc⟩ := by
                          have h1 := ins_at qs gk hgk ⟨⟨vs, x, d⟩, ka, kc, .slice va d.length vc⟩
                          rw [List.getElem?_eq_getElem (by omega)] at h1
                          exact Option.some.inj h1
                        have hg2 : (qs.take gk ++ ⟨⟨vs, x, d⟩, ka, kc, .slice va d.length vc⟩ :: qs.drop gk)[k]'(by omega) = qs[k] := by
                          have h1 := ins_lt qs k hkl ⟨⟨vs, x, d⟩, ka, kc, .slice va d.length vc⟩
                          rw [← hk, List.getElem?_eq_getElem (by omega)] at h1
                          exact Option.some.inj h1
                        obtain ⟨c0, c1, c2, c3, f0, f1, f2, f3⟩ := hD.row.slot gk (by omega)
                        obtain ⟨e0, e1, e2, e3, -, -, -, -⟩ := hD.row.slot k (by omega)
                        rw [hg1] at c0 c1 c2 c3
                        rw [hg2] at e0 e1 e2 e3
                        have hmem : qs[k] ∈ qs := List.getElem_mem hkl
                        have hmem2 : qs[k] ∈ qs.take gk ++ ⟨⟨vs, x, d⟩, ka, kc, .slice va d.length vc⟩ :: qs.drop gk := by rw [← hg2]; exact List.getElem_mem _
                        have hmem1 : ⟨⟨vs, x, d⟩, ka, kc, .slice va d.length vc⟩ ∈ qs.take gk ++ ⟨⟨vs, x, d⟩, ka, kc, .slice va d.length vc⟩ :: qs.drop gk := by simp
                        obtain ⟨ya, yc, hdv, -⟩ := hD.row.dform hmem2
                        have HBF : Hid (∀ V, Below wr.heap.size wr V → Calls Tryz.prog 46 #[vC ⟨⟨vs, x, d⟩, ka, kc, .slice va d.length vc⟩, vC qs[k]] V fun e w' => e = .returned (.bool (ltC ⟨vs, x, d⟩ qs[k].c)) ∧ Below V.heap.size V w') := fun V hV => beforeC_any ⟨⟨vs, x, d⟩, ka, kc, .slice va d.length vc⟩ qs[k] V ((HDD.out.row.lies hmem1).later hV) ((HDD.out.row.lies hmem2).later hV) (show vs.length ≤ _ by omega) (by have := HC.out.klen hmem; omega) ⟨_, _, _, rfl⟩ ⟨_, _, _, hdv⟩
                        have r9 := hD.cells.2.2
                        have HKK := hidMk hk
                        have HSL : Hid (∀ W, DS W B s lo hi (.slice (some ⟨gg, 0, none⟩) (qs.length + 1) cap) (qs.take gk ++ ⟨⟨vs, x, d⟩, ka, kc, .slice va d.length vc⟩ :: qs.drop gk) → W.cell? ⟨s, 2, none⟩ = some (.slice (some ⟨gg, 0, none⟩) (qs.length + 1) cap) ∧ (W.cell? ⟨gg, k * 4, none⟩ = some (.slice qs[k].ka qs[k].c.key.length qs[k].kc) ∧ W.cell? ⟨gg, k * 4 + 1, none⟩ = some (.int .i64 qs[k].c.w.f) ∧ W.cell? ⟨gg, k * 4 + 2, none⟩ = some (.int .i64 qs[k].c.w.t) ∧ W.cell? ⟨gg, k * 4 + 3, none⟩ = some qs[k].dv) ∧ (W.cell? ⟨gg, gk * 4, none⟩ = some (.slice ka vs.length kc) ∧ W.cell? ⟨gg, gk * 4 + 1, none⟩ = some (.int .i64 x.f) ∧ W.cell? ⟨gg, gk * 4 + 2, none⟩ = some (.int .i64 x.t) ∧ W.cell? ⟨gg, gk * 4 + 3, none⟩ = some (.slice va d.length vc)) ∧ W.frozen? ⟨gg, gk * 4, none⟩ = false ∧ W.frozen? ⟨gg, gk * 4 + 1, none⟩ = false ∧ W.frozen? ⟨gg, gk * 4 + 2, none⟩ = false ∧ W.frozen? ⟨gg, gk * 4 + 3, none⟩ = false) := fun W hW => by
                          obtain ⟨s0, s1, s2, s3, t0, t1, t2, t3⟩ := hW.row.slot gk (by omega)
                          obtain ⟨u0, u1, u2, u3, -⟩ := hW.row.slot k (by omega)
                          rw [hg1] at s0 s1 s2 s3
                          rw [hg2] at u0 u1 u2 u3
                          exact ⟨hW.cells.2.2, ⟨u0, u1, u2, u3⟩, ⟨s0, s1, s2, s3⟩, t0, t1, t2, t3⟩
                        have HSM : Hid (∀ W, DS W B s lo hi (.slice (some ⟨gg, 0, none⟩) (qs.length + 1) cap) ((qs.take gk ++ ⟨⟨vs, x, d⟩, ka, kc, .slice va d.length vc⟩ :: qs.drop gk).set gk qs[k]) → W.cell? ⟨s, 2, none⟩ = some (.slice (some ⟨gg, 0, none⟩) (qs.length + 1) cap) ∧ (W.cell? ⟨gg, k * 4, none⟩ = some (.slice qs[k].ka qs[k].c.key.length qs[k].kc) ∧ W.cell? ⟨gg, k * 4 + 1, none⟩ = some (.int .i64 qs[k].c.w.f) ∧ W.cell? ⟨gg, k * 4 + 2, none⟩ = some (.int .i64 qs[k].c.w.t) ∧ W.cell? ⟨gg, k * 4 + 3, none⟩ = some qs[k].dv) ∧ W.frozen? ⟨gg, k * 4, none⟩ = false ∧ W.frozen? ⟨gg, k * 4 + 1, none⟩ = false ∧ W.frozen? ⟨gg, k * 4 + 2, none⟩ = false ∧ W.frozen? ⟨gg, k * 4 + 3, none⟩ = false) := fun W hW => by
                          obtain ⟨u0, u1, u2, u3, t0, t1, t2, t3⟩ := hW.row.slot k (by rw [List.length_set]; omega)
                          have e : ((qs.take gk ++ ⟨⟨vs, x, d⟩, ka, kc, .slice va d.length vc⟩ :: qs.drop gk).set gk qs[k])[k]'(by rw [List.length_set]; omega) = qs[k] := by rw [List.getElem_set_ne (by omega)]; exact hg2
                          rw [e] at u0 u1 u2 u3
                          exact ⟨hW.cells.2.2, ⟨u0, u1, u2, u3⟩, t0, t1, t2, t3⟩
                        have HNW : Hid (∀ W, DS W B s lo hi (.slice (some ⟨gg, 0, none⟩) (qs.length + 1) cap) (qs.take gk ++ ⟨⟨vs, x, d⟩, ka, kc, .slice va d.length vc⟩ :: qs.drop gk) → OV W B (.slice qs[k].ka qs[k].c.key.length qs[k].kc) qs[k].c.key ∧ Wr.OL W B qs[k].dv qs[k].c.d ∧ OV W B (.slice ka vs.length kc) vs ∧ Wr.OL W B (.slice va d.length vc) d ∧ gk < (qs.take gk ++ ⟨⟨vs, x, d⟩, ka, kc, .slice va d.length vc⟩ :: qs.drop gk).length ∧ k < ((qs.take gk ++ ⟨⟨vs, x, d⟩, ka, kc, .slice va d.length vc⟩ :: qs.drop gk).set gk qs[k]).length) := fun W hW => ⟨hW.row.key _ hmem2, hW.row.dat _ hmem2, hW.row.key ⟨⟨vs, x, d⟩, ka, kc, .slice va d.length vc⟩ hmem1, hW.row.dat ⟨⟨vs, x, d⟩, ka, kc, .slice va d.length vc⟩ hmem1, by omega, by rw [List.length_set]; omega⟩
                        have HSW : Hid (((qs.take gk ++ ⟨⟨vs, x, d⟩, ka, kc, .slice va d.length vc⟩ :: qs.drop gk).set gk qs[k]).set k ⟨⟨vs, x, d⟩, ka, kc, .slice va d.length vc⟩ = qs.take k ++ ⟨⟨vs, x, d⟩, ka, kc, .slice va d.length vc⟩ :: qs.drop k) := by
                          rw [Hid, hk]; exact ins_swap qs k hkl ⟨⟨vs, x, d⟩, ka, kc, .slice va d.length vc⟩
                        have HKL := hidMk hkl
                        rw [hdv] at e3
                        have HDV := hidMk hdv
                        have hzm : IntKind.i64.wrap ((gk : Int) - 1) = (k : Int) := by rw [hk]; simp [IntKind.wrap, IntKind.bits, IntKind.signed]; omega
                        have h0' : (0 : Int) < (gk : Int) := by omega
                        have hgi : (gk : Int) < (qs.length : Int) + 1 := by omega
                        have hki : (k : Int) < (qs.length : Int) + 1 := by omega
                        have HLF : Hid (ltC ⟨vs, x, d⟩ qs[k].c = false → ∀ k' (hk' : k' < qs.length), gk = k' + 1 → ltC ⟨vs, x, d⟩ qs[k'].c = false) := fun hh k' hk' e => by
                          have e' : k' = k := by omega
                          subst e'; exact hh
                        have HLT : Hid (ltC ⟨vs, x, d⟩ qs[k].c = true → ∀ q ∈ qs.drop k, ltC ⟨vs, x, d⟩ q.c = true) := fun hh q hq => by
                          rw [List.drop_eq_getElem_cons hkl] at hq
                          rcases List.mem_cons.1 hq with h | h
                          · rw [h]; exact hh
                          · exact HUP.out q (by rw [HKK.out]; exact h)
                        generalize hy : qs[k] = y at *
                        have HY := hidMk hy
                        clear hD hG hup h0 hk hkl hln hg1 hg2 hmem hmem1 hmem2 hdv hy
                        unfold vC at HBF
                        simp only [HDV.out] at HBF
                        go_wp2_with fail
                        refine wp_region_head (K := 15) (C := (fun W => W = wr.drew)) 8 (by kernel_rfl) (by kernel_rfl) (by kernel_rfl) (by decide) (by kernel_rfl) (by kernel_rfl) rfl ?_
                        simp only [List.take_succ_cons, List.take_zero]
                        with_reducible refine wpQuiet_step ?_
                        intro K hK
                        go_simp
                        refine hK _ ?_
                        clear hK K
                        with_reducible refine wpQuiet_step ?_
                        intro K hK
                        go_simp
                        refine hK _ ?_
                        clear hK K
                        with_reducible refine wpQuiet_step ?_
                        intro K hK
                        go_simp
                        refine hK _ ?_
                        clear hK K
                        with_reducible refine wpQuiet_step ?_
                        intro K hK
                        go_simp
                        refine hK _ ?_
                        clear hK K
                        with_reducible refine wpQuiet_step ?_
                        intro K hK
                        go_simp
                        refine hK _ ?_
                        clear hK K
                        with_reducible refine wpQuiet_step ?_
                        intro K hK
                        go_simp
                        refine hK _ ?_
                        clear hK K
                        with_reducible refine wpQuiet_step ?_
                        intro K hK
                        go_simp
                        refine hK _ ?_
                        clear hK K
                        with_reducible refine wpQuiet_step ?_
                        intro K hK
                        go_simp
                        refine hK _ ?_
                        clear hK K
                        with_reducible refine wpQuiet_step ?_
                        intro K hK
                        go_simp
                        refine hK _ ?_
                        clear hK K
                        with_reducible refine wpQuiet_step ?_
                        intro K hK
                        go_simp
                        refine hK _ ?_
                        clear hK K
                        with_reducible refine wpQuiet_step ?_
                        intro K hK
                        go_simp
                        refine hK _ ?_
                        clear hK K
                        with_reducible refine wpQuiet_step ?_
                        intro K hK
                        go_simp
                        refine hK _ ?_
                        clear hK K
                        with_reducible refine wpQuiet_step ?_
                        intro K hK
                        go_simp
                        refine hK _ ?_
                        clear hK K
                        with_reducible refine wpQuiet_step ?_
                        intro K hK
                        go_simp
                        refine hK _ ?_
                        clear hK K
                        with_reducible refine wpQuiet_step ?_
                        intro K hK
                        go_simp
                        refine hK _ ?_
                        clear hK K
                        intro w' hC
                        obtain rfl := hC
                        refine wpAny_ready (fuel := 1) (rs := [15]) (by kernel_rfl) (by simp) ?_
                        refine AllReady.cons rfl (fun K hK => ?_) AllReady.nil
                        go_simp
                        refine (HBF.out _ (below_drewN (Below.refl _ _) 1)).mono ?_
                        rintro e w1 ⟨rfl, hb1⟩
                        refine hK _ _ ?_
                        clear hK K
                        refine wpAny_ready (fuel := 0) (rs := [16]) (by kernel_rfl) (by simp) ?_
                        refine AllReady.cons rfl (fun K hK => ?_) AllReady.nil
                        go_simp
                        refine hK _ _ ?_
                        clear hK K
                        refine ⟨by kernel_rfl, ?_⟩
                        have HB1x : Hid (Below wr.heap.size wr w1) := (below_drewN (Below.refl _ _) 1).trans hb1
                        clear hb1 HBF
                        have HD1 := hidMk (HDD.out.later HB1x.out)
                        have HG1x := hidMk (HGG.out.trans (Gs.below HB1x.out))
                        cases hb : ltC ⟨vs, x, d⟩ y.c with
                        | false =>
                          have HX0 := hidMk (HFN.out gk w1 hgk HD1.out HG1x.out HUP.out (HLF.out hb))
                          clear hb
                          go_wp2_with fail
                          go_ret
                          exact .inr (.inr ⟨HR.out, by rw [← HWT.out]; omega, rfl, HX0.out⟩)
                        | true =>
                          obtain ⟨r9, -, ⟨c0, c1, c2, c3⟩, -⟩ := HSL.out w1 HD1.out
                          have HD2 := hidMk (HD1.out.later (bel1 w1 (.cells #[.slice ka vs.length kc, .int .i64 x.f, .int .i64 x.t, .slice va d.length vc] 97)))
                          have HG2 := hidMk (HG1x.out.trans (Gs.below (bel1 w1 (.cells #[.slice ka vs.length kc, .int .i64 x.f, .int .i64 x.t, .slice va d.length vc] 97))))
                          have HX2 := hidMk (Own.new w1 97 4 #[.slice ka vs.length kc, .int .i64 x.f, .int .i64 x.t, .slice va d.length vc] rfl)
                          have HNE : Hid (w1.heap.size ≠ gg) := fun e => by
                            have h : gg < w1.heap.size := (HD1.out.lt (i := gg) (.inr (.inl rfl))).2
                            omega
                          have HLB := hidMk (HLT.out hb)
                          clear hb HLF HLT
                          go_wp2_with fail
                          generalize hW2 : w1.alloc (.cells #[.slice ka vs.length kc, .int .i64 x.f, .int .i64 x.t, .slice va d.length vc] 97) = W2 at *
                          generalize hxb : w1.heap.size = xb at *
                          clear r9 c0 c1 c2 c3 hW2 hxb
                          obtain ⟨r9, ⟨e0, e1, e2, e3⟩, ⟨c0, c1, c2, c3⟩, f0, f1, f2, f3⟩ := HSL.out W2 HD2.out
                          obtain ⟨m1, m2, m3, m4, m5, m6⟩ := HNW.out W2 HD2.out
                          have hdr : Below W2.heap.size W2 W2.drew := below_drewN (Below.refl _ _) 1
                          obtain ⟨p3, g3⟩ := (HD2.out.later hdr).setq gk m5 y (own_later m1 hdr) (own_later m2 hdr)
                          have HD3 := hidMk p3
                          have HX3 : Hid (Own ((((W2.drew.setCell ⟨gg, gk * 4, none⟩ (.slice y.ka y.c.key.length y.kc)).setCell ⟨gg, gk * 4 + 1, none⟩ (.int .i64 y.c.w.f)).setCell ⟨gg, gk * 4 + 2, none⟩ (.int .i64 y.c.w.t)).setCell ⟨gg, gk * 4 + 3, none⟩ y.dv) xb 97 4 [.slice ka vs.length kc, .int .i64 x.f, .int .i64 x.t, .slice va d.length vc]) := Own.grown (HX2.out.later hdr) g3 (fun e => HNE.out (Option.some.inj e))
                          have HG3 := hidMk ((HG2.out.trans (Gs.below hdr)).new (Gs.one (S := fun i => i = gg) g3 (fun k e => (Option.some.inj e).symm)) (fun i e hlt => by have e' : i = gg := e; subst e'; exact HT9.out hlt))
                          have HM : Hid (OV ((((W2.drew.setCell ⟨gg, gk * 4, none⟩ (.slice y.ka y.c.key.length y.kc)).setCell ⟨gg, gk * 4 + 1, none⟩ (.int .i64 y.c.w.f)).setCell ⟨gg, gk * 4 + 2, none⟩ (.int .i64 y.c.w.t)).setCell ⟨gg, gk * 4 + 3, none⟩ y.dv) B (.slice ka vs.length kc) vs ∧ Wr.OL ((((W2.drew.setCell ⟨gg, gk * 4, none⟩ (.slice y.ka y.c.key.length y.kc)).setCell ⟨gg, gk * 4 + 1, none⟩ (.int .i64 y.c.w.f)).setCell ⟨gg, gk * 4 + 2, none⟩ (.int .i64 y.c.w.t)).setCell ⟨gg, gk * 4 + 3, none⟩ y.dv) B (.slice va d.length vc) d) := ⟨own_grown (own_later m3 hdr) g3 fun q hq e => rows_ne HD2.out.row.own m3 (by decide) q (by rw [Option.some.inj e]; rfl) hq, own_grown (own_later m4 hdr) g3 fun q hq e => rows_ne HD2.out.row.own m4 (by decide) q (by rw [Option.some.inj e]; rfl) hq⟩
                          have hkl2 := m6
                          clear m1 m2 m3 m4 m5 hdr p3 g3
                          rw [HDV.out] at e3 HD3 HX3 HG3 HM
                          rw [show ((((W2.drew.setCell ⟨gg, gk * 4, none⟩ (.slice y.ka y.c.key.length y.kc)).setCell ⟨gg, gk * 4 + 1, none⟩ (.int .i64 y.c.w.f)).setCell ⟨gg, gk * 4 + 2, none⟩ (.int .i64 y.c.w.t)).setCell ⟨gg, gk * 4 + 3, none⟩ (.slice ya y.c.d.length yc)) = ((((W2.setCell ⟨gg, gk * 4, none⟩ (.slice y.ka y.c.key.length y.kc)).setCell ⟨gg, gk * 4 + 1, none⟩ (.int .i64 y.c.w.f)).setCell ⟨gg, gk * 4 + 2, none⟩ (.int .i64 y.c.w.t)).setCell ⟨gg, gk * 4 + 3, none⟩ (.slice ya y.c.d.length yc)).drew from rfl] at HD3 HX3 HG3 HM
                          refine wp_region_head (K := 14) (C := (fun W => W = W2.drew)) 8 (by kernel_rfl) (by kernel_rfl) (by kernel_rfl) (by decide) (by kernel_rfl) (by kernel_rfl) rfl ?_
                          simp only [List.take_succ_cons, List.take_zero]
                          with_reducible refine wpQuiet_step ?_
                          intro K hK
                          go_simp
                          refine hK _ ?_
                          clear hK K
                          with_reducible refine wpQuiet_step ?_
                          intro K hK
                          go_simp
                          refine hK _ ?_
                          clear hK K
                          with_reducible refine wpQuiet_step ?_
                          intro K hK
                          go_simp
                          refine hK _ ?_
                          clear hK K
                          with_reducible refine wpQuiet_step ?_
                          intro K hK
                          go_simp
                          refine hK _ ?_
                          clear hK K
                          with_reducible refine wpQuiet_step ?_
                          intro K hK
                          go_simp
                          refine hK _ ?_
                          clear hK K
                          with_reducible refine wpQuiet_step ?_
                          intro K hK
                          go_simp
                          refine hK _ ?_
                          clear hK K
                          with_reducible refine wpQuiet_step ?_
                          intro K hK
                          go_simp
                          refine hK _ ?_
                          clear hK K
                          with_reducible refine wpQuiet_step ?_
                          intro K hK
                          go_simp
                          refine hK _ ?_
                          clear hK K
                          with_reducible refine wpQuiet_step ?_
                          intro K hK
                          go_simp
                          refine hK _ ?_
                          clear hK K
                          with_reducible refine wpQuiet_step ?_
                          intro K hK
                          go_simp
                          refine hK _ ?_
                          clear hK K
                          with_reducible refine wpQuiet_step ?_
                          intro K hK
                          go_simp
                          refine hK _ ?_
                          clear hK K
                          with_reducible refine wpQuiet_step ?_
                          intro K hK
                          go_simp
                          refine hK _ ?_
                          clear hK K
                          with_reducible refine wpQuiet_step ?_
                          intro K hK
                          go_simp
                          refine hK _ ?_
                          clear hK K
                          with_reducible refine wpQuiet_step ?_
                          intro K hK
                          go_simp
                          refine hK _ ?_
                          clear hK K
                          intro w' hC
                          obtain rfl := hC
                          refine wpAny_ready (fuel := 0) (rs := [14]) (by kernel_rfl) (by simp) ?_
                          refine AllReady.cons rfl (fun K hK => ?_) AllReady.nil
                          go_simp
                          refine hK _ _ ?_
                          clear hK K
                          refine ⟨by kernel_rfl, ?_⟩
                          go_wp2_with fail
                          generalize hW3 : ((((W2.setCell ⟨gg, gk * 4, none⟩ (.slice y.ka y.c.key.length y.kc)).setCell ⟨gg, gk * 4 + 1, none⟩ (.int .i64 y.c.w.f)).setCell ⟨gg, gk * 4 + 2, none⟩ (.int .i64 y.c.w.t)).setCell ⟨gg, gk * 4 + 3, none⟩ (.slice ya y.c.d.length yc)).drew = W3 at *
                          clear hW3 r9 e0 e1 e2 e3 c0 c1 c2 c3 f0 f1 f2 f3
                          obtain ⟨r9, ⟨e0, e1, e2, e3⟩, f0, f1, f2, f3⟩ := HSM.out W3 (by rw [HDV.out] at *; exact HD3.out)
                          have x0 : W3.cell? ⟨xb, 0, none⟩ = some (.slice ka vs.length kc) := HX3.out.cell 0 (by decide)
                          have x1 : W3.cell? ⟨xb, 1, none⟩ = some (.int .i64 x.f) := HX3.out.cell 1 (by decide)
                          have x2 : W3.cell? ⟨xb, 2, none⟩ = some (.int .i64 x.t) := HX3.out.cell 2 (by decide)
                          have x3 : W3.cell? ⟨xb, 3, none⟩ = some (.slice va d.length vc) := HX3.out.cell 3 (by decide)
                          have hdr : Below W3.heap.size W3 W3.drew := below_drewN (Below.refl _ _) 1
                          obtain ⟨p4, g4⟩ := (HD3.out.later hdr).setq k hkl2 ⟨⟨vs, x, d⟩, ka, kc, .slice va d.length vc⟩ (own_later HM.out.1 hdr) (own_later HM.out.2 hdr)
                          rw [HSW.out] at p4
                          have HD4 := hidMk p4
                          have HG4 := hidMk ((HG3.out.trans (Gs.below hdr)).new (Gs.one (S := fun i => i = gg) g4 (fun k e => (Option.some.inj e).symm)) (fun i e hlt => by have e' : i = gg := e; subst e'; exact HT9.out hlt))
                          clear p4 g4 hdr hkl2
                          rw [HDV.out] at e3
                          refine wp_region_head (K := 8) (C := (fun W => W = W3.drew)) 8 (by kernel_rfl) (by kernel_rfl) (by kernel_rfl) (by decide) (by kernel_rfl) (by kernel_rfl) rfl ?_
                          simp only [List.take_succ_cons, List.take_zero]
                          with_reducible refine wpQuiet_step ?_
                          intro K hK
                          go_simp
                          refine hK _ ?_
                          clear hK K
                          with_reducible refine wpQuiet_step ?_
                          intro K hK
                          go_simp
                          refine hK _ ?_
                          clear hK K
                          with_reducible refine wpQuiet_step ?_
                          intro K hK
                          go_simp
                          refine hK _ ?_
                          clear hK K
                          with_reducible refine wpQuiet_step ?_
                          intro K hK
                          go_simp
                          refine hK _ ?_
                          clear hK K
                          with_reducible refine wpQuiet_step ?_
                          intro K hK
                          go_simp
                          refine hK _ ?_
                          clear hK K
                          with_reducible refine wpQuiet_step ?_
                          intro K hK
                          go_simp
                          refine hK _ ?_
                          clear hK K
                          with_reducible refine wpQuiet_step ?_
                          intro K hK
                          go_simp
                          refine hK _ ?_
                          clear hK K
                          with_reducible refine wpQuiet_step ?_
                          intro K hK
                          go_simp
                          refine hK _ ?_
                          clear hK K
                          intro w' hC
                          obtain rfl := hC
                          refine wpAny_ready (fuel := 0) (rs := [8]) (by kernel_rfl) (by simp) ?_
                          refine AllReady.cons rfl (fun K hK => ?_) AllReady.nil
                          go_simp
                          refine hK _ _ ?_
                          clear hK K
                          refine ⟨by kernel_rfl, ?_⟩
                          go_wp2_with fail
                          go_roundg k
                          case measure => have := HKK.out; omega
                          case rel => exact ⟨by have := HKK.out; omega, by go_num, HD4.out, HG4.out, HLB.out⟩
        · have HR : Hid (rn = false) := by rw [Hid, HRN.out, how]; cases hk : kp x with | false => rfl | true => exact absurd (HKP.out.1 hk).2.2 hx3
          go_wp2_with fail
          go_ret
          exact .inl ⟨HR.out, rfl, HB1.out⟩
      · have HR : Hid (rn = false) := by rw [Hid, HRN.out, how]; cases hk : kp x with | false => rfl | true => exact absurd (HKP.out.1 hk).2.1 hx2
        go_wp2_with fail
        go_ret
        exact .inl ⟨HR.out, rfl, HB1.out⟩
    · have HR : Hid (rn = false) := by rw [Hid, HRN.out, how]; cases hk : kp x with | false => rfl | true => exact absurd (HKP.out.1 hk).1 hx1
      go_wp2_with fail
      go_ret
      exact .inl ⟨HR.out, rfl, HB1.out⟩
end Go.Proofs.YtobhccmnlmlapaaGreatDoor
