import Derived.Test.YtobhccmnlmlapaaGreatDoorQStZd
import Derived.Test.YtobhccmnlmlapaaGreatDoorQStZk
import Derived.Test.YtobhccmnlmlapaaGreatDoorQStZf
import Derived.Test.YtobhccmnlmlapaaGreatDoorQHdA
import Derived.Test.YtobhccmnlmlapaaGreatDoorGt
import Derived.Test.YtobhccmnlmlapaaGreatDoorPd
import Derived.Test.YtobhccmnlmlapaaGreatDoorGs
import Derived.Deep.CutBlock
import Derived.Deep.Cut
namespace Go.Proofs.YtobhccmnlmlapaaGreatDoor
open Go.RowKit Go.Maps
set_option linter.unusedVariables false
set_option linter.unusedSimpArgs false
set_option maxRecDepth 100000

set_option maxHeartbeats 4000000 in
theorem take_bad (w : World) (B t mp : Nat) (lo hi : Int) (ss : List Sh) (g : Nat) (l : List Ce) (m : Nat) (a : Option Addr) (c : Nat) (ba : Option Addr) (bc : Nat) (h : PS w B t mp lo hi ss) (hm : m < l.length) (hl : Takes lo hi g (ces ss) (l.take m)) (hbad : vk l[m].key = true ∧ GoodK l[m].key ∧ kp l[m].w = true ∧ l[m].d.length ≤ 67108864) (hwr : grp l[m].key ≠ g ∨ ∃ h0 : 0 < m, ltC l[m - 1] l[m] = false) (ht : ∀ W, Below B w W → Vl.Tab W) (hb : Wr.Bytes w a (encBody l).length (Wr.lat (encBody l))) (hc : (encBody l).length ≤ c) (hc2 : c ≤ 9223372036854775807) (hL : (encBody l).length ≤ 134217728) (ha : ∃ b off, a = some ⟨b, off, none⟩) :
    Calls Tryz.prog 40 #[.pointer (some ⟨t, 0, none⟩), .int .i64 (g : Int), .slice a (encBody l).length c, .slice ba 0 bc] w fun e w' => e = .returned (.bool false) ∧ Below B w w' := by
  have HBD := hidMk hbad
  have HWR := hidMk hwr
  have HP := hidMk h
  have HL := hidMk hl
  have HT := hidMk ht
  have HBy := hidMk hb
  have HA := hidMk ha
  have hB0 := bel1 w (.cells #[.slice a (encBody l).length c] 136)
  have hR0 : Wr.Rd (w.alloc (.cells #[.slice a (encBody l).length c] 136)) w.heap.size (encBody l) :=
    ⟨a, c, Own.new w 136 1 #[.slice a (encBody l).length c] rfl, ⟨hb.later hB0, hc, hc2, fun x hx => by
      obtain ⟨b, off, e⟩ := ha
      rw [hx] at e
      cases e
      have hp : 0 < (encBody l).length := by unfold encBody; rw [List.length_append]; have := Wr.encInt_pos (l.length : Int); omega
      obtain ⟨b', o', e', hcell⟩ := hb 0 hp
      rw [hx] at e'
      cases e'
      exact World.block_lt_of_cell? _ _ hcell, ha, by omega⟩⟩
  have hlen : l.length ≤ 134217728 := by
    have := flatCe_len l
    unfold encBody at hL
    rw [List.length_append] at hL
    omega
  have HLen : Hid (∀ k, ((l.drop k).flatMap encCe).length ≤ 549755813888) := fun k => by
    have h1 : ((l.drop k).flatMap encCe).length ≤ (l.flatMap encCe).length := by
      conv => rhs; rw [← List.take_append_drop k l, List.flatMap_append, List.length_append]
      omega
    unfold encBody at hL
    rw [List.length_append] at hL
    omega
  have HCt := hidMk (cnt_ok w.heap.size (l.flatMap encCe) l.length _ hR0 ⟨by omega, by omega⟩ (flatCe_len l))
  have HB0 := hidMk hB0
  have hBw : B ≤ w.heap.size := by have h1 := h.ge.1; have h2 := h.own.lt; omega
  have HTabG : Hid (∀ W, Gs (Bl t mp ss) w W → Vl.Tab W) := fun W hg => ht W (hg.toBelow hBw (fun i hi => (h.lt hi).1))
  have HTG : Hid (∀ W, Gs (Bl t mp ss) w W → Below B w W) := fun W hg => hg.toBelow hBw (fun i hi => (h.lt hi).1)
  clear h hl ht hb ha hB0 hR0 hbad hwr
  generalize hEL : (encBody l).length = EL at *
  go_enter Tryz.func40, Tryz.ntmps40
  go_wp2_with fail
  refine HCt.out.mono ?_
  rintro e w1 ⟨rfl, g1, r1⟩
  have HS1 : Hid (TB w (w1.alloc (.cells #[.slice none 0 0, .int .i64 0, .int .i64 0, .slice none 0 0] 55)) B t mp lo hi ss l w.heap.size w1.heap.size 0 ss ⟨⟨[], ⟨0, 0⟩, []⟩, none, 0, .slice none 0 0⟩) := by
    have b1 : Below w.heap.size w w1 := HB0.out.grown g1 HB0.out.size (fun j e => by cases e; exact Nat.le_refl _)
    have b2 := b1.alloc b1.size (.cells #[.slice none 0 0, .int .i64 0, .int .i64 0, .slice none 0 0] 55)
    have hsz := g1.size
    rw [World.size_alloc] at hsz
    refine ⟨HP.out.later b2, by simp, Gs.below b2, fun i hi => .inl hi, ?_, ?_, fun h0 => by omega, Nat.le_refl _, by omega, by omega⟩
    · simp only [List.drop_zero]
      exact r1.later (bel1 _ _)
    · exact Own.new w1 55 4 #[.slice none 0 0, .int .i64 0, .int .i64 0, .slice none 0 0] rfl
  clear g1 r1
  go_wp2_with fail
  go_loopw [32] (fun i wr => ∃ (k : Nat) (ss' : List Sh) (q : Cx), i = .int .i64 (k : Int) ∧ k ≤ m ∧ TB w wr B t mp lo hi ss l w.heap.size w1.heap.size k ss' q) (fun i _ => l.length - (intOf i).toNat)
  case atStart => exact ⟨0, ss, _, rfl, Nat.zero_le _, HS1.out⟩
  case round =>
    obtain ⟨k, ss', q, rfl, hk, htb⟩ := hrel
    have HTB := hidMk htb
    clear htb HS1
    by_cases hltm : k < m
    · have hlt : k < l.length := by omega
      have hki : (k : Int) < (l.length : Int) := by omega
      have hmt : l[k] ∈ l.take m := List.mem_take_iff_getElem.2 ⟨k, by omega, rfl⟩
      have htt : (l.take m).take k = l.take k := by rw [List.take_take, Nat.min_eq_left (by omega)]
      have htl : k < (l.take m).length := by rw [List.length_take]; omega
      have htg : (l.take m)[k] = l[k] := List.getElem_take ..
      have hdrop : (l.drop k).flatMap encCe = encCe l[k] ++ (l.drop (k + 1)).flatMap encCe := by rw [List.drop_eq_getElem_cons hlt, List.flatMap_cons]
      obtain ⟨ok1, ok2, ok3⟩ := HL.out.ok l[k] hmt
      have hwk : wg l[k] ≤ 67108864 := by
        have h1 : wt (l.take m) = wt (l.take k) + wg l[k] + wt ((l.take m).drop (k + 1)) := by
          conv => lhs; rw [← List.take_append_drop k (l.take m), List.drop_eq_getElem_cons htl]
          rw [wt_append, wt_cons, htt, htg]; omega
        have := HL.out.wl
        omega
      have hfm : Form l[k] := form_of ok1.1 ok2 ok1.2.1 (by unfold wg wgh at hwk; omega)
      have hR := HTB.out.rd
      rw [hdrop] at hR
      have HRC := hidMk (readCell_ok w.heap.size _ l[k] wr hR hfm (by rw [← hdrop]; exact HLen.out k))
      have HNewF : Hid (∀ y ∈ ces ss, ¬ (y.key = l[k].key ∧ y.w = l[k].w)) := fun y hy => HL.out.new _ hmt y hy
      have HLtK : Hid (∀ y ∈ l.take k, ltC y l[k] = true) := fun y hy => by
        have hp := HL.out.up
        rw [← List.take_append_drop k (l.take m), List.pairwise_append] at hp
        refine hp.2.2 y (by rw [htt]; exact hy) l[k] ?_
        rw [List.drop_eq_getElem_cons htl, htg]; exact List.mem_cons_self
      have HNewT : Hid (∀ y ∈ l.take k, ¬ (y.key = l[k].key ∧ y.w = l[k].w)) := fun y hy e => by
        have h1 := HLtK.out y hy
        rw [ltC_congr (a := y) (a' := l[k]) (b := l[k]) (b' := l[k]) e.1 e.2 rfl rfl, ltC_irrefl] at h1
        cases h1
      have HWk : Hid (wt (ces ss) + wt (l.take k) + wg l[k] ≤ 67108864) := by
        have h1 : wt (l.take m) = wt (l.take k) + wg l[k] + wt ((l.take m).drop (k + 1)) := by
          conv => lhs; rw [← List.take_append_drop k (l.take m), List.drop_eq_getElem_cons htl]
          rw [wt_append, wt_cons, htt, htg]; omega
        have := HL.out.wl
        unfold Hid
        omega
      have HTk : Hid (l.take (k + 1) = l.take k ++ [l[k]]) := List.take_succ_eq_append_getElem hlt
      generalize hck : l[k] = ck at *
      have HCK := hidMk hck
      clear hck
      clear hR hdrop
      go_wp2_with fail
      refine HRC.out.mono ?_
      rintro e w2 ⟨qn, hqn, rfl, g2, r2, o2, d2⟩
      obtain ⟨qc, qa, qk, qv⟩ := qn
      simp only at hqn o2 d2
      subst hqn
      obtain ⟨va, vc, hqv⟩ := row_form d2
      subst hqv
      have hrown : Own wr w.heap.size 136 1 _ := HTB.out.rd.choose_spec.choose_spec.1
      have hrb := HTB.out.ps.not_bl hrown (by decide) (by decide) (by decide)
      have G2 : Gs (fun i => i = w.heap.size) wr w2 := Gs.one g2 (fun k e => (Option.some.inj e).symm)
      have hsz2 := g2.size
      have hszr := HTB.out.gs.size
      have HP2 := hidMk (HTB.out.ps.kept G2 (fun i hi e => hrb (by have e' : i = w.heap.size := e; rw [← e']; exact hi)))
      have HL2 := hidMk (HTB.out.last.grown g2 (by simp; exact fun e => HTB.out.ge.2.2 e.symm))
      have HR2 := hidMk r2
      have HO2 := hidMk o2
      have HD2 := hidMk d2
      have HG2 : Hid (Gs (Bl t mp ss) w w2) := HTB.out.gs.new G2 (fun i e hi => by have e' : i = w.heap.size := e; omega)
      have hob := Own.new w2 55 4 #[.slice qa qc.key.length qk, .int .i64 qc.w.f, .int .i64 qc.w.t, .slice va qc.d.length vc] rfl
      have HOB := hidMk hob
      have HVL : Hid (VLies w2 qa qc.key) := by
        obtain ⟨a', c', e', l', -⟩ := o2.form
        cases e'
        exact l'
      have HTab : Hid (Vl.Tab w2) := HTabG.out _ HG2.out
      have HGW := hidMk G2
      have HRO := hidMk hrown
      have HQ8 : Hid (0 < k → q.c.key.length ≤ 8) := fun h0 => by
        obtain ⟨⟨h1, h2⟩, -⟩ := HTB.out.key h0
        rw [h2]
        exact vk_len (HL.out.ok _ (List.mem_take_iff_getElem.2 ⟨k - 1, by omega, rfl⟩)).1.1
      have HDB : Hid (Wr.Bytes w2 va qc.d.length (Wr.lat qc.d)) := (Wr.OL.bytes d2).2
      have HKO : Hid (∀ W, Below w2.heap.size w2 W → (∀ y, qa = some y → y.block ≠ t ∧ y.block ≠ mp) ∧ ∀ y, va = some y → y.block ≠ t ∧ y.block ≠ mp) := fun W _ => by
        refine ⟨fun y hy => ?_, fun y hy => ?_⟩
        · have hb : (Value.slice qa qc.key.length qk).ownBlock = some y.block := by rw [hy]; rfl
          have := HP2.out.row_out o2 (by decide) hb
          exact ⟨fun e => this (.inl e), fun e => this (.inr (.inl e))⟩
        · have hb : (Value.slice va qc.d.length vc).ownBlock = some y.block := by rw [hy]; rfl
          have := HP2.out.row_out d2 (by decide) hb
          exact ⟨fun e => this (.inl e), fun e => this (.inr (.inl e))⟩
      have HRng : Hid (rngC lo hi qc.key qc.w = true) := by
        unfold Hid rngC ow
        simp [ok1.1, ok1.2.1, ok1.2.2.1, ok1.2.2.2]
      have HFits : Hid (Fits qc.w) := by
        obtain ⟨k1, k2, k3⟩ := (kp_iff qc.w).1 ok1.2.1
        exact ⟨wf64 (by omega) (by omega), wf64 (by omega) (by omega)⟩
      have HNew : Hid (∀ y ∈ ces ss', ¬ (y.key = qc.key ∧ y.w = qc.w)) := fun y hy e => by
        rcases List.mem_append.1 (HTB.out.prm.mem_iff.1 hy) with hy | hy
        · exact HNewF.out y hy e
        · exact HNewT.out y hy e
      have HPutC : Hid (putC (ces ss') qc = qc :: ces ss') := putC_none HNew.out
      have HNW : Hid (¬ 67108864 < newW ss' qc.key qc.w qc.d.length) := by
        rw [Hid, (new_eq HTB.out.ps qc.key qc.w qc.d ok1.1).1, show (⟨qc.key, qc.w, qc.d⟩ : Ce) = qc from rfl, HPutC.out, wt_cons, wt_perm HTB.out.prm, wt_append]
        have := HWk.out
        omega
      unfold vC
      simp only
      clear g2 r2 o2 d2 hob hrown
      by_cases hk0 : k = 0
      · subst hk0
        have HB3 := hidMk (bel1 w2 (.cells #[.slice qa qc.key.length qk, .int .i64 qc.w.f, .int .i64 qc.w.t, .slice va qc.d.length vc] 55))
        have HOB3 := HOB
        go_wp2_with fail
        refine (groupP_any qc.key qa qk _ (HVL.out.later HB3.out) ok2 (by have := vk_len ok1.1; omega) (HTab.out.later HB3.out)).mono ?_
        rintro e w4 ⟨rfl, hb4⟩
        have HB4 := hidMk (HB3.out.trans (hb4.mono HB3.out.size))
        have HOB4 := hidMk (HOB3.out.later hb4)
        have HP4 := hidMk (HP2.out.later HB4.out)
        have HLast4 := hidMk (HL2.out.later HB4.out)
        clear hb4
        rw [ok3]
        obtain ⟨o0, o1, o2, o3⟩ := HOB4.out.four
        go_wp2_with fail
        have hput := put_fit qc.key qa qk qc.w va qc.d qc.d.length vc w4 B t mp lo hi ss' HP4.out (HVL.out.later HB4.out) ok2 (by have := vk_len ok1.1; omega) (HFits.out) (HTab.out.later HB4.out) (by unfold wg wgh at hwk; omega) HRng.out (HDB.out.later HB4.out) rfl (fun y hy _ => (HKO.out w4 HB4.out).1 y hy) (fun y hy _ => (HKO.out w4 HB4.out).2 y hy)
        unfold vv at hput
        refine hput.mono ?_
        rintro e w5 (⟨hbig, -⟩ | ⟨-, rfl, ss2, hps, hprm, hgs, hblk⟩)
        · exact absurd hbig (by have := HNW.out; omega)
        · have HS5 : Hid (PS w5 B t mp lo hi ss2 ∧ (ces ss2).Perm (putC (ces ss') qc) ∧ Gs (Tb t mp ss') w4 w5 ∧ ∀ i, Bl t mp ss2 i → Bl t mp ss' i ∨ w4.heap.size ≤ i) := ⟨hps, hprm, hgs, hblk⟩
          have HOB5 : Hid (Own w5 w2.heap.size 55 4 [.slice qa qc.key.length qk, .int .i64 qc.w.f, .int .i64 qc.w.t, .slice va qc.d.length vc]) := hgs.own HOB4.out (fun b hb => HP4.out.row_out HOB4.out (by decide) hb)
          have HLast5 : Hid (Own w5 w1.heap.size 55 4 (cellsC q)) := hgs.own HLast4.out (fun b hb => HP4.out.row_out HLast4.out (by decide) hb)
          clear hput hps hprm hgs hblk o0 o1 o2 o3
          obtain ⟨o0, o1, o2, o3⟩ := HOB5.out.four
          have hq4 := HLast5.out
          unfold cellsC at hq4
          obtain ⟨l0, l1, l2, l3⟩ := hq4.four
          have f0 := hq4.soft 0
          have f1 := hq4.soft 1
          have f2 := hq4.soft 2
          have f3 := hq4.soft 3
          clear hq4
          have HNX := hidMk (HTB.out.next (w5 := w5) (ss2 := ss2) ⟨hlt, HCK.out⟩ (by rw [HTk.out]) hsz2 HP2.out HG2.out HR2.out HO2.out HD2.out HB4.out HS5.out HPutC.out HLast5.out)
          go_wp2_with fail
          refine ⟨⟨_, ss2, _, ?_, ?_, HNX.out⟩, ?_⟩
          · first | rfl | go_num
          · omega
          · simp [intOf]; omega
      · have hk1 : (0 : Int) < (k : Int) := by omega
        obtain ⟨⟨hkl, hqk⟩, hqo, hqd⟩ := HTB.out.key (by omega)
        have hl3 := HL2.out.later (bel1 w2 (.cells #[.slice qa qc.key.length qk, .int .i64 qc.w.f, .int .i64 qc.w.t, .slice va qc.d.length vc] 55))
        obtain ⟨qda, qdc, hqv⟩ := row_form hqd
        have hlt0 : ltC q.c qc = true := HLtK.out q.c (by rw [hqk]; exact List.mem_take_iff_getElem.2 ⟨k - 1, by omega, rfl⟩)
        have hcn : cmpC q.c qc < 0 := by have := cmpC_lt q.c qc; rw [hlt0] at this; exact of_decide_eq_true this
        have hvq : VLies w2 q.ka q.c.key := by
          obtain ⟨a', c', e', l', -⟩ := hqo.form
          injection e' with e1 e2 e3
          subst e1
          exact l'.gs HGW.out (fun y hy _ e => by
            have hb : (Value.slice q.ka q.c.key.length q.kc).ownBlock = some y.block := by rw [hy]; rfl
            have e' : y.block = w.heap.size := e
            exact own_not_row HRO.out hqo (by decide) _ hb e')
        have HCMP := hidMk (compareC_any q ⟨qc, qa, qk, .slice va qc.d.length vc⟩ (w2.alloc (.cells #[.slice qa qc.key.length qk, .int .i64 qc.w.f, .int .i64 qc.w.t, .slice va qc.d.length vc] 55)) (hvq.later (bel1 _ _)) (HVL.out.later (bel1 _ _)) (by have := HQ8.out (by omega); omega) (by have := vk_len ok1.1; show qc.key.length ≤ _; omega) ⟨_, _, _, hqv⟩ ⟨_, _, _, rfl⟩)
        unfold vC at HCMP
        simp only [hqv] at HCMP
        unfold cellsC at hl3
        rw [hqv] at hl3
        obtain ⟨m0, m1, m2, m3⟩ := hl3.four
        have hnl : w1.heap.size ≠ w2.heap.size := by have := HL2.out.lt; omega
        clear hl3 hqv hvq hqo hqd hqk
        go_wp2_with fail
        refine HCMP.out.mono ?_
        rintro e w3 ⟨rfl, hb3, -⟩
        have HB3 : Hid (Below w2.heap.size w2 w3) := (bel1 w2 _).trans (hb3.mono (by simp))
        have HOB3 := hidMk (HOB.out.later hb3)
        have o30 := HOB3.out.four.1
        clear hb3 HCMP m0 m1 m2 m3
        generalize cmpC q.c qc = cmpv at *
        go_wp2_with fail
        refine (groupP_any qc.key qa qk _ (HVL.out.later HB3.out) ok2 (by have := vk_len ok1.1; omega) (HTab.out.later HB3.out)).mono ?_
        rintro e w4 ⟨rfl, hb4⟩
        have HB4 := hidMk (HB3.out.trans (hb4.mono HB3.out.size))
        have HOB4 := hidMk (HOB3.out.later hb4)
        have HP4 := hidMk (HP2.out.later HB4.out)
        have HLast4 := hidMk (HL2.out.later HB4.out)
        clear hb4
        rw [ok3]
        obtain ⟨o0, o1, o2, o3⟩ := HOB4.out.four
        go_wp2_with fail
        have hput := put_fit qc.key qa qk qc.w va qc.d qc.d.length vc w4 B t mp lo hi ss' HP4.out (HVL.out.later HB4.out) ok2 (by have := vk_len ok1.1; omega) (HFits.out) (HTab.out.later HB4.out) (by unfold wg wgh at hwk; omega) HRng.out (HDB.out.later HB4.out) rfl (fun y hy _ => (HKO.out w4 HB4.out).1 y hy) (fun y hy _ => (HKO.out w4 HB4.out).2 y hy)
        unfold vv at hput
        refine hput.mono ?_
        rintro e w5 (⟨hbig, -⟩ | ⟨-, rfl, ss2, hps, hprm, hgs, hblk⟩)
        · exact absurd hbig (by have := HNW.out; omega)
        · have HS5 : Hid (PS w5 B t mp lo hi ss2 ∧ (ces ss2).Perm (putC (ces ss') qc) ∧ Gs (Tb t mp ss') w4 w5 ∧ ∀ i, Bl t mp ss2 i → Bl t mp ss' i ∨ w4.heap.size ≤ i) := ⟨hps, hprm, hgs, hblk⟩
          have HOB5 : Hid (Own w5 w2.heap.size 55 4 [.slice qa qc.key.length qk, .int .i64 qc.w.f, .int .i64 qc.w.t, .slice va qc.d.length vc]) := hgs.own HOB4.out (fun b hb => HP4.out.row_out HOB4.out (by decide) hb)
          have HLast5 : Hid (Own w5 w1.heap.size 55 4 (cellsC q)) := hgs.own HLast4.out (fun b hb => HP4.out.row_out HLast4.out (by decide) hb)
          clear hput hps hprm hgs hblk o0 o1 o2 o3
          obtain ⟨o0, o1, o2, o3⟩ := HOB5.out.four
          have hq4 := HLast5.out
          unfold cellsC at hq4
          obtain ⟨l0, l1, l2, l3⟩ := hq4.four
          have f0 := hq4.soft 0
          have f1 := hq4.soft 1
          have f2 := hq4.soft 2
          have f3 := hq4.soft 3
          clear hq4
          have HNX := hidMk (HTB.out.next (w5 := w5) (ss2 := ss2) ⟨hlt, HCK.out⟩ (by rw [HTk.out]) hsz2 HP2.out HG2.out HR2.out HO2.out HD2.out HB4.out HS5.out HPutC.out HLast5.out)
          go_wp2_with fail
          refine ⟨⟨_, ss2, _, ?_, ?_, HNX.out⟩, ?_⟩
          · first | rfl | go_num
          · omega
          · simp [intOf]; omega
    · obtain rfl : k = m := by omega
      have hlt : k < l.length := hm
      have hki : (k : Int) < (l.length : Int) := by omega
      obtain ⟨ok1, ok2, ok3, ok4⟩ := HBD.out
      have hdrop : (l.drop k).flatMap encCe = encCe l[k] ++ (l.drop (k + 1)).flatMap encCe := by rw [List.drop_eq_getElem_cons hlt, List.flatMap_cons]
      have hfm : Form l[k] := form_of ok1 ok2 ok3 ok4
      have hR := HTB.out.rd
      rw [hdrop] at hR
      have HRC := hidMk (readCell_ok w.heap.size _ l[k] wr hR hfm (by rw [← hdrop]; exact HLen.out k))
      have HQB : Hid (∀ h0 : 0 < k, (∃ hq : k - 1 < l.length, HTB.out.key h0 = HTB.out.key h0) ∧ True) := fun h0 => ⟨⟨by omega, rfl⟩, trivial⟩
      have HQ8 : Hid (0 < k → q.c.key.length ≤ 8) := fun h0 => by
        obtain ⟨⟨h1, h2⟩, -⟩ := HTB.out.key h0
        rw [h2]
        exact vk_len (HL.out.ok _ (List.mem_take_iff_getElem.2 ⟨k - 1, by omega, rfl⟩)).1.1
      have HLC : Hid (∀ h0 : 0 < k, ltC q.c l[k] = ltC l[k - 1] l[k]) := fun h0 => by
        obtain ⟨⟨h1, h2⟩, -⟩ := HTB.out.key h0
        rw [h2]
      clear HQB
      generalize hck : l[k] = ck at *
      clear hck
      clear hR hdrop
      go_wp2_with fail
      refine HRC.out.mono ?_
      rintro e w2 ⟨qn, hqn, rfl, g2, r2, o2, d2⟩
      obtain ⟨qc, qa, qk, qv⟩ := qn
      simp only at hqn o2 d2
      subst hqn
      obtain ⟨va, vc, hqv⟩ := row_form d2
      subst hqv
      have hrown : Own wr w.heap.size 136 1 _ := HTB.out.rd.choose_spec.choose_spec.1
      have G2 : Gs (fun i => i = w.heap.size) wr w2 := Gs.one g2 (fun k e => (Option.some.inj e).symm)
      have hsz2 := g2.size
      have hszr := HTB.out.gs.size
      have HL2 := hidMk (HTB.out.last.grown g2 (by simp; exact fun e => HTB.out.ge.2.2 e.symm))
      have HG2 : Hid (Gs (Bl t mp ss) w w2) := HTB.out.gs.new G2 (fun i e hi => by have e' : i = w.heap.size := e; omega)
      have hob := Own.new w2 55 4 #[.slice qa qc.key.length qk, .int .i64 qc.w.f, .int .i64 qc.w.t, .slice va qc.d.length vc] rfl
      have HOB := hidMk hob
      have HVL : Hid (VLies w2 qa qc.key) := by
        obtain ⟨a', c', e', l', -⟩ := o2.form
        cases e'
        exact l'
      have HTab : Hid (Vl.Tab w2) := HTabG.out _ HG2.out
      have HGW := hidMk G2
      have HRO := hidMk hrown
      have HFX : Hid (∀ V, Below w2.heap.size w2 V → Below B w V) := fun V hV => (HTG.out _ HG2.out).trans (hV.mono (HTG.out _ HG2.out |>.size |> fun q => Nat.le_trans hBw (Nat.le_trans hszr hsz2)))
      unfold vC
      simp only
      clear g2 r2 o2 d2 hob hrown
      by_cases hk0 : k = 0
      · subst hk0
        have hgne : (((grp qc.key : Nat) : Int) == (g : Int)) = false := by
          rcases HWR.out with q1 | ⟨q1, -⟩
          · simp; omega
          · omega
        have HB3 := hidMk (bel1 w2 (.cells #[.slice qa qc.key.length qk, .int .i64 qc.w.f, .int .i64 qc.w.t, .slice va qc.d.length vc] 55))
        go_wp2_with fail
        refine (groupP_any qc.key qa qk _ (HVL.out.later HB3.out) ok2 (by have := vk_len ok1; omega) (HTab.out.later HB3.out)).mono ?_
        rintro e w4 ⟨rfl, hb4⟩
        have HB4 := hidMk (HB3.out.trans (hb4.mono HB3.out.size))
        clear hb4
        generalize ((grp qc.key : Nat) : Int) = gq at *
        have hgn2 : ¬ gq = (g : Int) := by simpa using hgne
        clear hgne
        go_wp2_with fail
        go_ret
        exact ⟨rfl, HFX.out _ HB4.out⟩
      · have hk1 : (0 : Int) < (k : Int) := by omega
        obtain ⟨-, hqo, hqd⟩ := HTB.out.key (by omega)
        have hl3 := HL2.out.later (bel1 w2 (.cells #[.slice qa qc.key.length qk, .int .i64 qc.w.f, .int .i64 qc.w.t, .slice va qc.d.length vc] 55))
        obtain ⟨qda, qdc, hqv⟩ := row_form hqd
        have hvq : VLies w2 q.ka q.c.key := by
          obtain ⟨a', c', e', l', -⟩ := hqo.form
          injection e' with e1 e2 e3
          subst e1
          exact l'.gs HGW.out (fun y hy _ e => by
            have hb : (Value.slice q.ka q.c.key.length q.kc).ownBlock = some y.block := by rw [hy]; rfl
            have e' : y.block = w.heap.size := e
            exact own_not_row HRO.out hqo (by decide) _ hb e')
        have HCMP := hidMk (compareC_any q ⟨qc, qa, qk, .slice va qc.d.length vc⟩ (w2.alloc (.cells #[.slice qa qc.key.length qk, .int .i64 qc.w.f, .int .i64 qc.w.t, .slice va qc.d.length vc] 55)) (hvq.later (bel1 _ _)) (HVL.out.later (bel1 _ _)) (by have := HQ8.out (by omega); omega) (by have := vk_len ok1; show qc.key.length ≤ _; omega) ⟨_, _, _, hqv⟩ ⟨_, _, _, rfl⟩)
        unfold vC at HCMP
        simp only [hqv] at HCMP
        unfold cellsC at hl3
        rw [hqv] at hl3
        obtain ⟨m0, m1, m2, m3⟩ := hl3.four
        have hnl : w1.heap.size ≠ w2.heap.size := by have := HL2.out.lt; omega
        have hcl := cmpC_lt q.c qc
        have hlc := HLC.out (by omega)
        clear hl3 hqv hvq hqo hqd
        by_cases hcn : cmpC q.c qc < 0
        · have hgne : (((grp qc.key : Nat) : Int) == (g : Int)) = false := by
            rcases HWR.out with q1 | ⟨q1, q2⟩
            · simp; omega
            · rw [decide_eq_true hcn, hlc, q2] at hcl; cases hcl
          clear hcl hlc
          go_wp2_with fail
          refine HCMP.out.mono ?_
          rintro e w3 ⟨rfl, hb3, -⟩
          have HB3 : Hid (Below w2.heap.size w2 w3) := (bel1 w2 _).trans (hb3.mono (by simp))
          have HOB3 := hidMk (HOB.out.later hb3)
          have o30 := HOB3.out.four.1
          clear hb3 HCMP m0 m1 m2 m3
          generalize cmpC q.c qc = cmpv at *
          go_wp2_with fail
          refine (groupP_any qc.key qa qk _ (HVL.out.later HB3.out) ok2 (by have := vk_len ok1; omega) (HTab.out.later HB3.out)).mono ?_
          rintro e w4 ⟨rfl, hb4⟩
          have HB4 := hidMk (HB3.out.trans (hb4.mono HB3.out.size))
          clear hb4
          generalize ((grp qc.key : Nat) : Int) = gq at *
          have hgn2 : ¬ gq = (g : Int) := by simpa using hgne
          clear hgne
          go_wp2_with fail
          go_ret
          exact ⟨rfl, HFX.out _ HB4.out⟩
        · clear hcl hlc
          go_wp2_with fail
          refine HCMP.out.mono ?_
          rintro e w3 ⟨rfl, hb3, -⟩
          have HB3 : Hid (Below w2.heap.size w2 w3) := (bel1 w2 _).trans (hb3.mono (by simp))
          clear hb3 HCMP m0 m1 m2 m3
          have hcp : 0 ≤ cmpC q.c qc := by omega
          generalize cmpC q.c qc = cmpv at *
          go_wp2_with fail
          go_ret
          exact ⟨rfl, HFX.out _ HB3.out⟩
end Go.Proofs.YtobhccmnlmlapaaGreatDoor
namespace Go.Proofs.YtobhccmnlmlapaaGreatDoor
open Go.RowKit Go.Maps
set_option linter.unusedVariables false
set_option linter.unusedSimpArgs false
set_option maxRecDepth 100000

theorem opened2 (body rest : List UInt8) (hb : body.length ≤ 134217728) : Wr.opnE (Wr.lat (Wr.sealed body ++ rest)) (Wr.sealed body ++ rest).length 0 = 0 ∧ Wr.opnN (Wr.lat (Wr.sealed body ++ rest)) (Wr.sealed body ++ rest).length 0 = body.length ∧ ∀ i, i < body.length → Wr.opnF (Wr.lat (Wr.sealed body ++ rest)) 0 i = Wr.lat body i := by
  have h := Wr.open_sealed [] body rest hb
  rw [List.nil_append, List.length_nil] at h
  obtain ⟨s1, s2, s3⟩ := h
  generalize Wr.lat (Wr.sealed body ++ rest) = f at *
  generalize (Wr.sealed body ++ rest).length = n at *
  have e0 : ((0 : Nat) : Int) = (0 : Int) := rfl
  rw [e0] at s1
  refine ⟨s1, ?_, fun i hi => ?_⟩
  · unfold Wr.opnN
    rw [if_pos s1, ← s2]
    rfl
  · have := s3 i hi
    unfold Wr.opnF
    rw [← this]
    rfl
theorem open_ok2 (a : Option Addr) (cap : Nat) (body rest bs : List UInt8) (w : World) (hbs : bs = Wr.sealed body ++ rest) (hb : body.length ≤ 134217728) (hr : rest.length ≤ 1) (hl : Wr.Bytes w a bs.length (Wr.lat bs)) (hc : bs.length ≤ cap) (hm : cap ≤ 9223372036854775807) (hq : Wr.Quart w) :
    Calls Tryz.prog 68 #[.slice a bs.length cap, .int .i64 0] w fun e w' => Below w.heap.size w w' ∧ ∃ v', e = .returned (.tuple #[v', .int .i64 ((body.length + 8 : Nat) : Int), .nilIface]) ∧ Wr.OL w' w.heap.size v' body := by
  have hln : bs.length = body.length + 8 + rest.length := by rw [hbs, List.length_append, Wr.sealed_len]
  refine (Wr.open_any2 a bs.length cap (Wr.lat bs) 0 w hl hc hm (by omega) (by omega) (by omega) hq).mono ?_
  rintro e w' ⟨b2, v2, rfl, o2⟩
  obtain ⟨s1, s2, s3⟩ := opened2 body rest hb
  rw [← hbs] at s1 s2 s3
  refine ⟨b2, v2, ?_, ?_⟩
  · have hT : Wr.opnT (Wr.lat bs) bs.length 0 = ((body.length + 8 : Nat) : Int) := by unfold Wr.opnT; rw [if_pos s1, s2]; omega
    rw [hT, s1]; rfl
  · rw [s2] at o2
    have he : (List.range body.length).map (fun i => Wr.u8v (Wr.opnF (Wr.lat bs) 0 i)) = body.map Wr.u8v := by
      apply List.ext_getElem?
      intro j
      by_cases hj : j < body.length
      · rw [List.getElem?_map, List.getElem?_range hj, List.getElem?_map, List.getElem?_eq_getElem hj]
        simp only [Option.map_some]
        rw [s3 j hj]
        simp [Wr.lat, hj]
      · rw [List.getElem?_eq_none (by simp; omega), List.getElem?_eq_none (by simp; omega)]
    rw [he] at o2
    exact o2
theorem bytes_form0 {w : World} {B : Nat} {v : Value} {l : List UInt8} (h : Wr.OL w B v l) : ∃ a c, v = .slice a l.length c := row_form h
/-- What is wrong with a piece. -/
def Fault (w : World) (B t mp : Nat) (cl : Nat → List Ce) (ps : List Pc) (m E : Nat) : Prop := ∀ hm : m < ps.length,
  (E = 4 ∧ 32 ≤ ps[m].g ∧ ps[m].g ≤ 100) ∨
  (E = 6 ∧ ps[m].g < 32 ∧ ps[m].g ∈ (ps.take m).map (·.g)) ∨
  (ps[m].g < 32 ∧ ps[m].g ∉ (ps.take m).map (·.g) ∧ E ≠ 0 ∧ ps[m].b.length ≤ 140737488355328 ∧ Wr.opnE (Wr.lat ps[m].b) ps[m].b.length 0 = E) ∨
  (E = 7 ∧ ps[m].g < 32 ∧ ps[m].g ∉ (ps.take m).map (·.g) ∧ ∃ body rest : List UInt8, ps[m].b = Wr.sealed body ++ rest ∧ body.length ≤ 134217728 ∧ rest.length ≤ 1 ∧ ∀ V ss' ba bc ra rc, PS V B t mp 0 32 ss' → (ces ss').Perm (accP 0 32 cl (ps.take m)) → Below B w V → Wr.OL V B (.slice ba body.length bc) body →
    Calls Tryz.prog 40 #[.pointer (some ⟨t, 0, none⟩), .int .i64 (ps[m].g : Int), .slice ba body.length bc, .slice ra rest.length rc] V fun e w' => e = .returned (.bool false) ∧ Below B V w')
set_option maxHeartbeats 4000000 in
theorem read_bad (w : World) (B t mp : Nat) (pb : Option Addr) (pc : Nat) (cl : Nat → List Ce) (ps : List Pc) (m E : Nat) (h : PS w B t mp 0 32 []) (hin : PIn w B pb ps) (hm : m < ps.length) (hpl : ps.length ≤ 33) (hr : Reads 0 32 cl (ps.take m)) (hF : Fault w B t mp cl ps m E) (ht : ∀ W, Below B w W → Vl.Tab W ∧ Wr.Quart W) :
    Calls Tryz.prog 39 #[.slice pb ps.length pc, .int .i64 0, .int .i64 32, .func (.func 40) #[.pointer (some ⟨t, 0, none⟩)] #[]] w fun e w' => e = .returned (Wr.errV E) ∧ Below B w w' := by
  have HF0 := hidMk hF
  have HP := hidMk h
  have HI := hidMk hin
  have HR := hidMk hr
  have HT := hidMk ht
  have hBw : B ≤ w.heap.size := by have h1 := h.ge.1; have h2 := h.own.lt; omega
  have HZ : Hid (Own (w.alloc (.cells #[.bool false, .bool false, .bool false, .bool false, .bool false, .bool false, .bool false, .bool false, .bool false, .bool false, .bool false, .bool false, .bool false, .bool false, .bool false, .bool false, .bool false, .bool false, .bool false, .bool false, .bool false, .bool false, .bool false, .bool false, .bool false, .bool false, .bool false, .bool false, .bool false, .bool false, .bool false, .bool false] 131)) w.heap.size 131 32 (mets [])) := Own.new w 131 32 #[.bool false, .bool false, .bool false, .bool false, .bool false, .bool false, .bool false, .bool false, .bool false, .bool false, .bool false, .bool false, .bool false, .bool false, .bool false, .bool false, .bool false, .bool false, .bool false, .bool false, .bool false, .bool false, .bool false, .bool false, .bool false, .bool false, .bool false, .bool false, .bool false, .bool false, .bool false, .bool false] rfl
  clear h hin hr ht hF
  go_enter Tryz.func39, Tryz.ntmps39
  go_wp2_with fail
  have HS0 : Hid (∀ o, Own (w.alloc o) w.heap.size 131 32 (mets []) → RI w (w.alloc o) B t mp 0 32 cl ps w.heap.size 0 []) := fun o ho => by
    have b0 := bel1 w o
    exact ⟨HP.out.later b0, by simp [accP, ces], (Below.refl _ _).alloc hBw _, by simpa using ho⟩
  go_loopw [17] (fun i wr => ∃ (k : Nat) (ss : List Sh), i = .int .i64 (k : Int) ∧ k ≤ m ∧ RI w wr B t mp 0 32 cl ps w.heap.size k ss) (fun i _ => ps.length - (intOf i).toNat)
  case atStart => exact ⟨0, [], rfl, Nat.zero_le _, HS0.out _ HZ.out⟩
  case round =>
    obtain ⟨k, ss, rfl, hk, hri⟩ := hrel
    have HRI := hidMk hri
    clear hri HS0 HZ
    by_cases hltm : k < m
    · have hlt : k < ps.length := by omega
      have hki : (k : Int) < (ps.length : Int) := by omega
      have hmt : ps[k] ∈ ps.take m := List.mem_take_iff_getElem.2 ⟨k, by omega, rfl⟩
      have htt : (ps.take m).take k = ps.take k := by rw [List.take_take, Nat.min_eq_left (by omega)]
      have htl : k < (ps.take m).length := by rw [List.length_take]; omega
      have htg : (ps.take m)[k] = ps[k] := List.getElem_take ..
      have hI := HI.out.kept HRI.out.bel
      obtain ⟨b, off, rfl, hbB, e0, e1⟩ := hI.row k hlt
      obtain ⟨va, vc, hv, hby, hvc, hvc2, hvB⟩ := hI.byt ps[k] (List.getElem_mem hlt)
      have hg32 := HR.out.grp ps[k] hmt
      have hnot : ps[k].g ∉ (ps.take k).map (·.g) := fun hm' => by
        have hn := HR.out.nod
        rw [← List.take_append_drop k (ps.take m), List.drop_eq_getElem_cons htl, List.map_append, List.map_cons, List.nodup_append, htt, htg] at hn
        exact hn.2.2 _ hm' _ (List.mem_cons_self) rfl
      obtain ⟨hb1, hb2⟩ := HR.out.byt ps[k] hmt
      have hup := HR.out.up ps[k] hmt
      have hok := HR.out.ok ps[k] hmt
      have hM : wr.cell? ⟨w.heap.size, ps[k].g, none⟩ = some (.bool false) := by
        rw [HRI.out.met.cell _ hg32, mets_at _ _ hg32, decide_eq_false hnot]
      have hMf := HRI.out.met.soft ps[k].g
      have HTK : Hid (ps.take (k + 1) = ps.take k ++ [ps[k]]) := List.take_succ_eq_append_getElem hlt
      have HMS : Hid (mets ((ps.take (k + 1)).map (·.g)) = (mets ((ps.take k).map (·.g))).set ps[k].g (.bool true)) := by rw [Hid, mets_set _ _ hg32, HTK.out, List.map_append]; rfl
      have HAc : Hid (accP 0 32 cl (ps.take (k + 1)) = accP 0 32 cl (ps.take k) ++ if inR 0 32 ps[k] = true then cl ps[k].g else []) := by
        rw [Hid, HTK.out]
        unfold accP
        rw [List.filter_append, List.flatMap_append]
        by_cases hin : inR 0 32 ps[k] = true
        · simp [hin]
        · simp [hin]
      have HWt : Hid (wt (accP 0 32 cl (ps.take (k + 1))) ≤ 67108864) := by
        refine Nat.le_trans ?_ HR.out.wl
        conv => rhs; rw [← List.take_append_drop (k + 1) (ps.take m)]
        rw [List.take_take, Nat.min_eq_left (by omega : k + 1 ≤ m)]
        unfold accP
        rw [List.filter_append, List.flatMap_append, wt_append]
        omega
      have HNg : Hid (∀ y ∈ accP 0 32 cl (ps.take k), Go.Proofs.YtobhccmnlmlapaaGreatDoor.grp y.key ≠ ps[k].g) := fun y hy e => by
        obtain ⟨p', hp', hy'⟩ := List.mem_flatMap.1 hy
        obtain ⟨h1, h2⟩ := List.mem_filter.1 hp'
        have h3 := (HR.out.ok p' (by rw [← htt] at h1; exact List.mem_of_mem_take h1) h2 y hy').2.2
        exact hnot (List.mem_map.2 ⟨p', h1, h3.symm.trans e⟩)
      have hMlt := HRI.out.met.lt
      generalize hpk : ps[k] = p at *
      obtain ⟨pg, pv, pbs⟩ := p
      simp only at e0 e1 hv hby hvc hvc2 hg32 hnot hb1 hb2 hup hok hM hMf HMS HAc HNg
      subst hv
      have HSB := hidMk hb1
      have HBY := hidMk hby
      clear hb1 hby
      have hgi : ((pg : Nat) : Int) < 32 := by omega
      have hga : (0 : Int) ≤ ((pg : Nat) : Int) := by omega
      have hMw : w.heap.size ≠ wr.heap.size := by omega
      clear hpk
      have HW1 : Hid (RI w ((wr.setCell ⟨w.heap.size, pg, none⟩ (.bool true)).alloc (.cells #[.int .i64 (pg : Int), .slice va pbs.length vc] 57)) B t mp 0 32 cl ps w.heap.size k ss → True) := fun _ => trivial
      have hp1 := HRI.out.met.put pg (.bool true)
      have hnb := HRI.out.pq.not_bl HRI.out.met (by decide) (by decide) (by decide)
      have G1 : Gs (fun i => i = w.heap.size) wr (wr.setCell ⟨w.heap.size, pg, none⟩ (.bool true)) := Gs.one hp1.2 (fun k e => (Option.some.inj e).symm)
      have hq1 := (HRI.out.pq.kept G1 (fun i hi e => hnb (by have e' : i = w.heap.size := e; rw [← e']; exact hi))).later (bel1 _ (.cells #[.int .i64 (pg : Int), .slice va pbs.length vc] 57))
      have hB1 : Below B w ((wr.setCell ⟨w.heap.size, pg, none⟩ (.bool true)).alloc (.cells #[.int .i64 (pg : Int), .slice va pbs.length vc] 57)) := by
        have h1 : Below B w (wr.setCell ⟨w.heap.size, pg, none⟩ (.bool true)) := HRI.out.bel.grown hp1.2 (Nat.le_trans hBw HRI.out.bel.size) (fun j e => by cases e; exact hBw)
        exact h1.alloc (Nat.le_trans hBw h1.size) _
      have hm1 : Own ((wr.setCell ⟨w.heap.size, pg, none⟩ (.bool true)).alloc (.cells #[.int .i64 (pg : Int), .slice va pbs.length vc] 57)) w.heap.size 131 32 (mets ((ps.take (k + 1)).map (·.g))) := by rw [HMS.out]; exact hp1.1.later (bel1 _ _)
      have HQ1 := hidMk hq1
      have HB1 := hidMk hB1
      have HM1 := hidMk hm1
      clear HW1 hp1 hnb G1 hq1 hB1 hm1
      by_cases hin : inR 0 32 ⟨pg, .slice va pbs.length vc, pbs⟩ = true
      · have hin' : (0 : Int) ≤ ((pg : Nat) : Int) ∧ ((pg : Nat) : Int) < (32 : Int) := by unfold inR at hin; simpa using hin
        obtain ⟨i1, i2⟩ := hin'
        have hpl8 : pbs.length = (encBody (cl pg)).length + 8 := by rw [HSB.out, Wr.sealed_len]
        obtain ⟨vb, vo, rfl⟩ : ∃ vb vo, va = some ⟨vb, vo, none⟩ := by obtain ⟨b', o', e', -⟩ := HBY.out 0 (by omega); exact ⟨b', o', e'⟩
        have hvlt : vb < B := hvB _ rfl
        have hby1 : Wr.Bytes ((wr.setCell ⟨w.heap.size, pg, none⟩ (.bool true)).alloc (.cells #[.int .i64 (pg : Int), .slice (some ⟨vb, vo, none⟩) pbs.length vc] 57)) (some ⟨vb, vo, none⟩) pbs.length (Wr.lat pbs) := fun i hi => by
          obtain ⟨b', o', e', hc⟩ := HBY.out i hi
          cases e'
          refine ⟨vb, vo, rfl, ?_⟩
          have h1 : (wr.setCell ⟨w.heap.size, pg, none⟩ (.bool true)).cell? ⟨vb, vo + i, none⟩ = some (.int .u8 ((Wr.lat pbs i).toNat : Int)) := (grown_set wr ⟨w.heap.size, pg, none⟩ (.bool true)).cell hc (by simp; omega)
          exact cell_later (bel1 _ _) h1
        have HOP := hidMk (open_ok (some ⟨vb, vo, none⟩) vc (encBody (cl pg)) pbs _ HSB.out hb2 hby1 hvc hvc2 (HT.out _ HB1.out).2)
        have HL8 := hidMk hpl8
        clear hby1 hpl8
        go_wp2_with fail
        refine HOP.out.mono ?_
        rintro e w2 ⟨b2, v2, rfl, o2⟩
        obtain ⟨ba2, bc2, hv2, hb2y, hbc2, hbm2⟩ := o2.conv
        subst hv2
        have HB2 := hidMk (HB1.out.trans (b2.mono (Nat.le_trans hBw (Nat.le_trans HRI.out.bel.size (by simp)))))
        have HQ2 := hidMk (HQ1.out.later b2)
        have HM2 := hidMk (HM1.out.later b2)
        have HOne2 := hidMk ((Own.new (wr.setCell ⟨w.heap.size, pg, none⟩ (.bool true)) 57 2 #[.int .i64 (pg : Int), .slice (some ⟨vb, vo, none⟩) pbs.length vc] rfl).later b2)
        have q0 := HOne2.out.two.1
        have q1 := HOne2.out.two.2.1
        rw [size_set] at q0 q1
        obtain ⟨o', ho'⟩ : ∃ o', (if vc = pbs.length then some (Addr.mk vb vo none) else some (Addr.mk vb (vo + pbs.length) none)) = some (Addr.mk vb o' none) := by split <;> exact ⟨_, rfl⟩
        have hsl := Wr.slice_from vb vo pbs.length vc pbs.length (pbs.length : Int) rfl (Nat.le_refl _) o' ho' w2.drew
        have hsla := Wr.sliceAt_from vb vo pbs.length vc pbs.length (pbs.length : Int) rfl (Nat.le_refl _) o' ho' w2.drew
        rw [Nat.sub_self] at hsl hsla
        have HTk := hidMk (take_ok w2.drew B t mp 0 32 ss pg (cl pg) ba2 bc2 (if vc = pbs.length then some (Addr.mk vb vo none) else some (Addr.mk vb (vo + pbs.length) none)) (vc - pbs.length) HQ2.out.drew ⟨hup, fun c hc => hok hin c hc, fun c hc y hy e => HNg.out y (HRI.out.prm.mem_iff.1 hy) (by rw [e.1]; exact (hok hin c hc).2.2), by
            have h1 := HWt.out
            rw [HAc.out, if_pos hin, wt_append, ← wt_perm HRI.out.prm] at h1
            exact h1⟩ (fun W hW => (HT.out W ((below_drewN HB2.out 1).trans hW)).1) (show Wr.Bytes w2.drew _ _ _ from hb2y) hbc2 (by unfold maxLen at hbm2; omega) hb2 (by
            obtain ⟨b', o'', e', -⟩ := hb2y 0 (by unfold encBody; rw [List.length_append]; have := Wr.encInt_pos ((cl pg).length : Int); omega)
            exact ⟨b', o'', e'⟩))
        have q0' : w2.drew.cell? ⟨wr.heap.size, 0, none⟩ = some (.int .i64 (pg : Int)) := q0
        have q1' : w2.drew.cell? ⟨wr.heap.size, 1, none⟩ = some (.slice (some ⟨vb, vo, none⟩) pbs.length vc) := q1
        clear b2 o2 hb2y hbc2 hbm2 ho'
        go_wp2_with fail
        clear q0 q1 HOne2
        refine wp_region_head (K := 8) (C := fun W => W = w2.drew) 6 (by kernel_rfl) (by kernel_rfl) (by kernel_rfl) (by decide) (by kernel_rfl) (by kernel_rfl) rfl ?_
        simp only [List.take_succ_cons, List.take_zero]
        with_reducible refine wpQuiet_step ?_
        intro K hK
        go_simp
        refine hK _ ?_
        clear hK K
        with_reducible refine wpQuiet_step ?_
        intro K hK
        go_simp
        refine hK _ ?_
        clear hK K
        with_reducible refine wpQuiet_step ?_
        intro K hK
        go_simp
        refine hK _ ?_
        clear hK K
        with_reducible refine wpQuiet_step ?_
        intro K hK
        go_simp
        refine hK _ ?_
        clear hK K
        with_reducible refine wpQuiet_step ?_
        intro K hK
        go_simp
        refine hK _ ?_
        clear hK K
        with_reducible refine wpQuiet_step ?_
        intro K hK
        go_simp
        refine hK _ ?_
        clear hK K
        with_reducible refine wpQuiet_step ?_
        intro K hK
        go_simp
        refine hK _ ?_
        clear hK K
        with_reducible refine wpQuiet_step ?_
        intro K hK
        go_simp
        refine hK _ ?_
        clear hK K
        intro w' hC
        obtain rfl := hC
        refine wpAny_ready (fuel := 1) (rs := [8]) (by kernel_rfl) (by simp) ?_
        refine AllReady.cons rfl (fun K hK => ?_) AllReady.nil
        go_simp
        refine HTk.out.mono ?_
        rintro e w3 ⟨rfl, hfin⟩
        refine hK _ _ ?_
        clear hK K
        have HF : Hid (∃ ss2, RI w w3 B t mp 0 32 cl ps w.heap.size (k + 1) ss2) := by
          obtain ⟨ss2, f1, f2, f3, f4⟩ := hfin
          refine ⟨ss2, f1, ?_, ?_, ?_⟩
          · rw [HAc.out, if_pos hin]
            exact f2.trans (HRI.out.prm.append_right _)
          · exact (below_drewN HB2.out 1).trans (f3.toBelow (Nat.le_trans hBw (below_drewN HB2.out 1).size) (fun i hi => (HQ2.out.drew.lt hi).1))
          · have hO : Own w2.drew w.heap.size 131 32 (mets ((ps.take (k + 1)).map (·.g))) := HM2.out
            have hnb := HQ2.out.drew.not_bl hO (by decide) (by decide) (by decide)
            exact f3.own hO (fun b hb e => hnb (by cases hb; exact e))
        clear hfin HTk HQ2 HM2 HB2
        obtain ⟨ss2, hri2⟩ := HF.out
        clear HF
        have HF := hidMk hri2
        clear hri2
        refine wpAny_ready (fuel := 0) (rs := [9]) (by kernel_rfl) (by simp) ?_
        refine AllReady.cons rfl (fun K hK => ?_) AllReady.nil
        go_simp
        refine hK _ _ ?_
        clear hK K
        refine ⟨by kernel_rfl, ?_⟩
        go_wp2_with fail
        exact ⟨⟨k + 1, ss2, by go_num, by omega, HF.out⟩, by simp [intOf]; omega⟩
      · exact absurd (show inR 0 32 ⟨pg, .slice va pbs.length vc, pbs⟩ = true by unfold inR; simp; omega) hin
    · obtain rfl : k = m := by omega
      have hlt : k < ps.length := hm
      have hki : (k : Int) < (ps.length : Int) := by omega
      have hI := HI.out.kept HRI.out.bel
      obtain ⟨b, off, rfl, hbB, e0, e1⟩ := hI.row k hlt
      obtain ⟨va, vc, hv, hby, hvc, hvc2, hvB⟩ := hI.byt ps[k] (List.getElem_mem hlt)
      have HFT := HF0.out hlt
      have hMlt := HRI.out.met.lt
      have HBF : Hid (∀ V, Below wr.heap.size wr V → Below B w V) := fun V hV => HRI.out.bel.trans (hV.mono (Nat.le_trans hBw HRI.out.bel.size))
      have hMC : ∀ g, g < 32 → wr.cell? ⟨w.heap.size, g, none⟩ = some (.bool (decide (g ∈ (ps.take k).map (·.g)))) := fun g hg => by rw [HRI.out.met.cell _ hg, mets_at _ _ hg]
      have hMF := HRI.out.met.soft
      generalize hpk : ps[k] = p at *
      obtain ⟨pg, pv, pbs⟩ := p
      simp only at e0 e1 hv hby hvc hvc2 HFT
      subst hv
      have HBY := hidMk hby
      have hMw : w.heap.size ≠ wr.heap.size := by omega
      clear hpk hby HF0
      rcases HFT with ⟨rfl, f1, f2⟩ | ⟨rfl, f1, f2⟩ | ⟨f1, f2, f3, f4, f5⟩ | ⟨rfl, f1, f2, body, rest, f3, f4, f5, f6⟩
      · have hgi : ¬ ((pg : Nat) : Int) < 32 := by omega
        have hgi2 : (32 : Int) ≤ ((pg : Nat) : Int) := by omega
        have hga : ¬ ((pg : Nat) : Int) < 0 := by omega
        clear hMC hMF
        go_wp2_with fail
        go_ret
        exact ⟨by simp [Wr.errV], HBF.out _ (by first | exact Below.refl _ _ | exact bel1 _ _)⟩
      · have hgi : ((pg : Nat) : Int) < 32 := by omega
        have hga : (0 : Int) ≤ ((pg : Nat) : Int) := by omega
        have hM := hMC pg f1
        rw [decide_eq_true f2] at hM
        have hMf := hMF pg
        clear hMC hMF f2
        go_wp2_with fail
        go_ret
        exact ⟨by simp [Wr.errV], HBF.out _ (by first | exact Below.refl _ _ | exact bel1 _ _)⟩
      · have hgi : ((pg : Nat) : Int) < 32 := by omega
        have hga : (0 : Int) ≤ ((pg : Nat) : Int) := by omega
        have hM := hMC pg f1
        rw [decide_eq_false f2] at hM
        have hMf := hMF pg
        have hp1 := HRI.out.met.put pg (.bool true)
        have hnb := HRI.out.pq.not_bl HRI.out.met (by decide) (by decide) (by decide)
        have G1 : Gs (fun i => i = w.heap.size) wr (wr.setCell ⟨w.heap.size, pg, none⟩ (.bool true)) := Gs.one hp1.2 (fun k e => (Option.some.inj e).symm)
        have hq1 := (HRI.out.pq.kept G1 (fun i hi e => hnb (by have e' : i = w.heap.size := e; rw [← e']; exact hi))).later (bel1 _ (.cells #[.int .i64 (pg : Int), .slice va pbs.length vc] 57))
        have hB1 : Below B w ((wr.setCell ⟨w.heap.size, pg, none⟩ (.bool true)).alloc (.cells #[.int .i64 (pg : Int), .slice va pbs.length vc] 57)) := by
          have h1 : Below B w (wr.setCell ⟨w.heap.size, pg, none⟩ (.bool true)) := HRI.out.bel.grown hp1.2 (Nat.le_trans hBw HRI.out.bel.size) (fun j e => by cases e; exact hBw)
          exact h1.alloc (Nat.le_trans hBw h1.size) _
        have hby1 : Wr.Bytes ((wr.setCell ⟨w.heap.size, pg, none⟩ (.bool true)).alloc (.cells #[.int .i64 (pg : Int), .slice va pbs.length vc] 57)) va pbs.length (Wr.lat pbs) := fun i hi => by
          obtain ⟨b', o', e', hc⟩ := HBY.out i hi
          have hvlt : b' < B := hvB _ e'
          refine ⟨b', o', e', ?_⟩
          have h1 : (wr.setCell ⟨w.heap.size, pg, none⟩ (.bool true)).cell? ⟨b', o' + i, none⟩ = some (.int .u8 ((Wr.lat pbs i).toNat : Int)) := (grown_set wr ⟨w.heap.size, pg, none⟩ (.bool true)).cell hc (by simp; omega)
          exact cell_later (bel1 _ _) h1
        have HB1 := hidMk hB1
        have HQ1 := hidMk hq1
        have HOP := hidMk (Wr.open_any2 va pbs.length vc (Wr.lat pbs) 0 _ hby1 hvc hvc2 f4 (by omega) (by omega) (HT.out _ HB1.out).2)
        rw [f5] at HOP
        simp only [Wr.errV, if_neg f3] at HOP ⊢
        have hsz1 : B ≤ ((wr.setCell ⟨w.heap.size, pg, none⟩ (.bool true)).alloc (.cells #[.int .i64 (pg : Int), .slice va pbs.length vc] 57)).heap.size := Nat.le_trans hBw (Nat.le_trans HRI.out.bel.size (by simp))
        clear hp1 hnb G1 hq1 hB1 hby1 hMC hMF f2 f5
        go_wp2_with fail
        refine HOP.out.mono ?_
        rintro e w2 ⟨b2, v2, rfl, o2⟩
        have HB2 := hidMk (HB1.out.trans (b2.mono hsz1))
        obtain ⟨a2, c2, hv2⟩ := row_form o2
        subst hv2
        clear b2 o2
        go_wp2_with fail
        go_ret
        exact ⟨by simp [Wr.errV, f3], HB2.out⟩
      · have hgi : ((pg : Nat) : Int) < 32 := by omega
        have hga : (0 : Int) ≤ ((pg : Nat) : Int) := by omega
        have hM := hMC pg f1
        rw [decide_eq_false f2] at hM
        have hMf := hMF pg
        have hp1 := HRI.out.met.put pg (.bool true)
        have hnb := HRI.out.pq.not_bl HRI.out.met (by decide) (by decide) (by decide)
        have G1 : Gs (fun i => i = w.heap.size) wr (wr.setCell ⟨w.heap.size, pg, none⟩ (.bool true)) := Gs.one hp1.2 (fun k e => (Option.some.inj e).symm)
        have hq1 := (HRI.out.pq.kept G1 (fun i hi e => hnb (by have e' : i = w.heap.size := e; rw [← e']; exact hi))).later (bel1 _ (.cells #[.int .i64 (pg : Int), .slice va pbs.length vc] 57))
        have hB1 : Below B w ((wr.setCell ⟨w.heap.size, pg, none⟩ (.bool true)).alloc (.cells #[.int .i64 (pg : Int), .slice va pbs.length vc] 57)) := by
          have h1 : Below B w (wr.setCell ⟨w.heap.size, pg, none⟩ (.bool true)) := HRI.out.bel.grown hp1.2 (Nat.le_trans hBw HRI.out.bel.size) (fun j e => by cases e; exact hBw)
          exact h1.alloc (Nat.le_trans hBw h1.size) _
        have hby1 : Wr.Bytes ((wr.setCell ⟨w.heap.size, pg, none⟩ (.bool true)).alloc (.cells #[.int .i64 (pg : Int), .slice va pbs.length vc] 57)) va pbs.length (Wr.lat pbs) := fun i hi => by
          obtain ⟨b', o', e', hc⟩ := HBY.out i hi
          have hvlt : b' < B := hvB _ e'
          refine ⟨b', o', e', ?_⟩
          have h1 : (wr.setCell ⟨w.heap.size, pg, none⟩ (.bool true)).cell? ⟨b', o' + i, none⟩ = some (.int .u8 ((Wr.lat pbs i).toNat : Int)) := (grown_set wr ⟨w.heap.size, pg, none⟩ (.bool true)).cell hc (by simp; omega)
          exact cell_later (bel1 _ _) h1
        have HB1 := hidMk hB1
        have HQ1 := hidMk hq1
        have hpl8 : pbs.length = body.length + 8 + rest.length := by rw [f3, List.length_append, Wr.sealed_len]
        obtain ⟨vb, vo, rfl⟩ : ∃ vb vo, va = some ⟨vb, vo, none⟩ := by obtain ⟨b', o', e', -⟩ := HBY.out 0 (by omega); exact ⟨b', o', e'⟩
        have HOP := hidMk (open_ok2 (some ⟨vb, vo, none⟩) vc body rest pbs _ f3 f4 f5 hby1 hvc hvc2 (HT.out _ HB1.out).2)
        have hsz1 : B ≤ ((wr.setCell ⟨w.heap.size, pg, none⟩ (.bool true)).alloc (.cells #[.int .i64 (pg : Int), .slice (some ⟨vb, vo, none⟩) pbs.length vc] 57)).heap.size := Nat.le_trans hBw (Nat.le_trans HRI.out.bel.size (by simp))
        have HF6 := hidMk f6
        have HL8 := hidMk hpl8
        have hk8 : body.length + 8 ≤ pbs.length := by omega
        clear hp1 hnb G1 hq1 hB1 hby1 hMC hMF f2 f6 f3 hpl8
        go_wp2_with fail
        refine HOP.out.mono ?_
        rintro e w2 ⟨b2, v2, rfl, o2⟩
        obtain ⟨ba2, bc2, hv2⟩ := bytes_form0 o2
        subst hv2
        have HB2 := hidMk (HB1.out.trans (b2.mono hsz1))
        have HQ2 := hidMk (HQ1.out.later b2)
        have HOne2 := hidMk ((Own.new (wr.setCell ⟨w.heap.size, pg, none⟩ (.bool true)) 57 2 #[.int .i64 (pg : Int), .slice (some ⟨vb, vo, none⟩) pbs.length vc] rfl).later b2)
        have q0 := HOne2.out.two.1
        have q1 := HOne2.out.two.2.1
        rw [size_set] at q0 q1
        obtain ⟨o', ho'⟩ : ∃ o', (if vc = body.length + 8 then some (Addr.mk vb vo none) else some (Addr.mk vb (vo + (body.length + 8)) none)) = some (Addr.mk vb o' none) := by split <;> exact ⟨_, rfl⟩
        have hsl := Wr.slice_from vb vo pbs.length vc (body.length + 8) ((body.length : Int) + 8) (by omega) (by omega) o' ho' w2.drew
        have hsla := Wr.sliceAt_from vb vo pbs.length vc (body.length + 8) ((body.length : Int) + 8) (by omega) (by omega) o' ho' w2.drew
        rw [show pbs.length - (body.length + 8) = rest.length by have q := HL8.out; omega] at hsl hsla
        have HTk := hidMk (fun ra rc => HF6.out w2.drew ss ba2 bc2 ra rc HQ2.out.drew HRI.out.prm (below_drewN HB2.out 1) (show Wr.OL w2.drew B _ body from World.ownsRow.mono o2 hsz1))
        have q0' : w2.drew.cell? ⟨wr.heap.size, 0, none⟩ = some (.int .i64 (pg : Int)) := q0
        have q1' : w2.drew.cell? ⟨wr.heap.size, 1, none⟩ = some (.slice (some ⟨vb, vo, none⟩) pbs.length vc) := q1
        have hk8i : (body.length : Int) + 8 ≤ (pbs.length : Int) := by omega
        have hk8z : (0 : Int) ≤ (body.length : Int) + 8 := by omega
        have htn : ((body.length : Int) + 8).toNat = body.length + 8 := by omega
        have hrl : pbs.length - (body.length + 8) = rest.length := by have q := HL8.out; omega
        clear b2 o2 ho' q0 q1 HOne2 hsl hsla
        go_wp2_with fail
        refine wp_region_head (K := 8) (C := (fun W => W = w2.drew)) 6 (by kernel_rfl) (by kernel_rfl) (by kernel_rfl) (by decide) (by kernel_rfl) (by kernel_rfl) rfl ?_
        simp only [List.take_succ_cons, List.take_zero]
        with_reducible refine wpQuiet_step ?_
        intro K hK
        go_simp
        refine hK _ ?_
        clear hK K
        with_reducible refine wpQuiet_step ?_
        intro K hK
        go_simp
        refine hK _ ?_
        clear hK K
        with_reducible refine wpQuiet_step ?_
        intro K hK
        go_simp
        refine hK _ ?_
        clear hK K
        with_reducible refine wpQuiet_step ?_
        intro K hK
        go_simp
        refine hK _ ?_
        clear hK K
        with_reducible refine wpQuiet_step ?_
        intro K hK
        go_simp
        refine hK _ ?_
        clear hK K
        with_reducible refine wpQuiet_step ?_
        intro K hK
        go_simp
        refine hK _ ?_
        clear hK K
        with_reducible refine wpQuiet_step ?_
        intro K hK
        go_simp
        refine hK _ ?_
        clear hK K
        with_reducible refine wpQuiet_step ?_
        intro K hK
        go_simp
        refine hK _ ?_
        clear hK K
        intro w' hC
        obtain rfl := hC
        refine wpAny_ready (fuel := 1) (rs := [8]) (by kernel_rfl) (by simp) ?_
        refine AllReady.cons rfl (fun K hK => ?_) AllReady.nil
        go_simp
        refine (HTk.out _ _).mono ?_
        rintro e w3 ⟨rfl, b3⟩
        refine hK _ _ ?_
        clear hK K
        refine wpAny_ready (fuel := 0) (rs := [9]) (by kernel_rfl) (by simp) ?_
        refine AllReady.cons rfl (fun K hK => ?_) AllReady.nil
        go_simp
        refine hK _ _ ?_
        clear hK K
        refine ⟨by kernel_rfl, ?_⟩
        have HB3 := hidMk ((below_drewN HB2.out 1).trans b3)
        clear b3 HTk
        go_wp2_with fail
        all_goals
          go_ret
          exact ⟨by simp [Wr.errV], HB3.out⟩
end Go.Proofs.YtobhccmnlmlapaaGreatDoor
namespace Go.Proofs.YtobhccmnlmlapaaGreatDoor
open Go.RowKit Go.Maps
set_option linter.unusedVariables false
set_option linter.unusedSimpArgs false
set_option maxRecDepth 100000

set_option maxHeartbeats 2000000 in
/-- Something stands behind the body. -/
theorem take_behind (w : World) (t : Nat) (g : Nat) (l : List Ce) (a : Option Addr) (c : Nat) (ba : Option Addr) (bn bc : Nat) (hb : Wr.Bytes w a (encBody l).length (Wr.lat (encBody l))) (hc : (encBody l).length ≤ c) (hc2 : c ≤ 9223372036854775807) (hL : (encBody l).length ≤ 134217728) (ha : ∃ b off, a = some ⟨b, off, none⟩) (hbn : 0 < bn ∧ bn ≤ 10) :
    Calls Tryz.prog 40 #[.pointer (some ⟨t, 0, none⟩), .int .i64 (g : Int), .slice a (encBody l).length c, .slice ba bn bc] w fun e w' => e = .returned (.bool false) ∧ Below w.heap.size w w' := by
  have hB0 := bel1 w (.cells #[.slice a (encBody l).length c] 136)
  have hR0 : Wr.Rd (w.alloc (.cells #[.slice a (encBody l).length c] 136)) w.heap.size (encBody l) :=
    ⟨a, c, Own.new w 136 1 #[.slice a (encBody l).length c] rfl, ⟨hb.later hB0, hc, hc2, fun x hx => by
      obtain ⟨b, off, e⟩ := ha
      rw [hx] at e
      cases e
      have hp : 0 < (encBody l).length := by unfold encBody; rw [List.length_append]; have := Wr.encInt_pos (l.length : Int); omega
      obtain ⟨b', o', e', hcell⟩ := hb 0 hp
      rw [hx] at e'
      cases e'
      exact World.block_lt_of_cell? _ _ hcell, ha, by omega⟩⟩
  have hlen : l.length ≤ 134217728 := by
    have := flatCe_len l
    unfold encBody at hL
    rw [List.length_append] at hL
    omega
  have HCt := hidMk (cnt_ok w.heap.size (l.flatMap encCe) l.length _ hR0 ⟨by omega, by omega⟩ (flatCe_len l))
  have HB0 := hidMk hB0
  have hbp : (0 : Int) < (bn : Int) := by omega
  clear hb ha hB0 hR0
  generalize hEL : (encBody l).length = EL at *
  clear hEL
  go_enter Tryz.func40, Tryz.ntmps40
  go_wp2_with fail
  refine HCt.out.mono ?_
  rintro e w1 ⟨rfl, g1, r1⟩
  have HB1 : Hid (Below w.heap.size w w1) := HB0.out.grown g1 HB0.out.size (fun j e => by cases e; exact Nat.le_refl _)
  clear g1 r1
  go_wp2_with fail
  go_ret
  exact ⟨rfl, HB1.out⟩
set_option maxHeartbeats 2000000 in
theorem load_bad (w : World) (B t mp : Nat) (ss : List Sh) (pb : Option Addr) (pc : Nat) (cl : Nat → List Ce) (ps : List Pc) (m E : Nat) (h : PS w B t mp 0 32 ss) (hin : PIn w w.heap.size pb ps) (hm : m < ps.length) (hpl : ps.length ≤ 33) (hr : Reads 0 32 cl (ps.take m)) (hE : E ≠ 0) (hF : ∀ V t1 m1, PS V w.heap.size t1 m1 0 32 [] → Below w.heap.size w V → Fault V w.heap.size t1 m1 cl ps m E) (ht : ∀ W, Below w.heap.size w W → Vl.Tab W ∧ Wr.Quart W) :
    Calls Tryz.prog 12 #[.pointer (some ⟨t, 0, none⟩), .slice pb ps.length pc] w fun e w' => e = .returned (Wr.errV E) ∧ Below w.heap.size w w' := by
  have hlt := h.own.lt
  have HP := hidMk h
  have HI := hidMk hin
  have HR := hidMk hr
  have HT := hidMk ht
  have HF := hidMk hF
  have HE := hidMk (fun W => empty_any 0 32 W h.rg)
  have e0 := h.cells.1
  have e1 := h.cells.2.1
  clear h hin hr ht hF
  simp only [Wr.errV, if_neg hE]
  go_enter Tryz.func12, Tryz.ntmps12
  go_wp2_with fail
  refine wp_region_head (K := 8) (C := (fun W => W = w.drew)) 8 (by kernel_rfl) (by kernel_rfl) (by kernel_rfl) (by decide) (by kernel_rfl) (by kernel_rfl) rfl ?_
  simp only [List.take_succ_cons, List.take_zero]
  with_reducible refine wpQuiet_step ?_
  intro K hK
  go_simp
  refine hK _ ?_
  clear hK K
  with_reducible refine wpQuiet_step ?_
  intro K hK
  go_simp
  refine hK _ ?_
  clear hK K
  with_reducible refine wpQuiet_step ?_
  intro K hK
  go_simp
  refine hK _ ?_
  clear hK K
  with_reducible refine wpQuiet_step ?_
  intro K hK
  go_simp
  refine hK _ ?_
  clear hK K
  with_reducible refine wpQuiet_step ?_
  intro K hK
  go_simp
  refine hK _ ?_
  clear hK K
  with_reducible refine wpQuiet_step ?_
  intro K hK
  go_simp
  refine hK _ ?_
  clear hK K
  with_reducible refine wpQuiet_step ?_
  intro K hK
  go_simp
  refine hK _ ?_
  clear hK K
  with_reducible refine wpQuiet_step ?_
  intro K hK
  go_simp
  refine hK _ ?_
  clear hK K
  intro w' hC
  obtain rfl := hC
  refine wpAny_ready (fuel := 1) (rs := [8]) (by kernel_rfl) (by simp) ?_
  refine AllReady.cons rfl (fun K hK => ?_) AllReady.nil
  go_simp
  refine (HE.out _).mono ?_
  rintro e w1 ⟨t1, mp1, rfl, hp1, hb1⟩
  refine hK _ _ ?_
  clear hK K
  refine wpAny_ready (fuel := 0) (rs := [9]) (by kernel_rfl) (by simp) ?_
  refine AllReady.cons rfl (fun K hK => ?_) AllReady.nil
  go_simp
  refine hK _ _ ?_
  clear hK K
  refine ⟨by kernel_rfl, ?_⟩
  have hbw : Below w.heap.size w w1 := (below_drewN (Below.refl _ _) 1).trans hb1
  have HRd := hidMk (read_bad w1.drew w.heap.size t1 mp1 pb pc cl ps m E hp1.drew (HI.out.kept (below_drewN hbw 1)) hm hpl HR.out (HF.out w1.drew t1 mp1 hp1.drew (below_drewN hbw 1)) (fun W hW => HT.out W ((below_drewN hbw 1).trans hW)))
  simp only [Wr.errV, if_neg hE] at HRd
  have f0 : w1.drew.cell? ⟨t, 0, none⟩ = some (.int .i64 0) := (hbw.cell (p := ⟨t, 0, none⟩) hlt).trans e0
  have f1 : w1.drew.cell? ⟨t, 1, none⟩ = some (.int .i64 32) := (hbw.cell (p := ⟨t, 1, none⟩) hlt).trans e1
  have HBW := hidMk hbw
  clear hp1 hb1 e0 e1 hbw
  go_wp2_with fail
  refine wp_region_head (K := 11) (C := (fun W => W = w1.drew)) 8 (by kernel_rfl) (by kernel_rfl) (by kernel_rfl) (by decide) (by kernel_rfl) (by kernel_rfl) rfl ?_
  simp only [List.take_succ_cons, List.take_zero]
  with_reducible refine wpQuiet_step ?_
  intro K hK
  go_simp
  refine hK _ ?_
  clear hK K
  with_reducible refine wpQuiet_step ?_
  intro K hK
  go_simp
  refine hK _ ?_
  clear hK K
  with_reducible refine wpQuiet_step ?_
  intro K hK
  go_simp
  refine hK _ ?_
  clear hK K
  with_reducible refine wpQuiet_step ?_
  intro K hK
  go_simp
  refine hK _ ?_
  clear hK K
  with_reducible refine wpQuiet_step ?_
  intro K hK
  go_simp
  refine hK _ ?_
  clear hK K
  with_reducible refine wpQuiet_step ?_
  intro K hK
  go_simp
  refine hK _ ?_
  clear hK K
  with_reducible refine wpQuiet_step ?_
  intro K hK
  go_simp
  refine hK _ ?_
  clear hK K
  with_reducible refine wpQuiet_step ?_
  intro K hK
  go_simp
  refine hK _ ?_
  clear hK K
  with_reducible refine wpQuiet_step ?_
  intro K hK
  go_simp
  refine hK _ ?_
  clear hK K
  with_reducible refine wpQuiet_step ?_
  intro K hK
  go_simp
  refine hK _ ?_
  clear hK K
  with_reducible refine wpQuiet_step ?_
  intro K hK
  go_simp
  refine hK _ ?_
  clear hK K
  intro w' hC
  obtain rfl := hC
  refine wpAny_ready (fuel := 1) (rs := [11]) (by kernel_rfl) (by simp) ?_
  refine AllReady.cons rfl (fun K hK => ?_) AllReady.nil
  go_simp
  refine HRd.out.mono ?_
  rintro e w2 ⟨rfl, hb2⟩
  refine hK _ _ ?_
  clear hK K
  refine wpAny_ready (fuel := 0) (rs := [12]) (by kernel_rfl) (by simp) ?_
  refine AllReady.cons rfl (fun K hK => ?_) AllReady.nil
  go_simp
  refine hK _ _ ?_
  clear hK K
  refine ⟨by kernel_rfl, ?_⟩
  have HB2 := hidMk ((below_drewN HBW.out 1).trans hb2)
  clear hb2 HRd f0 f1
  go_wp2_with fail
  go_ret
  exact ⟨rfl, HB2.out⟩
end Go.Proofs.YtobhccmnlmlapaaGreatDoor
namespace Go.Proofs.YtobhccmnlmlapaaGreatDoor
open Go.RowKit Go.Maps
set_option linter.unusedVariables false
set_option linter.unusedSimpArgs false
set_option maxRecDepth 100000

theorem opnE_cut (body : List UInt8) (hb : body.length < 4294967296) (j : Nat) (hj : j < body.length + 8) : Wr.opnE (Wr.lat ((Wr.sealed body).take j)) j 0 = 7 := by
  by_cases h8 : j < 8
  · exact Wr.opnE_out _ _ _ (.inr (by omega))
  · have hw : (Wr.wordN fun i => Wr.lat ((Wr.sealed body).take j) (0 + i)) = body.length :=
      (Wr.wb_word _ _ (by omega)).2 (fun i hi => by
        rw [Nat.zero_add, ← Wr.sealed_head body i hi]
        unfold Wr.lat
        simp only [List.getD]
        rw [List.getElem?_take_of_lt (by omega)])
    have := Wr.opnE_in (Wr.lat ((Wr.sealed body).take j)) j 0 (by omega)
    rw [hw, if_pos (.inr (by omega))] at this
    exact this
theorem opnE_long (body : List UInt8) (hb : body.length < 4294967296) (hl : 134217728 < body.length) : Wr.opnE (Wr.lat (Wr.sealed body)) (Wr.sealed body).length 0 = 7 := by
  have hw : (Wr.wordN fun i => Wr.lat (Wr.sealed body) (0 + i)) = body.length :=
    (Wr.wb_word _ _ (by omega)).2 (fun i hi => by rw [Nat.zero_add, ← Wr.sealed_head body i hi])
  have hs := Wr.sealed_len body
  have := Wr.opnE_in (Wr.lat (Wr.sealed body)) (Wr.sealed body).length 0 (by omega)
  rw [hw, if_pos (.inl hl)] at this
  exact this
def pickP (n : Int) (b : Nat) : Nat := (if Int.tmod n b < 0 then Int.tmod n b + b else Int.tmod n b).toNat
theorem pick_lt (n : Int) (b : Nat) (hb : 0 < b) : pickP n b < b := by
  have h1 := Int.tmod_lt_of_pos n (show (0 : Int) < b by omega)
  unfold pickP
  split <;> omega
theorem pick_any (n : Int) (b : Nat) (w : World) (hb : 0 < b) (hb2 : b ≤ 1099511627776) (hn : -9223372036854775808 ≤ n ∧ n ≤ 9223372036854775807) :
    Calls Tryz.prog 17 #[.int .i64 n, .int .i64 (b : Int)] w fun e w' => e = .returned (.int .i64 (pickP n b : Int)) ∧ w' = w := by
  have h1 := Int.tmod_lt_of_pos n (show (0 : Int) < b by omega)
  have h2 : -(b : Int) < Int.tmod n b := by
    have q := Int.tmod_lt_of_pos (-n) (show (0 : Int) < b by omega)
    rw [Int.neg_tmod] at q
    omega
  have hz : ¬ ((b : Int) = 0) := by omega
  have HP : Hid ((pickP n b : Int) = if Int.tmod n b < 0 then Int.tmod n b + b else Int.tmod n b) := by
    unfold Hid pickP
    split <;> omega
  go_enter Tryz.func17, Tryz.ntmps17
  by_cases h0 : Int.tmod n b < 0
  · have hw : IntKind.i64.wrap (Int.tmod n b) = Int.tmod n b := wi64 (by omega) (by omega)
    go_wp2
    go_ret
    exact ⟨ret_int (by rw [HP.out, if_pos h0]), rfl⟩
  · have hw : IntKind.i64.wrap (Int.tmod n b) = Int.tmod n b := wi64 (by omega) (by omega)
    go_wp2
    go_ret
    exact ⟨ret_int (by rw [HP.out, if_neg (by omega)]), rfl⟩
theorem Reads.take {lo hi : Int} {cl : Nat → List Ce} {ps : List Pc} (h : Reads lo hi cl ps) (m : Nat) : Reads lo hi cl (ps.take m) :=
  ⟨fun p hp => h.grp p (List.mem_of_mem_take hp), h.nod.sublist ((List.take_sublist _ _).map _), fun p hp => h.byt p (List.mem_of_mem_take hp), fun p hp => h.up p (List.mem_of_mem_take hp), fun p hp => h.ok p (List.mem_of_mem_take hp), by
    refine Nat.le_trans ?_ h.wl
    conv => rhs; rw [← List.take_append_drop m ps]
    unfold accP
    rw [List.filter_append, List.flatMap_append, wt_append]
    omega⟩
theorem Reads.not_mem {lo hi : Int} {cl : Nat → List Ce} {ps : List Pc} (h : Reads lo hi cl ps) {k : Nat} (hk : k < ps.length) : ps[k].g ∉ (ps.take k).map (·.g) := fun hm => by
  have hn := h.nod
  rw [← List.take_append_drop k ps, List.drop_eq_getElem_cons hk, List.map_append, List.map_cons, List.nodup_append] at hn
  exact hn.2.2 _ hm _ (List.mem_cons_self) rfl
theorem set_take (ps : List Pc) (k : Nat) (p : Pc) : (ps.set k p).take k = ps.take k := by rw [List.take_set, List.set_eq_of_length_le (by simp; omega)]
theorem PS.size {V : World} {B t mp : Nat} {lo hi : Int} {ss : List Sh} (h : PS V B t mp lo hi ss) : B ≤ V.heap.size := by have h1 := h.ge.1; have h2 := h.own.lt; omega
/-- One group twice. -/
theorem fault_twice {V : World} {B t mp : Nat} {cl : Nat → List Ce} {ps : List Pc} {p : Pc} (hp : p.g ∈ ps.map (·.g)) (hg : p.g < 32) : Fault V B t mp cl (ps ++ [p]) ps.length 6 := fun hm => .inr (.inl ⟨rfl, by simpa using hg, by simpa using hp⟩)
/-- No group. -/
theorem fault_none {V : World} {B t mp : Nat} {cl : Nat → List Ce} {ps : List Pc} {k : Nat} (hk : k < ps.length) {p : Pc} (h1 : 32 ≤ p.g) (h2 : p.g ≤ 100) : Fault V B t mp cl (ps.set k p) k 4 := fun hm => .inl ⟨rfl, by simpa using h1, by simpa using h2⟩
/-- wire.Open tells what is wrong. -/
theorem fault_open {V : World} {B t mp : Nat} {cl : Nat → List Ce} {ps : List Pc} {k E : Nat} (hk : k < ps.length) {p : Pc} (hr : Reads 0 32 cl ps) (hg : p.g = ps[k].g) (hE : E ≠ 0) (hl : p.b.length ≤ 140737488355328) (ho : Wr.opnE (Wr.lat p.b) p.b.length 0 = E) : Fault V B t mp cl (ps.set k p) k E := fun hm => by
  have h1 : p.g < 32 := by rw [hg]; exact hr.grp _ (List.getElem_mem hk)
  have h2 : p.g ∉ (ps.take k).map (·.g) := by rw [hg]; exact hr.not_mem hk
  refine .inr (.inr (.inl ?_))
  rw [set_take, List.getElem_set_self]
  exact ⟨h1, h2, hE, hl, ho⟩
theorem some_of {V : World} {B : Nat} {ba : Option Addr} {bc : Nat} {l : List Ce} (h : Wr.OL V B (.slice ba (encBody l).length bc) (encBody l)) : ∃ b off, ba = some ⟨b, off, none⟩ := by
  obtain ⟨b', o', e', -⟩ := (Wr.OL.bytes h).2 0 (by unfold encBody; rw [List.length_append]; have := Wr.encInt_pos (l.length : Int); omega)
  exact ⟨b', o', e'⟩
theorem ol_cap {V : World} {B : Nat} {ba : Option Addr} {n bc : Nat} {l : List UInt8} (h : Wr.OL V B (.slice ba n bc) l) : l.length ≤ bc ∧ bc ≤ 9223372036854775807 := by
  obtain ⟨a, c, e, -, h1, h2⟩ := h.conv
  injection e with e1 e2 e3
  rw [e3]
  unfold maxLen at h2
  exact ⟨h1, by omega⟩
/-- A byte behind the body. -/
theorem fault_behind {V : World} {B t mp : Nat} {cl : Nat → List Ce} {ps : List Pc} {k : Nat} (hk : k < ps.length) {p : Pc} (x : UInt8) (hr : Reads 0 32 cl ps) (hg : p.g = ps[k].g) (hb : p.b = ps[k].b ++ [x]) : Fault V B t mp cl (ps.set k p) k 7 := fun hm => by
  have h1 : p.g < 32 := by rw [hg]; exact hr.grp _ (List.getElem_mem hk)
  have h2 : p.g ∉ (ps.take k).map (·.g) := by rw [hg]; exact hr.not_mem hk
  obtain ⟨b1, b2⟩ := hr.byt _ (List.getElem_mem hk)
  refine .inr (.inr (.inr ?_))
  rw [set_take]
  rw [List.getElem_set_self]
  refine ⟨rfl, h1, h2, encBody (cl ps[k].g), [x], by rw [hb, b1], b2, by simp, fun V' ss' ba bc ra rc hp hm' hV hO => ?_⟩
  obtain ⟨q1, q2⟩ := ol_cap hO
  refine (take_behind V' t p.g (cl ps[k].g) ba bc ra [x].length rc (Wr.OL.bytes hO).2 q1 q2 b2 (some_of hO) ⟨by simp, by simp⟩).mono ?_
  rintro e w' ⟨rfl, hb'⟩
  exact ⟨rfl, hb'.mono hp.size⟩
/-- Cells of another group. -/
theorem fault_other {V : World} {B t mp : Nat} {cl : Nat → List Ce} {ps : List Pc} {k : Nat} (hk : k < ps.length) {p : Pc} (hr : Reads 0 32 cl ps) (hg : p.g < 32) (hne : p.g ≠ ps[k].g) (hno : ∀ i (hi : i < ps.length), i ≠ k → ps[i].g ≠ p.g) (hb : p.b = ps[k].b) (hc : cl ps[k].g ≠ []) (ht : ∀ W, Below B V W → Vl.Tab W) : Fault V B t mp cl (ps.set k p) k 7 := fun hm => by
  have h2 : p.g ∉ (ps.take k).map (·.g) := fun hm' => by
    obtain ⟨q, hq, e⟩ := List.mem_map.1 hm'
    obtain ⟨i, hi, e2⟩ := List.mem_take_iff_getElem.1 hq
    exact hno i (by omega) (by omega) (by rw [e2]; exact e)
  obtain ⟨b1, b2⟩ := hr.byt _ (List.getElem_mem hk)
  have hok := hr.ok _ (List.getElem_mem hk) (show inR 0 32 ps[k] = true by have := hr.grp _ (List.getElem_mem hk); unfold inR; simp; omega)
  have hwl : ∀ c ∈ cl ps[k].g, c.d.length ≤ 67108864 := fun c hcl => by
    have h3 := hr.wl
    have hsub : ([c] : List Ce).Sublist (accP 0 32 cl ps) := by
      refine List.singleton_sublist.2 ?_
      unfold accP
      refine List.mem_flatMap.2 ⟨ps[k], List.mem_filter.2 ⟨List.getElem_mem hk, ?_⟩, hcl⟩
      have := hr.grp _ (List.getElem_mem hk); unfold inR; simp; omega
    have h4 := wt_sub hsub
    have h5 : wt [c] = c.d.length + 64 * c.key.length + 32 := by simp [wt, wg, wgh]
    omega
  have h0 : 0 < (cl ps[k].g).length := List.length_pos_iff.2 hc
  obtain ⟨k1, k2, k3⟩ := hok (cl ps[k].g)[0] (List.getElem_mem h0)
  refine .inr (.inr (.inr ?_))
  rw [set_take, List.getElem_set_self]
  refine ⟨rfl, hg, h2, encBody (cl ps[k].g), [], by rw [hb, b1, List.append_nil], b2, by simp, fun V' ss' ba bc ra rc hp hm' hV hO => ?_⟩
  obtain ⟨q1, q2⟩ := ol_cap hO
  exact take_bad V' B t mp 0 32 ss' p.g (cl ps[k].g) 0 ba bc ra rc hp h0 ⟨by simp, (fun c hcl => by simp at hcl), (fun c hcl => by simp at hcl), by simpa [wt] using hp.wl⟩ ⟨k1.1, k2, k1.2.1, hwl _ (List.getElem_mem h0)⟩ (.inl (by rw [k3]; exact fun e => hne e.symm)) (fun W hW => ht W (hV.trans hW)) (Wr.OL.bytes hO).2 q1 q2 b2 (some_of hO)
end Go.Proofs.YtobhccmnlmlapaaGreatDoor
namespace Go.Proofs.YtobhccmnlmlapaaGreatDoor
open Go.RowKit Go.Maps
set_option linter.unusedVariables false
set_option linter.unusedSimpArgs false
set_option maxRecDepth 100000

/-- The last cell twice. -/
theorem fault_last {V : World} {B t mp : Nat} {cl : Nat → List Ce} {ps : List Pc} {k : Nat} (hk : k < ps.length) {p : Pc} (z : Ce) (hr : Reads 0 32 cl ps) (hg : p.g = ps[k].g) (hz : (cl ps[k].g).getLast? = some z) (hb : p.b = Wr.sealed (encBody (cl ps[k].g ++ [z]))) (hl : (encBody (cl ps[k].g ++ [z])).length < 4294967296) (ht : ∀ W, Below B V W → Vl.Tab W) : Fault V B t mp cl (ps.set k p) k 7 := by
  by_cases hbig : 134217728 < (encBody (cl ps[k].g ++ [z])).length
  · refine fault_open hk hr hg (by decide) ?_ ?_
    · rw [hb, Wr.sealed_len]; omega
    · rw [hb]; exact opnE_long _ hl hbig
  · intro hm
    have h1 : p.g < 32 := by rw [hg]; exact hr.grp _ (List.getElem_mem hk)
    have h2 : p.g ∉ (ps.take k).map (·.g) := by rw [hg]; exact hr.not_mem hk
    have hin : inR 0 32 ps[k] = true := by have := hr.grp _ (List.getElem_mem hk); unfold inR; simp; omega
    have hok := hr.ok _ (List.getElem_mem hk) hin
    have hup := hr.up _ (List.getElem_mem hk)
    have hw : wt (accP 0 32 cl (ps.take k)) + wt (cl ps[k].g) ≤ 67108864 := by
      have h3 := (hr.take (k + 1)).wl
      rw [List.take_succ_eq_append_getElem hk] at h3
      unfold accP at h3 ⊢
      rw [List.filter_append, List.flatMap_append, wt_append] at h3
      simpa [hin] using h3
    have hne : cl ps[k].g ≠ [] := fun e => by rw [e] at hz; cases hz
    have hzm : z ∈ cl ps[k].g := List.mem_of_getLast? hz
    have hpos : 0 < (cl ps[k].g).length := List.length_pos_iff.2 hne
    have hz2 : (cl ps[k].g)[(cl ps[k].g).length - 1]? = some z := by rw [← List.getLast?_eq_getElem?]; exact hz
    obtain ⟨k1, k2, k3⟩ := hok z hzm
    have hzl : z.d.length ≤ 67108864 := by
      have h4 := wt_sub (List.singleton_sublist.2 hzm)
      have h5 : wt [z] = z.d.length + 64 * z.key.length + 32 := by simp [wt, wg, wgh]
      omega
    have hno : ∀ y ∈ accP 0 32 cl (ps.take k), Go.Proofs.YtobhccmnlmlapaaGreatDoor.grp y.key ≠ ps[k].g := fun y hy e => by
      unfold accP at hy
      obtain ⟨q, hq, hyq⟩ := List.mem_flatMap.1 hy
      obtain ⟨hq1, hq2⟩ := List.mem_filter.1 hq
      have h6 := (hr.ok q (List.mem_of_mem_take hq1) hq2 y hyq).2.2
      rw [hg] at h2
      exact h2 (List.mem_map.2 ⟨q, hq1, by rw [← h6, e]⟩)
    refine .inr (.inr (.inr ?_))
    rw [set_take, List.getElem_set_self]
    refine ⟨rfl, h1, h2, encBody (cl ps[k].g ++ [z]), [], by rw [hb, List.append_nil], by omega, by simp, fun V' ss' ba bc ra rc hp hm' hV hO => ?_⟩
    obtain ⟨q1, q2⟩ := ol_cap hO
    have hg2 := hg
    generalize hC : cl ps[k].g = C at *
    have hlast : (C ++ [z])[C.length]'(by simp) = z := by simp
    refine take_bad V' B t mp 0 32 ss' p.g (C ++ [z]) C.length ba bc ra rc hp (by simp) ?_ ?_ (.inr ⟨hpos, ?_⟩) (fun W hW => ht W (hV.trans hW)) (Wr.OL.bytes hO).2 q1 q2 (by omega) (some_of hO)
    · rw [List.take_left' rfl, hg]
      exact ⟨hup, fun c hc => hok c hc, fun c hc y hy e => hno y (hm'.mem_iff.1 hy) (by rw [e.1]; exact (hok c hc).2.2), by rw [wt_perm hm']; exact hw⟩
    · rw [hlast]
      exact ⟨k1.1, k2, k1.2.1, hzl⟩
    · have h7 : (C ++ [z])[C.length - 1]'(by simp; omega) = z := by
        rw [List.getElem_append_left (by omega)]
        rw [List.getElem?_eq_getElem (by omega)] at hz2
        exact Option.some.inj hz2
      rw [hlast, h7]
      exact ltC_irrefl z
end Go.Proofs.YtobhccmnlmlapaaGreatDoor
namespace Go.Proofs.YtobhccmnlmlapaaGreatDoor
open Go.RowKit Go.Maps
set_option linter.unusedVariables false
set_option linter.unusedSimpArgs false
set_option maxRecDepth 100000

/-- Cells, one of them twice. -/
structure DC2 (qs : List Cx) : Prop where
  good : ∀ q ∈ qs, GoodK q.c.key ∧ vk q.c.key = true ∧ kp q.c.w = true
  wl : wt (qs.map (·.c)) ≤ 134217728
  dl : ∀ q ∈ qs, q.c.d.length ≤ 67108864
theorem DC2.len {qs : List Cx} (h : DC2 qs) : qs.length ≤ 4194304 := by
  have := wt_len (qs.map (·.c))
  have := h.wl
  rw [List.length_map] at *
  omega
theorem DC2.klen {qs : List Cx} (h : DC2 qs) {q : Cx} (hq : q ∈ qs) : q.c.key.length ≤ 8 := ((vk_iff _).1 (h.good q hq).2.1).2
theorem enc_le2 (l : List Ce) (h : ∀ c ∈ l, okE c ∧ c.d.length ≤ 67108864) : (l.flatMap encCe).length ≤ 2 * wt l := by
  induction l with
  | nil => simp
  | cons c l ih =>
    rw [wt_cons]
    have h1 := ih (fun x hx => h x (by simp [hx]))
    obtain ⟨⟨k1, k2, k3⟩, h3⟩ := h c (by simp)
    have h2 := encCe_len c k1 k2 k3 h3
    rw [List.flatMap_cons, List.length_append]
    omega
set_option maxHeartbeats 8000000 in
theorem pieceD_F2 (g : Nat) (F : List Ce) (EB : List UInt8) (w : World) (B s : Nat) (lo hi : Int) (u : Value) (qs : List Cx) (hFF : ((qs.map (·.c)).filter fun c => grp c.key == g) = F) (hEE : encBody F = EB) (h : DS w B s lo hi u qs) (hc : DC2 qs) :
    Calls Tryz.prog 33 #[.pointer (some ⟨s, 0, none⟩), .int .i64 (g : Int)] w fun e w' => ∃ v, e = .returned (.tuple #[v, .bool (decide (0 < F.length))]) ∧ Wr.OL w' w.heap.size v (Wr.sealed EB) ∧ Below w.heap.size w w' := by
  have HFF := hidMk hFF
  have HEE := hidMk hEE
  clear hFF hEE
  obtain ⟨ib, hb0, hb1', hb2', hb3'⟩ := info_parts Wr.info5
  obtain ⟨ua, uc, rfl, hcase⟩ := h.row.form
  have hn := hc.len
  have d2 := h.cells.2.2
  have HS := hidMk h
  have HC := hidMk hc
  have HOK : Hid (∀ l : List Ce, l.Sublist (qs.map (·.c)) → (l.flatMap encCe).length ≤ 268435456 ∧ l.length ≤ 4194304) := fun l hl => by
    have h1 := wt_sub hl
    have h2 := hc.wl
    have h3 := enc_le2 l (fun c hcl => by
      obtain ⟨q, hq, rfl⟩ := List.mem_map.1 (hl.subset hcl)
      obtain ⟨k1, k2, k3⟩ := hc.good q hq
      exact ⟨⟨k2, k1, k3⟩, hc.dl q hq⟩)
    have h4 := wt_len l
    exact ⟨by omega, by omega⟩
  clear h hc
  go_enter Tryz.func33, Tryz.ntmps33
  go_wp2_with fail
  go_loopg [6, 7, 8] qs.length (fun gk k v i wr => ∃ j : Nat, gk + j = qs.length ∧ i = .int .i64 j ∧ k = .int .i64 ((((qs.map (·.c)).take j).filter fun c => grp c.key == g).length : Int) ∧ Wr.OL wr w.heap.size v ((((qs.map (·.c)).take j).filter fun c => grp c.key == g).flatMap encCe) ∧ Below w.heap.size w wr)
  case atStart => exact ⟨0, by omega, rfl, rfl, World.ownsRow_nil _ _ _ _, Below.refl _ _⟩
  case round =>
    obtain ⟨j, hgk, rfl, rfl, hO, hbl⟩ := hrel
    have HBL := hidMk hbl
    have e2 := cell_later hbl d2
    obtain ⟨ax, cx, hv⟩ := bytes_form hO
    subst hv
    have HO := hidMk hO
    have hsz := hbl.size
    by_cases hj : j < qs.length
    · have hj' : (j : Int) < (qs.length : Int) := by omega
      obtain ⟨gq, hg0, -⟩ : ∃ g, ua = some ⟨g, 0, none⟩ ∧ True := by
        rcases hcase with ⟨h1, -⟩ | ⟨g, h1, -⟩
        · rw [h1] at hj; simp at hj
        · exact ⟨g, h1, trivial⟩
      subst hg0
      have hm : qs[j] ∈ qs := List.getElem_mem hj
      obtain ⟨gk1, gk2, gk3⟩ := HC.out.good _ hm
      have gkl := HC.out.klen hm
      obtain ⟨ya, yc, hdv, hyb⟩ := HS.out.row.dform hm
      obtain ⟨c0, c1, c2, c3⟩ := HS.out.row.cells j hj
      rw [hdv] at c3
      have c0 := cell_later hbl c0
      have c1 := cell_later hbl c1
      have c2 := cell_later hbl c2
      have c3 := cell_later hbl c3
      have HVL := hidMk (HS.out.row.lies hm)
      have HYB := hidMk hyb
      have HGK := hidMk gk1
      have hdl : qs[j].c.d.length ≤ 67108864 := HC.out.dl _ hm
      obtain ⟨kw1, kw2, kw3⟩ := (kp_iff _).1 gk3
      have HNX : Hid (((qs.map (·.c)).take (j + 1)).filter (fun c => grp c.key == g) = ((qs.map (·.c)).take j).filter (fun c => grp c.key == g) ++ (if grp qs[j].c.key = g then [qs[j].c] else [])) := by
        rw [Hid, List.take_succ_eq_append_getElem (by simpa using hj), List.filter_append]
        congr 1
        by_cases he : grp qs[j].c.key = g <;> simp [he]
      obtain ⟨hk1, hk2⟩ := HOK.out (((qs.map (·.c)).take j).filter fun c => grp c.key == g) (List.filter_sublist.trans (List.take_sublist _ _))
      have HGR := hidMk (fun W (hb : Below w.heap.size w W) => groupD_any qs[j].c.key qs[j].ka qs[j].kc W (HVL.out.later hb) HGK.out (by omega))
      generalize ((qs.map (·.c)).take j).filter (fun c => grp c.key == g) = P at *
      generalize hLL : P.flatMap encCe = L at *
      have HLL := hidMk hLL
      clear hLL
      generalize hyq : qs[j] = y at *
      clear hbl hm hdv hyb hO hcase hyq gk1
      have bX := HBL.out.alloc hsz (.cells #[.slice y.ka y.c.key.length y.kc, .int .i64 y.c.w.f, .int .i64 y.c.w.t, .slice ya y.c.d.length yc] 97)
      have HBX := hidMk bX
      have HOX := hidMk (Own.new wr 97 4 #[.slice y.ka y.c.key.length y.kc, .int .i64 y.c.w.f, .int .i64 y.c.w.t, .slice ya y.c.d.length yc] rfl)
      have HOB : Hid (Wr.OL (wr.alloc (.cells #[.slice y.ka y.c.key.length y.kc, .int .i64 y.c.w.f, .int .i64 y.c.w.t, .slice ya y.c.d.length yc] 97)) w.heap.size (.slice ax L.length cx) L) := own_later HO.out (bel1 _ _)
      have lX : wr.heap.size + 1 ≤ (wr.alloc (.cells #[.slice y.ka y.c.key.length y.kc, .int .i64 y.c.w.f, .int .i64 y.c.w.t, .slice ya y.c.d.length yc] 97)).heap.size := by simp
      clear bX
      go_wp2_with fail
      generalize (wr.alloc (.cells #[.slice y.ka y.c.key.length y.kc, .int .i64 y.c.w.f, .int .i64 y.c.w.t, .slice ya y.c.d.length yc] 97)) = W1 at *
      refine (HGR.out _ HBX.out).mono ?_
      rintro e w2 ⟨rfl, b2⟩
      have HB2 := hidMk (HBX.out.trans (b2.mono HBX.out.size))
      have HO2 := hidMk (HOX.out.later b2)
      have HL2 : Hid (Wr.OL w2 w.heap.size (.slice ax L.length cx) L) := own_later HOB.out b2
      have l2 := b2.size
      clear b2 HGR HOB HOX HBX c0 c1 c2 c3
      by_cases hgr : grp y.c.key = g
      · have hgr' : (((grp y.c.key : Nat) : Int) == (g : Int)) = true := by simp; omega
        rw [if_pos hgr] at HNX
        have HEN : Hid ((P ++ [y.c]).flatMap encCe = (((((L ++ Wr.encInt (y.c.key.length : Int)) ++ encKey y.c.key) ++ Wr.encInt y.c.w.f) ++ Wr.encInt y.c.w.t) ++ (Wr.encInt (y.c.d.length : Int) ++ y.c.d))) := by
          rw [Hid, List.flatMap_append, HLL.out]
          simp [encCe, List.append_assoc]
        have HPL : Hid ((P ++ [y.c]).length = P.length + 1) := by simp [Hid]
        have h1 := Wr.encInt_len (y.c.key.length : Int) (by omega) (by omega)
        have h2 := Wr.encInt_len y.c.w.f (by omega) (by omega)
        have h3 := Wr.encInt_len y.c.w.t (by omega) (by omega)
        have h4 := Wr.encInt_len (y.c.d.length : Int) (by omega) (by omega)
        have h5 := encKey_len y.c.key gk2 HGK.out
        have HI := hidMk (fun (x : Int) W (q1 : -9223372036854775808 ≤ x) (q2 : x ≤ 9223372036854775807) => Wr.refInt_any x W q1 q2)
        generalize ((grp y.c.key : Nat) : Int) = gy at *
        generalize hQ : P ++ [y.c] = Q at *
        clear hgr hQ
        obtain ⟨x0, x1, x2, x3⟩ : w2.cell? ⟨wr.heap.size, 0, none⟩ = some (.slice y.ka y.c.key.length y.kc) ∧ w2.cell? ⟨wr.heap.size, 1, none⟩ = some (.int .i64 y.c.w.f) ∧ w2.cell? ⟨wr.heap.size, 2, none⟩ = some (.int .i64 y.c.w.t) ∧ w2.cell? ⟨wr.heap.size, 3, none⟩ = some (.slice ya y.c.d.length yc) := ⟨HO2.out.cell 0 (by decide), HO2.out.cell 1 (by decide), HO2.out.cell 2 (by decide), HO2.out.cell 3 (by decide)⟩
        go_wp2_with fail
        refine (HI.out _ _ (by omega) (by omega)).mono ?_
        rintro e w3 ⟨v3, rfl, o3, b3⟩
        obtain ⟨a3, k3, hv3⟩ := bytes_form o3
        subst hv3
        have HO3 : Hid (Wr.OL w3 w2.heap.size (.slice a3 (Wr.encInt (y.c.key.length : Int)).length k3) (Wr.encInt (y.c.key.length : Int))) := o3
        have HL3 : Hid (Wr.OL w3 w.heap.size (.slice ax L.length cx) L) := own_later HL2.out b3
        have HX3 := hidMk (HO2.out.later b3)
        have HB3 := hidMk (HB2.out.trans (b3.mono HB2.out.size))
        have l3 := HB3.out.size
        have hp3 := encInt_pos (y.c.key.length : Int)
        clear o3 b3 HL2 HO2 x0 x1 x2 x3
        generalize Wr.encInt (y.c.key.length : Int) = E1 at *
        go_wp2_with (first
          | (at_builtin; refine Wr.wpList_append_ol rfl _ _ rfl w.heap.size _ L rfl HL3.out w2.heap.size _ E1 rfl HO3.out hp3 (by omega) (by omega) ?_))
        intro v4 w4 o4 g4 hat4
        obtain ⟨a4, k4, hv4⟩ := bytes_form o4
        subst hv4
        have HO4 := hidMk o4
        have HB4 : Hid (Below w.heap.size w w4) := HB3.out.grown g4 HB3.out.size (fun q e => (World.ownsRow.lt HL3.out q e).1)
        have HX4 := hidMk (HX3.out.grown g4 (fun e => own_not_row HX3.out HL3.out (by decide) _ e.symm rfl))
        have l4 : (L ++ E1).length ≤ 268435456 + 10 := by rw [List.length_append]; omega
        clear o4 g4 hat4 HX3 HL3 HO3 HB3 hp3
        generalize L ++ E1 = L1 at *
        have HGB := hidMk hgk
        clear HO HBL HLL hk2 e2
        generalize hxb : wr.heap.size = xb at *
        clear hxb
        go_wp2_with fail
        go_loopg [7, 12] y.c.key.length (fun gk v i wi => ∃ m : Nat, gk + m = y.c.key.length ∧ i = .int .i64 m ∧ Wr.OL wi w.heap.size v (L1 ++ encKey (y.c.key.take m)) ∧ Below w.heap.size w wi ∧ Own wi xb 97 4 [.slice y.ka y.c.key.length y.kc, .int .i64 y.c.w.f, .int .i64 y.c.w.t, .slice ya y.c.d.length yc])
        case atStart => exact ⟨0, by omega, rfl, by simpa [encKey] using HO4.out, HB4.out, HX4.out⟩
        case round =>
          obtain ⟨m, hgm, rfl, hOi, hBi, hXi⟩ := hrel
          have HBi := hidMk hBi
          have HXi := hidMk hXi
          obtain ⟨ai, ki, hvi⟩ := bytes_form hOi
          subst hvi
          have HOi := hidMk hOi
          obtain ⟨x0, x1, x2, x3⟩ : wr.cell? ⟨xb, 0, none⟩ = some (.slice y.ka y.c.key.length y.kc) ∧ wr.cell? ⟨xb, 1, none⟩ = some (.int .i64 y.c.w.f) ∧ wr.cell? ⟨xb, 2, none⟩ = some (.int .i64 y.c.w.t) ∧ wr.cell? ⟨xb, 3, none⟩ = some (.slice ya y.c.d.length yc) := ⟨hXi.cell 0 (by decide), hXi.cell 1 (by decide), hXi.cell 2 (by decide), hXi.cell 3 (by decide)⟩
          have li := hBi.size
          have hlm : (L1 ++ encKey (y.c.key.take m)).length ≤ 268435456 + 10 + 71 * 8 := by
            have q1 : (encKey (y.c.key.take m)).length ≤ (encKey y.c.key).length := by
              have e : encKey y.c.key = encKey (y.c.key.take m) ++ encKey (y.c.key.drop m) := by
                unfold encKey
                rw [← List.flatMap_append, List.take_append_drop]
              rw [e, List.length_append]; omega
            rw [List.length_append]; omega
          by_cases hm : m < y.c.key.length
          · have hm' : (m : Int) < (y.c.key.length : Int) := by omega
            obtain ⟨bv, ov, ev, z1, z2, z3⟩ := HVL.out m hm
            rw [ev] at x0
            have EV := hidMk ev
            clear ev
            replace z1 := cell_later hBi z1
            replace z2 := cell_later hBi z2
            replace z3 := cell_later hBi z3
            obtain ⟨v1, v2, v3⟩ := HGK.out y.c.key[m] (List.getElem_mem hm)
            have HRV := hidMk (Wr.refValue_any y.c.key[m] wr v1 v2 v3)
            have hvl := encVal_len y.c.key[m] (((vk_iff _).1 gk2).1 _ (List.getElem_mem hm)) v1 v2
            have hvp := encVal_pos y.c.key[m]
            have HTK : Hid (L1 ++ encKey (y.c.key.take (m + 1)) = (L1 ++ encKey (y.c.key.take m)) ++ Wr.encVal y.c.key[m]) := by
              rw [Hid, List.take_succ_eq_append_getElem hm]
              unfold encKey
              rw [List.flatMap_append, List.append_assoc]
              simp
            generalize L1 ++ encKey (y.c.key.take m) = L2 at *
            generalize y.c.key[m] = yv at *
            clear hOi hBi hXi x1 x2 x3
            go_wp2_with fail
            refine HRV.out.mono ?_
            rintro e w5 ⟨v5, rfl, o5, b5⟩
            obtain ⟨a5, k5, hv5⟩ := bytes_form o5
            subst hv5
            have HO5 : Hid (Wr.OL w5 wr.heap.size (.slice a5 (Wr.encVal yv).length k5) (Wr.encVal yv)) := o5
            have HL5 : Hid (Wr.OL w5 w.heap.size (.slice ai L2.length ki) L2) := own_later HOi.out b5
            have HX5 := hidMk (HXi.out.later b5)
            have HB5 := hidMk (HBi.out.trans (b5.mono HBi.out.size))
            have l5 := HB5.out.size
            clear o5 b5 HRV HOi HXi x0 z1 z2 z3
            generalize Wr.encVal yv = E5 at *
            go_wp2_with (first
              | (at_builtin; refine Wr.wpList_append_ol rfl _ _ rfl w.heap.size _ L2 rfl HL5.out wr.heap.size _ E5 rfl HO5.out hvp (by omega) (by omega) ?_))
            intro v6 w6 o6 g6 hat6
            have HO6 := hidMk o6
            have HB6 : Hid (Below w.heap.size w w6) := HB5.out.grown g6 HB5.out.size (fun q e => (World.ownsRow.lt HL5.out q e).1)
            have HX6 := hidMk (HX5.out.grown g6 (fun e => own_not_row HX5.out HL5.out (by decide) _ e.symm rfl))
            clear o6 g6 hat6 HX5 HL5 HO5 HB5
            go_wp2_with fail
            go_roundg (gk - 1)
            case measure => omega
            case rel => exact ⟨m + 1, by omega, by go_num, by rw [HTK.out]; exact HO6.out, HB6.out, HX6.out⟩
          · have hm' : ¬ (m : Int) < (y.c.key.length : Int) := by omega
            rw [List.take_of_length_le (by omega)] at HOi hlm ⊢
            have hls1 : (Wr.lstr y.c.d).size = y.c.d.length := by simp [Wr.lstr, ByteArray.size]
            have hls2 : (Wr.lstr y.c.d).data.toList = y.c.d := by simp [Wr.lstr]
            have HTX : Hid (∀ W, Calls Tryz.prog 66 #[.string (Wr.lstr y.c.d)] W fun e w' => ∃ v', e = .returned v' ∧ Wr.OL w' W.heap.size v' (Wr.encInt (y.c.d.length : Int) ++ y.c.d) ∧ Below W.heap.size W w') := fun W => by
              have q := Wr.refText_any (Wr.lstr y.c.d) W (by omega)
              rw [hls1, hls2] at q
              refine q.mono ?_
              rintro e w' ⟨v', rfl, q1, q2⟩
              refine ⟨v', rfl, ?_, q2⟩
              unfold Wr.OL
              rw [List.length_append]
              exact q1
            have HCV : Hid (∀ W, Below w.heap.size w W → (convert 39 9 (.slice ya y.c.d.length yc)).run Tryz.prog W = .ok (.string (Wr.lstr y.c.d)) W) := fun W hW => by
              rw [← Wr.bstr_lat]
              exact Wr.conv_bytes W ya y.c.d.length yc (Wr.lat y.c.d) (HYB.out.later hW)
            clear hls1 hls2
            generalize hL2 : L1 ++ encKey y.c.key = L2 at *
            clear hL2
            clear hOi hBi hXi
            have p2 := encInt_pos y.c.w.f
            have p3 := encInt_pos y.c.w.t
            have p4 := encInt_pos (y.c.d.length : Int)
            go_wp2_with fail
            refine (HI.out _ _ (by omega) (by omega)).mono ?_
            rintro e w5 ⟨v5, rfl, o5, b5⟩
            obtain ⟨a5, k5, hv5⟩ := bytes_form o5
            subst hv5
            have HO5 : Hid (Wr.OL w5 wr.heap.size (.slice a5 (Wr.encInt y.c.w.f).length k5) (Wr.encInt y.c.w.f)) := o5
            have HL5 : Hid (Wr.OL w5 w.heap.size (.slice ai L2.length ki) L2) := own_later HOi.out b5
            have HX5 := hidMk (HXi.out.later b5)
            have HB5 := hidMk (HBi.out.trans (b5.mono HBi.out.size))
            have l5 := b5.size
            replace x2 := cell_later b5 x2
            replace x3 := cell_later b5 x3
            clear o5 b5 x0 x1
            generalize Wr.encInt y.c.w.f = E5 at *
            go_wp2_with fail
            refine (HI.out _ _ (by omega) (by omega)).mono ?_
            rintro e w6 ⟨v6, rfl, o6, b6⟩
            obtain ⟨a6, k6, hv6⟩ := bytes_form o6
            subst hv6
            have HO6 : Hid (Wr.OL w6 w5.heap.size (.slice a6 (Wr.encInt y.c.w.t).length k6) (Wr.encInt y.c.w.t)) := o6
            have HO5' : Hid (Wr.OL w6 wr.heap.size (.slice a5 E5.length k5) E5) := own_later HO5.out b6
            have HL6 : Hid (Wr.OL w6 w.heap.size (.slice ai L2.length ki) L2) := own_later HL5.out b6
            have HX6 := hidMk (HX5.out.later b6)
            have HB6 := hidMk (HB5.out.trans (b6.mono HB5.out.size))
            have l6 := b6.size
            replace x3 := cell_later b6 x3
            have hcv := HCV.out _ HB6.out
            clear o6 b6 x2 HI HX5 HB5
            generalize Wr.encInt y.c.w.t = E6 at *
            generalize Wr.lstr y.c.d = bs at *
            go_wp2_with fail
            refine (HTX.out _).mono ?_
            rintro e w7 ⟨v7, rfl, o7, b7⟩
            obtain ⟨a7, k7, hv7⟩ := bytes_form o7
            subst hv7
            have HO7 := hidMk o7
            have HO6' : Hid (Wr.OL w7 w5.heap.size (.slice a6 E6.length k6) E6) := own_later HO6.out b7
            have HO5'' : Hid (Wr.OL w7 wr.heap.size (.slice a5 E5.length k5) E5) := own_later HO5'.out b7
            have HL7 : Hid (Wr.OL w7 w.heap.size (.slice ai L2.length ki) L2) := own_later HL6.out b7
            have HB7 := hidMk (HB6.out.trans (b7.mono HB6.out.size))
            have l7 := b7.size
            have hE7 : (Wr.encInt (y.c.d.length : Int) ++ y.c.d).length ≤ 10 + 67108864 := by rw [List.length_append]; omega
            have p7 : 0 < (Wr.encInt (y.c.d.length : Int) ++ y.c.d).length := by rw [List.length_append]; omega
            have HF1 : Hid (∀ gg, (Value.slice ai L2.length ki).ownBlock = some gg → gg < wr.heap.size) := fun gg e => (World.ownsRow.lt HOi.out gg e).2
            have HF6 : Hid (∀ gg, (Value.slice a6 E6.length k6).ownBlock = some gg → w5.heap.size ≤ gg ∧ gg < w7.heap.size) := fun gg e => World.ownsRow.lt HO6'.out gg e
            have HF7 : Hid (∀ gg, (Value.slice a7 (Wr.encInt (y.c.d.length : Int) ++ y.c.d).length k7).ownBlock = some gg → w6.heap.size ≤ gg ∧ gg < w7.heap.size) := fun gg e => World.ownsRow.lt HO7.out gg e
            clear o7 b7 x3 hcv HCV HTX HO5 HO5' HO6 HL5 HL6 HX6 HB6 HXi HOi HBi p4
            generalize Wr.encInt (y.c.d.length : Int) ++ y.c.d = E7 at *
            go_wp2_with (first
              | (at_builtin; refine Wr.wpList_append_ol rfl _ _ rfl w.heap.size _ L2 rfl HL7.out wr.heap.size _ E5 rfl HO5''.out p2 (by omega) (by omega) ?_))
            intro v8 w8 o8 g8 hat8
            obtain ⟨a8, k8, hv8⟩ := bytes_form o8
            subst hv8
            have HO8 := hidMk o8
            have HB8 : Hid (Below w.heap.size w w8) := HB7.out.grown g8 HB7.out.size (fun q e => (World.ownsRow.lt HL7.out q e).1)
            have HO68 : Hid (Wr.OL w8 w5.heap.size (.slice a6 E6.length k6) E6) := row_stays HO6'.out g8 (fun gg e e' => by have q1 := HF1.out gg e'; have q2 := (HF6.out gg e).1; omega)
            have HO78 : Hid (Wr.OL w8 w6.heap.size (.slice a7 E7.length k7) E7) := row_stays HO7.out g8 (fun gg e e' => by have q1 := HF1.out gg e'; have q2 := (HF7.out gg e).1; omega)
            have HF8 : Hid (∀ gg, (Value.slice a8 (L2 ++ E5).length k8).ownBlock = some gg → gg < wr.heap.size ∨ gg = w7.heap.size) := fun gg e => by
              rcases hat8 with h | h
              · exact .inl (HF1.out gg (h ▸ e))
              · rw [h] at e; exact .inr (Option.some.inj e).symm
            have l8 := HB8.out.size
            have hL8 : (L2 ++ E5).length ≤ 268435456 + 10 + 71 * 8 + 10 := by rw [List.length_append]; omega
            clear o8 g8 hat8 HL7 HO5'' HO6' HO7 HB7 HF1
            generalize L2 ++ E5 = L3 at *
            go_wp2_with (first
              | (at_builtin; refine Wr.wpList_append_ol rfl _ _ rfl w.heap.size _ L3 rfl HO8.out w5.heap.size _ E6 rfl HO68.out p3 (by omega) (by omega) ?_))
            intro v9 w9 o9 g9 hat9
            obtain ⟨a9, k9, hv9⟩ := bytes_form o9
            subst hv9
            have HO9 := hidMk o9
            have HB9 : Hid (Below w.heap.size w w9) := HB8.out.grown g9 HB8.out.size (fun q e => (World.ownsRow.lt HO8.out q e).1)
            have HO79 : Hid (Wr.OL w9 w6.heap.size (.slice a7 E7.length k7) E7) := row_stays HO78.out g9 (fun gg e e' => by
              have q2 := HF7.out gg e
              rcases HF8.out gg e' with q1 | q1 <;> omega)
            have l9 := HB9.out.size
            have hL9 : (L3 ++ E6).length ≤ 268435456 + 10 + 71 * 8 + 20 := by rw [List.length_append]; omega
            clear o9 g9 hat9 HO8 HO68 HO78 HB8 HF8
            generalize L3 ++ E6 = L4 at *
            go_wp2_with (first
              | (at_builtin; refine Wr.wpList_append_ol rfl _ _ rfl w.heap.size _ L4 rfl HO9.out w6.heap.size _ E7 rfl HO79.out p7 (by omega) (by omega) ?_))
            intro v10 w10 o10 g10 hat10
            have HO10 : Hid (Wr.OL w10 w.heap.size v10 (L4 ++ E7)) := o10
            have HB10 : Hid (Below w.heap.size w w10) := HB9.out.grown g10 HB9.out.size (fun q e => (World.ownsRow.lt HO9.out q e).1)
            clear o10 g10 hat10 HO9 HO79 HB9
            go_wp2_with fail
            go_roundg (qs.length - j - 1)
            case measure => have := HGB.out; omega
            case rel => exact ⟨j + 1, by omega, by go_num, by rw [HNX.out, HPL.out]; go_num, by rw [HNX.out, HEN.out]; exact HO10.out, HB10.out⟩
      · have hgr' : (((grp y.c.key : Nat) : Int) == (g : Int)) = false := by simp; omega
        rw [if_neg hgr, List.append_nil] at HNX
        generalize ((grp y.c.key : Nat) : Int) = gy at *
        clear hgr
        go_wp2_with fail
        go_roundg (gk - 1)
        case measure => omega
        case rel => exact ⟨j + 1, by omega, by go_num, by rw [HNX.out], by rw [HNX.out, HLL.out]; exact HL2.out, HB2.out⟩
    · have hj' : ¬ (j : Int) < (qs.length : Int) := by omega
      have hF : (qs.map (·.c)).take j = qs.map (·.c) := List.take_of_length_le (by simp; omega)
      rw [hF, HFF.out] at HO ⊢
      obtain ⟨hk1, hk2⟩ := HOK.out F (by rw [← HFF.out]; exact List.filter_sublist)
      have HEB : Hid (EB = Wr.encInt (F.length : Int) ++ F.flatMap encCe) := HEE.out.symm
      have HBY := hidMk HO.out.bytes.2
      generalize F.flatMap encCe = L at *
      have HI := hidMk (fun W => Wr.refInt_any (F.length : Int) W (by omega) (by omega))
      have hel := Wr.encInt_len (F.length : Int) (by omega) (by omega)
      have HEP := hidMk (encInt_pos (F.length : Int))
      clear hbl hO hcase hF
      go_wp2_with fail
      refine (HI.out _).mono ?_
      rintro e w1 ⟨v1, rfl, o1, b1⟩
      obtain ⟨a1, c1, hv1⟩ := bytes_form o1
      subst hv1
      have HO1 : Hid (Wr.OL w1 wr.heap.size (.slice a1 (Wr.encInt (F.length : Int)).length c1) (Wr.encInt (F.length : Int))) := o1
      have HB1 := hidMk b1
      have l1 := b1.size
      clear o1 b1 HI
      generalize Wr.encInt (F.length : Int) = EN at *
      go_wp2_with (first
        | (at_builtin; refine wpList_append_src rfl _ _ 39 rfl wr.heap.size 5 ib (.int .u8 0) 1 1 Tryz.underlying39 hb0 hb1' hb2' hb3' rfl (by decide) _ EN.length (EN.map Wr.u8v) rfl HO1.out ax L.length cx (L.map Wr.u8v) rfl ?c0 ?c1 ?c2 ?c3 ?c4 ?c5 ?_))
      case c0 => simp
      case c1 => exact src_B (HBY.out.later HB1.out)
      case c2 => intro u hu; simp at hu; obtain ⟨q, -, rfl⟩ := hu; rfl
      case c3 => unfold maxLen; omega
      case c4 => omega
      case c5 => omega
      intro v2 w2 o2 g2 hat2
      have HO2 : Hid (Wr.OL w2 wr.heap.size v2 (EN ++ L)) := by
        unfold Hid Wr.OL
        rw [List.length_append, List.map_append]
        exact o2
      have HB2 : Hid (Below wr.heap.size wr w2) := HB1.out.grown g2 HB1.out.size (fun q e => (World.ownsRow.lt HO1.out q e).1)
      clear o2 g2 hat2 HO1
      obtain ⟨a2, c2, hv2⟩ := bytes_form HO2.out
      subst hv2
      have HSE := sealD_any a2 (EN ++ L) c2 w2 HO2.out.bytes.2 (by simp; omega)
      rw [List.length_append] at HSE
      go_wp2_with fail
      refine HSE.mono ?_
      rintro e w3 ⟨v3, rfl, o3, b3⟩
      have HB3 : Hid (Below w.heap.size w w3) := HBL.out.trans ((HB2.out.trans (b3.mono HB2.out.size)).mono HBL.out.size)
      have l2 := HB2.out.size
      have HO3 : Hid (Wr.OL w3 w.heap.size v3 (Wr.sealed EB)) := by rw [Hid, HEB.out]; exact World.ownsRow.mono o3 (by omega)
      clear o3 b3 HSE
      by_cases hz : 0 < F.length
      · have hz' : (0 : Int) < (F.length : Int) := by omega
        go_wp2_with fail
        go_ret2
        exact ⟨v3, by simp [hz], HO3.out, HB3.out⟩
      · have hz' : ¬ (0 : Int) < (F.length : Int) := by omega
        go_wp2_with fail
        go_ret2
        exact ⟨v3, by simp [hz], HO3.out, HB3.out⟩
end Go.Proofs.YtobhccmnlmlapaaGreatDoor
namespace Go.Proofs.YtobhccmnlmlapaaGreatDoor
open Go.RowKit Go.Maps
set_option linter.unusedVariables false
set_option linter.unusedSimpArgs false
set_option maxRecDepth 100000

/-- Twice's own store. -/
structure TwI (w W : World) (T : Nat) (lo hi : Int) (v : Value) (P : List Cx) : Prop where
  own : Own W T 33 3 [.int .i64 lo, .int .i64 hi, v]
  row : W.ownsRow w.heap.size 97 4 v P.length (P.flatMap cellsC)
  bel : Below w.heap.size w W
  ge : w.heap.size ≤ T
theorem TwI.later {w W W' : World} {T : Nat} {lo hi : Int} {v : Value} {P : List Cx} (h : TwI w W T lo hi v P) (hb : Below W.heap.size W W') : TwI w W' T lo hi v P := ⟨h.own.later hb, own_later h.row hb, h.bel.trans (hb.mono h.bel.size), h.ge⟩
theorem TwI.next {w W : World} {T : Nat} {lo hi : Int} {a : Option Addr} {c : Nat} {P : List Cx} (h : TwI w W T lo hi (.slice a P.length c) P) (y : Cx) (xs : List Value) (hx : cellsC y = xs) (gg cap : Nat) (w8 : World) (ho : w8.ownsRow w.heap.size 97 4 (.slice (some ⟨gg, 0, none⟩) (P.length + 1) cap) (P.length + 1) (P.flatMap cellsC ++ xs)) (hg : W.grownBy w8 (Value.slice a P.length c).ownBlock) :
    Own w8 T 33 3 [.int .i64 lo, .int .i64 hi, .slice a P.length c] ∧ TwI w (w8.setCell ⟨T, 2, none⟩ (.slice (some ⟨gg, 0, none⟩) (P.length + 1) cap)) T lo hi (.slice (some ⟨gg, 0, none⟩) (P.length + 1) cap) (P ++ [y]) := by
  have o8 := h.own.grown hg (fun e => own_not_row h.own h.row (by decide) T e.symm rfl)
  obtain ⟨p8, k8⟩ := o8.put 2 (.slice (some ⟨gg, 0, none⟩) (P.length + 1) cap)
  have b8 : Below w.heap.size w w8 := h.bel.grown hg h.bel.size (fun q e => (World.ownsRow.lt h.row q e).1)
  refine ⟨o8, p8, ?_, b8.grown k8 b8.size (fun q e => by cases e; exact h.ge), h.ge⟩
  rw [List.length_append, List.flatMap_append]
  refine own_grown (by simpa [hx] using ho) k8 (fun gg hgg e => own_not_row o8 ho (by decide) gg hgg (Option.some.inj e))
/-- The last of a list once more. -/
def tw (F : List Ce) : List Ce := F ++ F.getLast?.toList
theorem TwI.ds {w W : World} {B s T : Nat} {lo hi : Int} {u v : Value} {qs P : List Cx} (h : TwI w W T lo hi v P) (hd : DS w B s lo hi u qs) (hB : B ≤ w.heap.size) (hP : ∀ q ∈ P, q ∈ qs) : DS W B T lo hi v P :=
  ⟨h.own, ⟨World.ownsRow.mono h.row hB, fun q hq => own_later (hd.row.key q (hP q hq)) h.bel, fun q hq => own_later (hd.row.dat q (hP q hq)) h.bel⟩, Nat.le_trans hB h.ge⟩
def lastI (qs : List Cx) (g : Nat) (j : Nat) (l : Int) : Prop := ((qs.take j).filter (fun q => grp q.c.key == g) = [] ∧ l = -1) ∨ ∃ i, ∃ h : i < qs.length, i < j ∧ l = (i : Int) ∧ ((qs.take j).filter (fun q => grp q.c.key == g)).getLast? = some qs[i]
set_option maxHeartbeats 8000000 in
theorem twiceD_any (g : Nat) (w : World) (B s : Nat) (lo hi : Int) (u : Value) (qs : List Cx) (h : DS w B s lo hi u qs) (hc : DC qs) (hB : B ≤ w.heap.size) :
    Calls Tryz.prog 18 #[.pointer (some ⟨s, 0, none⟩), .int .i64 (g : Int)] w fun e w' => ∃ v, e = .returned v ∧ Wr.OL w' w.heap.size v (Wr.sealed (encBody (tw ((qs.map (·.c)).filter fun c => grp c.key == g)))) ∧ Below w.heap.size w w' := by
  obtain ⟨ic, hc0, hc1, hc2, hc3⟩ := info_parts infoD
  obtain ⟨ua, uc, rfl, hcase⟩ := h.row.form
  have hn := hc.len
  obtain ⟨d0, d1, d2⟩ := h.cells
  have HS := hidMk h
  have HC := hidMk hc
  have HFin : Hid (∀ (W : World) (v : Value) (T : Nat) (P : List Cx), TwI w W T lo hi v P → (∀ q ∈ P, q ∈ qs) → (P.map (·.c) = tw ((qs.map (·.c)).filter fun c => grp c.key == g)) → Calls Tryz.prog 33 #[.pointer (some ⟨T, 0, none⟩), .int .i64 (g : Int)] W fun e w' => ∃ v b, e = .returned (.tuple #[v, .bool b]) ∧ Wr.OL w' w.heap.size v (Wr.sealed (encBody (tw ((qs.map (·.c)).filter fun c => grp c.key == g)))) ∧ Below w.heap.size w w') := fun W v T P hT hP hE => by
    have hfil : (P.map (·.c)).filter (fun c => grp c.key == g) = tw ((qs.map (·.c)).filter fun c => grp c.key == g) := by
      rw [hE]
      refine List.filter_eq_self.2 fun c hcm => ?_
      unfold tw at hcm
      rcases List.mem_append.1 hcm with h1 | h1
      · exact (List.mem_filter.1 h1).2
      · exact (List.mem_filter.1 (List.mem_of_getLast? (Option.mem_toList.1 h1))).2
    have hdl : ∀ q ∈ qs, q.c.d.length ≤ 67108864 := fun q hq => by
      have h1 := hc.wl
      have h2 := wt_sub (List.singleton_sublist.2 (List.mem_map.2 ⟨q, hq, rfl⟩ : q.c ∈ qs.map (·.c)))
      have h3 : wt [q.c] = q.c.d.length + 64 * q.c.key.length + 32 := by simp [wt, wg, wgh]
      omega
    have h2 : DC2 P := ⟨fun q hq => hc.good q (hP q hq), by
      rw [hE]
      unfold tw
      rw [wt_append]
      have h1 := wt_sub (List.filter_sublist (l := qs.map (·.c)) (p := fun c => grp c.key == g))
      have h4 := hc.wl
      generalize hF : (qs.map (·.c)).filter (fun c => grp c.key == g) = F at *
      have h3 : wt F.getLast?.toList ≤ wt F := wt_sub (by
        cases hz : F.getLast? with
        | none => exact List.nil_sublist _
        | some z => exact List.singleton_sublist.2 (List.mem_of_getLast? hz))
      omega, fun q hq => hdl q (hP q hq)⟩
    refine (pieceD_F2 g _ _ W B T lo hi v P hfil rfl (hT.ds h hB hP) h2).mono ?_
    rintro e w' ⟨v', rfl, q1, q2⟩
    exact ⟨v', _, rfl, World.ownsRow.mono q1 hT.bel.size, hT.bel.trans (q2.mono hT.bel.size)⟩
  clear h hc
  go_enter Tryz.func18, Tryz.ntmps18
  go_wp2_with fail
  refine wp_region_head (K := 9) (C := (fun W => W = w.drew)) 8 (by kernel_rfl) (by kernel_rfl) (by kernel_rfl) (by decide) (by kernel_rfl) (by kernel_rfl) rfl ?_
  simp only [List.take_succ_cons, List.take_zero]
  with_reducible refine wpQuiet_step ?_
  intro K hK
  go_simp
  refine hK _ ?_
  clear hK K
  with_reducible refine wpQuiet_step ?_
  intro K hK
  go_simp
  refine hK _ ?_
  clear hK K
  with_reducible refine wpQuiet_step ?_
  intro K hK
  go_simp
  refine hK _ ?_
  clear hK K
  with_reducible refine wpQuiet_step ?_
  intro K hK
  go_simp
  refine hK _ ?_
  clear hK K
  with_reducible refine wpQuiet_step ?_
  intro K hK
  go_simp
  refine hK _ ?_
  clear hK K
  with_reducible refine wpQuiet_step ?_
  intro K hK
  go_simp
  refine hK _ ?_
  clear hK K
  with_reducible refine wpQuiet_step ?_
  intro K hK
  go_simp
  refine hK _ ?_
  clear hK K
  with_reducible refine wpQuiet_step ?_
  intro K hK
  go_simp
  refine hK _ ?_
  clear hK K
  with_reducible refine wpQuiet_step ?_
  intro K hK
  go_simp
  refine hK _ ?_
  clear hK K
  intro w' hC
  obtain rfl := hC
  refine wpAny_ready (fuel := 1) (rs := [9]) (by kernel_rfl) (by simp) ?_
  refine AllReady.cons rfl (fun K hK => ?_) AllReady.nil
  go_simp
  refine hK _ _ ?_
  clear hK K
  refine wpAny_ready (fuel := 0) (rs := [10]) (by kernel_rfl) (by simp) ?_
  refine AllReady.cons rfl (fun K hK => ?_) AllReady.nil
  go_simp
  refine hK _ _ ?_
  clear hK K
  refine ⟨by kernel_rfl, ?_⟩
  have HT0 : Hid (TwI w (w.drew.alloc (.cells #[.int .i64 lo, .int .i64 hi, .slice none 0 0] 33)) w.heap.size lo hi (.slice none 0 0) []) :=
    ⟨Own.new w.drew 33 3 #[.int .i64 lo, .int .i64 hi, .slice none 0 0] rfl, World.ownsRow_nil _ _ _ _, (below_drewN (Below.refl _ w) 1).trans (bel1 w.drew _), Nat.le_refl _⟩
  go_wp2_with fail
  go_loopg [6, 7] qs.length (fun gk l i wr => ∃ (j : Nat) (z : Int) (v : Value), gk + j = qs.length ∧ i = .int .i64 j ∧ l = .int .i64 z ∧ lastI qs g j z ∧ TwI w wr w.heap.size lo hi v ((qs.take j).filter fun q => grp q.c.key == g))
  case atStart => exact ⟨0, -1, _, by omega, rfl, rfl, .inl ⟨rfl, rfl⟩, HT0.out⟩
  case round =>
    obtain ⟨j, z, v, hgk, rfl, rfl, hla, htw⟩ := hrel
    have HLA := hidMk hla
    have HTW := hidMk htw
    have e2 := cell_later htw.bel d2
    clear HT0
    by_cases hj : j < qs.length
    · have hj' : (j : Int) < (qs.length : Int) := by omega
      obtain ⟨gq, hg0, -⟩ : ∃ g, ua = some ⟨g, 0, none⟩ ∧ True := by
        rcases hcase with ⟨h1, -⟩ | ⟨g, h1, -⟩
        · rw [h1] at hj; simp at hj
        · exact ⟨g, h1, trivial⟩
      subst hg0
      have hm : qs[j] ∈ qs := List.getElem_mem hj
      obtain ⟨gk1, gk2, gk3⟩ := HC.out.good _ hm
      have gkl := HC.out.klen hm
      obtain ⟨ya, yc, hdv, -⟩ := HS.out.row.dform hm
      have HCE : Hid (cellsC qs[j] = [.slice qs[j].ka qs[j].c.key.length qs[j].kc, .int .i64 qs[j].c.w.f, .int .i64 qs[j].c.w.t, .slice ya qs[j].c.d.length yc]) := by rw [Hid, ← hdv]; rfl
      obtain ⟨c0, c1, c2, c3⟩ := HS.out.row.cells j hj
      rw [hdv] at c3
      have HCL : Hid (∀ W, Below w.heap.size w W → W.cell? ⟨gq, j * 4, none⟩ = some (.slice qs[j].ka qs[j].c.key.length qs[j].kc) ∧ W.cell? ⟨gq, j * 4 + 1, none⟩ = some (.int .i64 qs[j].c.w.f) ∧ W.cell? ⟨gq, j * 4 + 2, none⟩ = some (.int .i64 qs[j].c.w.t) ∧ W.cell? ⟨gq, j * 4 + 3, none⟩ = some (.slice ya qs[j].c.d.length yc) ∧ W.cell? ⟨s, 2, none⟩ = some (.slice (some ⟨gq, 0, none⟩) qs.length uc)) := fun W hW => ⟨cell_later hW c0, cell_later hW c1, cell_later hW c2, cell_later hW c3, cell_later hW d2⟩
      have b0 := cell_later htw.bel c0
      have HVL := hidMk (HS.out.row.lies hm)
      have HGR := hidMk (fun W (hb : Below w.heap.size w W) => groupD_any qs[j].c.key qs[j].ka qs[j].kc W (HVL.out.later hb) gk1 (by omega))
      have HNX : Hid ((qs.take (j + 1)).filter (fun q => grp q.c.key == g) = (qs.take j).filter (fun q => grp q.c.key == g) ++ (if grp qs[j].c.key = g then [qs[j]] else [])) := by
        rw [Hid, List.take_succ_eq_append_getElem hj, List.filter_append]
        congr 1
        by_cases he : grp qs[j].c.key = g <;> simp [he]
      have HPL : Hid (((qs.take j).filter (fun q => grp q.c.key == g)).length ≤ 2097152) := by
        have h1 := (List.filter_sublist (l := qs.take j) (p := fun q => grp q.c.key == g)).length_le
        have h2 := List.length_take_le j qs
        rw [Hid]; omega
      have HL1 : Hid (grp qs[j].c.key = g → lastI qs g (j + 1) (j : Int)) := fun he => .inr ⟨j, hj, by omega, rfl, by rw [HNX.out, if_pos he]; simp⟩
      have HL2 : Hid (grp qs[j].c.key ≠ g → lastI qs g (j + 1) z) := fun he => by
        rcases HLA.out with ⟨h1, h2⟩ | ⟨i, hi, h1, h2, h3⟩
        · exact .inl ⟨by rw [HNX.out, if_neg he, h1]; rfl, h2⟩
        · exact .inr ⟨i, hi, by omega, h2, by rw [HNX.out, if_neg he, List.append_nil]; exact h3⟩
      generalize (qs.take j).filter (fun q => grp q.c.key == g) = P at *
      obtain ⟨ax, cx, hv⟩ : ∃ a c, v = .slice a P.length c := row_form htw.row
      subst hv
      generalize hyq : qs[j] = y at *
      clear hm gk1 gk2 gk3 hdv hcase c0 c1 c2 c3 hla htw HLA hyq
      go_wp2_with fail
      refine (HGR.out _ HTW.out.bel).mono ?_
      rintro e w2 ⟨rfl, b2⟩
      have HT2 := hidMk (HTW.out.later b2)
      clear b2 HGR HTW b0 e2
      by_cases hgr : grp y.c.key = g
      · have hgr' : (((grp y.c.key : Nat) : Int) == (g : Int)) = true := by simp; omega
        rw [if_pos hgr] at HNX
        have HLN := hidMk (HL1.out hgr)
        generalize ((grp y.c.key : Nat) : Int) = gy at *
        clear hgr HL1 HL2
        have hPl := HPL.out
        obtain ⟨x0, x1, x2, x3, x4⟩ := HCL.out _ HT2.out.bel
        have x5 : w2.cell? ⟨w.heap.size, 2, none⟩ = some (.slice ax P.length cx) := HT2.out.own.cell 2 (by decide)
        have bA : Below w2.heap.size w2 (w2.alloc (.cells #[.slice y.ka y.c.key.length y.kc, .int .i64 y.c.w.f, .int .i64 y.c.w.t, .slice ya y.c.d.length yc] 97)).drew := below_drewN (bel1 _ _) 1
        have HTA := hidMk (HT2.out.later bA)
        have HRA := hidMk HTA.out.row
        have lA : w.heap.size ≤ w2.heap.size + 1 := by have := HT2.out.bel.size; omega
        have x6 : (w2.alloc (.cells #[.slice y.ka y.c.key.length y.kc, .int .i64 y.c.w.f, .int .i64 y.c.w.t, .slice ya y.c.d.length yc] 97)).cell? ⟨w.heap.size, 2, none⟩ = some (.slice ax P.length cx) := cell_later (bel1 _ _) x5
        clear bA HCL HPL
        go_wp2_with fail
        go_region_law
          ((refine step_append_lies _ (by rfl) _ _ _ (by rfl) w.heap.size 97 ic _ 4 64 Tryz.underlying31 hc0 hc1 hc2 hc3 rfl (by omega) (.slice ax P.length cx) P.length (P.flatMap cellsC) (by rfl) HRA.out
              ⟨w2.heap.size, 0, none⟩ 1 1 [.slice y.ka y.c.key.length y.kc, .int .i64 y.c.w.f, .int .i64 y.c.w.t, .slice ya y.c.d.length yc] (by rfl) (by rfl) (World.news_of_block (cs := #[.slice y.ka y.c.key.length y.kc, .int .i64 y.c.w.f, .int .i64 y.c.w.t, .slice ya y.c.d.length yc]) (t := 97) (fr := (0, 0)) (heap_alloc_new w2 _)) (by intro u hu; simp at hu; rcases hu with rfl | rfl | rfl | rfl <;> rfl)
              (by omega) (by unfold maxLen; omega) (by omega) (by simp; omega) (w2.heap.size + 1) (by simp) ?_; intro gg cap w8 hown8 hg8 hat8 hlt8
            have c9 : w8.cell? ⟨w.heap.size, 2, none⟩ = some (.slice ax P.length cx) := (HTA.out.next y _ HCE.out gg cap w8 hown8 hg8).1.cell 2 (by decide)
            have f9 : w8.frozen? ⟨w.heap.size, 2, none⟩ = false := (HTA.out.next y _ HCE.out gg cap w8 hown8 hg8).1.soft 2))
        all_goals
          have HT9 := hidMk (HTA.out.next y _ HCE.out gg cap w8 hown8 hg8).2
          clear hown8 hg8 hat8 hlt8 c9 f9 x0 x1 x2 x3 x4 x5 x6
          go_wp2_with fail
          go_roundg (gk - 1)
          case measure => omega
          case rel => exact ⟨j + 1, j, _, by omega, by go_num, rfl, HLN.out, by rw [HNX.out]; exact HT9.out⟩
      · have hgr' : (((grp y.c.key : Nat) : Int) == (g : Int)) = false := by simp; omega
        rw [if_neg hgr, List.append_nil] at HNX
        have HLN := hidMk (HL2.out hgr)
        generalize ((grp y.c.key : Nat) : Int) = gy at *
        clear hgr HL1 HL2 HCL
        go_wp2_with fail
        go_roundg (gk - 1)
        case measure => omega
        case rel => exact ⟨j + 1, z, _, by omega, by go_num, rfl, HLN.out, by rw [HNX.out]; exact HT2.out⟩
    · have hj' : ¬ (j : Int) < (qs.length : Int) := by omega
      have hF : qs.take j = qs := List.take_of_length_le (by omega)
      have HMF : Hid ((qs.map (·.c)).filter (fun c => grp c.key == g) = (qs.filter fun q => grp q.c.key == g).map (·.c)) := by rw [Hid, List.filter_map]; rfl
      have hla' := HLA.out
      unfold lastI at hla'
      rw [hF] at hla' HTW
      have HSub : Hid (∀ q ∈ qs.filter (fun q => grp q.c.key == g), q ∈ qs) := fun q hq => (List.mem_filter.1 hq).1
      have HPL : Hid ((qs.filter (fun q => grp q.c.key == g)).length ≤ 2097152) := by
        have h1 := (List.filter_sublist (l := qs) (p := fun q => grp q.c.key == g)).length_le
        rw [Hid]; omega
      generalize qs.filter (fun q => grp q.c.key == g) = P at *
      obtain ⟨ax, cx, hv⟩ : ∃ a c, v = .slice a P.length c := row_form HTW.out.row
      subst hv
      rcases hla' with ⟨rfl, rfl⟩ | ⟨i, hi, hij, rfl, hlast⟩
      · have HPI := hidMk (HFin.out _ _ _ _ HTW.out HSub.out (by rw [HMF.out]; rfl))
        clear hla htw hcase HFin
        go_wp2_with fail
        refine HPI.out.mono ?_
        rintro e w3 ⟨v3, b3, rfl, o3, q3⟩
        have HO3 := hidMk o3
        have HB3 := hidMk q3
        clear o3 q3 HPI
        go_wp2_with fail
        go_ret
        exact ⟨v3, rfl, HO3.out, HB3.out⟩
      · have hi' : (i : Int) < (qs.length : Int) := by omega
        have hi0 : (0 : Int) ≤ (i : Int) := by omega
        have hi0' : (i : Int) ≥ 0 := hi0
        obtain ⟨gq, hg0, -⟩ : ∃ g, ua = some ⟨g, 0, none⟩ ∧ True := by
          rcases hcase with ⟨h1, -⟩ | ⟨g, h1, -⟩
          · rw [h1] at hi; simp at hi
          · exact ⟨g, h1, trivial⟩
        subst hg0
        have hm : qs[i] ∈ qs := List.getElem_mem hi
        obtain ⟨ya, yc, hdv, -⟩ := HS.out.row.dform hm
        have HCE : Hid (cellsC qs[i] = [.slice qs[i].ka qs[i].c.key.length qs[i].kc, .int .i64 qs[i].c.w.f, .int .i64 qs[i].c.w.t, .slice ya qs[i].c.d.length yc]) := by rw [Hid, ← hdv]; rfl
        obtain ⟨c0, c1, c2, c3⟩ := HS.out.row.cells i hi
        rw [hdv] at c3
        have x0 := cell_later htw.bel c0
        have x1 := cell_later htw.bel c1
        have x2 := cell_later htw.bel c2
        have x3 := cell_later htw.bel c3
        have HEnd : Hid ((∀ q ∈ P ++ [qs[i]], q ∈ qs) ∧ (P ++ [qs[i]]).map (·.c) = tw ((qs.map (·.c)).filter fun c => grp c.key == g)) := by
          refine ⟨fun q hq => ?_, ?_⟩
          · rcases List.mem_append.1 hq with h1 | h1
            · exact HSub.out q h1
            · rw [List.mem_singleton.1 h1]; exact hm
          · rw [HMF.out]
            unfold tw
            rw [List.getLast?_map, hlast]
            simp
        have hPl := HPL.out
        generalize hyq : qs[i] = y at *
        have x5 : wr.cell? ⟨w.heap.size, 2, none⟩ = some (.slice ax P.length cx) := HTW.out.own.cell 2 (by decide)
        have bA : Below wr.heap.size wr (wr.alloc (.cells #[.slice y.ka y.c.key.length y.kc, .int .i64 y.c.w.f, .int .i64 y.c.w.t, .slice ya y.c.d.length yc] 97)).drew := below_drewN (bel1 _ _) 1
        have HTA := hidMk (HTW.out.later bA)
        have HRA := hidMk HTA.out.row
        have lA : w.heap.size ≤ wr.heap.size + 1 := by have := HTW.out.bel.size; omega
        have x6 : (wr.alloc (.cells #[.slice y.ka y.c.key.length y.kc, .int .i64 y.c.w.f, .int .i64 y.c.w.t, .slice ya y.c.d.length yc] 97)).cell? ⟨w.heap.size, 2, none⟩ = some (.slice ax P.length cx) := cell_later (bel1 _ _) x5
        clear bA hyq hm hla htw hcase c0 c1 c2 c3 hdv hlast HMF HSub HPL
        go_wp2_with fail
        go_region_law
          ((refine step_append_lies _ (by rfl) _ _ _ (by rfl) w.heap.size 97 ic _ 4 64 Tryz.underlying31 hc0 hc1 hc2 hc3 rfl (by omega) (.slice ax P.length cx) P.length (P.flatMap cellsC) (by rfl) HRA.out
              ⟨wr.heap.size, 0, none⟩ 1 1 [.slice y.ka y.c.key.length y.kc, .int .i64 y.c.w.f, .int .i64 y.c.w.t, .slice ya y.c.d.length yc] (by rfl) (by rfl) (World.news_of_block (cs := #[.slice y.ka y.c.key.length y.kc, .int .i64 y.c.w.f, .int .i64 y.c.w.t, .slice ya y.c.d.length yc]) (t := 97) (fr := (0, 0)) (heap_alloc_new wr _)) (by intro u hu; simp at hu; rcases hu with rfl | rfl | rfl | rfl <;> rfl)
              (by omega) (by unfold maxLen; omega) (by omega) (by simp; omega) (wr.heap.size + 1) (by simp) ?_; intro gg cap w8 hown8 hg8 hat8 hlt8
            have c9 : w8.cell? ⟨w.heap.size, 2, none⟩ = some (.slice ax P.length cx) := (HTA.out.next y _ HCE.out gg cap w8 hown8 hg8).1.cell 2 (by decide)
            have f9 : w8.frozen? ⟨w.heap.size, 2, none⟩ = false := (HTA.out.next y _ HCE.out gg cap w8 hown8 hg8).1.soft 2))
        all_goals
          have HPI := hidMk (HFin.out _ _ _ _ (HTA.out.next y _ HCE.out gg cap w8 hown8 hg8).2 HEnd.out.1 HEnd.out.2)
          clear hown8 hg8 hat8 hlt8 c9 f9 x0 x1 x2 x3 x5 x6 HFin e2
          go_wp2_with fail
          refine HPI.out.mono ?_
          rintro e w3 ⟨v3, b3, rfl, o3, q3⟩
          have HO3 := hidMk o3
          have HB3 := hidMk q3
          clear o3 q3 HPI
          go_wp2_with fail
          go_ret
          exact ⟨v3, rfl, HO3.out, HB3.out⟩
end Go.Proofs.YtobhccmnlmlapaaGreatDoor
namespace Go.Proofs.YtobhccmnlmlapaaGreatDoor
open Go.RowKit Go.Maps
set_option linter.unusedVariables false
set_option linter.unusedSimpArgs false
set_option maxRecDepth 100000
noncomputable def ldPart (n : Nat) : Code := (Tryz.f5.body.bind (partOf n)).getD .skip
set_option maxHeartbeats 4000000 in
/-- What is saved at last is what was saved before. -/
theorem loads_t4 (w0 W3 : World) (bp op bc bq oq qc : Nat) (bs qs : List Pc) (hiq : PIn W3 W3.heap.size (some ⟨bq, oq, none⟩) qs) (hip : PIn W3 W3.heap.size (some ⟨bp, op, none⟩) bs) (hlq : qs.length = bs.length) (hl32 : bs.length ≤ 32) (hat : ∀ i (hi : i < bs.length) (hj : i < qs.length), qs[i].g = bs[i].g ∧ qs[i].b = bs[i].b) (hbel : Below w0.heap.size w0 W3)
    (x0 x1 x2 x3 x4 x5 x6 x7 x8 x9 x10 x11 x12 x13 x14 x15 x16 x17 x19 x20 x21 x22 x23 x24 x25 x26 x28 x29 x30 x31 x32 x33 x34 x35 x36 x37 x38 x39 x40 x41 x42 x43 x44 x45 x46 x47 x48 x49 x50 x51 x52 x53 x54 x55 x56 x57 x58 x59 x60 x61 x62 x63 x64 x65 x66 x67 x68 x69 x70 x71 x72 x73 x74 x75 x76 x77 x78 x79 x80 x81 x82 x83 x84 x85 x86 x87 x88 x89 x90 x91 x92 x93 x94 x95 x96 x97 x98 x99 x100 x101 x102 x103 x104 x105 x106 x107 x108 x109 x110 x111 x112 x113 x114 x115 x116 x117 x118 x119 x120 x121 x122 x123 x124 x125 x126 x127 x128 x129 x130 x131 x132 x133 x134 x135 x136 x137 x138 x139 x140 x141 x142 x143 x144 x145 x146 x147 x148 x149 x150 x151 x152 x153 x154 x155 x156 x157 x158 x159 x160 x161 x162 x163 x164 x165 x166 x167 x168 x169 x170 x171 x172 x173 x174 x175 x176 x177 x178 x179 x180 x181 x182 x183 x184 x185 x186 x187 x188 x189 x190 x191 x192 x193 x194 x195 x196 x197 x198 x199 x200 x201 x202 x203 x204 x205 x206 x207 x208 x209 x210 x211 x212 x213 x214 x215 x216 x217 x218 x219 x220 x221 x222 x223 x224 x225 x226 x227 x228 x229 x230 x231 x232 x233 x234 x235 x236 x237 x238 x239 x240 x241 x242 x243 x244 x245 x246 : Value) :
    Code.wp Tryz.prog (ldPart 50) (bodyPost Tryz.prog Tryz.f5 fun e w' => e = .returned (.bool true) ∧ Below w0.heap.size w0 w') { tmps := List.toArray (x0 :: x1 :: x2 :: x3 :: x4 :: x5 :: x6 :: x7 :: x8 :: x9 :: x10 :: x11 :: x12 :: x13 :: x14 :: x15 :: x16 :: x17 :: (.slice (some ⟨bp, op, none⟩) bs.length bc) :: x19 :: x20 :: x21 :: x22 :: x23 :: x24 :: x25 :: x26 :: (.slice (some ⟨bq, oq, none⟩) bs.length qc) :: x28 :: x29 :: x30 :: x31 :: x32 :: x33 :: x34 :: x35 :: x36 :: x37 :: x38 :: x39 :: x40 :: x41 :: x42 :: x43 :: x44 :: x45 :: x46 :: x47 :: x48 :: x49 :: x50 :: x51 :: x52 :: x53 :: x54 :: x55 :: x56 :: x57 :: x58 :: x59 :: x60 :: x61 :: x62 :: x63 :: x64 :: x65 :: x66 :: x67 :: x68 :: x69 :: x70 :: x71 :: x72 :: x73 :: x74 :: x75 :: x76 :: x77 :: x78 :: x79 :: x80 :: x81 :: x82 :: x83 :: x84 :: x85 :: x86 :: x87 :: x88 :: x89 :: x90 :: x91 :: x92 :: x93 :: x94 :: x95 :: x96 :: x97 :: x98 :: x99 :: x100 :: x101 :: x102 :: x103 :: x104 :: x105 :: x106 :: x107 :: x108 :: x109 :: x110 :: x111 :: x112 :: x113 :: x114 :: x115 :: x116 :: x117 :: x118 :: x119 :: x120 :: x121 :: x122 :: x123 :: x124 :: x125 :: x126 :: x127 :: x128 :: x129 :: x130 :: x131 :: x132 :: x133 :: x134 :: x135 :: x136 :: x137 :: x138 :: x139 :: x140 :: x141 :: x142 :: x143 :: x144 :: x145 :: x146 :: x147 :: x148 :: x149 :: x150 :: x151 :: x152 :: x153 :: x154 :: x155 :: x156 :: x157 :: x158 :: x159 :: x160 :: x161 :: x162 :: x163 :: x164 :: x165 :: x166 :: x167 :: x168 :: x169 :: x170 :: x171 :: x172 :: x173 :: x174 :: x175 :: x176 :: x177 :: x178 :: x179 :: x180 :: x181 :: x182 :: x183 :: x184 :: x185 :: x186 :: x187 :: x188 :: x189 :: x190 :: x191 :: x192 :: x193 :: x194 :: x195 :: x196 :: x197 :: x198 :: x199 :: x200 :: x201 :: x202 :: x203 :: x204 :: x205 :: x206 :: x207 :: x208 :: x209 :: x210 :: x211 :: x212 :: x213 :: x214 :: x215 :: x216 :: x217 :: x218 :: x219 :: x220 :: x221 :: x222 :: x223 :: x224 :: x225 :: x226 :: x227 :: x228 :: x229 :: x230 :: x231 :: x232 :: x233 :: x234 :: x235 :: x236 :: x237 :: x238 :: x239 :: x240 :: x241 :: x242 :: x243 :: x244 :: x245 :: x246 :: []), defers := [] } W3 := by
  have HIQ := hidMk hiq
  have HIP := hidMk hip
  have HLQ := hidMk hlq
  have HAT := hidMk hat
  have HB5 := hidMk hbel
  clear hiq hip hlq hat hbel
  conv => arg 2; whnf
  go_wp2_with fail
  go_loopw [28] (fun i wr => ∃ j : Nat, i = .int .i64 (j : Int) ∧ j ≤ bs.length ∧ Below W3.heap.size W3 wr) (fun i _ => bs.length - (intOf i).toNat)
  case atStart => exact ⟨0, rfl, by omega, Below.refl _ _⟩
  case round =>
    obtain ⟨j, rfl, hj, hbr⟩ := hrel
    have HBR := hidMk hbr
    clear hbr
    by_cases hlt : j < bs.length
    · have hji : (j : Int) < (bs.length : Int) := by omega
      have hq : j < qs.length := by rw [HLQ.out]; exact hlt
      obtain ⟨b1, o1, ea, -, f0, f1⟩ := (HIQ.out.kept HBR.out).row j hq
      cases ea
      obtain ⟨b2, o2, ea, -, g0, g1⟩ := (HIP.out.kept HBR.out).row j hlt
      cases ea
      obtain ⟨z1, z2⟩ := HAT.out j hlt hq
      obtain ⟨qa, qc, hqv, hqb, -⟩ := (HIQ.out.kept HBR.out).byt qs[j] (List.getElem_mem hq)
      obtain ⟨va, vc, hpv, hpb, -⟩ := (HIP.out.kept HBR.out).byt bs[j] (List.getElem_mem hlt)
      have cv1 := fun n => Wr.conv_bytes (wr.drewN n) qa qs[j].b.length qc (Wr.lat qs[j].b) (show Wr.Bytes (wr.drewN n) qa qs[j].b.length (Wr.lat qs[j].b) from hqb)
      have cv2 := fun n => Wr.conv_bytes (wr.drewN n) va bs[j].b.length vc (Wr.lat bs[j].b) (show Wr.Bytes (wr.drewN n) va bs[j].b.length (Wr.lat bs[j].b) from hpb)
      rw [hqv, z2] at f1
      rw [z1] at f0
      rw [hpv] at g1
      rw [z2] at cv1
      clear hqb hpb hqv hpv z1 z2 hq
      go_wp2_with fail
      go_quiet (fail)
      go_wp2_with fail
      exact ⟨⟨j + 1, by go_num, by omega, below_drewN HBR.out _⟩, by simp [intOf]; omega⟩
    · obtain rfl : j = bs.length := by omega
      go_wp2_with fail
      go_ret
      exact ⟨rfl, HB5.out.trans (HBR.out.mono HB5.out.size)⟩
end Go.Proofs.YtobhccmnlmlapaaGreatDoor
namespace Go.Proofs.YtobhccmnlmlapaaGreatDoor
open Go.RowKit Go.Maps
set_option linter.unusedVariables false
set_option linter.unusedSimpArgs false
set_option maxRecDepth 100000
set_option maxHeartbeats 4000000 in
/-- From the faulty Load on. -/
theorem loads_t3 (w0 W : World) (t mp Bx : Nat) (ss : List Sh) (pb : Option Addr) (pc : Nat) (ps : List Pc) (m E : Nat) (cl : Nat → List Ce) (bb : Option Addr) (bc B1 : Nat) (bs : List Pc) (hx : PS W Bx t mp 0 32 ss) (hin : PIn W W.heap.size pb ps) (hm : m < ps.length) (hpl : ps.length ≤ 33) (hr : Reads 0 32 cl (ps.take m)) (hE : E ≠ 0) (hF : ∀ V t1 m1, PS V W.heap.size t1 m1 0 32 [] → Below W.heap.size W V → Fault V W.heap.size t1 m1 cl ps m E) (ho : OPc W B1 (.slice bb bs.length bc) bs) (hbs : bs.map (fun p => (p.g, p.b)) = saveP (ces ss)) (hb0 : 0 < bs.length) (hbel : Below w0.heap.size w0 W) (ht : ∀ W, Below w0.heap.size w0 W → Vl.Tab W ∧ Wr.Quart W ∧ Wr.Ety W)
    (x0 x1 x2 x3 x4 x5 x6 x7 x8 x10 x11 x12 x13 x14 x15 x16 x19 x20 x21 x23 x24 x25 x26 x27 x28 x29 x30 x31 x32 x33 x34 x35 x36 x37 x38 x39 x40 x41 x42 x43 x44 x45 x46 x47 x48 x49 x50 x51 x52 x53 x54 x55 x56 x57 x58 x59 x60 x61 x62 x63 x64 x65 x66 x67 x68 x69 x70 x71 x72 x73 x74 x75 x76 x77 x78 x79 x80 x81 x82 x83 x84 x85 x86 x87 x88 x89 x90 x91 x92 x93 x94 x95 x96 x97 x98 x99 x100 x101 x102 x103 x104 x105 x106 x107 x108 x109 x110 x111 x112 x113 x114 x115 x116 x117 x118 x119 x120 x121 x122 x123 x124 x125 x126 x127 x128 x129 x130 x131 x132 x133 x134 x135 x136 x137 x138 x139 x140 x141 x142 x143 x144 x145 x146 x147 x148 x149 x150 x151 x152 x153 x154 x155 x156 x157 x158 x159 x160 x161 x162 x163 x164 x165 x166 x167 x168 x169 x170 x171 x172 x173 x174 x175 x176 x177 x178 x179 x180 x181 x182 x183 x184 x185 x186 x187 x188 x189 x190 x191 x192 x193 x194 x195 x196 x197 x198 x199 x200 x201 x202 x203 x204 x205 x206 x207 x208 x209 x210 x211 x212 x213 x214 x215 x216 x217 x218 x219 x220 x221 x222 x223 x224 x225 x226 x227 x228 x229 x230 x231 x232 x233 x234 x235 x236 x237 x238 x239 x240 x241 x242 x243 x244 x245 x246 : Value) :
    Code.wp Tryz.prog (ldPart 45) (bodyPost Tryz.prog Tryz.f5 fun e w' => e = .returned (.bool true) ∧ Below w0.heap.size w0 w') { tmps := List.toArray (x0 :: x1 :: x2 :: x3 :: x4 :: x5 :: x6 :: x7 :: x8 :: (.pointer (some ⟨t, 0, none⟩)) :: x10 :: x11 :: x12 :: x13 :: x14 :: x15 :: x16 :: (.slice pb ps.length pc) :: (.slice bb bs.length bc) :: x19 :: x20 :: x21 :: (.int .i64 (E : Int)) :: x23 :: x24 :: x25 :: x26 :: x27 :: x28 :: x29 :: x30 :: x31 :: x32 :: x33 :: x34 :: x35 :: x36 :: x37 :: x38 :: x39 :: x40 :: x41 :: x42 :: x43 :: x44 :: x45 :: x46 :: x47 :: x48 :: x49 :: x50 :: x51 :: x52 :: x53 :: x54 :: x55 :: x56 :: x57 :: x58 :: x59 :: x60 :: x61 :: x62 :: x63 :: x64 :: x65 :: x66 :: x67 :: x68 :: x69 :: x70 :: x71 :: x72 :: x73 :: x74 :: x75 :: x76 :: x77 :: x78 :: x79 :: x80 :: x81 :: x82 :: x83 :: x84 :: x85 :: x86 :: x87 :: x88 :: x89 :: x90 :: x91 :: x92 :: x93 :: x94 :: x95 :: x96 :: x97 :: x98 :: x99 :: x100 :: x101 :: x102 :: x103 :: x104 :: x105 :: x106 :: x107 :: x108 :: x109 :: x110 :: x111 :: x112 :: x113 :: x114 :: x115 :: x116 :: x117 :: x118 :: x119 :: x120 :: x121 :: x122 :: x123 :: x124 :: x125 :: x126 :: x127 :: x128 :: x129 :: x130 :: x131 :: x132 :: x133 :: x134 :: x135 :: x136 :: x137 :: x138 :: x139 :: x140 :: x141 :: x142 :: x143 :: x144 :: x145 :: x146 :: x147 :: x148 :: x149 :: x150 :: x151 :: x152 :: x153 :: x154 :: x155 :: x156 :: x157 :: x158 :: x159 :: x160 :: x161 :: x162 :: x163 :: x164 :: x165 :: x166 :: x167 :: x168 :: x169 :: x170 :: x171 :: x172 :: x173 :: x174 :: x175 :: x176 :: x177 :: x178 :: x179 :: x180 :: x181 :: x182 :: x183 :: x184 :: x185 :: x186 :: x187 :: x188 :: x189 :: x190 :: x191 :: x192 :: x193 :: x194 :: x195 :: x196 :: x197 :: x198 :: x199 :: x200 :: x201 :: x202 :: x203 :: x204 :: x205 :: x206 :: x207 :: x208 :: x209 :: x210 :: x211 :: x212 :: x213 :: x214 :: x215 :: x216 :: x217 :: x218 :: x219 :: x220 :: x221 :: x222 :: x223 :: x224 :: x225 :: x226 :: x227 :: x228 :: x229 :: x230 :: x231 :: x232 :: x233 :: x234 :: x235 :: x236 :: x237 :: x238 :: x239 :: x240 :: x241 :: x242 :: x243 :: x244 :: x245 :: x246 :: []), defers := [] } W := by
  have HL := hidMk (load_bad W Bx t mp ss pb pc cl ps m E hx hin hm hpl hr hE hF (fun V hV => ⟨(ht V (hbel.trans (hV.mono hbel.size))).1, (ht V (hbel.trans (hV.mono hbel.size))).2.1⟩))
  have HX := hidMk hx
  have HO := hidMk ho
  have HBS := hidMk hbs
  have HBEL := hidMk hbel
  have HT := hidMk ht
  have HERR : Hid (∀ V, Below W.heap.size W V → Calls Tryz.prog 7 #[Wr.errV E] V fun e w' => e = .returned (.int .i64 (E : Int)) ∧ Below V.heap.size V w') := fun V hV => Wr.told_any E V (HT.out _ (HBEL.out.trans (hV.mono HBEL.out.size))).2.2
  simp only [Wr.errV, if_neg hE] at HL HERR
  clear hx hin hr hF ho hbs hbel ht
  conv => arg 2; whnf
  go_wp2_with fail
  refine HL.out.mono ?_
  rintro e W1 ⟨rfl, b1⟩
  have HB1 := hidMk b1
  have HTD := hidMk (HERR.out W1 b1)
  clear b1 HL
  go_wp2_with fail
  refine HTD.out.mono ?_
  rintro e W2 ⟨rfl, b2⟩
  have HB2 := hidMk (HB1.out.trans (b2.mono HB1.out.size))
  have HBW := hidMk (HBEL.out.trans (HB2.out.mono HBEL.out.size))
  have HS := hidMk (save_any W2 Bx t mp 0 32 ss (HX.out.later HB2.out) (HT.out _ HBW.out).1 (HT.out _ HBW.out).2.1)
  clear b2 HTD HERR HB1
  go_upto_region 49 with fail
  go_cut [27] from 28 (fun u3 W3 => ∃ qs, OPc W3 W2.heap.size u3 qs ∧ qs.map (fun p => (p.g, p.b)) = saveP (ces ss) ∧ Below W2.heap.size W2 W3)
  case first =>
    go_wp2_with fail
    refine HS.out.mono ?_
    rintro e W3 ⟨u3, qs, rfl, o3, e3, b3⟩
    have HZ : Hid (∃ qs, OPc W3 W2.heap.size u3 qs ∧ qs.map (fun p => (p.g, p.b)) = saveP (ces ss) ∧ Below W2.heap.size W2 W3) := ⟨qs, o3, e3, b3⟩
    clear o3 e3 b3
    go_wp2_with fail
    go_meet
    case rel => exact HZ.out
  case rest =>
    apply_assumption
    obtain ⟨qs, o3, e3, b3⟩ := hcut
    have HB3 := hidMk (HB2.out.trans (b3.mono HB2.out.size))
    have HB5 := hidMk (HBEL.out.trans (HB3.out.mono HBEL.out.size))
    obtain ⟨a4, c4, rfl, hin4⟩ := o3.pin
    obtain ⟨hlq, hat⟩ := same_at (e3.trans HBS.out.symm)
    rw [hlq]
    obtain ⟨pb', c', ec, hin⟩ := (HO.out.later HB3.out).pin
    obtain ⟨rfl, rfl⟩ : bb = pb' ∧ bc = c' := by injection ec with e1 e2 e3; exact ⟨e1, e3⟩
    obtain ⟨bq, oq, rfl⟩ : ∃ b o, a4 = some ⟨b, o, none⟩ := by obtain ⟨b, o, e, -⟩ := hin4.row 0 (by omega); exact ⟨b, o, e⟩
    obtain ⟨bp, op, rfl⟩ : ∃ b o, bb = some ⟨b, o, none⟩ := by obtain ⟨b, o, e, -⟩ := hin.row 0 hb0; exact ⟨b, o, e⟩
    have hl32 : bs.length ≤ 32 := by
      have h1 := congrArg List.length HBS.out
      rw [List.length_map] at h1
      rw [h1]
      unfold saveP
      exact Nat.le_trans (List.length_filterMap_le _ _) (by simp)
    exact loads_t4 w0 _ bp op _ bq oq _ bs qs hin4 hin hlq hl32 hat HB5.out _ _ _ _ _ _ _ _ _ _ _ _ _ _ _ _ _ _ _ _ _ _ _ _ _ _ _ _ _ _ _ _ _ _ _ _ _ _ _ _ _ _ _ _ _ _ _ _ _ _ _ _ _ _ _ _ _ _ _ _ _ _ _ _ _ _ _ _ _ _ _ _ _ _ _ _ _ _ _ _ _ _ _ _ _ _ _ _ _ _ _ _ _ _ _ _ _ _ _ _ _ _ _ _ _ _ _ _ _ _ _ _ _ _ _ _ _ _ _ _ _ _ _ _ _ _ _ _ _ _ _ _ _ _ _ _ _ _ _ _ _ _ _ _ _ _ _ _ _ _ _ _ _ _ _ _ _ _ _ _ _ _ _ _ _ _ _ _ _ _ _ _ _ _ _ _ _ _ _ _ _ _ _ _ _ _ _ _ _ _ _ _ _ _ _ _ _ _ _ _ _ _ _ _ _ _ _ _ _ _ _ _ _ _ _ _ _ _ _ _ _ _ _ _ _ _ _ _ _ _ _ _ _ _ _ _ _ _ _ _ _ _ _ _ _
end Go.Proofs.YtobhccmnlmlapaaGreatDoor
namespace Go.Proofs.YtobhccmnlmlapaaGreatDoor
open Go.RowKit Go.Maps
set_option linter.unusedVariables false
set_option linter.unusedSimpArgs false
set_option maxRecDepth 100000

/-- Both stores, what was saved of the one, and what was saved once more. -/
structure LS (w0 W : World) (B1 B2 t mp s : Nat) (ss : List Sh) (u : Value) (qs : List Cx) (pb : Option Addr) (pc : Nat) (ps : List Pc) (bb : Option Addr) (bc : Nat) (bs : List Pc) : Prop where
  si : SI w0 W t mp s 0 32 ss u qs
  below : ∀ i, Bl t mp ss i ∨ DB s u qs i → i < B1
  lo : OPc W B1 (.slice pb ps.length pc) ps
  mid : ∀ i, ((Value.slice pb ps.length pc).ownBlock = some i ∨ ∃ p ∈ ps, p.v.ownBlock = some i) → i < B2
  be : OPc W B2 (.slice bb bs.length bc) bs
  ord : w0.heap.size ≤ B1 ∧ B1 ≤ B2 ∧ B2 ≤ W.heap.size
  eq1 : ps.map (fun p => (p.g, p.b)) = saveP (ces ss)
  eq2 : bs.map (fun p => (p.g, p.b)) = saveP (ces ss)
  pos : 0 < ps.length
theorem OPc.keptG {S : Nat → Prop} {w w' : World} {B : Nat} {u : Value} {ps : List Pc} (h : OPc w B u ps) (hg : Gs S w w') (hS : ∀ i, S i → i < B) : OPc w' B u ps :=
  ⟨hg.own h.own fun g hg' hs => by have := (World.ownsRow.lt h.own g hg').1; have := hS g hs; omega, fun p hp => hg.own (h.byt p hp) fun g hg' hs => by have := (World.ownsRow.lt (h.byt p hp) g hg').1; have := hS g hs; omega, h.sep, h.out⟩
theorem LS.kept {w0 W W' : World} {B1 B2 t mp s : Nat} {ss : List Sh} {u : Value} {qs : List Cx} {pb : Option Addr} {pc : Nat} {ps : List Pc} {bb : Option Addr} {bc : Nat} {bs : List Pc} (h : LS w0 W B1 B2 t mp s ss u qs pb pc ps bb bc bs) (hg : Gs (fun i => B1 ≤ i ∧ i < B2) W W') :
    SI w0 W' t mp s 0 32 ss u qs ∧ OPc W' B2 (.slice bb bs.length bc) bs :=
  ⟨h.si.kept hg (fun i hi hs => by have := h.below i (.inl hi); omega) (fun i hi hs => by have := h.below i (.inr hi); omega) (fun i hi => by have := h.ord; omega), h.be.keptG hg (fun i hi => hi.2)⟩
theorem LS.reads {w0 W : World} {B1 B2 t mp s : Nat} {ss : List Sh} {u : Value} {qs : List Cx} {pb : Option Addr} {pc : Nat} {ps : List Pc} {bb : Option Addr} {bc : Nat} {bs : List Pc} (h : LS w0 W B1 B2 t mp s ss u qs pb pc ps bb bc bs) : Reads 0 32 (ofG (ces ss)) ps :=
  reads_of (ces ss) ps 0 32 h.eq1 h.si.ps.apart (fun c hc => ⟨h.si.ps.okC c hc, h.si.ps.good c hc⟩) h.si.ps.wl
theorem LS.few {w0 W : World} {B1 B2 t mp s : Nat} {ss : List Sh} {u : Value} {qs : List Cx} {pb : Option Addr} {pc : Nat} {ps : List Pc} {bb : Option Addr} {bc : Nat} {bs : List Pc} (h : LS w0 W B1 B2 t mp s ss u qs pb pc ps bb bc bs) : ps.length ≤ 32 ∧ bs.length = ps.length := by
  have h1 := congrArg List.length h.eq1
  have h2 := congrArg List.length h.eq2
  rw [List.length_map] at h1 h2
  refine ⟨?_, by omega⟩
  rw [h1]
  unfold saveP
  exact Nat.le_trans (List.length_filterMap_le _ _) (by simp)
theorem flat_setP0 (ps : List Pc) : ∀ (k : Nat) (hk : k < ps.length) (g : Nat), (ps.flatMap cellsP).set (k * 2) (.int .i64 (g : Int)) = (ps.set k ⟨g, ps[k].v, ps[k].b⟩).flatMap cellsP := by
  induction ps with
  | nil => intro k hk; simp at hk
  | cons x ps ih =>
    intro k hk g
    cases k with
    | zero => simp [cellsP]
    | succ k =>
      have := ih k (by simpa using hk) g
      rw [List.set_cons_succ, List.flatMap_cons, List.flatMap_cons, List.getElem_cons_succ, ← this]
      simp only [cellsP, show (k + 1) * 2 = k * 2 + 2 by omega]
      rfl
theorem flat_setP1 (ps : List Pc) : ∀ (k : Nat) (hk : k < ps.length) (v : Value) (b : List UInt8), (ps.flatMap cellsP).set (k * 2 + 1) v = (ps.set k ⟨ps[k].g, v, b⟩).flatMap cellsP := by
  induction ps with
  | nil => intro k hk; simp at hk
  | cons x ps ih =>
    intro k hk v b
    cases k with
    | zero => simp [cellsP]
    | succ k =>
      have := ih k (by simpa using hk) v b
      rw [List.set_cons_succ, List.flatMap_cons, List.flatMap_cons, List.getElem_cons_succ, ← this]
      simp only [cellsP, show (k + 1) * 2 + 1 = k * 2 + 1 + 2 by omega]
      rfl
/-- Pieces of which one is another. -/
theorem pin_set {w : World} {B g c : Nat} {ps : List Pc} {k : Nat} {p : Pc} (hown : w.ownsRow B 57 2 (.slice (some ⟨g, 0, none⟩) ps.length c) ps.length ((ps.set k p).flatMap cellsP)) (hbyt : ∀ i (hi : i < ps.length), i ≠ k → ∃ B', Wr.OL w B' ps[i].v ps[i].b) (hp : ∃ a c, p.v = .slice a p.b.length c ∧ Wr.Bytes w a p.b.length (Wr.lat p.b) ∧ p.b.length ≤ c ∧ c ≤ 9223372036854775807 ∧ ∀ y, a = some y → y.block < w.heap.size) : PIn w w.heap.size (some ⟨g, 0, none⟩) (ps.set k p) := by
  refine ⟨fun i hi => ?_, fun q hq => ?_⟩
  · have hi' : i < ps.length := by simpa using hi
    have key : ∀ j, j < 2 → w.cell? ⟨g, i * 2 + j, none⟩ = (cellsP (ps.set k p)[i])[j]? := fun j hj => by
      rw [World.ownsRow.cellAt hown (i * 2 + j) (by omega), flat_at cellsP 2 (fun _ => rfl) (ps.set k p) i j hi hj]
    refine ⟨g, 0, rfl, (World.ownsRow.lt hown g rfl).2, ?_, ?_⟩
    · rw [Nat.zero_add]; exact key 0 (by decide)
    · rw [Nat.zero_add]; exact key 1 (by decide)
  · obtain ⟨i, hi, e⟩ := List.mem_iff_getElem.1 hq
    have hi' : i < ps.length := by simpa using hi
    by_cases hik : i = k
    · subst hik
      rw [List.getElem_set_self] at e
      rw [← e]; exact hp
    · rw [List.getElem_set_ne (fun e' => hik e'.symm)] at e
      rw [← e]
      obtain ⟨B', hB'⟩ := hbyt i hi' hik
      obtain ⟨a, c2, e', hb, hc, hm⟩ := hB'.conv
      refine ⟨a, c2, e', hb, hc, by unfold maxLen at hm; omega, fun y hy => ?_⟩
      rcases hB'.2 with ⟨k1, _⟩ | ⟨g, cap, cur, k1, -⟩
      · rw [e'] at k1; injection k1 with k1; rw [hy] at k1; cases k1
      · have k2 := k1
        rw [e'] at k1; injection k1 with k1; rw [hy] at k1
        injection k1 with k1
        rw [k1]
        exact (World.ownsRow.lt hB' g (by rw [k2]; rfl)).2
/-- Where the bytes of an owned row lie. -/
theorem ol_at {w : World} {B : Nat} {v : Value} {b : List UInt8} (hB' : Wr.OL w B v b) : ∃ a c, v = .slice a b.length c ∧ Wr.Bytes w a b.length (Wr.lat b) ∧ b.length ≤ c ∧ c ≤ 9223372036854775807 ∧ ∀ y, a = some y → y.block < w.heap.size := by
  obtain ⟨a, c2, e', hb, hc, hm⟩ := hB'.conv
  refine ⟨a, c2, e', hb, hc, by unfold maxLen at hm; omega, fun y hy => ?_⟩
  rcases hB'.2 with ⟨k1, _⟩ | ⟨g, cap, cur, k1, -⟩
  · rw [e'] at k1; injection k1 with k1; rw [hy] at k1; cases k1
  · have k2 := k1
    rw [e'] at k1; injection k1 with k1; rw [hy] at k1
    injection k1 with k1
    rw [k1]
    exact (World.ownsRow.lt hB' g (by rw [k2]; rfl)).2
/-- The row of what was saved. -/
theorem LS.row {w0 W : World} {B1 B2 t mp s : Nat} {ss : List Sh} {u : Value} {qs : List Cx} {pb : Option Addr} {pc : Nat} {ps : List Pc} {bb : Option Addr} {bc : Nat} {bs : List Pc} (h : LS w0 W B1 B2 t mp s ss u qs pb pc ps bb bc bs) : ∃ g, pb = some ⟨g, 0, none⟩ ∧ B1 ≤ g ∧ g < B2 := by
  rcases h.lo.own.2 with ⟨h1, h0⟩ | ⟨g, cap, cur, h1, h2, -⟩
  · have := h.pos; omega
  · injection h1 with h1
    subst h1
    exact ⟨g, rfl, h2, h.mid g (.inl rfl)⟩
theorem LS.slot {w0 W : World} {B1 B2 t mp s g : Nat} {ss : List Sh} {u : Value} {qs : List Cx} {pc : Nat} {ps : List Pc} {bb : Option Addr} {bc : Nat} {bs : List Pc} (h : LS w0 W B1 B2 t mp s ss u qs (some ⟨g, 0, none⟩) pc ps bb bc bs) (k : Nat) (hk : k < ps.length) : W.cell? ⟨g, k * 2, none⟩ = some (.int .i64 (ps[k].g : Int)) ∧ W.cell? ⟨g, k * 2 + 1, none⟩ = some ps[k].v ∧ W.frozen? ⟨g, k * 2, none⟩ = false ∧ W.frozen? ⟨g, k * 2 + 1, none⟩ = false := by
  have key : ∀ j, j < 2 → W.cell? ⟨g, k * 2 + j, none⟩ = (cellsP ps[k])[j]? := fun j hj => by
    rw [World.ownsRow.cellAt h.lo.own (k * 2 + j) (by omega), flat_at cellsP 2 (fun _ => rfl) ps k j hk hj]
  exact ⟨key 0 (by decide), key 1 (by decide), World.ownsRow.frozenAt h.lo.own _, World.ownsRow.frozenAt h.lo.own _⟩
/-- Another group is written into the row. -/
theorem LS.setG {w0 W : World} {B1 B2 t mp s g : Nat} {ss : List Sh} {u : Value} {qs : List Cx} {pc : Nat} {ps : List Pc} {bb : Option Addr} {bc : Nat} {bs : List Pc} (h : LS w0 W B1 B2 t mp s ss u qs (some ⟨g, 0, none⟩) pc ps bb bc bs) (k : Nat) (hk : k < ps.length) (x : Nat) :
    PIn (W.setCell ⟨g, k * 2, none⟩ (.int .i64 (x : Int))) (W.setCell ⟨g, k * 2, none⟩ (.int .i64 (x : Int))).heap.size (some ⟨g, 0, none⟩) (ps.set k ⟨x, ps[k].v, ps[k].b⟩) ∧ Gs (fun i => B1 ≤ i ∧ i < B2) W (W.setCell ⟨g, k * 2, none⟩ (.int .i64 (x : Int))) := by
  obtain ⟨g0, e0, l1, l2⟩ := h.row
  cases e0
  obtain ⟨h1, g1⟩ := World.ownsRow.stored h.lo.own (k * 2) (.int .i64 (x : Int))
  rw [flat_setP0 ps k hk x] at h1
  have hk2 : ∀ i (hi : i < ps.length), Wr.OL (W.setCell ⟨g, k * 2, none⟩ (.int .i64 (x : Int))) B1 ps[i].v ps[i].b := fun i hi => own_grown (h.lo.byt _ (List.getElem_mem hi)) g1 fun j hj e => h.lo.out _ (List.getElem_mem hi) j hj e.symm
  exact ⟨pin_set h1 (fun i hi _ => ⟨B1, hk2 i hi⟩) (ol_at (hk2 k hk)), Gs.one g1 (fun j e => by cases e; exact ⟨l1, l2⟩)⟩
/-- Other bytes are written into the row. -/
theorem LS.setV {w0 W W1 : World} {B1 B2 t mp s g : Nat} {ss : List Sh} {u : Value} {qs : List Cx} {pc : Nat} {ps : List Pc} {bb : Option Addr} {bc : Nat} {bs : List Pc} (h : LS w0 W B1 B2 t mp s ss u qs (some ⟨g, 0, none⟩) pc ps bb bc bs) (k : Nat) (hk : k < ps.length) (hg : Gs (fun i => ps[k].v.ownBlock = some i) W W1) (v : Value) (b : List UInt8) (hv : ∃ a c, v = .slice a b.length c ∧ Wr.Bytes (W1.setCell ⟨g, k * 2 + 1, none⟩ v) a b.length (Wr.lat b) ∧ b.length ≤ c ∧ c ≤ 9223372036854775807 ∧ ∀ y, a = some y → y.block < (W1.setCell ⟨g, k * 2 + 1, none⟩ v).heap.size) :
    PIn (W1.setCell ⟨g, k * 2 + 1, none⟩ v) (W1.setCell ⟨g, k * 2 + 1, none⟩ v).heap.size (some ⟨g, 0, none⟩) (ps.set k ⟨ps[k].g, v, b⟩) ∧ Gs (fun i => B1 ≤ i ∧ i < B2) W (W1.setCell ⟨g, k * 2 + 1, none⟩ v) := by
  obtain ⟨g0, e0, l1, l2⟩ := h.row
  cases e0
  have hrow : W1.ownsRow B1 57 2 (.slice (some ⟨g, 0, none⟩) ps.length pc) ps.length (ps.flatMap cellsP) := hg.own h.lo.own fun i hi hs => h.lo.out _ (List.getElem_mem hk) i hs hi
  obtain ⟨h1, g1⟩ := World.ownsRow.stored hrow (k * 2 + 1) v
  rw [flat_setP1 ps k hk v b] at h1
  have hsep : ∀ i (hi : i < ps.length), i ≠ k → ∀ j, ps[i].v.ownBlock = some j → ps[k].v.ownBlock ≠ some j := fun i hi hik j hj e => by
    have hs := List.pairwise_iff_getElem.1 h.lo.sep
    rcases Nat.lt_or_gt_of_ne hik with hlt | hlt
    · exact hs i k hi hk hlt j hj e
    · exact hs k i hk hi hlt j e hj
  have hk2 : ∀ i (hi : i < ps.length), i ≠ k → Wr.OL (W1.setCell ⟨g, k * 2 + 1, none⟩ v) B1 ps[i].v ps[i].b := fun i hi hik => own_grown (hg.own (h.lo.byt _ (List.getElem_mem hi)) fun j hj hs => hsep i hi hik j hj hs) g1 fun j hj e => h.lo.out _ (List.getElem_mem hi) j hj e.symm
  refine ⟨pin_set h1 (fun i hi hik => ⟨B1, hk2 i hi hik⟩) hv, (hg.mono fun i _ hi => ⟨?_, ?_⟩).trans (Gs.one g1 (fun j e => by cases e; exact ⟨l1, l2⟩))⟩
  · exact (World.ownsRow.lt (h.lo.byt _ (List.getElem_mem hk)) i hi).1
  · exact h.mid i (.inr ⟨_, List.getElem_mem hk, hi⟩)
end Go.Proofs.YtobhccmnlmlapaaGreatDoor
namespace Go.Proofs.YtobhccmnlmlapaaGreatDoor
open Go.RowKit Go.Maps
set_option linter.unusedVariables false
set_option linter.unusedSimpArgs false
set_option maxRecDepth 100000

theorem u8_next (y : UInt8) : IntKind.u8.wrap ((y.toNat : Int) + 1) = ((y + 1).toNat : Int) := by
  have h := y.toNat_lt
  have e : IntKind.u8.wrap ((y.toNat : Int) + 1) = ((y.toNat : Int) + 1) % 256 := by simp [IntKind.wrap]; try rfl
  rw [e, UInt8.toNat_add]
  show _ = (((y.toNat + 1) % 256 : Nat) : Int)
  omega
theorem u8_ne (y : UInt8) : y + 1 ≠ y := fun e => by
  have h := y.toNat_lt
  have q := congrArg UInt8.toNat e
  rw [UInt8.toNat_add] at q
  have q' : (y.toNat + 1) % 256 = y.toNat := q
  omega
/-- One byte of what was saved is written. -/
theorem LS.setB {w0 W : World} {B1 B2 t mp s g : Nat} {ss : List Sh} {u : Value} {qs : List Cx} {pc : Nat} {ps : List Pc} {bb : Option Addr} {bc : Nat} {bs : List Pc} (h : LS w0 W B1 B2 t mp s ss u qs (some ⟨g, 0, none⟩) pc ps bb bc bs) (k : Nat) (hk : k < ps.length) {vb vc : Nat} (hv : ps[k].v = .slice (some ⟨vb, 0, none⟩) ps[k].b.length vc) (hvo : ps[k].v.ownBlock = some vb) (i : Nat) (hi : i < ps[k].b.length) (y : UInt8) :
    PIn (W.setCell ⟨vb, i, none⟩ (.int .u8 (y.toNat : Int))) (W.setCell ⟨vb, i, none⟩ (.int .u8 (y.toNat : Int))).heap.size (some ⟨g, 0, none⟩) (ps.set k ⟨ps[k].g, .slice (some ⟨vb, 0, none⟩) ps[k].b.length vc, ps[k].b.set i y⟩) ∧ Gs (fun i => B1 ≤ i ∧ i < B2) W (W.setCell ⟨vb, i, none⟩ (.int .u8 (y.toNat : Int))) := by
  obtain ⟨g0, e0, l1, l2⟩ := h.row
  cases e0
  have hb := h.lo.byt _ (List.getElem_mem hk)
  have hlt := World.ownsRow.lt hb vb hvo
  have hb' := hb
  rw [hv] at hb'
  unfold Wr.OL at hb'
  obtain ⟨h1, g1⟩ := World.ownsRow.stored hb' i (.int .u8 (y.toNat : Int))
  have h2 : Wr.OL (W.setCell ⟨vb, i, none⟩ (.int .u8 (y.toNat : Int))) B1 (.slice (some ⟨vb, 0, none⟩) ps[k].b.length vc) (ps[k].b.set i y) := by
    unfold Wr.OL
    rw [List.length_set, List.map_set]
    exact h1
  have hrow := own_grown h.lo.own g1 fun j hj e => h.lo.out _ (List.getElem_mem hk) j (by rw [hvo]; exact e.symm) hj
  have hsame : (ps.set k ⟨ps[k].g, .slice (some ⟨vb, 0, none⟩) ps[k].b.length vc, ps[k].b.set i y⟩).flatMap cellsP = ps.flatMap cellsP := by
    rw [← flat_setP1 ps k hk]
    have hq : (ps.flatMap cellsP)[k * 2 + 1]? = some (.slice (some ⟨vb, 0, none⟩) ps[k].b.length vc) := by
      rw [flat_at cellsP 2 (fun _ => rfl) ps k 1 hk (by decide), ← hv]; rfl
    obtain ⟨hl, e⟩ := List.getElem?_eq_some_iff.1 hq
    rw [← e]
    exact List.set_getElem_self hl
  rw [← hsame] at hrow
  have hsep : ∀ i (hi : i < ps.length), i ≠ k → ∀ j, ps[i].v.ownBlock = some j → ps[k].v.ownBlock ≠ some j := fun i hi hik j hj e => by
    have hs := List.pairwise_iff_getElem.1 h.lo.sep
    rcases Nat.lt_or_gt_of_ne hik with hlt | hlt
    · exact hs i k hi hk hlt j hj e
    · exact hs k i hk hi hlt j e hj
  have hk2 : ∀ i' (hi' : i' < ps.length), i' ≠ k → Wr.OL (W.setCell ⟨vb, i, none⟩ (.int .u8 (y.toNat : Int))) B1 ps[i'].v ps[i'].b := fun i' hi' hik => own_grown (h.lo.byt _ (List.getElem_mem hi')) g1 fun j hj e => hsep i' hi' hik j hj (by rw [hvo]; exact e.symm)
  have hat := ol_at h2
  rw [show (Value.slice (some ⟨vb, 0, none⟩) ps[k].b.length vc) = .slice (some ⟨vb, 0, none⟩) ps[k].b.length vc from rfl] at hat
  exact ⟨pin_set hrow (fun i' hi' hik => ⟨B1, hk2 i' hi' hik⟩) hat, Gs.one g1 (fun j e => by cases e; exact ⟨hlt.1, h.mid vb (.inr ⟨_, List.getElem_mem hk, hvo⟩)⟩)⟩
end Go.Proofs.YtobhccmnlmlapaaGreatDoor
namespace Go.Proofs.YtobhccmnlmlapaaGreatDoor
open Go.RowKit Go.Maps
set_option linter.unusedVariables false
set_option linter.unusedSimpArgs false
set_option maxRecDepth 100000
/-- Both Puts, one behind the other: they tell the same, and both stores stay side by side. -/
theorem puts_any (w0 W : World) (t mp s : Nat) (lo hi : Int) (ss : List Sh) (u : Value) (qs : List Cx) (o : Ox) (h : SI w0 W t mp s lo hi ss u qs) (ho : OEnt W w0.heap.size o) (ht : ∀ V, Below w0.heap.size w0 V → Vl.Tab V ∧ Wr.Quart V ∧ Wr.Ety V) :
    Calls Tryz.prog 11 #[.pointer (some ⟨t, 0, none⟩), .slice o.ka o.key.length o.kc, .agg #[.int .i64 o.wn.f, .int .i64 o.wn.t], .slice o.da o.d.length o.dc] W fun e w5 => ∃ n : Nat, e = .returned (Wr.errV n) ∧ Below w0.heap.size w0 w5 ∧ W.heap.size ≤ w5.heap.size ∧ (∀ b j v, ¬ Bl t mp ss b → W.cell? ⟨b, j, none⟩ = some v → w5.cell? ⟨b, j, none⟩ = some v) ∧ ∀ V, Below w5.heap.size w5 V → Calls Tryz.prog 16 #[.pointer (some ⟨s, 0, none⟩), .slice o.ka o.key.length o.kc, .agg #[.int .i64 o.wn.f, .int .i64 o.wn.t], .slice o.da o.d.length o.dc] V fun e w7 => e = .returned (.int .i64 (n : Int)) ∧ ∃ ss' u' qs', SI w0 w7 t mp s lo hi ss' u' qs' := by
  have hkl := ho.kl
  have hdl := ho.dl
  have htl := (h.lt (.inl (.inl (.inl rfl)))).1
  have hml := (h.lt (.inl (.inl (.inr (.inl rfl))))).1
  have hDP : ∀ V, DS V w0.heap.size s lo hi u qs → Below w0.heap.size W V → Calls Tryz.prog 16 #[.pointer (some ⟨s, 0, none⟩), .slice o.ka o.key.length o.kc, .agg #[.int .i64 o.wn.f, .int .i64 o.wn.t], .slice o.da o.d.length o.dc] V (DPut V w0.heap.size s lo hi u qs ⟨o.key, o.wn, o.d⟩) := fun V hd hV => putD_any o.key o.ka o.kc o.wn o.da o.d o.dc V w0.heap.size s lo hi u qs hd h.dc h.apart h.asc (ho.kept hV).key ho.good (by omega) (by omega) (ho.kept hV).dat (Nat.le_trans h.bel.size hV.size)
  have hNW : newW ss o.key o.wn o.d.length = (wt (putC (ces ss) ⟨o.key, o.wn, o.d⟩) : Int) ∨ vk o.key = false := by
    cases hv : vk o.key with
    | false => exact .inr rfl
    | true => exact .inl (new_eq h.ps o.key o.wn o.d hv).1
  have hWQ : wt (putC (qs.map (·.c)) ⟨o.key, o.wn, o.d⟩) = wt (putC (ces ss) ⟨o.key, o.wn, o.d⟩) := wt_perm (putC_perm h.perm _)
  refine (put_any o.key o.ka o.kc o.wn o.da o.d o.dc W w0.heap.size t mp lo hi ss h.ps ho.key ho.good (by omega) ho.fits (ht _ h.bel).1 (by omega) ho.dat (fun y hy hp => by have := ho.kb y hy hp; omega) (fun y hy hp => by have := ho.db y hy hp; omega)).mono ?_
  rintro e w5 hans
  unfold PutAns at hans
  rcases hans with ⟨hr, rfl, b5⟩ | ⟨hr, hw, rfl, b5⟩ | ⟨hr, hw, rfl, hfin⟩
  · refine ⟨4, rfl, h.bel.trans (b5.mono h.bel.size), b5.size, fun b j v _ hc => cell_later b5 hc, fun V hV => ?_⟩
    have hbV := b5.trans (hV.mono b5.size)
    refine (hDP V (h.later hbV).ds (hbV.mono h.bel.size)).mono ?_
    rintro e w7 hd
    unfold DPut at hd
    rcases hd with ⟨-, rfl, b7⟩ | ⟨q, -⟩ | ⟨q, -⟩
    · exact ⟨rfl, ss, u, qs, h.later (hbV.trans (b7.mono hbV.size))⟩
    · rw [hr] at q; cases q
    · rw [hr] at q; cases q
  · have hvk : vk o.key = true := by unfold rngC ow at hr; simp at hr; exact hr.1.1
    have hwn : 67108864 < wt (putC (qs.map (·.c)) ⟨o.key, o.wn, o.d⟩) := by
      rcases hNW with q | q
      · have hw' : 67108864 < newW ss o.key o.wn o.d.length := hw
        rw [q] at hw'
        omega
      · rw [hvk] at q; cases q
    refine ⟨5, rfl, h.bel.trans (b5.mono h.bel.size), b5.size, fun b j v _ hc => cell_later b5 hc, fun V hV => ?_⟩
    have hbV := b5.trans (hV.mono b5.size)
    refine (hDP V (h.later hbV).ds (hbV.mono h.bel.size)).mono ?_
    rintro e w7 hd
    unfold DPut at hd
    rcases hd with ⟨q, -⟩ | ⟨-, -, rfl, b7⟩ | ⟨-, q, -⟩
    · rw [hr] at q; cases q
    · exact ⟨rfl, ss, u, qs, h.later (hbV.trans (b7.mono hbV.size))⟩
    · exact absurd hwn q
  · have hvk : vk o.key = true := by unfold rngC ow at hr; simp at hr; exact hr.1.1
    have hkp : kp o.wn = true := by unfold rngC at hr; simp at hr; exact hr.2
    have hwn : ¬ 67108864 < wt (putC (qs.map (·.c)) ⟨o.key, o.wn, o.d⟩) := by
      rcases hNW with q | q
      · have hw' : ¬ 67108864 < newW ss o.key o.wn o.d.length := hw
        rw [q] at hw'
        omega
      · rw [hvk] at q; cases q
    obtain ⟨ss', hp5, hce, g5, hbl⟩ := hfin
    have b5 : Below w0.heap.size W w5 := g5.toBelow h.bel.size (fun i hi => (h.lt (.inl (.inl hi))).1)
    have hd5 : DS w5 w0.heap.size s lo hi u qs := h.ds.kept g5 (fun i hi ht => h.sep i (.inl ht) hi)
    have l5 := g5.size
    have lB := h.bel.size
    refine ⟨0, rfl, h.bel.trans b5, l5, fun b j v hn hc => g5.cell hc (fun ht => hn (.inl ht)), fun V hV => ?_⟩
    have lV := hV.size
    have hbV : Below w0.heap.size W V := b5.trans (hV.mono (by omega))
    refine (hDP V (hd5.later hV) hbV).mono ?_
    rintro e w7 hd
    unfold DPut at hd
    have hDBL : ∀ i, DB s u qs i → i < W.heap.size ∧ w0.heap.size ≤ i := fun i hi => ⟨(h.lt (.inr hi)).2, (h.lt (.inr hi)).1⟩
    rcases hd with ⟨q, -⟩ | ⟨-, q, -⟩ | ⟨-, -, rfl, u', qs', d7, hpm, has, g7, b7⟩
    · rw [hr] at q; cases q
    · exact absurd q hwn
    · have hsS : ∀ i, (i = s ∨ u.ownBlock = some i) → DB s u qs i := fun i hi => by
        rcases hi with e | e
        · exact .inl e
        · exact .inr (.inl e)
      refine ⟨rfl, ss', u', qs', (hp5.later hV).kept g7 (fun i hi hs => ?_), d7, h.dc.put hpm ho.good hvk hkp (by omega), ?_, fun i hi hd => ?_, ?_⟩
      · have q1 := hsS i hs
        rcases hbl i hi with q | q
        · exact h.sep i q q1
        · have q2 := (hDBL i q1).1; omega
      · exact srt_of ((hpm.trans (putC_perm h.perm _)).trans hce.symm) hp5.apart has
      · rcases b7 i hd with q | q
        · rcases hbl i hi with q1 | q1
          · exact h.sep i q1 q
          · have q2 := (hDBL i q).1; omega
        · have q2 := (hp5.lt hi).2; omega
      · exact (h.bel.trans hbV).trans (g7.toBelow (Nat.le_trans lB (by omega)) (fun i hi => (hDBL i (hsS i hi)).2))
end Go.Proofs.YtobhccmnlmlapaaGreatDoor
