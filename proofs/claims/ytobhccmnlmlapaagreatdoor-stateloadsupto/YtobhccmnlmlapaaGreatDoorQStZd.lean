import Derived.Test.YtobhccmnlmlapaaGreatDoorQStZc
namespace Go.Proofs.YtobhccmnlmlapaaGreatDoor
open Go.RowKit Go.Maps
set_option linter.unusedVariables false
set_option linter.unusedSimpArgs false
set_option maxRecDepth 100000

/-- Cells that are taken in one by one. -/
structure Takes (lo hi : Int) (g : Nat) (F l : List Ce) : Prop where
  up : l.Pairwise fun x y => ltC x y = true
  ok : ∀ c ∈ l, okC lo hi c ∧ GoodK c.key ∧ grp c.key = g
  new : ∀ c ∈ l, ∀ y ∈ F, ¬ (y.key = c.key ∧ y.w = c.w)
  wl : wt F + wt l ≤ 67108864
theorem flatCe_len (l : List Ce) : l.length ≤ (l.flatMap encCe).length := by
  induction l with
  | nil => simp
  | cons c l ih =>
    rw [List.flatMap_cons, List.length_append, List.length_cons]
    have := Wr.encInt_pos (c.key.length : Int)
    have : 0 < (encCe c).length := by unfold encCe; simp only [List.length_append]; omega
    omega
theorem PQ.not_bl {w : World} {B t mp : Nat} {lo hi nc nw : Int} {ss : List Sh} (h : PQ w B t mp lo hi nc nw ss) {b T n : Nat} {xs : List Value} (ho : Own w b T n xs) (h1 : T ≠ 82) (h2 : T ≠ 48) (h3 : T ≠ 5) : ¬ Bl t mp ss b := fun hb => by
  rcases hb with hb | ⟨s, hs, hf | ⟨x, hx, hf⟩⟩
  · exact h.row_out ho h1 rfl hb
  · exact own_not_row ho (h.sho s hs).key h2 b hf rfl
  · exact own_not_row ho ((h.sho s hs).dat x hx).1 h3 b hf rfl
theorem Own.four {w : World} {g t : Nat} {x y z u : Value} (h : Own w g t 4 [x, y, z, u]) : w.cell? ⟨g, 0, none⟩ = some x ∧ w.cell? ⟨g, 1, none⟩ = some y ∧ w.cell? ⟨g, 2, none⟩ = some z ∧ w.cell? ⟨g, 3, none⟩ = some u := ⟨h.cell 0 (by decide), h.cell 1 (by decide), h.cell 2 (by decide), h.cell 3 (by decide)⟩
theorem wf64 {n : Int} (h1 : -9223372036854775808 ≤ n) (h2 : n ≤ 9223372036854775807) : (Lit.int .i64 n).wf = true := by
  simp [Lit.wf, IntKind.min, IntKind.max, IntKind.signed, IntKind.bits]
  omega
/-- How far a body was taken in. -/
structure TB (w wr : World) (B t mp : Nat) (lo hi : Int) (ss : List Sh) (l : List Ce) (rb lb k : Nat) (ss' : List Sh) (q : Cx) : Prop where
  ps : PS wr B t mp lo hi ss'
  prm : (ces ss').Perm (ces ss ++ l.take k)
  gs : Gs (Bl t mp ss) w wr
  blk : ∀ i, Bl t mp ss' i → Bl t mp ss i ∨ w.heap.size ≤ i
  rd : Wr.Rd wr rb ((l.drop k).flatMap encCe)
  last : Own wr lb 55 4 (cellsC q)
  key : 0 < k → (∃ h : k - 1 < l.length, q.c = l[k - 1]) ∧ OV wr w.heap.size (.slice q.ka q.c.key.length q.kc) q.c.key ∧ Wr.OL wr w.heap.size q.dv q.c.d
  ge : w.heap.size ≤ rb ∧ w.heap.size ≤ lb ∧ rb ≠ lb
/-- What is there when a body was taken in. -/
def TakeFin (w : World) (B t mp : Nat) (lo hi : Int) (ss : List Sh) (l : List Ce) (w' : World) : Prop := ∃ ss', PS w' B t mp lo hi ss' ∧ (ces ss').Perm (ces ss ++ l) ∧ Gs (Bl t mp ss) w w' ∧ ∀ i, Bl t mp ss' i → Bl t mp ss i ∨ w.heap.size ≤ i
theorem base_row {W : World} {B1 B2 e size n : Nat} {v : Value} {xs : List Value} (hB : B2 ≤ B1) (hd : W.ownsRow B1 e size v n xs) : W.ownsRow B2 e size v n xs := by
  refine ⟨hd.1, ?_⟩
  rcases hd.2 with q | ⟨g, cap, cur, q1, q2, q3⟩
  · exact .inl q
  · exact .inr ⟨g, cap, cur, q1, Nat.le_trans hB q2, q3⟩
theorem TB.next {w wr w2 w4 w5 : World} {B t mp : Nat} {lo hi : Int} {ss : List Sh} {l : List Ce} {lb k : Nat} {ss' ss2 : List Sh} {q : Cx} {qc : Ce} {qa va : Option Addr} {qk vc : Nat} (htb : TB w wr B t mp lo hi ss l w.heap.size lb k ss' q) (hck : ∃ h : k < l.length, l[k] = qc) (htk : l.take (k + 1) = l.take k ++ [qc]) (hs2 : wr.heap.size ≤ w2.heap.size) (hp2 : PS w2 B t mp lo hi ss') (hg2 : Gs (Bl t mp ss) w w2) (hr2 : Wr.Rd w2 w.heap.size ((l.drop (k + 1)).flatMap encCe)) (ho2 : OV w2 wr.heap.size (.slice qa qc.key.length qk) qc.key) (hd2 : Wr.OL w2 wr.heap.size (.slice va qc.d.length vc) qc.d) (hb4 : Below w2.heap.size w2 w4) (hs5 : PS w5 B t mp lo hi ss2 ∧ (ces ss2).Perm (putC (ces ss') qc) ∧ Gs (Tb t mp ss') w4 w5 ∧ ∀ i, Bl t mp ss2 i → Bl t mp ss' i ∨ w4.heap.size ≤ i) (hpc : putC (ces ss') qc = qc :: ces ss') (hla : Own w5 lb 55 4 (cellsC q)) :
    TB w ((((w5.setCell ⟨lb, 0, none⟩ (.slice qa qc.key.length qk)).setCell ⟨lb, 1, none⟩ (.int .i64 qc.w.f)).setCell ⟨lb, 2, none⟩ (.int .i64 qc.w.t)).setCell ⟨lb, 3, none⟩ (.slice va qc.d.length vc)) B t mp lo hi ss l w.heap.size lb (k + 1) ss2 ⟨qc, qa, qk, .slice va qc.d.length vc⟩ := by
  obtain ⟨p5, prm5, g5, blk5⟩ := hs5
  have hp4 := hp2.later hb4
  have e1 := hla.put 0 (.slice qa qc.key.length qk)
  have e2 := e1.1.put 1 (.int .i64 qc.w.f)
  have e3 := e2.1.put 2 (.int .i64 qc.w.t)
  have e4 := e3.1.put 3 (.slice va qc.d.length vc)
  have gl := grown_trans (grown_trans (grown_trans e1.2 e2.2) e3.2) e4.2
  have hw2 := hg2.size
  have hwr := htb.gs.size
  have h4 := hb4.size
  have h5 := g5.size
  have G6 : Gs (fun i => i = lb) w5 _ := Gs.one gl (fun k e => (Option.some.inj e).symm)
  have hlb := p5.not_bl hla (by decide) (by decide) (by decide)
  have ho4 : OV w4 wr.heap.size (.slice qa qc.key.length qk) qc.key := own_later ho2 hb4
  have hd4 : Wr.OL w4 wr.heap.size (.slice va qc.d.length vc) qc.d := own_later hd2 hb4
  have ho5 : OV w5 wr.heap.size (.slice qa qc.key.length qk) qc.key := g5.own ho4 (fun b hb => hp4.row_out ho4 (by decide) hb)
  have hd5 : Wr.OL w5 wr.heap.size (.slice va qc.d.length vc) qc.d := g5.own hd4 (fun b hb => hp4.row_out hd4 (by decide) hb)
  refine ⟨p5.kept G6 (fun i hi e => hlb (by have e' : i = lb := e; rw [← e']; exact hi)), ?_, ?_, fun i hi => ?_, ?_, e4.1, fun _ => ⟨?_, ?_, ?_⟩, htb.ge⟩
  · rw [htk, ← List.append_assoc]
    refine prm5.trans ?_
    rw [hpc]
    exact (List.perm_append_singleton qc (ces ss')).symm.trans (htb.prm.append_right _)
  · refine ((hg2.trans (Gs.below (hb4.mono hw2 |> fun x => ⟨hb4.os, hb4.tape, hb4.output, hb4.size, fun i hi => hb4.block i hi⟩))).new g5 (fun i hi hlt => ?_)).new G6 (fun i e hlt => ?_)
    · rcases htb.blk i (.inl hi) with h1 | h1
      · exact h1
      · omega
    · have e' : i = lb := e
      have := htb.ge.2.1
      omega
  · rcases blk5 i hi with h1 | h1
    · exact htb.blk i h1
    · exact .inr (by omega)
  · refine (hp4.rd_kept (hr2.later hb4) g5).grown gl (fun k e => ?_)
    have e' : lb = k := Option.some.inj e
    have h1 := htb.ge.2.1
    have h2 := htb.ge.2.2
    omega
  · obtain ⟨h, e⟩ := hck
    exact ⟨by simpa using h, by simpa using e.symm⟩
  · have r : OV _ wr.heap.size (.slice qa qc.key.length qk) qc.key := own_grown ho5 gl (fun b hb e => own_not_row hla ho5 (by decide) b hb (Option.some.inj e))
    exact r.base hwr
  · exact base_row hwr (own_grown hd5 gl (fun b hb e => own_not_row hla hd5 (by decide) b hb (Option.some.inj e)))
set_option maxHeartbeats 2000000 in
theorem take_ok (w : World) (B t mp : Nat) (lo hi : Int) (ss : List Sh) (g : Nat) (l : List Ce) (a : Option Addr) (c : Nat) (ba : Option Addr) (bc : Nat) (h : PS w B t mp lo hi ss) (hl : Takes lo hi g (ces ss) l) (ht : ∀ W, Below B w W → Vl.Tab W) (hb : Wr.Bytes w a (encBody l).length (Wr.lat (encBody l))) (hc : (encBody l).length ≤ c) (hc2 : c ≤ 9223372036854775807) (hL : (encBody l).length ≤ 134217728) (ha : ∃ b off, a = some ⟨b, off, none⟩) :
    Calls Tryz.prog 40 #[.pointer (some ⟨t, 0, none⟩), .int .i64 (g : Int), .slice a (encBody l).length c, .slice ba 0 bc] w fun e w' => e = .returned (.bool true) ∧ TakeFin w B t mp lo hi ss l w' := by
  have HP := hidMk h
  have HL := hidMk hl
  have HT := hidMk ht
  have HBy := hidMk hb
  have HA := hidMk ha
  have hB0 := bel1 w (.cells #[.slice a (encBody l).length c] 136)
  have hR0 : Wr.Rd (w.alloc (.cells #[.slice a (encBody l).length c] 136)) w.heap.size (encBody l) :=
    ⟨a, c, Own.new w 136 1 #[.slice a (encBody l).length c] rfl, ⟨hb.later hB0, hc, hc2, fun x hx => by
      obtain ⟨b, off, e⟩ := ha
      rw [hx] at e
      cases e
      have hp : 0 < (encBody l).length := by unfold encBody; rw [List.length_append]; have := Wr.encInt_pos (l.length : Int); omega
      obtain ⟨b', o', e', hcell⟩ := hb 0 hp
      rw [hx] at e'
      cases e'
      exact World.block_lt_of_cell? _ _ hcell, ha, by omega⟩⟩
  have hlen : l.length ≤ 134217728 := by
    have := flatCe_len l
    unfold encBody at hL
    rw [List.length_append] at hL
    omega
  have HLen : Hid (∀ k, ((l.drop k).flatMap encCe).length ≤ 549755813888) := fun k => by
    have h1 : ((l.drop k).flatMap encCe).length ≤ (l.flatMap encCe).length := by
      conv => rhs; rw [← List.take_append_drop k l, List.flatMap_append, List.length_append]
      omega
    unfold encBody at hL
    rw [List.length_append] at hL
    omega
  have HCt := hidMk (cnt_ok w.heap.size (l.flatMap encCe) l.length _ hR0 ⟨by omega, by omega⟩ (flatCe_len l))
  have HB0 := hidMk hB0
  have hBw : B ≤ w.heap.size := by have h1 := h.ge.1; have h2 := h.own.lt; omega
  have HTabG : Hid (∀ W, Gs (Bl t mp ss) w W → Vl.Tab W) := fun W hg => ht W (hg.toBelow hBw (fun i hi => (h.lt hi).1))
  clear h hl ht hb ha hB0 hR0
  generalize hEL : (encBody l).length = EL at *
  go_enter Tryz.func40, Tryz.ntmps40
  go_wp2_with fail
  refine HCt.out.mono ?_
  rintro e w1 ⟨rfl, g1, r1⟩
  have HS1 : Hid (TB w (w1.alloc (.cells #[.slice none 0 0, .int .i64 0, .int .i64 0, .slice none 0 0] 55)) B t mp lo hi ss l w.heap.size w1.heap.size 0 ss ⟨⟨[], ⟨0, 0⟩, []⟩, none, 0, .slice none 0 0⟩) := by
    have b1 : Below w.heap.size w w1 := HB0.out.grown g1 HB0.out.size (fun j e => by cases e; exact Nat.le_refl _)
    have b2 := b1.alloc b1.size (.cells #[.slice none 0 0, .int .i64 0, .int .i64 0, .slice none 0 0] 55)
    have hsz := g1.size
    rw [World.size_alloc] at hsz
    refine ⟨HP.out.later b2, by simp, Gs.below b2, fun i hi => .inl hi, ?_, ?_, fun h0 => by omega, Nat.le_refl _, by omega, by omega⟩
    · simp only [List.drop_zero]
      exact r1.later (bel1 _ _)
    · exact Own.new w1 55 4 #[.slice none 0 0, .int .i64 0, .int .i64 0, .slice none 0 0] rfl
  clear g1 r1
  go_wp2_with fail
  go_loopw [32] (fun i wr => ∃ (k : Nat) (ss' : List Sh) (q : Cx), i = .int .i64 (k : Int) ∧ k ≤ l.length ∧ TB w wr B t mp lo hi ss l w.heap.size w1.heap.size k ss' q) (fun i _ => l.length - (intOf i).toNat)
  case atStart => exact ⟨0, ss, _, rfl, Nat.zero_le _, HS1.out⟩
  case round =>
    obtain ⟨k, ss', q, rfl, hk, htb⟩ := hrel
    have HTB := hidMk htb
    clear htb HS1
    by_cases hlt : k < l.length
    · have hki : (k : Int) < (l.length : Int) := by omega
      have hdrop : (l.drop k).flatMap encCe = encCe l[k] ++ (l.drop (k + 1)).flatMap encCe := by rw [List.drop_eq_getElem_cons hlt, List.flatMap_cons]
      obtain ⟨ok1, ok2, ok3⟩ := HL.out.ok l[k] (List.getElem_mem hlt)
      have hwk : wg l[k] ≤ 67108864 := by
        have h1 : wt l = wt (l.take k) + wg l[k] + wt (l.drop (k + 1)) := by
          conv => lhs; rw [← List.take_append_drop k l, List.drop_eq_getElem_cons hlt]
          rw [wt_append, wt_cons]; omega
        have := HL.out.wl
        omega
      have hfm : Form l[k] := form_of ok1.1 ok2 ok1.2.1 (by unfold wg wgh at hwk; omega)
      have hR := HTB.out.rd
      rw [hdrop] at hR
      have HRC := hidMk (readCell_ok w.heap.size _ l[k] wr hR hfm (by rw [← hdrop]; exact HLen.out k))
      have HNewF : Hid (∀ y ∈ ces ss, ¬ (y.key = l[k].key ∧ y.w = l[k].w)) := fun y hy => HL.out.new _ (List.getElem_mem hlt) y hy
      have HLtK : Hid (∀ y ∈ l.take k, ltC y l[k] = true) := fun y hy => by
        have hp := HL.out.up
        rw [← List.take_append_drop k l, List.pairwise_append] at hp
        refine hp.2.2 y hy l[k] ?_
        rw [List.drop_eq_getElem_cons hlt]; exact List.mem_cons_self
      have HNewT : Hid (∀ y ∈ l.take k, ¬ (y.key = l[k].key ∧ y.w = l[k].w)) := fun y hy e => by
        have h1 := HLtK.out y hy
        rw [ltC_congr (a := y) (a' := l[k]) (b := l[k]) (b' := l[k]) e.1 e.2 rfl rfl, ltC_irrefl] at h1
        cases h1
      have HWk : Hid (wt (ces ss) + wt (l.take k) + wg l[k] ≤ 67108864) := by
        have h1 : wt l = wt (l.take k) + wg l[k] + wt (l.drop (k + 1)) := by
          conv => lhs; rw [← List.take_append_drop k l, List.drop_eq_getElem_cons hlt]
          rw [wt_append, wt_cons]; omega
        have := HL.out.wl
        unfold Hid
        omega
      have HTk : Hid (l.take (k + 1) = l.take k ++ [l[k]]) := List.take_succ_eq_append_getElem hlt
      generalize hck : l[k] = ck at *
      have HCK := hidMk hck
      clear hck
      clear hR hdrop
      go_wp2_with fail
      refine HRC.out.mono ?_
      rintro e w2 ⟨qn, hqn, rfl, g2, r2, o2, d2⟩
      obtain ⟨qc, qa, qk, qv⟩ := qn
      simp only at hqn o2 d2
      subst hqn
      obtain ⟨va, vc, hqv⟩ := row_form d2
      subst hqv
      have hrown : Own wr w.heap.size 136 1 _ := HTB.out.rd.choose_spec.choose_spec.1
      have hrb := HTB.out.ps.not_bl hrown (by decide) (by decide) (by decide)
      have G2 : Gs (fun i => i = w.heap.size) wr w2 := Gs.one g2 (fun k e => (Option.some.inj e).symm)
      have hsz2 := g2.size
      have hszr := HTB.out.gs.size
      have HP2 := hidMk (HTB.out.ps.kept G2 (fun i hi e => hrb (by have e' : i = w.heap.size := e; rw [← e']; exact hi)))
      have HL2 := hidMk (HTB.out.last.grown g2 (by simp; exact fun e => HTB.out.ge.2.2 e.symm))
      have HR2 := hidMk r2
      have HO2 := hidMk o2
      have HD2 := hidMk d2
      have HG2 : Hid (Gs (Bl t mp ss) w w2) := HTB.out.gs.new G2 (fun i e hi => by have e' : i = w.heap.size := e; omega)
      have hob := Own.new w2 55 4 #[.slice qa qc.key.length qk, .int .i64 qc.w.f, .int .i64 qc.w.t, .slice va qc.d.length vc] rfl
      have HOB := hidMk hob
      have HVL : Hid (VLies w2 qa qc.key) := by
        obtain ⟨a', c', e', l', -⟩ := o2.form
        cases e'
        exact l'
      have HTab : Hid (Vl.Tab w2) := HTabG.out _ HG2.out
      have HGW := hidMk G2
      have HRO := hidMk hrown
      have HQ8 : Hid (0 < k → q.c.key.length ≤ 8) := fun h0 => by
        obtain ⟨⟨h1, h2⟩, -⟩ := HTB.out.key h0
        rw [h2]
        exact vk_len (HL.out.ok _ (List.getElem_mem h1)).1.1
      have HDB : Hid (Wr.Bytes w2 va qc.d.length (Wr.lat qc.d)) := (Wr.OL.bytes d2).2
      have HKO : Hid (∀ W, Below w2.heap.size w2 W → (∀ y, qa = some y → y.block ≠ t ∧ y.block ≠ mp) ∧ ∀ y, va = some y → y.block ≠ t ∧ y.block ≠ mp) := fun W _ => by
        refine ⟨fun y hy => ?_, fun y hy => ?_⟩
        · have hb : (Value.slice qa qc.key.length qk).ownBlock = some y.block := by rw [hy]; rfl
          have := HP2.out.row_out o2 (by decide) hb
          exact ⟨fun e => this (.inl e), fun e => this (.inr (.inl e))⟩
        · have hb : (Value.slice va qc.d.length vc).ownBlock = some y.block := by rw [hy]; rfl
          have := HP2.out.row_out d2 (by decide) hb
          exact ⟨fun e => this (.inl e), fun e => this (.inr (.inl e))⟩
      have HRng : Hid (rngC lo hi qc.key qc.w = true) := by
        unfold Hid rngC ow
        simp [ok1.1, ok1.2.1, ok1.2.2.1, ok1.2.2.2]
      have HFits : Hid (Fits qc.w) := by
        obtain ⟨k1, k2, k3⟩ := (kp_iff qc.w).1 ok1.2.1
        exact ⟨wf64 (by omega) (by omega), wf64 (by omega) (by omega)⟩
      have HNew : Hid (∀ y ∈ ces ss', ¬ (y.key = qc.key ∧ y.w = qc.w)) := fun y hy e => by
        rcases List.mem_append.1 (HTB.out.prm.mem_iff.1 hy) with hy | hy
        · exact HNewF.out y hy e
        · exact HNewT.out y hy e
      have HPutC : Hid (putC (ces ss') qc = qc :: ces ss') := putC_none HNew.out
      have HNW : Hid (¬ 67108864 < newW ss' qc.key qc.w qc.d.length) := by
        rw [Hid, (new_eq HTB.out.ps qc.key qc.w qc.d ok1.1).1, show (⟨qc.key, qc.w, qc.d⟩ : Ce) = qc from rfl, HPutC.out, wt_cons, wt_perm HTB.out.prm, wt_append]
        have := HWk.out
        omega
      unfold vC
      simp only
      clear g2 r2 o2 d2 hob hrown
      by_cases hk0 : k = 0
      · subst hk0
        have HB3 := hidMk (bel1 w2 (.cells #[.slice qa qc.key.length qk, .int .i64 qc.w.f, .int .i64 qc.w.t, .slice va qc.d.length vc] 55))
        have HOB3 := HOB
        go_wp2_with fail
        refine (groupP_any qc.key qa qk _ (HVL.out.later HB3.out) ok2 (by have := vk_len ok1.1; omega) (HTab.out.later HB3.out)).mono ?_
        rintro e w4 ⟨rfl, hb4⟩
        have HB4 := hidMk (HB3.out.trans (hb4.mono HB3.out.size))
        have HOB4 := hidMk (HOB3.out.later hb4)
        have HP4 := hidMk (HP2.out.later HB4.out)
        have HLast4 := hidMk (HL2.out.later HB4.out)
        clear hb4
        rw [ok3]
        obtain ⟨o0, o1, o2, o3⟩ := HOB4.out.four
        go_wp2_with fail
        have hput := put_fit qc.key qa qk qc.w va qc.d qc.d.length vc w4 B t mp lo hi ss' HP4.out (HVL.out.later HB4.out) ok2 (by have := vk_len ok1.1; omega) (HFits.out) (HTab.out.later HB4.out) (by unfold wg wgh at hwk; omega) HRng.out (HDB.out.later HB4.out) rfl (fun y hy _ => (HKO.out w4 HB4.out).1 y hy) (fun y hy _ => (HKO.out w4 HB4.out).2 y hy)
        unfold vv at hput
        refine hput.mono ?_
        rintro e w5 (⟨hbig, -⟩ | ⟨-, rfl, ss2, hps, hprm, hgs, hblk⟩)
        · exact absurd hbig (by have := HNW.out; omega)
        · have HS5 : Hid (PS w5 B t mp lo hi ss2 ∧ (ces ss2).Perm (putC (ces ss') qc) ∧ Gs (Tb t mp ss') w4 w5 ∧ ∀ i, Bl t mp ss2 i → Bl t mp ss' i ∨ w4.heap.size ≤ i) := ⟨hps, hprm, hgs, hblk⟩
          have HOB5 : Hid (Own w5 w2.heap.size 55 4 [.slice qa qc.key.length qk, .int .i64 qc.w.f, .int .i64 qc.w.t, .slice va qc.d.length vc]) := hgs.own HOB4.out (fun b hb => HP4.out.row_out HOB4.out (by decide) hb)
          have HLast5 : Hid (Own w5 w1.heap.size 55 4 (cellsC q)) := hgs.own HLast4.out (fun b hb => HP4.out.row_out HLast4.out (by decide) hb)
          clear hput hps hprm hgs hblk o0 o1 o2 o3
          obtain ⟨o0, o1, o2, o3⟩ := HOB5.out.four
          have hq4 := HLast5.out
          unfold cellsC at hq4
          obtain ⟨l0, l1, l2, l3⟩ := hq4.four
          have f0 := hq4.soft 0
          have f1 := hq4.soft 1
          have f2 := hq4.soft 2
          have f3 := hq4.soft 3
          clear hq4
          have HNX := hidMk (HTB.out.next (w5 := w5) (ss2 := ss2) ⟨hlt, HCK.out⟩ (by rw [HTk.out]) hsz2 HP2.out HG2.out HR2.out HO2.out HD2.out HB4.out HS5.out HPutC.out HLast5.out)
          go_wp2_with fail
          refine ⟨⟨_, ss2, _, ?_, ?_, HNX.out⟩, ?_⟩
          · first | rfl | go_num
          · omega
          · simp [intOf]; omega
      · have hk1 : (0 : Int) < (k : Int) := by omega
        obtain ⟨⟨hkl, hqk⟩, hqo, hqd⟩ := HTB.out.key (by omega)
        have hl3 := HL2.out.later (bel1 w2 (.cells #[.slice qa qc.key.length qk, .int .i64 qc.w.f, .int .i64 qc.w.t, .slice va qc.d.length vc] 55))
        obtain ⟨qda, qdc, hqv⟩ := row_form hqd
        have hlt0 : ltC q.c qc = true := HLtK.out q.c (by rw [hqk]; exact List.mem_take_iff_getElem.2 ⟨k - 1, by omega, rfl⟩)
        have hcn : cmpC q.c qc < 0 := by have := cmpC_lt q.c qc; rw [hlt0] at this; exact of_decide_eq_true this
        have hvq : VLies w2 q.ka q.c.key := by
          obtain ⟨a', c', e', l', -⟩ := hqo.form
          injection e' with e1 e2 e3
          subst e1
          exact l'.gs HGW.out (fun y hy _ e => by
            have hb : (Value.slice q.ka q.c.key.length q.kc).ownBlock = some y.block := by rw [hy]; rfl
            have e' : y.block = w.heap.size := e
            exact own_not_row HRO.out hqo (by decide) _ hb e')
        have HCMP := hidMk (compareC_any q ⟨qc, qa, qk, .slice va qc.d.length vc⟩ (w2.alloc (.cells #[.slice qa qc.key.length qk, .int .i64 qc.w.f, .int .i64 qc.w.t, .slice va qc.d.length vc] 55)) (hvq.later (bel1 _ _)) (HVL.out.later (bel1 _ _)) (by have := HQ8.out (by omega); omega) (by have := vk_len ok1.1; show qc.key.length ≤ _; omega) ⟨_, _, _, hqv⟩ ⟨_, _, _, rfl⟩)
        unfold vC at HCMP
        simp only [hqv] at HCMP
        unfold cellsC at hl3
        rw [hqv] at hl3
        obtain ⟨m0, m1, m2, m3⟩ := hl3.four
        have hnl : w1.heap.size ≠ w2.heap.size := by have := HL2.out.lt; omega
        clear hl3 hqv hvq hqo hqd hqk
        go_wp2_with fail
        refine HCMP.out.mono ?_
        rintro e w3 ⟨rfl, hb3, -⟩
        have HB3 : Hid (Below w2.heap.size w2 w3) := (bel1 w2 _).trans (hb3.mono (by simp))
        have HOB3 := hidMk (HOB.out.later hb3)
        have o30 := HOB3.out.four.1
        clear hb3 HCMP m0 m1 m2 m3
        generalize cmpC q.c qc = cmpv at *
        go_wp2_with fail
        refine (groupP_any qc.key qa qk _ (HVL.out.later HB3.out) ok2 (by have := vk_len ok1.1; omega) (HTab.out.later HB3.out)).mono ?_
        rintro e w4 ⟨rfl, hb4⟩
        have HB4 := hidMk (HB3.out.trans (hb4.mono HB3.out.size))
        have HOB4 := hidMk (HOB3.out.later hb4)
        have HP4 := hidMk (HP2.out.later HB4.out)
        have HLast4 := hidMk (HL2.out.later HB4.out)
        clear hb4
        rw [ok3]
        obtain ⟨o0, o1, o2, o3⟩ := HOB4.out.four
        go_wp2_with fail
        have hput := put_fit qc.key qa qk qc.w va qc.d qc.d.length vc w4 B t mp lo hi ss' HP4.out (HVL.out.later HB4.out) ok2 (by have := vk_len ok1.1; omega) (HFits.out) (HTab.out.later HB4.out) (by unfold wg wgh at hwk; omega) HRng.out (HDB.out.later HB4.out) rfl (fun y hy _ => (HKO.out w4 HB4.out).1 y hy) (fun y hy _ => (HKO.out w4 HB4.out).2 y hy)
        unfold vv at hput
        refine hput.mono ?_
        rintro e w5 (⟨hbig, -⟩ | ⟨-, rfl, ss2, hps, hprm, hgs, hblk⟩)
        · exact absurd hbig (by have := HNW.out; omega)
        · have HS5 : Hid (PS w5 B t mp lo hi ss2 ∧ (ces ss2).Perm (putC (ces ss') qc) ∧ Gs (Tb t mp ss') w4 w5 ∧ ∀ i, Bl t mp ss2 i → Bl t mp ss' i ∨ w4.heap.size ≤ i) := ⟨hps, hprm, hgs, hblk⟩
          have HOB5 : Hid (Own w5 w2.heap.size 55 4 [.slice qa qc.key.length qk, .int .i64 qc.w.f, .int .i64 qc.w.t, .slice va qc.d.length vc]) := hgs.own HOB4.out (fun b hb => HP4.out.row_out HOB4.out (by decide) hb)
          have HLast5 : Hid (Own w5 w1.heap.size 55 4 (cellsC q)) := hgs.own HLast4.out (fun b hb => HP4.out.row_out HLast4.out (by decide) hb)
          clear hput hps hprm hgs hblk o0 o1 o2 o3
          obtain ⟨o0, o1, o2, o3⟩ := HOB5.out.four
          have hq4 := HLast5.out
          unfold cellsC at hq4
          obtain ⟨l0, l1, l2, l3⟩ := hq4.four
          have f0 := hq4.soft 0
          have f1 := hq4.soft 1
          have f2 := hq4.soft 2
          have f3 := hq4.soft 3
          clear hq4
          have HNX := hidMk (HTB.out.next (w5 := w5) (ss2 := ss2) ⟨hlt, HCK.out⟩ (by rw [HTk.out]) hsz2 HP2.out HG2.out HR2.out HO2.out HD2.out HB4.out HS5.out HPutC.out HLast5.out)
          go_wp2_with fail
          refine ⟨⟨_, ss2, _, ?_, ?_, HNX.out⟩, ?_⟩
          · first | rfl | go_num
          · omega
          · simp [intOf]; omega
    · obtain rfl : k = l.length := by omega
      have hR := HTB.out.rd
      rw [List.drop_length, List.flatMap_nil] at hR
      have HEn := hidMk (Wr.ended_any w.heap.size [] wr hR)
      have HFin : Hid (TakeFin w B t mp lo hi ss l wr) := ⟨ss', HTB.out.ps, by have := HTB.out.prm; rw [List.take_of_length_le (Nat.le_refl _)] at this; exact this, HTB.out.gs, HTB.out.blk⟩
      clear hR
      go_wp2_with fail
      refine HEn.out.mono ?_
      rintro e w5 ⟨rfl, hw5⟩
      rw [hw5]
      clear hw5
      go_wp2_with fail
      go_ret
      exact ⟨rfl, HFin.out⟩
end Go.Proofs.YtobhccmnlmlapaaGreatDoor
