import Derived.Test.YtplaplhmjpfbjaaGreatDoorDrJ
import Derived.Maps.AppendAt
import Derived.Laws.AppendOwn
namespace Go.Proofs.YtplaplhmjpfbjaaGreatDoor.Dc
open Go.RowKit
set_option linter.unusedVariables false
set_option linter.unusedSimpArgs false
set_option maxRecDepth 100000

/-- Pointers in a row of one's own. -/
def OKr (w : World) (B : Nat) (v : Value) (us : List Value) : Prop := w.ownsRow B 48 1 v us.length us
theorem infoPE : (Tryz.prog.info? 48).map (fun i => (i.zero, i.size, i.bytes)) = some (some (.pointer none), 1, 8) := by kernel_rfl
/-- An expression that lies beside a row. -/
def EtX (w : World) (B : Nat) (rb : Option Nat) (x : X) (v : Value) : Prop := ∃ lo hi, B ≤ lo ∧ hi ≤ w.heap.size ∧ (∀ k, rb = some k → k < lo ∨ hi ≤ k) ∧ Et w lo hi x v
def EtsX (w : World) (B : Nat) (rb : Option Nat) : List X → List Value → Prop
  | [], us => us = []
  | x :: l, us => ∃ u us', us = u :: us' ∧ EtX w B rb x u ∧ EtsX w B rb l us'
theorem EtX.grown {w w' : World} {B : Nat} {rb r : Option Nat} {x : X} {v : Value} (h : EtX w B rb x v) (hg : w.grownBy w' r) (hr : ∀ k, r = some k → k < B ∨ rb = some k) : EtX w' B rb x v := by
  obtain ⟨lo, hi, h1, h2, h3, h4⟩ := h
  refine ⟨lo, hi, h1, Nat.le_trans h2 hg.size, h3, h4.grown hg (fun k hk => ?_) (Nat.le_refl _) (Nat.le_refl _)⟩
  rcases hr k hk with h | h
  · exact .inl (by omega)
  · exact h3 k h
theorem EtX.turn {w : World} {B k : Nat} {rb : Option Nat} {x : X} {v : Value} (h : EtX w B rb x v) (hk : w.heap.size ≤ k) : EtX w B (some k) x v := by
  obtain ⟨lo, hi, h1, h2, h3, h4⟩ := h
  exact ⟨lo, hi, h1, h2, fun k' e => by cases e; exact .inr (by omega), h4⟩
theorem EtX.move {w w' : World} {B k : Nat} {rb r : Option Nat} {x : Go.Proofs.YtplaplhmjpfbjaaGreatDoor.X} {v : Value} (h : EtX w B rb x v) (hg : w.grownBy w' r) (hr : ∀ k, r = some k → k < B ∨ rb = some k) (hk : w.heap.size ≤ k) : EtX w' B (some k) x v := by
  obtain ⟨lo, hi, h1, h2, h3, h4⟩ := h
  refine ⟨lo, hi, h1, Nat.le_trans h2 hg.size, fun k' e => by cases e; exact .inr (by omega), h4.grown hg (fun k hk => ?_) (Nat.le_refl _) (Nat.le_refl _)⟩
  rcases hr k hk with h | h
  · exact .inl (by omega)
  · exact h3 k h
theorem EtsX.grown {w w' : World} {B : Nat} {rb r : Option Nat} (hg : w.grownBy w' r) (hr : ∀ k, r = some k → k < B ∨ rb = some k) : ∀ {l : List X} {us : List Value}, EtsX w B rb l us → EtsX w' B rb l us
  | [], _, h => h
  | x :: l, us, h => by
    obtain ⟨u, us', e, h1, h2⟩ := h
    exact ⟨u, us', e, h1.grown hg hr, EtsX.grown hg hr h2⟩
theorem EtsX.move {w w' : World} {B k : Nat} {rb r : Option Nat} (hg : w.grownBy w' r) (hr : ∀ k, r = some k → k < B ∨ rb = some k) (hk : w.heap.size ≤ k) : ∀ {l : List Go.Proofs.YtplaplhmjpfbjaaGreatDoor.X} {us : List Value}, EtsX w B rb l us → EtsX w' B (some k) l us
  | [], _, h => h
  | x :: l, us, h => by
    obtain ⟨u, us', e, h1, h2⟩ := h
    exact ⟨u, us', e, h1.move hg hr hk, EtsX.move hg hr hk h2⟩
theorem EtsX.turn {w : World} {B k : Nat} {rb : Option Nat} (hk : w.heap.size ≤ k) : ∀ {l : List X} {us : List Value}, EtsX w B rb l us → EtsX w B (some k) l us
  | [], _, h => h
  | x :: l, us, h => by
    obtain ⟨u, us', e, h1, h2⟩ := h
    exact ⟨u, us', e, h1.turn hk, EtsX.turn hk h2⟩
theorem EtsX.snoc {w : World} {B : Nat} {rb : Option Nat} {x : X} {v : Value} (hx : EtX w B rb x v) : ∀ {l : List X} {us : List Value}, EtsX w B rb l us → EtsX w B rb (l ++ [x]) (us ++ [v])
  | [], us, h => by
    have h' : us = [] := h
    subst h'
    exact ⟨v, [], rfl, hx, rfl⟩
  | y :: l, us, h => by
    obtain ⟨u, us', e, h1, h2⟩ := h
    subst e
    exact ⟨u, us' ++ [v], rfl, h1, EtsX.snoc hx h2⟩
theorem EtsX.plain {w : World} {B lo hi : Nat} {rb : Option Nat} (h0 : lo ≤ B) (h1 : w.heap.size ≤ hi) : ∀ {l : List X} {us : List Value}, EtsX w B rb l us → Ets w lo hi l us
  | [], us, h => by rw [Ets]; exact h
  | x :: l, us, h => by
    obtain ⟨u, us', e, ⟨lo', hi', a1, a2, a3, a4⟩, h2⟩ := h
    rw [Ets]
    exact ⟨u, us', e, Et.keep (fun b i u _ _ h => h) (by omega) (by omega) x u a4, EtsX.plain h0 h1 h2⟩
theorem OKr.kat {w : World} {B lo hi : Nat} {v : Value} {us : List Value} (h : OKr w B v us) (h0 : lo ≤ B) (h1 : w.heap.size ≤ hi) : KAt w lo hi v us := by
  rcases h.2 with ⟨e, hn⟩ | ⟨gb, cap, cur, e, hb, hg, hc, hm, hcs, htk⟩
  · refine ⟨none, 0, by rw [e, hn], fun i hi => by omega⟩
  · refine ⟨some ⟨gb, 0, none⟩, cap, e, fun i hi => ⟨gb, rfl, by omega, ?_, ?_⟩⟩
    · have := (World.ownsRow.lt h gb (by rw [e]; rfl)).2; omega
    · subst e
      have := World.ownsRow.cellAt h i (by omega)
      rw [this, List.getElem?_eq_getElem hi]
/-- What is kept while arguments are read. -/
def CallInv (L : ByteArray → Int → Int → ByteArray → Prop) (w0 : World) (g E : Nat) (tks : List Tk) (p lev xb PL : Nat) (X : ByteArray) (q : Nat) (er bad : Int) (w' : World) : Prop := ∃ (l : List Go.Proofs.YtplaplhmjpfbjaaGreatDoor.X) (us : List Value) (ks : Value), RS w' g E tks q (lev + 1 : Nat) er bad ∧ Own w' xb 112 7 [.string bCall, .int .i64 PL, ks, .int .i64 0, .int .i64 0, .string ⟨#[]⟩, .string X] ∧ OKr w' (xb + 1) ks us ∧ w0.grownBy w' (some g) ∧
  ((er = 0 ∧ bad = 0 ∧ lev ≠ 12 ∧ EtsX w' (xb + 1) ks.ownBlock l us ∧ us.length = l.length ∧ us.length ≤ q ∧ p + 2 ≤ q ∧ ∀ o, Ps L E (if l = [] then .Z PL X else .A PL X l) (lev + 1) (tks.drop q) o → Ps L E (.D 7) lev (tks.drop p) o) ∨ (∃ f : Flt, f.why ≠ 0 ∧ er = f.why ∧ bad = f.pl ∧ Ps L E (.D 7) lev (tks.drop p) (.error f)))
theorem OKr.form {w : World} {B : Nat} {v : Value} {us : List Value} (h : OKr w B v us) : ∃ a c, v = .slice a us.length c := by
  rcases h.2 with ⟨e, hn⟩ | ⟨gb, cap, cur, e, hb, hg, hc, hm, hcs, htk⟩
  · exact ⟨none, 0, by rw [e, hn]⟩
  · exact ⟨_, _, e⟩
theorem call_fin {L : ByteArray → Int → Int → ByteArray → Prop} {w w' W : World} {g E p lev xb PL q : Nat} {tks : List Tk} {X : ByteArray} {er bad : Int} (hi : CallInv L w g E tks p lev xb PL X q er bad w') (hx : er = 0 → (hd E (tks.drop q)).tx = bShut) (hnm : (hd E (tks.drop p)).tx ≠ bMinus) (hgx : g < xb) (hwx : w.heap.size ≤ xb) (hGW : w'.grownBy W (some g))
    (hR : if er = 0 ∧ sgB (hd E (tks.drop q)) bShut = true then RS W g E tks (q + 1) lev er bad else RS W g E tks q lev (orE er 1) (orB er bad (hd E (tks.drop q)).pl)) (hw : ∀ t ∈ tks, Wf t) : CPost L w g E tks p lev 6 (.returned (ptrE xb)) W := by
  obtain ⟨l, us, ks, h1, h2, h3, h4, hc⟩ := hi
  refine ⟨xgTrans h4 hGW, xb, rfl, ?_⟩
  rcases hc with ⟨e1, e2, _, h6, h7, _, _, h8⟩ | ⟨f, h6, e1, e2, h7⟩
  · have hs := hx e1
    have hsg : sgB (hd E (tks.drop q)) bShut = true := by rw [sg_hd (fun t' h' => hw t' (List.mem_of_mem_drop h')) ok_shut]; exact decide_eq_true hs
    rw [if_pos ⟨e1, hsg⟩, e1, e2] at hR
    cases hd4 : tks.drop q with
    | nil => rw [hd4] at hs; exact absurd hs (by simp only [hd]; decide)
    | cons t1 ts1 =>
      rw [hd4] at hs h8
      have h9 := (drop_cons hd4).1
      have hps : Ps L E (.D 7) lev (tks.drop p) (.ok (.app PL X l, tks.drop (q + 1))) := by
        rw [h9]
        apply h8
        by_cases hl : l = []
        · rw [if_pos hl, hl]; exact .zend hs
        · rw [if_neg hl]; exact .aend hs
      refine .inl ⟨.app PL X l, q + 1, hR, .pnone (.inr ⟨rfl, rfl⟩) hnm hps, ?_⟩
      have h2' := h2.grown hGW (by simp; omega)
      have h3' : OKr W (xb + 1) ks us := xownGrown h3 hGW (fun k hk e => by have := (World.ownsRow.lt h3 k hk).1; simp at e; omega)
      have h6' := h6.grown hGW (fun k hk => .inl (by cases hk; omega))
      rw [Et]
      refine ⟨xb, ks, us, rfl, hwx, h2'.lt, ?_, ?_, ?_, ?_, h3'.kat (by omega) (Nat.le_refl _), h6'.plain (by omega) (Nat.le_refl _)⟩
      · rw [h2'.cell 0 (by decide)]; rfl
      · rw [h2'.cell 1 (by decide)]; rfl
      · rw [h2'.cell 6 (by decide)]; rfl
      · rw [h2'.cell 2 (by decide)]; rfl
  · have e1' : er ≠ 0 := by omega
    rw [if_neg (fun h => e1' h.1)] at hR
    unfold orE orB at hR
    rw [if_neg e1', if_neg e1', e1, e2] at hR
    exact .inr ⟨f, q, h6, hR, .pnone (.inr ⟨rfl, rfl⟩) hnm h7⟩
set_option maxHeartbeats 16000000 in
theorem first_call {L : ByteArray → Int → Int → ByteArray → Prop} (g E p lev : Nat) (tks : List Tk) (t t1 : Tk) (ts : List Tk) (w : World) (h : RS w g E tks p lev 0 0) (hlev : lev ≤ 12) (hw : ∀ t ∈ tks, Wf t) (hh : hd E (tks.drop p) = t) (ht : tks.drop p = t :: t1 :: ts) (hkd : t.kd = 1) (hlit : ¬ isLit t) (hnT : t.tx ≠ bTrue) (hnF : t.tx ≠ bFalse) (hres : ¬ res t.tx) (hsz : t.tx.size ≤ 12) (hbMinus : t.tx ≠ bMinus) (hbOpen : t.tx ≠ bOpen) (h1x : t1.tx = bOpen) (ih : ClimbOk L g E tks p) :
    Calls Tryz.prog 75 #[.pointer (some ⟨g, 0, none⟩)] w (CPost L w g E tks p lev 6) := by
  have hwt : ∀ t' ∈ tks.drop p, Wf t' := fun t' h' => hw t' (List.mem_of_mem_drop h')
  have HSm : Hid (∀ W, Below w.heap.size w W → Calls Tryz.prog 73 #[.pointer (some ⟨g, 0, none⟩), .string bMinus] W fun e w' => e = .returned (.bool false) ∧ Below W.heap.size W w') := fun W hW => by
    refine (sign_any g E p tks lev 0 0 bMinus W (h.later hW)).mono ?_
    rintro e w' ⟨rfl, hb⟩
    refine ⟨?_, hb⟩
    rw [sg_hd hwt ok_minus, hh]
    have hne : ¬ t.tx = bMinus := hbMinus
    simp [hne]
  have HSo : Hid (∀ W, Below w.heap.size w W → Calls Tryz.prog 73 #[.pointer (some ⟨g, 0, none⟩), .string bOpen] W fun e w' => e = .returned (.bool false) ∧ Below W.heap.size W w') := fun W hW => by
    refine (sign_any g E p tks lev 0 0 bOpen W (h.later hW)).mono ?_
    rintro e w' ⟨rfl, hb⟩
    refine ⟨?_, hb⟩
    rw [sg_hd hwt ok_open, hh]
    have hne : ¬ t.tx = bOpen := hbOpen
    simp [hne]
  obtain ⟨b, cap, hbg, hgl, c0, c1, c2, c3, c4, d0, d1, d2, hl⟩ := h.hd
  rw [hh] at d0 d1 d2
  have HR := hidMk h
  have HWF := hidMk hw
  have hbl : b < w.heap.size := by omega
  have hp0 : (0 : Int) ≤ (p : Int) := by omega
  have HH := hidMk hh
  have hl200 := h.few
  have hpl := h.place
  clear h hh hwt hw
  have HX := hidMk hbMinus
  have HWD : Hid (∀ W, Calls Tryz.prog 53 #[.string t.tx] W fun e w' => e = .returned (.bool (decide (res t.tx))) ∧ w' = W) := fun W => word_any t.tx W
  have hx1 : (t.tx.toList == [116, 114, 117, 101]) = false := xnl hnT
  have hx2 : (t.tx.toList == [102, 97, 108, 115, 101]) = false := xnl hnF
  have HRES := hidMk hres
  rw [decide_eq_false hres] at HWD
  have hszi : ¬ (12 : Int) < (t.tx.size : Int) := by omega
  have HT := hidMk ht
  obtain ⟨ht1, hp1⟩ := drop_cons ht
  obtain ⟨ht2, hp2⟩ := drop_cons ht1
  have HT1 := hidMk ht1
  have HT2 := hidMk ht2
  have H1X := hidMk h1x
  have HLIT := hidMk hlit
  have HSZ := hidMk hsz
  have HOP := hidMk hbOpen
  have HKD := hidMk hkd
  have HIH := hidMk ih
  clear hbMinus hbOpen hnT hnF hres hsz ht ht1 ht2 h1x hlit ih
  obtain ⟨PL, K, X⟩ := t
  simp only at *
  subst hkd
  simp only [srt] at d0
  unfold bMinus at HSm
  unfold bOpen at HSo
  go_enter Tryz.func75, Tryz.ntmps75
  go_wp2
  go_region_held3 (fun w' => w'.cell? ⟨g, 0, none⟩ = some (.slice (some ⟨b, 0, none⟩) (tks.length + 1) cap) ∧ w'.cell? ⟨g, 1, none⟩ = some (.int .i64 p) ∧ w'.cell? ⟨b, p * 3, none⟩ = some (.int .u8 110) ∧ w'.cell? ⟨b, p * 3 + 1, none⟩ = some (.string X) ∧ w'.cell? ⟨b, p * 3 + 2, none⟩ = some (.int .i64 PL)) (first | go_keep) (first | fail)
  clear c0 c1 c2 c4 d0 d1 d2
  go_wp2_with fail
  refine (HSm.out _ (xbel1 _ _).drew).mono ?_
  rintro e w0 ⟨rfl, hb0⟩
  have HB0 : Hid (Below w.heap.size w w0) := (xbel1 _ _).drew.trans (hb0.mono (by simp))
  have HTo0 : Hid (OTk w0 w.heap.size 110 X PL) := (OTk.new w 110 X PL).later hb0
  clear hb0 HSm
  go_wp2_with fail
  refine (HSo.out _ HB0.out).mono ?_
  rintro e w1 ⟨rfl, hb1⟩
  have HB1 : Hid (Below w.heap.size w w1) := HB0.out.trans (hb1.mono HB0.out.size)
  have HTo1 : Hid (OTk w1 w.heap.size 110 X PL) := Own.later HTo0.out hb1
  have HR1 : Hid (RS w1 g E tks p lev 0 0) := HR.out.later HB1.out
  clear hb1 HSo HR HB0 HTo0
  obtain ⟨a1, a2, a3, f1, f2, hgl1⟩ := HR1.out.f
  obtain ⟨t0, t1', t2, htl⟩ := HTo1.out.cells
  have hgw : ¬ w.heap.size = g := by omega
  have HR2 : Hid (RS (w1.setCell ⟨g, 1, none⟩ (.int .i64 ((p + 1 : Nat) : Int))) g E tks (p + 1) lev 0 0) := HR1.out.put1 (by omega)
  have HG2 : Hid (w.grownBy (w1.setCell ⟨g, 1, none⟩ (.int .i64 ((p + 1 : Nat) : Int))) (some g)) := xgTrans (xgBelow HB1.out) (xgSet _ _ _)
  have HTo2 : Hid (OTk (w1.setCell ⟨g, 1, none⟩ (.int .i64 ((p + 1 : Nat) : Int))) w.heap.size 110 X PL) := Own.grown HTo1.out (xgSet _ _ _) (by simp; omega)
  rw [show ((p + 1 : Nat) : Int) = (p : Int) + 1 by omega] at HR2 HG2 HTo2
  clear HR1 HB1 HTo1
  go_wp2_with fail
  refine (HWD.out _).mono ?_
  rintro e w3 ⟨rfl, hw3⟩
  subst hw3
  go_wp2_with fail
  refine (sign_any g E (p + 1) tks lev 0 0 _ _ HR2.out).mono ?_
  rintro e w4 ⟨rfl, hb4⟩
  have hsg : (decide ((0 : Int) = 0) && sgB (hd E (tks.drop (p + 1))) (⟨#[40]⟩ : ByteArray)) = true := by
    have hx := sg_hd (E := E) (ts := tks.drop (p + 1)) (fun t' h' => HWF.out t' (List.mem_of_mem_drop h')) ok_open
    rw [show (⟨#[40]⟩ : ByteArray) = bOpen from rfl, hx, HT1.out]
    simp [hd, H1X.out]
  rw [hsg]
  have HR4 : Hid (RS w4 g E tks (p + 1) lev 0 0) := HR2.out.later hb4
  have HG4 : Hid (w.grownBy w4 (some g)) := xgTrans HG2.out (xgBelow hb4)
  have HTo4 : Hid (OTk w4 w.heap.size 110 X PL) := Own.later HTo2.out hb4
  clear hb4 HR2 HG2 HTo2 a1 a2 a3 f1 f2 t0 t1' t2 htl hsg
  go_wp2_with fail
  refine (in_any g E (p + 1) lev tks 0 0 w4 HR4.out hlev).mono ?_
  rintro e w5 ⟨rfl, hg5, hr5⟩
  have HG5 : Hid (w.grownBy w5 (some g)) := xgTrans HG4.out hg5
  have HTo5 : Hid (OTk w5 w.heap.size 110 X PL) := Own.grown HTo4.out hg5 (by simp; omega)
  have KEY : Hid (∃ er5 bad5 : Int, RS w5 g E tks (p + 1) (lev + 1 : Nat) er5 bad5 ∧ ((er5 = 0 ∧ bad5 = 0 ∧ lev ≠ 12 ∧ ∀ o, Ps L E (.Z PL X) (lev + 1) (tks.drop (p + 2)) o → Ps L E (.D 7) lev (tks.drop p) o) ∨ (∃ f : Flt, f.why ≠ 0 ∧ er5 = f.why ∧ bad5 = f.pl ∧ Ps L E (.D 7) lev (tks.drop p) (.error f)))) := by
    by_cases q : lev = 12
    · rw [if_pos q] at hr5
      refine ⟨_, _, hr5, .inr ⟨⟨(hd E (tks.drop (p + 1))).pl, 4⟩, by simp, rfl, rfl, ?_⟩⟩
      rw [HT.out, HT1.out, q]
      exact .ndeep HLIT.out HOP.out rfl HRES.out HSZ.out H1X.out
    · rw [if_neg q] at hr5
      refine ⟨_, _, hr5, .inl ⟨rfl, rfl, q, fun o ho => ?_⟩⟩
      rw [HT.out]
      rw [HT2.out] at ho
      exact .nargs HLIT.out HOP.out rfl HRES.out HSZ.out H1X.out q ho
  clear hr5 hg5 HR4 HG4 HTo4
  obtain ⟨er5, bad5, hr5, hkey⟩ := KEY.out
  have HKEY := hidMk hkey
  clear KEY hkey
  obtain ⟨a1, a2, a3, f1, f2, hgl5⟩ := hr5.f
  obtain ⟨t0, t1', t2, htl⟩ := HTo5.out.cells
  have HR6 : Hid (RS (w5.setCell ⟨g, 1, none⟩ (.int .i64 ((p + 2 : Nat) : Int))) g E tks (p + 2) (lev + 1 : Nat) er5 bad5) := hr5.put1 (by omega)
  have HG6 : Hid (w.grownBy (w5.setCell ⟨g, 1, none⟩ (.int .i64 ((p + 2 : Nat) : Int))) (some g)) := xgTrans HG5.out (xgSet _ _ _)
  rw [show ((p + 2 : Nat) : Int) = (p : Int) + 1 + 1 by omega] at HR6 HG6
  have hN5 : w.heap.size ≤ w5.heap.size := HG5.out.size
  clear hr5
  have hW6 : w.grownBy ((w5.setCell ⟨g, 1, none⟩ (.int .i64 ((p : Int) + 1 + 1))).alloc (.cells #[.string ⟨#[99, 97, 108, 108]⟩, .int .i64 PL, .slice none 0 0, .int .i64 0, .int .i64 0, .string ⟨#[]⟩, .string X] 112)) (some g) := xgTrans HG6.out (xgBelow (xbel1 _ _))
  have hO6 : Own ((w5.setCell ⟨g, 1, none⟩ (.int .i64 ((p : Int) + 1 + 1))).alloc (.cells #[.string ⟨#[99, 97, 108, 108]⟩, .int .i64 PL, .slice none 0 0, .int .i64 0, .int .i64 0, .string ⟨#[]⟩, .string X] 112)) w5.heap.size 112 7 [.string bCall, .int .i64 PL, .slice none 0 0, .int .i64 0, .int .i64 0, .string ⟨#[]⟩, .string X] := by
    have := Own.new (w5.setCell ⟨g, 1, none⟩ (.int .i64 ((p : Int) + 1 + 1))) 112 7 #[.string bCall, .int .i64 PL, .slice none 0 0, .int .i64 0, .int .i64 0, .string ⟨#[]⟩, .string X] rfl
    rw [show (w5.setCell ⟨g, 1, none⟩ (.int .i64 ((p : Int) + 1 + 1))).heap.size = w5.heap.size by simp] at this
    exact this
  have HST : Hid (∃ q er bad, (er = 0 → (tks.length + 1 - (p + 2)) + q = tks.length + 1) ∧ CallInv L w g E tks p lev w5.heap.size PL X q er bad ((w5.setCell ⟨g, 1, none⟩ (.int .i64 ((p : Int) + 1 + 1))).alloc (.cells #[.string ⟨#[99, 97, 108, 108]⟩, .int .i64 PL, .slice none 0 0, .int .i64 0, .int .i64 0, .string ⟨#[]⟩, .string X] 112))) := by
    refine ⟨p + 2, er5, bad5, fun _ => by omega, [], [], .slice none 0 0, HR6.out.later (xbel1 _ _), hO6, World.ownsRow_nil _ _ _ _, hW6, ?_⟩
    rcases HKEY.out with ⟨e1, e2, e3, h3⟩ | h3
    · exact .inl ⟨e1, e2, e3, rfl, rfl, by simp, by omega, fun o ho => h3 o ho⟩
    · exact .inr h3
  clear hW6 hO6 HG6 HR6 HKEY HG5 HTo5 HT HT1 HT2 H1X HRES HSZ HOP HLIT HWD hx1 hx2 hszi
  obtain ⟨i0, hi0, hz0, hz1, hz2⟩ := info_parts infoPE
  go_wp2_with fail
  have hwx : w.heap.size ≤ w5.heap.size := hN5
  have hgx : g < w5.heap.size := hgl5
  generalize w5.heap.size = XB at *
  clear t0 t1' t2 a1 a2 a3 f1 f2 hgl5
  go_loopg [] (tks.length + 1 - (p + 2)) (fun gk wr => ∃ q er bad, (er = 0 → gk + q = tks.length + 1) ∧ CallInv L w g E tks p lev XB PL X q er bad wr)
  case atStart => exact HST.out
  case round =>
    clear HST
    obtain ⟨q, er, bad, hgk, l, us, ks, hRS, hOwn, hOK, hG, hcase⟩ := hrel
    have HR7 := hidMk hRS
    have HOW7 := hidMk hOwn
    have HOK7 := hidMk hOK
    have HG7 := hidMk hG
    obtain ⟨a1, a2, a3, f1, f2, hgl7⟩ := hRS.f
    rcases hcase with ⟨rfl, rfl, hl12, hets, hlen, hul, hpq2, hcont⟩ | ⟨f, hf1, hf2, hf3, hf4⟩
    · have HETS := hidMk hets
      have HCONT := hidMk hcont
      clear hets hcont hRS hOwn hOK hG
      go_wp2_with fail
      refine (sign_any g E q tks _ 0 0 _ _ HR7.out).mono ?_
      rintro e w7 ⟨rfl, hb7⟩
      have hsg : (decide ((0 : Int) = 0) && sgB (hd E (tks.drop q)) (⟨#[41]⟩ : ByteArray)) = decide ((hd E (tks.drop q)).tx = bShut) := by
        have hx := sg_hd (E := E) (ts := tks.drop q) (fun t' h' => HWF.out t' (List.mem_of_mem_drop h')) ok_shut
        rw [show (⟨#[41]⟩ : ByteArray) = bShut from rfl, hx]; rfl
      rw [hsg]
      clear hsg
      have HR8 : Hid (RS w7 g E tks q (lev + 1 : Nat) 0 0) := HR7.out.later hb7
      have HOW8 : Hid (Own w7 XB 112 7 [.string bCall, .int .i64 PL, ks, .int .i64 0, .int .i64 0, .string ⟨#[]⟩, .string X]) := HOW7.out.later hb7
      have HOK8 : Hid (OKr w7 (XB + 1) ks us) := xownLater HOK7.out hb7
      have HG8 : Hid (w.grownBy w7 (some g)) := xgTrans HG7.out (xgBelow hb7)
      have HETS8 : Hid (EtsX w7 (XB + 1) ks.ownBlock l us) := EtsX.grown (r := none) (xgBelow hb7) (fun k hk => by cases hk) HETS.out
      clear HR7 HOW7 HOK7 HG7 HETS hb7 a1 a2 a3 f1 f2
      by_cases hsh : (hd E (tks.drop q)).tx = bShut
      · rw [decide_eq_true hsh]
        have HSH := hidMk hsh
        have HINV : Hid (CallInv L w g E tks p lev XB PL X q 0 0 w7) := ⟨l, us, ks, HR8.out, HOW8.out, HOK8.out, HG8.out, .inl ⟨rfl, rfl, hl12, HETS8.out, hlen, hul, hpq2, HCONT.out⟩⟩
        clear hsh HOW8 HOK8 HETS8 HG8
        have hpq : sgB (hd E (tks.drop q)) bShut = true → q < tks.length := fun hc => by
          rw [sg_hd (fun t' h' => HWF.out t' (List.mem_of_mem_drop h')) ok_shut] at hc
          have hc' : (hd E (tks.drop q)).tx = bShut := of_decide_eq_true hc
          cases hd4 : tks.drop q with
          | nil => rw [hd4] at hc'; exact absurd hc' (by simp only [hd]; decide)
          | cons t1 ts1 => exact (drop_cons hd4).2
        go_wp2_with fail
        refine (close_any g E q tks _ (0 : Int) (0 : Int) _ HR8.out hpq).mono ?_
        rintro e w8 ⟨rfl, hg8, hr8⟩
        have KEY2 : Hid (∃ p5 er5 bad5, RS w8 g E tks p5 (lev + 1 : Nat) er5 bad5 ∧ ∀ W, RS W g E tks p5 (lev : Nat) er5 bad5 → if (0 : Int) = 0 ∧ sgB (hd E (tks.drop q)) bShut = true then RS W g E tks (q + 1) lev (0 : Int) (0 : Int) else RS W g E tks q lev (orE (0 : Int) 1) (orB (0 : Int) (0 : Int) (hd E (tks.drop q)).pl)) := by
          by_cases hc : (0 : Int) = 0 ∧ sgB (hd E (tks.drop q)) bShut = true
          · rw [if_pos hc] at hr8
            exact ⟨_, _, _, hr8, fun W hW => by rw [if_pos hc]; exact hW⟩
          · rw [if_neg hc] at hr8
            exact ⟨_, _, _, hr8, fun W hW => by rw [if_neg hc]; exact hW⟩
        obtain ⟨p8, er8, bad8, hr9, hback⟩ := KEY2.out
        have HBK := hidMk hback
        have HG8x := hidMk hg8
        clear KEY2 hback hr8 hg8
        obtain ⟨b1, b2, b3, g1, g2, hgl8⟩ := hr9.f
        have HR9 : Hid (RS (w8.setCell ⟨g, 2, none⟩ (.int .i64 (lev : Int))) g E tks p8 lev er8 bad8) := hr9.put2
        have HG9 : Hid (w7.grownBy (w8.setCell ⟨g, 2, none⟩ (.int .i64 (lev : Int))) (some g)) := xgTrans HG8x.out (xgSet _ _ _)
        clear hr9
        go_wp2_with fail
        go_ret
        exact call_fin (xb := XB) HINV.out (fun _ => HSH.out) (by rw [HH.out]; exact HX.out) hgx hwx HG9.out (by have hbk := HBK.out _ HR9.out; simpa using hbk) HWF.out
      · rw [decide_eq_false hsh]
        have HSH := hidMk hsh
        clear hsh
        obtain ⟨xa0, xc0, hks⟩ := OKr.form HOK8.out
        have o2 : w7.cell? ⟨XB, 2, none⟩ = some (.slice xa0 us.length xc0) := by rw [HOW8.out.cell 2 (by decide), hks]; rfl
        by_cases hl0 : us.length = 0
        · have hl0i : ¬ (0 : Int) < (us.length : Int) := by omega
          have hq9p : p + 2 ≤ q := hpq2
          have hle0 : l = [] := List.eq_nil_of_length_eq_zero (by omega)
          go_wp2_with fail
          refine (HIH.out q (lev + 1) 0 0 _ (by omega) HR8.out.place (by omega) (by omega) (.inr ⟨rfl, rfl⟩) HR8.out).mono ?_
          rintro e w9 ⟨hg9, kb, rfl, hres⟩
          have hG9 := hidMk hg9
          have HOW9 : Hid (Own w9 XB 112 7 [.string bCall, .int .i64 PL, ks, .int .i64 0, .int .i64 0, .string ⟨#[]⟩, .string X]) := HOW8.out.grown hg9 (by simp; omega)
          have HOK9 : Hid (OKr w9 (XB + 1) ks us) := xownGrown HOK8.out hg9 (fun k hk e => by have := (World.ownsRow.lt HOK8.out k hk).1; simp at e; omega)
          have HG9' : Hid (w.grownBy w9 (some g)) := xgTrans HG8.out hg9
          have HETS : Hid (EtsX w9 (XB + 1) ks.ownBlock l us) := EtsX.grown hg9 (fun k hk => by cases hk; exact .inl (by omega)) HETS8.out
          have hXB8 : XB < (w7 : World).heap.size := HOW8.out.lt
          have hOKlt : ∀ k, ks.ownBlock = some k → k < (w7 : World).heap.size := fun k hk => (World.ownsRow.lt HOK8.out k hk).2
          have KEY9 : Hid (∃ (q9 : Nat) (er9 bad9 : Int), RS w9 g E tks q9 (lev + 1 : Nat) er9 bad9 ∧ (er9 = 0 → q < q9) ∧ ((er9 = 0 ∧ bad9 = 0 ∧ ∃ x, us.length = l.length ∧ (∀ o, Ps L E (if l ++ [x] = [] then .Z PL X else .A PL X (l ++ [x])) (lev + 1) (tks.drop q9) o → Ps L E (.D 7) lev (tks.drop p) o) ∧ EtX w9 (XB + 1) ks.ownBlock x (ptrE kb)) ∨ (∃ f : Flt, f.why ≠ 0 ∧ er9 = f.why ∧ bad9 = f.pl ∧ Ps L E (.D 7) lev (tks.drop p) (.error f)))) := by
            rcases hres with ⟨x, q9, h1, h2, h3⟩ | ⟨f, q9, h1, h2, h3⟩
            · have hsh := (h2.shorter _ _ rfl).2 (by intros; simp)
              rw [List.length_drop, List.length_drop] at hsh
              have hq9 := h1.place
              refine ⟨q9, 0, 0, h1, fun _ => by omega, .inl ⟨rfl, rfl, x, hlen, fun o ho => ?_, (w7 : World).heap.size, w9.heap.size, by omega, Nat.le_refl _, fun k hk => .inl (hOKlt k hk), h3⟩⟩
              · have := HCONT.out
                rw [if_pos hle0] at this
                subst hle0
                exact this _ (.zok HSH.out h2 (by simpa using ho))
            · refine ⟨q9, _, _, h2, fun h => absurd h (by omega), .inr ⟨f, h1, rfl, rfl, ?_⟩⟩
              · have := HCONT.out
                rw [if_pos hle0] at this
                exact this _ (.zbad HSH.out h3)
          clear hres
          obtain ⟨q9, er9, bad9, hr9, hq9l, hres9⟩ := KEY9.out
          have HR9 := hidMk hr9
          have HRES9 := hidMk hres9
          have hu200 : us.length ≤ 200 := by omega
          have hq8 := HR8.out.place
          have hq9' := HR9.out.place
          have HGK : Hid (∃ G : Nat, G < gk ∧ (er9 = 0 → G + q9 = tks.length + 1)) := by
            have hgk' := hgk trivial
            by_cases e0 : er9 = 0
            · have := hq9l e0
              exact ⟨tks.length + 1 - q9, by omega, fun _ => by omega⟩
            · exact ⟨gk - 1, by omega, fun h => absurd h e0⟩
          clear hl0 hl0i hlen hle0 hks o2
          clear KEY9 hres9 hr9 hg9 HOW8 HOK8 HG8 HETS8
          obtain ⟨xa, xc, rfl⟩ := OKr.form HOK9.out
          have o2 : w9.cell? ⟨XB, 2, none⟩ = some (.slice xa us.length xc) := by rw [HOW9.out.cell 2 (by decide)]; rfl
          have o2s := HOW9.out.soft 2
          have hxl := HOW9.out.lt
          unfold ptrE
          go_wp2_with (first
            | (at_builtin; refine wpList_append_own_at _ rfl _ _ 108 rfl (XB + 1) 48 i0 (.pointer none) 1 8 Tryz.underlying108 hi0 hz0 hz1 hz2 rfl (by decide) _ us.length us rfl (World.ownsRow.alloc HOK9.out _) ⟨w9.heap.size, 0, none⟩ 1 1 [.pointer (some ⟨kb, 0, none⟩)] rfl rfl (cell_one_new _ _ _) (by intro u hu; simp at hu; subst hu; rfl) (by unfold maxLen; omega) (by omega) (by simp; omega) ?_))
          intro v' wA hown' hgrow _ hat
          have h9 : OKr wA (XB + 1) v' (us ++ [ptrE kb]) := by unfold OKr; simpa [ptrE] using hown'
          obtain ⟨va, vc, rfl⟩ := OKr.form h9
          generalize (us ++ [ptrE kb]).length = vn at *
          have hOWA : Own wA XB 112 7 [.string bCall, .int .i64 PL, .slice xa us.length xc, .int .i64 0, .int .i64 0, .string ⟨#[]⟩, .string X] := (HOW9.out.later (xbel1 _ _)).grown hgrow (fun e => by have := (World.ownsRow.lt HOK9.out XB e.symm).1; omega)
          have hGA : w.grownBy wA (some g) := ⟨hgrow.os.trans HG9'.out.os, hgrow.tape.trans HG9'.out.tape, hgrow.output.trans HG9'.out.output, Nat.le_trans HG9'.out.size (Nat.le_trans (by simp) hgrow.size), fun i hi hne => (hgrow.block i (by have := HG9'.out.size; simp; omega) (fun e => by have := (World.ownsRow.lt HOK9.out i e.symm).1; omega)).trans (((xbel1 w9 _).block i (by have := HG9'.out.size; omega)).trans (HG9'.out.block i hi hne))⟩
          have hRA : RS wA g E tks q9 (lev + 1 : Nat) er9 bad9 := (HR9.out.later (xbel1 _ _)).grown hgrow (fun k hk => by have := (World.ownsRow.lt HOK9.out k hk).1; omega)
          have hput := hOWA.put 2 (.slice va vn vc)
          have HOWB : Hid (Own (wA.setCell ⟨XB, 2, none⟩ (.slice va vn vc)) XB 112 7 [.string bCall, .int .i64 PL, (.slice va vn vc), .int .i64 0, .int .i64 0, .string ⟨#[]⟩, .string X]) := hput.1
          have oA2 : wA.cell? ⟨XB, 2, none⟩ = some (.slice xa us.length xc) := by rw [hOWA.cell 2 (by decide)]; rfl
          have oA2s := hOWA.soft 2
          have hxlA := hOWA.lt
          have HOKB : Hid (OKr (wA.setCell ⟨XB, 2, none⟩ (.slice va vn vc)) (XB + 1) (.slice va vn vc) (us ++ [ptrE kb])) := by
            exact xownGrown h9 hput.2 (fun k hk e => by have := (World.ownsRow.lt h9 k hk).1; simp at e; omega)
          have HGB : Hid (w.grownBy (wA.setCell ⟨XB, 2, none⟩ (.slice va vn vc)) (some g)) := xgNew hGA hput.2 (fun n hn => by cases hn; exact hwx)
          have HRB : Hid (RS (wA.setCell ⟨XB, 2, none⟩ (.slice va vn vc)) g E tks q9 (lev + 1 : Nat) er9 bad9) := hRA.grown hput.2 (fun k hk => by cases hk; exact hgx)
          have HFB : Hid (∃ q er bad, True ∧ q = q9 ∧ er = er9 ∧ CallInv L w g E tks p lev XB PL X q er bad (wA.setCell ⟨XB, 2, none⟩ (.slice va vn vc))) := by
            have hq9 := HR9.out.place
            rcases HRES9.out with ⟨e1, e2, x, h6, h7, h8⟩ | ⟨f, h6, e1, e2, h7⟩
            · have hq9q := hq9l e1
              refine ⟨q9, er9, bad9, trivial, rfl, rfl, l ++ [x], us ++ [ptrE kb], (.slice va vn vc), HRB.out, HOWB.out, HOKB.out, HGB.out, .inl ⟨e1, e2, hl12, ?_, by simp [h6], by simp; omega, by omega, fun o ho => ?_⟩⟩
              · have k1 : EtX (w9.alloc (.cells #[.pointer (some ⟨kb, 0, none⟩)] 48)) (XB + 1) (Value.ownBlock (.slice xa us.length xc)) x (ptrE kb) := EtX.grown h8 (r := none) (xgBelow (xbel1 _ _)) (fun k hk => by cases hk)
                have k2 : EtsX (w9.alloc (.cells #[.pointer (some ⟨kb, 0, none⟩)] 48)) (XB + 1) (Value.ownBlock (.slice xa us.length xc)) l us := EtsX.grown (r := none) (xgBelow (xbel1 _ _)) (fun k hk => by cases hk) HETS.out
                have k3 : EtsX (wA.setCell ⟨XB, 2, none⟩ (.slice va vn vc)) (XB + 1) (Value.ownBlock (.slice xa us.length xc)) (l ++ [x]) (us ++ [ptrE kb]) := EtsX.grown hput.2 (fun k hk => by cases hk; exact .inl (by omega)) (EtsX.grown hgrow (fun k hk => .inr hk) (k2.snoc k1))
                rcases hat with hat | hat
                · rw [hat]; exact k3
                · rw [hat]
                  have k4 : EtsX wA (XB + 1) (some (w9.heap.size + 1)) (l ++ [x]) (us ++ [ptrE kb]) := (k2.snoc k1).move hgrow (fun k hk => .inr hk) (by simp)
                  exact EtsX.grown hput.2 (fun k hk => by cases hk; exact .inl (by omega)) k4
              · exact h7 o ho
            · exact ⟨q9, er9, bad9, trivial, rfl, rfl, [], us ++ [ptrE kb], (.slice va vn vc), HRB.out, HOWB.out, HOKB.out, HGB.out, .inr ⟨f, h6, e1, e2, h7⟩⟩
          clear hput hOWA hRA hGA hat hown' hgrow HOWB HOKB HGB HRB HR9 HRES9 HETS HOK9 HOW9 HG9' hG9
          go_wp2_with fail
          obtain ⟨G9, hG9a, hG9b⟩ := HGK.out
          go_roundg G9
          case rel => obtain ⟨q', er', bad', h1', rfl, h3', h4'⟩ := HFB.out; exact ⟨_, er', bad', fun h => hG9b (h3' ▸ h), h4'⟩
          case measure => omega
        · have hl0i : (0 : Int) < (us.length : Int) := by omega
          have hlne : l ≠ [] := fun e => by rw [e] at hlen; exact hl0 hlen
          go_wp2_with fail
          refine (sign_any g E q tks _ 0 0 _ _ HR8.out).mono ?_
          rintro e wB ⟨rfl, hbB⟩
          have hsg : (decide ((0 : Int) = 0) && sgB (hd E (tks.drop q)) (⟨#[44]⟩ : ByteArray)) = decide ((hd E (tks.drop q)).tx = bComma) := by
            have hx := sg_hd (E := E) (ts := tks.drop q) (fun t' h' => HWF.out t' (List.mem_of_mem_drop h')) ok_comma
            rw [show (⟨#[44]⟩ : ByteArray) = bComma from rfl, hx]; rfl
          rw [hsg]
          clear hsg
          have HRc : Hid (RS wB g E tks q (lev + 1 : Nat) 0 0) := HR8.out.later hbB
          have HOWc : Hid (Own wB XB 112 7 [.string bCall, .int .i64 PL, ks, .int .i64 0, .int .i64 0, .string ⟨#[]⟩, .string X]) := HOW8.out.later hbB
          have HOKc : Hid (OKr wB (XB + 1) ks us) := xownLater HOK8.out hbB
          have HGc : Hid (w.grownBy wB (some g)) := xgTrans HG8.out (xgBelow hbB)
          have HETSc : Hid (EtsX wB (XB + 1) ks.ownBlock l us) := EtsX.grown (r := none) (xgBelow hbB) (fun k hk => by cases hk) HETS8.out
          clear HR8 HOW8 HOK8 HG8 HETS8 hbB o2
          by_cases hcm : (hd E (tks.drop q)).tx = bComma
          · rw [decide_eq_true hcm]
            cases hdq : tks.drop q with
            | nil => rw [hdq] at hcm; exact absurd hcm (by simp only [hd]; decide)
            | cons tc tsc =>
              rw [hdq] at hcm
              obtain ⟨hdq1, hqlt⟩ := drop_cons hdq
              have hcm' : tc.tx = bComma := hcm
              have HDQ := hidMk hdq
              have HDQ1 := hidMk hdq1
              have HCM := hidMk hcm'
              clear hcm hcm' hdq hdq1
              obtain ⟨a1, a2, a3, f1, f2, hgl9⟩ := HRc.out.f
              have HRd : Hid (RS (wB.setCell ⟨g, 1, none⟩ (.int .i64 ((q + 1 : Nat) : Int))) g E tks (q + 1) (lev + 1 : Nat) 0 0) := HRc.out.put1 (by omega)
              have hset := xgSet wB ⟨g, 1, none⟩ (.int .i64 ((q + 1 : Nat) : Int))
              have HOWd : Hid (Own (wB.setCell ⟨g, 1, none⟩ (.int .i64 ((q + 1 : Nat) : Int))) XB 112 7 [.string bCall, .int .i64 PL, ks, .int .i64 0, .int .i64 0, .string ⟨#[]⟩, .string X]) := HOWc.out.grown hset (by simp; omega)
              have HOKd : Hid (OKr (wB.setCell ⟨g, 1, none⟩ (.int .i64 ((q + 1 : Nat) : Int))) (XB + 1) ks us) := xownGrown HOKc.out hset (fun k hk e => by have := (World.ownsRow.lt HOKc.out k hk).1; simp at e; omega)
              have HGd : Hid (w.grownBy (wB.setCell ⟨g, 1, none⟩ (.int .i64 ((q + 1 : Nat) : Int))) (some g)) := xgTrans HGc.out hset
              have HETSd : Hid (EtsX (wB.setCell ⟨g, 1, none⟩ (.int .i64 ((q + 1 : Nat) : Int))) (XB + 1) ks.ownBlock l us) := EtsX.grown hset (fun k hk => by cases hk; exact .inl (by show g < XB + 1; omega)) HETSc.out
              rw [show ((q + 1 : Nat) : Int) = (q : Int) + 1 by omega] at HRd HOWd HOKd HGd HETSd
              clear hset HRc HOWc HOKc HGc HETSc
              have hq9p : p + 2 ≤ q + 1 := by omega
              go_wp2_with fail
              refine (HIH.out (q + 1) (lev + 1) 0 0 _ (by omega) (by omega) (by omega) (by omega) (.inr ⟨rfl, rfl⟩) HRd.out).mono ?_
              rintro e w9 ⟨hg9, kb, rfl, hres⟩
              have hG9 := hidMk hg9
              have HOW9 : Hid (Own w9 XB 112 7 [.string bCall, .int .i64 PL, ks, .int .i64 0, .int .i64 0, .string ⟨#[]⟩, .string X]) := HOWd.out.grown hg9 (by simp; omega)
              have HOK9 : Hid (OKr w9 (XB + 1) ks us) := xownGrown HOKd.out hg9 (fun k hk e => by have := (World.ownsRow.lt HOKd.out k hk).1; simp at e; omega)
              have HG9' : Hid (w.grownBy w9 (some g)) := xgTrans HGd.out hg9
              have HETS : Hid (EtsX w9 (XB + 1) ks.ownBlock l us) := EtsX.grown hg9 (fun k hk => by cases hk; exact .inl (by omega)) HETSd.out
              have hXBd : XB < ((wB.setCell ⟨g, 1, none⟩ (.int .i64 ((q : Int) + 1))) : World).heap.size := HOWd.out.lt
              have hOKlt : ∀ k, ks.ownBlock = some k → k < ((wB.setCell ⟨g, 1, none⟩ (.int .i64 ((q : Int) + 1))) : World).heap.size := fun k hk => (World.ownsRow.lt HOKd.out k hk).2
              have KEY9 : Hid (∃ (q9 : Nat) (er9 bad9 : Int), RS w9 g E tks q9 (lev + 1 : Nat) er9 bad9 ∧ (er9 = 0 → (q + 1) < q9) ∧ ((er9 = 0 ∧ bad9 = 0 ∧ ∃ x, us.length = l.length ∧ (∀ o, Ps L E (if l ++ [x] = [] then .Z PL X else .A PL X (l ++ [x])) (lev + 1) (tks.drop q9) o → Ps L E (.D 7) lev (tks.drop p) o) ∧ EtX w9 (XB + 1) ks.ownBlock x (ptrE kb)) ∨ (∃ f : Flt, f.why ≠ 0 ∧ er9 = f.why ∧ bad9 = f.pl ∧ Ps L E (.D 7) lev (tks.drop p) (.error f)))) := by
                rcases hres with ⟨x, q9, h1, h2, h3⟩ | ⟨f, q9, h1, h2, h3⟩
                · have hsh := (h2.shorter _ _ rfl).2 (by intros; simp)
                  rw [List.length_drop, List.length_drop] at hsh
                  have hq9 := h1.place
                  refine ⟨q9, 0, 0, h1, fun _ => by omega, .inl ⟨rfl, rfl, x, hlen, fun o ho => ?_, ((wB.setCell ⟨g, 1, none⟩ (.int .i64 ((q : Int) + 1))) : World).heap.size, w9.heap.size, by omega, Nat.le_refl _, fun k hk => .inl (hOKlt k hk), h3⟩⟩
                  · have := HCONT.out
                    rw [if_neg hlne, HDQ.out] at this
                    rw [HDQ1.out] at h2
                    exact this _ (.aok HCM.out h2 (by rw [if_neg (by simp)] at ho; exact ho))
                · refine ⟨q9, _, _, h2, fun h => absurd h (by omega), .inr ⟨f, h1, rfl, rfl, ?_⟩⟩
                  · have := HCONT.out
                    rw [if_neg hlne, HDQ.out] at this
                    rw [HDQ1.out] at h3
                    exact this _ (.abad HCM.out h3)
              clear hres
              obtain ⟨q9, er9, bad9, hr9, hq9l, hres9⟩ := KEY9.out
              have HR9 := hidMk hr9
              have HRES9 := hidMk hres9
              have hu200 : us.length ≤ 200 := by omega
              have hq8 := HRd.out.place
              have hq9' := HR9.out.place
              have HGK : Hid (∃ G : Nat, G < gk ∧ (er9 = 0 → G + q9 = tks.length + 1)) := by
                have hgk' := hgk trivial
                by_cases e0 : er9 = 0
                · have := hq9l e0
                  exact ⟨tks.length + 1 - q9, by omega, fun _ => by omega⟩
                · exact ⟨gk - 1, by omega, fun h => absurd h e0⟩
              clear hl0 hl0i hlen hlne hks
              clear KEY9 hres9 hr9 hg9 HOWd HOKd HGd HETSd
              obtain ⟨xa, xc, rfl⟩ := OKr.form HOK9.out
              have o2 : w9.cell? ⟨XB, 2, none⟩ = some (.slice xa us.length xc) := by rw [HOW9.out.cell 2 (by decide)]; rfl
              have o2s := HOW9.out.soft 2
              have hxl := HOW9.out.lt
              unfold ptrE
              go_wp2_with (first
                | (at_builtin; refine wpList_append_own_at _ rfl _ _ 108 rfl (XB + 1) 48 i0 (.pointer none) 1 8 Tryz.underlying108 hi0 hz0 hz1 hz2 rfl (by decide) _ us.length us rfl (World.ownsRow.alloc HOK9.out _) ⟨w9.heap.size, 0, none⟩ 1 1 [.pointer (some ⟨kb, 0, none⟩)] rfl rfl (cell_one_new _ _ _) (by intro u hu; simp at hu; subst hu; rfl) (by unfold maxLen; omega) (by omega) (by simp; omega) ?_))
              intro v' wA hown' hgrow _ hat
              have h9 : OKr wA (XB + 1) v' (us ++ [ptrE kb]) := by unfold OKr; simpa [ptrE] using hown'
              obtain ⟨va, vc, rfl⟩ := OKr.form h9
              generalize (us ++ [ptrE kb]).length = vn at *
              have hOWA : Own wA XB 112 7 [.string bCall, .int .i64 PL, .slice xa us.length xc, .int .i64 0, .int .i64 0, .string ⟨#[]⟩, .string X] := (HOW9.out.later (xbel1 _ _)).grown hgrow (fun e => by have := (World.ownsRow.lt HOK9.out XB e.symm).1; omega)
              have hGA : w.grownBy wA (some g) := ⟨hgrow.os.trans HG9'.out.os, hgrow.tape.trans HG9'.out.tape, hgrow.output.trans HG9'.out.output, Nat.le_trans HG9'.out.size (Nat.le_trans (by simp) hgrow.size), fun i hi hne => (hgrow.block i (by have := HG9'.out.size; simp; omega) (fun e => by have := (World.ownsRow.lt HOK9.out i e.symm).1; omega)).trans (((xbel1 w9 _).block i (by have := HG9'.out.size; omega)).trans (HG9'.out.block i hi hne))⟩
              have hRA : RS wA g E tks q9 (lev + 1 : Nat) er9 bad9 := (HR9.out.later (xbel1 _ _)).grown hgrow (fun k hk => by have := (World.ownsRow.lt HOK9.out k hk).1; omega)
              have hput := hOWA.put 2 (.slice va vn vc)
              have HOWB : Hid (Own (wA.setCell ⟨XB, 2, none⟩ (.slice va vn vc)) XB 112 7 [.string bCall, .int .i64 PL, (.slice va vn vc), .int .i64 0, .int .i64 0, .string ⟨#[]⟩, .string X]) := hput.1
              have oA2 : wA.cell? ⟨XB, 2, none⟩ = some (.slice xa us.length xc) := by rw [hOWA.cell 2 (by decide)]; rfl
              have oA2s := hOWA.soft 2
              have hxlA := hOWA.lt
              have HOKB : Hid (OKr (wA.setCell ⟨XB, 2, none⟩ (.slice va vn vc)) (XB + 1) (.slice va vn vc) (us ++ [ptrE kb])) := by
                exact xownGrown h9 hput.2 (fun k hk e => by have := (World.ownsRow.lt h9 k hk).1; simp at e; omega)
              have HGB : Hid (w.grownBy (wA.setCell ⟨XB, 2, none⟩ (.slice va vn vc)) (some g)) := xgNew hGA hput.2 (fun n hn => by cases hn; exact hwx)
              have HRB : Hid (RS (wA.setCell ⟨XB, 2, none⟩ (.slice va vn vc)) g E tks q9 (lev + 1 : Nat) er9 bad9) := hRA.grown hput.2 (fun k hk => by cases hk; exact hgx)
              have HFB : Hid (∃ q er bad, True ∧ q = q9 ∧ er = er9 ∧ CallInv L w g E tks p lev XB PL X q er bad (wA.setCell ⟨XB, 2, none⟩ (.slice va vn vc))) := by
                have hq9 := HR9.out.place
                rcases HRES9.out with ⟨e1, e2, x, h6, h7, h8⟩ | ⟨f, h6, e1, e2, h7⟩
                · have hq9q := hq9l e1
                  refine ⟨q9, er9, bad9, trivial, rfl, rfl, l ++ [x], us ++ [ptrE kb], (.slice va vn vc), HRB.out, HOWB.out, HOKB.out, HGB.out, .inl ⟨e1, e2, hl12, ?_, by simp [h6], by simp; omega, by omega, fun o ho => ?_⟩⟩
                  · have k1 : EtX (w9.alloc (.cells #[.pointer (some ⟨kb, 0, none⟩)] 48)) (XB + 1) (Value.ownBlock (.slice xa us.length xc)) x (ptrE kb) := EtX.grown h8 (r := none) (xgBelow (xbel1 _ _)) (fun k hk => by cases hk)
                    have k2 : EtsX (w9.alloc (.cells #[.pointer (some ⟨kb, 0, none⟩)] 48)) (XB + 1) (Value.ownBlock (.slice xa us.length xc)) l us := EtsX.grown (r := none) (xgBelow (xbel1 _ _)) (fun k hk => by cases hk) HETS.out
                    have k3 : EtsX (wA.setCell ⟨XB, 2, none⟩ (.slice va vn vc)) (XB + 1) (Value.ownBlock (.slice xa us.length xc)) (l ++ [x]) (us ++ [ptrE kb]) := EtsX.grown hput.2 (fun k hk => by cases hk; exact .inl (by omega)) (EtsX.grown hgrow (fun k hk => .inr hk) (k2.snoc k1))
                    rcases hat with hat | hat
                    · rw [hat]; exact k3
                    · rw [hat]
                      have k4 : EtsX wA (XB + 1) (some (w9.heap.size + 1)) (l ++ [x]) (us ++ [ptrE kb]) := (k2.snoc k1).move hgrow (fun k hk => .inr hk) (by simp)
                      exact EtsX.grown hput.2 (fun k hk => by cases hk; exact .inl (by omega)) k4
                  · exact h7 o ho
                · exact ⟨q9, er9, bad9, trivial, rfl, rfl, [], us ++ [ptrE kb], (.slice va vn vc), HRB.out, HOWB.out, HOKB.out, HGB.out, .inr ⟨f, h6, e1, e2, h7⟩⟩
              clear hput hOWA hRA hGA hat hown' hgrow HOWB HOKB HGB HRB HR9 HRES9 HETS HOK9 HOW9 HG9' hG9
              go_wp2_with fail
              obtain ⟨G9, hG9a, hG9b⟩ := HGK.out
              go_roundg G9
              case rel => obtain ⟨q', er', bad', h1', rfl, h3', h4'⟩ := HFB.out; exact ⟨_, er', bad', fun h => hG9b (h3' ▸ h), h4'⟩
              case measure => omega
          · rw [decide_eq_false hcm]
            have HCM := hidMk hcm
            clear hcm
            obtain ⟨b9, cap9, hbg9, hgl9, c0, c1, c2, c3', c4, d0, d1, d2, hl9⟩ := HRc.out.hd
            have hbl9 : b9 < wB.heap.size := by omega
            have hq0 : (0 : Int) ≤ (q : Int) := by omega
            clear c3
            go_wp2_with fail
            go_region_with (go_at_call 56; refine (fail_any g E q tks _ 0 0 _ _ _ (RS.later HRc.out (by first | exact Below.refl _ _ | exact (Below.refl _ _).drew | exact Below.drewN' (Below.refl _ _)))).mono ?_; rintro en wC ⟨rfl, hgC, hrC⟩)
            all_goals
              have HRe : Hid (RS wC g E tks q (lev + 1 : Nat) 1 (hd E (tks.drop q)).pl) := hrC
              have hgC' := xgUndrew hgC
              have HINV : Hid (CallInv L w g E tks p lev XB PL X q 1 (hd E (tks.drop q)).pl wC) := ⟨l, us, ks, hrC, HOWc.out.grown hgC' (by simp; omega), xownGrown HOKc.out hgC' (fun k hk e => by have := (World.ownsRow.lt HOKc.out k hk).1; simp at e; omega), xgTrans HGc.out hgC', .inr ⟨⟨(hd E (tks.drop q)).pl, 1⟩, by simp, rfl, rfl, by
                have := HCONT.out
                rw [if_neg hlne] at this
                exact this _ (.anone HCM.out HSH.out)⟩⟩
              clear hrC hgC hgC' HOWc HOKc HGc HETSc c0 c1 c2 c3' c4 d0 d1 d2
              have hpq : sgB (hd E (tks.drop q)) bShut = true → q < tks.length := fun hc => by
                rw [sg_hd (fun t' h' => HWF.out t' (List.mem_of_mem_drop h')) ok_shut] at hc
                have hc' : (hd E (tks.drop q)).tx = bShut := of_decide_eq_true hc
                cases hd4 : tks.drop q with
                | nil => rw [hd4] at hc'; exact absurd hc' (by simp only [hd]; decide)
                | cons t1 ts1 => exact (drop_cons hd4).2
              go_wp2_with fail
              refine (close_any g E q tks _ (1 : Int) ((hd E (tks.drop q)).pl : Int) _ HRe.out hpq).mono ?_
              rintro e w8 ⟨rfl, hg8, hr8⟩
              have KEY2 : Hid (∃ p5 er5 bad5, RS w8 g E tks p5 (lev + 1 : Nat) er5 bad5 ∧ ∀ W, RS W g E tks p5 (lev : Nat) er5 bad5 → if (1 : Int) = 0 ∧ sgB (hd E (tks.drop q)) bShut = true then RS W g E tks (q + 1) lev (1 : Int) ((hd E (tks.drop q)).pl : Int) else RS W g E tks q lev (orE (1 : Int) 1) (orB (1 : Int) ((hd E (tks.drop q)).pl : Int) (hd E (tks.drop q)).pl)) := by
                by_cases hc : (1 : Int) = 0 ∧ sgB (hd E (tks.drop q)) bShut = true
                · rw [if_pos hc] at hr8
                  exact ⟨_, _, _, hr8, fun W hW => by rw [if_pos hc]; exact hW⟩
                · rw [if_neg hc] at hr8
                  exact ⟨_, _, _, hr8, fun W hW => by rw [if_neg hc]; exact hW⟩
              obtain ⟨p8, er8, bad8, hr9, hback⟩ := KEY2.out
              have HBK := hidMk hback
              have HG8 := hidMk hg8
              clear KEY2 hback hr8 hg8
              obtain ⟨b1, b2, b3, g1, g2, hgl8⟩ := hr9.f
              have HR9 : Hid (RS (w8.setCell ⟨g, 2, none⟩ (.int .i64 (lev : Int))) g E tks p8 lev er8 bad8) := hr9.put2
              have HG9 : Hid (wC.grownBy (w8.setCell ⟨g, 2, none⟩ (.int .i64 (lev : Int))) (some g)) := xgTrans HG8.out (xgSet _ _ _)
              clear hr9
              go_wp2_with fail
              go_ret
              exact call_fin (xb := XB) HINV.out (fun h => absurd h (by decide)) (by rw [HH.out]; exact HX.out) hgx hwx HG9.out (by have hbk := HBK.out _ HR9.out; simpa using hbk) HWF.out
    · have hne : ¬ er = 0 := by omega
      have hneb : (er == 0) = false := by simp [hne]
      have HINV : Hid (CallInv L w g E tks p lev XB PL X q er bad wr) := ⟨l, us, ks, hRS, hOwn, hOK, hG, .inr ⟨f, hf1, hf2, hf3, hf4⟩⟩
      have HNE := hidMk hne
      clear hf1 hf2 hf3 hf4 hRS hOwn hOK hG HOW7 HOK7 HG7 hne
      have hpq : sgB (hd E (tks.drop q)) bShut = true → q < tks.length := fun hc => by
        rw [sg_hd (fun t' h' => HWF.out t' (List.mem_of_mem_drop h')) ok_shut] at hc
        have hc' : (hd E (tks.drop q)).tx = bShut := of_decide_eq_true hc
        cases hd4 : tks.drop q with
        | nil => rw [hd4] at hc'; exact absurd hc' (by simp only [hd]; decide)
        | cons t1 ts1 => exact (drop_cons hd4).2
      go_wp2_with fail
      refine (close_any g E q tks _ er bad _ HR7.out hpq).mono ?_
      rintro e w8 ⟨rfl, hg8, hr8⟩
      have KEY2 : Hid (∃ p5 er5 bad5, RS w8 g E tks p5 (lev + 1 : Nat) er5 bad5 ∧ ∀ W, RS W g E tks p5 (lev : Nat) er5 bad5 → if er = 0 ∧ sgB (hd E (tks.drop q)) bShut = true then RS W g E tks (q + 1) lev er bad else RS W g E tks q lev (orE er 1) (orB er bad (hd E (tks.drop q)).pl)) := by
        by_cases hc : er = 0 ∧ sgB (hd E (tks.drop q)) bShut = true
        · rw [if_pos hc] at hr8
          exact ⟨_, _, _, hr8, fun W hW => by rw [if_pos hc]; exact hW⟩
        · rw [if_neg hc] at hr8
          exact ⟨_, _, _, hr8, fun W hW => by rw [if_neg hc]; exact hW⟩
      obtain ⟨p8, er8, bad8, hr9, hback⟩ := KEY2.out
      have HBK := hidMk hback
      have HG8 := hidMk hg8
      clear KEY2 hback hr8 hg8
      obtain ⟨b1, b2, b3, g1, g2, hgl8⟩ := hr9.f
      have HR9 : Hid (RS (w8.setCell ⟨g, 2, none⟩ (.int .i64 (lev : Int))) g E tks p8 lev er8 bad8) := hr9.put2
      have HG9 : Hid (wr.grownBy (w8.setCell ⟨g, 2, none⟩ (.int .i64 (lev : Int))) (some g)) := xgTrans HG8.out (xgSet _ _ _)
      clear hr9
      go_wp2_with fail
      go_ret
      exact call_fin (xb := XB) HINV.out (fun h => absurd h HNE.out) (by rw [HH.out]; exact HX.out) hgx hwx HG9.out (by have hbk := HBK.out _ HR9.out; simpa using hbk) HWF.out

end Go.Proofs.YtplaplhmjpfbjaaGreatDoor.Dc
