import Derived.Test.YtfiekfahpdojeaaGreatDoorXpH
namespace Go.Proofs.YtfiekfahpdojeaaGreatDoor
open Go.RowKit
set_option linter.unusedVariables false
set_option linter.unusedSimpArgs false
set_option maxRecDepth 100000

attribute [local go_sem] bodyPost_pan
set_option maxHeartbeats 4000000 in
theorem named_any {L : ByteArray → Int → Int → ByteArray → Prop} {G : World → Prop} {g E n : Nat} (hL : OneL L) (hG : ∀ W W', G W → W.grownBy W' (some g) → G W') (hG2 : ∀ W W' k, G W → W.grownBy W' (some k) → g < k → G W') (hP : Rdr L G g E 41 0 n) (t : Tk) (ts : List Tk) (lev : Nat) (w : World) (hn : ts.length ≤ n) (hf : Few (t :: ts)) (h : PS w g E ts lev) (hw : G w)
    (h1 : ¬ isLit t) (h2 : t.tx ≠ bOpen) (h3 : t.kd = 1) (h4 : ¬ res t.tx) :
    Calls Tryz.prog 163 #[.pointer (some ⟨g, 0, none⟩), tkV t] w (PPost L w g E (.D 7) lev (t :: ts)) := by
  have H : Hid (PS w g E ts lev) := h
  have HW : Hid (G w) := hw
  have HG : Hid (∀ W W', G W → W.grownBy W' (some g) → G W') := hG
  have Q1 : Hid (¬ isLit t) := h1
  have Q2 : Hid (t.tx ≠ bOpen) := h2
  have Q3 : Hid (t.kd = 1) := h3
  have Q4 : Hid (¬ res t.tx) := h4
  have hgl := h.lt
  have hgw : g ≤ w.heap.size - 1 := by omega
  have HA : Hid (∀ (ts' : List Tk) (lev' : Nat) (W : World), ts'.length ≤ n → Few ts' → PS W g E ts' lev' → G W → Calls Tryz.prog 165 #[.pointer (some ⟨g, 0, none⟩)] W (APost L W g E lev' ts')) := fun ts' lev' W a b c d => arguments_any hL hG hG2 hP ts' lev' W a b c d
  have HF : Hid (Few (t :: ts)) := hf
  have hf2 := fld2
  have hsz : t.tx.size ≤ 200 := hf t (by simp)
  clear hL hG hG2 hP hf h hw h1 h2 h3 h4
  unfold tkV
  by_cases hlen : 12 < t.tx.size
  · have hli : (12 : Int) < (t.tx.size : Int) := by omega
    go_enter Tryz.func163, Tryz.ntmps163
    go_wp2_with fail
    exact ⟨rfl, xgBelow (xbel1 _ _), .error ⟨t.pl, 4⟩, .nlong Q1.out Q2.out Q3.out Q4.out hlen, rfl⟩
  · have hli : ¬ (12 : Int) < (t.tx.size : Int) := by omega
    have HLN : Hid (t.tx.size ≤ 12) := by unfold Hid; omega
    clear hlen
    by_cases hop : (hd E ts).tx = bOpen
    · cases ts with
      | nil => exact absurd hop (by show ¬ (⟨#[]⟩ : ByteArray) = bOpen; decide +kernel)
      | cons t1 ts1 =>
        have ho2 : ((hd E (t1 :: ts1)).tx.toList == [40]) = true := by rw [xl]; exact decide_eq_true hop
        have HOP : Hid (t1.tx = bOpen) := hop
        clear hop
        go_enter Tryz.func163, Tryz.ntmps163
        go_wp2_with fail
        refine (next_any g E lev (t1 :: ts1) _ (H.out.later (xbel1 _ _))).mono ?_
        rintro e w1 ⟨rfl, hb1⟩
        have s0 : w1.cell? ⟨w.heap.size, 0, none⟩ = some (.int .i64 t.pl) := xcell hb1 (by go_simp)
        have s1 : w1.cell? ⟨w.heap.size, 1, none⟩ = some (.int .i64 t.kd) := xcell hb1 (by go_simp)
        have s2 : w1.cell? ⟨w.heap.size, 2, none⟩ = some (.string t.tx) := xcell hb1 (by go_simp)
        have HB1 : Hid (Below w.heap.size w w1) := (xbel1 w _).trans (hb1.mono (by simp))
        clear hb1
        unfold tkV
        have hne8 : some w.heap.size ≠ some g := fun e => by have := Option.some.inj e; omega
        go_wp2_with fail
        refine (take_any g E lev (t1 :: ts1) _ (H.out.later HB1.out)).mono ?_
        rintro e w2 ⟨rfl, hg2, hp2⟩
        replace s0 := hg2.cell s0 hne8
        replace s1 := hg2.cell s1 hne8
        replace s2 := hg2.cell s2 hne8
        have B4 : Hid (PS w2 g E ts1 lev) := hp2
        have B5 : Hid (w.grownBy w2 (some g)) := xgTrans (xgBelow HB1.out) hg2
        clear hg2 hp2 HB1
        rw [show hd E (t1 :: ts1) = t1 from rfl] at *
        have HTK : Hid (∀ W, PS W g E ts1 lev → Calls Tryz.prog 131 #[.pointer (some ⟨g, 0, none⟩), .agg #[.int .i64 t1.pl, .int .i64 t1.kd, .string t1.tx]] W (EnterPost W g E lev ts1 t1.pl)) := fun W hW => enter_any g E lev ts1 t1 W hW
        unfold tkV
        go_wp2_with fail
        refine (HTK.out _ B4.out).mono ?_
        rintro e w3 ⟨hg3, hp3⟩
        replace s0 := hg3.cell s0 hne8
        replace s1 := hg3.cell s1 hne8
        replace s2 := hg3.cell s2 hne8
        have C5 : Hid (w.grownBy w3 (some g)) := xgTrans B5.out hg3
        clear B4 B5 hg3
        by_cases hl : lev = 12
        · rw [if_pos hl] at hp3
          subst hp3
          subst hl
          exact ⟨rfl, C5.out, .error ⟨t1.pl, 4⟩, .ndeep Q1.out Q2.out Q3.out Q4.out HLN.out HOP.out, rfl⟩
        · rw [if_neg hl] at hp3
          obtain ⟨rfl, hp3⟩ := hp3
          have C4 : Hid (PS w3 g E ts1 (lev + 1)) := hp3
          have C6 : Hid (G w3) := HG.out _ _ HW.out C5.out
          have HLV : Hid (lev ≠ 12) := hl
          have HF1 : Hid (Few ts1) := fun x hx => HF.out x (by simp [hx])
          have hn1 : ts1.length ≤ n := by simp at hn; omega
          have hz3 := C5.out.size
          clear hl hp3
          go_wp2_with fail
          refine (HA.out ts1 (lev + 1) _ hn1 HF1.out C4.out C6.out).mono ?_
          rintro e w4 ⟨hg4, hq4⟩
          replace s0 := hg4.cell s0 hne8
          replace s1 := hg4.cell s1 hne8
          replace s2 := hg4.cell s2 hne8
          rcases hq4 with ⟨f, rfl, hf4⟩ | ⟨l, us, ts5, pa, pn, pc, rfl, hl4, hn4, hp4, hps⟩
          · exact ⟨rfl, xgTrans C5.out hg4, .error f, .nargs Q1.out Q2.out Q3.out Q4.out HLN.out HOP.out HLV.out (hf4 _ _), rfl⟩
          · have D3 : Hid (Lst w4 (w.heap.size - 1) (.slice pa pn pc) us) := hl4.up (by omega)
            have D9 : Hid (Nds w4 (w.heap.size - 1) l us) := Nds.up (by omega) _ _ hn4
            have D4 : Hid (PS w4 g E ts5 (lev + 1)) := hp4
            have D5 : Hid (w.grownBy w4 (some g)) := xgTrans C5.out hg4
            have DP : Hid (∀ pl nm, Ps L E (.Z pl nm) (lev + 1) ts1 (.ok (.app pl nm l, ts5))) := hps
            clear hl4 hn4 hp4 hps hg4 C4 C5 C6
            go_wp2_with fail
            refine (leave_any g E lev ts5 _ D4.out).mono ?_
            rintro e w5 ⟨rfl, hg5, hp5⟩
            replace s0 := hg5.cell s0 hne8
            replace s1 := hg5.cell s1 hne8
            replace s2 := hg5.cell s2 hne8
            have E3 : Hid (Lst w5 (w.heap.size - 1) (.slice pa pn pc) us) := D3.out.grownB hg5 (fun k hk => by cases hk; exact hgw)
            have E9 : Hid (Nds w5 (w.heap.size - 1) l us) := Nds.grownB hg5 (fun k hk => by cases hk; exact hgw) _ _ D9.out
            have E4 : Hid (PS w5 g E ts5 lev) := hp5
            have E5 : Hid (w.grownBy w5 (some g)) := xgTrans D5.out hg5
            have hw5 : w.heap.size - 1 < w5.heap.size := by have := E5.out.size; omega
            have HC : Hid (Calls Tryz.prog 166 #[.agg #[.int .i64 t.pl, .int .i64 t.kd, .string t.tx], .slice pa pn pc] w5 fun e w' => Below w5.heap.size w5 w' ∧ ∃ p, e = .returned p ∧ Nd w' (w.heap.size - 1) (.app t.pl t.tx l) (.iface 109 p)) := newCall_any t l pa pn pc us (w.heap.size - 1) w5 hw5 E3.out E9.out
            clear hg5 hp5 D3 D9 D4 D5 E3 E9
            go_wp2_with fail
            refine HC.out.mono ?_
            rintro e w6 ⟨hb6, p6, rfl, hn6⟩
            have FIN : Hid (PPost L w g E (.D 7) lev (t :: t1 :: ts1) (.returned (.iface 109 p6)) w6) := ⟨xgTrans E5.out (xgBelow hb6), .ok (_, ts5), .nargs Q1.out Q2.out Q3.out Q4.out HLN.out HOP.out HLV.out (DP.out _ _), _, rfl, hn6, E4.out.later hb6⟩
            clear hb6 hn6 HC E4 E5
            go_wp2_with fail
            go_ret
            exact FIN.out
    · have ho2 : ((hd E ts).tx.toList == [40]) = false := xnl hop
      have HOP : Hid ((hd E ts).tx ≠ bOpen) := hop
      clear hop
      go_enter Tryz.func163, Tryz.ntmps163
      go_wp2_with fail
      refine (next_any g E lev ts _ (H.out.later (xbel1 _ _))).mono ?_
      rintro e w1 ⟨rfl, hb1⟩
      have s0 : w1.cell? ⟨w.heap.size, 0, none⟩ = some (.int .i64 t.pl) := xcell hb1 (by go_simp)
      have s1 : w1.cell? ⟨w.heap.size, 1, none⟩ = some (.int .i64 t.kd) := xcell hb1 (by go_simp)
      have s2 : w1.cell? ⟨w.heap.size, 2, none⟩ = some (.string t.tx) := xcell hb1 (by go_simp)
      have HB1 : Hid (Below w.heap.size w w1) := (xbel1 w _).trans (hb1.mono (by simp))
      clear hb1
      unfold tkV
      go_wp2_with fail
      go_ret
      exact ⟨xgBelow HB1.out, .ok (.col t.pl t.tx, ts), .ncol Q1.out Q2.out Q3.out Q4.out HLN.out HOP.out, _, rfl, rfl, H.out.later HB1.out⟩
end Go.Proofs.YtfiekfahpdojeaaGreatDoor
