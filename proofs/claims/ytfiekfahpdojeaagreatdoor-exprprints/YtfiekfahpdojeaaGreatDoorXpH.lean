import Derived.Test.YtfiekfahpdojeaaGreatDoorXd1
namespace Go.Proofs.YtfiekfahpdojeaaGreatDoor
open Go.RowKit
set_option linter.unusedVariables false
set_option linter.unusedSimpArgs false
set_option maxRecDepth 100000

attribute [local go_sem] bodyPost_pan
/-- What reading arguments leaves. -/
def APost (L : ByteArray → Int → Int → ByteArray → Prop) (w : World) (g E lev : Nat) (ts : List Tk) (e : Ending) (w' : World) : Prop := w.grownBy w' (some g) ∧
  ((∃ f, e = .panicked [{ v := fltV f.pl f.why, recovered := false }] ∧ ∀ pl nm, Ps L E (.Z pl nm) lev ts (.error f)) ∨
   ∃ l us ts' pa pn pc, e = .returned (.slice pa pn pc) ∧ Lst w' (w.heap.size - 1) (.slice pa pn pc) us ∧ Nds w' (w.heap.size - 1) l us ∧ PS w' g E ts' lev ∧ ∀ pl nm, Ps L E (.Z pl nm) lev ts (.ok (.app pl nm l, ts')))
theorem infoNode : (Tryz.prog.info? 43).map (fun i => (i.zero, i.size, i.bytes)) = some (some .nilIface, 1, 16) := by kernel_rfl
theorem Lst.ofOwn {w : World} {B n : Nat} {v : Value} {us : List Value} (h : w.ownsRow (B + 1) 43 1 v n us) : Lst w B v us := by
  have hl := h.1
  rcases h.2 with ⟨h1, h2⟩ | ⟨g, c, cur, h1, h2, h3, h4, h5, h6⟩
  · exact .inl ⟨h1, List.eq_nil_of_length_eq_zero (by omega)⟩
  · refine .inr ⟨g, c, ?_, by omega, by omega, h5, fun i hi => ?_⟩
    · rw [h1, show us.length = n by omega]
    · rw [h1] at h
      rw [World.ownsRow.cellAt h i (by omega), List.getElem?_eq_getElem hi]

theorem agCell {w w' : World} {a : Addr} {v : Value} (h : w.cell? a = some v) (hb : w'.heap[a.block]? = w.heap[a.block]?) : w'.cell? a = some v := by
  rw [← h]; unfold World.cell?; rw [hb]
/-- All above a block are as they were. -/
def Ag (B : Nat) (w w' : World) : Prop := ∀ i, B < i → i < w.heap.size → w'.heap[i]? = w.heap[i]?
theorem Lst.ag {w w' : World} {B : Nat} {x : Value} {vs : List Value} (h : Lst w B x vs) (hg : Ag B w w') : Lst w' B x vs := by
  rcases h with h | ⟨b, c, h1, h2, h3, h4, h5⟩
  · exact .inl h
  · exact .inr ⟨b, c, h1, h2, h3, h4, fun i hi => agCell (h5 i hi) (hg b h2 (World.block_lt_of_cell? _ _ (h5 i hi)))⟩
theorem CloIs.ag {w w' : World} {B : Nat} (hg : Ag B w w') : ∀ {c : Clo} {v : Value}, CloIs w B c v → CloIs w' B c v
  | .raw n, v, h => h
  | .bool n b, v, ⟨a, h1, h2, h3⟩ => ⟨a, h1, h2, agCell h3 (hg a h2 (World.block_lt_of_cell? _ _ h3))⟩
  | .one n c, v, ⟨a, u, h1, h2, h3, h4⟩ => ⟨a, u, h1, h2, agCell h3 (hg a h2 (World.block_lt_of_cell? _ _ h3)), CloIs.ag hg h4⟩
mutual
theorem Nd.ag {w w' : World} {B : Nat} (hg : Ag B w w') : ∀ (x : X) (v : Value), Nd w B x v → Nd w' B x v
  | .lit k n t, v, h => h
  | .col pl nm, v, h => h
  | .pre pl s x, v, h => by
    rw [Nd] at h ⊢
    obtain ⟨tk, f, ps, u, h1, h2, h3, h4, h5⟩ := h
    exact ⟨tk, f, ps, u, h1, h2.ag hg, h3.ag hg, h4.ag hg, Nd.ag hg x u h5⟩
  | .inf pl s l r', v, h => by
    rw [Nd] at h ⊢
    obtain ⟨tk, f, ps, u, u', h1, h0, h2, h3, h4, h5, h6⟩ := h
    exact ⟨tk, f, ps, u, u', h1, h0, h2.ag hg, h3.ag hg, h4.ag hg, Nd.ag hg l u h5, Nd.ag hg r' u' h6⟩
  | .app pl nm l, v, h => by
    rw [Nd] at h ⊢
    obtain ⟨tk, gv, f, ps, us, h1, h2, h3, h4, h9⟩ := h
    exact ⟨tk, gv, f, ps, us, h1, fun o ho => ⟨(h2 o ho).1, (h2 o ho).2.1.ag hg, (h2 o ho).2.2.ag hg⟩, h3.ag hg, Nds.ag hg l us h4, h9⟩
theorem Nds.ag {w w' : World} {B : Nat} (hg : Ag B w w') : ∀ (l : List X) (us : List Value), Nds w B l us → Nds w' B l us
  | [], us, h => h
  | x :: l, us, h => by
    rw [Nds] at h ⊢
    obtain ⟨u, us', h1, h2, h3⟩ := h
    exact ⟨u, us', h1, Nd.ag hg x u h2, Nds.ag hg l us' h3⟩
end
/-- Parts that lie there whatever becomes of the parser and of the list. -/
def NR (w : World) (g B : Nat) (r : Value) (l : List X) (us : List Value) : Prop := ∀ w', (∀ i, i < w.heap.size → i ≠ g → some i ≠ r.ownBlock → w'.heap[i]? = w.heap[i]?) → Nds w' B l us
theorem NR.grown {w w' : World} {g B : Nat} {r : Value} {l : List X} {us : List Value} (h : NR w g B r l us) (hg : w.grownBy w' (some g)) : NR w' g B r l us := fun w'' hw => h w'' fun i hi h1 h2 => (hw i (Nat.lt_of_lt_of_le hi hg.size) h1 h2).trans (hg.block i hi (fun e => h1 (Option.some.inj e)))
theorem NR.out {w w' : World} {g B : Nat} {r : Value} {l : List X} {us : List Value} (h : NR w g B r l us) (hg : w.grownBy w' (some g)) : Nds w' B l us := h w' fun i hi h1 _ => hg.block i hi (fun e => h1 (Option.some.inj e))

set_option maxHeartbeats 4000000 in
theorem arguments_any {L : ByteArray → Int → Int → ByteArray → Prop} {G : World → Prop} {g E n : Nat} (hL : OneL L) (hG : ∀ W W', G W → W.grownBy W' (some g) → G W') (hG2 : ∀ W W' k, G W → W.grownBy W' (some k) → g < k → G W') (hP : Rdr L G g E 41 0 n) (ts : List Tk) (lev : Nat) (w : World) (hn : ts.length ≤ n) (hf : Few ts) (h : PS w g E ts lev) (hw : G w) :
    Calls Tryz.prog 165 #[.pointer (some ⟨g, 0, none⟩)] w (APost L w g E lev ts) := by
  obtain ⟨i0, hi0, hz0, hz1, hz2⟩ := info_parts infoNode
  have HP : Hid (Rdr L G g E 41 0 n) := hP
  have HG : Hid (∀ W W', G W → W.grownBy W' (some g) → G W') := hG
  have HG2 : Hid (∀ W W' k, G W → W.grownBy W' (some k) → g < k → G W') := hG2
  have HF : Hid (Few ts) := hf
  have HLL : Hid (OneL L) := hL
  have H : Hid (PS w g E ts lev) := h
  have HW : Hid (G w) := hw
  have hf2 := fld2
  have hgw : g ≤ w.heap.size - 1 := by have := h.lt; omega
  have hgw0 : 0 < w.heap.size := by have := h.lt; omega
  have h200 : ts.length ≤ 200 := by obtain ⟨_, _, _, _, _, _, _, _, _, h7, _⟩ := h; exact h7
  clear hP hG hG2 hf h hw hL
  by_cases hsh : (hd E ts).tx = bShut
  · cases ts with
    | nil => exact absurd hsh (by show ¬ (⟨#[]⟩ : ByteArray) = bShut; decide +kernel)
    | cons t ts =>
      have ht2 : (t.tx.toList == [41]) = true := by rw [xl]; exact decide_eq_true hsh
      have HT : Hid (t.tx = bShut) := hsh
      clear hsh
      go_enter Tryz.func165, Tryz.ntmps165
      go_wp2_with fail
      refine (next_any g E lev (t :: ts) _ H.out).mono ?_
      rintro e w1 ⟨rfl, hb1⟩
      rw [show hd E (t :: ts) = t from rfl]
      unfold tkV
      have HB1 : Hid (Below w.heap.size w w1) := hb1
      clear hb1
      go_wp2_with fail
      refine (take_any g E lev (t :: ts) _ (H.out.later HB1.out)).mono ?_
      rintro e w2 ⟨rfl, hg2, hp2⟩
      go_wp2_with fail
      go_ret
      exact ⟨xgTrans (xgBelow HB1.out) hg2, .inr ⟨[], [], ts, _, _, _, rfl, .inl ⟨rfl, rfl⟩, rfl, hp2, fun pl nm => .zend HT.out⟩⟩
  · have ht2 : ((hd E ts).tx.toList == [41]) = false := xnl hsh
    have HT : Hid (¬ (hd E ts).tx = bShut) := hsh
    clear hsh
    go_enter Tryz.func165, Tryz.ntmps165
    go_wp2_with fail
    refine (next_any g E lev ts _ H.out).mono ?_
    rintro e w1 ⟨rfl, hb1⟩
    unfold tkV
    have B5 : Hid (w.grownBy w1 (some g)) := xgBelow hb1
    have B4 : Hid (PS w1 g E ts lev) := H.out.later hb1
    have B6 : Hid (G w1) := HG.out _ _ HW.out B5.out
    have hz := hb1.size
    clear hb1
    go_wp2_with fail
    refine (HP.out ts lev _ hn HF.out B4.out B6.out).mono ?_
    intro e w2 hpp
    rcases hpp.iface with ⟨hg2, x, ts1, t1, p1, hp1, rfl, hn1, hs1⟩ | ⟨hg2, f, hp1, rfl⟩
    · have hw2 : w.heap.size ≤ w2.heap.size := Nat.le_trans hz hg2.size
      have HO0 : Hid ((w2.alloc (.cells #[.iface t1 p1] 43)).ownsRow (w.heap.size - 1 + 1) 43 1 (.slice (some ⟨w2.heap.size, 0, none⟩) 1 1) 1 [.iface t1 p1]) := World.ownsRow_lit (base := w.heap.size - 1 + 1) (e := 43) (size := 1) w2 #[.iface t1 p1] 1 (by omega) (by decide) rfl
      have HN1 : Hid (Nd w2 (w.heap.size - 1) x (.iface t1 p1)) := Nd.up (by omega) _ _ hn1
      have HG1 : Hid (w.grownBy w2 (some g)) := xgTrans B5.out hg2
      have HS1 : Hid (PS w2 g E ts1 lev) := hs1
      have HP1 : Hid (Ps L E (.D 0) lev ts (.ok (x, ts1))) := hp1
      clear hg2 hn1 hs1 hp1 hpp B4 B5 B6 H
      go_wp2_with fail
      go_loopg [3] ts1.length (fun k parts wr => ∃ (l : List X) (us : List Value) (ts2 : List Tk), ts2.length = k ∧ ts2.length ≤ n ∧ us.length + ts2.length ≤ 201 ∧ Few ts2 ∧ wr.ownsRow (w.heap.size - 1 + 1) 43 1 parts us.length us ∧ NR wr g (w.heap.size - 1) parts l us ∧ PS wr g E ts2 lev ∧ w.grownBy wr (some g) ∧ G wr ∧ ∀ pl nm o, Ps L E (.A pl nm l) lev ts2 o → Ps L E (.Z pl nm) lev ts o)
      case atStart =>
        have h1 := HP1.out.less
        refine ⟨[x], [.iface t1 p1], ts1, rfl, by omega, by simp; omega, Few.on HP1.out HF.out, HO0.out, ?_, HS1.out.later (xbel1 _ _), xgTrans HG1.out (xgBelow (xbel1 _ _)), HG.out _ _ HW.out (xgTrans HG1.out (xgBelow (xbel1 _ _))), fun pl nm o ho => .zok HT.out HP1.out ho⟩
        intro w' hw'
        rw [Nds]
        refine ⟨_, [], rfl, Nd.ag ?_ _ _ HN1.out, rfl⟩
        intro i hi hlt
        have h1 := hw' i (by simp; omega) (by omega) (by simp [Value.ownBlock]; omega)
        rw [h1]
        exact (xbel1 w2 _).block i hlt
      case round =>
        obtain ⟨l, us, ts2, hk, hle, h201, hfew, hown, hnds, hps, hgr, hgw', himp⟩ := hrel
        have A1 : Hid (ts2.length = gk) := hk
        have A2 : Hid (Few ts2) := hfew
        have A3 : Hid (NR wr g (w.heap.size - 1) u3 l us) := hnds
        have A4 : Hid (PS wr g E ts2 lev) := hps
        have A5 : Hid (w.grownBy wr (some g)) := hgr
        have A6 : Hid (G wr) := hgw'
        have A7 : Hid (∀ pl nm o, Ps L E (.A pl nm l) lev ts2 o → Ps L E (.Z pl nm) lev ts o) := himp
        have A8 : Hid (wr.ownsRow (w.heap.size - 1 + 1) 43 1 u3 us.length us) := hown
        clear hk hfew hnds hps hgr hgw' himp hown HN1 HS1 HP1 HG1 HO0
        go_wp2_with fail
        refine (next_any g E lev ts2 _ A4.out).mono ?_
        rintro e w3 ⟨rfl, hb3⟩
        have B3 : Hid (NR w3 g (w.heap.size - 1) u3 l us) := A3.out.grown (xgBelow hb3)
        have B4 : Hid (PS w3 g E ts2 lev) := A4.out.later hb3
        have B5 : Hid (w.grownBy w3 (some g)) := xgTrans A5.out (xgBelow hb3)
        have B6 : Hid (G w3) := HG.out _ _ A6.out (xgBelow hb3)
        have B8 : Hid (w3.ownsRow (w.heap.size - 1 + 1) 43 1 u3 us.length us) := xownLater A8.out hb3
        clear hb3 A3 A4 A5 A6 A8
        unfold tkV
        by_cases hcm : (hd E ts2).tx = bComma
        · cases ts2 with
          | nil => exact absurd hcm (by show ¬ (⟨#[]⟩ : ByteArray) = bComma; decide +kernel)
          | cons t3 ts3 =>
            have ht3 : ((hd E (t3 :: ts3)).tx.toList == [44]) = true := by rw [xl]; exact decide_eq_true hcm
            have HC : Hid (t3.tx = bComma) := hcm
            clear hcm
            go_wp2_with fail
            refine (take_any g E lev (t3 :: ts3) _ B4.out).mono ?_
            rintro e w4 ⟨rfl, hg4, hp4⟩
            have C3 : Hid (NR w4 g (w.heap.size - 1) u3 l us) := B3.out.grown hg4
            have C4 : Hid (PS w4 g E ts3 lev) := hp4
            have C5 : Hid (w.grownBy w4 (some g)) := xgTrans B5.out hg4
            have C6 : Hid (G w4) := HG.out _ _ B6.out hg4
            have C8 : Hid (w4.ownsRow (w.heap.size - 1 + 1) 43 1 u3 us.length us) := xownGrown B8.out hg4 (fun k hk e => by have h1 := (World.ownsRow.lt B8.out k hk).1; have h2 := Option.some.inj e; omega)
            clear hg4 hp4 B3 B4 B5 B6 B8
            rw [show hd E (t3 :: ts3) = t3 from rfl] at *
            unfold tkV
            have D2 : Hid (Few ts3) := fun t ht => A2.out t (by simp [ht])
            have hle3 : ts3.length ≤ n := by simp at hle; omega
            have h201' : us.length + 1 + ts3.length ≤ 201 := by simp at h201; omega
            have D1 : Hid (ts3.length < gk) := by have := A1.out; unfold Hid; simp at this; omega
            clear A1 A2 hle h201
            obtain ⟨pa, pn, pc, hu3⟩ := (Lst.ofOwn C8.out).form
            subst hu3
            go_wp2_with fail
            refine (HP.out ts3 lev _ hle3 D2.out C4.out C6.out).mono ?_
            intro e w5 hpp
            rcases hpp.iface with ⟨hg5, y, ts5, t5, p5, hp5, rfl, hn5, hs5⟩ | ⟨hg5, f, hp5, rfl⟩
            · have E3 : Hid (NR w5 g (w.heap.size - 1) (.slice pa pn pc) l us) := C3.out.grown hg5
              have E9 : Hid (Nd w5 (w4.heap.size - 1) y (.iface t5 p5)) := hn5
              have hkw : ∀ k, (Value.slice pa pn pc).ownBlock = some k → k < w4.heap.size := fun k hk => (World.ownsRow.lt C8.out k hk).2
              have hw4 := C5.out.size
              have hg4l := C4.out.lt
              have hw45 := hg5.size
              have E4 : Hid (PS w5 g E ts5 lev) := hs5
              have E5 : Hid (w.grownBy w5 (some g)) := xgTrans C5.out hg5
              have E6 : Hid (G w5) := HG.out _ _ C6.out hg5
              have E8 : Hid (w5.ownsRow (w.heap.size - 1 + 1) 43 1 (.slice pa pn pc) us.length us) := xownGrown C8.out hg5 (fun k hk e => by have h1 := (World.ownsRow.lt C8.out k hk).1; have h2 := Option.some.inj e; omega)
              have EP : Hid (Ps L E (.D 0) lev ts3 (.ok (y, ts5))) := hp5
              have hw5 : w.heap.size ≤ w5.heap.size := E5.out.size
              have hg5l := hs5.lt
              clear hg5 hn5 hs5 hp5 hpp C3 C4 C5 C6 C8
              go_wp2_with (first
                | (at_builtin; refine wpList_append_own_at _ rfl _ _ 98 rfl (w.heap.size - 1 + 1) 43 i0 .nilIface 1 16 Tryz.underlying98 hi0 hz0 hz1 hz2 rfl (by decide) _ us.length us rfl (World.ownsRow.alloc E8.out _) ⟨w5.heap.size, 0, none⟩ 1 1 [.iface t5 p5] rfl rfl (cell_one_new _ _ _) ?c2 ?c3 ?c4 ?c5 ?_))
              case c2 => intro u hu; simp at hu; subst hu; rfl
              case c3 => unfold maxLen; omega
              case c4 => omega
              case c5 => simp; omega
              · intro v' w6 hown' hgrow _ hat
                have hne : ∀ k, (Value.slice pa pn pc).ownBlock = some k → w.heap.size ≤ k := fun k hk => by have := (World.ownsRow.lt E8.out k hk).1; omega
                have hb5 := xbel1 w5 (.cells #[.iface t5 p5] 43)
                have hown7 : w6.ownsRow (w.heap.size - 1 + 1) 43 1 v' (us ++ [Value.iface t5 p5]).length (us ++ [Value.iface t5 p5]) := by rw [List.length_append]; exact hown'
                have hG6 : w.grownBy w6 (some g) := xgNew (xgTrans E5.out (xgBelow hb5)) hgrow hne
                have hP6 : PS w6 g E ts5 lev := (E4.out.later hb5).grown hgrow (fun k hk => by have := hne k hk; omega)
                have hgG : G w6 := by
                  have h0 := HG.out _ _ E6.out (xgBelow hb5)
                  cases hob : (Value.slice pa pn pc).ownBlock with
                  | none => rw [hob] at hgrow; exact HG.out _ _ h0 ⟨hgrow.os, hgrow.tape, hgrow.output, hgrow.size, fun i hi _ => hgrow.block i hi (by simp)⟩
                  | some k => rw [hob] at hgrow; exact HG2.out _ _ k h0 hgrow (by have := hne k hob; omega)
                have hNR : NR w6 g (w.heap.size - 1) v' (l ++ [y]) (us ++ [.iface t5 p5]) := by
                  intro w' hw'
                  have key : ∀ i, i < w5.heap.size → i ≠ g → some i ≠ (Value.slice pa pn pc).ownBlock → w'.heap[i]? = w5.heap[i]? := fun i hi h1 h2 => by
                    have h3 : w6.heap[i]? = w5.heap[i]? := (hgrow.block i (by simp; omega) h2).trans (hb5.block i hi)
                    rw [← h3]
                    refine hw' i (Nat.lt_of_lt_of_le (by simp; omega) hgrow.size) h1 ?_
                    rcases hat with hat | hat
                    · rw [hat]; exact h2
                    · rw [hat]; simp; omega
                  refine Nds.snoc (E3.out w' key) (Nd.up (by omega) _ _ (Nd.ag ?_ _ _ E9.out))
                  intro i hi hlt
                  exact key i hlt (by omega) (fun e => by have := hkw i e.symm; omega)
                have FW : Hid (∃ (l : List X) (us : List Value) (ts2 : List Tk), ts2.length = ts5.length ∧ ts2.length ≤ n ∧ us.length + ts2.length ≤ 201 ∧ Few ts2 ∧ w6.ownsRow (w.heap.size - 1 + 1) 43 1 v' us.length us ∧ NR w6 g (w.heap.size - 1) v' l us ∧ PS w6 g E ts2 lev ∧ w.grownBy w6 (some g) ∧ G w6 ∧ ∀ pl nm o, Ps L E (.A pl nm l) lev ts2 o → Ps L E (.Z pl nm) lev ts o) := by
                  have h1 := EP.out.less
                  exact ⟨l ++ [y], us ++ [.iface t5 p5], ts5, rfl, by omega, by simp; omega, Few.on EP.out D2.out, hown7, hNR, hP6, hG6, hgG, fun pl nm o ho => A7.out pl nm _ (.aok HC.out EP.out ho)⟩
                clear hown' hgrow hat hne hb5 hown7 hG6 hP6 hgG hNR E3 E9 E4 E5 E6 E8
                go_wp2_with fail
                go_roundg ts5.length
                case measure => have h1 := EP.out.less; have h2 := D1.out; omega
                case rel => exact FW.out
            · refine ⟨rfl, ?_⟩
              exact ⟨xgTrans C5.out hg5, .inl ⟨f, rfl, fun pl nm => A7.out pl nm _ (.abad HC.out hp5)⟩⟩
        · have ht3 : ((hd E ts2).tx.toList == [44]) = false := xnl hcm
          have HC : Hid (¬ (hd E ts2).tx = bComma) := hcm
          clear hcm
          go_wp2_with fail
          refine (want_any g E lev ts2 _ _ B4.out).mono ?_
          rintro e w4 ⟨hg4, hp4⟩
          by_cases hsh2 : (hd E ts2).tx = ⟨#[41]⟩
          · rw [if_pos hsh2] at hp4
            obtain ⟨rfl, hp4⟩ := hp4
            cases ts2 with
            | nil => exact absurd hsh2 (by show ¬ (⟨#[]⟩ : ByteArray) = ⟨#[41]⟩; decide +kernel)
            | cons t3 ts3 =>
              have FIN : Hid (∀ pa pn pc, u3 = .slice pa pn pc → APost L w g E lev ts (.returned (.slice pa pn pc)) w4) := fun pa pn pc hu => ⟨xgTrans B5.out hg4, .inr ⟨l, us, ts3, pa, pn, pc, rfl, (Lst.ofOwn (hu ▸ B8.out)).grownB hg4 (fun k hk => by cases hk; exact hgw), B3.out.out hg4, hp4, fun pl nm => A7.out pl nm _ (.aend hsh2)⟩⟩
              obtain ⟨pa, pn, pc, rfl⟩ := (Lst.ofOwn B8.out).form
              clear hp4 hg4 B3 B4 B5 B6 B8
              go_wp2_with fail
              go_ret
              exact FIN.out _ _ _ rfl
          · rw [if_neg hsh2] at hp4
            subst hp4
            refine ⟨rfl, ?_⟩
            exact ⟨xgTrans B5.out hg4, .inl ⟨⟨(hd E ts2).pl, 1⟩, rfl, fun pl nm => A7.out pl nm _ (.anone HC.out hsh2)⟩⟩
    · refine ⟨rfl, ?_⟩
      exact ⟨xgTrans B5.out hg2, .inl ⟨f, rfl, fun pl nm => .zbad HT.out hp1⟩⟩
end Go.Proofs.YtfiekfahpdojeaaGreatDoor
