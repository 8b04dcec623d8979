import Derived.Test.YtplaplhmjpfbjaaGreatDoorXpE
namespace Go.Proofs.YtplaplhmjpfbjaaGreatDoor
open Go.RowKit
set_option linter.unusedVariables false
set_option linter.unusedSimpArgs false
set_option maxRecDepth 100000

attribute [local go_sem] bodyPost_pan

theorem PPost.after {L : ByteArray → Int → Int → ByteArray → Prop} {w w1 w' : World} {g E : Nat} {m : Mode} {lev : Nat} {ts : List Tk} {e : Ending} (h : PPost L w1 g E m lev ts e w') (hb : Below w.heap.size w w1) : PPost L w g E m lev ts e w' := by
  obtain ⟨hg, o, hp, ho⟩ := h
  refine ⟨xgTrans (xgBelow hb) hg, o, hp, ?_⟩
  cases o with
  | error f => exact ho
  | ok q =>
    obtain ⟨x, ts'⟩ := q
    obtain ⟨v, h1, h2, h3⟩ := ho
    exact ⟨v, h1, Nd.up (by have := hb.size; omega) _ _ h2, h3⟩
theorem PPost.map {L : ByteArray → Int → Int → ByteArray → Prop} {w w' : World} {g E : Nat} {m m' : Mode} {lev : Nat} {ts ts0 : List Tk} {e : Ending} (h : PPost L w g E m lev ts e w') (hm : ∀ o, Ps L E m lev ts o → Ps L E m' lev ts0 o) : PPost L w g E m' lev ts0 e w' := by
  obtain ⟨hg, o, hp, ho⟩ := h
  exact ⟨hg, o, hm o hp, ho⟩
set_option maxHeartbeats 2000000 in
theorem not_any {L : ByteArray → Int → Int → ByteArray → Prop} {G : World → Prop} {g E n : Nat} (hL : OneL L) (hG : ∀ W W', G W → W.grownBy W' (some g) → G W') (hN : ∀ m, m < n → Rdr L G g E 101 2 m) (hP : Rdr L G g E 106 3 n) : Rdr L G g E 101 2 n := by
  intro ts lev w hn hf h hw
  have hpr : pr 2 bNot := by unfold pr; simp
  have hmf := xmf
  have hf2 := fld2
  have H : Hid (PS w g E ts lev) := h
  have HG : Hid (∀ W W', G W → W.grownBy W' (some g) → G W') := hG
  have HW : Hid (G w) := hw
  by_cases ht : (hd E ts).tx = bNot
  · cases ts with
    | nil => exact absurd ht (by show ¬ (⟨#[]⟩ : ByteArray) = bNot; decide +kernel)
    | cons t ts =>
      have HB : Hid (∀ W, Below w.heap.size w W → Calls Tryz.prog 105 #[.pointer (some ⟨g, 0, none⟩), .int .i64 2, .func (.func 101) #[.pointer (some ⟨g, 0, none⟩)] #[]] W (PPost L W g E (.D 2) lev (t :: ts))) :=
        fun W hW => behind_any hL hG E _ 2 bNot hpr t ts lev W ht ent_not (hN ts.length (by simp at hn; omega)) hf (h.later hW) (hG _ _ hw (xgBelow hW))
      have ht2 : (t.tx.toList == [110, 111, 116]) = true := by rw [xl]; exact decide_eq_true ht
      clear hL hG hN hP hf h hw hpr ht
      go_enter Tryz.func101, Tryz.ntmps101
      go_wp2_with fail
      refine (next_any g E lev (t :: ts) _ H.out).mono ?_
      rintro e w1 ⟨rfl, hb1⟩
      rw [show hd E (t :: ts) = t from rfl]
      unfold tkV
      have HB1 : Hid (Below w.heap.size w w1) := hb1
      clear hb1
      go_wp2_with fail
      refine (HB.out w1 HB1.out).mono ?_
      intro e w2 hpp
      have HPP : Hid (PPost L w g E (.D 2) lev (t :: ts) e w2) := hpp.after HB1.out
      rcases hpp.iface with ⟨_, x, ts1, t', p, _, rfl, _, _⟩ | ⟨_, f, _, rfl⟩
      · clear hpp
        go_wp2_with fail
        go_ret
        exact HPP.out
      · exact ⟨rfl, HPP.out⟩
  · have HB : Hid (∀ W, Below w.heap.size w W → Calls Tryz.prog 106 #[.pointer (some ⟨g, 0, none⟩)] W (PPost L W g E (.D 3) lev ts)) :=
      fun W hW => hP ts lev W hn hf (h.later hW) (hG _ _ hw (xgBelow hW))
    have ht2 : ((hd E ts).tx.toList == [110, 111, 116]) = false := xnl ht
    have HT : Hid (¬ (hd E ts).tx = bNot) := ht
    have HPR : Hid (pr 2 bNot) := hpr
    clear hL hG hN hP hf h hw hpr ht
    go_enter Tryz.func101, Tryz.ntmps101
    go_wp2_with fail
    refine (next_any g E lev ts _ H.out).mono ?_
    rintro e w1 ⟨rfl, hb1⟩
    unfold tkV
    have HB1 : Hid (Below w.heap.size w w1) := hb1
    clear hb1
    go_wp2_with fail
    refine (HB.out w1 HB1.out).mono ?_
    intro e w2 hpp
    have HPP : Hid (PPost L w g E (.D 2) lev ts e w2) := (hpp.after HB1.out).map (fun o ho => .pnone HPR.out HT.out ho)
    rcases hpp.iface with ⟨_, x, ts1, t', p, _, rfl, _, _⟩ | ⟨_, f, _, rfl⟩
    · clear hpp
      go_wp2_with fail
      go_ret
      exact HPP.out
    · exact ⟨rfl, HPP.out⟩

set_option maxHeartbeats 2000000 in
theorem minus_any {L : ByteArray → Int → Int → ByteArray → Prop} {G : World → Prop} {g E n : Nat} (hL : OneL L) (hG : ∀ W W', G W → W.grownBy W' (some g) → G W') (hN : ∀ m, m < n → Rdr L G g E 154 6 m) (hP : Rdr L G g E 158 7 n) : Rdr L G g E 154 6 n := by
  intro ts lev w hn hf h hw
  have hpr : pr 6 bMinus := by unfold pr; simp
  have hmf := xmf
  have hf2 := fld2
  have H : Hid (PS w g E ts lev) := h
  have HG : Hid (∀ W W', G W → W.grownBy W' (some g) → G W') := hG
  have HW : Hid (G w) := hw
  by_cases ht : (hd E ts).tx = bMinus
  · cases ts with
    | nil => exact absurd ht (by show ¬ (⟨#[]⟩ : ByteArray) = bMinus; decide +kernel)
    | cons t ts =>
      have HB : Hid (∀ W, Below w.heap.size w W → Calls Tryz.prog 105 #[.pointer (some ⟨g, 0, none⟩), .int .i64 6, .func (.func 154) #[.pointer (some ⟨g, 0, none⟩)] #[]] W (PPost L W g E (.D 6) lev (t :: ts))) :=
        fun W hW => behind_any hL hG E _ 6 bMinus hpr t ts lev W ht ent_minus (hN ts.length (by simp at hn; omega)) hf (h.later hW) (hG _ _ hw (xgBelow hW))
      have ht2 : (t.tx.toList == [45]) = true := by rw [xl]; exact decide_eq_true ht
      clear hL hG hN hP hf h hw hpr ht
      go_enter Tryz.func154, Tryz.ntmps154
      go_wp2_with fail
      refine (next_any g E lev (t :: ts) _ H.out).mono ?_
      rintro e w1 ⟨rfl, hb1⟩
      rw [show hd E (t :: ts) = t from rfl]
      unfold tkV
      have HB1 : Hid (Below w.heap.size w w1) := hb1
      clear hb1
      go_wp2_with fail
      refine (HB.out w1 HB1.out).mono ?_
      intro e w2 hpp
      have HPP : Hid (PPost L w g E (.D 6) lev (t :: ts) e w2) := hpp.after HB1.out
      rcases hpp.iface with ⟨_, x, ts1, t', p, _, rfl, _, _⟩ | ⟨_, f, _, rfl⟩
      · clear hpp
        go_wp2_with fail
        go_ret
        exact HPP.out
      · exact ⟨rfl, HPP.out⟩
  · have HB : Hid (∀ W, Below w.heap.size w W → Calls Tryz.prog 158 #[.pointer (some ⟨g, 0, none⟩)] W (PPost L W g E (.D 7) lev ts)) :=
      fun W hW => hP ts lev W hn hf (h.later hW) (hG _ _ hw (xgBelow hW))
    have ht2 : ((hd E ts).tx.toList == [45]) = false := xnl ht
    have HT : Hid (¬ (hd E ts).tx = bMinus) := ht
    have HPR : Hid (pr 6 bMinus) := hpr
    clear hL hG hN hP hf h hw hpr ht
    go_enter Tryz.func154, Tryz.ntmps154
    go_wp2_with fail
    refine (next_any g E lev ts _ H.out).mono ?_
    rintro e w1 ⟨rfl, hb1⟩
    unfold tkV
    have HB1 : Hid (Below w.heap.size w w1) := hb1
    clear hb1
    go_wp2_with fail
    refine (HB.out w1 HB1.out).mono ?_
    intro e w2 hpp
    have HPP : Hid (PPost L w g E (.D 6) lev ts e w2) := (hpp.after HB1.out).map (fun o ho => .pnone HPR.out HT.out ho)
    rcases hpp.iface with ⟨_, x, ts1, t', p, _, rfl, _, _⟩ | ⟨_, f, _, rfl⟩
    · clear hpp
      go_wp2_with fail
      go_ret
      exact HPP.out
    · exact ⟨rfl, HPP.out⟩
end Go.Proofs.YtplaplhmjpfbjaaGreatDoor
namespace Go.Proofs.YtplaplhmjpfbjaaGreatDoor
open Go.RowKit
set_option linter.unusedVariables false
set_option linter.unusedSimpArgs false
set_option maxRecDepth 100000

attribute [local go_sem] bodyPost_pan
set_option maxHeartbeats 4000000 in
theorem comparison_any {L : ByteArray → Int → Int → ByteArray → Prop} {G : World → Prop} {g E n : Nat} (hL : OneL L) (hG : ∀ W W', G W → W.grownBy W' (some g) → G W') (hP : Rdr L G g E 131 4 n) : Rdr L G g E 106 3 n := by
  intro ts lev w hn hf h hw
  have HP : Hid (Rdr L G g E 131 4 n) := hP
  have HG : Hid (∀ W W', G W → W.grownBy W' (some g) → G W') := hG
  have HF : Hid (Few ts) := hf
  have HLL : Hid (OneL L) := hL
  have H : Hid (PS w g E ts lev) := h
  have HW : Hid (G w) := hw
  have hf2 := fld2
  have hgw : g ≤ w.heap.size - 1 := by have := h.lt; omega
  have hgw0 : 0 < w.heap.size := by have := h.lt; omega
  clear hP hG hf h hw hL
  go_enter Tryz.func106, Tryz.ntmps106
  go_wp2_with fail
  refine (HP.out ts lev _ hn HF.out H.out HW.out).mono ?_
  intro e w1 hpp
  rcases hpp.iface with ⟨hg1, x, ts1, t1, p1, hp1, rfl, hn1, hs1⟩ | ⟨hg1, f, hp1, rfl⟩
  · have HG1 : Hid (w.grownBy w1 (some g)) := hg1
    have HN1 : Hid (Nd w1 (w.heap.size - 1) x (.iface t1 p1)) := hn1
    have HS1 : Hid (PS w1 g E ts1 lev) := hs1
    have HP1 : Hid (Ps L E (.D 4) lev ts (.ok (x, ts1))) := hp1
    clear hg1 hn1 hs1 hp1 hpp H
    go_wp2_with fail
    refine (next_any g E lev ts1 _ HS1.out).mono ?_
    rintro e w2 ⟨rfl, hb2⟩
    have B4 : Hid (PS w2 g E ts1 lev) := HS1.out.later hb2
    have B3 : Hid (Nd w2 (w.heap.size - 1) x (.iface t1 p1)) := HN1.out.later hb2
    have B5 : Hid (w.grownBy w2 (some g)) := xgTrans HG1.out (xgBelow hb2)
    clear hb2 HN1 HS1 HG1
    unfold tkV
    go_wp2_with fail
    refine (signRank_any _ _).mono ?_
    rintro e w3 ⟨rfl, h3⟩
    have h3' := h3.symm
    subst h3'
    clear h3
    by_cases hsg : sgn (hd E ts1).tx = 3
    · cases ts1 with
      | nil => exact absurd hsg (by show ¬ sgn ⟨#[]⟩ = 3; decide +kernel)
      | cons t3 ts3 =>
        have HSG : Hid (sgn t3.tx = 3) := hsg
        have heq : (((sgn (hd E (t3 :: ts3)).tx : Nat) : Int) == 3) = true := by rw [hsg]; rfl
        clear hsg
        generalize hN : ((sgn (hd E (t3 :: ts3)).tx : Nat) : Int) = N at *
        clear hN
        go_wp2_with fail
        rw [show hd E (t3 :: ts3) = t3 from rfl] at *
        have s0 : (w2.alloc (.cells #[.int .i64 t3.pl, .int .i64 t3.kd, .string t3.tx] 168)).cell? ⟨w2.heap.size, 0, none⟩ = some (.int .i64 t3.pl) := by go_simp
        have s1 : (w2.alloc (.cells #[.int .i64 t3.pl, .int .i64 t3.kd, .string t3.tx] 168)).cell? ⟨w2.heap.size, 1, none⟩ = some (.int .i64 t3.kd) := by go_simp
        have s2 : (w2.alloc (.cells #[.int .i64 t3.pl, .int .i64 t3.kd, .string t3.tx] 168)).cell? ⟨w2.heap.size, 2, none⟩ = some (.string t3.tx) := by go_simp
        have hgl2 := B4.out.lt
        have hne8 : some w2.heap.size ≠ some g := fun e => by have := Option.some.inj e; omega
        refine (take_any g E lev (t3 :: ts3) _ (B4.out.later (xbel1 _ _))).mono ?_
        rintro e w4 ⟨rfl, hg4, hp4⟩
        replace s0 := hg4.cell s0 hne8
        replace s1 := hg4.cell s1 hne8
        replace s2 := hg4.cell s2 hne8
        have C3 : Hid (Nd w4 (w.heap.size - 1) x (.iface t1 p1)) := Nd.grownB hg4 (fun k hk => by cases hk; exact hgw) _ _ (B3.out.later (xbel1 _ _))
        have C4 : Hid (PS w4 g E ts3 lev) := hp4
        have C5 : Hid (w.grownBy w4 (some g)) := xgTrans B5.out (xgTrans (xgBelow (xbel1 _ _)) hg4)
        have C6 : Hid (G w4) := HG.out _ _ HW.out C5.out
        have hbl4 := World.block_lt_of_cell? _ _ s0
        have hb84 : ¬ w2.heap.size = w4.heap.size := Nat.ne_of_lt hbl4
        clear hg4 hp4 B3 B4 B5 HW
        generalize w2.heap.size = b8 at *
        have D2 : Hid (Few ts3) := fun t ht => (Few.on HP1.out HF.out) t (by simp [ht])
        have hle3 : ts3.length ≤ n := by have h1 := HP1.out.less; simp at h1; omega
        obtain ⟨o, ho⟩ := HP.out.exi hle3 D2.out C4.out C6.out
        have HS7 : Hid (sgn t3.tx ≠ 7) := by have := HSG.out; unfold Hid; omega
        unfold tkV
        cases o with
        | error f =>
          have HO : Hid (Ps L E (.D 4) lev ts3 (.error f)) := ho
          clear ho
          have HB : Hid (∀ W, Below w4.heap.size w4 W → Calls Tryz.prog 131 #[.pointer (some ⟨g, 0, none⟩)] W fun e w' => W.grownBy w' (some g) ∧ e = .panicked [{ v := fltV f.pl f.why, recovered := false }]) := fun W hW => Rdr.bad HLL.out HP.out HO.out W hle3 D2.out (C4.out.later hW) (HG.out _ _ C6.out (xgBelow hW))
          have FIN : Hid (∀ W w5, Below w4.heap.size w4 W → W.grownBy w5 (some g) → PPost L w g E (.D 3) lev ts (.panicked [{ v := fltV f.pl f.why, recovered := false }]) w5) := fun W w5 hW hg5 => ⟨xgTrans C5.out (xgTrans (xgBelow hW) hg5), .error f, .csbad HP1.out HSG.out HO.out, rfl⟩
          go_wp2_with fail
          refine wp_region_any (by kernel_rfl) ?_
          change wpAny _ _ _ _ _ _ _ (World.drew _)
          refine wpAny_take (i := 1) (v := .iface t1 p1) rfl (by kernel_rfl) (by kernel_rfl) (by kernel_rfl) (fun _ _ _ h => h) (Or.inl ⟨by rfl, ?_⟩) ?_
          · intro w; go_simp
          refine wpAny_take (i := 2) (v := .pointer (some ⟨g, 0, none⟩)) rfl (by kernel_rfl) (by kernel_rfl) (by kernel_rfl) (fun _ _ _ h => h) (Or.inl ⟨by rfl, ?_⟩) ?_
          · intro w; go_simp
          refine wpAny_ready (rs := [0, 3]) (by kernel_rfl) (by simp) ?_
          refine AllReady.cons rfl (fun K hK => ?_) ?_
          · go_simp
            refine hK _ _ ?_
            clear hK K
            refine wpAny_ready (rs := [3]) (by kernel_rfl) (by simp) ?_
            refine AllReady.cons rfl (fun K hK => ?_) AllReady.nil
            go_simp
            refine (HB.out _ (Below.refl _ _).drew).mono ?_
            rintro e w5 ⟨hg5, rfl⟩
            exact FIN.out _ w5 (Below.refl _ _).drew hg5
          · refine AllReady.cons rfl (fun K hK => ?_) AllReady.nil
            go_simp
            refine (HB.out _ (Below.refl _ _).drew).mono ?_
            rintro e w5 ⟨hg5, rfl⟩
            exact FIN.out _ w5 (Below.refl _ _).drew hg5
        | ok q =>
          obtain ⟨y, ts5⟩ := q
          have HO : Hid (Ps L E (.D 4) lev ts3 (.ok (y, ts5))) := ho
          clear ho
          have HB : Hid (∀ W, Below w4.heap.size w4 W → Calls Tryz.prog 131 #[.pointer (some ⟨g, 0, none⟩)] W fun e w' => W.grownBy w' (some g) ∧ ∃ t p, e = .returned (.iface t p) ∧ Nd w' (W.heap.size - 1) y (.iface t p) ∧ PS w' g E ts5 lev) := fun W hW => Rdr.ok HLL.out HP.out HO.out W hle3 D2.out (C4.out.later hW) (HG.out _ _ C6.out (xgBelow hW))
          have hwy : w.heap.size - 1 ≤ w4.drew.heap.size - 1 := by have := C5.out.size; simp; omega
          have hw4l : w.heap.size - 1 < w4.drew.heap.size := by have := C5.out.size; simp; omega
          go_wp2_with fail
          go_region_held3 (fun w' => w'.cell? ⟨b8, 0, none⟩ = some (.int .i64 t3.pl) ∧ w'.cell? ⟨b8, 1, none⟩ = some (.int .i64 t3.kd) ∧ w'.cell? ⟨b8, 2, none⟩ = some (.string t3.tx))
            (first | go_keep)
            (first | (go_at_call 100; refine (newInfix_any t3 x y _ _ (w.heap.size - 1) _ hw5l HS7.out n5l n5y).mono ?_; rintro e w6 ⟨hb6, v6, rfl, n6⟩; have s0 := xcell hb6 s0; have s1 := xcell hb6 s1; have s2 := xcell hb6 s2) | (go_at_call 131; refine (HB.out w4.drew (Below.refl _ _).drew).mono ?_; rintro e w5 ⟨hg5, t5, p5, rfl, n5y, ps5⟩; have s0 : w5.cell? ⟨b8, 0, none⟩ = some (.int .i64 t3.pl) := hg5.cell (xcell (Below.refl _ _).drew s0) hne8; have s1 : w5.cell? ⟨b8, 1, none⟩ = some (.int .i64 t3.kd) := hg5.cell (xcell (Below.refl _ _).drew s1) hne8; have s2 : w5.cell? ⟨b8, 2, none⟩ = some (.string t3.tx) := hg5.cell (xcell (Below.refl _ _).drew s2) hne8; have n5l : Nd w5 (w.heap.size - 1) x (.iface t1 p1) := Nd.grownB hg5 (fun k hk => (by cases hk; exact hgw)) _ _ (C3.out.later (Below.refl _ _).drew); have n5y := Nd.up hwy _ _ n5y; have hw5l : w.heap.size - 1 < w5.heap.size := Nat.lt_of_lt_of_le hw4l hg5.size))
          have FIN : Hid (PPost L w g E (.D 3) lev ts (.returned (.iface 184 v6)) w6) := ⟨xgTrans C5.out (xgTrans (xgBelow (Below.refl _ _).drew) (xgTrans hg5 (xgBelow hb6))), .ok (_, ts5), .cok HP1.out HSG.out HO.out, _, rfl, n6, ps5.later hb6⟩
          clear n6 ps5 hb6 hg5 n5l n5y s0 s1 s2 C3 C4 C5 C6 HB
          go_wp2_with fail
          go_ret
          exact FIN.out
    · have hne : (((sgn (hd E ts1).tx : Nat) : Int) == 3) = false := by rw [beq_eq_false_iff_ne]; omega
      have HSG : Hid (sgn (hd E ts1).tx ≠ 3) := hsg
      clear hsg
      generalize hN : ((sgn (hd E ts1).tx : Nat) : Int) = N at *
      clear hN
      go_wp2_with fail
      go_ret
      exact ⟨xgTrans B5.out (xgBelow (xbel1 _ _)), .ok (x, ts1), .cnone HP1.out HSG.out, _, rfl, B3.out.later (xbel1 _ _), B4.out.later (xbel1 _ _)⟩
  · refine ⟨rfl, ?_⟩
    exact ⟨hg1, .error f, .cbad hp1, rfl⟩
end Go.Proofs.YtplaplhmjpfbjaaGreatDoor
