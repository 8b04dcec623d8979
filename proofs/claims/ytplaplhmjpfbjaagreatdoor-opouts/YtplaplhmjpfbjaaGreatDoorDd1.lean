import Derived.Test.YtplaplhmjpfbjaaGreatDoorDc1
import Derived.Test.YtplaplhmjpfbjaaGreatDoorDrNa
import Derived.Test.YtplaplhmjpfbjaaGreatDoorDrNb
import Derived.Test.YtplaplhmjpfbjaaGreatDoorDrNc
import Derived.Test.YtplaplhmjpfbjaaGreatDoorDrE
import Derived.Test.YtplaplhmjpfbjaaGreatDoorXg1
namespace Go.Proofs.YtplaplhmjpfbjaaGreatDoor.Dc
open Go.RowKit
set_option linter.unusedVariables false
set_option linter.unusedSimpArgs false
set_option maxRecDepth 100000

/-- The document's readers, both, by what is left. -/
theorem doc_readers {L : ByteArray → Int → Int → ByteArray → Prop} (hD : DRd L) (hT : ∃ k n s, L bTrue k n s) (hF : ∃ k n s, L bFalse k n s) (g E : Nat) (tks : List Tk) (hw : ∀ t ∈ tks, Wf t) : ∀ n p : Nat, tks.length - p ≤ n →
    (∀ (lev : Nat) (W : World), p ≤ tks.length → lev ≤ 12 → RS W g E tks p lev 0 0 → Calls Tryz.prog 75 #[.pointer (some ⟨g, 0, none⟩)] W (CPost L W g E tks p lev 6)) ∧
    (∀ (lev r0 : Nat) (least : Int) (W : World), p ≤ tks.length → lev ≤ 12 → r0 ≤ 6 → (least = (r0 : Int) + 1 ∨ (least = 0 ∧ r0 = 0)) → RS W g E tks p lev 0 0 → Calls Tryz.prog 55 #[.pointer (some ⟨g, 0, none⟩), .int .i64 least] W (CPost L W g E tks p lev r0)) := by
  intro n
  induction n with
  | zero =>
    intro p hp
    have ihF : FirstOk L g E tks p := fun p' lev W h1 h2 => absurd h1 (by omega)
    have ihC : ClimbOk L g E tks p := fun p' lev r0 least W h1 h2 => absurd h1 (by omega)
    have hf : ∀ (lev : Nat) (W : World), p ≤ tks.length → lev ≤ 12 → RS W g E tks p lev 0 0 → Calls Tryz.prog 75 #[.pointer (some ⟨g, 0, none⟩)] W (CPost L W g E tks p lev 6) := fun lev W _ hl h => first_any hD hT hF g E p lev tks W h hl hw ihF ihC
    refine ⟨hf, fun lev r0 least W hpl hl hr hle h => ?_⟩
    by_cases hl3 : least ≤ 3
    · by_cases hn : (hd E (tks.drop p)).tx = bNot
      · cases ht : tks.drop p with
        | nil => rw [ht] at hn; exact absurd hn (by simp only [hd]; decide)
        | cons t ts => rw [ht] at hn; exact climb_not g E p lev r0 least tks t ts W h hl hr hle hw ihC ht hn hl3
      · exact climb_first3 g E p lev r0 least tks W h hl hr hle hw ihC (fun W' h' => hf lev W' hpl hl h') hl3 (fun h => hn h.2)
    · exact climb_first4 g E p lev r0 least tks W h hl hr hle hw ihC (fun W' h' => hf lev W' hpl hl h') hl3 (fun h => hl3 h.1)
  | succ n ih =>
    intro p hp
    have ihF : FirstOk L g E tks p := fun p' lev W h1 h2 h3 h4 => (ih p' (by omega)).1 lev W h2 h3 h4
    have ihC : ClimbOk L g E tks p := fun p' lev r0 least W h1 h2 h3 h4 h5 h6 => (ih p' (by omega)).2 lev r0 least W h2 h3 h4 h5 h6
    have hf : ∀ (lev : Nat) (W : World), p ≤ tks.length → lev ≤ 12 → RS W g E tks p lev 0 0 → Calls Tryz.prog 75 #[.pointer (some ⟨g, 0, none⟩)] W (CPost L W g E tks p lev 6) := fun lev W _ hl h => first_any hD hT hF g E p lev tks W h hl hw ihF ihC
    refine ⟨hf, fun lev r0 least W hpl hl hr hle h => ?_⟩
    by_cases hl3 : least ≤ 3
    · by_cases hn : (hd E (tks.drop p)).tx = bNot
      · cases ht : tks.drop p with
        | nil => rw [ht] at hn; exact absurd hn (by simp only [hd]; decide)
        | cons t ts => rw [ht] at hn; exact climb_not g E p lev r0 least tks t ts W h hl hr hle hw ihC ht hn hl3
      · exact climb_first3 g E p lev r0 least tks W h hl hr hle hw ihC (fun W' h' => hf lev W' hpl hl h') hl3 (fun h => hn h.2)
    · exact climb_first4 g E p lev r0 least tks W h hl hr hle hw ihC (fun W' h' => hf lev W' hpl hl h') hl3 (fun h => hl3 h.1)
/-- The document's climbing from the beginning. -/
theorem climb0 {L : ByteArray → Int → Int → ByteArray → Prop} (hD : DRd L) (hT : ∃ k n s, L bTrue k n s) (hF : ∃ k n s, L bFalse k n s) (g E : Nat) (tks : List Tk) (hw : ∀ t ∈ tks, Wf t) (W : World) (h : RS W g E tks 0 0 0 0) :
    Calls Tryz.prog 55 #[.pointer (some ⟨g, 0, none⟩), .int .i64 0] W (CPost L W g E tks 0 0 0) :=
  (doc_readers hD hT hF g E tks hw tks.length 0 (by omega)).2 0 0 0 W (Nat.zero_le _) (by omega) (by omega) (.inr ⟨rfl, rfl⟩) h
end Go.Proofs.YtplaplhmjpfbjaaGreatDoor.Dc
namespace Go.Proofs.YtplaplhmjpfbjaaGreatDoor.Dc
open Go.RowKit
set_option linter.unusedVariables false
set_option linter.unusedSimpArgs false
set_option maxRecDepth 100000

theorem fl_mem : ∀ (gs : List ByteArray) (l : List UInt8), 0 < fl gs l → ∃ g ∈ gs, l.take (fl gs l) = g.data.toList
  | [], l, h => absurd h (by simp [fl])
  | g :: r, l, h => by
    by_cases hp : g.data.toList <+: l
    · refine ⟨g, by simp, ?_⟩
      rw [fl, if_pos hp]
      exact (List.prefix_iff_eq_take.1 hp).symm
    · rw [fl, if_neg hp] at h ⊢
      obtain ⟨g', h1, h2⟩ := fl_mem r l h
      exact ⟨g', by simp [h1], h2⟩
theorem tokAt_wf {c : UInt8} {r : List UInt8} {kd n pl : Nat} (h : tokAt (c :: r) = some (kd, n)) (hl : (c :: r).length ≤ 200) : Wf ⟨pl, kd, ⟨((c :: r).take n).toArray⟩⟩ := by
  have hn := (tokAt_len h).1
  have hcons : (c :: r).take n = c :: r.take (n - 1) := by
    cases n with
    | zero => omega
    | succ n => rfl
  refine ⟨?_, ?_⟩
  · show (((c :: r).take n).toArray).size ≤ 200
    rw [List.size_toArray, List.length_take]; omega
  · unfold tokAt at h
    dsimp only at h
    split at h
    · rename_i hd
      injection h with h; injection h with h1 h2
      exact .inr (.inl ⟨h1.symm, c, _, hcons, hd⟩)
    · split at h
      · rename_i hd hwb
        injection h with h; injection h with h1 h2
        refine .inl ⟨h1.symm, c, _, hcons, ?_⟩
        rw [isWb_lt] at hwb
        simpa [hd] using hwb
      · split at h
        · rename_i hc
          rw [Option.map_eq_some_iff] at h
          obtain ⟨i, _, h2⟩ := h
          injection h2 with h1 h2
          subst hc
          exact .inr (.inr (.inl ⟨h1.symm, _, hcons⟩))
        · split at h
          · rename_i hs
            injection h with h; injection h with h1 h2
            refine .inr (.inr (.inr ⟨h1.symm, ?_⟩))
            rw [← fl_sLen] at hs
            obtain ⟨g, h3, h4⟩ := fl_mem sgs _ hs
            have h5 : (⟨((c :: r).take n).toArray⟩ : ByteArray) = g := by
              apply ByteArray.ext
              apply Array.toList_inj.1
              rw [fl_sLen, h2] at h4
              simpa using h4
            rw [h5]; exact h3
          · cases h
theorem tok_wf : ∀ (n pl : Nat) (l : List UInt8) (ts : List Tk), l.length ≤ 200 → tok n pl l = .ok ts → ∀ t ∈ ts, Wf t
  | n, pl, [], ts, _, h => by
    have : tok n pl [] = .ok [] := by cases n <;> rfl
    rw [this] at h
    cases h
    exact fun t ht => by cases ht
  | 0, pl, c :: r, ts, _, h => by cases h
  | n + 1, pl, c :: r, ts, hl, h => by
    cases hb : isSp c with
    | true =>
      rw [tok_space hb] at h
      exact tok_wf n _ _ _ (by simp at hl; omega) h
    | false =>
      cases ht : tokAt (c :: r) with
      | none => rw [tok_none hb ht] at h; cases h
      | some p =>
        obtain ⟨kd, m⟩ := p
        rw [tok_some hb ht] at h
        cases h2 : tok n (pl + m) ((c :: r).drop m) with
        | error e => rw [h2] at h; cases h
        | ok ts' =>
          rw [h2] at h
          cases h
          intro t hm
          rcases List.mem_cons.1 hm with rfl | hm
          · exact tokAt_wf ht hl
          · exact tok_wf n _ _ _ (by rw [List.length_drop]; omega) h2 t hm
theorem OD.row {w : World} {B : Nat} {x : Value} {ts : List Tk} (h : OD w B x ts) (hn : ts ≠ []) : ∃ b cap, x = .slice (some ⟨b, 0, none⟩) ts.length cap ∧ B ≤ b ∧ b < w.heap.size ∧ TkD w b ts := by
  rcases h.2 with ⟨_, h1⟩ | ⟨g, cap, cur, e, hb, hg, hc, hm, hcs, htk⟩
  · exact absurd (List.eq_nil_of_length_eq_zero h1) hn
  · subst e
    refine ⟨g, cap, rfl, hb, (World.ownsRow.lt h g rfl).2, fun i hi => ?_⟩
    have key : ∀ j, j < 3 → w.cell? ⟨g, i * 3 + j, none⟩ = (cellsD ts[i])[j]? := fun j hj => by
      rw [World.ownsRow.cellAt h (i * 3 + j) (by omega), flatAt cellsD 3 (fun _ => rfl) ts i j hi hj]
    exact ⟨key 0 (by decide), key 1 (by decide), key 2 (by decide)⟩
/-- How the document's Parse ends. -/
def ParseD (L : ByteArray → Int → Int → ByteArray → Prop) (w : World) (s : ByteArray) (e : Ending) (w' : World) : Prop := Below w.heap.size w w' ∧ ∃ o, PX L s o ∧
  match o with
  | .error f => e = .returned (.tuple #[.pointer none, .int .i64 f.why, .int .i64 f.pl])
  | .ok x => ∃ b, e = .returned (.tuple #[ptrE b, .int .i64 0, .int .i64 0]) ∧ Et w' w.heap.size w'.heap.size x (ptrE b)
set_option maxHeartbeats 8000000 in
theorem parseD_any {L : ByteArray → Int → Int → ByteArray → Prop} (hD : DRd L) (hT : ∃ k n s, L bTrue k n s) (hF : ∃ k n s, L bFalse k n s) (s : ByteArray) (w : World) :
    Calls Tryz.prog 30 #[.string s] w (ParseD L w s) := by
  by_cases hs : 200 < s.size
  · have hsi : (200 : Int) < (s.size : Int) := by omega
    have FIN : Hid (ParseD L w s (.returned (.tuple #[.pointer none, .int .i64 5, .int .i64 0])) w) := ⟨Below.refl _ _, .error ⟨0, 5⟩, .full hs, rfl⟩
    clear hD hT hF hs
    go_enter Tryz.func30, Tryz.ntmps30
    go_wp2
    go_ret3
    exact FIN.out
  · have hsi : ¬ (200 : Int) < (s.size : Int) := by omega
    have hs2 : s.size ≤ 200 := by omega
    have HTK : Hid (Calls Tryz.prog 54 #[.string s] w (ToksD w s)) := tokensD_any s w hs2
    have HCL : Hid (∀ (g E : Nat) (tks : List Tk), (∀ t ∈ tks, Wf t) → ∀ W, RS W g E tks 0 0 0 0 → Calls Tryz.prog 55 #[.pointer (some ⟨g, 0, none⟩), .int .i64 0] W (CPost L W g E tks 0 0 0)) := fun g E tks hw W h => climb0 hD hT hF g E tks hw W h
    clear hD hT hF hs
    go_enter Tryz.func30, Tryz.ntmps30
    go_wp2_with fail
    refine HTK.out.mono ?_
    rintro e w1 ⟨hb1, hp⟩
    have HB1 := hidMk hb1
    clear hb1 HTK
    cases ht : tok s.size 0 s.data.toList with
    | error p =>
      rw [ht] at hp
      subst hp
      have FIN : Hid (ParseD L w s (.returned (.tuple #[.pointer none, .int .i64 1, .int .i64 p])) w1) := ⟨HB1.out, .error ⟨p, 1⟩, .tok hs2 ht, rfl⟩
      have hpi : (0 : Int) ≤ (p : Int) := by omega
      clear ht HCL
      go_wp2_with fail
      go_ret3
      exact FIN.out
    | ok ts =>
      rw [ht] at hp
      obtain ⟨x, rfl, hod⟩ := hp
      have HTS := hidMk ht
      have hlen : ts.length ≤ 200 := by
        have := (tok_few _ _ _ _ ht).1
        have h2 : s.data.toList.length = s.size := by simp
        omega
      have hwf : ∀ t ∈ ts, Wf t := tok_wf _ _ _ _ (by simp; omega) ht
      obtain ⟨b, cap, rfl, hbB, hbl, htk⟩ := hod.row (by simp)
      have hn1 : (ts ++ [endT s.size]).length = ts.length + 1 := by simp
      rw [hn1]
      have HR2 : Hid (RS (w1.alloc (.cells #[.slice (some ⟨b, 0, none⟩) (ts.length + 1) cap, .int .i64 0, .int .i64 0, .int .i64 0, .int .i64 0] 103)) w1.heap.size s.size ts 0 0 0 0) := ⟨b, cap, Own.new w1 103 5 #[.slice (some ⟨b, 0, none⟩) (ts.length + 1) cap, .int .i64 0, .int .i64 0, .int .i64 0, .int .i64 0] rfl, hbl, htk.grown (r := none) (xgBelow (xbel1 _ _)) (by simp), hlen, Nat.zero_le _⟩
      have HWF := hidMk hwf
      clear hwf htk hod ht hn1
      go_wp2_with fail
      refine (HCL.out w1.heap.size s.size ts HWF.out _ HR2.out).mono ?_
      rintro e w2 ⟨hg2, xb, rfl, hres⟩
      have HB2 : Hid (Below w.heap.size w w2) := xbNew (HB1.out.trans ((xbel1 _ _).mono HB1.out.size)) hg2 (fun n hn => by cases hn; exact HB1.out.size)
      have hsz : w1.heap.size + 1 ≤ w2.heap.size := by have := hg2.size; simpa using this
      have hN1 := HB1.out.size
      clear hg2 HR2
      rcases hres with ⟨x, p', h1, h2, h3⟩ | ⟨f, p', h1, h2, h3⟩
      · obtain ⟨b', cap', hbg, hgl, c0, c1, c2, c3, c4, d0, d1, d2, hl⟩ := h1.hd
        have hbl2 : b' < w2.heap.size := by omega
        have hp0 : (0 : Int) ≤ (p' : Int) := by omega
        have HR3 := hidMk h1
        rw [List.drop_zero] at h2
        cases hdp : ts.drop p' with
        | nil =>
          rw [hdp] at h2 d0 d1 d2
          simp only [hd, srt] at d0 d1 d2
          have FIN : Hid (∀ W, Below w2.heap.size w2 W → ParseD L w s (.returned (.tuple #[ptrE xb, .int .i64 0, .int .i64 0])) W) := fun W hW => ⟨HB2.out.trans (hW.mono HB2.out.size), .ok x, .ok hs2 HTS.out h2, xb, rfl, Et.keep (fun b i u _ hb hc => xcell hW hc) (by simp; omega) hW.size x _ h3⟩
          clear h1 h2 h3 HCL
          unfold ptrE
          go_wp2_with fail
          go_quiet (fail)
          go_wp2_with fail
          go_ret3
          exact FIN.out _ (by first | exact Below.refl _ _ | exact (Below.refl _ _).drew | exact Below.drewN' (Below.refl _ _) | exact Below.drewN' (Below.drewN' (Below.refl _ _)))
        | cons t ts' =>
          rw [hdp] at h2 d0 d1 d2
          simp only [hd] at d0 d1 d2
          have htm : t ∈ ts := List.mem_of_mem_drop (by rw [hdp]; simp)
          have hk : srt t.kd = 110 ∨ srt t.kd = 48 ∨ srt t.kd = 39 ∨ srt t.kd = 111 := by
            rcases (HWF.out t htm).2 with ⟨h, _⟩ | ⟨h, _⟩ | ⟨h, _⟩ | ⟨h, _⟩ <;> rw [h] <;> simp [srt]
          have hkb : (srt t.kd != 101) = true := by rcases hk with h | h | h | h <;> rw [h] <;> rfl
          have FIN : Hid (∀ W, Below w.heap.size w W → ParseD L w s (.returned (.tuple #[.pointer none, .int .i64 1, .int .i64 t.pl])) W) := fun W hW => ⟨hW, .error ⟨t.pl, 1⟩, .more hs2 HTS.out h2, rfl⟩
          have HHD : Hid (hd s.size (ts.drop p') = t) := by rw [Hid, hdp]; rfl
          have f3 := h1.soft 3
          clear h1 h2 h3 HCL hk
          generalize srt t.kd = KK at *
          generalize t.tx = X at *
          generalize t.pl = PL at *
          unfold ptrE
          go_wp2_with fail
          go_quiet (fail)
          go_wp2_with fail
          go_region_with (go_at_call 56; refine (fail_any w1.heap.size s.size p' ts _ 0 0 _ _ _ (RS.later HR3.out (by first | exact Below.refl _ _ | exact (Below.refl _ _).drew | exact Below.drewN' (Below.refl _ _) | exact (Below.drewN' (Below.refl _ _)).drew))).mono ?_; rintro en w4 ⟨rfl, hg4, hr4⟩)
          all_goals
            have HB4 : Hid (Below w.heap.size w w4) := xbNew (Below.drewN' HB2.out) hg4 (fun n hn => by cases hn; exact hN1)
            obtain ⟨b5, cap5, hbg5, hgl5, e0, e1, e2, e3, e4, _⟩ := hr4.hd
            have e3' : w4.cell? ⟨w1.heap.size, 3, none⟩ = some (.int .i64 1) := e3
            have e4' : w4.cell? ⟨w1.heap.size, 4, none⟩ = some (.int .i64 PL) := e4
            clear hg4 hr4 e3 e4 e0 e1 e2 c0 c1 c2 c3 c4 d0 d1 d2
            go_wp2_with fail
            go_quiet (fail)
            go_wp2_with fail
            go_ret3
            exact FIN.out _ (by first | exact HB4.out | exact HB4.out.drew | exact Below.drewN' HB4.out)
      · have hb4 : (f.why : Int) ≠ 0 := by omega
        have hb4b : ((f.why : Int) == 0) = false := by rw [beq_eq_false_iff_ne]; exact hb4
        have hb4n : ((f.why : Int) != 0) = true := by rw [bne, hb4b]; rfl
        obtain ⟨b', cap', hbg, hgl, c0, c1, c2, c3, c4, d0, d1, d2, hl⟩ := h2.hd
        have hbl2 : b' < w2.heap.size := by omega
        have hp0 : (0 : Int) ≤ (p' : Int) := by omega
        rw [List.drop_zero] at h3
        have FIN : Hid (∀ W, Below w2.heap.size w2 W → ParseD L w s (.returned (.tuple #[.pointer none, .int .i64 f.why, .int .i64 f.pl])) W) := fun W hW => ⟨HB2.out.trans (hW.mono HB2.out.size), .error f, .bad hs2 HTS.out h3, rfl⟩
        clear h1 h2 h3 HCL hb4
        generalize (f.why : Int) = FW at *
        generalize (f.pl : Int) = FP at *
        generalize srt (hd s.size (ts.drop p')).kd = KK at *
        generalize (hd s.size (ts.drop p')).tx = X at *
        generalize (hd s.size (ts.drop p')).pl = PL at *
        unfold ptrE
        go_wp2_with fail
        go_quiet (fail)
        go_wp2_with fail
        go_quiet (fail)
        go_wp2_with fail
        go_ret3
        exact FIN.out _ (by first | exact Below.refl _ _ | exact (Below.refl _ _).drew | exact Below.drewN' (Below.refl _ _) | exact Below.drewN' (Below.drewN' (Below.refl _ _)))
end Go.Proofs.YtplaplhmjpfbjaaGreatDoor.Dc
