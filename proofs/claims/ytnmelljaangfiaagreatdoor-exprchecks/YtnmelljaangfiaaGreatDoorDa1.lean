import Derived.Test.YtnmelljaangfiaaGreatDoorDrM
import Derived.Test.YtnmelljaangfiaaGreatDoorDrNa
import Derived.Test.YtnmelljaangfiaaGreatDoorDrNb
import Derived.Test.YtnmelljaangfiaaGreatDoorDrNc
import Derived.Test.YtnmelljaangfiaaGreatDoorDrE
import Derived.Test.YtnmelljaangfiaaGreatDoorXpL
import Derived.Test.YtnmelljaangfiaaGreatDoorDrC
namespace Go.Proofs.YtnmelljaangfiaaGreatDoor.Dc
open Go.RowKit
set_option linter.unusedVariables false
set_option linter.unusedSimpArgs false
set_option maxRecDepth 100000

/-- The document's readers, both, by what is left. -/
theorem doc_readers {L : ByteArray → Int → Int → ByteArray → Prop} (hD : DRd L) (hT : ∃ k n s, L bTrue k n s) (hF : ∃ k n s, L bFalse k n s) (g E : Nat) (tks : List Tk) (hw : ∀ t ∈ tks, Wf t) : ∀ n p : Nat, tks.length - p ≤ n →
    (∀ (lev : Nat) (W : World), p ≤ tks.length → lev ≤ 12 → RS W g E tks p lev 0 0 → Calls Tryz.prog 48 #[.pointer (some ⟨g, 0, none⟩)] W (CPost L W g E tks p lev 6)) ∧
    (∀ (lev r0 : Nat) (least : Int) (W : World), p ≤ tks.length → lev ≤ 12 → r0 ≤ 6 → (least = (r0 : Int) + 1 ∨ (least = 0 ∧ r0 = 0)) → RS W g E tks p lev 0 0 → Calls Tryz.prog 21 #[.pointer (some ⟨g, 0, none⟩), .int .i64 least] W (CPost L W g E tks p lev r0)) := by
  intro n
  induction n with
  | zero =>
    intro p hp
    have ihF : FirstOk L g E tks p := fun p' lev W h1 h2 => absurd h1 (by omega)
    have ihC : ClimbOk L g E tks p := fun p' lev r0 least W h1 h2 => absurd h1 (by omega)
    have hf : ∀ (lev : Nat) (W : World), p ≤ tks.length → lev ≤ 12 → RS W g E tks p lev 0 0 → Calls Tryz.prog 48 #[.pointer (some ⟨g, 0, none⟩)] W (CPost L W g E tks p lev 6) := fun lev W _ hl h => first_any hD hT hF g E p lev tks W h hl hw ihF ihC
    refine ⟨hf, fun lev r0 least W hpl hl hr hle h => ?_⟩
    by_cases hl3 : least ≤ 3
    · by_cases hn : (hd E (tks.drop p)).tx = bNot
      · cases ht : tks.drop p with
        | nil => rw [ht] at hn; exact absurd hn (by simp only [hd]; decide)
        | cons t ts => rw [ht] at hn; exact climb_not g E p lev r0 least tks t ts W h hl hr hle hw ihC ht hn hl3
      · exact climb_first3 g E p lev r0 least tks W h hl hr hle hw ihC (fun W' h' => hf lev W' hpl hl h') hl3 (fun h => hn h.2)
    · exact climb_first4 g E p lev r0 least tks W h hl hr hle hw ihC (fun W' h' => hf lev W' hpl hl h') hl3 (fun h => hl3 h.1)
  | succ n ih =>
    intro p hp
    have ihF : FirstOk L g E tks p := fun p' lev W h1 h2 h3 h4 => (ih p' (by omega)).1 lev W h2 h3 h4
    have ihC : ClimbOk L g E tks p := fun p' lev r0 least W h1 h2 h3 h4 h5 h6 => (ih p' (by omega)).2 lev r0 least W h2 h3 h4 h5 h6
    have hf : ∀ (lev : Nat) (W : World), p ≤ tks.length → lev ≤ 12 → RS W g E tks p lev 0 0 → Calls Tryz.prog 48 #[.pointer (some ⟨g, 0, none⟩)] W (CPost L W g E tks p lev 6) := fun lev W _ hl h => first_any hD hT hF g E p lev tks W h hl hw ihF ihC
    refine ⟨hf, fun lev r0 least W hpl hl hr hle h => ?_⟩
    by_cases hl3 : least ≤ 3
    · by_cases hn : (hd E (tks.drop p)).tx = bNot
      · cases ht : tks.drop p with
        | nil => rw [ht] at hn; exact absurd hn (by simp only [hd]; decide)
        | cons t ts => rw [ht] at hn; exact climb_not g E p lev r0 least tks t ts W h hl hr hle hw ihC ht hn hl3
      · exact climb_first3 g E p lev r0 least tks W h hl hr hle hw ihC (fun W' h' => hf lev W' hpl hl h') hl3 (fun h => hn h.2)
    · exact climb_first4 g E p lev r0 least tks W h hl hr hle hw ihC (fun W' h' => hf lev W' hpl hl h') hl3 (fun h => hl3 h.1)
/-- The document's climbing from the beginning. -/
theorem climb0 {L : ByteArray → Int → Int → ByteArray → Prop} (hD : DRd L) (hT : ∃ k n s, L bTrue k n s) (hF : ∃ k n s, L bFalse k n s) (g E : Nat) (tks : List Tk) (hw : ∀ t ∈ tks, Wf t) (W : World) (h : RS W g E tks 0 0 0 0) :
    Calls Tryz.prog 21 #[.pointer (some ⟨g, 0, none⟩), .int .i64 0] W (CPost L W g E tks 0 0 0) :=
  (doc_readers hD hT hF g E tks hw tks.length 0 (by omega)).2 0 0 0 W (Nat.zero_le _) (by omega) (by omega) (.inr ⟨rfl, rfl⟩) h
end Go.Proofs.YtnmelljaangfiaaGreatDoor.Dc
namespace Go.Proofs.YtnmelljaangfiaaGreatDoor.Dc
open Go.RowKit
set_option linter.unusedVariables false
set_option linter.unusedSimpArgs false
set_option maxRecDepth 100000

theorem fl_mem : ∀ (gs : List ByteArray) (l : List UInt8), 0 < fl gs l → ∃ g ∈ gs, l.take (fl gs l) = g.data.toList
  | [], l, h => absurd h (by simp [fl])
  | g :: r, l, h => by
    by_cases hp : g.data.toList <+: l
    · refine ⟨g, by simp, ?_⟩
      rw [fl, if_pos hp]
      exact (List.prefix_iff_eq_take.1 hp).symm
    · rw [fl, if_neg hp] at h ⊢
      obtain ⟨g', h1, h2⟩ := fl_mem r l h
      exact ⟨g', by simp [h1], h2⟩
theorem tokAt_wf {c : UInt8} {r : List UInt8} {kd n pl : Nat} (h : tokAt (c :: r) = some (kd, n)) (hl : (c :: r).length ≤ 200) : Wf ⟨pl, kd, ⟨((c :: r).take n).toArray⟩⟩ := by
  have hn := (tokAt_len h).1
  have hcons : (c :: r).take n = c :: r.take (n - 1) := by
    cases n with
    | zero => omega
    | succ n => rfl
  refine ⟨?_, ?_⟩
  · show (((c :: r).take n).toArray).size ≤ 200
    rw [List.size_toArray, List.length_take]; omega
  · unfold tokAt at h
    dsimp only at h
    split at h
    · rename_i hd
      injection h with h; injection h with h1 h2
      exact .inr (.inl ⟨h1.symm, c, _, hcons, hd⟩)
    · split at h
      · rename_i hd hwb
        injection h with h; injection h with h1 h2
        refine .inl ⟨h1.symm, c, _, hcons, ?_⟩
        rw [isWb_lt] at hwb
        simpa [hd] using hwb
      · split at h
        · rename_i hc
          rw [Option.map_eq_some_iff] at h
          obtain ⟨i, _, h2⟩ := h
          injection h2 with h1 h2
          subst hc
          exact .inr (.inr (.inl ⟨h1.symm, _, hcons⟩))
        · split at h
          · rename_i hs
            injection h with h; injection h with h1 h2
            refine .inr (.inr (.inr ⟨h1.symm, ?_⟩))
            rw [← fl_sLen] at hs
            obtain ⟨g, h3, h4⟩ := fl_mem sgs _ hs
            have h5 : (⟨((c :: r).take n).toArray⟩ : ByteArray) = g := by
              apply ByteArray.ext
              apply Array.toList_inj.1
              rw [fl_sLen, h2] at h4
              simpa using h4
            rw [h5]; exact h3
          · cases h
theorem tok_wf : ∀ (n pl : Nat) (l : List UInt8) (ts : List Tk), l.length ≤ 200 → tok n pl l = .ok ts → ∀ t ∈ ts, Wf t
  | n, pl, [], ts, _, h => by
    have : tok n pl [] = .ok [] := by cases n <;> rfl
    rw [this] at h
    cases h
    exact fun t ht => by cases ht
  | 0, pl, c :: r, ts, _, h => by cases h
  | n + 1, pl, c :: r, ts, hl, h => by
    cases hb : isSp c with
    | true =>
      rw [tok_space hb] at h
      exact tok_wf n _ _ _ (by simp at hl; omega) h
    | false =>
      cases ht : tokAt (c :: r) with
      | none => rw [tok_none hb ht] at h; cases h
      | some p =>
        obtain ⟨kd, m⟩ := p
        rw [tok_some hb ht] at h
        cases h2 : tok n (pl + m) ((c :: r).drop m) with
        | error e => rw [h2] at h; cases h
        | ok ts' =>
          rw [h2] at h
          cases h
          intro t hm
          rcases List.mem_cons.1 hm with rfl | hm
          · exact tokAt_wf ht hl
          · exact tok_wf n _ _ _ (by rw [List.length_drop]; omega) h2 t hm
theorem OD.row {w : World} {B : Nat} {x : Value} {ts : List Tk} (h : OD w B x ts) (hn : ts ≠ []) : ∃ b cap, x = .slice (some ⟨b, 0, none⟩) ts.length cap ∧ B ≤ b ∧ b < w.heap.size ∧ TkD w b ts := by
  rcases h.2 with ⟨_, h1⟩ | ⟨g, cap, cur, e, hb, hg, hc, hm, hcs, htk⟩
  · exact absurd (List.eq_nil_of_length_eq_zero h1) hn
  · subst e
    refine ⟨g, cap, rfl, hb, (World.ownsRow.lt h g rfl).2, fun i hi => ?_⟩
    have key : ∀ j, j < 3 → w.cell? ⟨g, i * 3 + j, none⟩ = (cellsD ts[i])[j]? := fun j hj => by
      rw [World.ownsRow.cellAt h (i * 3 + j) (by omega), flatAt cellsD 3 (fun _ => rfl) ts i j hi hj]
    exact ⟨key 0 (by decide), key 1 (by decide), key 2 (by decide)⟩
/-- How the document's Parse ends. -/
def ParseD (L : ByteArray → Int → Int → ByteArray → Prop) (w : World) (s : ByteArray) (e : Ending) (w' : World) : Prop := Below w.heap.size w w' ∧ ∃ o, PX L s o ∧
  match o with
  | .error f => e = .returned (.tuple #[.pointer none, .int .i64 f.why, .int .i64 f.pl])
  | .ok x => ∃ b, e = .returned (.tuple #[ptrE b, .int .i64 0, .int .i64 0]) ∧ Et w' w.heap.size w'.heap.size x (ptrE b)
set_option maxHeartbeats 8000000 in
theorem parseD_any {L : ByteArray → Int → Int → ByteArray → Prop} (hD : DRd L) (hT : ∃ k n s, L bTrue k n s) (hF : ∃ k n s, L bFalse k n s) (s : ByteArray) (w : World) :
    Calls Tryz.prog 9 #[.string s] w (ParseD L w s) := by
  by_cases hs : 200 < s.size
  · have hsi : (200 : Int) < (s.size : Int) := by omega
    have FIN : Hid (ParseD L w s (.returned (.tuple #[.pointer none, .int .i64 5, .int .i64 0])) w) := ⟨Below.refl _ _, .error ⟨0, 5⟩, .full hs, rfl⟩
    clear hD hT hF hs
    go_enter Tryz.func9, Tryz.ntmps9
    go_wp2
    go_ret3
    exact FIN.out
  · have hsi : ¬ (200 : Int) < (s.size : Int) := by omega
    have hs2 : s.size ≤ 200 := by omega
    have HTK : Hid (Calls Tryz.prog 20 #[.string s] w (ToksD w s)) := tokensD_any s w hs2
    have HCL : Hid (∀ (g E : Nat) (tks : List Tk), (∀ t ∈ tks, Wf t) → ∀ W, RS W g E tks 0 0 0 0 → Calls Tryz.prog 21 #[.pointer (some ⟨g, 0, none⟩), .int .i64 0] W (CPost L W g E tks 0 0 0)) := fun g E tks hw W h => climb0 hD hT hF g E tks hw W h
    clear hD hT hF hs
    go_enter Tryz.func9, Tryz.ntmps9
    go_wp2_with fail
    refine HTK.out.mono ?_
    rintro e w1 ⟨hb1, hp⟩
    have HB1 := hidMk hb1
    clear hb1 HTK
    cases ht : tok s.size 0 s.data.toList with
    | error p =>
      rw [ht] at hp
      subst hp
      have FIN : Hid (ParseD L w s (.returned (.tuple #[.pointer none, .int .i64 1, .int .i64 p])) w1) := ⟨HB1.out, .error ⟨p, 1⟩, .tok hs2 ht, rfl⟩
      have hpi : (0 : Int) ≤ (p : Int) := by omega
      clear ht HCL
      go_wp2_with fail
      go_ret3
      exact FIN.out
    | ok ts =>
      rw [ht] at hp
      obtain ⟨x, rfl, hod⟩ := hp
      have HTS := hidMk ht
      have hlen : ts.length ≤ 200 := by
        have := (tok_few _ _ _ _ ht).1
        have h2 : s.data.toList.length = s.size := by simp
        omega
      have hwf : ∀ t ∈ ts, Wf t := tok_wf _ _ _ _ (by simp; omega) ht
      obtain ⟨b, cap, rfl, hbB, hbl, htk⟩ := hod.row (by simp)
      have hn1 : (ts ++ [endT s.size]).length = ts.length + 1 := by simp
      rw [hn1]
      have HR2 : Hid (RS (w1.alloc (.cells #[.slice (some ⟨b, 0, none⟩) (ts.length + 1) cap, .int .i64 0, .int .i64 0, .int .i64 0, .int .i64 0] 58)) w1.heap.size s.size ts 0 0 0 0) := ⟨b, cap, Own.new w1 58 5 #[.slice (some ⟨b, 0, none⟩) (ts.length + 1) cap, .int .i64 0, .int .i64 0, .int .i64 0, .int .i64 0] rfl, hbl, htk.grown (r := none) (xgBelow (xbel1 _ _)) (by simp), hlen, Nat.zero_le _⟩
      have HWF := hidMk hwf
      clear hwf htk hod ht hn1
      go_wp2_with fail
      refine (HCL.out w1.heap.size s.size ts HWF.out _ HR2.out).mono ?_
      rintro e w2 ⟨hg2, xb, rfl, hres⟩
      have HB2 : Hid (Below w.heap.size w w2) := xbNew (HB1.out.trans ((xbel1 _ _).mono HB1.out.size)) hg2 (fun n hn => by cases hn; exact HB1.out.size)
      have hsz : w1.heap.size + 1 ≤ w2.heap.size := by have := hg2.size; simpa using this
      have hN1 := HB1.out.size
      clear hg2 HR2
      rcases hres with ⟨x, p', h1, h2, h3⟩ | ⟨f, p', h1, h2, h3⟩
      · obtain ⟨b', cap', hbg, hgl, c0, c1, c2, c3, c4, d0, d1, d2, hl⟩ := h1.hd
        have hbl2 : b' < w2.heap.size := by omega
        have hp0 : (0 : Int) ≤ (p' : Int) := by omega
        have HR3 := hidMk h1
        rw [List.drop_zero] at h2
        cases hdp : ts.drop p' with
        | nil =>
          rw [hdp] at h2 d0 d1 d2
          simp only [hd, srt] at d0 d1 d2
          have FIN : Hid (∀ W, Below w2.heap.size w2 W → ParseD L w s (.returned (.tuple #[ptrE xb, .int .i64 0, .int .i64 0])) W) := fun W hW => ⟨HB2.out.trans (hW.mono HB2.out.size), .ok x, .ok hs2 HTS.out h2, xb, rfl, Et.keep (fun b i u _ hb hc => xcell hW hc) (by simp; omega) hW.size x _ h3⟩
          clear h1 h2 h3 HCL
          unfold ptrE
          go_wp2_with fail
          go_quiet (fail)
          go_wp2_with fail
          go_ret3
          exact FIN.out _ (by first | exact Below.refl _ _ | exact (Below.refl _ _).drew | exact Below.drewN' (Below.refl _ _) | exact Below.drewN' (Below.drewN' (Below.refl _ _)))
        | cons t ts' =>
          rw [hdp] at h2 d0 d1 d2
          simp only [hd] at d0 d1 d2
          have htm : t ∈ ts := List.mem_of_mem_drop (by rw [hdp]; simp)
          have hk : srt t.kd = 110 ∨ srt t.kd = 48 ∨ srt t.kd = 39 ∨ srt t.kd = 111 := by
            rcases (HWF.out t htm).2 with ⟨h, _⟩ | ⟨h, _⟩ | ⟨h, _⟩ | ⟨h, _⟩ <;> rw [h] <;> simp [srt]
          have hkb : (srt t.kd != 101) = true := by rcases hk with h | h | h | h <;> rw [h] <;> rfl
          have FIN : Hid (∀ W, Below w.heap.size w W → ParseD L w s (.returned (.tuple #[.pointer none, .int .i64 1, .int .i64 t.pl])) W) := fun W hW => ⟨hW, .error ⟨t.pl, 1⟩, .more hs2 HTS.out h2, rfl⟩
          have HHD : Hid (hd s.size (ts.drop p') = t) := by rw [Hid, hdp]; rfl
          have f3 := h1.soft 3
          clear h1 h2 h3 HCL hk
          generalize srt t.kd = KK at *
          generalize t.tx = X at *
          generalize t.pl = PL at *
          unfold ptrE
          go_wp2_with fail
          go_quiet (fail)
          go_wp2_with fail
          go_region_with (go_at_call 22; refine (fail_any w1.heap.size s.size p' ts _ 0 0 _ _ _ (RS.later HR3.out (by first | exact Below.refl _ _ | exact (Below.refl _ _).drew | exact Below.drewN' (Below.refl _ _) | exact (Below.drewN' (Below.refl _ _)).drew))).mono ?_; rintro en w4 ⟨rfl, hg4, hr4⟩)
          all_goals
            have HB4 : Hid (Below w.heap.size w w4) := xbNew (Below.drewN' HB2.out) hg4 (fun n hn => by cases hn; exact hN1)
            obtain ⟨b5, cap5, hbg5, hgl5, e0, e1, e2, e3, e4, _⟩ := hr4.hd
            have e3' : w4.cell? ⟨w1.heap.size, 3, none⟩ = some (.int .i64 1) := e3
            have e4' : w4.cell? ⟨w1.heap.size, 4, none⟩ = some (.int .i64 PL) := e4
            clear hg4 hr4 e3 e4 e0 e1 e2 c0 c1 c2 c3 c4 d0 d1 d2
            go_wp2_with fail
            go_quiet (fail)
            go_wp2_with fail
            go_ret3
            exact FIN.out _ (by first | exact HB4.out | exact HB4.out.drew | exact Below.drewN' HB4.out)
      · have hb4 : (f.why : Int) ≠ 0 := by omega
        have hb4b : ((f.why : Int) == 0) = false := by rw [beq_eq_false_iff_ne]; exact hb4
        have hb4n : ((f.why : Int) != 0) = true := by rw [bne, hb4b]; rfl
        obtain ⟨b', cap', hbg, hgl, c0, c1, c2, c3, c4, d0, d1, d2, hl⟩ := h2.hd
        have hbl2 : b' < w2.heap.size := by omega
        have hp0 : (0 : Int) ≤ (p' : Int) := by omega
        rw [List.drop_zero] at h3
        have FIN : Hid (∀ W, Below w2.heap.size w2 W → ParseD L w s (.returned (.tuple #[.pointer none, .int .i64 f.why, .int .i64 f.pl])) W) := fun W hW => ⟨HB2.out.trans (hW.mono HB2.out.size), .error f, .bad hs2 HTS.out h3, rfl⟩
        clear h1 h2 h3 HCL hb4
        generalize (f.why : Int) = FW at *
        generalize (f.pl : Int) = FP at *
        generalize srt (hd s.size (ts.drop p')).kd = KK at *
        generalize (hd s.size (ts.drop p')).tx = X at *
        generalize (hd s.size (ts.drop p')).pl = PL at *
        unfold ptrE
        go_wp2_with fail
        go_quiet (fail)
        go_wp2_with fail
        go_quiet (fail)
        go_wp2_with fail
        go_ret3
        exact FIN.out _ (by first | exact Below.refl _ _ | exact (Below.refl _ _).drew | exact Below.drewN' (Below.refl _ _) | exact Below.drewN' (Below.drewN' (Below.refl _ _)))
end Go.Proofs.YtnmelljaangfiaaGreatDoor.Dc
namespace Go.Proofs.YtnmelljaangfiaaGreatDoor
open Go.RowKit
set_option linter.unusedVariables false
set_option linter.unusedSimpArgs false
set_option maxRecDepth 100000

/-- A place as a number. -/
def ixI : Option Nat → Int
  | some i => i
  | none => -1
/-- Columns that lie there. -/
def ColsAt (w : World) (a : Option Addr) (l : List Co) : Prop := ∀ i (h : i < l.length), ∃ b off, a = some ⟨b, off, none⟩ ∧ w.cell? ⟨b, off + i * 2, none⟩ = some (.string l[i].nm) ∧ w.cell? ⟨b, off + i * 2 + 1, none⟩ = some (.int .i64 l[i].k)
theorem ColsAt.later {w w' : World} {a : Option Addr} {l : List Co} (h : ColsAt w a l) (hb : Below w.heap.size w w') : ColsAt w' a l := fun i hi => by
  obtain ⟨b, off, h1, h2, h3⟩ := h i hi
  exact ⟨b, off, h1, xcell hb h2, xcell hb h3⟩

theorem placeF_any (nm n2 : ByteArray) (k : Int) (b : Nat) (w : World) (h : w.cell? ⟨b, 0, none⟩ = some (.string nm)) :
    Calls Tryz.prog 76 #[.agg #[.string n2, .int .i64 k], .pointer (some ⟨b, 0, none⟩)] w fun e w' => e = .returned (.bool (decide (n2 = nm))) ∧ Below w.heap.size w w' := by
  have hl := World.block_lt_of_cell? _ _ h
  have hl2 : b < w.heap.size := hl
  have hd : (n2.toList == nm.toList) = decide (n2 = nm) := by
    by_cases e : n2 = nm
    · rw [xeq e, decide_eq_true e]
    · rw [xne e, decide_eq_false e]
  go_enter Tryz.func76, Tryz.ntmps76
  go_wp2
  go_ret
  exact ⟨rfl, xbel1 _ _⟩

set_option maxHeartbeats 2000000 in
theorem indexFunc_any (nm : ByteArray) (a : Option Addr) (c : Nat) (l : List Co) (b : Nat) (w : World) (hc : ColsAt w a l) (hm : l.length ≤ maxLen) (h : w.cell? ⟨b, 0, none⟩ = some (.string nm)) :
    Calls Tryz.prog 75 #[.slice a l.length c, .func (.func 76) #[] #[.pointer (some ⟨b, 0, none⟩)]] w fun e w' => e = .returned (.int .i64 (ixI (colIx l nm))) ∧ Below w.heap.size w w' := by
  have HC : Hid (ColsAt w a l) := hc
  have HN : Hid (w.cell? ⟨b, 0, none⟩ = some (.string nm)) := h
  have hm' : l.length ≤ 9223372036854775807 := hm
  clear hc h hm
  go_enter Tryz.func75, Tryz.ntmps75
  go_wp2
  go_loopw [8] (fun i w' => ∃ j : Nat, j ≤ l.length ∧ i = .int .i64 j ∧ Below w.heap.size w w' ∧ ∀ m (hm : m < l.length), m < j → l[m].nm ≠ nm) (fun i _ => l.length - (intOf i).toNat)
  case atStart => exact ⟨0, Nat.zero_le _, rfl, Below.refl _ _, fun m _ h => absurd h (by omega)⟩
  case round =>
    obtain ⟨j, hj, rfl, hb, hno⟩ := hrel
    have HB : Hid (Below w.heap.size w wr) := hb
    have HNO : Hid (∀ m (hm : m < l.length), m < j → l[m].nm ≠ nm) := hno
    clear hb hno
    by_cases hlt : j < l.length
    · have hji : (j : Int) < (l.length : Int) := by omega
      obtain ⟨bb, off, ha, e0, e1⟩ := (HC.out.later HB.out) j hlt
      subst ha
      have hF : Hid (Calls Tryz.prog 76 #[.agg #[.string l[j].nm, .int .i64 l[j].k], .pointer (some ⟨b, 0, none⟩)] wr fun e w' => e = .returned (.bool (decide (l[j].nm = nm))) ∧ Below wr.heap.size wr w') := placeF_any nm l[j].nm l[j].k b wr (xcell HB.out HN.out)
      generalize hK : l[j].nm = NM at *
      generalize l[j].k = KK at *
      have HK : Hid (l[j].nm = NM) := hK
      clear hK
      go_wp2_with fail
      refine hF.out.mono ?_
      rintro e w2 ⟨rfl, hb2⟩
      have HB2 : Hid (Below w.heap.size w w2) := HB.out.trans (hb2.mono HB.out.size)
      clear hb2 hF
      by_cases hq : NM = nm
      · have hix : colIx l nm = some j := by
          unfold colIx
          rw [List.findIdx?_eq_some_iff_getElem]
          refine ⟨hlt, by simp [HK.out, hq], fun m hm => by simp; exact HNO.out m (by omega) hm⟩
        have HIX : Hid (colIx l nm = some j) := hix
        rw [decide_eq_true hq]
        clear hix hq
        go_wp2_with fail
        go_ret
        rw [HIX.out]
        exact ⟨rfl, HB2.out⟩
      · rw [decide_eq_false hq]
        have HQ : Hid (¬ NM = nm) := hq
        clear hq
        go_wp2_with fail
        exact ⟨⟨j + 1, by omega, by go_num, HB2.out, fun m hm hmj => by
          rcases Nat.lt_or_ge m j with h | h
          · exact HNO.out m hm h
          · have : m = j := by omega
            subst this
            rw [HK.out]
            exact HQ.out⟩, by simp [intOf]; omega⟩
    · obtain rfl : j = l.length := by omega
      have hix : colIx l nm = none := by
        unfold colIx
        rw [List.findIdx?_eq_none_iff]
        intro x hx
        obtain ⟨m, hm, rfl⟩ := List.getElem_of_mem hx
        simp
        exact HNO.out m hm hm
      have HIX : Hid (colIx l nm = none) := hix
      clear hix
      go_wp2_with fail
      go_ret
      rw [HIX.out]
      exact ⟨rfl, HB.out⟩

set_option maxHeartbeats 2000000 in
theorem place_any (nm : ByteArray) (a : Option Addr) (c : Nat) (l : List Co) (w : World) (hc : ColsAt w a l) (hm : l.length ≤ maxLen) :
    Calls Tryz.prog 53 #[.slice a l.length c, .string nm] w fun e w' => e = .returned (.int .i64 (ixI (colIx l nm))) ∧ Below w.heap.size w w' := by
  have HI : Hid (∀ W, Below w.heap.size w W → W.cell? ⟨w.heap.size, 0, none⟩ = some (.string nm) → Calls Tryz.prog 75 #[.slice a l.length c, .func (.func 76) #[] #[.pointer (some ⟨w.heap.size, 0, none⟩)]] W fun e w' => e = .returned (.int .i64 (ixI (colIx l nm))) ∧ Below W.heap.size W w') := fun W hW h => indexFunc_any nm a c l w.heap.size W (hc.later hW) hm h
  have hmf := xmf
  clear hc hm
  generalize (ixI (colIx l nm)) = N at *
  go_enter Tryz.func53, Tryz.ntmps53
  go_wp2_with fail
  refine (HI.out _ (xbel1 _ _) (by go_simp)).mono ?_
  rintro e w2 ⟨rfl, hb2⟩
  have HB2 : Hid (Below w.heap.size w w2) := (xbel1 w _).trans (hb2.mono (by simp))
  clear hb2 HI
  go_wp2_with fail
  go_ret
  exact ⟨rfl, HB2.out⟩
end Go.Proofs.YtnmelljaangfiaaGreatDoor
namespace Go.Proofs.YtnmelljaangfiaaGreatDoor
open Go.RowKit
set_option linter.unusedVariables false
set_option linter.unusedSimpArgs false
set_option maxRecDepth 100000

/-- A text of one word. -/
def wordX (s : ByteArray) : Bool := match s.data.toList with
  | [] => false
  | c :: r => !isDg c && decide (wLen (c :: r) = (c :: r).length)
/-- A name. -/
def nmX (s : ByteArray) : Bool := wordX s && !decide (res s) && decide (s.size ≤ 12)

theorem wordX_of {s : ByteArray} {c : UInt8} {r : List UInt8} (h : s.data.toList = c :: r) : wordX s = (!isDg c && decide (wLen s.data.toList = s.size)) := by
  have hl : s.data.toList.length = s.size := by simp
  unfold wordX
  rw [h] at hl ⊢
  simp only [hl]
set_option maxHeartbeats 1000000 in
theorem isWord_any (s : ByteArray) (w : World) (hs : s.size ≤ 140737488355328) :
    Calls Tryz.prog 73 #[.string s] w fun e w' => e = .returned (.bool (wordX s)) ∧ w' = w := by
  have HW : Hid (∀ W, Calls Tryz.prog 86 #[.string s] W fun e w' => e = .returned (.int .i64 (wLen s.data.toList)) ∧ w' = W) := fun W => wordLen_any s W hs
  have hlen : s.data.toList.length = s.size := by simp
  by_cases h0 : s.size = 0
  · have he : s = ⟨#[]⟩ := by
      apply ByteArray.ext
      apply Array.toList_inj.1
      exact List.eq_nil_of_length_eq_zero (by omega)
    subst he
    have HX : Hid (wordX ⟨#[]⟩ = false) := rfl
    clear hs HW hlen h0
    go_enter Tryz.func73, Tryz.ntmps73
    go_wp2
    go_ret
    exact ⟨ret_b HX.out.symm, rfl⟩
  · have h1 : 0 < s.size := by omega
    have h1i : (0 : Int) < (s.size : Int) := by omega
    have hcons : s.data.toList = s[0] :: s.data.toList.drop 1 := by
      have e0 : s.data.toList[0]'(by omega) = s[0] := by simp [ByteArray.getElem_eq_getElem_data]
      rw [← e0]
      have := List.drop_eq_getElem_cons (l := s.data.toList) (i := 0) (by omega)
      simpa using this
    have HX : Hid (wordX s = (!isDg s[0] && decide (wLen s.data.toList = s.size))) := wordX_of hcons
    have HD : Hid (∀ W, Calls Tryz.prog 85 #[.int .u8 s[0].toNat] W fun e w' => e = .returned (.bool (isDg s[0])) ∧ w' = W) := fun W => isDigit_any s[0] W
    have hem : s.toList.isEmpty = false := by
      rw [ByteArray.toList_eq]
      cases hq : s.data.toList with
      | nil => rw [hq] at hlen; simp at hlen; omega
      | cons => rfl
    have hne : ¬ s = ⟨#[]⟩ := fun e => by rw [e] at h1; exact absurd h1 (by decide)
    have hnl : (s.toList == []) = false := xnl hne
    have hd2 : (((wLen s.data.toList : Nat) : Int) == (s.size : Int)) = decide (wLen s.data.toList = s.size) := by rw [Bool.eq_iff_iff]; simp; omega
    generalize decide (wLen s.data.toList = s.size) = D at *
    generalize ((wLen s.data.toList : Nat) : Int) = N at *
    clear hs hlen h0 hcons hne
    cases hdg : isDg s[0]
    · rw [hdg] at HX HD
      go_enter Tryz.func73, Tryz.ntmps73
      go_wp2_with fail
      refine (HD.out _).mono ?_
      rintro e w1 ⟨rfl, h⟩
      have := h.symm; subst this
      go_wp2_with fail
      refine (HW.out _).mono ?_
      rintro e w1 ⟨rfl, h⟩
      have := h.symm; subst this
      go_wp2_with fail
      go_ret
      exact ⟨ret_b (by rw [HX.out]; rfl), rfl⟩
    · rw [hdg] at HX HD
      go_enter Tryz.func73, Tryz.ntmps73
      go_wp2_with fail
      refine (HD.out _).mono ?_
      rintro e w1 ⟨rfl, h⟩
      have := h.symm; subst this
      go_wp2_with fail
      go_ret
      exact ⟨ret_b (by rw [HX.out]; rfl), rfl⟩

set_option maxHeartbeats 1000000 in
theorem named_ok (s : ByteArray) (w : World) (hs : s.size ≤ 140737488355328) :
    Calls Tryz.prog 52 #[.string s] w fun e w' => e = .returned (.bool (nmX s)) ∧ w' = w := by
  have HW : Hid (∀ W, Calls Tryz.prog 73 #[.string s] W fun e w' => e = .returned (.bool (wordX s)) ∧ w' = W) := fun W => isWord_any s W hs
  have HR : Hid (∀ W, Calls Tryz.prog 74 #[.string s] W fun e w' => e = .returned (.bool (decide (res s))) ∧ w' = W) := fun W => reserved_any s W
  have HX : Hid (nmX s = (wordX s && !decide (res s) && decide (s.size ≤ 12))) := rfl
  have hd2 : decide ((s.size : Int) ≤ 12) = decide (s.size ≤ 12) := by rw [Bool.eq_iff_iff]; simp; omega
  generalize hA : wordX s = A at *
  generalize hB : decide (res s) = B at *
  generalize hC : decide (s.size ≤ 12) = C at *
  clear hs hA hB hC
  cases A
  · go_enter Tryz.func52, Tryz.ntmps52
    go_wp2_with fail
    refine (HW.out _).mono ?_
    rintro e w1 ⟨rfl, h⟩
    have := h.symm; subst this
    go_wp2_with fail
    go_ret
    exact ⟨ret_b (by rw [HX.out]; rfl), rfl⟩
  · cases B
    all_goals
      go_enter Tryz.func52, Tryz.ntmps52
      go_wp2_with fail
      refine (HW.out _).mono ?_
      rintro e w1 ⟨rfl, h⟩
      have := h.symm; subst this
      go_wp2_with fail
      refine (HR.out _).mono ?_
      rintro e w1 ⟨rfl, h⟩
      have := h.symm; subst this
      go_wp2_with fail
      go_ret
      exact ⟨ret_b (by rw [HX.out]; rfl), rfl⟩

/-- Columns that are some. -/
def colX (l : List Co) (i : Nat) (c : Co) : Prop := nmX c.nm = true ∧ colIx l c.nm = some i ∧ (c.k = 1 ∨ c.k = 2 ∨ c.k = 3)
instance (l : List Co) (i : Nat) (c : Co) : Decidable (colX l i c) := by unfold colX; infer_instance
def colsX (l : List Co) : Prop := l.length ≤ 8 ∧ ∀ i (h : i < l.length), colX l i l[i]
theorem ixI_eq (o : Option Nat) (i : Nat) : (ixI o == (i : Int)) = decide (o = some i) := by
  cases o with
  | none => rw [Bool.eq_iff_iff]; simp [ixI]; try omega
  | some j => rw [Bool.eq_iff_iff]; simp [ixI]; try omega

def ColPost (w : World) (l : List Co) (e : Ending) (w' : World) : Prop := (∃ r, e = .returned (.bool r) ∧ (r = true ↔ colsX l)) ∧ Below w.heap.size w w'
set_option maxHeartbeats 4000000 in
theorem columns_any (a : Option Addr) (c : Nat) (l : List Co) (w : World) (hc : ColsAt w a l) (hm : l.length ≤ maxLen) (hz : ∀ x ∈ l, x.nm.size ≤ 140737488355328) :
    Calls Tryz.prog 26 #[.slice a l.length c] w (ColPost w l) := by
  by_cases h8 : 8 < l.length
  · have h8i : (8 : Int) < (l.length : Int) := by omega
    have FIN : Hid (false = true ↔ colsX l) := ⟨fun h => (by cases h), fun h => by have := h.1; omega⟩
    clear hc hm hz h8
    go_enter Tryz.func26, Tryz.ntmps26
    go_wp2
    go_ret
    exact ⟨⟨_, rfl, FIN.out⟩, Below.refl _ _⟩
  · have h8i : ¬ (8 : Int) < (l.length : Int) := by omega
    have h8' : l.length ≤ 8 := by omega
    have HC : Hid (ColsAt w a l) := hc
    have HP : Hid (∀ nm W, Below w.heap.size w W → Calls Tryz.prog 53 #[.slice a l.length c, .string nm] W fun e w' => e = .returned (.int .i64 (ixI (colIx l nm))) ∧ Below W.heap.size W w') := fun nm W hW => place_any nm a c l W (hc.later hW) hm
    have HN : Hid (∀ x ∈ l, ∀ W, Calls Tryz.prog 52 #[.string x.nm] W fun e w' => e = .returned (.bool (nmX x.nm)) ∧ w' = W) := fun x hx W => named_ok x.nm W (hz x hx)
    clear hc hm hz h8
    go_enter Tryz.func26, Tryz.ntmps26
    go_wp2
    go_loopw [10] (fun i w' => ∃ j : Nat, j ≤ l.length ∧ i = .int .i64 j ∧ Below w.heap.size w w' ∧ ∀ m (hm : m < l.length), m < j → colX l m l[m]) (fun i _ => l.length - (intOf i).toNat)
    case atStart => exact ⟨0, Nat.zero_le _, rfl, Below.refl _ _, fun m _ h => absurd h (by omega)⟩
    case round =>
      obtain ⟨j, hj, rfl, hb, hno⟩ := hrel
      have HB : Hid (Below w.heap.size w wr) := hb
      have HNO : Hid (∀ m (hm : m < l.length), m < j → colX l m l[m]) := hno
      clear hb hno
      by_cases hlt : j < l.length
      · have hji : (j : Int) < (l.length : Int) := by omega
        obtain ⟨bb, off, ha, e0, e1⟩ := (HC.out.later HB.out) j hlt
        subst ha
        have hbbl : bb < wr.heap.size := World.block_lt_of_cell? _ _ e0
        have HN1 : Hid (∀ W, Calls Tryz.prog 52 #[.string l[j].nm] W fun e w' => e = .returned (.bool (nmX l[j].nm)) ∧ w' = W) := HN.out l[j] (List.getElem_mem hlt)
        have BAD : Hid (¬ colX l j l[j] → (false = true ↔ colsX l)) := fun h => ⟨fun h => (by cases h), fun h' => absurd (h'.2 j hlt) h⟩
        have GOOD : Hid (colX l j l[j] → ∀ m (hm : m < l.length), m < j + 1 → colX l m l[m]) := fun h m hm hmj => by
          rcases Nat.lt_or_ge m j with h' | h'
          · exact HNO.out m hm h'
          · have : m = j := by omega
            subst this
            exact h
        have HX : Hid (colX l j l[j] ↔ nmX l[j].nm = true ∧ colIx l l[j].nm = some j ∧ (l[j].k = 1 ∨ l[j].k = 2 ∨ l[j].k = 3)) := Iff.rfl
        generalize l[j].nm = NM at *
        generalize l[j].k = KK at *
        generalize colX l j l[j] = CX at *
        cases hnm : nmX NM
        · have hbad : ¬ CX := fun h => by have := (HX.out.1 h).1; rw [hnm] at this; cases this
          have FB : Hid (false = true ↔ colsX l) := BAD.out hbad
          rw [hnm] at HN1
          clear hbad hnm BAD GOOD HX
          go_wp2_with fail
          refine (HN1.out _).mono ?_
          rintro e w2 ⟨rfl, h⟩
          have := h.symm; subst this
          go_wp2_with fail
          go_ret
          exact ⟨⟨_, rfl, FB.out⟩, HB.out.trans ((xbel1 _ _).mono HB.out.size)⟩
        · rw [hnm] at HN1
          go_wp2_with fail
          refine (HN1.out _).mono ?_
          rintro e w2 ⟨rfl, h⟩
          have := h.symm; subst this
          go_wp2_with fail
          refine (HP.out NM _ (HB.out.trans ((xbel1 _ _).mono HB.out.size))).mono ?_
          rintro e w3 ⟨rfl, hb3⟩
          have k0 : w3.cell? ⟨wr.heap.size, 0, none⟩ = some (.string NM) := xcell hb3 (by go_simp)
          have k1 : w3.cell? ⟨wr.heap.size, 1, none⟩ = some (.int .i64 KK) := xcell hb3 (by go_simp)
          have HB3 : Hid (Below w.heap.size w w3) := (HB.out.trans ((xbel1 _ _).mono HB.out.size)).trans (hb3.mono (by have := HB.out.size; simp; omega))
          have hix := ixI_eq (colIx l NM) j
          generalize ixI (colIx l NM) = NI at *
          clear hb3
          by_cases hcx : colIx l NM = some j
          · have hix2 : (NI == (j : Int)) = true := by rw [hix, decide_eq_true hcx]
            have hix3 : (NI != (j : Int)) = false := by rw [bne, hix2]; rfl
            by_cases q1 : KK = 1
            · have g1 : (KK != 1) = false := by rw [q1]; rfl
              have g1' : (KK == 1) = true := by rw [q1]; rfl
              have FG : Hid (∀ m (hm : m < l.length), m < j + 1 → colX l m l[m]) := GOOD.out (HX.out.2 ⟨hnm, hcx, .inl q1⟩)
              clear q1 hcx hix BAD GOOD HX
              go_wp2_with fail
              exact ⟨⟨j + 1, by omega, by go_num, HB3.out, FG.out⟩, by simp [intOf]; omega⟩
            have g1 : (KK != 1) = true := by rw [bne_iff_ne]; exact q1
            have g1' : (KK == 1) = false := by rw [beq_eq_false_iff_ne]; exact q1
            by_cases q2 : KK = 2
            · have g2 : (KK != 2) = false := by rw [q2]; rfl
              have g2' : (KK == 2) = true := by rw [q2]; rfl
              have FG : Hid (∀ m (hm : m < l.length), m < j + 1 → colX l m l[m]) := GOOD.out (HX.out.2 ⟨hnm, hcx, .inr (.inl q2)⟩)
              clear q1 q2 hcx hix BAD GOOD HX
              go_wp2_with fail
              exact ⟨⟨j + 1, by omega, by go_num, HB3.out, FG.out⟩, by simp [intOf]; omega⟩
            have g2 : (KK != 2) = true := by rw [bne_iff_ne]; exact q2
            have g2' : (KK == 2) = false := by rw [beq_eq_false_iff_ne]; exact q2
            by_cases q3 : KK = 3
            · have g3 : (KK != 3) = false := by rw [q3]; rfl
              have g3' : (KK == 3) = true := by rw [q3]; rfl
              have FG : Hid (∀ m (hm : m < l.length), m < j + 1 → colX l m l[m]) := GOOD.out (HX.out.2 ⟨hnm, hcx, .inr (.inr q3)⟩)
              clear q1 q2 q3 hcx hix BAD GOOD HX
              go_wp2_with fail
              exact ⟨⟨j + 1, by omega, by go_num, HB3.out, FG.out⟩, by simp [intOf]; omega⟩
            have g3 : (KK != 3) = true := by rw [bne_iff_ne]; exact q3
            have g3' : (KK == 3) = false := by rw [beq_eq_false_iff_ne]; exact q3
            have FB : Hid (false = true ↔ colsX l) := BAD.out (fun h => by rcases (HX.out.1 h).2.2 with h | h | h <;> contradiction)
            clear q1 q2 q3 hcx hix BAD GOOD HX
            go_wp2_with fail
            go_ret
            exact ⟨⟨_, rfl, FB.out⟩, HB3.out⟩
          · have hix2 : (NI == (j : Int)) = false := by rw [hix, decide_eq_false hcx]
            have hix3 : (NI != (j : Int)) = true := by rw [bne, hix2]; rfl
            have FB : Hid (false = true ↔ colsX l) := BAD.out (fun h => hcx (HX.out.1 h).2.1)
            clear hcx hix BAD GOOD HX
            go_wp2_with fail
            go_ret
            exact ⟨⟨_, rfl, FB.out⟩, HB3.out⟩
      · obtain rfl : j = l.length := by omega
        have FG : Hid (true = true ↔ colsX l) := ⟨fun _ => ⟨h8', fun m hm => HNO.out m hm hm⟩, fun _ => rfl⟩
        go_wp2_with fail
        go_ret
        exact ⟨⟨_, rfl, ⟨fun _ => FG.out.1 (by trivial), fun _ => rfl⟩⟩, HB.out⟩
end Go.Proofs.YtnmelljaangfiaaGreatDoor
namespace Go.Proofs.YtnmelljaangfiaaGreatDoor.Dc
open Go.RowKit
set_option linter.unusedVariables false
set_option linter.unusedSimpArgs false
set_option maxRecDepth 100000

theorem hidMk' {p : Prop} (h : p) : Hid p := h
theorem colIx_some {l : List Co} {nm : ByteArray} {j : Nat} (hj : j < l.length) (h : l[j].nm = nm) (hno : ∀ m (hm : m < l.length), m < j → l[m].nm ≠ nm) : colIx l nm = some j := by
  unfold colIx
  rw [List.findIdx?_eq_some_iff_getElem]
  exact ⟨hj, by simpa using h, fun m hm => by simpa using hno m (by omega) hm⟩
theorem colIx_none {l : List Co} {nm : ByteArray} (hno : ∀ m (hm : m < l.length), l[m].nm ≠ nm) : colIx l nm = none := by
  unfold colIx
  rw [List.findIdx?_eq_none_iff]
  intro x hx
  obtain ⟨i, hi, rfl⟩ := List.getElem_of_mem hx
  simpa using hno i hi
theorem nameEq (a b : ByteArray) : (a.toList == b.toList) = decide (a = b) := by
  by_cases e : a = b
  · rw [xeq e, decide_eq_true e]
  · rw [xne e, decide_eq_false e]
set_option maxHeartbeats 2000000 in
/-- Where the document finds a column. -/
theorem atD_any (nm : ByteArray) (a : Option Addr) (cc : Nat) (l : List Co) (w : World) (hc : ColsAt w a l) (hm : l.length ≤ maxLen) :
    Calls Tryz.prog 28 #[.slice a l.length cc, .string nm] w fun e w' => e = .returned (.int .i64 (ixI (colIx l nm))) ∧ Below w.heap.size w w' := by
  have HC := hidMk' hc
  have hmx : (l.length : Int) ≤ 9223372036854775807 := by unfold maxLen at hm; omega
  clear hc hm
  go_enter Tryz.func28, Tryz.ntmps28
  go_wp2
  go_loopw [5] (fun i w' => ∃ j : Nat, j ≤ l.length ∧ i = .int .i64 j ∧ Below w.heap.size w w' ∧ ∀ m (hm : m < l.length), m < j → l[m].nm ≠ nm) (fun i _ => l.length - (intOf i).toNat)
  case atStart => exact ⟨0, Nat.zero_le _, rfl, Below.refl _ _, fun m _ h => absurd h (by omega)⟩
  case round =>
    obtain ⟨j, hj, rfl, hb, hno⟩ := hrel
    have HB := hidMk' hb
    have HNO := hidMk' hno
    clear hb hno
    by_cases hlt : j < l.length
    · have hji : (j : Int) < (l.length : Int) := by omega
      obtain ⟨bb, off, rfl, e0, e1⟩ := (HC.out.later HB.out) j hlt
      have hbbl : bb < wr.heap.size := World.block_lt_of_cell? _ _ e0
      by_cases hn : l[j].nm = nm
      · have hq : (l[j].nm.toList == nm.toList) = true := xeq hn
        have F : Hid (ixI (colIx l nm) = (j : Int)) := by rw [Hid, colIx_some hlt hn HNO.out]; rfl
        generalize l[j].nm = NM at *
        generalize l[j].k = KK at *
        clear HC HNO hn
        go_wp2_with fail
        go_ret
        exact ⟨ret_i F.out.symm, HB.out⟩
      · have hq : (l[j].nm.toList == nm.toList) = false := xne hn
        have F : Hid (∀ m (hm : m < l.length), m < j + 1 → l[m].nm ≠ nm) := fun m hm hmj => by
          rcases Nat.lt_or_ge m j with h' | h'
          · exact HNO.out m hm h'
          · have : m = j := by omega
            subst this; exact hn
        generalize l[j].nm = NM at *
        generalize l[j].k = KK at *
        clear HC HNO hn
        go_wp2_with fail
        exact ⟨⟨j + 1, by omega, by go_num, HB.out, F.out⟩, by simp [intOf]; omega⟩
    · obtain rfl : j = l.length := by omega
      have F : Hid (ixI (colIx l nm) = (-1 : Int)) := by rw [Hid, colIx_none (fun m hm => HNO.out m hm hm)]; rfl
      clear HC HNO
      go_wp2_with fail
      go_ret
      exact ⟨ret_i F.out.symm, HB.out⟩
theorem nmX_bad {s : ByteArray} {j : Nat} (hj : j < s.size) (hs : wLen s.data.toList = j + wLen (s.data.toList.drop j)) (h0 : 0 < j → isLt (s[0]'(by omega)) = true) (hl : isLt s[j] = false) (hd : j = 0 ∨ isDg s[j] = false) : nmX s = false := by
  have hlen : s.data.toList.length = s.size := by simp
  have hk : j < s.data.toList.length := by omega
  have he : s.data.toList[j] = s[j] := by simp [ByteArray.getElem_eq_getElem_data]
  have hcons : s.data.toList = s[0]'(by omega) :: s.data.toList.drop 1 := by
    have e0 : s.data.toList[0]'(by omega) = s[0]'(by omega) := by simp [ByteArray.getElem_eq_getElem_data]
    rw [← e0]
    have := List.drop_eq_getElem_cons (l := s.data.toList) (i := 0) (by omega)
    simpa using this
  unfold nmX
  rw [wordX_of hcons]
  by_cases hdj : isDg s[j] = true
  · have hj0 : j = 0 := by
      rcases hd with h | h
      · exact h
      · rw [h] at hdj; cases hdj
    subst hj0
    rw [hdj]; rfl
  · have hw : isWb s.data.toList[j] = false := by rw [he, isWb_lt, hl]; simpa using hdj
    have := wLen_off hk hw hs
    rw [this, decide_eq_false (by omega)]
    simp
theorem nmX_good {s : ByteArray} (hs : wLen s.data.toList = s.size) (h0 : ∀ h : 0 < s.size, isLt (s[0]'h) = true) : nmX s = (decide (0 < s.size) && decide (s.size ≤ 12) && !decide (res s)) := by
  unfold nmX
  by_cases hz : 0 < s.size
  · have hlen : s.data.toList.length = s.size := by simp
    have hcons : s.data.toList = s[0] :: s.data.toList.drop 1 := by
      have e0 : s.data.toList[0]'(by omega) = s[0] := by simp [ByteArray.getElem_eq_getElem_data]
      rw [← e0]
      have := List.drop_eq_getElem_cons (l := s.data.toList) (i := 0) (by omega)
      simpa using this
    have hnd : isDg s[0] = false := by
      cases h : isDg s[0] with
      | false => rfl
      | true => have := isLt_dg _ h; rw [h0 hz] at this; cases this
    rw [wordX_of hcons, hs, hnd]
    simp [hz, Bool.and_comm]
  · have he : s = ⟨#[]⟩ := by
      apply ByteArray.ext
      apply Array.toList_inj.1
      exact List.eq_nil_of_length_eq_zero (by have : s.data.toList.length = s.size := by simp
                                              omega)
    subst he
    rfl
set_option maxHeartbeats 4000000 in
theorem namedD_any (s : ByteArray) (w : World) (hs : s.size ≤ 140737488355328) :
    Calls Tryz.prog 27 #[.string s] w fun e w' => e = .returned (.bool (nmX s)) ∧ w' = w := by
  have hlen : s.data.toList.length = s.size := by simp
  have HD : Hid (∀ (c : UInt8) (w : World), Calls Tryz.prog 44 #[.int .u8 c.toNat] w fun e w' => e = .returned (.bool (isDg c)) ∧ w' = w) := digitD_any
  have HL : Hid (∀ (c : UInt8) (w : World), Calls Tryz.prog 43 #[.int .u8 c.toNat] w fun e w' => e = .returned (.bool (isLt c)) ∧ w' = w) := letterD_any
  have HW : Hid (∀ W, Calls Tryz.prog 54 #[.string s] W fun e w' => e = .returned (.bool (decide (res s))) ∧ w' = W) := fun W => word_any s W
  go_enter Tryz.func27, Tryz.ntmps27
  go_wp2
  go_loopw [3] (fun i w' => ∃ j : Nat, j ≤ s.size ∧ i = .int .i64 j ∧ wLen s.data.toList = j + wLen (s.data.toList.drop j) ∧ (∀ h : 0 < s.size, 0 < j → isLt (s[0]'h) = true) ∧ w' = w) (fun i _ => s.size - (intOf i).toNat)
  case atStart => exact ⟨0, Nat.zero_le _, rfl, by simp, fun _ h => absurd h (by omega), rfl⟩
  case round =>
    obtain ⟨j, hj, rfl, hsum, h0, rfl⟩ := hrel
    have HS := hidMk' hsum
    have H0 := hidMk' h0
    clear hsum h0
    by_cases hlt : j < s.size
    · have hki : (j : Int) < (s.size : Int) := by omega
      have hk2 : j < s.data.toList.length := by omega
      have he : s.data.toList[j] = s[j] := by simp [ByteArray.getElem_eq_getElem_data]
      cases hlj : isLt s[j] with
      | true =>
        have F : Hid (wLen s.data.toList = (j + 1) + wLen (s.data.toList.drop (j + 1)) ∧ (∀ h : 0 < s.size, 0 < j + 1 → isLt (s[0]'h) = true)) := by
          refine ⟨wLen_on hk2 (by rw [he, isWb_lt, hlj]; rfl) HS.out, fun h _ => ?_⟩
          by_cases hj0 : j = 0
          · subst hj0; exact hlj
          · exact H0.out h (by omega)
        clear HS H0 he
        cases hdj : isDg s[j] <;>
        · go_wp2_with (first
            | (go_at_call 43; refine (HL.out _ _).mono ?_; rintro e w1 ⟨rfl, h⟩; (have := h.symm); subst this; rw [hlj])
            | (go_at_call 44; refine (HD.out _ _).mono ?_; rintro e w1 ⟨rfl, h⟩; (have := h.symm); subst this; rw [hdj]))
          exact ⟨⟨j + 1, by omega, by go_num, F.out.1, F.out.2, by first | rfl | trivial⟩, by simp [intOf]; omega⟩
      | false =>
        cases hdj : isDg s[j] with
        | false =>
          have F : Hid (nmX s = false) := nmX_bad hlt HS.out (fun h => H0.out (by omega) h) hlj (.inr hdj)
          clear HS H0 he
          by_cases hj0 : (j : Int) = 0
          · have hj0b : ((j : Int) == 0) = true := by rw [hj0]; rfl
            clear hj0
            go_wp2_with (first
              | (go_at_call 43; refine (HL.out _ _).mono ?_; rintro e w1 ⟨rfl, h⟩; (have := h.symm); subst this; rw [hlj])
              | (go_at_call 44; refine (HD.out _ _).mono ?_; rintro e w1 ⟨rfl, h⟩; (have := h.symm); subst this; rw [hdj]))
            go_ret
            exact ⟨ret_b F.out.symm, rfl⟩
          · have hj0b : ((j : Int) == 0) = false := by rw [beq_eq_false_iff_ne]; exact hj0
            clear hj0
            go_wp2_with (first
              | (go_at_call 43; refine (HL.out _ _).mono ?_; rintro e w1 ⟨rfl, h⟩; (have := h.symm); subst this; rw [hlj])
              | (go_at_call 44; refine (HD.out _ _).mono ?_; rintro e w1 ⟨rfl, h⟩; (have := h.symm); subst this; rw [hdj]))
            go_ret
            exact ⟨ret_b F.out.symm, rfl⟩
        | true =>
          by_cases hj0 : (j : Int) = 0
          · have F : Hid (nmX s = false) := nmX_bad hlt HS.out (fun h => H0.out (by omega) h) hlj (.inl (by omega))
            have hj0b : ((j : Int) == 0) = true := by rw [hj0]; rfl
            clear HS H0 he hj0
            go_wp2_with (first
              | (go_at_call 43; refine (HL.out _ _).mono ?_; rintro e w1 ⟨rfl, h⟩; (have := h.symm); subst this; rw [hlj])
              | (go_at_call 44; refine (HD.out _ _).mono ?_; rintro e w1 ⟨rfl, h⟩; (have := h.symm); subst this; rw [hdj]))
            go_ret
            exact ⟨ret_b F.out.symm, rfl⟩
          · have F : Hid (wLen s.data.toList = (j + 1) + wLen (s.data.toList.drop (j + 1)) ∧ (∀ h : 0 < s.size, 0 < j + 1 → isLt (s[0]'h) = true)) := ⟨wLen_on hk2 (by rw [he, isWb_lt, hdj]; simp) HS.out, fun h _ => H0.out h (by omega)⟩
            have hj0b : ((j : Int) == 0) = false := by rw [beq_eq_false_iff_ne]; exact hj0
            clear HS H0 he hj0
            go_wp2_with (first
              | (go_at_call 43; refine (HL.out _ _).mono ?_; rintro e w1 ⟨rfl, h⟩; (have := h.symm); subst this; rw [hlj])
              | (go_at_call 44; refine (HD.out _ _).mono ?_; rintro e w1 ⟨rfl, h⟩; (have := h.symm); subst this; rw [hdj]))
            exact ⟨⟨j + 1, by omega, by go_num, F.out.1, F.out.2, by first | rfl | trivial⟩, by simp [intOf]; omega⟩
    · obtain rfl : j = s.size := by omega
      have F : Hid (nmX s = (decide (0 < s.size) && decide (s.size ≤ 12) && !decide (res s))) := nmX_good (by
        have := HS.out
        rw [List.drop_eq_nil_of_le (by omega)] at this
        simpa [wLen] using this) (fun h => H0.out h h)
      have i1 : decide ((0 : Int) < (s.size : Int)) = decide (0 < s.size) := by rw [Bool.eq_iff_iff]; simp
      have i2 : decide ((s.size : Int) ≤ 12) = decide (s.size ≤ 12) := by rw [Bool.eq_iff_iff]; simp; omega
      generalize hA : decide (res s) = RB at *
      clear HS H0 HD HL hA
      have F2 : Hid (nmX s = (decide ((0 : Int) < (s.size : Int)) && decide ((s.size : Int) ≤ 12) && !RB)) := by rw [Hid, i1, i2]; exact F.out
      clear F i1 i2
      have k1 : decide ((0 : Int) < (s.size : Int)) = true ∧ (0 : Int) < (s.size : Int) ∨ decide ((0 : Int) < (s.size : Int)) = false ∧ ¬ (0 : Int) < (s.size : Int) := by
        by_cases z : (0 : Int) < (s.size : Int)
        · exact .inl ⟨decide_eq_true z, z⟩
        · exact .inr ⟨decide_eq_false z, z⟩
      have k2 : decide ((s.size : Int) ≤ 12) = true ∧ (s.size : Int) ≤ 12 ∨ decide ((s.size : Int) ≤ 12) = false ∧ ¬ (s.size : Int) ≤ 12 := by
        by_cases z : (s.size : Int) ≤ 12
        · exact .inl ⟨decide_eq_true z, z⟩
        · exact .inr ⟨decide_eq_false z, z⟩
      rcases k1 with ⟨e1, z1⟩ | ⟨e1, z1⟩ <;> rcases k2 with ⟨e2, z2⟩ | ⟨e2, z2⟩ <;> (try (exfalso; omega)) <;> rw [e1, e2] at F2 <;> cases RB <;> clear e1 e2 <;>
      · go_wp2_with fail
        refine (HW.out _).mono ?_
        rintro e w1 ⟨rfl, h⟩
        have := h.symm; subst this
        go_wp2_with fail
        go_ret
        exact ⟨ret_b F2.out.symm, rfl⟩
end Go.Proofs.YtnmelljaangfiaaGreatDoor.Dc
