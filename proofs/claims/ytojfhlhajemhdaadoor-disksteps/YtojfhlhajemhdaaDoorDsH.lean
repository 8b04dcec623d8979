import Derived.Test.YtojfhlhajemhdaaDoorDsG
namespace Go.Proofs.YtojfhlhajemhdaaDoor
open Go.RowKit
set_option linter.unusedVariables false
set_option linter.unusedSimpArgs false
set_option maxRecDepth 100000

theorem crashed_irr (t : Nat) (pa pa' : Option Addr) (pc pc' : Nat) : ∀ (n : Nat) (a : List Fl), t < n ∨ n + (loose a).length ≤ t → crashed t pa pc n a = crashed t pa' pc' n a
  | n, [], _ => rfl
  | n, f :: a, h => by
    rw [loose_cons] at h
    rw [crashed, crashed]
    by_cases hf : f.ls = true
    · rw [if_pos hf, List.length_cons] at h
      rw [if_pos hf, if_pos hf, crashed_irr t pa pa' pc pc' (n + 1) a (by omega), if_neg (show ¬ n = t by omega), if_neg (show ¬ n = t by omega)]
    · rw [if_neg hf] at h
      rw [if_neg hf, if_neg hf, crashed_irr t pa pa' pc pc' n a h]
theorem crashed_len (t : Nat) (pa : Option Addr) (pc : Nat) : ∀ (n : Nat) (a : List Fl), (crashed t pa pc n a).length ≤ a.length
  | n, [] => Nat.le_refl _
  | n, f :: a => by
    have h1 := crashed_len t pa pc (n + 1) a
    have h2 := crashed_len t pa pc n a
    rw [crashed]
    split
    · split
      · simp only [List.length_cons]; omega
      · split
        · simp only [List.length_cons]; omega
        · simp only [List.length_cons]; omega
    · simp only [List.length_cons]; omega
theorem PM.soft {w : World} {B d mb : Nat} {lv : Value} {xs : List ByteArray} {A C : List Fl} {f : Fl} (h : PM w B d mb lv xs (A ++ f :: C)) : PM w B d mb lv xs (A ++ { f with ls := false } :: C) := by
  have hm : ∀ g, g ∈ A ++ { f with ls := false } :: C → ∃ g', g' ∈ A ++ f :: C ∧ g'.pa = g.pa ∧ g'.pc = g.pc ∧ g'.bs = g.bs := fun g hg => by
    rcases List.mem_append.1 hg with hg | hg
    · exact ⟨g, List.mem_append_left _ hg, rfl, rfl, rfl⟩
    · rcases List.mem_cons.1 hg with rfl | hg
      · exact ⟨f, by simp, rfl, rfl, rfl⟩
      · exact ⟨g, List.mem_append_right _ (List.mem_cons_of_mem _ hg), rfl, rfl, rfl⟩
  refine ⟨h.own, ?_, h.row, fun g hg => ?_, fun g hg => ?_, h.hd⟩
  · have e : (A ++ { f with ls := false } :: C).map ent = (A ++ f :: C).map ent := by rw [List.map_append, List.map_append, List.map_cons, List.map_cons]; rfl
    rw [e]; exact h.mp
  · obtain ⟨g', h1, h2, h3, h4⟩ := hm g hg
    rw [← h2, ← h3, ← h4]; exact h.by' g' h1
  · obtain ⟨g', h1, h2, h3, h4⟩ := hm g hg
    rw [← h2]; exact h.ap g' h1

/-- Where a crash stands behind i of the files that can be lost. -/
def Mid (w wr : World) (B d mb : Nat) (lv : Value) (fs : List Fl) (t i : Nat) : Prop :=
  ∃ pre post pa pc, fs = pre ++ post ∧ (loose pre).length = i ∧ PM wr B d mb lv (loose fs) (crashed t pa pc 0 pre ++ post) ∧ Gs (fun k => k = mb) w wr
theorem Mid.next {w wr : World} {B d mb : Nat} {lv : Value} {fs : List Fl} {t i : Nat} (h : Mid w wr B d mb lv fs t i) (hi : i < (loose fs).length) :
    ∃ pre f post pa pc, fs = pre ++ f :: post ∧ f ∈ fs ∧ (loose pre).length = i ∧ f.ls = true ∧ (loose fs)[i] = f.nm ∧ PM wr B d mb lv (loose fs) (crashed t pa pc 0 pre ++ f :: post) ∧ Gs (fun k => k = mb) w wr := by
  obtain ⟨pre, post, pa, pc, rfl, h1, h2, h3⟩ := h
  have h4 : 0 < (loose post).length := by rw [loose_app, List.length_append] at hi; omega
  obtain ⟨mid, f, post', rfl, h5, h6⟩ := loose_next post h4
  refine ⟨pre ++ mid, f, post', pa, pc, by rw [List.append_assoc], by simp, by rw [loose_app, h5, List.append_nil]; exact h1, h6, ?_, ?_, h3⟩
  · simp only [loose_app, h5, List.nil_append, loose_cons, if_pos h6]
    rw [List.getElem_append_right (by omega)]
    simp [h1]
  · rw [crashed_app, crashed_still _ _ _ _ mid h5, List.append_assoc]; exact h2
theorem Mid.step {w wr : World} {B d mb : Nat} {lv : Value} {t i : Nat} {pre post : List Fl} {f : Fl} {pa : Option Addr} {pc : Nat} {g : List Fl} (h1 : (loose pre).length = i) (h6 : f.ls = true) (hc : crashed t pa pc i [f] = g) (hP : PM wr B d mb lv (loose (pre ++ f :: post)) (crashed t pa pc 0 pre ++ (g ++ post))) (hG : Gs (fun k => k = mb) w wr) : Mid w wr B d mb lv (pre ++ f :: post) t (i + 1) := by
  refine ⟨pre ++ [f], post, pa, pc, by simp, by rw [loose_app, List.length_append, h1, loose_cons, if_pos h6]; rfl, ?_, hG⟩
  rw [crashed_app, Nat.zero_add, h1, hc, List.append_assoc]; exact hP
theorem Mid.fin {w wr : World} {B d mb : Nat} {lv : Value} {fs : List Fl} {t : Nat} (h : Mid w wr B d mb lv fs t (loose fs).length) : ∃ pa pc, PM wr B d mb lv (loose fs) (crashed t pa pc 0 fs) ∧ Gs (fun k => k = mb) w wr := by
  obtain ⟨pre, post, pa, pc, rfl, h1, h2, h3⟩ := h
  have h4 : loose post = [] := by
    rw [loose_app, List.length_append] at h1
    exact List.eq_nil_of_length_eq_zero (by omega)
  exact ⟨pa, pc, by rw [crashed_app, crashed_still _ _ _ _ post h4]; exact h2, h3⟩
theorem PM.done {w : World} {B d mb : Nat} {lv : Value} {xs : List ByteArray} {gs : List Fl} (h : PM w B d mb lv xs gs) (hl : loose gs = []) : PD (w.setCell ⟨d, 1, none⟩ (.slice none 0 0)) B d mb (.slice none 0 0) gs ∧ Gs (fun k => k = d) w (w.setCell ⟨d, 1, none⟩ (.slice none 0 0)) := by
  obtain ⟨h1, h2⟩ := h.own.put 1 (.slice none 0 0)
  refine ⟨⟨h1, h.mp.kept h2 (fun e => h.hd.2.2.1 (Option.some.inj e).symm), ?_, ?_, ?_, ?_⟩, Gs.one h2 fun k hk => (Option.some.inj hk).symm⟩
  · rw [hl]; exact World.ownsRow_nil _ _ _ _
  · intro f hf
    exact ⟨(h.by' f hf).1.grown h2 fun x hx e => (h.ap f hf x hx).2.2.1 (Option.some.inj e), (h.by' f hf).2⟩
  · intro f hf y hy
    obtain ⟨a1, a2, a3, a4, a5⟩ := h.ap f hf y hy
    exact ⟨a1, by rw [size_set]; exact a2, a3, a4, by simp [Value.ownBlock]⟩
  · exact ⟨h.hd.1, h.hd.2.1, h.hd.2.2.1, by simp [Value.ownBlock], by simp [Value.ownBlock]⟩

set_option maxHeartbeats 4000000 in
theorem crash_any (w : World) (B d mb : Nat) (lv : Value) (fs : List Fl) (wh : Int) (t : Nat) (h : PD w B d mb lv fs) (hwh : -9223372036854775808 ≤ wh ∧ wh ≤ 9223372036854775807) (ht : t = wh.toNat) (hn : fs.length ≤ 2513169434880) (hsz : ∀ f ∈ fs, f.nm.size ≤ maxLen ∧ f.bs.length ≤ 140737488355328) (hBw : B ≤ w.heap.size) :
    Calls Tryd.prog 9 #[.pointer (some ⟨d, 0, none⟩), .int .i64 wh] w fun e w' => e = .returned (.tuple #[]) ∧ (∃ pa pc, PD w' B d mb (.slice none 0 0) (crashed t pa pc 0 fs)) ∧ Gs (dS d mb lv) w w' := by
  obtain ⟨c0, c1, f0, f1⟩ := h.cells
  obtain ⟨la, lc, rfl⟩ := row_form h.row
  have hmx : max wh 0 = (t : Int) := by omega
  have hlo : (loose fs).length ≤ 2513169434880 := by
    unfold loose; rw [List.length_map]; exact Nat.le_trans (List.length_filter_le _ _) hn
  have HM : Hid (Mid w w B d mb (.slice la (loose fs).length lc) fs t 0) := ⟨[], fs, none, 0, rfl, rfl, h.toPM, Gs.refl _ _⟩
  have HS := hidMk hsz
  have HLT := hidMk h.lt
  have HT := hidMk ht
  clear h hsz ht hwh
  go_enter Tryd.func9, Tryd.ntmps9
  go_wp2_with fail
  go_loopg [14] (loose fs).length (fun gk i wr => ∃ k : Nat, gk + k = (loose fs).length ∧ i = .int .i64 k ∧ Mid w wr B d mb (.slice la (loose fs).length lc) fs t k)
  case atStart => exact ⟨0, by omega, rfl, HM.out⟩
  case round =>
    obtain ⟨k, hgk, rfl, hMid⟩ := hrel
    have HMid := hidMk hMid
    clear hMid
    by_cases hk : k < (loose fs).length
    · have hk' : (k : Int) < ((loose fs).length : Int) := by omega
      obtain ⟨pre, f, post, pa, pc, e0, hfm, hpre, hls, hnm, hP, hG⟩ := HMid.out.next hk
      obtain ⟨g, cap, eg, hg1, hg2⟩ := World.ownsRow.form hP.row (by omega)
      injection eg with eg1 eg2 eg3
      subst eg1
      have cN : wr.cell? ⟨g, k, none⟩ = some (.string f.nm) := by
        have := World.ownsRow.cellAt hP.row k (by omega)
        rw [this, List.getElem?_map, List.getElem?_eq_getElem hk, hnm]; rfl
      have cM : wr.cell? ⟨d, 0, none⟩ = some (.map (some mb)) := (hP.own.cell 0 (by decide)).trans rfl
      have hfs := HS.out f hfm
      have HP := hidMk hP
      have HG := hidMk hG
      have HE := hidMk e0
      have HNX : Hid (∀ wr' gl, crashed t pa pc k [f] = gl → PM wr' B d mb (.slice (some ⟨g, 0, none⟩) (loose fs).length lc) (loose fs) (crashed t pa pc 0 pre ++ (gl ++ post)) → Gs (fun k => k = mb) w wr' → Mid w wr' B d mb (.slice (some ⟨g, 0, none⟩) (loose fs).length lc) fs t (k + 1)) := fun wr' gl q1 q2 q3 => by
        have := Mid.step (w := w) (wr := wr') (B := B) (d := d) (mb := mb) (lv := .slice (some ⟨g, 0, none⟩) (loose fs).length lc) (t := t) (i := k) (pre := pre) (post := post) (f := f) (pa := pa) (pc := pc) (g := gl) hpre hls q1 (by rw [← e0]; exact q2) q3
        rw [← e0] at this; exact this
      have HLS := hidMk hls
      have HPRE := hidMk hpre
      clear hP hG e0 hnm hls HMid eg2 eg3 hg1 hg2 hpre
      by_cases hkt : k = t
      · subst hkt
        have hL1 : (Instr.lookup 47 (.map (some mb)) (.string f.nm) false).run Tryd.prog wr.drew = .ok (.slice f.pa f.bs.length f.pc) wr.drew := by
          have hL := HP.out.drew.mp.look1 K9 Tryd.underlying47 (zSl _) f.nm hfs.1
          have hnd := HP.out.mp.nodup
          rw [List.map_map] at hnd
          rw [fnd_at hnd (show f ∈ crashed k pa pc 0 pre ++ f :: post by simp)] at hL
          exact hL
        have hfb := HP.out.drew.by' f (by simp)
        have HH := hidMk (firstHalf_any f.pa f.bs f.pc wr.drew hfb.1 hfs.2 hfb.2.2.2 hfb.2.1)
        have hlen : ((crashed k pa pc 0 pre ++ f :: post).map ent).length < maxLen := by
          rw [List.length_map, List.length_append, List.length_cons]
          have q1 := crashed_len k pa pc 0 pre
          have q2 := congrArg List.length HE.out
          rw [List.length_append, List.length_cons] at q2
          have q3 : 2513169434880 < maxLen := by decide
          omega
        clear hfb
        go_wp2_with fail
        go_region_with (
          go_at_call 19
          refine HH.out.mono ?_
          rintro e w1 ⟨v', rfl, hO, hb⟩
          obtain ⟨w2, hr2, hm2, ht2⟩ := ((Gs.below (S := fun _ => False) hb).map HP.out.drew.mp (fun s => s)).store K9 Tryd.underlying47 f.nm hfs.1 v' hlen
          have hr2' : (Instr.mapUpdate 47 (.map (some mb)) (.string f.nm) v').run Tryd.prog w1 = .ok () w2 := hr2
          have HM2 := hidMk hm2
          have HT2 := hidMk ht2
          have HB1 := hidMk hb
          have HO1 := hidMk hO
          have j0 : w1.cell? ⟨d, 0, none⟩ = some (.map (some mb)) := cell_later hb cM
          clear hb hO hm2 ht2 hr2)
        all_goals
          have HX : Hid (Mid w w2 B d mb (.slice (some ⟨g, 0, none⟩) (loose fs).length lc) fs k (k + 1)) := by
            obtain ⟨pa', pc', hP2⟩ := HP.out.drew.torn (ls := false) HB1.out HO1.out (Nat.le_trans hBw HG.out.size) HM2.out HT2.out.grown
            rw [crashed_irr k pa pa' pc pc' 0 pre (.inr (by rw [HPRE.out]; omega))] at hP2
            have q1 : Gs (fun i => i = mb) wr w1 := (Gs.below HB1.out).drew
            have := Mid.step (w := w) (wr := w2) (B := B) (d := d) (mb := mb) (lv := .slice (some ⟨g, 0, none⟩) (loose fs).length lc) (t := k) (i := k) (pre := pre) (post := post) (f := f) (pa := pa') (pc := pc') (g := [{ f with ls := false, bs := half f.bs, pa := pa', pc := pc' }]) HPRE.out HLS.out (by rw [crashed, if_pos HLS.out, if_pos rfl]; rfl) (by rw [← HE.out]; exact hP2) (HG.out.trans (q1.trans (Gs.one HT2.out.grown fun i hi => (Option.some.inj hi).symm)))
            rw [← HE.out] at this; exact this
          go_wp2_with fail
          go_roundg (gk - 1)
          case measure => omega
          case rel => exact ⟨k + 1, by omega, by go_num, HX.out⟩
      · have hkt' : ¬ (k : Int) = (t : Int) := by omega
        by_cases hlt : k < t
        · have hlt' : ¬ (t : Int) < (k : Int) := by omega
          have HX : Hid (Mid w wr B d mb (.slice (some ⟨g, 0, none⟩) (loose fs).length lc) fs t (k + 1)) := HNX.out wr [{ f with ls := false }] (by rw [crashed, if_pos HLS.out, if_neg hkt, if_pos hlt]; rfl) HP.out.soft HG.out
          go_wp2_with fail
          go_roundg (gk - 1)
          case measure => omega
          case rel => exact ⟨k + 1, by omega, by go_num, HX.out⟩
        · have hlt' : (t : Int) < (k : Int) := by omega
          obtain ⟨w2, hr2, hm2, ht2⟩ := HP.out.mp.drop K9 Tryd.underlying47 f.nm hfs.1 0
          have hr2' : (Builtin.delete_ #[47, 9] 0 #[.map (some mb), .string f.nm]).run Tryd.prog wr = .ok (.tuple #[]) w2 := hr2
          have HX : Hid (Mid w w2 B d mb (.slice (some ⟨g, 0, none⟩) (loose fs).length lc) fs t (k + 1)) := HNX.out w2 [] (by rw [crashed, if_pos HLS.out, if_neg hkt, if_neg hlt]; rfl) (HP.out.lost hm2 ht2.grown) (HG.out.trans (Gs.one ht2.grown fun k hk => (Option.some.inj hk).symm))
          clear hm2 ht2 hr2
          go_wp2_with fail
          go_roundg (gk - 1)
          case measure => omega
          case rel => exact ⟨k + 1, by omega, by go_num, HX.out⟩
    · have hk' : ¬ (k : Int) < ((loose fs).length : Int) := by omega
      obtain rfl : k = (loose fs).length := by omega
      obtain ⟨pa, pc, hP, hG⟩ := HMid.out.fin
      have o1 : wr.cell? ⟨d, 1, none⟩ = some (.slice la (loose fs).length lc) := (hP.own.cell 1 (by decide)).trans rfl
      have o2 : wr.frozen? ⟨d, 1, none⟩ = false := hP.own.soft 1
      have HF := hidMk (hP.done (crashed_loose _ _ _ _ _))
      have HG := hidMk hG
      clear hP hG HMid
      go_wp2_with fail
      refine bodyPost_end (results_none Tryd.results9 _ _ _) rfl ?_
      exact ⟨rfl, ⟨pa, pc, HF.out.1⟩, (HG.out.mono fun i _ s => .inr (.inl s)).trans (HF.out.2.mono fun i _ s => .inl s)⟩
end Go.Proofs.YtojfhlhajemhdaaDoor
