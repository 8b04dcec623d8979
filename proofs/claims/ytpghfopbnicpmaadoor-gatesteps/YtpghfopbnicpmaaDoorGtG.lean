import Derived.Test.YtpghfopbnicpmaaDoorGtF
namespace Go.Proofs.YtpghfopbnicpmaaDoor
open Go.RowKit
set_option linter.unusedVariables false
set_option linter.unusedSimpArgs false
set_option maxRecDepth 100000

/-- What becomes of an element of an open channel. -/
def InPost (w : World) (g b c : Nat) (tm mk : Int) (es est esm : List En) (q : En) (ek rt : Int) (vs : List V) (t m : Int) (e : Ending) (w' : World) : Prop :=
  (ek = 1 ∧ Ch w w' g b ∧ GT w' g b c tm mk es ∧ ∃ a' c', Goes w w' 1 rt (.slice a' vs.length c') 0 0 e ∧ OV w' w.heap.size (.slice a' vs.length c') vs) ∨
  (ek = 2 ∧ TimePost w g b c tm mk es est q t e w') ∨
  (ek = 3 ∧ MarkPost w g b c tm mk es esm m e w') ∨
  (¬ (ek = 1 ∨ ek = 2 ∨ ek = 3) ∧ Bad 4 e ∧ Ch w w' g b ∧ GT w' g b c tm mk es)
theorem TimePost.from {w0 w w' : World} {g b c : Nat} {tm mk : Int} {es es' : List En} {q : En} {t : Int} {e : Ending} (h : TimePost w g b c tm mk es es' q t e w') (hb : Below w0.heap.size w0 w) : TimePost w0 g b c tm mk es es' q t e w' := by
  obtain ⟨h1, h2⟩ := h
  refine ⟨(Ch.of_below hb).trans h1, ?_⟩
  rcases h2 with h2 | ⟨h3, h4, h5 | ⟨h6, ⟨p, h7, h8⟩, h9⟩⟩
  · exact .inl h2
  · exact .inr ⟨h3, h4, .inl h5⟩
  · exact .inr ⟨h3, h4, .inr ⟨h6, ⟨p, Nat.le_trans hb.size h7, h8⟩, h9⟩⟩
theorem MarkPost.from {w0 w w' : World} {g b c : Nat} {tm mk : Int} {es es' : List En} {m : Int} {e : Ending} (h : MarkPost w g b c tm mk es es' m e w') (hb : Below w0.heap.size w0 w) : MarkPost w0 g b c tm mk es es' m e w' := by
  obtain ⟨h1, h2⟩ := h
  refine ⟨(Ch.of_below hb).trans h1, ?_⟩
  rcases h2 with h2 | ⟨h3, h4, h5 | ⟨h6, ⟨p, h7, h8⟩, h9⟩⟩
  · exact .inl h2
  · exact .inr ⟨h3, h4, .inl h5⟩
  · exact .inr ⟨h3, h4, .inr ⟨h6, ⟨p, Nat.le_trans hb.size h7, h8⟩, h9⟩⟩
theorem TimePost.form {w w' : World} {g b c : Nat} {tm mk : Int} {es es' : List En} {q : En} {t : Int} {e : Ending} (h : TimePost w g b c tm mk es es' q t e w') : ∃ a x y v, e = .returned (.tuple #[.slice a x y, v]) := by
  obtain ⟨h1, h2⟩ := h
  rcases h2 with ⟨_, h2, _⟩ | ⟨h3, h4, ⟨_, h5, _⟩ | ⟨h6, ⟨p, h7, h8, _⟩, h9⟩⟩
  · exact ⟨_, _, _, _, h2⟩
  · exact ⟨_, _, _, _, h5⟩
  · exact ⟨_, _, _, _, h8⟩
theorem MarkPost.form {w w' : World} {g b c : Nat} {tm mk : Int} {es es' : List En} {m : Int} {e : Ending} (h : MarkPost w g b c tm mk es es' m e w') : ∃ a x y v, e = .returned (.tuple #[.slice a x y, v]) := by
  obtain ⟨h1, h2⟩ := h
  rcases h2 with ⟨_, h2, _⟩ | ⟨h3, h4, ⟨_, h5, _⟩ | ⟨h6, ⟨p, h7, h8, _⟩, h9⟩⟩
  · exact ⟨_, _, _, _, h2⟩
  · exact ⟨_, _, _, _, h5⟩
  · exact ⟨_, _, _, _, h8⟩
theorem GT.grown {w w' : World} {g b c : Nat} {tm mk : Int} {es : List En} {r : Nat} (h : GT w g b c tm mk es) (hg : w.grownBy w' (some r)) (h1 : g ≠ r) (h2 : b ≠ r) : GT w' g b c tm mk es :=
  ⟨h.own.grown hg (fun e => h1 (Option.some.inj e)), own_grown h.ent hg (fun k hk => by cases hk; exact fun e => h2 (Option.some.inj e)), h.ne⟩
/-- A row goes on as an element of its own. -/
theorem goesOn_any (rt : Int) (av : Option Addr) (vs : List V) (cv : Nat) (w : World) (hv : VLies w av vs) (hvl : vs.length ≤ 4398046511104) :
    Calls Tryd.prog 16 #[.agg #[.int .i64 rt, .slice av vs.length cv]] w fun e w' => ∃ p a' c', w.heap.size ≤ p ∧ e = .returned (.slice (some ⟨p, 0, none⟩) 1 1) ∧ OneE w' p 1 rt (.slice a' vs.length c') 0 0 ∧ OV w' w.heap.size (.slice a' vs.length c') vs ∧ Below w.heap.size w w' := by
  have HV := hidMk hv
  clear hv
  go_enter Tryd.func16, Tryd.ntmps16
  go_wp2_with fail
  obtain ⟨w1, hw1⟩ : ∃ w1, w1 = w.alloc (.cells #[.int .i64 rt, .slice av vs.length cv] 34) := ⟨_, rfl⟩
  have hs1 : w1.heap.size = w.heap.size + 1 := by rw [hw1]; simp
  have HB1 : Hid (Below w.heap.size w w1) := by unfold Hid; rw [hw1]; exact bel1 _ _
  have HOW : Hid (Own w1 w.heap.size 34 2 [.int .i64 rt, .slice av vs.length cv]) := by
    unfold Hid
    rw [hw1]; exact Own.new w 34 2 #[.int .i64 rt, .slice av vs.length cv] rfl
  rw [← hw1]
  clear hw1
  refine (clone_any av vs cv w1 (HV.out.later HB1.out) hvl).mono ?_
  rintro e w2 ⟨a', c', rfl, hO, hb⟩
  have hs2 := hb.size
  have HB2 : Hid (Below w.heap.size w w2) := HB1.out.trans (hb.mono (by omega))
  have HO := hidMk hO
  have HW2 : Hid (Own w2 w.heap.size 34 2 [.int .i64 rt, .slice av vs.length cv]) := HOW.out.later hb
  have d0 : w2.cell? ⟨w.heap.size, 0, none⟩ = some (.int .i64 rt) := HW2.out.cell 0 (by decide)
  have d1 : w2.cell? ⟨w.heap.size, 1, none⟩ = some (.slice av vs.length cv) := HW2.out.cell 1 (by decide)
  have s1 := HW2.out.soft 1
  obtain ⟨P1, P2⟩ := HW2.out.put 1 (.slice a' vs.length c')
  have HP2 := hidMk P2
  clear hO hb P1 P2 HOW HB1 HW2
  go_wp2_with fail
  go_ret
  have hbw : Below w.heap.size w (w2.setCell ⟨w.heap.size, 1, none⟩ (.slice a' vs.length c')) := HB2.out.setCell (p := ⟨w.heap.size, 1, none⟩) (Nat.le_refl _) _
  have hbf := hbw.trans ((bel1 (w2.setCell ⟨w.heap.size, 1, none⟩ (.slice a' vs.length c')) (.cells #[.int .i64 1, .int .i64 rt, .slice a' vs.length c', .int .i64 0, .int .i64 0] 36)).mono hbw.size)
  refine ⟨(w2.setCell ⟨w.heap.size, 1, none⟩ (.slice a' vs.length c')).heap.size, a', c', hbw.size, by simp, by unfold OneE; go_simp, ?_, hbf⟩
  exact ((HO.out.grown HP2.out (fun k hk => by cases hk; omega)).base (by omega)).later (bel1 _ _)
theorem take_shut (w : World) (g b c : Nat) (tm mk : Int) (es : List En) (h : GT w g b c tm mk es) (k : Int) (hs : openB es k = false) (ek rt : Int) (av : Option Addr) (n cv : Nat) (t m : Int) :
    Calls Tryd.prog 10 #[.pointer (some ⟨g, 0, none⟩), .int .i64 k, .agg #[.int .i64 ek, .int .i64 rt, .slice av n cv, .int .i64 t, .int .i64 m]] w fun e w' => Bad 6 e ∧ Below w.heap.size w w' := by
  have H := hidMk h
  have HS := hidMk hs
  clear h hs
  go_enter Tryd.func10, Tryd.ntmps10
  go_wp2_with fail
  refine (open_any _ g b c tm mk es (H.out.later (bel1 _ _)) k).mono ?_
  rintro e w1 ⟨rfl, rfl⟩
  rw [HS.out]
  go_wp2_with fail
  go_ret2
  exact ⟨rfl, bel1 _ _⟩
theorem take_open (w : World) (g b c : Nat) (tm mk : Int) (es : List En) (h : GT w g b c tm mk es) (hl : es.length ≤ 64) (i : Nat) (hi : i < es.length) (hs : es[i].b = false) (ek rt : Int) (av : Option Addr) (vs : List V) (cv : Nat) (hv : VLies w av vs) (hvl : vs.length ≤ 4398046511104) (t m : Int) :
    Calls Tryd.prog 10 #[.pointer (some ⟨g, 0, none⟩), .int .i64 i, .agg #[.int .i64 ek, .int .i64 rt, .slice av vs.length cv, .int .i64 t, .int .i64 m]] w (InPost w g b c tm mk es (es.set i ⟨t, es[i].b⟩) (es.set i ⟨es[i].t, true⟩) es[i] ek rt vs t m) := by
  have H := hidMk h
  have HV := hidMk hv
  have HS : Hid (openB es (i : Int) = true) := by
    unfold Hid openB
    rw [if_pos (by omega), Int.toNat_natCast]
    simp [List.getD, hi, hs]
  have HT : Hid (∀ w', GT w' g b c tm mk es → Calls Tryd.prog 17 #[.pointer (some ⟨g, 0, none⟩), .int .i64 i, .int .i64 t] w' (TimePost w' g b c tm mk es (es.set i ⟨t, es[i].b⟩) es[i] t)) := fun w' h' => takeTime_any w' g b c tm mk es h' hl i hi t
  have HM : Hid (∀ w', GT w' g b c tm mk es → Calls Tryd.prog 18 #[.pointer (some ⟨g, 0, none⟩), .int .i64 i, .int .i64 m] w' (MarkPost w' g b c tm mk es (es.set i ⟨es[i].t, true⟩) m)) := fun w' h' => takeMark_any w' g b c tm mk es h' hl i hi m
  generalize es.set i ⟨t, es[i].b⟩ = est at *
  generalize es.set i ⟨es[i].t, true⟩ = esm at *
  generalize es[i] = q at *
  clear h hv hs
  go_enter Tryd.func10, Tryd.ntmps10
  go_wp2_with fail
  refine (open_any _ g b c tm mk es (H.out.later (bel1 _ _)) i).mono ?_
  rintro e w1 ⟨rfl, rfl⟩
  rw [HS.out]
  have HG1 : Hid (GT (w.alloc (.cells #[.int .i64 ek, .int .i64 rt, .slice av vs.length cv, .int .i64 t, .int .i64 m] 36)) g b c tm mk es) := H.out.later (bel1 _ _)
  obtain ⟨w1, hw1⟩ : ∃ w1, w1 = w.alloc (.cells #[.int .i64 ek, .int .i64 rt, .slice av vs.length cv, .int .i64 t, .int .i64 m] 36) := ⟨_, rfl⟩
  have hs1 : w1.heap.size = w.heap.size + 1 := by rw [hw1]; simp
  have HB1 : Hid (Below w.heap.size w w1) := by unfold Hid; rw [hw1]; exact bel1 _ _
  have d0 : w1.cell? ⟨w.heap.size, 0, none⟩ = some (.int .i64 ek) := by rw [hw1]; go_simp
  have d1 : w1.cell? ⟨w.heap.size, 1, none⟩ = some (.int .i64 rt) := by rw [hw1]; go_simp
  have d2 : w1.cell? ⟨w.heap.size, 2, none⟩ = some (.slice av vs.length cv) := by rw [hw1]; go_simp
  have d3 : w1.cell? ⟨w.heap.size, 3, none⟩ = some (.int .i64 t) := by rw [hw1]; go_simp
  have d4 : w1.cell? ⟨w.heap.size, 4, none⟩ = some (.int .i64 m) := by rw [hw1]; go_simp
  have HOW : Hid (Own w1 w.heap.size 36 5 [.int .i64 ek, .int .i64 rt, .slice av vs.length cv, .int .i64 t, .int .i64 m]) := by
    unfold Hid
    rw [hw1]; exact Own.new w 36 5 #[.int .i64 ek, .int .i64 rt, .slice av vs.length cv, .int .i64 t, .int .i64 m] rfl
  rw [← hw1] at HG1 ⊢
  clear hw1
  have HV1 : Hid (VLies w1 av vs) := HV.out.later HB1.out
  have HGL : Hid (g < w.heap.size ∧ b < w.heap.size) := H.out.lt
  clear H HV HS
  by_cases h1 : ek = 1
  · subst h1
    go_wp2_with fail
    refine (goesOn_any rt av vs cv w1 HV1.out hvl).mono ?_
    rintro e w2 ⟨p, a', c', hp, rfl, hE, hO, hb⟩
    have HB2 : Hid (Below w.heap.size w w2) := HB1.out.trans (hb.mono (by omega))
    have HO := hidMk hO
    have HE := hidMk hE
    have HG2 : Hid (GT w2 g b c tm mk es) := HG1.out.later hb
    clear hO hE hb HOW HG1 HB1
    go_wp2_with fail
    go_ret2
    exact .inl ⟨rfl, .of_below HB2.out, HG2.out, a', c', ⟨p, by omega, rfl, HE.out⟩, HO.out.base (by omega)⟩
  have h1d : (ek == 1) = false := by simpa using h1
  by_cases h2 : ek = 2
  · subst h2
    go_wp2_with fail
    refine (HT.out _ HG1.out).mono ?_
    intro e w2 hp
    obtain ⟨fa, fx, fy, fv, rfl⟩ := hp.form
    have HP := hidMk (hp.from HB1.out)
    clear hp
    go_wp2_with fail
    go_ret2
    exact .inr (.inl ⟨rfl, HP.out⟩)
  by_cases h3 : ek = 3
  · subst h3
    go_wp2_with fail
    refine (HM.out _ HG1.out).mono ?_
    intro e w2 hp
    obtain ⟨fa, fx, fy, fv, rfl⟩ := hp.form
    have HP := hidMk (hp.from HB1.out)
    clear hp
    go_wp2_with fail
    go_ret2
    exact .inr (.inr (.inl ⟨rfl, HP.out⟩))
  go_wp2_with fail
  go_ret2
  exact .inr (.inr (.inr ⟨by omega, rfl, .of_below HB1.out, HG1.out⟩))
end Go.Proofs.YtpghfopbnicpmaaDoor
