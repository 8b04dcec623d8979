import Derived.Test.YtoioaalkeanhgaaDoorDpG
namespace Go.Proofs.YtoioaalkeanhgaaDoor
open Go.RowKit
set_option linter.unusedVariables false
set_option linter.unusedSimpArgs false
set_option maxRecDepth 100000

/-- What reading a checkpoint gives. -/
def CkPost (w : World) (g : Nat) (m : Int) (os : List Of) (hs : List Hd) (e : Ending) (w' : World) : Prop := ∃ ao co ah ch ms, e = .returned (.tuple #[.agg #[.int .i64 m, .slice ao os.length co, .slice ah hs.length ch], .bool true]) ∧ OfL w' ao os ∧ HmL w' ah ms ∧ HRel w' g ms hs ∧ w.grownBy w' (some g) ∧ (∀ x, ao = some x → w.heap.size ≤ x.block) ∧ ∀ x, ah = some x → w.heap.size ≤ x.block
theorem OfL.grown {w w' : World} {a : Option Addr} {os : List Of} {r : Option Nat} (h : OfL w a os) (hg : w.grownBy w' r) (hne : ∀ x, a = some x → some x.block ≠ r) : OfL w' a os := fun i hi => by
  obtain ⟨b, off, e, h1, h2, h3⟩ := h i hi
  have hn := hne ⟨b, off, none⟩ e
  exact ⟨b, off, e, hg.cell h1 hn, hg.cell h2 hn, hg.cell h3 hn⟩
theorem HmL.grown {w w' : World} {a : Option Addr} {os : List HM} {r : Option Nat} (h : HmL w a os) (hg : w.grownBy w' r) (hne : ∀ x, a = some x → some x.block ≠ r) : HmL w' a os := fun i hi => by
  obtain ⟨b, off, e, h1, h2, h3⟩ := h i hi
  have hn := hne ⟨b, off, none⟩ e
  exact ⟨b, off, e, hg.cell h1 hn, hg.cell h2 hn, hg.cell h3 hn⟩
def Z3 : List Value := [.int .i64 0, .slice none 0 0, .slice none 0 0]

set_option maxHeartbeats 8000000 in
theorem rcheck_ok (g : Nat) (m : Int) (os : List Of) (hs : List Hd) (w : World) (hR : Rd w g (encCk m os hs)) (hm : InI m) (iO : ∀ o ∈ os, InO o) (iH : ∀ h ∈ hs, InH h) (h1 : os.length ≤ 549755813888) (h2 : hs.length ≤ 549755813888) :
    Calls Tryd.prog 13 #[.pointer (some ⟨g, 0, none⟩)] w (CkPost w g m os hs) := by
  have hgl := hR.lt
  have HIO := hidMk iO
  have HIH := hidMk iH
  obtain ⟨W0, hW0⟩ : ∃ W0, W0 = w.alloc (.cells #[.int .i64 0, .slice none 0 0, .slice none 0 0] 25) := ⟨_, rfl⟩
  have hz0 : W0.heap.size = w.heap.size + 1 := by rw [hW0, World.size_alloc]
  have hb0 : Below w.heap.size w W0 := by rw [hW0]; exact bel1 _ _
  have hR0 : Own W0 w.heap.size 25 3 Z3 := by rw [hW0]; exact Own.new w 25 3 #[.int .i64 0, .slice none 0 0, .slice none 0 0] rfl
  obtain ⟨W1, hW1⟩ : ∃ W1, W1 = W0.alloc (.cells #[.int .i64 0, .slice none 0 0, .slice none 0 0] 25) := ⟨_, rfl⟩
  have hO : Own W1 W0.heap.size 25 3 Z3 := by rw [hW1]; exact Own.new W0 25 3 #[.int .i64 0, .slice none 0 0, .slice none 0 0] rfl
  have hb1 : Below w.heap.size w W1 := by rw [hW1]; exact hb0.trans ((bel1 _ _).mono (by omega))
  have hb01 : Below W0.heap.size W0 W1 := by rw [hW1]; exact bel1 _ _
  have hz1 : W1.heap.size = W0.heap.size + 1 := by rw [hW1, World.size_alloc]
  have hL2 : encCk m os hs = [m].flatMap encInt ++ (encInt (os.length : Int) ++ (os.flatMap encOf ++ (encInt (hs.length : Int) ++ (hs.flatMap encHd ++ [])))) := by unfold encCk; simp
  have HC : Hid (Calls Tryd.prog 20 #[.pointer (some ⟨g, 0, none⟩), .slice (some ⟨W1.heap.size, 0, none⟩) 1 1] (W1.alloc (.cells #[.pointer (some ⟨W0.heap.size, 0, none⟩)] 63)) fun e w' => e = .returned (.bool true) ∧ Rd w' g (encInt (os.length : Int) ++ (os.flatMap encOf ++ (encInt (hs.length : Int) ++ (hs.flatMap encHd ++ [])))) ∧ Own w' (w.heap.size + 1) 25 3 [.int .i64 m, .slice none 0 0, .slice none 0 0] ∧ w.grownBy w' (some g) ∧ Own w' w.heap.size 25 3 Z3) := by
    refine (rnums_ok g W0.heap.size 25 3 W1.heap.size 1 (encCk m os hs) _ [m] Z3 _ ((hR.later hb1).later (bel1 _ _)) (hO.later (bel1 _ _)) (by omega) (ptrs1 W1 W0.heap.size) (by omega) (by omega) hL2 (fun x hx => by simp at hx; subst hx; exact hm) (by simp) rfl (by simp)).mono ?_
    rintro e w2 ⟨rfl, h1, h2, h3⟩
    exact ⟨rfl, h1, by rw [← hz0]; exact h2, h3.one (hb1.trans ((bel1 _ _).mono (by omega))) (by omega), (hR0.later (hb01.trans ((bel1 _ _).mono (by omega)))).keep (h3.block _ (by rw [World.size_alloc]; omega) (by omega) (by omega))⟩
  clear hO hb1 hR0 hb01 hR hL2 hm iO iH
  go_enter Tryd.func13, Tryd.ntmps13
  go_wp2_with fail
  rw [← hW0, show w.heap.size + 1 = W0.heap.size by omega, ← hW1, show W0.heap.size + 1 = W1.heap.size by omega]
  refine HC.out.mono ?_
  rintro e w2 ⟨rfl, hR2, hC2, hG2, hN2⟩
  have HR2 := hidMk hR2
  have HC2 := hidMk hC2
  have HG2 := hidMk hG2
  have HN2 := hidMk hN2
  have hlt2 := hC2.lt
  clear hR2 hC2 hG2 hN2 HC hW1 hW0 hb0
  go_wp2_with fail
  refine (rlistO g _ _ os w2 HR2.out rfl HIO.out h1).mono ?_
  rintro e w3 ⟨xo, rfl, hO3, hR3, hg3⟩
  obtain ⟨ao, co, rfl, hOL3, hao⟩ := hO3.form
  have hC3 := HC2.out.grown hg3 (fun e => by have := Option.some.inj e; omega)
  have c1 := hC3.cell 1 (by decide)
  have f1 := hC3.soft 1
  obtain ⟨hC3', hgs3⟩ := hC3.put 1 (.slice ao os.length co)
  have HC3 : Hid (Own (w3.setCell ⟨w.heap.size + 1, 1, none⟩ (.slice ao os.length co)) (w.heap.size + 1) 25 3 [.int .i64 m, .slice ao os.length co, .slice none 0 0]) := hC3'
  have HN3 := hidMk ((HN2.out.grown hg3 (fun e => by have := Option.some.inj e; omega)).grown hgs3 (fun e => by have := Option.some.inj e; omega))
  have HR3 := hidMk (hR3.grown hgs3 (fun k hk => by cases hk; omega))
  have HG3 : Hid (w.grownBy (w3.setCell ⟨w.heap.size + 1, 1, none⟩ (.slice ao os.length co)) (some g)) := grown_new (grown_trans HG2.out hg3) hgs3 (fun k hk => by cases hk; omega)
  have HOL3 := hidMk (hOL3.grown hgs3 (fun x hx e => by have := (hao x hx).1; have := Option.some.inj e; omega))
  have HAO := hidMk hao
  have hlt3 : w2.heap.size ≤ w3.heap.size := hg3.size
  simp at c1
  clear hO3 hR3 hg3 hOL3 hao hC3 hC3' hgs3 HR2 HC2 HG2 HN2
  go_wp2_with fail
  refine (rlistH g _ _ hs _ HR3.out rfl HIH.out h2).mono ?_
  rintro e w4 ⟨xh, ms, rfl, hH4, hL4, hR4, hg4⟩
  have hml := hL4.len
  obtain ⟨ah, ch, rfl, hHL4, hah⟩ := hH4.form
  rw [hml] at *
  have hC4 := HC3.out.grown hg4 (fun e => by have := Option.some.inj e; omega)
  have c2 := hC4.cell 2 (by decide)
  have f2 := hC4.soft 2
  obtain ⟨hC4', hgs4⟩ := hC4.put 2 (.slice ah hs.length ch)
  have hN4 := (HN3.out.grown hg4 (fun e => by have := Option.some.inj e; omega)).grown hgs4 (fun e => by have := Option.some.inj e; omega)
  have hR5 := hR4.grown hgs4 (fun k hk => by cases hk; omega)
  have hG5 : w.grownBy (w4.setCell ⟨w.heap.size + 1, 2, none⟩ (.slice ah hs.length ch)) (some g) := grown_new (grown_trans HG3.out hg4) hgs4 (fun k hk => by cases hk; omega)
  have hs3 : (w3.setCell ⟨w.heap.size + 1, 1, none⟩ (.slice ao os.length co)).heap.size = w3.heap.size := size_set _ _ _
  rw [hs3] at hah
  have hOL5 := (HOL3.out.grown hg4 (fun x hx e => by have := (HAO.out x hx).1; have := Option.some.inj e; omega)).grown hgs4 (fun x hx e => by have := (HAO.out x hx).1; have := Option.some.inj e; omega)
  have hHL5 := hHL4.grown hgs4 (fun x hx e => by have := (hah x hx).1; have := Option.some.inj e; omega)
  have hL5 := hL4.grown hgs4 (fun k hk => by cases hk; omega)
  obtain ⟨W5, hW5⟩ : ∃ W5, W5 = w4.setCell ⟨w.heap.size + 1, 2, none⟩ (.slice ah hs.length ch) := ⟨_, rfl⟩
  have HE : Hid (∀ W, Below W5.heap.size W5 W → Calls Tryd.prog 25 #[.pointer (some ⟨g, 0, none⟩)] W fun e w' => e = .returned (.bool true) ∧ w' = W) := fun W hW =>
    ended_any g [] W ((show Rd W5 g [] by rw [hW5]; exact hR5).later hW)
  have HK : Hid (∀ W, Below W5.heap.size W5 W → (W.cell? ⟨w.heap.size, 0, none⟩ = some (.int .i64 0) ∧ W.cell? ⟨w.heap.size, 1, none⟩ = some (.slice none 0 0) ∧ W.cell? ⟨w.heap.size, 2, none⟩ = some (.slice none 0 0)) ∧ W.frozen? ⟨w.heap.size, 0, none⟩ = false ∧ W.frozen? ⟨w.heap.size, 1, none⟩ = false ∧ W.frozen? ⟨w.heap.size, 2, none⟩ = false) := fun W hW => by
    have h := (show Own W5 w.heap.size 25 3 Z3 by rw [hW5]; exact hN4).later hW
    exact ⟨⟨by rw [h.cell 0 (by decide)]; rfl, by rw [h.cell 1 (by decide)]; rfl, by rw [h.cell 2 (by decide)]; rfl⟩, h.soft 0, h.soft 1, h.soft 2⟩
  have HF : Hid (CkPost w g m os hs (.returned (.tuple #[.agg #[.int .i64 m, .slice ao os.length co, .slice ah hs.length ch], .bool true])) (put3 W5 w.heap.size (.int .i64 m) (.slice ao os.length co) (.slice ah hs.length ch)).drew) := by
    have hgp : W5.grownBy (put3 W5 w.heap.size (.int .i64 m) (.slice ao os.length co) (.slice ah hs.length ch)).drew (some w.heap.size) := grown_trans (grown_put3 W5 w.heap.size (.int .i64 m) (.slice ao os.length co) (.slice ah hs.length ch)) (grown_below (Below.refl _ _).drew)
    rw [hW5] at hgp ⊢
    refine ⟨ao, co, ah, ch, ms, rfl, hOL5.grown hgp (fun x hx e => by have := (HAO.out x hx).1; have := Option.some.inj e; omega), hHL5.grown hgp (fun x hx e => by have := (hah x hx).1; have := Option.some.inj e; omega), hL5.grown hgp (fun k hk => by cases hk; omega), grown_new hG5 hgp (fun k hk => by cases hk; exact Nat.le_refl _), (fun x hx => by have := (HAO.out x hx).1; omega), fun x hx => by have := (hah x hx).1; omega⟩
  have d0 := hC4'.cell 0 (by decide)
  have d1 := hC4'.cell 1 (by decide)
  have d2 := hC4'.cell 2 (by decide)
  simp at c2 d0 d1 d2
  rw [← hW5] at d0 d1 d2
  have hsz4 := hg4.size
  rw [hs3] at hsz4
  clear hH4 hL4 hR4 hg4 hHL4 hah hC4 hC4' hgs4 hN4 hR5 hG5 hs3 hOL5 hHL5 hL5 HC3 HN3 HR3 HG3 HOL3 HAO
  go_wp2_with fail
  rw [← hW5]
  clear hW5 hml c2 f2 c1 f1
  obtain ⟨⟨n0, n1, n2⟩, s0, s1, s2⟩ := HK.out W5 (Below.refl _ _)
  go_region_with (first | (go_at_call 25; refine (HE.out _ (by first | exact Below.refl _ _ | exact (Below.refl _ _).drew | exact below_drewN (Below.refl _ _) _)).mono ?_; rintro e w9 ⟨rfl, rfl⟩))
  all_goals go_wp2
  all_goals exact bodyPost_ret (v := .tuple #[.agg #[.int .i64 m, .slice ao os.length co, .slice ah hs.length ch], .bool true]) (by simp [results, Tryd.results13, go_sem, n0, n1, n2]) rfl HF.out
end Go.Proofs.YtoioaalkeanhgaaDoor
