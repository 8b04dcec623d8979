import Derived.Test.YtoioaalkeanhgaaDoorDpH
namespace Go.Proofs.YtoioaalkeanhgaaDoor
open Go.RowKit
set_option linter.unusedVariables false
set_option linter.unusedSimpArgs false
set_option maxRecDepth 100000

def zCk : Value := .agg #[.int .i64 0, .slice none 0 0, .slice none 0 0]
theorem errV_no {E : Nat} (h : E ≠ 0) : errV E = .iface 36 (.int .i64 (E : Int)) := by unfold errV; rw [if_neg h]
set_option maxHeartbeats 4000000 in
theorem unpack_err (a : Option Addr) (len cap E : Nat) (f : Nat → UInt8) (w : World) (hl : Bytes w a len f) (hc : len ≤ cap) (hm : cap ≤ 9223372036854775807) (hml : len ≤ 140737488355328) (hq : Quart w) (hE : opnE f len 0 = E) (h0 : E ≠ 0) :
    Calls Tryd.prog 6 #[.slice a len cap] w fun e w' => e = .returned (.tuple #[zCk, errV E]) ∧ Below w.heap.size w w' := by
  obtain ⟨W0, hW0⟩ : ∃ W0, W0 = w.alloc (.cells #[.int .i64 0, .slice none 0 0, .slice none 0 0] 25) := ⟨_, rfl⟩
  have hz0 : W0.heap.size = w.heap.size + 1 := by rw [hW0, World.size_alloc]
  have hb0 : Below w.heap.size w W0 := by rw [hW0]; exact bel1 _ _
  have hR0 : Own W0 w.heap.size 25 3 Z3 := by rw [hW0]; exact Own.new w 25 3 #[.int .i64 0, .slice none 0 0, .slice none 0 0] rfl
  have HO := hidMk (open_any2 a len cap f 0 W0 (hl.later hb0) hc hm hml (by omega) (by omega) (hq.later hb0))
  rw [hE, errV_no h0] at HO
  rw [errV_no h0]
  have HR0 := hidMk hR0
  have HB0 := hidMk hb0
  clear hl hq hE hR0 hb0
  go_enter Tryd.func6, Tryd.ntmps6
  go_wp2_with fail
  rw [← hW0]
  refine HO.out.mono ?_
  rintro e w1 ⟨hb1, v1, rfl, ho1⟩
  have hR1 := HR0.out.later hb1
  have n0 := hR1.cell 0 (by decide)
  have n1 := hR1.cell 1 (by decide)
  have n2 := hR1.cell 2 (by decide)
  have s0 := hR1.soft 0
  have s1 := hR1.soft 1
  have s2 := hR1.soft 2
  simp [Z3] at n0 n1 n2
  have HB : Hid (Below w.heap.size w (put3 w1 w.heap.size (.int .i64 0) (.slice none 0 0) (.slice none 0 0))) := (HB0.out.trans (hb1.mono (by omega))).grown (grown_put3 w1 w.heap.size (.int .i64 0) (.slice none 0 0) (.slice none 0 0)) (by have := hb1.size; omega) (fun k hk => by cases hk; exact Nat.le_refl _)
  have HB' : Hid (Below w.heap.size w w1) := HB0.out.trans (hb1.mono (by omega))
  obtain ⟨a1, m1, c1, rfl⟩ : ∃ a n c, v1 = .slice a n c := by
    rcases ho1.2 with ⟨h1, -⟩ | ⟨g, c, _, h1, _⟩
    · exact ⟨_, _, _, h1⟩
    · exact ⟨_, _, _, h1⟩
  generalize opnT f len 0 = T0
  clear hb1 ho1 hR1 HO hW0
  go_wp2
  first
    | exact bodyPost_ret (v := .tuple #[zCk, .iface 36 (.int .i64 (E : Int))]) (by simp [results, Tryd.results6, go_sem, n0, n1, n2, zCk]) rfl ⟨rfl, HB.out⟩
    | exact bodyPost_ret (v := .tuple #[zCk, .iface 36 (.int .i64 (E : Int))]) (by simp [results, Tryd.results6, go_sem, n0, n1, n2, zCk]) rfl ⟨rfl, HB'.out⟩

theorem bytes_put3 {W : World} {R n : Nat} {x y z : Value} {a : Option Addr} {f : Nat → UInt8} (h0 : W.cell? ⟨R, 0, none⟩ = some (.int .i64 0)) (h1 : W.cell? ⟨R, 1, none⟩ = some (.slice none 0 0)) (h2 : W.cell? ⟨R, 2, none⟩ = some (.slice none 0 0)) (h : Bytes W a n f) : Bytes (put3 W R x y z) a n f := fun i hi => by
  obtain ⟨b, off, e, hc⟩ := h i hi
  have k0 : (⟨b, off + i, none⟩ : Addr) ≠ ⟨R, 0, none⟩ := fun e => by rw [e, h0] at hc; cases hc
  have k1 : (⟨b, off + i, none⟩ : Addr) ≠ ⟨R, 1, none⟩ := fun e => by rw [e, h1] at hc; cases hc
  have k2 : (⟨b, off + i, none⟩ : Addr) ≠ ⟨R, 2, none⟩ := fun e => by rw [e, h2] at hc; cases hc
  refine ⟨b, off, e, ?_⟩
  unfold put3
  first
    | rw [World.cell?_setCell_other _ _ _ _ k2, World.cell?_setCell_other _ _ _ _ k1, World.cell?_setCell_other _ _ _ _ k0]; exact hc
    | rw [World.cell?_setCell_other _ _ _ _ k2.symm, World.cell?_setCell_other _ _ _ _ k1.symm, World.cell?_setCell_other _ _ _ _ k0.symm]; exact hc
theorem HRel.put3 {W : World} {R g : Nat} {x y z : Value} {ms : List HM} {hs : List Hd} (h0 : W.cell? ⟨R, 0, none⟩ = some (.int .i64 0)) (h1 : W.cell? ⟨R, 1, none⟩ = some (.slice none 0 0)) (h2 : W.cell? ⟨R, 2, none⟩ = some (.slice none 0 0)) (h : HRel W g ms hs) : HRel (put3 W R x y z) g ms hs := by
  induction h with
  | nil => exact .nil
  | cons q1 q2 q3 q4 q5 _ ih => exact .cons q1 q2 q3 (bytes_put3 h0 h1 h2 q4) q5 ih
/-- What unpacking a checkpoint gives. -/
def UnPost (w : World) (len : Nat) (m : Int) (os : List Of) (hs : List Hd) (e : Ending) (w' : World) : Prop := Below w.heap.size w w' ∧
  ((len = (encCk m os hs).length + 8 ∧ ∃ ao co ah ch ms g, e = .returned (.tuple #[.agg #[.int .i64 m, .slice ao os.length co, .slice ah hs.length ch], .nilIface]) ∧ OfL w' ao os ∧ HmL w' ah ms ∧ HRel w' g ms hs) ∨
    (len ≠ (encCk m os hs).length + 8 ∧ e = .returned (.tuple #[zCk, errV 7])))
set_option maxHeartbeats 8000000 in
theorem unpack_ok (a : Option Addr) (len cap : Nat) (f : Nat → UInt8) (m : Int) (os : List Of) (hs : List Hd) (w : World) (hl : Bytes w a len f) (hc : len ≤ cap) (hmx : cap ≤ 9223372036854775807) (hml : len ≤ 140737488355328) (hq : Quart w)
    (hE : opnE f len 0 = 0) (hN : opnN f len 0 = (encCk m os hs).length) (hF : ∀ i, i < (encCk m os hs).length → opnF f 0 i = lat (encCk m os hs) i) (hm : InI m) (iO : ∀ o ∈ os, InO o) (iH : ∀ h ∈ hs, InH h) (h1 : os.length ≤ 549755813888) (h2 : hs.length ≤ 549755813888) (hsz : (encCk m os hs).length ≤ 134217728) :
    Calls Tryd.prog 6 #[.slice a len cap] w (UnPost w len m os hs) := by
  obtain ⟨W0, hW0⟩ : ∃ W0, W0 = w.alloc (.cells #[.int .i64 0, .slice none 0 0, .slice none 0 0] 25) := ⟨_, rfl⟩
  have hz0 : W0.heap.size = w.heap.size + 1 := by rw [hW0, World.size_alloc]
  have hb0 : Below w.heap.size w W0 := by rw [hW0]; exact bel1 _ _
  have hR0 : Own W0 w.heap.size 25 3 Z3 := by rw [hW0]; exact Own.new w 25 3 #[.int .i64 0, .slice none 0 0, .slice none 0 0] rfl
  have hT : opnT f len 0 = 8 + ((encCk m os hs).length : Int) := by unfold opnT; rw [if_pos hE, hN]; omega
  have HO := hidMk (open_any2 a len cap f 0 W0 (hl.later hb0) hc hmx hml (by omega) (by omega) (hq.later hb0))
  rw [hE, hT, hN, show errV 0 = .nilIface from rfl] at HO
  have HF := hidMk hF
  have HR0 := hidMk hR0
  have HB0 := hidMk hb0
  have HM := hidMk hm
  have HIO := hidMk iO
  have HIH := hidMk iH
  have hpos : 0 < (encCk m os hs).length := by have := ck2_pos m os hs hs.length; rw [ck2_all] at this; exact this
  clear hl hq hE hR0 hb0 hN hT hF hm iO iH
  go_enter Tryd.func6, Tryd.ntmps6
  go_wp2_with fail
  rw [← hW0]
  refine HO.out.mono ?_
  rintro e w1 ⟨hb1, v1, rfl, ho1⟩
  have hO1 : OL w1 W0.heap.size v1 (encCk m os hs) := by
    unfold OL
    have e : (List.range (encCk m os hs).length).map (fun i => u8v (opnF f 0 i)) = (encCk m os hs).map u8v := by
      apply List.ext_getElem
      · simp
      · intro i hi1 hi2
        simp only [List.getElem_map, List.getElem_range]
        rw [HF.out i (by simpa using hi2)]
        have hi3 : i < (encCk m os hs).length := by simpa using hi2
        simp [lat, hi3]
    rw [← e]; exact ho1
  obtain ⟨gb, cb, rfl, hc1, hc2⟩ := hO1.pos hpos
  have hgb := (World.ownsRow.lt hO1 gb rfl).2
  have hBy := hO1.bytes.2
  have HRD : Hid (∀ W, W = w1.alloc (.cells #[.slice (some ⟨gb, 0, none⟩) (encCk m os hs).length cb] 53) → Rd W w1.heap.size (encCk m os hs)) := fun W hW => by
    subst hW
    exact ⟨some ⟨gb, 0, none⟩, cb, Own.new w1 53 1 #[.slice (some ⟨gb, 0, none⟩) (encCk m os hs).length cb] rfl, hBy.later (bel1 _ _), hc1, by unfold maxLen at hc2; omega, (fun x hx => by cases hx; exact hgb), ⟨_, _, rfl⟩, by omega⟩
  have HB1 := hidMk hb1
  have hs1 := hb1.size
  clear ho1 hO1 hBy HO HF hb1
  go_wp2_with fail
  refine (rcheck_ok w1.heap.size m os hs _ (HRD.out _ rfl) HM.out HIO.out HIH.out h1 h2).mono ?_
  rintro e w2 ⟨ao, co, ah, ch, ms, rfl, hOL, hHL, hRel, hg2, hao, hah⟩
  rw [World.size_alloc] at hao hah
  have hb2 : Below w1.heap.size w1 w2 := (bel1 _ _).grown hg2 (by simp) (fun k hk => by cases hk; exact Nat.le_refl _)
  have hb3 : Below w2.heap.size w2 (w2.alloc (.cells #[.int .i64 m, .slice ao os.length co, .slice ah hs.length ch] 25)) := bel1 _ _
  have hR1 := (HR0.out.later HB1.out).later hb2
  have hR2 := hR1.later hb3
  have m0 := hR1.cell 0 (by decide)
  have m1 := hR1.cell 1 (by decide)
  have m2 := hR1.cell 2 (by decide)
  have t0 := hR1.soft 0
  have t1 := hR1.soft 1
  have t2 := hR1.soft 2
  rw [show Z3[0]? = some (.int .i64 0) from rfl] at m0
  rw [show Z3[1]? = some (.slice none 0 0) from rfl] at m1
  rw [show Z3[2]? = some (.slice none 0 0) from rfl] at m2
  have HB2 : Hid (Below w.heap.size w (w2.alloc (.cells #[.int .i64 m, .slice ao os.length co, .slice ah hs.length ch] 25))) := ((HB0.out.trans (HB1.out.mono (by omega))).trans (hb2.mono (by omega))).trans (hb3.mono (by have := hb2.size; omega))
  have n0 := hR2.cell 0 (by decide)
  have n1 := hR2.cell 1 (by decide)
  have n2 := hR2.cell 2 (by decide)
  have s0 := hR2.soft 0
  have s1 := hR2.soft 1
  have s2 := hR2.soft 2
  have hs2 := hb2.size
  rw [show Z3[0]? = some (.int .i64 0) from rfl] at n0
  rw [show Z3[1]? = some (.slice none 0 0) from rfl] at n1
  rw [show Z3[2]? = some (.slice none 0 0) from rfl] at n2
  have hOL := hOL.later hb3
  have hHL := hHL.grown (grown_below (r := none) hb3) (fun x hx e => by cases e)
  have hRel := hRel.grown (r := none) (grown_below hb3) (fun k hk => by cases hk)
  obtain ⟨W3, hW3⟩ : ∃ W3, W3 = w2.alloc (.cells #[.int .i64 m, .slice ao os.length co, .slice ah hs.length ch] 25) := ⟨_, rfl⟩
  have hz3 : W3.heap.size = w2.heap.size + 1 := by rw [hW3, World.size_alloc]
  have e0 : W3.cell? ⟨w2.heap.size, 0, none⟩ = some (.int .i64 m) := by rw [hW3]; simp
  have e1 : W3.cell? ⟨w2.heap.size, 1, none⟩ = some (.slice ao os.length co) := by rw [hW3]; simp
  have e2 : W3.cell? ⟨w2.heap.size, 2, none⟩ = some (.slice ah hs.length ch) := by rw [hW3]; simp
  rw [← hW3] at n0 n1 n2 s0 s1 s2 hOL hHL hRel HB2
  have hgp := grown_put3 W3 w.heap.size (.int .i64 m) (.slice ao os.length co) (.slice ah hs.length ch)
  have HP : Hid (len = (encCk m os hs).length + 8 → UnPost w len m os hs (.returned (.tuple #[.agg #[.int .i64 m, .slice ao os.length co, .slice ah hs.length ch], .nilIface])) (put3 W3 w.heap.size (.int .i64 m) (.slice ao os.length co) (.slice ah hs.length ch))) := fun h =>
    ⟨HB2.out.grown hgp (by omega) (fun k hk => by cases hk; exact Nat.le_refl _), .inl ⟨h, ao, co, ah, ch, ms, w1.heap.size, rfl, hOL.grown hgp (fun x hx e => by have := hao x hx; have := Option.some.inj e; omega), hHL.grown hgp (fun x hx e => by have := hah x hx; have := Option.some.inj e; omega), HRel.put3 n0 n1 n2 hRel⟩⟩
  have HZ : Hid (∀ W, Below w.heap.size w W → len ≠ (encCk m os hs).length + 8 → UnPost w len m os hs (.returned (.tuple #[zCk, errV 7])) W) := fun W hW h => ⟨hW, .inr ⟨h, rfl⟩⟩
  have HZB : Hid (Below w.heap.size w (put3 W3 w.heap.size (.int .i64 0) (.slice none 0 0) (.slice none 0 0))) := HB2.out.grown (grown_put3 _ _ _ _ _) (by omega) (fun k hk => by cases hk; exact Nat.le_refl _)
  have hne1 : ¬ w.heap.size = w2.heap.size := by omega
  have hne2 : ¬ w2.heap.size = w.heap.size := by omega
  clear hOL hHL hRel hg2 hb2 hR2 hR1 HRD hgp hao hah hb3 e0 e1 e2 hz3
  rw [hW3] at HP HZB HB2 n0 n1 n2 s0 s1 s2
  clear hW3
  by_cases hlen : len = (encCk m os hs).length + 8
  · have hl1 : ((8 + ((encCk m os hs).length : Int)) == (len : Int)) = true := by rw [beq_iff_eq]; omega
    have hl2 : 8 + ((encCk m os hs).length : Int) = (len : Int) := by omega
    have HPP := hidMk (HP.out hlen)
    clear hlen HP HZ
    generalize (encCk m os hs).length = N at *
    go_wp2
    generalize w2.alloc (.cells #[.int .i64 m, .slice ao os.length co, .slice ah hs.length ch] 25) = W3 at *
    exact bodyPost_ret (v := .tuple #[.agg #[.int .i64 m, .slice ao os.length co, .slice ah hs.length ch], .nilIface]) (by simp [results, Tryd.results6, go_sem, n0, n1, n2]) rfl HPP.out
  · have hl1 : ((8 + ((encCk m os hs).length : Int)) == (len : Int)) = false := by rw [beq_eq_false_iff_ne]; omega
    have hl2 : ¬ 8 + ((encCk m os hs).length : Int) = (len : Int) := by omega
    have HPP := hidMk fun W hW => HZ.out W hW hlen
    clear hlen HP HZ
    generalize (encCk m os hs).length = N at *
    go_wp2
    generalize w2.alloc (.cells #[.int .i64 m, .slice ao os.length co, .slice ah hs.length ch] 25) = W3 at *
    first
      | exact bodyPost_ret (v := .tuple #[zCk, errV 7]) (by simp [results, Tryd.results6, go_sem, n0, n1, n2, zCk, errV]) rfl (HPP.out _ HZB.out)
      | exact bodyPost_ret (v := .tuple #[zCk, errV 7]) (by simp [results, Tryd.results6, go_sem, n0, n1, n2, zCk, errV]) rfl (HPP.out _ HB2.out)
end Go.Proofs.YtoioaalkeanhgaaDoor
