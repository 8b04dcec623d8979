import Derived.Test.YtoioaalkeanhgaaDoorDpD
namespace Go.Proofs.YtoioaalkeanhgaaDoor
open Go.RowKit
set_option linter.unusedVariables false
set_option linter.unusedSimpArgs false
set_option maxRecDepth 100000

theorem Own.keep {w w' : World} {b t n : Nat} {xs : List Value} (h : Own w b t n xs) (hb : w'.heap[b]? = w.heap[b]?) : Own w' b t n xs := by
  refine ⟨h.1, ?_⟩
  rcases h.2 with h2 | ⟨g, cap, cur, h1, h2, h3, h4⟩
  · exact .inl h2
  · refine .inr ⟨g, cap, cur, h1, h2, ?_, h4⟩
    have e : g = b := by
      simp only [Value.slice.injEq, Option.some.injEq, Addr.mk.injEq] at h1
      exact h1.1.1.symm
    subst e
    rw [hb]; exact h3
/-- Three cells of a block of one's own are written. -/
def put3 (w : World) (b : Nat) (x y z : Value) : World := ((w.setCell ⟨b, 0, none⟩ x).setCell ⟨b, 1, none⟩ y).setCell ⟨b, 2, none⟩ z
theorem grown_put3 (w : World) (b : Nat) (x y z : Value) : w.grownBy (put3 w b x y z) (some b) := grown_trans (grown_trans (grown_set _ _ _) (grown_set _ _ _)) (grown_set _ _ _)
theorem ptrs3 (w : World) (q : Nat) : ∀ i, i < 3 → (w.alloc (.cells #[.pointer (some ⟨q, 0, none⟩), .pointer (some ⟨q, 1, none⟩), .pointer (some ⟨q, 2, none⟩)] 63)).cell? ⟨w.heap.size, i, none⟩ = some (.pointer (some ⟨q, i, none⟩)) := fun i hi => by
  match i, hi with
  | 0, _ => simp
  | 1, _ => simp
  | 2, _ => simp
theorem ptrs2 (w : World) (q : Nat) : ∀ i, i < 2 → (w.alloc (.cells #[.pointer (some ⟨q, 0, none⟩), .pointer (some ⟨q, 1, none⟩)] 63)).cell? ⟨w.heap.size, i, none⟩ = some (.pointer (some ⟨q, i, none⟩)) := fun i hi => by
  match i, hi with
  | 0, _ => simp
  | 1, _ => simp
theorem ptrs1 (w : World) (q : Nat) : ∀ i, i < 1 → (w.alloc (.cells #[.pointer (some ⟨q, 0, none⟩)] 63)).cell? ⟨w.heap.size, i, none⟩ = some (.pointer (some ⟨q, i, none⟩)) := fun i hi => by
  match i, hi with
  | 0, _ => simp

set_option maxHeartbeats 2000000 in
theorem rof_ok (g : Nat) (L L' : List UInt8) (o : Of) (w : World) (hR : Rd w g L) (hL : L = encOf o ++ L') (ho : InO o) :
    Calls Tryd.prog 22 #[.pointer (some ⟨g, 0, none⟩)] w fun e w' => e = .returned (.tuple #[.agg #[.int .i64 o.n, .int .i64 o.p, .int .i64 o.a], .bool true]) ∧ Rd w' g L' ∧ w.grownBy w' (some g) := by
  have hgl := hR.lt
  obtain ⟨W0, hW0⟩ : ∃ W0, W0 = w.alloc (.cells #[.int .i64 0, .int .i64 0, .int .i64 0] 41) := ⟨_, rfl⟩
  have hz0 : W0.heap.size = w.heap.size + 1 := by rw [hW0, World.size_alloc]
  have hb0 : Below w.heap.size w W0 := by rw [hW0]; exact bel1 _ _
  have hR0 : Own W0 w.heap.size 41 3 [.int .i64 0, .int .i64 0, .int .i64 0] := by rw [hW0]; exact Own.new w 41 3 #[.int .i64 0, .int .i64 0, .int .i64 0] rfl
  obtain ⟨W1, hW1⟩ : ∃ W1, W1 = W0.alloc (.cells #[.int .i64 0, .int .i64 0, .int .i64 0] 41) := ⟨_, rfl⟩
  have hO : Own W1 W0.heap.size 41 3 [.int .i64 0, .int .i64 0, .int .i64 0] := by rw [hW1]; exact Own.new W0 41 3 #[.int .i64 0, .int .i64 0, .int .i64 0] rfl
  have hb1 : Below w.heap.size w W1 := by rw [hW1]; exact hb0.trans ((bel1 _ _).mono (by omega))
  have hz1 : W1.heap.size = W0.heap.size + 1 := by rw [hW1, World.size_alloc]
  have HC : Hid (Calls Tryd.prog 20 #[.pointer (some ⟨g, 0, none⟩), .slice (some ⟨W1.heap.size, 0, none⟩) 3 3] (W1.alloc (.cells #[.pointer (some ⟨W0.heap.size, 0, none⟩), .pointer (some ⟨W0.heap.size, 1, none⟩), .pointer (some ⟨W0.heap.size, 2, none⟩)] 63)) fun e w' => e = .returned (.bool true) ∧ Rd w' g L' ∧ Own w' W0.heap.size 41 3 [.int .i64 o.n, .int .i64 o.p, .int .i64 o.a] ∧ w.grownBy w' (some g) ∧ Own w' w.heap.size 41 3 [.int .i64 0, .int .i64 0, .int .i64 0]) := by
    refine (rnums_ok g W0.heap.size 41 3 W1.heap.size 3 L L' (ofNs o) [.int .i64 0, .int .i64 0, .int .i64 0] _ ((hR.later hb1).later (bel1 _ _)) (hO.later (bel1 _ _)) (by omega) (ptrs3 W1 W0.heap.size) (by omega) (by omega) hL ho.all (Nat.le_refl _) rfl (by simp [ofNs])).mono ?_
    rintro e w2 ⟨rfl, h1, h2, h3⟩
    exact ⟨rfl, h1, h2, h3.one (hb1.trans ((bel1 _ _).mono (by omega))) (by omega), (hR0.later ((by rw [hW1]; exact bel1 _ _ : Below W0.heap.size W0 W1).trans ((bel1 _ _).mono (by omega)))).keep (h3.block _ (by rw [World.size_alloc]; omega) (by omega) (by omega))⟩
  clear hO hb1 hR0 hR hL ho
  go_enter Tryd.func22, Tryd.ntmps22
  go_wp2_with fail
  rw [← hW0, show w.heap.size + 1 = W0.heap.size by omega, ← hW1, show W0.heap.size + 1 = W1.heap.size by omega]
  refine HC.out.mono ?_
  rintro e w2 ⟨rfl, h1, h2, h3, h4⟩
  have c0 := h2.cell 0 (by decide)
  have c1 := h2.cell 1 (by decide)
  have c2 := h2.cell 2 (by decide)
  have d0 := h4.cell 0 (by decide)
  have d1 := h4.cell 1 (by decide)
  have d2 := h4.cell 2 (by decide)
  have f0 := h4.soft 0
  have f1 := h4.soft 1
  have f2 := h4.soft 2
  have hlt := h4.lt
  simp at d0 d1 d2
  rw [hz0] at c0 c1 c2
  simp at c0 c1 c2
  have hgp := grown_put3 w2 w.heap.size (.int .i64 o.n) (.int .i64 o.p) (.int .i64 o.a)
  have H1 := hidMk (h1.grown hgp (fun k hk => by cases hk; exact hgl))
  have H3 : Hid (w.grownBy (put3 w2 w.heap.size (.int .i64 o.n) (.int .i64 o.p) (.int .i64 o.a)) (some g)) := grown_new h3 hgp (fun k hk => by cases hk; exact Nat.le_refl _)
  clear h1 h2 h3 h4 hgp HC hW1 hW0
  go_wp2
  exact bodyPost_ret (v := .tuple #[.agg #[.int .i64 o.n, .int .i64 o.p, .int .i64 o.a], .bool true]) (by simp [results, Tryd.results22, go_sem, d0, d1, d2]) rfl ⟨rfl, H1.out, H3.out⟩

/-- What reading a piece gives. -/
def HeldPost (w : World) (g : Nat) (h : Hd) (L' : List UInt8) (e : Ending) (w' : World) : Prop := ∃ a c, e = .returned (.tuple #[.agg #[.int .i64 h.n, .int .i64 h.g, .slice a h.b.length c], .bool true]) ∧ Rd w' g L' ∧ w.grownBy w' (some g) ∧ Bytes w' a h.b.length (lat h.b) ∧ ∀ x, a = some x → x.block < g
set_option maxHeartbeats 2000000 in
theorem rhd_ok (g : Nat) (L L' : List UInt8) (h : Hd) (w : World) (hR : Rd w g L) (hL : L = encHd h ++ L') (ho : InH h) :
    Calls Tryd.prog 24 #[.pointer (some ⟨g, 0, none⟩)] w (HeldPost w g h L') := by
  have hgl := hR.lt
  obtain ⟨W0, hW0⟩ : ∃ W0, W0 = w.alloc (.cells #[.int .i64 0, .int .i64 0, .slice none 0 0] 45) := ⟨_, rfl⟩
  have hz0 : W0.heap.size = w.heap.size + 1 := by rw [hW0, World.size_alloc]
  have hb0 : Below w.heap.size w W0 := by rw [hW0]; exact bel1 _ _
  have hR0 : Own W0 w.heap.size 45 3 [.int .i64 0, .int .i64 0, .slice none 0 0] := by rw [hW0]; exact Own.new w 45 3 #[.int .i64 0, .int .i64 0, .slice none 0 0] rfl
  obtain ⟨W1, hW1⟩ : ∃ W1, W1 = W0.alloc (.cells #[.int .i64 0, .int .i64 0, .slice none 0 0] 45) := ⟨_, rfl⟩
  have hO : Own W1 W0.heap.size 45 3 [.int .i64 0, .int .i64 0, .slice none 0 0] := by rw [hW1]; exact Own.new W0 45 3 #[.int .i64 0, .int .i64 0, .slice none 0 0] rfl
  have hb1 : Below w.heap.size w W1 := by rw [hW1]; exact hb0.trans ((bel1 _ _).mono (by omega))
  have hz1 : W1.heap.size = W0.heap.size + 1 := by rw [hW1, World.size_alloc]
  have hL2 : L = [h.n, h.g].flatMap encInt ++ (encInt (h.b.length : Int) ++ (h.b ++ L')) := by rw [hL]; unfold encHd; simp
  have HC : Hid (Calls Tryd.prog 20 #[.pointer (some ⟨g, 0, none⟩), .slice (some ⟨W1.heap.size, 0, none⟩) 2 2] (W1.alloc (.cells #[.pointer (some ⟨W0.heap.size, 0, none⟩), .pointer (some ⟨W0.heap.size, 1, none⟩)] 63)) fun e w' => e = .returned (.bool true) ∧ Rd w' g (encInt (h.b.length : Int) ++ (h.b ++ L')) ∧ Own w' W0.heap.size 45 3 [.int .i64 h.n, .int .i64 h.g, .slice none 0 0] ∧ w.grownBy w' (some g) ∧ Own w' w.heap.size 45 3 [.int .i64 0, .int .i64 0, .slice none 0 0]) := by
    refine (rnums_ok g W0.heap.size 45 3 W1.heap.size 2 L _ [h.n, h.g] [.int .i64 0, .int .i64 0, .slice none 0 0] _ ((hR.later hb1).later (bel1 _ _)) (hO.later (bel1 _ _)) (by omega) (ptrs2 W1 W0.heap.size) (by omega) (by omega) hL2 (fun x hx => by
      simp at hx
      rcases hx with rfl | rfl
      · exact ho.1
      · exact ho.2.1) (by simp) rfl (by simp)).mono ?_
    rintro e w2 ⟨rfl, h1, h2, h3⟩
    exact ⟨rfl, h1, h2, h3.one (hb1.trans ((bel1 _ _).mono (by omega))) (by omega), (hR0.later ((by rw [hW1]; exact bel1 _ _ : Below W0.heap.size W0 W1).trans ((bel1 _ _).mono (by omega)))).keep (h3.block _ (by rw [World.size_alloc]; omega) (by omega) (by omega))⟩
  have HI : Hid (InI (h.b.length : Int)) := ⟨by omega, by have := ho.2.2; omega⟩
  clear hO hb1 hR0 hR hL ho hL2
  go_enter Tryd.func24, Tryd.ntmps24
  go_wp2_with fail
  rw [← hW0, show w.heap.size + 1 = W0.heap.size by omega, ← hW1, show W0.heap.size + 1 = W1.heap.size by omega]
  refine HC.out.mono ?_
  rintro e w2 ⟨rfl, h1, h2, h3, h4⟩
  have H1 := hidMk h1
  have H2 := hidMk h2
  have H3 := hidMk h3
  have H4 := hidMk h4
  clear h1 h2 h3 h4 HC hW1 hW0
  go_wp2_with fail
  refine (counted_any g _ w2 H1.out).mono ?_
  rintro e w3 ⟨a, m, c, ok, L1, P, rfl, hg3, hR3, hl3, hP, hm, hmc, hB, hap, hyes, hno⟩
  cases ok with
  | false => exact absurd (by rw [List.append_assoc]) ((hno rfl).2.2.2 h.b L' HI.out)
  | true =>
    have he := hyes rfl
    rw [List.append_assoc] at he
    obtain ⟨q1, q2⟩ := encInt_pf he
    have q3 : h.b.length = P.length := by omega
    obtain ⟨rfl, rfl⟩ := List.append_inj q2 q3
    subst hP
    clear q1 q2 q3
    have hO3 : Own w3 W0.heap.size 45 3 [.int .i64 h.n, .int .i64 h.g, .slice none 0 0] := H2.out.grown hg3 (fun e => by have := Option.some.inj e; omega)
    have hN3 : Own w3 w.heap.size 45 3 [.int .i64 0, .int .i64 0, .slice none 0 0] := H4.out.grown hg3 (fun e => by have := Option.some.inj e; omega)
    have c2 := hO3.cell 2 (by decide)
    have f2 := hO3.soft 2
    obtain ⟨hO4, hg4⟩ := hO3.put 2 (.slice a h.b.length c)
    have hN4 := hN3.grown hg4 (fun e => by have := Option.some.inj e; omega)
    have d0 := hO4.cell 0 (by decide)
    have d1 := hO4.cell 1 (by decide)
    have d2 := hO4.cell 2 (by decide)
    have e0 := hN4.cell 0 (by decide)
    have e1 := hN4.cell 1 (by decide)
    have e2 := hN4.cell 2 (by decide)
    have g0 := hN4.soft 0
    have g1 := hN4.soft 1
    have g2 := hN4.soft 2
    have hlt3 := hO3.lt
    have m0 := hN3.cell 0 (by decide)
    have m1 := hN3.cell 1 (by decide)
    have m2 := hN3.cell 2 (by decide)
    simp at m0 m1 m2
    rw [hz0] at c2 d0 d1 d2 f2 hlt3 hO4 hg4 hN4 e0 e1 e2 g0 g1 g2
    simp at c2 d0 d1 d2 e0 e1 e2
    have hR4 := hR3.grown hg4 (fun j hj => by cases hj; omega)
    have hG4 : w.grownBy (w3.setCell ⟨w.heap.size + 1, 2, none⟩ (.slice a h.b.length c)) (some g) := grown_new (grown_trans H3.out hg3) hg4 (fun n hn => by cases hn; omega)
    have hBy := hB.grown hg4 (fun x hx e => by have := hap x hx; have := Option.some.inj e; omega)
    obtain ⟨W4, hW4⟩ : ∃ W4, W4 = w3.setCell ⟨w.heap.size + 1, 2, none⟩ (.slice a h.b.length c) := ⟨_, rfl⟩
    rw [← hW4] at hR4 hG4 hBy
    have hgp := grown_put3 W4 w.heap.size (.int .i64 h.n) (.int .i64 h.g) (.slice a h.b.length c)
    have HR5 := hidMk (hR4.grown hgp (fun k hk => by cases hk; exact hgl))
    have HG5 : Hid (w.grownBy (put3 W4 w.heap.size (.int .i64 h.n) (.int .i64 h.g) (.slice a h.b.length c)) (some g)) := grown_new hG4 hgp (fun k hk => by cases hk; exact Nat.le_refl _)
    have HBy := hidMk (hBy.grown hgp (fun x hx e => by have := hap x hx; have := Option.some.inj e; omega))
    have HAP := hidMk hap
    rw [hW4] at HR5 HG5 HBy
    clear hO3 hN3 hN4 hO4 hg4 hg3 hR3 hB hap hyes hno he hgp hR4 hG4 hBy hW4
    go_wp2
    exact bodyPost_ret (v := .tuple #[.agg #[.int .i64 h.n, .int .i64 h.g, .slice a h.b.length c], .bool true]) (by simp [results, Tryd.results24, go_sem, m0, m1, m2]) rfl ⟨a, c, rfl, HR5.out, HG5.out, HBy.out, HAP.out⟩
end Go.Proofs.YtoioaalkeanhgaaDoor
