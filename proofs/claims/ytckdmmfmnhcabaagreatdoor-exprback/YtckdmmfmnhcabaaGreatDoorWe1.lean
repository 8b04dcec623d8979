import Derived.Test.YtckdmmfmnhcabaaGreatDoorWb1
import Derived.Test.YtckdmmfmnhcabaaGreatDoorXg1
import Derived.Test.YtckdmmfmnhcabaaGreatDoorWd1
import Derived.Test.YtckdmmfmnhcabaaGreatDoorXpVp
import Derived.Test.YtckdmmfmnhcabaaGreatDoorXf1
import Derived.Test.YtckdmmfmnhcabaaGreatDoorWa1
import Derived.Deep.DeepCutAuto
namespace Go.Proofs.YtckdmmfmnhcabaaGreatDoor
open Go.RowKit
set_option linter.unusedVariables false
set_option linter.unusedSimpArgs false
set_option maxRecDepth 100000

theorem infoVal : (Tryz.prog.info? 42).map (fun i => (i.zero, i.size, i.bytes)) = some (some (.agg #[.int .i64 0, .int .i64 0, .string ⟨#[]⟩]), 3, 32) := by kernel_rfl
def VD (w : World) (v cv rv : Value) (x : Vl) : Prop := ∃ t p fn rc, v = .iface t p ∧ (∀ W, (method 378 t p "streamwright/expr.valueOver").run Tryz.prog W = .ok (fn, rc) W) ∧ (∀ W, (nilAhead 378 t p "streamwright/expr.valueOver").run Tryz.prog W = .ok (some false) W) ∧ (∀ (a : Array Value) (W : World), (callFunc fn a).run Tryz.prog W = .ok (.enter fn a) W) ∧ ∀ W, Below w.heap.size w W → Calls Tryz.prog fn #[rc, cv, rv] W fun e w' => e = .returned (vV x) ∧ Below W.heap.size W w'
theorem VD.later {w w' : World} {v cv rv : Value} {x : Vl} (h : VD w v cv rv x) (hb : Below w.heap.size w w') : VD w' v cv rv x := by
 obtain ⟨t, p, fn, rc, h1, h2, h3, h4, h5⟩ := h
 exact ⟨t, p, fn, rc, h1, h2, h3, h4, fun W hW => h5 W (hb.trans (hW.mono hb.size))⟩
def VRow (W : World) (g n : Nat) (xs : List Vl) (k : Nat) : Prop := ∃ cs : List Value, cs.length = n * 3 ∧ W.ownsRow g 42 3 (.slice (some ⟨g, 0, none⟩) n n) n cs ∧ ∀ i (h : i < xs.length), i < k → cs[i * 3]? = some (.int .i64 xs[i].k) ∧ cs[i * 3 + 1]? = some (.int .i64 xs[i].n) ∧ cs[i * 3 + 2]? = some (.string xs[i].t)
theorem VRow.later {W W' : World} {g n k : Nat} {xs : List Vl} (h : VRow W g n xs k) (hb : Below W.heap.size W W') : VRow W' g n xs k := by
 obtain ⟨cs, h1, h2, h3⟩ := h
 exact ⟨cs, h1, xownLater h2 hb, h3⟩
theorem VRow.new (W : World) (n : Nat) (xs : List Vl) (hn : n ≤ 200) : VRow (W.alloc (.cells (madeCells #[.int .i64 0, .int .i64 0, .string ⟨#[]⟩] (n * 3)) 42)) W.heap.size n xs 0 :=
 ⟨_, by rw [Array.length_toList, size_madeCells], World.ownsRow_lit (base := W.heap.size) (e := 42) (size := 3) W (madeCells #[.int .i64 0, .int .i64 0, .string ⟨#[]⟩] (n * 3)) n (Nat.le_refl _) (by unfold maxLen; omega) (by rw [size_madeCells]), fun i h hk => absurd hk (by omega)⟩
theorem VRow.cells {W : World} {g n k : Nat} {xs : List Vl} (h : VRow W g n xs k) (hk : k < n) : (∃ v, W.cell? ⟨g, k * 3, none⟩ = some v) ∧ (∃ v, W.cell? ⟨g, k * 3 + 1, none⟩ = some v) ∧ ∃ v, W.cell? ⟨g, k * 3 + 2, none⟩ = some v := by
 obtain ⟨cs, h1, h2, h3⟩ := h
 have key : ∀ j, j < 3 → ∃ v, W.cell? ⟨g, k * 3 + j, none⟩ = some v := fun j hj => by
   have h5 := World.ownsRow.cellAt h2 (k * 3 + j) (by omega)
   exact ⟨cs[k * 3 + j]'(by omega), by rw [h5]; exact List.getElem?_eq_getElem _⟩
 exact ⟨key 0 (by decide), key 1 (by decide), key 2 (by decide)⟩
theorem VRow.soft {W : World} {g n k : Nat} {xs : List Vl} (h : VRow W g n xs k) (j : Nat) : W.frozen? ⟨g, j, none⟩ = false := by
 obtain ⟨cs, h1, h2, h3⟩ := h
 exact World.ownsRow.frozenAt h2 j
theorem VRow.lt {W : World} {g n k : Nat} {xs : List Vl} (h : VRow W g n xs k) : g < W.heap.size := by
 obtain ⟨cs, h1, h2, h3⟩ := h
 exact (World.ownsRow.lt h2 g rfl).2
theorem VRow.put {W : World} {g n k : Nat} {xs : List Vl} (h : VRow W g n xs k) (hk : k < n) (hx : k < xs.length) :
   VRow (((W.setCell ⟨g, k * 3, none⟩ (.int .i64 xs[k].k)).setCell ⟨g, k * 3 + 1, none⟩ (.int .i64 xs[k].n)).setCell ⟨g, k * 3 + 2, none⟩ (.string xs[k].t)) g n xs (k + 1) ∧ W.grownBy (((W.setCell ⟨g, k * 3, none⟩ (.int .i64 xs[k].k)).setCell ⟨g, k * 3 + 1, none⟩ (.int .i64 xs[k].n)).setCell ⟨g, k * 3 + 2, none⟩ (.string xs[k].t)) (some g) := by
 obtain ⟨cs, h1, h2, h3⟩ := h
 obtain ⟨a1, g1⟩ := World.ownsRow.stored h2 (k * 3) (.int .i64 xs[k].k)
 obtain ⟨a2, g2⟩ := World.ownsRow.stored a1 (k * 3 + 1) (.int .i64 xs[k].n)
 obtain ⟨a3, g3⟩ := World.ownsRow.stored a2 (k * 3 + 2) (.string xs[k].t)
 refine ⟨⟨_, by simp only [List.length_set]; exact h1, a3, fun i hi hik => ?_⟩, Vc.grown_trans (Vc.grown_trans g1 g2) g3⟩
 by_cases hk2 : i = k
 · subst hk2
   refine ⟨?_, ?_, ?_⟩
   · rw [List.getElem?_set_ne (by omega), List.getElem?_set_ne (by omega), List.getElem?_set_self (by omega)]
   · rw [List.getElem?_set_ne (by omega), List.getElem?_set_self (by rw [List.length_set]; omega)]
   · rw [List.getElem?_set_self (by rw [List.length_set, List.length_set]; omega)]
 · obtain ⟨c0, c1, c2⟩ := h3 i hi (by omega)
   refine ⟨?_, ?_, ?_⟩
   · rw [List.getElem?_set_ne (by omega), List.getElem?_set_ne (by omega), List.getElem?_set_ne (by omega)]; exact c0
   · rw [List.getElem?_set_ne (by omega), List.getElem?_set_ne (by omega), List.getElem?_set_ne (by omega)]; exact c1
   · rw [List.getElem?_set_ne (by omega), List.getElem?_set_ne (by omega), List.getElem?_set_ne (by omega)]; exact c2
theorem VRow.at {W : World} {g n : Nat} {xs : List Vl} (h : VRow W g n xs n) (hn : xs.length = n) : VsAt W (some ⟨g, 0, none⟩) xs := fun i hi => by
 obtain ⟨cs, h1, h2, h3⟩ := h
 obtain ⟨c0, c1, c2⟩ := h3 i hi (by omega)
 refine ⟨g, 0, rfl, ?_, ?_, ?_⟩
 · rw [Nat.zero_add, World.ownsRow.cellAt h2 (i * 3) (by omega)]; exact c0
 · rw [Nat.zero_add, World.ownsRow.cellAt h2 (i * 3 + 1) (by omega)]; exact c1
 · rw [Nat.zero_add, World.ownsRow.cellAt h2 (i * 3 + 2) (by omega)]; exact c2
set_option maxHeartbeats 4000000 in
theorem value_app (pl : Nat) (gv : Int) (fn : Nat) (hent : Ent fn) (fk : Array Value) (ta : Option Addr) (tn tc : Nat) (pa : Option Addr) (pn pc : Nat) (us : List Value) (cv rv : Value) (B : Nat) (w : World) (hP : Lst w B (.slice pa pn pc) us) (hm : us.length ≤ 200) (xs : List Vl) (hl : xs.length = us.length)
   (hk : ∀ i (h : i < us.length), VD w us[i] cv rv (xs[i]'(by rw [hl]; exact h))) (v : Vl) (hto : ∀ W a c, Below w.heap.size w W → VsAt W a xs → Calls Tryz.prog fn (#[.slice a xs.length c] ++ fk) W fun e w' => e = .returned (vV v) ∧ Below W.heap.size W w') :
   Calls Tryz.prog 237 #[.agg #[.int .i64 pl, .slice ta tn tc, .int .i64 gv, .func (.func fn) #[] fk, .slice pa pn pc], cv, rv] w fun e w' => e = .returned (vV v) ∧ Below w.heap.size w w' := by
 obtain rfl : pn = us.length := hP.len
 obtain ⟨i0, hi0, hz0, hz1, hz2⟩ := info_parts infoVal
 have HP : Hid (Lst w B (.slice pa us.length pc) us) := hP
 have hmk : ∀ W : World, (Instr.makeSlice 40 (.int .i64 (us.length : Int)) (.int .i64 (us.length : Int))).run Tryz.prog W = .ok (.slice (some ⟨W.heap.size, 0, none⟩) us.length us.length) (W.alloc (.cells (madeCells #[.int .i64 0, .int .i64 0, .string ⟨#[]⟩] (us.length * 3)) 42)) := fun W => by
   have := run_make (P := Tryz.prog) W 40 42 i0 (.agg #[.int .i64 0, .int .i64 0, .string ⟨#[]⟩]) Tryz.underlying40 hi0 hz0 .i64 .i64 (us.length : Int) (us.length : Int) (by omega) (by omega) (by rw [hz2]; omega) (by omega)
   rw [this, hz1]
   rw [Int.toNat_natCast]
   rfl
 have hm' : us.length ≤ 200 := hm
 have HKD : Hid (∀ i (h : i < us.length) (h' : i < xs.length), VD w us[i] cv rv xs[i]) := fun i h _ => hk i h
 have HL : Hid (xs.length = us.length) := hl
 have HTO : Hid (∀ W a c, Below w.heap.size w W → VsAt W a xs → Calls Tryz.prog fn (#[.slice a xs.length c] ++ fk) W fun e w' => e = .returned (.agg #[.int .i64 v.k, .int .i64 v.n, .string v.t]) ∧ Below W.heap.size W w') := hto
 clear hP hm hk hl hto
 have hs2 : ((w.alloc (.cells #[.int .i64 pl, .slice ta tn tc, .int .i64 gv, .func (.func fn) #[] fk, .slice pa us.length pc] 112)).alloc (.cells #[.int .i64 0, .int .i64 0, .string ⟨#[]⟩] 42)).heap.size = w.heap.size + 1 + 1 := by simp
 have HR0 : Hid (VRow (((w.alloc (.cells #[.int .i64 pl, .slice ta tn tc, .int .i64 gv, .func (.func fn) #[] fk, .slice pa us.length pc] 112)).alloc (.cells #[.int .i64 0, .int .i64 0, .string ⟨#[]⟩] 42)).alloc (.cells (madeCells #[.int .i64 0, .int .i64 0, .string ⟨#[]⟩] (us.length * 3)) 42)) (w.heap.size + 1 + 1) us.length xs 0) := by
   have := VRow.new ((w.alloc (.cells #[.int .i64 pl, .slice ta tn tc, .int .i64 gv, .func (.func fn) #[] fk, .slice pa us.length pc] 112)).alloc (.cells #[.int .i64 0, .int .i64 0, .string ⟨#[]⟩] 42)) us.length xs hm'
   rw [hs2] at this
   exact this
 have HQ0 : Hid (Own (((w.alloc (.cells #[.int .i64 pl, .slice ta tn tc, .int .i64 gv, .func (.func fn) #[] fk, .slice pa us.length pc] 112)).alloc (.cells #[.int .i64 0, .int .i64 0, .string ⟨#[]⟩] 42)).alloc (.cells (madeCells #[.int .i64 0, .int .i64 0, .string ⟨#[]⟩] (us.length * 3)) 42)) (w.heap.size + 1) 42 3 [.int .i64 0, .int .i64 0, .string ⟨#[]⟩]) := by
   have := (Own.new (w.alloc (.cells #[.int .i64 pl, .slice ta tn tc, .int .i64 gv, .func (.func fn) #[] fk, .slice pa us.length pc] 112)) 42 3 #[.int .i64 0, .int .i64 0, .string ⟨#[]⟩] rfl).later (xbel1 _ (.cells (madeCells #[.int .i64 0, .int .i64 0, .string ⟨#[]⟩] (us.length * 3)) 42))
   rw [show (w.alloc (.cells #[.int .i64 pl, .slice ta tn tc, .int .i64 gv, .func (.func fn) #[] fk, .slice pa us.length pc] 112)).heap.size = w.heap.size + 1 from by simp] at this
   exact this
 have HA0 : Hid (Own (((w.alloc (.cells #[.int .i64 pl, .slice ta tn tc, .int .i64 gv, .func (.func fn) #[] fk, .slice pa us.length pc] 112)).alloc (.cells #[.int .i64 0, .int .i64 0, .string ⟨#[]⟩] 42)).alloc (.cells (madeCells #[.int .i64 0, .int .i64 0, .string ⟨#[]⟩] (us.length * 3)) 42)) w.heap.size 112 5 [.int .i64 pl, .slice ta tn tc, .int .i64 gv, .func (.func fn) #[] fk, .slice pa us.length pc]) := ((Own.new w 112 5 #[.int .i64 pl, .slice ta tn tc, .int .i64 gv, .func (.func fn) #[] fk, .slice pa us.length pc] rfl).later (xbel1 _ _)).later (xbel1 _ _)
 have HB0 : Hid (Below w.heap.size w (((w.alloc (.cells #[.int .i64 pl, .slice ta tn tc, .int .i64 gv, .func (.func fn) #[] fk, .slice pa us.length pc] 112)).alloc (.cells #[.int .i64 0, .int .i64 0, .string ⟨#[]⟩] 42)).alloc (.cells (madeCells #[.int .i64 0, .int .i64 0, .string ⟨#[]⟩] (us.length * 3)) 42))) := ((xbel1 w _).alloc (by simp) _).alloc (by simp; omega) _
 go_enter Tryz.func237, Tryz.ntmps237
 go_wp2_with fail
 generalize (((w.alloc (.cells #[.int .i64 pl, .slice ta tn tc, .int .i64 gv, .func (.func fn) #[] fk, .slice pa us.length pc] 112)).alloc (.cells #[.int .i64 0, .int .i64 0, .string ⟨#[]⟩] 42)).alloc (.cells (madeCells #[.int .i64 0, .int .i64 0, .string ⟨#[]⟩] (us.length * 3)) 42)) = V0 at *
 go_loopw [17] (fun i w' => ∃ (k : Nat), k ≤ us.length ∧ i = .int .i64 k ∧ VRow w' (w.heap.size + 1 + 1) us.length xs k ∧ Own w' (w.heap.size + 1) 42 3 [.int .i64 0, .int .i64 0, .string ⟨#[]⟩] ∧ Own w' w.heap.size 112 5 [.int .i64 pl, .slice ta tn tc, .int .i64 gv, .func (.func fn) #[] fk, .slice pa us.length pc] ∧ Below w.heap.size w w') (fun i _ => us.length - (intOf i).toNat)
 case atStart => exact ⟨0, Nat.zero_le _, rfl, HR0.out, HQ0.out, HA0.out, HB0.out⟩
 case round =>
   obtain ⟨k, hk, rfl, hR, hQ, hA, hB⟩ := hrel
   have HR := Vc.hidMk hR
   have HQ := Vc.hidMk hQ
   have HA := Vc.hidMk hA
   have HB := Vc.hidMk hB
   clear hR hQ hA hB HR0 HQ0 HA0 HB0
   by_cases hlt : k < us.length
   · have hki : (k : Int) < (us.length : Int) := by omega
     have hxl : k < xs.length := by rw [HL.out]; exact hlt
     obtain ⟨t, p, g1, rc, hu, hme, hna, hen1, hca⟩ := HKD.out k hlt hxl
     have hcell : ∃ b, pa = some ⟨b, 0, none⟩ ∧ wr.cell? ⟨b, k, none⟩ = some (.iface t p) := by
       rcases HP.out with ⟨h1, h2⟩ | ⟨b, c', h1, h2, h3, h4, h5⟩
       · rw [h2] at hlt; exact absurd hlt (by simp)
       · cases h1
         exact ⟨b, rfl, by rw [← hu]; exact xcell HB.out (h5 _ hlt)⟩
     obtain ⟨b, rfl, hc1⟩ := hcell
     obtain ⟨xk, hxk⟩ : ∃ xk, xk = xs[k] := ⟨_, rfl⟩
     have HXK := Vc.hidMk hxk
     have HCA : Hid (∀ W, Below w.heap.size w W → Calls Tryz.prog g1 #[rc, cv, rv] W fun e w' => e = .returned (.agg #[.int .i64 xk.k, .int .i64 xk.n, .string xk.t]) ∧ Below W.heap.size W w') := fun W hW => by rw [hxk]; exact hca W hW
     clear hca hu hxk
     go_wp2_with fail
     refine (HCA.out _ HB.out).mono ?_
     rintro e w2 ⟨rfl, hb2⟩
     have HR2 := Vc.hidMk (HR.out.later hb2)
     have HQ2 := Vc.hidMk (HQ.out.later hb2)
     have HA2 := Vc.hidMk (HA.out.later hb2)
     have HB2 : Hid (Below w.heap.size w w2) := HB.out.trans (hb2.mono HB.out.size)
     obtain ⟨⟨v0, z0⟩, ⟨v1, z1⟩, ⟨v2, z2⟩⟩ := HR2.out.cells hlt
     have f0 := HR2.out.soft (k * 3)
     have f1 := HR2.out.soft (k * 3 + 1)
     have f2 := HR2.out.soft (k * 3 + 2)
     have hP := HR2.out.put hlt hxl
     rw [← HXK.out] at hP
     have HPU := Vc.hidMk hP
     clear hb2 HR HQ HA HB hP HCA
     go_wp2_with fail
     refine ⟨⟨k + 1, by omega, by first | rfl | (simp; done) | (simp; omega), HPU.out.1, HQ2.out.grown HPU.out.2 (by simp; try omega), HA2.out.grown HPU.out.2 (by simp; try omega), xbNew HB2.out HPU.out.2 (fun n hn => by cases hn; omega)⟩, by simp [intOf]; omega⟩
   · have hke : k = us.length := by omega
     subst hke
     have hnl : ¬ (us.length : Int) < (us.length : Int) := by omega
     have qa3 : wr.cell? ⟨w.heap.size, 3, none⟩ = some (.func (.func fn) #[] fk) := HA.out.cell 3 (by decide)
     have hen : ∀ (a : Array Value) (W : World), (callFunc fn a).run Tryz.prog W = .ok (.enter fn a) W := hent
     have HC : Hid (Calls Tryz.prog fn (#[.slice (some ⟨w.heap.size + 1 + 1, 0, none⟩) us.length us.length] ++ fk) wr fun e w' => e = .returned (.agg #[.int .i64 v.k, .int .i64 v.n, .string v.t]) ∧ Below wr.heap.size wr w') := by
       have := HTO.out wr (some ⟨w.heap.size + 1 + 1, 0, none⟩) us.length HB.out (HR.out.at HL.out)
       rw [HL.out] at this
       exact this
     clear HR HTO HKD HP
     go_wp2_with fail
     refine HC.out.mono ?_
     rintro e w2 ⟨rfl, hb2⟩
     have hO := HQ.out.later hb2
     have q0 : w2.cell? ⟨w.heap.size + 1, 0, none⟩ = some (.int .i64 0) := hO.cell 0 (by decide)
     have q1 : w2.cell? ⟨w.heap.size + 1, 1, none⟩ = some (.int .i64 0) := hO.cell 1 (by decide)
     have q2 : w2.cell? ⟨w.heap.size + 1, 2, none⟩ = some (.string ⟨#[]⟩) := hO.cell 2 (by decide)
     have qf0 : w2.frozen? ⟨w.heap.size + 1, 0, none⟩ = false := hO.soft 0
     have qf1 : w2.frozen? ⟨w.heap.size + 1, 1, none⟩ = false := hO.soft 1
     have qf2 : w2.frozen? ⟨w.heap.size + 1, 2, none⟩ = false := hO.soft 2
     have hl := hO.lt
     have HB2 : Hid (Below w.heap.size w w2) := HB.out.trans (hb2.mono HB.out.size)
     clear hb2 hO HQ HA HB HC
     go_wp2_with fail
     exact bodyPost_ret (v := .agg #[.int .i64 v.k, .int .i64 v.n, .string v.t]) (by simp [results, Tryz.results237, go_sem, q0, q1, q2, hl]; try rfl) rfl ⟨rfl, by repeat (first | exact HB2.out | refine Below.setCell ?_ (by simp) _)⟩
end Go.Proofs.YtckdmmfmnhcabaaGreatDoor
namespace Go.Proofs.YtckdmmfmnhcabaaGreatDoor
open Go.RowKit
set_option linter.unusedVariables false
set_option linter.unusedSimpArgs false
set_option maxRecDepth 100000

mutual
def LtX : X → Prop
 | .lit k n t => (k = 1 ∨ k = 2 ∨ k = 3) ∧ VK k ⟨k, n, t⟩
 | .col _ _ => True
 | .pre _ _ x => LtX x
 | .inf _ _ l r => LtX l ∧ LtX r
 | .app _ _ l => LtXs l
def LtXs : List X → Prop
 | [] => True
 | x :: l => LtX x ∧ LtXs l
end
theorem LtXs.snoc {x : X} (hx : LtX x) : ∀ {l : List X}, LtXs l → LtXs (l ++ [x])
 | [], _ => ⟨hx, trivial⟩
 | y :: l, h => ⟨h.1, LtXs.snoc hx h.2⟩
end Go.Proofs.YtckdmmfmnhcabaaGreatDoor
namespace Go.Proofs.YtckdmmfmnhcabaaGreatDoor
open Go.RowKit
set_option linter.unusedVariables false
set_option linter.unusedSimpArgs false
set_option maxRecDepth 100000

def KN (k : Int) : Prop := k = 1 ∨ k = 2 ∨ k = 3
theorem KN.ne {k : Int} (h : KN k) : k ≠ 0 := by rcases h with h | h | h <;> omega
def Both : List Int → List Vl → Prop
 | [], [] => True
 | k :: ks, v :: vs => (KN k ∧ VK k v) ∧ Both ks vs
 | _, _ => False
theorem Both.one {k : Int} {vs : List Vl} (h : Both [k] vs) : ∃ v, vs = [v] ∧ KN k ∧ VK k v := by
 match vs, h with
 | [v], h => exact ⟨v, rfl, h.1⟩
theorem Both.two {k k' : Int} {vs : List Vl} (h : Both [k, k'] vs) : ∃ v v', vs = [v, v'] ∧ (KN k ∧ VK k v) ∧ KN k' ∧ VK k' v' := by
 match vs, h with
 | [v, v'], h => exact ⟨v, v', rfl, h.1, h.2.1⟩
theorem Both.three {k k' k'' : Int} {vs : List Vl} (h : Both [k, k', k''] vs) : ∃ v v' v'', vs = [v, v', v''] ∧ (KN k ∧ VK k v) ∧ (KN k' ∧ VK k' v') ∧ KN k'' ∧ VK k'' v'' := by
 match vs, h with
 | [v, v', v''], h => exact ⟨v, v', v'', rfl, h.1, h.2.1, h.2.2.1⟩
theorem Both.len : ∀ {ks : List Int} {vs : List Vl}, Both ks vs → vs.length = ks.length
 | [], [], _ => rfl
 | k :: ks, v :: vs, h => by rw [List.length_cons, List.length_cons, Both.len h.2]
theorem Both.bounds : ∀ {ks : List Int} {vs : List Vl}, Both ks vs → ∀ v ∈ vs, (-9223372036854775808 ≤ v.n ∧ v.n ≤ 9223372036854775807) ∧ v.t.size ≤ 60
 | [], [], _, v, hv => by cases hv
 | k :: ks, x :: vs, h, v, hv => by
   rcases List.mem_cons.1 hv with rfl | hv
   · exact h.1.2.bounds
   · exact Both.bounds h.2 v hv
theorem kOf_len {o : List Int × Int} {ks : List Int} {r : Int} (h : kOf o ks = some r) : ks.length = o.1.length := by
 unfold kOf at h
 split at h
 · assumption
 · cases h
theorem kOf_gives {o : List Int × Int} {ks : List Int} {r : Int} (h : kOf o ks = some r) (ho : o.2 ≠ 0) : r = o.2 := by
 unfold kOf at h
 split at h
 · rw [Option.map_eq_some_iff] at h
   obtain ⟨m, _, h2⟩ := h
   first | exact h2.symm | (rw [if_neg ho] at h2; exact h2.symm)
 · cases h
theorem kOf_00 {k k' r : Int} (hk : k ≠ 0) (h : kOf ([0, 0], 0) [k, k'] = some r) : k' = k ∧ r = k := by
 simp [kOf, kLoop, kStep, hk] at h
 by_cases hk' : k' = k
 · simp [hk'] at h; exact ⟨hk', h.symm⟩
 · simp [hk'] at h
theorem kOf_if {k k' k'' r : Int} (hk : k' ≠ 0) (h : kOf ([2, 0, 0], 0) [k, k', k''] = some r) : k = 2 ∧ k'' = k' ∧ r = k' := by
 simp [kOf, kLoop, kStep, hk] at h
 by_cases h2 : k = 2
 · simp [h2, hk] at h
   by_cases hk' : k'' = k'
   · simp [hk'] at h; exact ⟨h2, hk', h.symm⟩
   · simp [hk'] at h
 · simp [h2] at h
theorem tmod_in {a b : Int} (hb : b ≠ 0) (h : -9223372036854775808 ≤ b ∧ b ≤ 9223372036854775807) : -9223372036854775808 ≤ a.tmod b ∧ a.tmod b ≤ 9223372036854775807 := by
 have h1 : (a.tmod b).natAbs < b.natAbs := by
   rw [Int.natAbs_tmod]
   exact Nat.mod_lt _ (Int.natAbs_pos.2 hb)
 omega
theorem vk_pre (s : ByteArray) (k r : Int) (x : Vl) (h : kOf (opPre s) [k] = some r) : KN r ∧ VK r (evPre s x) := by
 unfold opPre at h
 unfold evPre
 by_cases h1 : s = bNot
 · rw [if_pos h1] at h ⊢
   have := kOf_gives h (by decide)
   subst this
   exact ⟨.inr (.inl rfl), vk_str (vk_tru _)⟩
 · rw [if_neg h1] at h ⊢
   have := kOf_gives h (by decide)
   subst this
   exact ⟨.inl rfl, vk_str (vk_int (wrap_in _))⟩
theorem vk_inf (s : ByteArray) (k k' r : Int) (x y : Vl) (hy : VK k' y) (h : kOf (opInf s) [k, k'] = some r) : KN r ∧ VK r (evInf s x y) := by
 unfold opInf at h
 unfold evInf
 by_cases h1 : s = bOr
 · rw [if_pos (.inl h1)] at h
   have := kOf_gives h (by decide)
   subst this
   rw [if_pos h1]
   exact ⟨.inr (.inl rfl), vk_dec _ _⟩
 rw [if_neg h1]
 by_cases h2 : s = bAnd
 · rw [if_pos (.inr h2)] at h
   have := kOf_gives h (by decide)
   subst this
   rw [if_pos h2]
   exact ⟨.inr (.inl rfl), vk_dec _ _⟩
 rw [if_neg h2]
 rw [if_neg (by rintro (h | h) <;> contradiction)] at h
 by_cases h3 : s = bEq ∨ s = bNe ∨ s = bLt ∨ s = bLe ∨ s = bGt ∨ s = bGe
 · rw [if_pos h3] at h ⊢
   have := kOf_gives h (by decide)
   subst this
   exact ⟨.inr (.inl rfl), vk_str (vk_tru _)⟩
 rw [if_neg h3] at h ⊢
 by_cases h4 : s = bCat
 · rw [if_pos h4] at h ⊢
   have := kOf_gives h (by decide)
   subst this
   exact ⟨.inr (.inr rfl), vk_str (vk_txt (cutX_60 _))⟩
 rw [if_neg h4] at h ⊢
 have := kOf_gives h (by decide)
 subst this
 refine ⟨.inl rfl, ?_⟩
 split
 · exact vk_str (vk_int (wrap_in _))
 split
 · exact vk_str (vk_int (wrap_in _))
 split
 · exact vk_str (vk_int (wrap_in _))
 split
 · refine vk_str ?_
   split
   · exact vk_null 1
   · exact vk_int (wrap_in _)
 · refine vk_str ?_
   split
   · exact vk_null 1
   · rename_i hn
     exact vk_int (tmod_in hn hy.bounds.1)
theorem vk_app (s : ByteArray) {o : List Int × Int} (ho : opApp s = some o) {ks : List Int} {l : List Vl} (hb : Both ks l) {r : Int} (h : kOf o ks = some r) : KN r ∧ VK r (evApp s l) := by
 have hlen := kOf_len h
 unfold opApp at ho
 unfold evApp
 by_cases h1 : s = bLen
 · rw [if_pos h1] at ho ⊢
   cases ho
   have := kOf_gives h (by decide)
   subst this
   have hbd := hb.bounds
   have hl := hb.len
   refine ⟨.inl rfl, vk_str (vk_int ?_)⟩
   match l, hl.trans hlen, hbd with
   | [x], _, hbd => have := (hbd x (by simp)).2; simp only [List.getD_cons_zero]; omega
 rw [if_neg h1] at ho ⊢
 by_cases h2 : s = bAbs
 · rw [if_pos h2] at ho ⊢
   cases ho
   have := kOf_gives h (by decide)
   subst this
   have hbd := hb.bounds
   have hl := hb.len
   refine ⟨.inl rfl, vk_str (vk_int ?_)⟩
   match l, hl.trans hlen, hbd with
   | [x], _, hbd => have := (hbd x (by simp)).1; have := wrap_in (-x.n); simp only [List.getD_cons_zero]; omega
 rw [if_neg h2] at ho ⊢
 by_cases h3 : s = bCut
 · rw [if_pos h3] at ho ⊢
   cases ho
   have := kOf_gives h (by decide)
   subst this
   have hbd := hb.bounds
   have hl := hb.len
   refine ⟨.inr (.inr rfl), vk_str (vk_txt ?_)⟩
   match l, hl.trans hlen, hbd with
   | [x, y], _, hbd => have := (hbd x (by simp)).2; have := cutX_size x.t y.n; simp only [List.getD_cons_zero, List.getD_cons_succ]; omega
 rw [if_neg h3] at ho ⊢
 by_cases h4 : s = bIsnull
 · rw [if_pos h4] at ho ⊢
   cases ho
   have := kOf_gives h (by decide)
   subst this
   exact ⟨.inr (.inl rfl), vk_tru _⟩
 rw [if_neg h4] at ho ⊢
 by_cases h5 : s = bCoalesce
 · rw [if_pos h5] at ho ⊢
   cases ho
   match ks, hlen with
   | [k, k'], _ =>
     obtain ⟨x, y, rfl, ⟨a1, a2⟩, a3, a4⟩ := hb.two
     obtain ⟨e1, e2⟩ := kOf_00 a1.ne h
     subst e1 e2
     refine ⟨a1, ?_⟩
     simp only [List.getD_cons_zero, List.getD_cons_succ]
     split
     · exact a4
     · exact a2
 rw [if_neg h5] at ho ⊢
 by_cases h6 : s = bIf
 · rw [if_pos h6] at ho
   cases ho
   match ks, hlen with
   | [k, k', k''], _ =>
     obtain ⟨x, y, z, rfl, ⟨a1, a2⟩, ⟨a3, a4⟩, a5, a6⟩ := hb.three
     obtain ⟨e0, e1, e2⟩ := kOf_if a3.ne h
     subst e1 e2
     refine ⟨a3, ?_⟩
     simp only [List.getD_cons_zero, List.getD_cons_succ]
     split
     · exact a4
     · exact a6
 rw [if_neg h6] at ho
 cases ho
end Go.Proofs.YtckdmmfmnhcabaaGreatDoor
namespace Go.Proofs.YtckdmmfmnhcabaaGreatDoor
open Go.RowKit
set_option linter.unusedVariables false
set_option linter.unusedSimpArgs false
set_option maxRecDepth 100000

def Does (w : World) (f : Value) (l : List Vl) (v : Vl) (P : Prop) : Prop := ∃ n k, f = .func (.func n) #[] k ∧ Ent n ∧ (P → ∀ W a c, Below w.heap.size w W → VsAt W a l → Calls Tryz.prog n (#[.slice a l.length c] ++ k) W fun e w' => e = .returned (vV v) ∧ Below W.heap.size W w')
theorem does_or {w : World} {g : Nat} {c : Clo} {l : List Vl} {v : Vl} (hm : l.length ≤ maxLen) (hin : ∀ u, CloIs w g c u → Does w u l v (vNull ∉ l)) {f : Value} (h : CloIs w g (orN c) f) : Does w f l (strV l v) True := by
 obtain ⟨p, u, rfl, hp, hc, hu⟩ := h
 obtain ⟨n, k, rfl, he, hd⟩ := hin u hu
 refine ⟨_, _, rfl, xent Tryz.func156 (by kernel_rfl) (by rfl), fun _ W a c hW hV => ?_⟩
 exact orNull_any n he k v l a c p W hV hm (xcell hW hc) (fun hn W' hW' => hd hn W' a c (hW.trans (hW'.mono hW.size)) (hV.later hW'))
theorem does_raw {w : World} {g n : Nat} {l : List Vl} {v : Vl} {P : Prop} (m : Nat) (hlm : l.length = m) (he : Ent n) (h : P → ∀ W a c, VsAt W a l → Calls Tryz.prog n #[.slice a m c] W fun e w' => e = .returned (vV v) ∧ Below W.heap.size W w') {f : Value} (hf : CloIs w g (.raw n) f) : Does w f l v P := by
 subst hlm
 have hf' : f = .func (.func n) #[] #[] := hf
 refine ⟨n, #[], hf', he, fun hp W a c _ hV => ?_⟩
 rw [Array.append_empty]
 exact h hp W a c hV
theorem does_ari {w : World} {g : Nat} {c : Clo} {x y v : Vl} {P : Prop} (hin : ∀ u, CloIs w g c u → ∃ n k, u = .func (.func n) #[] k ∧ Ent n ∧ ∀ W, Below w.heap.size w W → Calls Tryz.prog n (#[.int .i64 x.n, .int .i64 y.n] ++ k) W fun e w' => e = .returned (vV v) ∧ Below W.heap.size W w') {f : Value} (h : CloIs w g (.one 157 c) f) : Does w f [x, y] v P := by
 obtain ⟨p, u, rfl, hp, hc, hu⟩ := h
 obtain ⟨n, k, rfl, he, hd⟩ := hin u hu
 refine ⟨_, _, rfl, xent Tryz.func157 (by kernel_rfl) (by rfl), fun _ W a c hW hV => ?_⟩
 exact arith_any n he k v x y a c p W hV (xcell hW hc) (fun W' hW' => hd W' (hW.trans (hW'.mono hW.size)))
theorem does_uz {w : World} {g n : Nat} (he : Ent n) (F : Int → Int → Int) {x y : Vl} {P : Prop} (hF : y.n ≠ 0 → ∀ W, Calls Tryz.prog n #[.int .i64 x.n, .int .i64 y.n] W fun e w' => e = .returned (.int .i64 (F x.n y.n)) ∧ w' = W) {f : Value} (h : CloIs w g (.one 157 (.one 158 (.raw n))) f) : Does w f [x, y] (if y.n = 0 then vNull else vInt (F x.n y.n)) P := by
 refine does_ari (fun u hu => ?_) h
 obtain ⟨p, u2, rfl, hp, hc, hu2⟩ := hu
 have hu3 : u2 = .func (.func n) #[] #[] := hu2
 subst hu3
 exact ⟨_, _, rfl, xent Tryz.func158 (by kernel_rfl) (by rfl), fun W hW => unless_any n he F x.n y.n p W (xcell hW hc) hF⟩
theorem does_cmp {w : World} {g n : Nat} (he : Ent n) (Q : Int → Bool) {x y : Vl} {P : Prop} (hF : ∀ o W, Calls Tryz.prog n #[.int .i64 o] W fun e w' => e = .returned (.bool (Q o)) ∧ w' = W) {f : Value} (h : CloIs w g (.one 154 (.raw n)) f) : Does w f [x, y] (vTru (Q (cmpVl x y))) P := by
 obtain ⟨p, u, rfl, hp, hc, hu⟩ := h
 have hu3 : u = .func (.func n) #[] #[] := hu
 subst hu3
 exact ⟨_, _, rfl, xent Tryz.func154 (by kernel_rfl) (by rfl), fun _ W a c hW hV => cmpC n he Q x y a c p W hV (xcell hW hc) hF⟩
theorem does_dec {w : World} {g : Nat} {B : Bool} {l : List Vl} (hm : l.length ≤ maxLen) {f : Value} (h : CloIs w g (.bool 151 B) f) : Does w f l (decV B l) True := by
 obtain ⟨p, rfl, hp, hc⟩ := h
 exact ⟨_, _, rfl, xent Tryz.func151 (by kernel_rfl) (by rfl), fun _ W a c hW hV => decF B l a c p W hV hm (xcell hW hc)⟩
end Go.Proofs.YtckdmmfmnhcabaaGreatDoor
namespace Go.Proofs.YtckdmmfmnhcabaaGreatDoor
open Go.RowKit
set_option linter.unusedVariables false
set_option linter.unusedSimpArgs false
set_option maxRecDepth 100000
theorem ent_infixOperation_1 : Ent 128 := fun a W => xent Tryz.func128 (by kernel_rfl) (by rfl) a W
theorem ent_infixOperation_2 : Ent 129 := fun a W => xent Tryz.func129 (by kernel_rfl) (by rfl) a W
theorem ent_infixOperation_3 : Ent 130 := fun a W => xent Tryz.func130 (by kernel_rfl) (by rfl) a W
theorem ent_infixOperation_4 : Ent 131 := fun a W => xent Tryz.func131 (by kernel_rfl) (by rfl) a W
theorem ent_infixOperation_5 : Ent 132 := fun a W => xent Tryz.func132 (by kernel_rfl) (by rfl) a W
theorem ent_infixOperation_6 : Ent 133 := fun a W => xent Tryz.func133 (by kernel_rfl) (by rfl) a W
theorem ent_infixOperation_7 : Ent 135 := fun a W => xent Tryz.func135 (by kernel_rfl) (by rfl) a W
theorem ent_infixOperation_8 : Ent 138 := fun a W => xent Tryz.func138 (by kernel_rfl) (by rfl) a W
theorem ent_infixOperation_9 : Ent 139 := fun a W => xent Tryz.func139 (by kernel_rfl) (by rfl) a W
theorem ent_infixOperation_10 : Ent 140 := fun a W => xent Tryz.func140 (by kernel_rfl) (by rfl) a W
theorem ent_infixOperation_11 : Ent 142 := fun a W => xent Tryz.func142 (by kernel_rfl) (by rfl) a W
theorem ent_infixOperation_12 : Ent 143 := fun a W => xent Tryz.func143 (by kernel_rfl) (by rfl) a W
theorem ent_prefixOperation_1 : Ent 169 := fun a W => xent Tryz.func169 (by kernel_rfl) (by rfl) a W
theorem ent_prefixOperation_2 : Ent 170 := fun a W => xent Tryz.func170 (by kernel_rfl) (by rfl) a W
theorem ent_function_1 : Ent 191 := fun a W => xent Tryz.func191 (by kernel_rfl) (by rfl) a W
theorem ent_function_2 : Ent 192 := fun a W => xent Tryz.func192 (by kernel_rfl) (by rfl) a W
theorem ent_function_3 : Ent 193 := fun a W => xent Tryz.func193 (by kernel_rfl) (by rfl) a W
theorem ent_function_4 : Ent 194 := fun a W => xent Tryz.func194 (by kernel_rfl) (by rfl) a W
theorem ent_function_5 : Ent 195 := fun a W => xent Tryz.func195 (by kernel_rfl) (by rfl) a W
theorem ent_function_6 : Ent 196 := fun a W => xent Tryz.func196 (by kernel_rfl) (by rfl) a W
set_option maxHeartbeats 1000000 in
theorem does_inf {w : World} {g : Nat} (s : ByteArray) {x y : Vl} {kx ky : Int} (hx : VK kx x) (hy : VK ky y) {f : Value} (h : CloIs w g (toInf s) f) : Does w f [x, y] (evInf s x y) True := by
 have bx := hx.bounds
 have by' := hy.bounds
 have hm : [x, y].length ≤ maxLen := by unfold maxLen; simp
 unfold toInf at h
 unfold evInf
 by_cases h1 : s = bOr
 · rw [if_pos h1] at h ⊢; exact does_dec hm h
 rw [if_neg h1] at h ⊢
 by_cases h2 : s = bAnd
 · rw [if_pos h2] at h ⊢; exact does_dec hm h
 rw [if_neg h2] at h ⊢
 by_cases hc1 : s = bEq
 · have hc := hc1
   rw [if_pos hc] at h
   rw [if_pos (.inl hc)]
   have hw : wantO s = fun o => decide (o = 0) := by
     funext o
     unfold wantO
     rw [if_pos hc]
   rw [hw]
   exact does_or hm (fun u hu => does_cmp ent_infixOperation_1 (fun o => decide (o = 0)) cmpF1 hu) h
 rw [if_neg hc1] at h
 by_cases hc2 : s = bNe
 · have hc := hc2
   rw [if_pos hc] at h
   rw [if_pos (.inr (.inl hc))]
   have hw : wantO s = fun o => decide (o ≠ 0) := by
     funext o
     unfold wantO
     rw [if_neg hc1, if_pos hc]
   rw [hw]
   exact does_or hm (fun u hu => does_cmp ent_infixOperation_2 (fun o => decide (o ≠ 0)) cmpF2 hu) h
 rw [if_neg hc2] at h
 by_cases hc3 : s = bLt
 · have hc := hc3
   rw [if_pos hc] at h
   rw [if_pos (.inr (.inr (.inl hc)))]
   have hw : wantO s = fun o => decide (o < 0) := by
     funext o
     unfold wantO
     rw [if_neg hc1, if_neg hc2, if_pos hc]
   rw [hw]
   exact does_or hm (fun u hu => does_cmp ent_infixOperation_3 (fun o => decide (o < 0)) cmpF3 hu) h
 rw [if_neg hc3] at h
 by_cases hc4 : s = bLe
 · have hc := hc4
   rw [if_pos hc] at h
   rw [if_pos (.inr (.inr (.inr (.inl hc))))]
   have hw : wantO s = fun o => decide (o ≤ 0) := by
     funext o
     unfold wantO
     rw [if_neg hc1, if_neg hc2, if_neg hc3, if_pos hc]
   rw [hw]
   exact does_or hm (fun u hu => does_cmp ent_infixOperation_4 (fun o => decide (o ≤ 0)) cmpF4 hu) h
 rw [if_neg hc4] at h
 by_cases hc5 : s = bGt
 · have hc := hc5
   rw [if_pos hc] at h
   rw [if_pos (.inr (.inr (.inr (.inr (.inl hc)))))]
   have hw : wantO s = fun o => decide (0 < o) := by
     funext o
     unfold wantO
     rw [if_neg hc1, if_neg hc2, if_neg hc3, if_neg hc4, if_pos hc]
   rw [hw]
   exact does_or hm (fun u hu => does_cmp ent_infixOperation_5 (fun o => decide (0 < o)) cmpF5 hu) h
 rw [if_neg hc5] at h
 by_cases hc6 : s = bGe
 · have hc := hc6
   rw [if_pos hc] at h
   rw [if_pos (.inr (.inr (.inr (.inr (.inr hc)))))]
   have hw : wantO s = fun o => decide (0 ≤ o) := by
     funext o
     unfold wantO
     rw [if_neg hc1, if_neg hc2, if_neg hc3, if_neg hc4, if_neg hc5]
   rw [hw]
   exact does_or hm (fun u hu => does_cmp ent_infixOperation_6 (fun o => decide (0 ≤ o)) cmpF6 hu) h
 rw [if_neg hc6] at h
 rw [if_neg (by rintro (h | h | h | h | h | h) <;> contradiction)]
 by_cases h3 : s = bCat
 · rw [if_pos h3] at h ⊢
   exact does_or hm (fun u hu => does_raw 2 rfl ent_infixOperation_7 (fun _ W a c hV => catF x y a c W hV (by omega) (by omega)) hu) h
 rw [if_neg h3] at h ⊢
 by_cases h8 : s = bPlus
 · rw [if_pos h8] at h ⊢
   exact does_or hm (fun u hu => does_ari (c := .raw 138) (fun u2 hu2 => ⟨138, #[], hu2, ent_infixOperation_8, fun W _ => by rw [Array.append_empty]; exact addF x.n y.n W⟩) hu) h
 rw [if_neg h8] at h ⊢
 by_cases h9 : s = bMinus
 · rw [if_pos h9] at h ⊢
   exact does_or hm (fun u hu => does_ari (c := .raw 139) (fun u2 hu2 => ⟨139, #[], hu2, ent_infixOperation_9, fun W _ => by rw [Array.append_empty]; exact subF x.n y.n W⟩) hu) h
 rw [if_neg h9] at h ⊢
 by_cases h10 : s = bMul
 · rw [if_pos h10] at h ⊢
   exact does_or hm (fun u hu => does_ari (c := .raw 140) (fun u2 hu2 => ⟨140, #[], hu2, ent_infixOperation_10, fun W _ => by rw [Array.append_empty]; exact mulF x.n y.n W⟩) hu) h
 rw [if_neg h10] at h ⊢
 by_cases h11 : s = bDiv
 · rw [if_pos h11] at h ⊢
   exact does_or hm (fun u hu => does_uz ent_infixOperation_11 (fun a b => wrap64 (a.tdiv b)) (fun hb W => quoF x.n y.n W hb) hu) h
 rw [if_neg h11] at h ⊢
 exact does_or hm (fun u hu => does_uz ent_infixOperation_12 (fun a b => a.tmod b) (fun hb W => remF x.n y.n W hb) hu) h
theorem does_pre {w : World} {g : Nat} (s : ByteArray) {x : Vl} {f : Value} (h : CloIs w g (toPre s) f) : Does w f [x] (evPre s x) True := by
 have hm : [x].length ≤ maxLen := by unfold maxLen; simp
 unfold toPre at h
 unfold evPre
 by_cases h1 : s = bNot
 · rw [if_pos h1] at h ⊢
   exact does_or hm (fun u hu => does_raw 1 rfl ent_prefixOperation_1 (fun _ W a c hV => notF x a c W hV) hu) h
 rw [if_neg h1] at h ⊢
 exact does_or hm (fun u hu => does_raw 1 rfl ent_prefixOperation_2 (fun _ W a c hV => negF x a c W hV) hu) h
theorem len1 {l : List Vl} (h : l.length = 1) : ∃ x, l = [x] := by
 match l, h with
 | [x], _ => exact ⟨x, rfl⟩
theorem len2 {l : List Vl} (h : l.length = 2) : ∃ x y, l = [x, y] := by
 match l, h with
 | [x, y], _ => exact ⟨x, y, rfl⟩
theorem len3 {l : List Vl} (h : l.length = 3) : ∃ x y z, l = [x, y, z] := by
 match l, h with
 | [x, y, z], _ => exact ⟨x, y, z, rfl⟩
theorem does_app {w : World} {g : Nat} (s : ByteArray) {o : List Int × Int} (ho : opApp s = some o) {l : List Vl} (hl : l.length = o.1.length) (hb : ∀ v ∈ l, (-9223372036854775808 ≤ v.n ∧ v.n ≤ 9223372036854775807) ∧ v.t.size ≤ 60) {f : Value} (h : CloIs w g (toApp s) f) : Does w f l (evApp s l) True := by
 unfold toApp at h
 unfold evApp
 unfold opApp at ho
 by_cases h1 : s = bLen
 · rw [if_pos h1] at h ho ⊢
   cases ho
   obtain ⟨x, rfl⟩ := len1 hl
   have hm : [x].length ≤ maxLen := by unfold maxLen; simp
   exact does_or hm (fun u hu => does_raw 1 rfl ent_function_1 (fun _ W a c hV => lenF x a c W hV) hu) h
 rw [if_neg h1] at h ho ⊢
 by_cases h2 : s = bAbs
 · rw [if_pos h2] at h ho ⊢
   cases ho
   obtain ⟨x, rfl⟩ := len1 hl
   have hm : [x].length ≤ maxLen := by unfold maxLen; simp
   exact does_or hm (fun u hu => does_raw 1 rfl ent_function_2 (fun _ W a c hV => absF x a c W hV) hu) h
 rw [if_neg h2] at h ho ⊢
 by_cases h3 : s = bCut
 · rw [if_pos h3] at h ho ⊢
   cases ho
   obtain ⟨x, y, rfl⟩ := len2 hl
   have hm : [x, y].length ≤ maxLen := by unfold maxLen; simp
   exact does_or hm (fun u hu => does_raw 2 rfl ent_function_3 (fun _ W a c hV => cutF x y a c W hV (by have := (hb x (by simp)).2; omega) (hb y (by simp)).1) hu) h
 rw [if_neg h3] at h ho ⊢
 by_cases h4 : s = bIsnull
 · rw [if_pos h4] at h ho ⊢
   cases ho
   obtain ⟨x, rfl⟩ := len1 hl
   have hm : [x].length ≤ maxLen := by unfold maxLen; simp
   exact does_raw 1 rfl ent_function_4 (fun _ W a c hV => isnullF [x] a c W hV hm) h
 rw [if_neg h4] at h ho ⊢
 by_cases h5 : s = bCoalesce
 · rw [if_pos h5] at h ho ⊢
   cases ho
   obtain ⟨x, y, rfl⟩ := len2 hl
   have hm : [x, y].length ≤ maxLen := by unfold maxLen; simp
   exact does_raw 2 rfl ent_function_5 (fun _ W a c hV => coalF x y a c W hV) h
 rw [if_neg h5] at h ho ⊢
 by_cases h6 : s = bIf
 · rw [if_pos h6] at ho
   cases ho
   obtain ⟨x, y, z, rfl⟩ := len3 hl
   exact does_raw 3 rfl ent_function_6 (fun _ W a c hV => ifF x y z a c W hV) h
 rw [if_neg h6] at ho
 cases ho
end Go.Proofs.YtckdmmfmnhcabaaGreatDoor
namespace Go.Proofs.YtckdmmfmnhcabaaGreatDoor
open Go.RowKit
set_option linter.unusedVariables false
set_option linter.unusedSimpArgs false
set_option maxRecDepth 100000

structure Fit (c : List Co) (vs : List Vl) : Prop where
 len : vs.length = c.length
 kn : ∀ x ∈ c, KN x.k
 val : ∀ i (h : i < vs.length) (h' : i < c.length), VK c[i].k vs[i]
theorem bind_ok {α β : Type} {x : Except Flt α} {f : α → Except Flt β} {r : β} (h : x.bind f = .ok r) : ∃ a, x = .ok a ∧ f a = .ok r := by
 cases x with
 | ok a => exact ⟨a, rfl, h⟩
 | error e => cases h
theorem orFlt_ok {pl : Nat} {o : Option Int} {r : Int} (h : orFlt pl o = .ok r) : o = some r := by
 cases o with
 | some a => cases h; rfl
 | none => cases h
theorem col_at {c : List Co} {pl : Nat} {nm : ByteArray} {k : Int} (h : kindX c (.col pl nm) = .ok k) : ∃ j, ∃ hj : j < c.length, colIx c nm = some j ∧ c[j].k = k := by
 rw [kindX] at h
 cases hx : colIx c nm with
 | none => rw [hx] at h; simp at h
 | some j =>
   have hj : j < c.length := by
     unfold colIx at hx
     rw [List.findIdx?_eq_some_iff_getElem] at hx
     exact hx.1
   rw [hx] at h
   simp [hj] at h
   exact ⟨j, hj, rfl, h⟩
mutual
theorem evX_vk (c : List Co) (vs : List Vl) (hf : Fit c vs) : ∀ (x : X) (k : Int), kindX c x = .ok k → LtX x → KN k ∧ VK k (evX c vs x)
 | .lit k n t, k', h, hl => by
   rw [kindX] at h
   cases h
   rw [evX]
   exact hl
 | .col pl nm, k, h, hl => by
   obtain ⟨j, hj, hx, rfl⟩ := col_at h
   have hj2 : j < vs.length := by rw [hf.len]; exact hj
   refine ⟨hf.kn _ (List.getElem_mem hj), ?_⟩
   rw [evX, hx, Option.getD_some, show vs.getD j vNull = vs[j] from by simp [List.getD, hj2]]
   exact hf.val j hj2 hj
 | .pre pl s x, k, h, hl => by
   rw [kindX] at h
   obtain ⟨k0, h0, h1⟩ := bind_ok h
   rw [evX]
   exact vk_pre s k0 k _ (orFlt_ok h1)
 | .inf pl s l r, k, h, hl => by
   rw [kindX] at h
   obtain ⟨k0, h0, h1⟩ := bind_ok h
   obtain ⟨k1, h2, h3⟩ := bind_ok h1
   rw [evX]
   exact vk_inf s k0 k1 k _ _ (evX_vk c vs hf r k1 h2 hl.2).2 (orFlt_ok h3)
 | .app pl nm l, k, h, hl => by
   rw [kindX] at h
   cases ho : opApp nm with
   | none => rw [ho] at h; cases h
   | some o =>
     rw [ho] at h
     obtain ⟨ks, h0, h1⟩ := bind_ok h
     rw [evX]
     exact vk_app nm ho (evXs_vk c vs hf l ks h0 hl) (orFlt_ok h1)
theorem evXs_vk (c : List Co) (vs : List Vl) (hf : Fit c vs) : ∀ (l : List X) (ks : List Int), kindsX c l = .ok ks → LtXs l → Both ks (evXs c vs l)
 | [], ks, h, hl => by
   rw [kindsX] at h
   cases h
   rw [evXs]
   exact trivial
 | x :: l, ks, h, hl => by
   rw [kindsX] at h
   obtain ⟨k0, h0, h1⟩ := bind_ok h
   obtain ⟨k1, h2, h3⟩ := bind_ok h1
   cases h3
   rw [evXs]
   exact ⟨evX_vk c vs hf x k0 h0 hl.1, evXs_vk c vs hf l k1 h2 hl.2⟩
end
theorem evXs_len (c : List Co) (vs : List Vl) : ∀ l : List X, (evXs c vs l).length = l.length
 | [] => by rw [evXs]; rfl
 | x :: l => by rw [evXs, List.length_cons, List.length_cons, evXs_len c vs l]
theorem ent_vlit : Ent 232 := fun a W => xent Tryz.func232 (by kernel_rfl) (by rfl) a W
theorem ent_vcol : Ent 234 := fun a W => xent Tryz.func234 (by kernel_rfl) (by rfl) a W
theorem ent_vapp : Ent 237 := fun a W => xent Tryz.func237 (by kernel_rfl) (by rfl) a W
theorem Does.at {w w' : World} {f : Value} {l : List Vl} {v : Vl} (h : Does w f l v True) (hb : Below w.heap.size w w') : Does w' f l v True := by
 obtain ⟨n, k, h1, h2, h3⟩ := h
 exact ⟨n, k, h1, h2, fun ht W a c hW hV => h3 ht W a c (hb.trans (hW.mono hb.size)) hV⟩
mutual
theorem value_nd (c : List Co) (a : Option Addr) (cc : Nat) (hm : c.length ≤ maxLen) (vs : List Vl) (ra : Option Addr) (rc : Nat) (hm2 : vs.length ≤ maxLen) (hf : Fit c vs) (w : World) (g : Nat) (hc : ColsAt w a c) (hv : VsAt w ra vs) : ∀ (x : X) (v : Value) (k : Int), Nd w g x v → szX x ≤ 200 → kindX c x = .ok k → LtX x → VD w v (.slice a c.length cc) (.slice ra vs.length rc) (evX c vs x)
 | .lit k n t, v, k', h, _, hk, hl => by
   rw [Nd] at h
   rw [evX]
   exact ⟨_, _, _, _, h, fun W => by kernel_rfl, fun W => by kernel_rfl, ent_vlit, fun W hW => value_lit k n t _ _ W⟩
 | .col pl nm, v, k, h, _, hk, hl => by
   rw [Nd] at h
   obtain ⟨j, hj, hx, rfl⟩ := col_at hk
   have hj2 : j < vs.length := by rw [hf.len]; exact hj
   rw [evX, hx, Option.getD_some, show vs.getD j vNull = vs[j] from by simp [List.getD, hj2]]
   exact ⟨_, _, _, _, h, fun W => by kernel_rfl, fun W => by kernel_rfl, ent_vcol, fun W hW => value_col c vs pl j nm a cc ra rc W (hc.later hW) hm (hv.later hW) hm2 hx hj2⟩
 | .pre pl s x, v, k, h, hs, hk, hl => by
   rw [Nd] at h
   obtain ⟨tk, f, ps, u, h1, h2, h3, h4, h5⟩ := h
   rw [szX] at hs
   rw [kindX] at hk
   obtain ⟨k0, hk0, hk1⟩ := bind_ok hk
   have ih := value_nd c a cc hm vs ra rc hm2 hf w g hc hv x u k0 h5 (by omega) hk0 hl
   obtain ⟨ta, tn, tc, rfl⟩ := h2.form
   obtain ⟨pa, pn, pc, rfl⟩ := h4.form
   obtain ⟨n, kk, rfl, hen, hdo⟩ := does_pre s (x := evX c vs x) h3
   rw [evX]
   refine ⟨_, _, _, .agg #[.int .i64 pl, .slice ta tn tc, .int .i64 (opPre s).2, .func (.func n) #[] kk, .slice pa pn pc], h1, fun W => by kernel_rfl, fun W => by kernel_rfl, ent_vapp, fun W hW => ?_⟩
   exact value_app pl (opPre s).2 n hen kk ta _ tc pa _ pc [u] _ _ g W (h4.later hW) (by simp) [evX c vs x] rfl (fun i hi => by
     obtain rfl : i = 0 := by simp at hi; exact hi
     exact ih.later hW) _ (fun W' a' c' hW' hV => hdo trivial W' a' c' (hW.trans (hW'.mono hW.size)) hV)
 | .inf pl s l r, v, k, h, hs, hk, hl => by
   rw [Nd] at h
   obtain ⟨tk, f, ps, u, u', h1, h0, h2, h3, h4, h5, h6⟩ := h
   rw [szX] at hs
   rw [kindX] at hk
   obtain ⟨k0, hk0, hk1⟩ := bind_ok hk
   obtain ⟨k1, hk2, hk3⟩ := bind_ok hk1
   have ih := value_nd c a cc hm vs ra rc hm2 hf w g hc hv l u k0 h5 (by omega) hk0 hl.1
   have ih' := value_nd c a cc hm vs ra rc hm2 hf w g hc hv r u' k1 h6 (by omega) hk2 hl.2
   have v0 := (evX_vk c vs hf l k0 hk0 hl.1).2
   have v1 := (evX_vk c vs hf r k1 hk2 hl.2).2
   obtain ⟨ta, tn, tc, rfl⟩ := h2.form
   obtain ⟨pa, pn, pc, rfl⟩ := h4.form
   obtain ⟨n, kk, rfl, hen, hdo⟩ := does_inf s v0 v1 h3
   rw [evX]
   refine ⟨_, _, _, .agg #[.int .i64 pl, .slice ta tn tc, .int .i64 (opInf s).2, .func (.func n) #[] kk, .slice pa pn pc], h1, fun W => by kernel_rfl, fun W => by kernel_rfl, ent_vapp, fun W hW => ?_⟩
   exact value_app pl (opInf s).2 n hen kk ta _ tc pa _ pc [u, u'] _ _ g W (h4.later hW) (by simp) [evX c vs l, evX c vs r] rfl (fun i hi => by
     match i, hi with
     | 0, _ => exact ih.later hW
     | 1, _ => exact ih'.later hW
     | i + 2, h => exact absurd h (by simp)) _ (fun W' a' c' hW' hV => hdo trivial W' a' c' (hW.trans (hW'.mono hW.size)) hV)
 | .app pl nm l, v, k, h, hs, hk, hl => by
   rw [Nd] at h
   obtain ⟨tk, gv, f, ps, us, h1, h2, h3, h4, -, -⟩ := h
   rw [szX] at hs
   rw [kindX] at hk
   cases ho : opApp nm with
   | none => rw [ho] at hk; cases hk
   | some o =>
     rw [ho] at hk
     obtain ⟨ks, hk0, hk1⟩ := bind_ok hk
     obtain ⟨rfl, h5, h6⟩ := h2 o ho
     have hb := evXs_vk c vs hf l ks hk0 hl
     obtain ⟨ta, tn, tc, rfl⟩ := h5.form
     obtain ⟨pa, pn, pc, rfl⟩ := h3.form
     obtain ⟨n, kk, rfl, hen, hdo⟩ := does_app nm ho (l := evXs c vs l) (hb.len.trans (kOf_len (orFlt_ok hk1))) hb.bounds h6
     have hlen := h4.length
     have hsz := szXs_len l
     have hel := evXs_len c vs l
     rw [ho] at h1
     rw [evX]
     refine ⟨_, _, _, .agg #[.int .i64 pl, .slice ta tn tc, .int .i64 o.2, .func (.func n) #[] kk, .slice pa pn pc], h1, fun W => by kernel_rfl, fun W => by kernel_rfl, ent_vapp, fun W hW => ?_⟩
     have ih := value_nds c a cc hm vs ra rc hm2 hf w g hc hv l us ks h4 (by omega) hk0 hl
     exact value_app pl o.2 n hen kk ta _ tc pa _ pc us _ _ g W (h3.later hW) (by omega) (evXs c vs l) (by rw [hel, hlen]) (fun i hi => (ih i hi (by rw [hel, ← hlen]; exact hi)).later hW) _ (fun W' a' c' hW' hV => hdo trivial W' a' c' (hW.trans (hW'.mono hW.size)) hV)
theorem value_nds (c : List Co) (a : Option Addr) (cc : Nat) (hm : c.length ≤ maxLen) (vs : List Vl) (ra : Option Addr) (rc : Nat) (hm2 : vs.length ≤ maxLen) (hf : Fit c vs) (w : World) (g : Nat) (hc : ColsAt w a c) (hv : VsAt w ra vs) : ∀ (l : List X) (us : List Value) (ks : List Int), Nds w g l us → szXs l ≤ 200 → kindsX c l = .ok ks → LtXs l → ∀ i (h : i < us.length) (h' : i < (evXs c vs l).length), VD w us[i] (.slice a c.length cc) (.slice ra vs.length rc) (evXs c vs l)[i]
 | [], us, ks, h, _, _, _ => by
   rw [Nds] at h
   subst h
   intro i h; exact absurd h (by simp)
 | x :: l, us, ks, h, hs, hk, hl => by
   rw [Nds] at h
   obtain ⟨u, us', rfl, h2, h3⟩ := h
   rw [szXs] at hs
   rw [kindsX] at hk
   obtain ⟨k0, hk0, hk1⟩ := bind_ok hk
   obtain ⟨k1, hk2, hk3⟩ := bind_ok hk1
   have ih := value_nd c a cc hm vs ra rc hm2 hf w g hc hv x u k0 h2 (by omega) hk0 hl.1
   have ihs := value_nds c a cc hm vs ra rc hm2 hf w g hc hv l us' k1 h3 (by omega) hk2 hl.2
   intro i h h'
   match i, h with
   | 0, _ => simp only [evXs, List.getElem_cons_zero]; exact ih
   | i + 1, h => simp only [evXs, List.getElem_cons_succ]; exact ihs i (by simpa using h) (by simpa [evXs] using h')
end
end Go.Proofs.YtckdmmfmnhcabaaGreatDoor
namespace Go.Proofs.YtckdmmfmnhcabaaGreatDoor
open Go.RowKit
set_option linter.unusedVariables false
set_option linter.unusedSimpArgs false
set_option maxRecDepth 100000

set_option maxHeartbeats 2000000 in
theorem eval1_bad (s : ByteArray) (a : Option Addr) (n cc : Nat) (b b1 b2 b3 : Nat) (f : Flt) (W : World) (h0 : W.cell? ⟨b, 0, none⟩ = some (.string s)) (h1 : W.cell? ⟨b1, 0, none⟩ = some (.slice a n cc))
   (hc : Calls Tryz.prog 19 #[.string s, .slice a n cc] W fun e w' => Below W.heap.size W w' ∧ e = .panicked [{ v := fltV f.pl f.why, recovered := false }]) :
   Calls Tryz.prog 31 #[.pointer (some ⟨b, 0, none⟩), .pointer (some ⟨b1, 0, none⟩), .pointer (some ⟨b2, 0, none⟩), .pointer (some ⟨b3, 0, none⟩)] W fun e w' => e = .panicked [{ v := fltV f.pl f.why, recovered := false }] ∧ Below W.heap.size W w' := by
 have HC : Hid (Calls Tryz.prog 19 #[.string s, .slice a n cc] W fun e w' => Below W.heap.size W w' ∧ e = .panicked [{ v := fltV f.pl f.why, recovered := false }]) := hc
 clear hc
 go_enter Tryz.func31, Tryz.ntmps31
 go_wp2_with fail
 refine HC.out.mono ?_
 rintro e w2 ⟨hb2, rfl⟩
 first | exact ⟨rfl, hb2⟩ | exact ⟨rfl, rfl, hb2⟩
set_option maxHeartbeats 2000000 in
theorem eval1_unfit (s : ByteArray) (a : Option Addr) (n cc : Nat) (ra : Option Addr) (rn rc : Nat) (b b1 b2 b3 : Nat) (k : Int) (W : World) (h0 : W.cell? ⟨b, 0, none⟩ = some (.string s)) (h1 : W.cell? ⟨b1, 0, none⟩ = some (.slice a n cc)) (h2 : W.cell? ⟨b2, 0, none⟩ = some (.slice ra rn rc))
   (hc : Calls Tryz.prog 19 #[.string s, .slice a n cc] W fun e w' => Below W.heap.size W w' ∧ ∃ t p, e = .returned (.tuple #[.iface t p, .int .i64 k]))
   (hft : ∀ W', Below W.heap.size W W' → Calls Tryz.prog 32 #[.slice ra rn rc, .slice a n cc] W' fun e w' => e = .returned (.bool false) ∧ Below W'.heap.size W' w') :
   Calls Tryz.prog 31 #[.pointer (some ⟨b, 0, none⟩), .pointer (some ⟨b1, 0, none⟩), .pointer (some ⟨b2, 0, none⟩), .pointer (some ⟨b3, 0, none⟩)] W fun e w' => e = .panicked [{ v := fltV 0 4, recovered := false }] ∧ Below W.heap.size W w' := by
 have HC : Hid (Calls Tryz.prog 19 #[.string s, .slice a n cc] W fun e w' => Below W.heap.size W w' ∧ ∃ t p, e = .returned (.tuple #[.iface t p, .int .i64 k])) := hc
 have HF : Hid (∀ W', Below W.heap.size W W' → Calls Tryz.prog 32 #[.slice ra rn rc, .slice a n cc] W' fun e w' => e = .returned (.bool false) ∧ Below W'.heap.size W' w') := hft
 clear hc hft
 go_enter Tryz.func31, Tryz.ntmps31
 go_wp2_with fail
 refine HC.out.mono ?_
 rintro e w2 ⟨hb2, t, p, rfl⟩
 have HB2 := Vc.hidMk hb2
 replace h1 := xcell hb2 h1
 replace h2 := xcell hb2 h2
 clear hb2 HC
 go_wp2_with fail
 refine (HF.out _ HB2.out).mono ?_
 rintro e w3 ⟨rfl, hb3⟩
 have F3 : Hid (Below W.heap.size W w3) := HB2.out.trans (hb3.mono HB2.out.size)
 clear hb3 HB2 HF
 go_wp2_with fail
 first | exact ⟨rfl, F3.out⟩ | exact ⟨rfl, rfl, F3.out⟩
set_option maxHeartbeats 2000000 in
theorem eval1_ok (s : ByteArray) (a : Option Addr) (n cc : Nat) (ra : Option Addr) (rn rc : Nat) (b b1 b2 b3 : Nat) (k : Int) (v : Vl) (W : World) (h0 : W.cell? ⟨b, 0, none⟩ = some (.string s)) (h1 : W.cell? ⟨b1, 0, none⟩ = some (.slice a n cc)) (h2 : W.cell? ⟨b2, 0, none⟩ = some (.slice ra rn rc)) (h3 : Own W b3 42 3 [.int .i64 0, .int .i64 0, .string ⟨#[]⟩])
   (hc : Calls Tryz.prog 19 #[.string s, .slice a n cc] W fun e w' => Below W.heap.size W w' ∧ ∃ t p, e = .returned (.tuple #[.iface t p, .int .i64 k]) ∧ VD w' (.iface t p) (.slice a n cc) (.slice ra rn rc) v)
   (hft : ∀ W', Below W.heap.size W W' → Calls Tryz.prog 32 #[.slice ra rn rc, .slice a n cc] W' fun e w' => e = .returned (.bool true) ∧ Below W'.heap.size W' w') :
   Calls Tryz.prog 31 #[.pointer (some ⟨b, 0, none⟩), .pointer (some ⟨b1, 0, none⟩), .pointer (some ⟨b2, 0, none⟩), .pointer (some ⟨b3, 0, none⟩)] W fun e w' => e = .returned (.tuple #[]) ∧ W.grownBy w' (some b3) ∧ Own w' b3 42 3 [.int .i64 v.k, .int .i64 v.n, .string v.t] := by
 have HC : Hid (Calls Tryz.prog 19 #[.string s, .slice a n cc] W fun e w' => Below W.heap.size W w' ∧ ∃ t p, e = .returned (.tuple #[.iface t p, .int .i64 k]) ∧ VD w' (.iface t p) (.slice a n cc) (.slice ra rn rc) v) := hc
 have HF : Hid (∀ W', Below W.heap.size W W' → Calls Tryz.prog 32 #[.slice ra rn rc, .slice a n cc] W' fun e w' => e = .returned (.bool true) ∧ Below W'.heap.size W' w') := hft
 have HO := Vc.hidMk h3
 clear hc hft h3
 go_enter Tryz.func31, Tryz.ntmps31
 go_wp2_with fail
 refine HC.out.mono ?_
 rintro e w2 ⟨hb2, t, p, rfl, hvd⟩
 have HB2 := Vc.hidMk hb2
 have HO2 := Vc.hidMk (HO.out.later hb2)
 replace h1 := xcell hb2 h1
 replace h2 := xcell hb2 h2
 obtain ⟨t', p', fn, rcv, hv, hme, hna, hent, hca⟩ := hvd
 cases hv
 have HCA : Hid (∀ W', Below w2.heap.size w2 W' → Calls Tryz.prog fn #[rcv, .slice a n cc, .slice ra rn rc] W' fun e w' => e = .returned (.agg #[.int .i64 v.k, .int .i64 v.n, .string v.t]) ∧ Below W'.heap.size W' w') := hca
 clear hb2 HC HO hca
 go_wp2_with fail
 refine (HF.out _ HB2.out).mono ?_
 rintro e w3 ⟨rfl, hb3⟩
 have HB3 : Hid (Below W.heap.size W w3) := HB2.out.trans (hb3.mono HB2.out.size)
 have HO3 := Vc.hidMk (HO2.out.later hb3)
 have HB23 := Vc.hidMk hb3
 replace h1 := xcell hb3 h1
 replace h2 := xcell hb3 h2
 clear hb3 HB2 HF HO2
 go_wp2_with fail
 refine (HCA.out _ HB23.out).mono ?_
 rintro e w4 ⟨rfl, hb4⟩
 have HB4 : Hid (Below W.heap.size W w4) := HB3.out.trans (hb4.mono HB3.out.size)
 have hO4 := HO3.out.later hb4
 have HO4 := Vc.hidMk hO4
 have q0 : w4.cell? ⟨b3, 0, none⟩ = some (.int .i64 0) := hO4.cell 0 (by decide)
 have q1 : w4.cell? ⟨b3, 1, none⟩ = some (.int .i64 0) := hO4.cell 1 (by decide)
 have q2 : w4.cell? ⟨b3, 2, none⟩ = some (.string ⟨#[]⟩) := hO4.cell 2 (by decide)
 have f0 : w4.frozen? ⟨b3, 0, none⟩ = false := hO4.soft 0
 have f1 : w4.frozen? ⟨b3, 1, none⟩ = false := hO4.soft 1
 have f2 : w4.frozen? ⟨b3, 2, none⟩ = false := hO4.soft 2
 clear hb4 hO4 HB3 HO3 HB23 HCA
 go_wp2_with fail
 obtain ⟨p0, g0⟩ := HO4.out.put 0 (.int .i64 v.k)
 obtain ⟨p1, g1⟩ := p0.put 1 (.int .i64 v.n)
 obtain ⟨p2, g2⟩ := p1.put 2 (.string v.t)
 have F1 := xgTrans (xgTrans (xgTrans (xgBelow (r := some b3) HB4.out) g0) g1) g2
 simp [bodyPost, results, Tryz.results31, go_sem]
 exact ⟨F1, p2⟩
theorem ent_eval1 (a : Array Value) (W : World) : (callFunc 31 a).run Tryz.prog W = .ok (.enter 31 a) W := xent Tryz.func31 (by kernel_rfl) (by rfl) a W
end Go.Proofs.YtckdmmfmnhcabaaGreatDoor
namespace Go.Proofs.YtckdmmfmnhcabaaGreatDoor
open Go.RowKit
set_option linter.unusedVariables false
set_option linter.unusedSimpArgs false
set_option maxRecDepth 100000

def okV (v : Vl) (k : Int) : Bool := Vc.validB v.k v.n v.t && (v.k == 0 || v.k == k)
def fitsB (c : List Co) (vs : List Vl) : Bool := decide (vs.length = c.length) && (vs.zip c).all (fun p => okV p.1 p.2.k)
def FtC (g b o : Nat) (vk vn : Int) (vt : ByteArray) (qk : Int) (w : World) (W : World) : Prop := W.cell? ⟨g, 0, none⟩ = some (.int .i64 vk) ∧ W.cell? ⟨g, 1, none⟩ = some (.int .i64 vn) ∧ W.cell? ⟨g, 2, none⟩ = some (.string vt) ∧ W.cell? ⟨b, o, none⟩ = some (.int .i64 qk) ∧ Below w.heap.size w W ∧ g ≤ W.heap.size
theorem FtC.drew {g b o : Nat} {vk vn : Int} {vt : ByteArray} {qk : Int} {w W : World} (h : FtC g b o vk vn vt qk w W) : FtC g b o vk vn vt qk w W.drew := ⟨h.1, h.2.1, h.2.2.1, h.2.2.2.1, h.2.2.2.2.1.drew, h.2.2.2.2.2⟩
set_option maxHeartbeats 2000000 in
theorem fits_any (c : List Co) (vs : List Vl) (a : Option Addr) (cc : Nat) (ra : Option Addr) (rc : Nat) (w : World) (hc : ColsAt w a c) (hm : c.length ≤ maxLen) (hv : VsAt w ra vs) (hm2 : vs.length ≤ maxLen) (hz : ∀ v ∈ vs, v.t.size ≤ maxLen) :
   Calls Tryz.prog 32 #[.slice ra vs.length rc, .slice a c.length cc] w fun e w' => e = .returned (.bool (fitsB c vs)) ∧ Below w.heap.size w w' := by
 have HC := Vc.hidMk hc
 have HV := Vc.hidMk hv
 have HZ := Vc.hidMk hz
 have hm' : c.length ≤ 9223372036854775807 := hm
 have hm2' : vs.length ≤ 9223372036854775807 := hm2
 unfold fitsB
 clear hc hv hz hm hm2
 by_cases hl : vs.length = c.length
 · have hl' : ((vs.length : Int) != (c.length : Int)) = false := by simp [hl]
   rw [decide_eq_true hl, Bool.true_and]
   have hzl : (vs.zip c).length = vs.length := by rw [List.length_zip]; omega
   have HZL := Vc.hidMk hzl
   have HLL := Vc.hidMk hl
   clear hzl hl
   go_enter Tryz.func32, Tryz.ntmps32
   go_wp2
   go_loopw [14, 26] (fun i s26 w' => ∃ (k : Nat), (s26 = undef ∨ s26 = .bool true ∨ s26 = .bool false) ∧ k ≤ vs.length ∧ i = .int .i64 k ∧ ((vs.zip c).take k).all (fun p => okV p.1 p.2.k) = true ∧ Below w.heap.size w w') (fun i _ _ => vs.length - (intOf i).toNat)
   case atStart => exact ⟨0, .inl rfl, Nat.zero_le _, rfl, rfl, Below.refl _ _⟩
   case round =>
     obtain ⟨k, h26, hk, rfl, hal, hb⟩ := hrel
     have H26 := Vc.hidMk h26
     clear h26
     have HB := Vc.hidMk hb
     have HAL := Vc.hidMk hal
     by_cases hlt : k < vs.length
     · have hki : (k : Int) < (vs.length : Int) := by omega
       have hkc : k < c.length := by have := HLL.out; omega
       have hkc' : (k : Int) < (c.length : Int) := by omega
       obtain ⟨b, o, rfl, e1, e2, e3⟩ := (HV.out.later hb) k hlt
       obtain ⟨b', o', rfl, g1, g2⟩ := (HC.out.later hb) k hkc
       have hzk : k < (vs.zip c).length := by rw [HZL.out]; exact hlt
       have hge : (vs.zip c)[k] = (vs[k], c[k]) := List.getElem_zip
       have HVAL : Hid (∀ W, Calls Tryz.prog 62 #[.agg #[.int .i64 vs[k].k, .int .i64 vs[k].n, .string vs[k].t]] W fun e w' => e = .returned (.bool (Vc.validB vs[k].k vs[k].n vs[k].t)) ∧ Below W.heap.size W w') := fun W => Vc.wv_any _ _ _ W (HZ.out _ (List.getElem_mem hlt))
       have HOK : Hid (okV (vs.zip c)[k].1 (vs.zip c)[k].2.k = (Vc.validB vs[k].k vs[k].n vs[k].t && (vs[k].k == 0 || vs[k].k == c[k].k))) := by rw [Hid, hge]; rfl
       have HG := Vc.hidMk (show True from trivial)
       generalize hvk : vs[k] = v at *
       generalize hck : c[k] = q at *
       clear hb hal hge
       obtain ⟨vk, vn, vt⟩ := v
       obtain ⟨qn, qk⟩ := q
       simp only at e1 e2 e3 g1 g2 HVAL HOK
       generalize hBv : Vc.validB vk vn vt = Bv at *
       clear hBv
       obtain ⟨R, HR⟩ : ∃ R, Hid (R = !(Bv && (vk == 0 || vk == qk))) := ⟨_, Vc.hidMk rfl⟩
       have HVS : Hid (∀ W, FtC wr.heap.size b' (o' + k * 2 + 1) vk vn vt qk w W → Calls Tryz.prog 62 #[.agg #[.int .i64 vk, .int .i64 vn, .string vt]] W fun e w' => e = .returned (.bool Bv) ∧ FtC wr.heap.size b' (o' + k * 2 + 1) vk vn vt qk w w') := fun W h => (HVAL.out W).mono (by
         rintro e w' ⟨he, hb⟩
         exact ⟨he, xcell hb h.1, xcell hb h.2.1, xcell hb h.2.2.1, xcell hb h.2.2.2.1, h.2.2.2.2.1.trans (hb.mono h.2.2.2.2.1.size), Nat.le_trans h.2.2.2.2.2 hb.size⟩)
       clear HVAL
       go_upto_region 6 with fail
       obtain ⟨W1, hW1⟩ : ∃ W1, W1 = wr.alloc (.cells #[.int .i64 vk, .int .i64 vn, .string vt] 42) := ⟨_, rfl⟩
       have HS0 : Hid (FtC wr.heap.size b' (o' + k * 2 + 1) vk vn vt qk w W1) := by
         have hO : Own W1 wr.heap.size 42 3 [.int .i64 vk, .int .i64 vn, .string vt] := by rw [hW1]; exact Own.new wr 42 3 #[.int .i64 vk, .int .i64 vn, .string vt] rfl
         have hb1 : Below wr.heap.size wr W1 := by rw [hW1]; exact xbel1 _ _
         exact ⟨hO.cell 0 (by decide), hO.cell 1 (by decide), hO.cell 2 (by decide), xcell hb1 g2, HB.out.trans (hb1.mono HB.out.size), hb1.size⟩
       rw [← hW1]
       clear hW1 e1 e2 e3 g1 g2
       go_cut [26, 36] from 19 to 36 (fun q r wx => (q = undef ∨ q = .bool true ∨ q = .bool false) ∧ r = .bool R ∧ Below w.heap.size w wx)
       case first =>
         cases Bv with
         | false =>
           refine wp_region_quiet (C := FtC wr.heap.size b' (o' + k * 2 + 1) vk vn vt qk w) (by kernel_rfl) (by kernel_rfl) HS0.out.drew ?_
           with_reducible refine wpQuiet_step ?_
           intro K hK
           go_simp
           apply Exists.intro
           refine ⟨fun W hC => ?_, hK _ ?_⟩
           · obtain ⟨j0, j1, j2, j3, j4, j5⟩ := hC
             go_simp
             try with_reducible rfl
           clear hK K
           with_reducible refine wpQuiet_step ?_
           intro K hK
           go_simp
           apply Exists.intro
           refine ⟨fun W hC => ?_, hK _ ?_⟩
           · exact HVS.out W hC
           clear hK K
           with_reducible refine wpQuiet_step ?_
           intro K hK
           rw [if_pos (by first | rfl | kernel_rfl)]
           refine ⟨.bool true, fun W hC => ?_, ?_⟩
           · go_simp
           go_simp
           refine hK _ ?_
           clear hK K
           with_reducible refine wpQuiet_step ?_
           intro K hK
           rw [if_pos (by first | rfl | kernel_rfl)]
           refine ⟨.bool true, fun W hC => ?_, ?_⟩
           · go_simp
           go_simp
           refine hK _ ?_
           clear hK K
           with_reducible refine wpQuiet_step ?_
           intro K hK
           go_simp
           refine hK _ ?_
           clear hK K
           with_reducible refine wpQuiet_step ?_
           intro K hK
           go_simp
           refine hK _ ?_
           clear hK K
           with_reducible refine wpQuiet_step ?_
           intro K hK
           go_simp
           refine hK _ ?_
           clear hK K
           with_reducible refine wpQuiet_step ?_
           intro K hK
           go_simp
           refine hK _ ?_
           clear hK K
           with_reducible refine wpQuiet_step ?_
           intro K hK
           go_simp
           refine hK _ ?_
           clear hK K
           with_reducible refine wpQuiet_step ?_
           intro K hK
           go_simp
           refine hK _ ?_
           clear hK K
           with_reducible refine wpQuiet_step ?_
           intro K hK
           go_simp
           refine hK _ ?_
           clear hK K
           with_reducible refine wpQuiet_step ?_
           intro K hK
           go_simp
           refine hK _ ?_
           clear hK K
           with_reducible refine wpQuiet_step ?_
           intro K hK
           go_simp
           refine hK _ ?_
           clear hK K
           with_reducible refine wpQuiet_step ?_
           intro K hK
           go_simp
           refine hK _ ?_
           clear hK K
           with_reducible refine wpQuiet_step ?_
           intro K hK
           go_simp
           refine hK _ ?_
           clear hK K
           with_reducible refine wpQuiet_step ?_
           intro K hK
           go_simp
           refine hK _ ?_
           clear hK K
           with_reducible refine wpQuiet_step ?_
           intro K hK
           go_simp
           refine hK _ ?_
           clear hK K
           with_reducible refine wpQuiet_step ?_
           intro K hK
           rw [if_pos (by first | rfl | kernel_rfl)]
           refine ⟨.bool true, fun W hC => ?_, ?_⟩
           · go_simp
           go_simp
           refine hK _ ?_
           clear hK K
           with_reducible refine wpQuiet_nil ?_
           intro w' hC
           go_wp2
           go_meet
           exact ⟨by simp, by rw [HR.out]; rfl, hC.2.2.2.2.1⟩
         | true =>
           by_cases hv0 : vk = 0
           · have hvb : (vk != 0) = false := by simp [hv0]
             have HV0 := Vc.hidMk hv0
             clear hv0
             refine wp_region_quiet (C := FtC wr.heap.size b' (o' + k * 2 + 1) vk vn vt qk w) (by kernel_rfl) (by kernel_rfl) HS0.out.drew ?_
             with_reducible refine wpQuiet_step ?_
             intro K hK
             go_simp
             apply Exists.intro
             refine ⟨fun W hC => ?_, hK _ ?_⟩
             · obtain ⟨j0, j1, j2, j3, j4, j5⟩ := hC
               go_simp
               try with_reducible rfl
             clear hK K
             with_reducible refine wpQuiet_step ?_
             intro K hK
             go_simp
             apply Exists.intro
             refine ⟨fun W hC => ?_, hK _ ?_⟩
             · exact HVS.out W hC
             clear hK K
             with_reducible refine wpQuiet_step ?_
             intro K hK
             rw [if_pos (by first | rfl | kernel_rfl)]
             refine ⟨.bool false, fun W hC => ?_, ?_⟩
             · go_simp
             go_simp
             refine hK _ ?_
             clear hK K
             with_reducible refine wpQuiet_step ?_
             intro K hK
             rw [if_pos (by first | rfl | kernel_rfl)]
             refine ⟨.bool false, fun W hC => ?_, ?_⟩
             · go_simp
             go_simp
             refine hK _ ?_
             clear hK K
             with_reducible refine wpQuiet_step ?_
             intro K hK
             rw [if_pos (by first | rfl | kernel_rfl)]
             refine ⟨.pointer (some ⟨wr.heap.size, 0, none⟩), fun W hC => ?_, ?_⟩
             · go_simp
             go_simp
             refine hK _ ?_
             clear hK K
             with_reducible refine wpQuiet_step ?_
             intro K hK
             go_simp
             apply Exists.intro
             refine ⟨fun W hC => ?_, hK _ ?_⟩
             · obtain ⟨j0, j1, j2, j3, j4, j5⟩ := hC
               go_simp
               try with_reducible rfl
             clear hK K
             with_reducible refine wpQuiet_step ?_
             intro K hK
             rw [if_pos (by first | rfl | kernel_rfl)]
             refine ⟨.bool false, fun W hC => ?_, ?_⟩
             · go_simp <;> simp [hvb]
             go_simp
             refine hK _ ?_
             clear hK K
             with_reducible refine wpQuiet_step ?_
             intro K hK
             rw [if_pos (by first | rfl | kernel_rfl)]
             refine ⟨.bool false, fun W hC => ?_, ?_⟩
             · go_simp
             go_simp
             refine hK _ ?_
             clear hK K
             with_reducible refine wpQuiet_step ?_
             intro K hK
             go_simp
             refine hK _ ?_
             clear hK K
             with_reducible refine wpQuiet_step ?_
             intro K hK
             go_simp
             refine hK _ ?_
             clear hK K
             with_reducible refine wpQuiet_step ?_
             intro K hK
             go_simp
             refine hK _ ?_
             clear hK K
             with_reducible refine wpQuiet_step ?_
             intro K hK
             go_simp
             refine hK _ ?_
             clear hK K
             with_reducible refine wpQuiet_step ?_
             intro K hK
             go_simp
             refine hK _ ?_
             clear hK K
             with_reducible refine wpQuiet_step ?_
             intro K hK
             go_simp
             refine hK _ ?_
             clear hK K
             with_reducible refine wpQuiet_step ?_
             intro K hK
             go_simp
             refine hK _ ?_
             clear hK K
             with_reducible refine wpQuiet_step ?_
             intro K hK
             go_simp
             refine hK _ ?_
             clear hK K
             with_reducible refine wpQuiet_step ?_
             intro K hK
             rw [if_pos (by first | rfl | kernel_rfl)]
             refine ⟨.bool false, fun W hC => ?_, ?_⟩
             · go_simp
             go_simp
             refine hK _ ?_
             clear hK K
             with_reducible refine wpQuiet_step ?_
             intro K hK
             rw [if_pos (by first | rfl | kernel_rfl)]
             refine ⟨.bool false, fun W hC => ?_, ?_⟩
             · go_simp
             go_simp
             refine hK _ ?_
             clear hK K
             with_reducible refine wpQuiet_nil ?_
             intro w' hC
             go_wp2
             go_meet
             exact ⟨by simp, by rw [HR.out, HV0.out]; rfl, hC.2.2.2.2.1⟩
           · have hvb : (vk != 0) = true := by simp [hv0]
             have hvb2 : (vk == 0) = false := by simp [hv0]
             clear hv0
             refine wp_region_quiet (C := FtC wr.heap.size b' (o' + k * 2 + 1) vk vn vt qk w) (by kernel_rfl) (by kernel_rfl) HS0.out.drew ?_
             with_reducible refine wpQuiet_step ?_
             intro K hK
             go_simp
             apply Exists.intro
             refine ⟨fun W hC => ?_, hK _ ?_⟩
             · obtain ⟨j0, j1, j2, j3, j4, j5⟩ := hC
               go_simp
               try with_reducible rfl
             clear hK K
             with_reducible refine wpQuiet_step ?_
             intro K hK
             go_simp
             apply Exists.intro
             refine ⟨fun W hC => ?_, hK _ ?_⟩
             · exact HVS.out W hC
             clear hK K
             with_reducible refine wpQuiet_step ?_
             intro K hK
             rw [if_pos (by first | rfl | kernel_rfl)]
             refine ⟨.bool false, fun W hC => ?_, ?_⟩
             · go_simp
             go_simp
             refine hK _ ?_
             clear hK K
             with_reducible refine wpQuiet_step ?_
             intro K hK
             rw [if_pos (by first | rfl | kernel_rfl)]
             refine ⟨.bool false, fun W hC => ?_, ?_⟩
             · go_simp
             go_simp
             refine hK _ ?_
             clear hK K
             with_reducible refine wpQuiet_step ?_
             intro K hK
             rw [if_pos (by first | rfl | kernel_rfl)]
             refine ⟨.pointer (some ⟨wr.heap.size, 0, none⟩), fun W hC => ?_, ?_⟩
             · go_simp
             go_simp
             refine hK _ ?_
             clear hK K
             with_reducible refine wpQuiet_step ?_
             intro K hK
             go_simp
             apply Exists.intro
             refine ⟨fun W hC => ?_, hK _ ?_⟩
             · obtain ⟨j0, j1, j2, j3, j4, j5⟩ := hC
               go_simp
               try with_reducible rfl
             clear hK K
             with_reducible refine wpQuiet_step ?_
             intro K hK
             rw [if_pos (by first | rfl | kernel_rfl)]
             refine ⟨.bool true, fun W hC => ?_, ?_⟩
             · go_simp <;> simp [hvb]
             go_simp
             refine hK _ ?_
             clear hK K
             with_reducible refine wpQuiet_step ?_
             intro K hK
             rw [if_pos (by first | rfl | kernel_rfl)]
             refine ⟨.bool true, fun W hC => ?_, ?_⟩
             · go_simp
             go_simp
             refine hK _ ?_
             clear hK K
             with_reducible refine wpQuiet_step ?_
             intro K hK
             rw [if_pos (by first | rfl | kernel_rfl)]
             refine ⟨.pointer (some ⟨wr.heap.size, 0, none⟩), fun W hC => ?_, ?_⟩
             · go_simp
             go_simp
             refine hK _ ?_
             clear hK K
             with_reducible refine wpQuiet_step ?_
             intro K hK
             go_simp
             apply Exists.intro
             refine ⟨fun W hC => ?_, hK _ ?_⟩
             · obtain ⟨j0, j1, j2, j3, j4, j5⟩ := hC
               go_simp
               try with_reducible rfl
             clear hK K
             with_reducible refine wpQuiet_step ?_
             intro K hK
             rw [if_pos (by first | rfl | kernel_rfl)]
             refine ⟨.slice (some ⟨b', o', none⟩) c.length cc, fun W hC => ?_, ?_⟩
             · go_simp
             go_simp
             refine hK _ ?_
             clear hK K
             with_reducible refine wpQuiet_step ?_
             intro K hK
             rw [if_pos (by first | rfl | kernel_rfl)]
             refine ⟨.int .i64 k, fun W hC => ?_, ?_⟩
             · go_simp
             go_simp
             refine hK _ ?_
             clear hK K
             with_reducible refine wpQuiet_step ?_
             intro K hK
             rw [if_pos (by first | rfl | kernel_rfl)]
             refine ⟨.pointer (some ⟨b', o' + k * 2, none⟩), fun W hC => ?_, ?_⟩
             · go_simp
             go_simp
             refine hK _ ?_
             clear hK K
             with_reducible refine wpQuiet_step ?_
             intro K hK
             rw [if_pos (by first | rfl | kernel_rfl)]
             refine ⟨.pointer (some ⟨b', o' + k * 2 + 1, none⟩), fun W hC => ?_, ?_⟩
             · go_simp
             go_simp
             refine hK _ ?_
             clear hK K
             with_reducible refine wpQuiet_step ?_
             intro K hK
             go_simp
             apply Exists.intro
             refine ⟨fun W hC => ?_, hK _ ?_⟩
             · obtain ⟨j0, j1, j2, j3, j4, j5⟩ := hC
               go_simp
               try with_reducible rfl
             clear hK K
             with_reducible refine wpQuiet_step ?_
             intro K hK
             rw [if_pos (by first | rfl | kernel_rfl)]
             refine ⟨.bool (vk != qk), fun W hC => ?_, ?_⟩
             · go_simp
             go_simp
             refine hK _ ?_
             clear hK K
             with_reducible refine wpQuiet_step ?_
             intro K hK
             rw [if_pos (by first | rfl | kernel_rfl)]
             refine ⟨.bool (vk != qk), fun W hC => ?_, ?_⟩
             · go_simp
             go_simp
             refine hK _ ?_
             clear hK K
             with_reducible refine wpQuiet_step ?_
             intro K hK
             rw [if_pos (by first | rfl | kernel_rfl)]
             refine ⟨.bool (vk != qk), fun W hC => ?_, ?_⟩
             · go_simp
             go_simp
             refine hK _ ?_
             clear hK K
             with_reducible refine wpQuiet_nil ?_
             intro w' hC
             go_wp2
             go_meet
             exact ⟨by simp, by rw [HR.out, hvb2]; simp [bne], hC.2.2.2.2.1⟩
       case rest =>
         obtain ⟨h26c, rfl, hbc⟩ := hcut
         have HBC := Vc.hidMk hbc
         clear hbc HS0 HVS
         cases R with
         | true =>
           have HF : Hid ((vs.zip c).all (fun p => okV p.1 p.2.k) = false) := Vc.all_false _ _ k hzk (by rw [HOK.out]; have := HR.out; revert this; cases (Bv && (vk == 0 || vk == qk)) <;> simp)
           apply_assumption
           go_wp2
           go_ret
           exact ⟨Vc.ret_bool HF.out.symm, HBC.out⟩
         | false =>
           have HT : Hid (((vs.zip c).take (k + 1)).all (fun p => okV p.1 p.2.k) = true) := by
             rw [Hid, Vc.take_all _ _ k hzk, HAL.out, HOK.out]
             have := HR.out; revert this; cases (Bv && (vk == 0 || vk == qk)) <;> simp
           apply_assumption
           go_wp2
           go_roundw
           case rel => exact ⟨k + 1, h26c, by omega, by go_num, HT.out, HBC.out⟩
           case measure => simp [intOf]; omega
     · obtain rfl : k = vs.length := by omega
       have hnl : ¬ (vs.length : Int) < (vs.length : Int) := by omega
       have HALL : Hid ((vs.zip c).all (fun p => okV p.1 p.2.k) = true) := by
         have := HAL.out
         rw [List.take_of_length_le (by rw [HZL.out]; exact Nat.le_refl _)] at this
         exact this
       clear hb hal
       go_wp2
       go_ret
       exact ⟨Vc.ret_bool HALL.out.symm, HB.out⟩
 · have hl' : ((vs.length : Int) != (c.length : Int)) = true := by simp; omega
   rw [decide_eq_false hl, Bool.false_and]
   go_enter Tryz.func32, Tryz.ntmps32
   go_wp2
   go_ret
   exact ⟨rfl, Below.refl _ _⟩
end Go.Proofs.YtckdmmfmnhcabaaGreatDoor
namespace Go.Proofs.YtckdmmfmnhcabaaGreatDoor
open Go.RowKit
set_option linter.unusedVariables false
set_option linter.unusedSimpArgs false
set_option maxRecDepth 100000

noncomputable def evO (c : List Co) (vs : List Vl) (o : Except Flt X) : Except Nat Vl := match ckO c o with
 | .error f => .error f.why
 | .ok (x, _) => if fitsB c vs = true then .ok (evX c vs x) else .error 4
noncomputable def evV (r : Except Nat Vl) : Value := match r with
 | .ok v => .tuple #[vV v, .nilIface]
 | .error n => .tuple #[vV vNull, .iface 31 (.int .i64 n)]
def EvPost (L : ByteArray → Int → Int → ByteArray → Prop) (w : World) (s : ByteArray) (c : List Co) (vs : List Vl) (e : Ending) (w' : World) : Prop := Below w.heap.size w w' ∧ ∃ o, PX L s o ∧ e = .returned (evV (evO c vs o))
theorem Own.kept {w w' : World} {g t n : Nat} {xs : List Value} (h : Own w g t n xs) (hk : w'.heap[g]? = w.heap[g]?) : Own w' g t n xs := by
 refine ⟨h.1, ?_⟩
 rcases h.2 with h2 | ⟨k, cap, cur, h1, h2, h3, h4⟩
 · exact .inl h2
 · refine .inr ⟨k, cap, cur, h1, h2, ?_, h4⟩
   have hk' : g = k := by injection h1 with e; injection e with e; injection e with e
   subst hk'
   rw [hk]; exact h3
theorem valid_vk {v : Vl} {k : Int} (h : okV v k = true) (hk : KN k) (hn : -9223372036854775808 ≤ v.n ∧ v.n ≤ 9223372036854775807) : VK k v := by
 unfold okV Vc.validB at h
 obtain ⟨vk, vn, vt⟩ := v
 simp only at h hn
 have he : ∀ t : ByteArray, t.toList = [] → t = ⟨#[]⟩ := fun t ht => by
   have h1 := eqB_iff ⟨0, 0, t⟩ ⟨0, 0, ⟨#[]⟩⟩
   rw [eqB] at h1
   simp only [beq_self_eq_true, Bool.true_and, ht, Vc.empty_list] at h1
   have h2 := of_decide_eq_true h1.symm
   injection h2
 by_cases h0 : vk = 0
 · subst h0
   simp at h
   left
   rw [he vt h.2, h.1]
   rfl
 · rw [if_neg h0] at h
   simp only [Bool.and_eq_true, Bool.or_eq_true, beq_iff_eq, h0, false_or] at h
   obtain ⟨h1, rfl⟩ := h
   right
   refine ⟨rfl, ?_⟩
   rcases hk with rfl | rfl | rfl
   · simp at h1; exact .inl ⟨rfl, hn.1, hn.2, he _ h1⟩
   · simp at h1; exact .inr (.inl ⟨rfl, h1.2, he _ h1.1⟩)
   · simp at h1; exact .inr (.inr ⟨rfl, h1.1, by show vt.size ≤ 60; omega⟩)
theorem fit_of {c : List Co} {vs : List Vl} (h : fitsB c vs = true) (hk : ∀ x ∈ c, KN x.k) (hn : ∀ v ∈ vs, -9223372036854775808 ≤ v.n ∧ v.n ≤ 9223372036854775807) : Fit c vs := by
 unfold fitsB at h
 rw [Bool.and_eq_true, decide_eq_true_eq] at h
 obtain ⟨hl, ha⟩ := h
 refine ⟨hl, hk, fun i h1 h2 => ?_⟩
 have := List.all_eq_true.1 ha (vs[i], c[i]) (by
   have : (vs.zip c)[i]'(by rw [List.length_zip]; omega) = (vs[i], c[i]) := List.getElem_zip
   rw [← this]; exact List.getElem_mem _)
 exact valid_vk this (hk _ (List.getElem_mem h2)) (hn _ (List.getElem_mem h1))
set_option maxHeartbeats 4000000 in
theorem eval_any {L : ByteArray → Int → Int → ByteArray → Prop} {G : World → Prop} (hL : OneL L) (hR : RdOk L G) (s : ByteArray) (hLt : ∀ x, PX L s (.ok x) → LtX x) (a : Option Addr) (cc : Nat) (c : List Co) (ra : Option Addr) (rc : Nat) (vs : List Vl) (w : World) (hG : ∀ W W' r, (∀ k, r = some k → w.heap.size ≤ k) → G W → W.grownBy W' r → G W') (hw : G w) (hc : ColsAt w a c) (hm : c.length ≤ maxLen) (hz : ∀ x ∈ c, x.nm.size ≤ 140737488355328)
   (hv : VsAt w ra vs) (hm2 : vs.length ≤ maxLen) (hz2 : ∀ v ∈ vs, v.t.size ≤ maxLen) (hn : ∀ v ∈ vs, -9223372036854775808 ≤ v.n ∧ v.n ≤ 9223372036854775807) (hkn : colsX c → ∀ x ∈ c, KN x.k) :
   Calls Tryz.prog 14 #[.string s, .slice a c.length cc, .slice ra vs.length rc] w (EvPost L w s c vs) := by
 obtain ⟨o, ho⟩ := px_exi hL hR s w hG hw
 have HCK : Hid (∀ W, Below w.heap.size w W → Calls Tryz.prog 19 #[.string s, .slice a c.length cc] W fun e w' => Below W.heap.size W w' ∧
     match ckO c o with
     | .ok (x, k) => ∃ t p, e = .returned (.tuple #[.iface t p, .int .i64 k]) ∧ Nd w' (W.heap.size - 1) x (.iface t p)
     | .error f => e = .panicked [{ v := fltV f.pl f.why, recovered := false }]) := fun W hW =>
   checked_is hL hR s a cc c W (fun V V' r h1 h2 h3 => hG V V' r (fun k hk => Nat.le_trans hW.size (h1 k hk)) h2 h3) (hG w W none (fun k hk => by cases hk) hw (xgBelow hW)) (hc.later hW) hm hz ho
 have HO : Hid (PX L s o) := ho
 have HFT : Hid (∀ W, Below w.heap.size w W → Calls Tryz.prog 32 #[.slice ra vs.length rc, .slice a c.length cc] W fun e w' => e = .returned (.bool (fitsB c vs)) ∧ Below W.heap.size W w') := fun W hW => fits_any c vs a cc ra rc W (hc.later hW) hm (hv.later hW) hm2 hz2
 have hmf := xmf
 have hsz4 : ((((w.alloc (.cells #[.string s] 9)).alloc (.cells #[.slice a c.length cc] 22)).alloc (.cells #[.slice ra vs.length rc] 40)).alloc (.cells #[.int .i64 0, .int .i64 0, .string ⟨#[]⟩] 42)).heap.size = w.heap.size + 1 + 1 + 1 + 1 := by simp
 have hsz3 : (((w.alloc (.cells #[.string s] 9)).alloc (.cells #[.slice a c.length cc] 22)).alloc (.cells #[.slice ra vs.length rc] 40)).heap.size = w.heap.size + 1 + 1 + 1 := by simp
 have HB0 : Hid (Below w.heap.size w (((((w.alloc (.cells #[.string s] 9)).alloc (.cells #[.slice a c.length cc] 22)).alloc (.cells #[.slice ra vs.length rc] 40)).alloc (.cells #[.int .i64 0, .int .i64 0, .string ⟨#[]⟩] 42)).alloc (.cells #[.int .i64 0, .int .i64 0, .string ⟨#[]⟩] 42))) := ((((xbel1 w _).alloc (by simp) _).alloc (by simp; omega) _).alloc (by simp; omega) _).alloc (by simp; omega) _
 have P0 : Hid ((((((w.alloc (.cells #[.string s] 9)).alloc (.cells #[.slice a c.length cc] 22)).alloc (.cells #[.slice ra vs.length rc] 40)).alloc (.cells #[.int .i64 0, .int .i64 0, .string ⟨#[]⟩] 42)).alloc (.cells #[.int .i64 0, .int .i64 0, .string ⟨#[]⟩] 42)).cell? ⟨w.heap.size, 0, none⟩ = some (.string s)) := by unfold Hid; go_simp
 have P1 : Hid ((((((w.alloc (.cells #[.string s] 9)).alloc (.cells #[.slice a c.length cc] 22)).alloc (.cells #[.slice ra vs.length rc] 40)).alloc (.cells #[.int .i64 0, .int .i64 0, .string ⟨#[]⟩] 42)).alloc (.cells #[.int .i64 0, .int .i64 0, .string ⟨#[]⟩] 42)).cell? ⟨w.heap.size + 1, 0, none⟩ = some (.slice a c.length cc)) := by unfold Hid; go_simp
 have P2 : Hid ((((((w.alloc (.cells #[.string s] 9)).alloc (.cells #[.slice a c.length cc] 22)).alloc (.cells #[.slice ra vs.length rc] 40)).alloc (.cells #[.int .i64 0, .int .i64 0, .string ⟨#[]⟩] 42)).alloc (.cells #[.int .i64 0, .int .i64 0, .string ⟨#[]⟩] 42)).cell? ⟨w.heap.size + 1 + 1, 0, none⟩ = some (.slice ra vs.length rc)) := by unfold Hid; go_simp
 have hsz : (((((w.alloc (.cells #[.string s] 9)).alloc (.cells #[.slice a c.length cc] 22)).alloc (.cells #[.slice ra vs.length rc] 40)).alloc (.cells #[.int .i64 0, .int .i64 0, .string ⟨#[]⟩] 42)).alloc (.cells #[.int .i64 0, .int .i64 0, .string ⟨#[]⟩] 42)).heap.size = w.heap.size + 1 + 1 + 1 + 1 + 1 := by simp
 have P3 : Hid (Own (((((w.alloc (.cells #[.string s] 9)).alloc (.cells #[.slice a c.length cc] 22)).alloc (.cells #[.slice ra vs.length rc] 40)).alloc (.cells #[.int .i64 0, .int .i64 0, .string ⟨#[]⟩] 42)).alloc (.cells #[.int .i64 0, .int .i64 0, .string ⟨#[]⟩] 42)) (w.heap.size + 1 + 1 + 1) 42 3 [.int .i64 0, .int .i64 0, .string ⟨#[]⟩]) := by
   have := (Own.new (((w.alloc (.cells #[.string s] 9)).alloc (.cells #[.slice a c.length cc] 22)).alloc (.cells #[.slice ra vs.length rc] 40)) 42 3 #[.int .i64 0, .int .i64 0, .string ⟨#[]⟩] rfl).later (xbel1 _ (.cells #[.int .i64 0, .int .i64 0, .string ⟨#[]⟩] 42))
   rw [hsz3] at this
   exact this
 have P4 : Hid (Own (((((w.alloc (.cells #[.string s] 9)).alloc (.cells #[.slice a c.length cc] 22)).alloc (.cells #[.slice ra vs.length rc] 40)).alloc (.cells #[.int .i64 0, .int .i64 0, .string ⟨#[]⟩] 42)).alloc (.cells #[.int .i64 0, .int .i64 0, .string ⟨#[]⟩] 42)) (w.heap.size + 1 + 1 + 1 + 1) 42 3 [.int .i64 0, .int .i64 0, .string ⟨#[]⟩]) := by
   have := Own.new ((((w.alloc (.cells #[.string s] 9)).alloc (.cells #[.slice a c.length cc] 22)).alloc (.cells #[.slice ra vs.length rc] 40)).alloc (.cells #[.int .i64 0, .int .i64 0, .string ⟨#[]⟩] 42)) 42 3 #[.int .i64 0, .int .i64 0, .string ⟨#[]⟩] rfl
   rw [hsz4] at this
   exact this
 clear hsz3 hsz4
 cases hck : ckO c o with
 | error f =>
   have FIN : Hid (∀ w', Below w.heap.size w w' → EvPost L w s c vs (.returned (.tuple #[.agg #[.int .i64 0, .int .i64 0, .string ⟨#[]⟩], .iface 31 (.int .i64 f.why)])) w') := fun w' h => ⟨h, o, HO.out, by rw [evO, hck]; rfl⟩
   have HC2 : Hid (∀ W, Below w.heap.size w W → Calls Tryz.prog 19 #[.string s, .slice a c.length cc] W fun e w' => Below W.heap.size W w' ∧ e = .panicked [{ v := fltV f.pl f.why, recovered := false }]) := fun W hW => by
     refine (HCK.out W hW).mono ?_
     rintro e w' ⟨h1, h2⟩
     rw [hck] at h2
     exact ⟨h1, h2⟩
   clear HCK hck HO HFT hL hR hLt hG hw hc hm hz hv hm2 hz2 hn hkn ho
   go_enter Tryz.func14, Tryz.ntmps14
   go_wp2_with fail
   generalize (((((w.alloc (.cells #[.string s] 9)).alloc (.cells #[.slice a c.length cc] 22)).alloc (.cells #[.slice ra vs.length rc] 40)).alloc (.cells #[.int .i64 0, .int .i64 0, .string ⟨#[]⟩] 42)).alloc (.cells #[.int .i64 0, .int .i64 0, .string ⟨#[]⟩] 42)) = W0 at *
   have hb2 : Below W0.heap.size W0 ((W0.alloc (.cells #[.int .i64 0] 3)).alloc (.cells #[.nilIface] 25)) := (xbel1 W0 _).alloc (by simp) _
   have HD := eval1_bad s a c.length cc w.heap.size (w.heap.size + 1) (w.heap.size + 1 + 1) (w.heap.size + 1 + 1 + 1 + 1) f _ (xcell hb2 P0.out) (xcell hb2 P1.out) (HC2.out _ (HB0.out.trans (hb2.mono HB0.out.size)))
   have HE := caught_bad 31 _ W0 (fun w' => Below W0.heap.size W0 w') f.pl f.why ent_eval1 (HD.mono (fun e w' ⟨h1, h2⟩ => ⟨h1, kept2_of h2, hb2.trans (h2.mono hb2.size)⟩))
   refine HE.mono ?_
   rintro e w2 ⟨rfl, w1, hb1, hex⟩
   have O3 := (P3.out.later hb1).kept (hex.block _ (by have := (P3.out.later hb1).lt; omega) (by omega) (by omega))
   have O4 := (P4.out.later hb1).kept (hex.block _ (by have := (P4.out.later hb1).lt; omega) (by omega) (by omega))
   have q0 : w2.cell? ⟨w.heap.size + 1 + 1 + 1, 0, none⟩ = some (.int .i64 0) := O3.cell 0 (by decide)
   have q1 : w2.cell? ⟨w.heap.size + 1 + 1 + 1, 1, none⟩ = some (.int .i64 0) := O3.cell 1 (by decide)
   have q2 : w2.cell? ⟨w.heap.size + 1 + 1 + 1, 2, none⟩ = some (.string ⟨#[]⟩) := O3.cell 2 (by decide)
   have f0 := O3.soft 0
   have f1 := O3.soft 1
   have f2 := O3.soft 2
   have u0 : w2.cell? ⟨w.heap.size + 1 + 1 + 1 + 1, 0, none⟩ = some (.int .i64 0) := O4.cell 0 (by decide)
   have u1 : w2.cell? ⟨w.heap.size + 1 + 1 + 1 + 1, 1, none⟩ = some (.int .i64 0) := O4.cell 1 (by decide)
   have u2 : w2.cell? ⟨w.heap.size + 1 + 1 + 1 + 1, 2, none⟩ = some (.string ⟨#[]⟩) := O4.cell 2 (by decide)
   have hl3 := O3.lt
   have hl4 := O4.lt
   have HBF : Hid (Below w.heap.size w w2) := hex.below (HB0.out.trans (hb1.mono HB0.out.size)) (by omega) (by omega)
   clear HD HE hb1 hex hb2 P0 P1 P2 P3 P4 HB0 O3 O4
   go_wp2_with fail
   refine bodyPost_ret (v := .tuple #[.agg #[.int .i64 0, .int .i64 0, .string ⟨#[]⟩], .iface 31 (.int .i64 f.why)]) (by simp [results, Tryz.results14, go_sem, q0, q1, q2, hl3]; try rfl) rfl (FIN.out _ ?_)
   repeat (first | exact HBF.out | refine Below.setCell ?_ (by simp; omega) _)
 | ok q =>
   obtain ⟨x, k⟩ := q
   cases hft : fitsB c vs with
   | false =>
     have FIN : Hid (∀ w', Below w.heap.size w w' → EvPost L w s c vs (.returned (.tuple #[.agg #[.int .i64 0, .int .i64 0, .string ⟨#[]⟩], .iface 31 (.int .i64 4)])) w') := fun w' h => ⟨h, o, HO.out, by rw [evO, hck]; simp only [hft]; rfl⟩
     have HC2 : Hid (∀ W, Below w.heap.size w W → Calls Tryz.prog 19 #[.string s, .slice a c.length cc] W fun e w' => Below W.heap.size W w' ∧ ∃ t p, e = .returned (.tuple #[.iface t p, .int .i64 k])) := fun W hW => by
       refine (HCK.out W hW).mono ?_
       rintro e w' ⟨h1, h2⟩
       rw [hck] at h2
       obtain ⟨t, p, h3, _⟩ := h2
       exact ⟨h1, t, p, h3⟩
     rw [hft] at HFT
     clear HCK hck HO hL hR hLt hG hw hc hm hz hv hm2 hz2 hn hkn ho hft
     go_enter Tryz.func14, Tryz.ntmps14
     go_wp2_with fail
     generalize (((((w.alloc (.cells #[.string s] 9)).alloc (.cells #[.slice a c.length cc] 22)).alloc (.cells #[.slice ra vs.length rc] 40)).alloc (.cells #[.int .i64 0, .int .i64 0, .string ⟨#[]⟩] 42)).alloc (.cells #[.int .i64 0, .int .i64 0, .string ⟨#[]⟩] 42)) = W0 at *
     have hb2 : Below W0.heap.size W0 ((W0.alloc (.cells #[.int .i64 0] 3)).alloc (.cells #[.nilIface] 25)) := (xbel1 W0 _).alloc (by simp) _
     have HD := eval1_unfit s a c.length cc ra vs.length rc w.heap.size (w.heap.size + 1) (w.heap.size + 1 + 1) (w.heap.size + 1 + 1 + 1 + 1) k _ (xcell hb2 P0.out) (xcell hb2 P1.out) (xcell hb2 P2.out) (HC2.out _ (HB0.out.trans (hb2.mono HB0.out.size))) (fun W' hW' => HFT.out W' ((HB0.out.trans (hb2.mono HB0.out.size)).trans (hW'.mono (Nat.le_trans HB0.out.size hb2.size))))
     have HE := caught_bad 31 _ W0 (fun w' => Below W0.heap.size W0 w') 0 4 ent_eval1 (HD.mono (fun e w' ⟨h1, h2⟩ => ⟨h1, kept2_of h2, hb2.trans (h2.mono hb2.size)⟩))
     refine HE.mono ?_
     rintro e w2 ⟨rfl, w1, hb1, hex⟩
     have O3 := (P3.out.later hb1).kept (hex.block _ (by have := (P3.out.later hb1).lt; omega) (by omega) (by omega))
     have O4 := (P4.out.later hb1).kept (hex.block _ (by have := (P4.out.later hb1).lt; omega) (by omega) (by omega))
     have q0 : w2.cell? ⟨w.heap.size + 1 + 1 + 1, 0, none⟩ = some (.int .i64 0) := O3.cell 0 (by decide)
     have q1 : w2.cell? ⟨w.heap.size + 1 + 1 + 1, 1, none⟩ = some (.int .i64 0) := O3.cell 1 (by decide)
     have q2 : w2.cell? ⟨w.heap.size + 1 + 1 + 1, 2, none⟩ = some (.string ⟨#[]⟩) := O3.cell 2 (by decide)
     have f0 := O3.soft 0
     have f1 := O3.soft 1
     have f2 := O3.soft 2
     have u0 : w2.cell? ⟨w.heap.size + 1 + 1 + 1 + 1, 0, none⟩ = some (.int .i64 0) := O4.cell 0 (by decide)
     have u1 : w2.cell? ⟨w.heap.size + 1 + 1 + 1 + 1, 1, none⟩ = some (.int .i64 0) := O4.cell 1 (by decide)
     have u2 : w2.cell? ⟨w.heap.size + 1 + 1 + 1 + 1, 2, none⟩ = some (.string ⟨#[]⟩) := O4.cell 2 (by decide)
     have hl3 := O3.lt
     have hl4 := O4.lt
     have HBF : Hid (Below w.heap.size w w2) := hex.below (HB0.out.trans (hb1.mono HB0.out.size)) (by omega) (by omega)
     clear HD HE hb1 hex hb2 P0 P1 P2 P3 P4 HB0 O3 O4
     go_wp2_with fail
     refine bodyPost_ret (v := .tuple #[.agg #[.int .i64 0, .int .i64 0, .string ⟨#[]⟩], .iface 31 (.int .i64 4)]) (by simp [results, Tryz.results14, go_sem, q0, q1, q2, hl3]; try rfl) rfl (FIN.out _ ?_)
     repeat (first | exact HBF.out | refine Below.setCell ?_ (by simp; omega) _)
   | true =>
     have hcols : colsX c := by
       by_cases hcc : colsX c
       · exact hcc
       · cases o with
         | error f => simp [ckO] at hck
         | ok y => simp [ckO, hcc] at hck
     have hkx : kindX c x = .ok k ∧ PX L s (.ok x) := by
       cases o with
       | error f => simp [ckO] at hck
       | ok y =>
         rw [ckO, if_pos hcols] at hck
         obtain ⟨k', h1, h2⟩ := bind_ok hck
         cases h2
         exact ⟨h1, ho⟩
     have hltx : LtX x := by
       cases hkx.2 with
       | ok h1 h2 h3 => exact hLt x hkx.2
     have hfit := fit_of hft (hkn hcols) hn
     obtain ⟨v, hvv⟩ : ∃ v, v = evX c vs x := ⟨_, rfl⟩
     have FIN : Hid (∀ w', Below w.heap.size w w' → EvPost L w s c vs (.returned (.tuple #[.agg #[.int .i64 v.k, .int .i64 v.n, .string v.t], .nilIface])) w') := fun w' h => ⟨h, o, HO.out, by rw [evO, hck]; simp only [hft]; rw [hvv]; rfl⟩
     have HC2 : Hid (∀ W, Below w.heap.size w W → Calls Tryz.prog 19 #[.string s, .slice a c.length cc] W fun e w' => Below W.heap.size W w' ∧ ∃ t p, e = .returned (.tuple #[.iface t p, .int .i64 k]) ∧ VD w' (.iface t p) (.slice a c.length cc) (.slice ra vs.length rc) v) := fun W hW => by
       refine (HCK.out W hW).mono ?_
       rintro e w' ⟨h1, h2⟩
       rw [hck] at h2
       obtain ⟨t, p, h3, h4⟩ := h2
       have hb' := hW.trans (h1.mono hW.size)
       exact ⟨h1, t, p, h3, by rw [hvv]; exact value_nd c a cc hm vs ra rc hm2 hfit w' _ (hc.later hb') (hv.later hb') x _ k h4 hkx.2.size hkx.1 hltx⟩
     rw [hft] at HFT
     clear HCK hck HO hL hR hLt hG hw hc hm hz hv hm2 hz2 hn hkn ho hft hkx hltx hfit hvv hcols
     go_enter Tryz.func14, Tryz.ntmps14
     go_wp2_with fail
     generalize (((((w.alloc (.cells #[.string s] 9)).alloc (.cells #[.slice a c.length cc] 22)).alloc (.cells #[.slice ra vs.length rc] 40)).alloc (.cells #[.int .i64 0, .int .i64 0, .string ⟨#[]⟩] 42)).alloc (.cells #[.int .i64 0, .int .i64 0, .string ⟨#[]⟩] 42)) = W0 at *
     have hb2 : Below W0.heap.size W0 ((W0.alloc (.cells #[.int .i64 0] 3)).alloc (.cells #[.nilIface] 25)) := (xbel1 W0 _).alloc (by simp) _
     have HD := eval1_ok s a c.length cc ra vs.length rc w.heap.size (w.heap.size + 1) (w.heap.size + 1 + 1) (w.heap.size + 1 + 1 + 1 + 1) k v _ (xcell hb2 P0.out) (xcell hb2 P1.out) (xcell hb2 P2.out) (P4.out.later hb2) (HC2.out _ (HB0.out.trans (hb2.mono HB0.out.size))) (fun W' hW' => HFT.out W' ((HB0.out.trans (hb2.mono HB0.out.size)).trans (hW'.mono (Nat.le_trans HB0.out.size hb2.size))))
     have HE := caught_ok 31 _ W0 (fun w' => W0.grownBy w' (some (w.heap.size + 1 + 1 + 1 + 1)) ∧ Own w' (w.heap.size + 1 + 1 + 1 + 1) 42 3 [.int .i64 v.k, .int .i64 v.n, .string v.t]) ent_eval1 (HD.mono (fun e w' ⟨h1, h2, h3⟩ => ⟨h1, kept2_by h2 (fun n hn => by cases hn; omega), xgTrans (xgBelow hb2) h2, h3⟩))
     refine HE.mono ?_
     rintro e w2 ⟨rfl, w1, ⟨hb1, hc1⟩, hex⟩
     have O3a : Own w1 (w.heap.size + 1 + 1 + 1) 42 3 [.int .i64 0, .int .i64 0, .string ⟨#[]⟩] := P3.out.grown hb1 (by simp)
     have O3 := O3a.kept (hex.block _ O3a.lt (by omega) (by omega))
     have O4 := hc1.kept (hex.block _ hc1.lt (by omega) (by omega))
     have q0 : w2.cell? ⟨w.heap.size + 1 + 1 + 1, 0, none⟩ = some (.int .i64 0) := O3.cell 0 (by decide)
     have q1 : w2.cell? ⟨w.heap.size + 1 + 1 + 1, 1, none⟩ = some (.int .i64 0) := O3.cell 1 (by decide)
     have q2 : w2.cell? ⟨w.heap.size + 1 + 1 + 1, 2, none⟩ = some (.string ⟨#[]⟩) := O3.cell 2 (by decide)
     have f0 := O3.soft 0
     have f1 := O3.soft 1
     have f2 := O3.soft 2
     have u0 : w2.cell? ⟨w.heap.size + 1 + 1 + 1 + 1, 0, none⟩ = some (.int .i64 v.k) := O4.cell 0 (by decide)
     have u1 : w2.cell? ⟨w.heap.size + 1 + 1 + 1 + 1, 1, none⟩ = some (.int .i64 v.n) := O4.cell 1 (by decide)
     have u2 : w2.cell? ⟨w.heap.size + 1 + 1 + 1 + 1, 2, none⟩ = some (.string v.t) := O4.cell 2 (by decide)
     have hl3 := O3.lt
     have hl4 := O4.lt
     have HBF : Hid (Below w.heap.size w w2) := hex.below (xbNew HB0.out hb1 (fun n hn => by cases hn; omega)) (by omega) (by omega)
     clear HD HE hb1 hc1 hex hb2 P0 P1 P2 P3 P4 HB0 O3 O4 O3a
     go_wp2_with fail
     refine bodyPost_ret (v := .tuple #[.agg #[.int .i64 v.k, .int .i64 v.n, .string v.t], .nilIface]) (by simp [results, Tryz.results14, go_sem, q0, q1, q2, hl3]; try rfl) rfl (FIN.out _ ?_)
     repeat (first | exact HBF.out | refine Below.setCell ?_ (by simp; omega) _)
end Go.Proofs.YtckdmmfmnhcabaaGreatDoor
