import Derived.Test.YtckdmmfmnhcabaaGreatDoorEa1
import Derived.Test.YtckdmmfmnhcabaaGreatDoorWe1
import Derived.Test.YtckdmmfmnhcabaaGreatDoorWa1
import Derived.Test.YtckdmmfmnhcabaaGreatDoorDeS
import Derived.Test.YtckdmmfmnhcabaaGreatDoorDeP
import Derived.Test.YtckdmmfmnhcabaaGreatDoorDeQ
import Derived.Test.YtckdmmfmnhcabaaGreatDoorEb1
import Derived.Test.YtckdmmfmnhcabaaGreatDoorDeT
import Derived.Test.YtckdmmfmnhcabaaGreatDoorDeU
import Derived.Test.YtckdmmfmnhcabaaGreatDoorChA
import Derived.Test.YtckdmmfmnhcabaaGreatDoorTd1
namespace Go.Proofs.YtckdmmfmnhcabaaGreatDoor.Dc
open Go.RowKit
set_option linter.unusedVariables false
set_option linter.unusedSimpArgs false
set_option maxRecDepth 100000
set_option maxHeartbeats 2000000 in
theorem fitsD_any (c : List Co) (vs : List Vl) (a : Option Addr) (cc : Nat) (ra : Option Addr) (rc : Nat) (w : World) (hc : ColsAt w a c) (hm : c.length ≤ maxLen) (hv : VsAt w ra vs) (hm2 : vs.length ≤ maxLen) (hz : ∀ v ∈ vs, v.t.size ≤ maxLen) :
   Calls Tryz.prog 15 #[.slice ra vs.length rc, .slice a c.length cc] w fun e w' => e = .returned (.bool (fitsB c vs)) ∧ Below w.heap.size w w' := by
 have HC := Vc.hidMk hc
 have HV := Vc.hidMk hv
 have HZ := Vc.hidMk hz
 have hm' : c.length ≤ 9223372036854775807 := hm
 have hm2' : vs.length ≤ 9223372036854775807 := hm2
 unfold fitsB
 clear hc hv hz hm hm2
 by_cases hl : vs.length = c.length
 · have hl' : ((vs.length : Int) != (c.length : Int)) = false := by simp [hl]
   rw [decide_eq_true hl, Bool.true_and]
   have hzl : (vs.zip c).length = vs.length := by rw [List.length_zip]; omega
   have HZL := Vc.hidMk hzl
   have HLL := Vc.hidMk hl
   clear hzl hl
   go_enter Tryz.func15, Tryz.ntmps15
   go_wp2
   go_loopw [5] (fun i w' => ∃ (k : Nat), k ≤ vs.length ∧ i = .int .i64 k ∧ ((vs.zip c).take k).all (fun p => okV p.1 p.2.k) = true ∧ Below w.heap.size w w') (fun i _ => vs.length - (intOf i).toNat)
   case atStart => exact ⟨0, Nat.zero_le _, rfl, rfl, Below.refl _ _⟩
   case round =>
     obtain ⟨k, hk, rfl, hal, hb⟩ := hrel
     have HB := Vc.hidMk hb
     have HAL := Vc.hidMk hal
     by_cases hlt : k < vs.length
     · have hki : (k : Int) < (vs.length : Int) := by omega
       have hkc : k < c.length := by have := HLL.out; omega
       have hkc' : (k : Int) < (c.length : Int) := by omega
       obtain ⟨b, o, rfl, e1, e2, e3⟩ := (HV.out.later hb) k hlt
       obtain ⟨b', o', rfl, g1, g2⟩ := (HC.out.later hb) k hkc
       have hzk : k < (vs.zip c).length := by rw [HZL.out]; exact hlt
       have hge : (vs.zip c)[k] = (vs[k], c[k]) := List.getElem_zip
       have HVAL : Hid (∀ W, Calls Tryz.prog 33 #[.agg #[.int .i64 vs[k].k, .int .i64 vs[k].n, .string vs[k].t]] W fun e w' => e = .returned (.bool (Vc.validB vs[k].k vs[k].n vs[k].t)) ∧ Below W.heap.size W w') := fun W => by
         have h1 := Vc.refValid_any ⟨vs[k].k, vs[k].n, vs[k].t⟩ W (HZ.out _ (List.getElem_mem hlt))
         rw [← Vc.validB_V] at h1
         exact h1
       have HOK : Hid (okV (vs.zip c)[k].1 (vs.zip c)[k].2.k = (Vc.validB vs[k].k vs[k].n vs[k].t && (vs[k].k == 0 || vs[k].k == c[k].k))) := by rw [Hid, hge]; rfl
       generalize hvk : vs[k] = v at *
       generalize hck : c[k] = q at *
       clear hb hal hge hvk hck
       obtain ⟨vk, vn, vt⟩ := v
       obtain ⟨qn, qk⟩ := q
       simp only at e1 e2 e3 g1 g2 HVAL HOK
       generalize hBv : Vc.validB vk vn vt = Bv at *
       clear hBv
       go_wp2_with fail
       refine (HVAL.out _).mono ?_
       rintro e w1 ⟨rfl, hb1⟩
       have HB1 : Hid (Below w.heap.size w w1) := HB.out.trans (hb1.mono HB.out.size)
       have e1' := xcell hb1 e1
       have g2' := xcell hb1 g2
       have hbb : b < w1.heap.size := World.block_lt_of_cell? _ _ e1'
       have hbb' : b' < w1.heap.size := World.block_lt_of_cell? _ _ g2'
       clear hb1 HB e1 e2 e3 g1 g2 HVAL HV HC HZ
       cases Bv with
       | false =>
         have HF : Hid ((vs.zip c).all (fun p => okV p.1 p.2.k) = false) := Vc.all_false _ _ k hzk (by rw [HOK.out]; rfl)
         go_wp2_with fail
         first | (go_quiet (fail); go_wp2_with fail) | skip
         go_ret
         exact ⟨Vc.ret_bool HF.out.symm, by first | exact HB1.out | exact Below.drewN' HB1.out | exact HB1.out.drew⟩
       | true =>
         by_cases hv0 : vk = 0
         · have hvb : (vk != 0) = false := by simp [hv0]
           have hvb2 : (vk == 0) = true := by simp [hv0]
           clear hv0
           have HT : Hid (((vs.zip c).take (k + 1)).all (fun p => okV p.1 p.2.k) = true) := by
             rw [Hid, Vc.take_all _ _ k hzk, HAL.out, HOK.out]; rw [hvb2]; rfl
           go_wp2_with fail
           first | (go_quiet (fail); go_wp2_with fail) | skip
           exact ⟨⟨k + 1, by omega, by go_num, HT.out, by first | exact HB1.out | exact Below.drewN' HB1.out | exact HB1.out.drew⟩, by simp [intOf]; omega⟩
         · have hvb : (vk != 0) = true := by simp [hv0]
           have hvb2 : (vk == 0) = false := by simp [hv0]
           clear hv0
           by_cases hvq : vk = qk
           · have hq : (vk != qk) = false := by simp [hvq]
             have hq2 : (vk == qk) = true := by simp [hvq]
             clear hvq
             have HT : Hid (((vs.zip c).take (k + 1)).all (fun p => okV p.1 p.2.k) = true) := by
               rw [Hid, Vc.take_all _ _ k hzk, HAL.out, HOK.out]; rw [hvb2, hq2]; rfl
             go_wp2_with fail
             first | (go_quiet (fail); go_wp2_with fail) | skip
             exact ⟨⟨k + 1, by omega, by go_num, HT.out, by first | exact HB1.out | exact Below.drewN' HB1.out | exact HB1.out.drew⟩, by simp [intOf]; omega⟩
           · have hq : (vk != qk) = true := by simp [hvq]
             have hq2 : (vk == qk) = false := by simp [hvq]
             clear hvq
             have HF : Hid ((vs.zip c).all (fun p => okV p.1 p.2.k) = false) := Vc.all_false _ _ k hzk (by rw [HOK.out]; rw [hvb2, hq2]; rfl)
             go_wp2_with fail
             first | (go_quiet (fail); go_wp2_with fail) | skip
             go_ret
             exact ⟨Vc.ret_bool HF.out.symm, by first | exact HB1.out | exact Below.drewN' HB1.out | exact HB1.out.drew⟩
     · obtain rfl : k = vs.length := by omega
       have hnl : ¬ (vs.length : Int) < (vs.length : Int) := by omega
       have HALL : Hid ((vs.zip c).all (fun p => okV p.1 p.2.k) = true) := by
         have := HAL.out
         rw [List.take_of_length_le (by rw [HZL.out]; exact Nat.le_refl _)] at this
         exact this
       clear hb hal
       go_wp2
       go_ret
       exact ⟨Vc.ret_bool HALL.out.symm, HB.out⟩
 · have hl' : ((vs.length : Int) != (c.length : Int)) = true := by simp; omega
   rw [decide_eq_false hl, Bool.false_and]
   go_enter Tryz.func15, Tryz.ntmps15
   go_wp2
   go_ret
   exact ⟨rfl, Below.refl _ _⟩
end Go.Proofs.YtckdmmfmnhcabaaGreatDoor.Dc
namespace Go.Proofs.YtckdmmfmnhcabaaGreatDoor.Dc
open Go.RowKit
set_option linter.unusedVariables false
set_option linter.unusedSimpArgs false
set_option maxRecDepth 100000

theorem bl_irr : ∀ l : List UInt8, Op.bytesLess l l = false
 | [] => by simp [Op.bytesLess]
 | a :: l => by simp [Op.bytesLess, bl_irr l]
theorem cmp_all (x y : Vl) : (decide (cmpVl x y = 0) = eqB x.k x.n x.t y.k y.n y.t) ∧ (decide (cmpVl x y < 0) = Vc.ltV x.k x.n x.t y.k y.n y.t) ∧ (decide (cmpVl x y ≤ 0) = (Vc.ltV x.k x.n x.t y.k y.n y.t || eqB x.k x.n x.t y.k y.n y.t)) ∧ (decide (0 < cmpVl x y) = (!Vc.ltV x.k x.n x.t y.k y.n y.t && !eqB x.k x.n x.t y.k y.n y.t)) ∧ (decide (0 ≤ cmpVl x y) = !Vc.ltV x.k x.n x.t y.k y.n y.t) := by
 unfold cmpVl Vc.cmpV Vc.cmpS Vc.ltV eqB
 obtain ⟨k1, n1, t1⟩ := x
 obtain ⟨k2, n2, t2⟩ := y
 simp only []
 rcases Int.lt_trichotomy k1 k2 with h | h | h
 · have h1 : (k1 != k2) = true := by simp; omega
   have h2 : (k1 == k2) = false := by simp; omega
   simp [h, h1, h2]
 · subst h
   rcases Int.lt_trichotomy n1 n2 with g | g | g
   · have h1 : (n1 != n2) = true := by simp; omega
     have h2 : (n1 == n2) = false := by simp; omega
     simp [g, h1, h2]
   · subst g
     by_cases e : t1.toList = t2.toList
     · have e1 : Op.bytesLess t1.toList t2.toList = false := by rw [e]; exact bl_irr _
       have e2 : (t1.toList == t2.toList) = true := by rw [e]; exact beq_self_eq_true _
       simp [e1, e2]
     · have e2 : (t1.toList == t2.toList) = false := by rw [beq_eq_false_iff_ne]; exact e
       cases e1 : Op.bytesLess t1.toList t2.toList <;> simp [e1, e2]
   · have h1 : (n1 != n2) = true := by simp; omega
     have h2 : (n1 == n2) = false := by simp; omega
     have h3 : ¬ n1 < n2 := by omega
     simp [g, h1, h2, h3]
 · have h1 : (k1 != k2) = true := by simp; omega
   have h2 : (k1 == k2) = false := by simp; omega
   have h3 : ¬ k1 < k2 := by omega
   simp [h, h1, h2, h3]
theorem vk_nl {k : Int} {v : Vl} (hk : KN k) (h : VK k v) : v.k = 0 ↔ v = vNull := by
 constructor
 · intro h0
   rcases h with h | ⟨h1, _⟩
   · exact h
   · exact absurd (h1.symm.trans h0) hk.ne
 · intro h0; rw [h0]; rfl
theorem nl_nil : nl [] = 0 := rfl
theorem nl_cons (v : Vl) (l : List Vl) : nl (v :: l) = (if v.k = 0 then 1 else 0) + nl l := by
 unfold nl
 rw [List.filter_cons]
 by_cases h : v.k = 0
 · simp [h]; omega
 · simp [h]
theorem nl_both : ∀ {ks : List Int} {l : List Vl}, Both ks l → (nl l = 0 ↔ vNull ∉ l)
 | [], [], _ => by simp [nl_nil]
 | k :: ks, v :: l, h => by
   rw [nl_cons]
   have h1 := vk_nl h.1.1 h.1.2
   have h2 := nl_both h.2
   by_cases e : v.k = 0
   · rw [if_pos e]
     have e2 : v = vNull := h1.1 e
     constructor
     · intro h; omega
     · intro h; exact absurd (by rw [e2]; simp) h
   · rw [if_neg e]
     have e2 : vNull ≠ v := fun q => e (h1.2 q.symm)
     rw [Nat.zero_add, h2]
     simp [e2]
theorem str_both {ks : List Int} {l : List Vl} (h : Both ks l) (R : Vl) : strD (nl l) R = strV l R := by
 unfold strD strV
 by_cases hn : vNull ∈ l
 · rw [if_pos hn, if_neg (fun e => (nl_both h).1 e hn)]
 · rw [if_neg hn, if_pos ((nl_both h).2 hn)]
theorem and_both {k k' : Int} {x y : Vl} (h : Both [k, k'] [x, y]) : andD x y (nl [x, y]) (vTru true) = decV false [x, y] := by
 unfold andD decV
 by_cases h1 : x = vTru false ∨ y = vTru false
 · rw [if_pos h1, if_pos (by rcases h1 with h1 | h1 <;> simp [h1])]
 · have hm : ¬ vTru false ∈ [x, y] := fun e => h1 (by
     rcases List.mem_cons.1 e with e | e
     · exact .inl e.symm
     · exact .inr (List.mem_singleton.1 e).symm)
   rw [if_neg h1, if_neg hm]
   by_cases hn : vNull ∈ [x, y]
   · rw [if_pos hn, if_neg (fun e => (nl_both h).1 e hn)]
   · rw [if_neg hn, if_pos ((nl_both h).2 hn)]; rfl
theorem or_both {k k' : Int} {x y : Vl} (h : Both [k, k'] [x, y]) : orD x y (nl [x, y]) (vTru false) = decV true [x, y] := by
 unfold orD decV
 by_cases h1 : x = vTru true ∨ y = vTru true
 · rw [if_pos h1, if_pos (by rcases h1 with h1 | h1 <;> simp [h1])]
 · have hm : ¬ vTru true ∈ [x, y] := fun e => h1 (by
     rcases List.mem_cons.1 e with e | e
     · exact .inl e.symm
     · exact .inr (List.mem_singleton.1 e).symm)
   rw [if_neg h1, if_neg hm]
   by_cases hn : vNull ∈ [x, y]
   · rw [if_pos hn, if_neg (fun e => (nl_both h).1 e hn)]
   · rw [if_neg hn, if_pos ((nl_both h).2 hn)]; rfl
theorem isnull_both {k : Int} {x : Vl} (h : Both [k] [x]) : vTru (decide (nl [x] = 1)) = vTru (decide (vNull ∈ [x])) := by
 congr 1
 rw [decide_eq_decide]
 have h1 := vk_nl h.1.1 h.1.2
 rw [nl_cons, nl_nil]
 by_cases e : x.k = 0
 · rw [if_pos e, h1.1 e]; simp
 · rw [if_neg e]; simp; exact fun q => e (h1.2 q.symm)
theorem coa_both {k : Int} {x y : Vl} (hk : KN k) (h : VK k x) : coaD x y = if x = vNull then y else x := by
 unfold coaD
 by_cases e : x = vNull
 · rw [if_pos e, if_pos ((vk_nl hk h).2 e)]
 · rw [if_neg e, if_neg (fun q => e ((vk_nl hk h).1 q))]
theorem strV_congr {l : List Vl} {R R' : Vl} (h : vNull ∉ l → R = R') : strV l R = strV l R' := by
 unfold strV
 by_cases hn : vNull ∈ l
 · rw [if_pos hn, if_pos hn]
 · rw [if_neg hn, if_neg hn, h hn]
theorem not_val {x : Vl} (h : VK 2 x) (hn : x ≠ vNull) : (x.n == 0) = decide (x = vTru false) := by
 rcases h with h | ⟨h1, ⟨h0, _⟩ | ⟨_, h2, h3⟩ | ⟨h0, _⟩⟩
 · exact absurd h hn
 · exact absurd h0 (by decide)
 · obtain ⟨k, n, t⟩ := x
   simp only at h1 h2 h3
   subst h1; subst h3
   rcases h2 with rfl | rfl <;> decide
 · exact absurd h0 (by decide)
theorem abs_val {x : Vl} (h : VK 1 x) (hn : x ≠ vNull) : (if x.n < 0 then vInt (wrap64 (-x.n)) else x) = vInt (max x.n (wrap64 (-x.n))) := by
 rcases h with h | ⟨h1, ⟨_, h2, h3, h4⟩ | ⟨h0, _⟩ | ⟨h0, _⟩⟩
 · exact absurd h hn
 · obtain ⟨k, n, t⟩ := x
   simp only at h1 h2 h3 h4 ⊢
   subst h1; subst h4
   by_cases hlt : n < 0
   · rw [if_pos hlt]
     congr 1
     unfold wrap64
     omega
   · rw [if_neg hlt]
     show (⟨1, n, ⟨#[]⟩⟩ : Vl) = ⟨1, _, ⟨#[]⟩⟩
     congr 1
     unfold wrap64
     omega
 · exact absurd h0 (by decide)
 · exact absurd h0 (by decide)
end Go.Proofs.YtckdmmfmnhcabaaGreatDoor.Dc
namespace Go.Proofs.YtckdmmfmnhcabaaGreatDoor.Dc
open Go.RowKit
set_option linter.unusedVariables false
set_option linter.unusedSimpArgs false
set_option maxRecDepth 100000

theorem StD.cast {p : Nat} {x y R R' : Vl} {W : World} (h : StD p x y R W) (e : R = R') : StD p x y R' W := e ▸ h
def rsI (s : ByteArray) (x y : Vl) : Vl :=
 if s = bOr then vTru false else if s = bAnd then vTru true
 else if s = bEq ∨ s = bNe ∨ s = bLt ∨ s = bLe ∨ s = bGt ∨ s = bGe then vTru (wantO s (cmpVl x y))
 else if s = bCat then vTxt (cutX (x.t ++ y.t) 60) else if s = bPlus then vInt (wrap64 (x.n + y.n))
 else if s = bMinus then vInt (wrap64 (x.n - y.n)) else if s = bMul then vInt (wrap64 (x.n * y.n))
 else if s = bDiv then (if y.n = 0 then vNull else vInt (wrap64 (x.n.tdiv y.n))) else (if y.n = 0 then vNull else vInt (x.n.tmod y.n))
theorem cut60 (s : ByteArray) : cutX s 60 = ⟨(s.data.toList.take 60).toArray⟩ := by
 unfold cutX cutN
 congr 2
 by_cases h : s.size ≤ 60
 · rw [List.take_of_length_le, List.take_of_length_le]
   · simp; exact h
   · simp
     show s.size ≤ _
     omega
 · congr 1
   omega
theorem cut60_short {s : ByteArray} (h : s.size ≤ 60) : cutX s 60 = s := by
 rw [cut60]
 apply ByteArray.ext
 apply Array.toList_inj.1
 show s.data.toList.take 60 = _
 rw [List.take_of_length_le]
 simp; exact h
theorem wO_eq (o : Int) : wantO bEq o = decide (o = 0) := by unfold wantO; rw [if_pos rfl]
theorem wO_ne (o : Int) : wantO bNe o = decide (o ≠ 0) := by unfold wantO; rw [if_neg (by decide +kernel), if_pos rfl]
theorem wO_lt (o : Int) : wantO bLt o = decide (o < 0) := by unfold wantO; rw [if_neg (by decide +kernel), if_neg (by decide +kernel), if_pos rfl]
theorem wO_le (o : Int) : wantO bLe o = decide (o ≤ 0) := by unfold wantO; rw [if_neg (by decide +kernel), if_neg (by decide +kernel), if_neg (by decide +kernel), if_pos rfl]
theorem wO_gt (o : Int) : wantO bGt o = decide (0 < o) := by unfold wantO; rw [if_neg (by decide +kernel), if_neg (by decide +kernel), if_neg (by decide +kernel), if_neg (by decide +kernel), if_pos rfl]
theorem wO_ge (o : Int) : wantO bGe o = decide (0 ≤ o) := by unfold wantO; rw [if_neg (by decide +kernel), if_neg (by decide +kernel), if_neg (by decide +kernel), if_neg (by decide +kernel), if_neg (by decide +kernel)]
theorem rs_cmp {s : ByteArray} (h : s = bEq ∨ s = bNe ∨ s = bLt ∨ s = bLe ∨ s = bGt ∨ s = bGe) (x y : Vl) : rsI s x y = vTru (wantO s (cmpVl x y)) := by
 unfold rsI
 rw [if_neg (by rcases h with rfl | rfl | rfl | rfl | rfl | rfl <;> decide +kernel), if_neg (by rcases h with rfl | rfl | rfl | rfl | rfl | rfl <;> decide +kernel), if_pos h]
theorem strictI (s : ByteArray) (hs : sgn s ≠ 7) (p : Nat) (x y : Vl) (W : World) (c0 : W.cell? ⟨p, 0, none⟩ = some (.string s)) (hx : x.t.size ≤ 60) (hy : y.t.size ≤ 60) : StD p x y (rsI s x y) W := by
 obtain ⟨q1, q2, q3, q4, q5⟩ := cmp_all x y
 by_cases hOr : s = bOr
 · subst hOr; exact StD.cast (strict_or p x y W c0) (by unfold rsI; rw [if_pos rfl])
 by_cases hAnd : s = bAnd
 · subst hAnd; exact StD.cast (strict_and p x y W c0) (by unfold rsI; rw [if_neg (by decide +kernel), if_pos rfl])
 by_cases hEq : s = bEq
 · subst hEq; exact StD.cast (strict_eq p x y W c0) (by rw [rs_cmp (by simp), wO_eq, q1])
 by_cases hNe : s = bNe
 · subst hNe; exact StD.cast (strict_ne p x y W c0) (by rw [rs_cmp (by simp), wO_ne, ← q1]; simp)
 by_cases hLt : s = bLt
 · subst hLt; exact StD.cast (strict_lt p x y W c0) (by rw [rs_cmp (by simp), wO_lt, q2])
 by_cases hLe : s = bLe
 · subst hLe; exact StD.cast (strict_le p x y W c0) (by rw [rs_cmp (by simp), wO_le, q3])
 by_cases hGt : s = bGt
 · subst hGt; exact StD.cast (strict_gt p x y W c0) (by rw [rs_cmp (by simp), wO_gt, q4])
 by_cases hGe : s = bGe
 · subst hGe; exact StD.cast (strict_ge p x y W c0) (by rw [rs_cmp (by simp), wO_ge, q5])
 have hc : ¬ (s = bEq ∨ s = bNe ∨ s = bLt ∨ s = bLe ∨ s = bGt ∨ s = bGe) := by simp [hEq, hNe, hLt, hLe, hGt, hGe]
 unfold rsI
 rw [if_neg hOr, if_neg hAnd, if_neg hc]
 by_cases hCat : s = bCat
 · subst hCat
   rw [if_pos rfl]
   by_cases hz : x.t.size + y.t.size ≤ 60
   · exact StD.cast (strict_cat p x y W c0 hz) (by rw [cut60_short (by rw [ByteArray.size_append]; exact hz)])
   · exact StD.cast (strict_catL p x y W c0 (by omega) (by omega)) (by rw [cut60])
 rw [if_neg hCat]
 by_cases hPlus : s = bPlus
 · subst hPlus; rw [if_pos rfl]; exact strict_plus p x y W c0
 rw [if_neg hPlus]
 by_cases hMinus : s = bMinus
 · subst hMinus; rw [if_pos rfl]; exact strict_minus2 p x y W c0
 rw [if_neg hMinus]
 by_cases hMul : s = bMul
 · subst hMul; rw [if_pos rfl]; exact strict_mul p x y W c0
 rw [if_neg hMul]
 by_cases hDiv : s = bDiv
 · subst hDiv
   rw [if_pos rfl]
   by_cases hz : y.n = 0
   · rw [if_pos hz]; exact strict_div0 p x y W c0 hz
   · rw [if_neg hz]; exact strict_div p x y W c0 hz
 rw [if_neg hDiv]
 by_cases hMod : s = bMod
 · subst hMod
   by_cases hz : y.n = 0
   · rw [if_pos hz]; exact strict_mod0 p x y W c0 hz
   · rw [if_neg hz]; exact strict_mod p x y W c0 hz
 refine absurd ?_ hs
 unfold sgn
 simp [hOr, hAnd, hEq, hNe, hLt, hLe, hGt, hGe, hPlus, hMinus, hCat, hMul, hDiv, hMod]
theorem str_inf {s : ByteArray} (h1 : s ≠ bOr) (h2 : s ≠ bAnd) (x y : Vl) : evInf s x y = strV [x, y] (rsI s x y) := by
 unfold evInf rsI
 rw [if_neg h1, if_neg h1, if_neg h2, if_neg h2]
 by_cases hc : (s = bEq ∨ s = bNe ∨ s = bLt ∨ s = bLe ∨ s = bGt ∨ s = bGe)
 · rw [if_pos hc, if_pos hc]
 rw [if_neg hc, if_neg hc]
 by_cases hCat : s = bCat
 · rw [if_pos hCat, if_pos hCat]
 rw [if_neg hCat, if_neg hCat]
 by_cases hPlus : s = bPlus
 · rw [if_pos hPlus, if_pos hPlus]
 rw [if_neg hPlus, if_neg hPlus]
 by_cases hMinus : s = bMinus
 · rw [if_pos hMinus, if_pos hMinus]
 rw [if_neg hMinus, if_neg hMinus]
 by_cases hMul : s = bMul
 · rw [if_pos hMul, if_pos hMul]
 rw [if_neg hMul, if_neg hMul]
 by_cases hDiv : s = bDiv
 · rw [if_pos hDiv, if_pos hDiv]
 rw [if_neg hDiv, if_neg hDiv]
theorem strictCut (p : Nat) (x y : Vl) (W : World) (c0 : W.cell? ⟨p, 0, none⟩ = some (.string bCall)) (c6 : W.cell? ⟨p, 6, none⟩ = some (.string bCut)) : StD p x y (vTxt (cutX x.t y.n)) W := by
 by_cases h1 : y.n < 0
 · exact StD.cast (strict_cut0 p x y W c0 c6 h1) (by unfold cutX cutN; rw [show (max 0 (min y.n (x.t.size : Int))).toNat = 0 by omega])
 by_cases h2 : (x.t.size : Int) < y.n
 · exact StD.cast (strict_cut2 p x y W c0 c6 h2) (by unfold cutX cutN; rw [show (max 0 (min y.n (x.t.size : Int))).toNat = x.t.size by omega])
 · exact StD.cast (strict_cut1 p x y W c0 c6 y.n.toNat (by omega) (by omega)) (by unfold cutX cutN; rw [show (max 0 (min y.n (x.t.size : Int))).toNat = y.n.toNat by omega])
theorem strictAbs (p : Nat) (x y : Vl) (W : World) (c0 : W.cell? ⟨p, 0, none⟩ = some (.string bCall)) (c6 : W.cell? ⟨p, 6, none⟩ = some (.string bAbs)) : StD p x y (if x.n < 0 then vInt (wrap64 (-x.n)) else x) W := by
 by_cases h1 : x.n < 0
 · rw [if_pos h1]; exact strict_abs p x y W c0 c6 h1
 · rw [if_neg h1]; exact strict_absP p x y W c0 c6 h1
end Go.Proofs.YtckdmmfmnhcabaaGreatDoor.Dc
namespace Go.Proofs.YtckdmmfmnhcabaaGreatDoor.Dc
open Go.RowKit
set_option linter.unusedVariables false
set_option linter.unusedSimpArgs false
set_option maxRecDepth 100000

theorem evD_cast {f : Nat} {args : Array Value} {W : World} {R R' : Vl} (h : Calls Tryz.prog f args W (EvD W R)) (e : R = R') : Calls Tryz.prog f args W (EvD W R') := e ▸ h
theorem both1 {k : Int} {x : Vl} (hk : KN k) (h : VK k x) : Both [k] [x] := ⟨⟨hk, h⟩, trivial⟩
theorem both2 {k k' : Int} {x y : Vl} (hk : KN k) (h : VK k x) (hk' : KN k') (h' : VK k' y) : Both [k, k'] [x, y] := ⟨⟨hk, h⟩, ⟨hk', h'⟩, trivial⟩
theorem ka_at {w W : World} {lo hi : Nat} {kv : Value} {us : List Value} (h : KAt w lo hi kv us) (hW : Below w.heap.size w W) : KAt W lo hi kv us := h.keep (fun b i u _ _ hc => xcell hW hc) (Nat.le_refl _) (Nat.le_refl _)
theorem pre_kind {s : ByteArray} {k k' : Int} (hs : s = bNot) (h : kOf (opPre s) [k] = some k') : k = 2 := by
 subst hs
 rw [show opPre bNot = ([2], 2) by decide +kernel, kOf1 2 2 k (by decide) (by decide)] at h
 by_cases e : k = 2
 · exact e
 · rw [if_neg e] at h; cases h
theorem evA_len (l : List Vl) : evApp bLen l = strV l (vInt ((l.getD 0 vNull).t.size : Nat)) := by unfold evApp; rw [if_pos rfl]
theorem evA_abs (l : List Vl) : evApp bAbs l = strV l (vInt (max (l.getD 0 vNull).n (wrap64 (-(l.getD 0 vNull).n)))) := by unfold evApp; rw [if_neg (by decide +kernel), if_pos rfl]
theorem evA_cut (l : List Vl) : evApp bCut l = strV l (vTxt (cutX (l.getD 0 vNull).t (l.getD 1 vNull).n)) := by unfold evApp; rw [if_neg (by decide +kernel), if_neg (by decide +kernel), if_pos rfl]
theorem evA_isnull (l : List Vl) : evApp bIsnull l = vTru (decide (vNull ∈ l)) := by unfold evApp; rw [if_neg (by decide +kernel), if_neg (by decide +kernel), if_neg (by decide +kernel), if_pos rfl]
theorem evA_coalesce (l : List Vl) : evApp bCoalesce l = (if l.getD 0 vNull = vNull then l.getD 1 vNull else l.getD 0 vNull) := by unfold evApp; rw [if_neg (by decide +kernel), if_neg (by decide +kernel), if_neg (by decide +kernel), if_neg (by decide +kernel), if_pos rfl]
theorem evA_if (l : List Vl) : evApp bIf l = (if l.getD 0 vNull = vTru true then l.getD 1 vNull else l.getD 2 vNull) := by unfold evApp; rw [if_neg (by decide +kernel), if_neg (by decide +kernel), if_neg (by decide +kernel), if_neg (by decide +kernel), if_neg (by decide +kernel)]
mutual
theorem evalD_x (c : List Co) (a : Option Addr) (cc : Nat) (hm : c.length ≤ maxLen) (vs : List Vl) (ra : Option Addr) (rc : Nat) (hm2 : vs.length ≤ maxLen) (hf : Fit c vs) (w : World) (lo hi : Nat) (hc : ColsAt w a c) (hv : VsAt w ra vs) : ∀ (x : X) (v : Value) (k : Int), Et w lo hi x v → NX x → szX x ≤ 200 → kindX c x = .ok k → LtX x → ∀ W, Below w.heap.size w W → Calls Tryz.prog 16 #[v, .slice a c.length cc, .slice ra vs.length rc] W (EvD W (evX c vs x))
 | .lit k n t, v, k', h, hx, hs, hk, hl, W, hW => by
   rw [Et] at h
   obtain ⟨b, rfl, _, _, c0, c3, c4, c5⟩ := h
   rw [evX]
   exact evalD_lit b k n t _ _ W (xcell hW c0) (xcell hW c3) (xcell hW c4) (xcell hW c5)
 | .col pl nm, v, k', h, hx, hs, hk, hl, W, hW => by
   rw [Et] at h
   obtain ⟨b, rfl, _, _, c0, c1, c6⟩ := h
   obtain ⟨j, hj, hxx, rfl⟩ := col_at hk
   have hj2 : j < vs.length := by rw [hf.len]; exact hj
   rw [evX, hxx, Option.getD_some, show vs.getD j vNull = vs[j] from by simp [List.getD, hj2]]
   exact evalD_col c vs b pl j nm a cc ra rc W (xcell hW c0) (xcell hW c6) (hc.later hW) hm (hv.later hW) hm2 hxx hj2
 | .pre pl s x, v, k', h, hx, hs, hk, hl, W, hW => by
   rw [Et] at h
   obtain ⟨b, kv, u, rfl, _, _, c0, c1, c2, hka, he⟩ := h
   rw [szX] at hs
   rw [kindX] at hk
   obtain ⟨k0, hk0, hk1⟩ := bind_ok hk
   have ih := evalD_x c a cc hm vs ra rc hm2 hf w lo hi hc hv x u k0 he hx.2 (by omega) hk0 hl
   obtain ⟨hkn, hvk⟩ := evX_vk c vs hf x k0 hk0 hl
   rw [evX]
   have c0W := xcell hW c0
   have hS : wPre s = bNot ∨ wPre s = bMinusW := by unfold wPre; split <;> simp
   have hfam : ∀ i (h : i < [evX c vs x].length) (h' : i < [u].length) W', Below W.heap.size W W' → Calls Tryz.prog 16 #[[u][i], .slice a c.length cc, .slice ra vs.length rc] W' (EvD W' [evX c vs x][i]) := fun i h h' W' hW' => by
     obtain rfl : i = 0 := by simp at h; exact h
     exact ih W' (hW.trans (hW'.mono hW.size))
   rcases hx.1 with e | e
   · have hk2 := pre_kind e (orFlt_ok hk1)
     subst e; subst hk2
     rw [wPre_not] at c0W
     refine evD_cast (evN_str c a cc ra vs.length rc b kv [u] [evX c vs x] lo hi W bNot (by decide +kernel) (by decide +kernel) (by decide +kernel) (by decide +kernel) (by decide +kernel) c0W (vTru ((evX c vs x).n == 0)) (fun W' hW' => strict_not b (evX c vs x) vNull W' (xcell hW' c0W)) (xcell hW c2) (ka_at hka hW) rfl (by simp) hfam) ?_
     rw [str_both (both1 hkn hvk)]
     unfold evPre
     rw [if_pos rfl]
     exact strV_congr fun hn => by rw [not_val hvk (fun q => hn (by simp [q]))]
   · subst e
     rw [wPre_minus] at c0W
     refine evD_cast (evN_str c a cc ra vs.length rc b kv [u] [evX c vs x] lo hi W bMinusW (by decide +kernel) (by decide +kernel) (by decide +kernel) (by decide +kernel) (by decide +kernel) c0W (vInt (wrap64 (-(evX c vs x).n))) (fun W' hW' => strict_neg b (evX c vs x) vNull W' (xcell hW' c0W)) (xcell hW c2) (ka_at hka hW) rfl (by simp) hfam) ?_
     rw [str_both (both1 hkn hvk)]
     unfold evPre
     rw [if_neg (by decide +kernel)]
 | .inf pl s l r, v, k', h, hx, hs, hk, hl, W, hW => by
   rw [Et] at h
   obtain ⟨b, kv, u, u', rfl, _, _, c0, c1, c2, hka, he1, he2⟩ := h
   rw [szX] at hs
   rw [kindX] at hk
   obtain ⟨k0, hk0, hk1⟩ := bind_ok hk
   obtain ⟨k1, hk2, hk3⟩ := bind_ok hk1
   have ih1 := evalD_x c a cc hm vs ra rc hm2 hf w lo hi hc hv l u k0 he1 hx.2.1 (by omega) hk0 hl.1
   have ih2 := evalD_x c a cc hm vs ra rc hm2 hf w lo hi hc hv r u' k1 he2 hx.2.2 (by omega) hk2 hl.2
   obtain ⟨hkn, hvk⟩ := evX_vk c vs hf l k0 hk0 hl.1
   obtain ⟨hkn', hvk'⟩ := evX_vk c vs hf r k1 hk2 hl.2
   rw [evX]
   have c0W := xcell hW c0
   have hfam : ∀ i (h : i < [evX c vs l, evX c vs r].length) (h' : i < [u, u'].length) W', Below W.heap.size W W' → Calls Tryz.prog 16 #[[u, u'][i], .slice a c.length cc, .slice ra vs.length rc] W' (EvD W' [evX c vs l, evX c vs r][i]) := fun i h h' W' hW' => by
     match i, h with
     | 0, _ => exact ih1 W' (hW.trans (hW'.mono hW.size))
     | 1, _ => exact ih2 W' (hW.trans (hW'.mono hW.size))
     | i + 2, h => exact absurd h (by simp)
   have hst : ∀ W', Below W.heap.size W W' → StD b (evX c vs l) (evX c vs r) (rsI s (evX c vs l) (evX c vs r)) W' := fun W' hW' => strictI s hx.1 b _ _ W' (xcell hW' c0W) hvk.bounds.2 hvk'.bounds.2
   have hB := both2 hkn hvk hkn' hvk'
   by_cases hOr : s = bOr
   · subst hOr
     refine evD_cast (evN_or c a cc ra vs.length rc b kv [u, u'] [evX c vs l, evX c vs r] lo hi W c0W (rsI bOr (evX c vs l) (evX c vs r)) hst (xcell hW c2) (ka_at hka hW) rfl (by simp) hfam) ?_
     have e1 : rsI bOr (evX c vs l) (evX c vs r) = vTru false := by unfold rsI; rw [if_pos rfl]
     rw [e1]
     show orD (evX c vs l) (evX c vs r) (nl [evX c vs l, evX c vs r]) (vTru false) = _
     rw [or_both hB]
     unfold evInf; rw [if_pos rfl]
   by_cases hAnd : s = bAnd
   · subst hAnd
     refine evD_cast (evN_and c a cc ra vs.length rc b kv [u, u'] [evX c vs l, evX c vs r] lo hi W c0W (rsI bAnd (evX c vs l) (evX c vs r)) hst (xcell hW c2) (ka_at hka hW) rfl (by simp) hfam) ?_
     have e1 : rsI bAnd (evX c vs l) (evX c vs r) = vTru true := by unfold rsI; rw [if_neg (by decide +kernel), if_pos rfl]
     rw [e1]
     show andD (evX c vs l) (evX c vs r) (nl [evX c vs l, evX c vs r]) (vTru true) = _
     rw [and_both hB]
     unfold evInf; rw [if_neg (by decide +kernel), if_pos rfl]
   obtain ⟨q1, q2, q3⟩ := signs_ne hx.1
   refine evD_cast (evN_str c a cc ra vs.length rc b kv [u, u'] [evX c vs l, evX c vs r] lo hi W s q1 q2 (xnl hAnd) (xnl hOr) q3 c0W (rsI s (evX c vs l) (evX c vs r)) hst (xcell hW c2) (ka_at hka hW) rfl (by simp) hfam) ?_
   rw [str_both hB, str_inf hOr hAnd]
 | .app pl nm l, v, k', h, hx, hs, hk, hl, W, hW => by
   rw [Et] at h
   obtain ⟨b, kv, us, rfl, _, _, c0, c1, c6, c2, hka, he⟩ := h
   rw [szX] at hs
   rw [kindX] at hk
   cases ho : opApp nm with
   | none => rw [ho] at hk; cases hk
   | some o =>
     rw [ho] at hk
     obtain ⟨ks, hk0, hk1⟩ := bind_ok hk
     have hll := szXs_len l
     have ih := evalD_l c a cc hm vs ra rc hm2 hf w lo hi hc hv l us ks he hx (by omega) hk0 hl
     have hb := evXs_vk c vs hf l ks hk0 hl
     have hkk := orFlt_ok hk1
     have hkl : ks.length = o.1.length := Go.Proofs.YtckdmmfmnhcabaaGreatDoor.kOf_len hkk
     have hel := evXs_len c vs l
     have hul : us.length = (evXs c vs l).length := by rw [hel]; exact ih.1
     have hmx : (evXs c vs l).length ≤ 3 := by
       rw [hb.len, hkl]
       rcases opApp_cases ho with ⟨_, rfl⟩ | ⟨_, rfl⟩ | ⟨_, rfl⟩ | ⟨_, rfl⟩ | ⟨_, rfl⟩ | ⟨_, rfl⟩ <;> simp
     have hfam : ∀ i (h : i < (evXs c vs l).length) (h' : i < us.length) W', Below W.heap.size W W' → Calls Tryz.prog 16 #[us[i], .slice a c.length cc, .slice ra vs.length rc] W' (EvD W' (evXs c vs l)[i]) := fun i h h' W' hW' => ih.2 i h h' W' (hW.trans (hW'.mono hW.size))
     have c0W := xcell hW c0
     have c6W := xcell hW c6
     have c2W := xcell hW c2
     have hkaW := ka_at hka hW
     rw [evX]
     generalize evXs c vs l = L at *
     clear he ih hel
     rcases opApp_cases ho with ⟨rfl, rfl⟩ | ⟨rfl, rfl⟩ | ⟨rfl, rfl⟩ | ⟨rfl, rfl⟩ | ⟨rfl, rfl⟩ | ⟨rfl, rfl⟩
     · obtain ⟨k0, rfl⟩ := len1 hkl
       obtain ⟨x, rfl, hkn, hvk⟩ := hb.one
       refine evD_cast (evN_fun c a cc ra vs.length rc b kv us [x] lo hi W bLen (by decide +kernel) (by decide +kernel) (by decide +kernel) c0W c6W (vInt (x.t.size : Nat)) (fun W' hW' => strict_len b x vNull W' (xcell hW' c0W) (xcell hW' c6W)) c2W hkaW hul hmx hfam) ?_
       rw [str_both (both1 hkn hvk), evA_len]; rfl
     · obtain ⟨k0, rfl⟩ := len1 hkl
       obtain ⟨x, rfl, hkn, hvk⟩ := hb.one
       have hk1' : k0 = 1 := by
         rw [kO_abs] at hkk
         by_cases e : k0 = 1
         · exact e
         · rw [if_neg e] at hkk; cases hkk
       subst hk1'
       refine evD_cast (evN_fun c a cc ra vs.length rc b kv us [x] lo hi W bAbs (by decide +kernel) (by decide +kernel) (by decide +kernel) c0W c6W (if x.n < 0 then vInt (wrap64 (-x.n)) else x) (fun W' hW' => strictAbs b x vNull W' (xcell hW' c0W) (xcell hW' c6W)) c2W hkaW hul hmx hfam) ?_
       rw [str_both (both1 hkn hvk), evA_abs]
       exact strV_congr fun hn => abs_val hvk (fun q => hn (by simp [q]))
     · obtain ⟨k0, k1, rfl⟩ := len2 hkl
       obtain ⟨x, y, rfl, ⟨hkn, hvk⟩, hkn', hvk'⟩ := hb.two
       refine evD_cast (evN_fun c a cc ra vs.length rc b kv us [x, y] lo hi W bCut (by decide +kernel) (by decide +kernel) (by decide +kernel) c0W c6W (vTxt (cutX x.t y.n)) (fun W' hW' => strictCut b x y W' (xcell hW' c0W) (xcell hW' c6W)) c2W hkaW hul hmx hfam) ?_
       rw [str_both (both2 hkn hvk hkn' hvk'), evA_cut]; rfl
     · obtain ⟨k0, rfl⟩ := len1 hkl
       obtain ⟨x, rfl, hkn, hvk⟩ := hb.one
       refine evD_cast (evN_isnull c a cc ra vs.length rc b kv us [x] lo hi W c0W c6W c2W hkaW hul hmx hfam) ?_
       rw [isnull_both (both1 hkn hvk), evA_isnull]
     · obtain ⟨k0, k1, rfl⟩ := len2 hkl
       obtain ⟨x, y, rfl, ⟨hkn, hvk⟩, hkn', hvk'⟩ := hb.two
       refine evD_cast (evN_coalesce c a cc ra vs.length rc b kv us [x, y] lo hi W c0W c6W c2W hkaW hul hmx hfam) ?_
       show coaD x y = _
       rw [coa_both hkn hvk, evA_coalesce]; rfl
     · obtain ⟨k0, k1, k2, rfl⟩ := len3 hkl
       obtain ⟨x, y, z, rfl, ⟨hkn, hvk⟩, ⟨hkn', hvk'⟩, hkn2, hvk2⟩ := hb.three
       refine evD_cast (evN_if c a cc ra vs.length rc b kv us [x, y, z] lo hi W c0W c6W c2W hkaW hul hmx hfam) ?_
       show ifD x y z = _
       rw [evA_if]; rfl
theorem evalD_l (c : List Co) (a : Option Addr) (cc : Nat) (hm : c.length ≤ maxLen) (vs : List Vl) (ra : Option Addr) (rc : Nat) (hm2 : vs.length ≤ maxLen) (hf : Fit c vs) (w : World) (lo hi : Nat) (hc : ColsAt w a c) (hv : VsAt w ra vs) : ∀ (l : List X) (us : List Value) (ks : List Int), Ets w lo hi l us → NXs l → szXs l ≤ 200 → kindsX c l = .ok ks → LtXs l → us.length = l.length ∧ ∀ i (h : i < (evXs c vs l).length) (h' : i < us.length) W, Below w.heap.size w W → Calls Tryz.prog 16 #[us[i], .slice a c.length cc, .slice ra vs.length rc] W (EvD W (evXs c vs l)[i])
 | [], us, ks, h, _, _, _, _ => by
   rw [Ets] at h
   subst h
   exact ⟨rfl, fun i h h' => absurd h' (by simp)⟩
 | x :: l, us, ks, h, hx, hs, hk, hl => by
   rw [Ets] at h
   obtain ⟨u, us', rfl, he, hel⟩ := h
   rw [szXs] at hs
   rw [kindsX] at hk
   obtain ⟨k0, hk0, hk1⟩ := bind_ok hk
   obtain ⟨k1, hk2, hk3⟩ := bind_ok hk1
   have ih1 := evalD_x c a cc hm vs ra rc hm2 hf w lo hi hc hv x u k0 he hx.1 (by omega) hk0 hl.1
   have ih2 := evalD_l c a cc hm vs ra rc hm2 hf w lo hi hc hv l us' k1 hel hx.2 (by omega) hk2 hl.2
   refine ⟨by simp [ih2.1], fun i h h' W hW => ?_⟩
   cases i with
   | zero => simp only [evXs, List.getElem_cons_zero]; exact ih1 W hW
   | succ i => simp only [evXs, List.getElem_cons_succ]; exact ih2.2 i (by simpa [evXs] using h) (by simpa using h') W hW
end
end Go.Proofs.YtckdmmfmnhcabaaGreatDoor.Dc
namespace Go.Proofs.YtckdmmfmnhcabaaGreatDoor.Dc
open Go.RowKit
set_option linter.unusedVariables false
set_option linter.unusedSimpArgs false
set_option maxRecDepth 100000

mutual
def AX (P : Int → Int → ByteArray → Prop) : X → Prop
 | .lit k n t => P k n t
 | .col _ _ => True
 | .pre _ _ x => AX P x
 | .inf _ _ l r => AX P l ∧ AX P r
 | .app _ _ l => AXs P l
def AXs (P : Int → Int → ByteArray → Prop) : List X → Prop
 | [] => True
 | x :: l => AX P x ∧ AXs P l
end
theorem AXs.snoc {P : Int → Int → ByteArray → Prop} {x : X} (hx : AX P x) : ∀ {l : List X}, AXs P l → AXs P (l ++ [x])
 | [], _ => ⟨hx, trivial⟩
 | y :: l, h => ⟨h.1, AXs.snoc hx h.2⟩
def MAx (P : Int → Int → ByteArray → Prop) : Mode → Prop
 | .D _ => True
 | .J _ l => AX P l
 | .Z _ nm => True
 | .A _ nm l => AXs P l
theorem ps_ax {P : Int → Int → ByteArray → Prop} {L : ByteArray → Int → Int → ByteArray → Prop} (hL : ∀ s k n t, L s k n t → P k n t) {E : Nat} {m : Mode} {lev : Nat} {ts : List Tk} {o : PR} (h : Ps L E m lev ts o) :
   MAx P m → ∀ x ts', o = .ok (x, ts') → AX P x := by
 induction h with
 | jend h => intro hm x ts' e; cases e; exact hm
 | jok hj hp _ ih1 ih2 => intro hm x ts' e; exact ih2 (ih1 trivial _ _ rfl) x ts' e
 | jstep hs hp _ ih1 ih2 => intro hm x ts' e; exact ih2 ⟨hm, ih1 trivial _ _ rfl⟩ x ts' e
 | pok hpr ht _ _ ih1 => intro hm x ts' e; cases e; have h := ih1 trivial _ _ rfl; exact h
 | pnone _ _ _ ih1 => intro hm x ts' e; exact ih1 trivial _ _ e
 | cnone _ _ ih1 => intro hm x ts' e; cases e; exact ih1 trivial _ _ rfl
 | cok hp hs _ ih1 ih2 => intro hm x ts' e; cases e; exact ⟨ih1 trivial _ _ rfl, ih2 trivial _ _ rfl⟩
 | lit hl hk => intro hm x ts' e; cases e; exact hL _ _ _ _ hk
 | ncol => intro hm x ts' e; cases e; exact trivial
 | zend => intro hm x ts' e; cases e; exact trivial
 | aend => intro hm x ts' e; cases e; exact hm
 | ook _ _ _ _ _ ih1 => intro hm x ts' e; cases e; exact ih1 trivial _ _ rfl
 | nargs _ _ _ _ _ _ _ _ ih1 => intro hm x ts' e; exact ih1 trivial _ _ e
 | zok _ hp _ ih1 ih2 => intro hm x ts' e; exact ih2 ⟨ih1 trivial _ _ rfl, trivial⟩ x ts' e
 | aok _ hp _ ih1 ih2 => intro hm x ts' e; exact ih2 (AXs.snoc (ih1 trivial _ _ rfl) hm) x ts' e
 | _ => intro hm x ts' e; cases e
def VL (k n : Int) (t : ByteArray) : Prop := Vl.validB k n t = true ∧ -9223372036854775808 ≤ n ∧ n ≤ 9223372036854775807
theorem vl_lt {k n : Int} {t : ByteArray} (h : VL k n t) (hk : k ≠ 0) : (k = 1 ∨ k = 2 ∨ k = 3) ∧ VK k ⟨k, n, t⟩ := by
 have hkn : KN k := by
   have := h.1
   unfold Vl.validB at this
   rw [if_neg hk] at this
   by_cases h1 : k = 1
   · exact .inl h1
   by_cases h2 : k = 2
   · exact .inr (.inl h2)
   by_cases h3 : k = 3
   · exact .inr (.inr h3)
   rw [if_neg h1, if_neg h2, if_neg h3] at this
   cases this
 refine ⟨hkn, valid_vk (v := ⟨k, n, t⟩) ?_ hkn ⟨h.2.1, h.2.2⟩⟩
 unfold okV
 rw [show Vc.validB k n t = true from h.1]
 simp
mutual
theorem ax_lt : ∀ x : X, AX VL x → NX x → LtX x
 | .lit k n t, h, hx => vl_lt h hx
 | .col _ _, h, hx => trivial
 | .pre _ _ x, h, hx => ax_lt x h hx.2
 | .inf _ _ l r, h, hx => ⟨ax_lt l h.1 hx.2.1, ax_lt r h.2 hx.2.2⟩
 | .app _ _ l, h, hx => axs_lt l h hx
theorem axs_lt : ∀ l : List X, AXs VL l → NXs l → LtXs l
 | [], h, hx => trivial
 | x :: l, h, hx => ⟨ax_lt x h.1 hx.1, axs_lt l h.2 hx.2⟩
end
theorem px_lt {s : ByteArray} (x : X) (h : PX LV s (.ok x)) : LtX x := by
 refine ax_lt x ?_ (px_nx nzLV h)
 cases h with
 | ok h1 h2 h3 => exact ps_ax (P := VL) (fun s k n t h => ⟨h.1, h.2.1, h.2.2.1⟩) h3 trivial _ _ rfl
theorem cols_kn {c : List Co} (h : colsX c) : ∀ x ∈ c, KN x.k := by
 intro x hx
 obtain ⟨i, hi, rfl⟩ := List.getElem_of_mem hx
 exact (h.2 i hi).2.2
theorem ck_why {c : List Co} {s : ByteArray} {o : Except Flt X} {f : Flt} (ho : PX LV s o) (h : ckO c o = .error f) : f.why ≠ 0 := by
 cases o with
 | error g =>
   have e : g = f := by simpa [ckO] using h
   subst e
   exact px_why (fun hp => Ps.why hp _ rfl) ho
 | ok y =>
   by_cases hc : colsX c
   · rw [ckO, if_pos hc] at h
     cases hk : kindX c y with
     | error g =>
       rw [hk] at h
       have e : g = f := by simpa [Except.bind] using h
       subst e
       exact kindX_why c y _ hk
     | ok k => rw [hk] at h; simp [Except.bind] at h
   · rw [ckO, if_neg hc] at h
     injection h with e
     rw [← e]; decide
theorem eval_V (w : World) (h2 : Vl.Sen w) (h3 : Vl.Sen3 w) (ht : Vl.Tab w) (s : ByteArray) (a : Option Addr) (cc : Nat) (c : List Co) (ra : Option Addr) (rc : Nat) (vs : List Vl) (hc : ColsAt w a c) (hm : c.length ≤ maxLen) (hz : ∀ x ∈ c, x.nm.size ≤ 140737488355328)
   (hv : VsAt w ra vs) (hm2 : vs.length ≤ maxLen) (hz2 : ∀ v ∈ vs, v.t.size ≤ maxLen) (hn : ∀ v ∈ vs, -9223372036854775808 ≤ v.n ∧ v.n ≤ 9223372036854775807) : ∃ o, PX LV s o ∧
   (Calls Tryz.prog 14 #[.string s, .slice a c.length cc, .slice ra vs.length rc] w fun e w' => Below w.heap.size w w' ∧ e = .returned (evV (evO c vs o))) ∧
   (∀ W, Below w.heap.size w W → Calls Tryz.prog 9 #[.string s, .slice a c.length cc] W fun e w' => Below W.heap.size W w' ∧
     match ckO c o with
     | .ok (x, k) => ∃ b, e = .returned (.tuple #[.pointer (some ⟨b, 0, none⟩), .int .i64 k, .int .i64 0, .int .i64 0]) ∧ (fitsB c vs = true → ∀ W', Below w'.heap.size w' W' → Calls Tryz.prog 16 #[.pointer (some ⟨b, 0, none⟩), .slice a c.length cc, .slice ra vs.length rc] W' (EvD W' (evX c vs x)))
     | .error f => ∃ pv, e = .returned (.tuple #[.pointer pv, .int .i64 0, .int .i64 f.why, .int .i64 f.pl])) := by
 have hR := rdOkLV w h2 h3 ht
 have hG : ∀ W W' r, (∀ k, r = some k → w.heap.size ≤ k) → Below w.heap.size w W → W.grownBy W' r → Below w.heap.size w W' := fun W W' r h1 h2 h3 => xbNew h2 h3 (fun n hn => h1 n hn)
 obtain ⟨o, ho⟩ := px_exi oneLV hR s w hG (Below.refl _ _)
 refine ⟨o, ho, ?_, fun W hW => ?_⟩
 · refine (eval_any oneLV hR s (fun x hx => px_lt x hx) a cc c ra rc vs w hG (Below.refl _ _) hc hm hz hv hm2 hz2 hn cols_kn).mono ?_
   rintro e w' ⟨hb, o', ho', rfl⟩
   cases ho'.one oneLV ho
   exact ⟨hb, rfl⟩
 · refine (checkD_any dRdLV trueLV falseLV nzLV s a cc c W (hc.later hW) hm hz).mono ?_
   rintro e w' ⟨hb, o', ho', h⟩
   cases ho'.one oneLV ho
   refine ⟨hb, ?_⟩
   cases hck : ckO c o with
   | error f => rw [hck] at h; exact h
   | ok p =>
     obtain ⟨x, k⟩ := p
     rw [hck] at h
     obtain ⟨b, rfl, het⟩ := h
     refine ⟨b, rfl, fun hft W' hW' => ?_⟩
     have hcols : colsX c := by
       by_cases hcc : colsX c
       · exact hcc
       · cases o with
         | error f => simp [ckO] at hck
         | ok y => simp [ckO, hcc] at hck
     have hkx : kindX c x = .ok k ∧ PX LV s (.ok x) := by
       cases o with
       | error f => simp [ckO] at hck
       | ok y =>
         rw [ckO, if_pos hcols] at hck
         obtain ⟨k', h1, h2⟩ := bind_ok hck
         cases h2
         exact ⟨h1, ho⟩
     have hbw := hW.trans (hb.mono hW.size)
     exact evalD_x c a cc hm vs ra rc hm2 (fit_of hft (cols_kn hcols) hn) w' _ _ (hc.later hbw) (hv.later hbw) x _ k het (px_nx nzLV hkx.2) hkx.2.size hkx.1 (px_lt x hkx.2) W' hW'
end Go.Proofs.YtckdmmfmnhcabaaGreatDoor.Dc
namespace Go.Proofs.YtckdmmfmnhcabaaGreatDoor.Dc
open Go.RowKit
set_option linter.unusedVariables false
set_option linter.unusedSimpArgs false
set_option maxRecDepth 100000
attribute [local go_sem ↓] neqlV eqlV
attribute [local go_sem] guardV

theorem EtyL {w w' : World} (h : Td.Ety w) (hb : Below w.heap.size w w') : Td.Ety w' := xcell hb h
set_option maxHeartbeats 4000000 in
theorem evals_walk (s : ByteArray) (a : Option Addr) (cc : Nat) (c : List Co) (ra : Option Addr) (rc : Nat) (vs : List Vl) (w : World) (h2 : Vl.Sen w) (h3 : Vl.Sen3 w) (ht : Vl.Tab w) (he : Td.Ety w) (hc : ColsAt w a c) (hm : c.length ≤ maxLen) (hz : ∀ x ∈ c, x.nm.size ≤ 140737488355328)
   (hv : VsAt w ra vs) (hm2 : vs.length ≤ maxLen) (hz2 : ∀ v ∈ vs, v.t.size ≤ maxLen) (hn : ∀ v ∈ vs, -9223372036854775808 ≤ v.n ∧ v.n ≤ 9223372036854775807) :
   Calls Tryz.prog 5 #[.string s, .slice a c.length cc, .slice ra vs.length rc] w fun e w' => e = .returned (.bool true) ∧ Below w.heap.size w w' := by
 obtain ⟨o, ho, hP, hD⟩ := eval_V w h2 h3 ht s a cc c ra rc vs hc hm hz hv hm2 hz2 hn
 have hF : ∀ W, Below w.heap.size w W → Calls Tryz.prog 15 #[.slice ra vs.length rc, .slice a c.length cc] W fun e w' => e = .returned (.bool (fitsB c vs)) ∧ Below W.heap.size W w' := fun W hW => fitsD_any c vs a cc ra rc W (hc.later hW) hm (hv.later hW) hm2 hz2
 have HP := hidMk' hP
 have HD := hidMk' hD
 have HF := hidMk' hF
 have HE := hidMk' he
 have HO := hidMk' ho
 clear hP hD he h2 h3 ht hc hm hz hv hm2 hz2 hn hF ho
 unfold evV evO at HP
 cases hck : ckO c o with
 | error f =>
   have hw0 := ck_why HO.out hck
   rw [hck] at HP HD
   clear hck
   have hwb : ((f.why : Int) != 0) = true := by simp; omega
   have hP' : Hid (Calls Tryz.prog 14 #[.string s, .slice a c.length cc, .slice ra vs.length rc] w fun e w' => Below w.heap.size w w' ∧ e = .returned (.tuple #[.agg #[.int .i64 0, .int .i64 0, .string ⟨#[]⟩], .iface 31 (.int .i64 f.why)])) := HP.out
   clear HP hw0 HO
   go_enter Tryz.func5, Tryz.ntmps5
   go_wp2_with fail
   refine hP'.out.mono ?_
   rintro e w1 ⟨hb1, rfl⟩
   have HB1 := hidMk' hb1
   clear hb1
   go_wp2_with fail
   refine (HD.out _ (HB1.out.trans ((xbel1 w1 _).mono HB1.out.size))).mono ?_
   rintro e w2 ⟨hb2, pv, rfl⟩
   have HB2 : Hid (Below w.heap.size w w2) := (HB1.out.trans ((xbel1 w1 _).mono HB1.out.size)).trans (hb2.mono (by simp; have := HB1.out.size; omega))
   have HV2 := hidMk' ((Own.new w1 42 3 #[.int .i64 0, .int .i64 0, .string ⟨#[]⟩] rfl).later hb2)
   clear hb2 HB1 hP' HD
   go_wp2_with fail
   refine (Td.told_errno f.why _ (EtyL HE.out HB2.out)).mono ?_
   rintro e w3 ⟨rfl, hb3⟩
   have HB3 : Hid (Below w.heap.size w w3) := HB2.out.trans (hb3.mono HB2.out.size)
   have HV := hidMk' (HV2.out.later hb3)
   have v0 : w3.cell? ⟨w1.heap.size, 0, none⟩ = some (.int .i64 0) := HV.out.cell 0 (by decide)
   have v1 : w3.cell? ⟨w1.heap.size, 1, none⟩ = some (.int .i64 0) := HV.out.cell 1 (by decide)
   have v2 : w3.cell? ⟨w1.heap.size, 2, none⟩ = some (.string ⟨#[]⟩) := HV.out.cell 2 (by decide)
   have hvl := HV.out.lt
   have hee : eqB 0 0 ⟨#[]⟩ 0 0 ⟨#[]⟩ = true := by decide +kernel
   clear hb3 HB2 HV2 HV
   go_wp2_with fail
   first | (go_quiet (fail); go_wp2_with fail) | skip
   go_ret
   exact ⟨by simp [hee], by first | exact HB3.out | exact Below.drewN' HB3.out | exact HB3.out.drew⟩
 | ok p =>
   obtain ⟨x, k⟩ := p
   rw [hck] at HP HD
   clear hck HO
   cases hft : fitsB c vs with
   | false =>
     rw [hft] at HF
     simp only [hft] at HP
     have hP' : Hid (Calls Tryz.prog 14 #[.string s, .slice a c.length cc, .slice ra vs.length rc] w fun e w' => Below w.heap.size w w' ∧ e = .returned (.tuple #[.agg #[.int .i64 0, .int .i64 0, .string ⟨#[]⟩], .iface 31 (.int .i64 ((4 : Nat) : Int))])) := HP.out
     have hD' : Hid (∀ W, Below w.heap.size w W → Calls Tryz.prog 9 #[.string s, .slice a c.length cc] W fun e w' => Below W.heap.size W w' ∧ ∃ b, e = .returned (.tuple #[.pointer (some ⟨b, 0, none⟩), .int .i64 k, .int .i64 0, .int .i64 0])) := fun W hW => (HD.out W hW).mono (fun e w' ⟨h1, b, h2, _⟩ => ⟨h1, b, h2⟩)
     clear HP HD hft
     go_enter Tryz.func5, Tryz.ntmps5
     go_wp2_with fail
     refine hP'.out.mono ?_
     rintro e w1 ⟨hb1, rfl⟩
     have HB1 := hidMk' hb1
     clear hb1
     go_wp2_with fail
     refine (hD'.out _ (HB1.out.trans ((xbel1 w1 _).mono HB1.out.size))).mono ?_
     rintro e w2 ⟨hb2, pb, rfl⟩
     have HB2 : Hid (Below w.heap.size w w2) := (HB1.out.trans ((xbel1 w1 _).mono HB1.out.size)).trans (hb2.mono (by simp; have := HB1.out.size; omega))
     have HV2 := hidMk' ((Own.new w1 42 3 #[.int .i64 0, .int .i64 0, .string ⟨#[]⟩] rfl).later hb2)
     clear hb2 HB1 hP' hD'
     go_wp2_with fail
     refine (Td.told_errno 4 _ (EtyL HE.out HB2.out)).mono ?_
     rintro e w3 ⟨rfl, hb3⟩
     have HB3 : Hid (Below w.heap.size w w3) := HB2.out.trans (hb3.mono HB2.out.size)
     have HV3 := hidMk' (HV2.out.later hb3)
     clear hb3 HB2 HV2
     go_wp2_with fail
     refine (HF.out _ HB3.out).mono ?_
     rintro e w4 ⟨rfl, hb4⟩
     have HB4 : Hid (Below w.heap.size w w4) := HB3.out.trans (hb4.mono HB3.out.size)
     have HV := hidMk' (HV3.out.later hb4)
     have v0 : w4.cell? ⟨w1.heap.size, 0, none⟩ = some (.int .i64 0) := HV.out.cell 0 (by decide)
     have v1 : w4.cell? ⟨w1.heap.size, 1, none⟩ = some (.int .i64 0) := HV.out.cell 1 (by decide)
     have v2 : w4.cell? ⟨w1.heap.size, 2, none⟩ = some (.string ⟨#[]⟩) := HV.out.cell 2 (by decide)
     have hvl := HV.out.lt
     have hee : eqB 0 0 ⟨#[]⟩ 0 0 ⟨#[]⟩ = true := by decide +kernel
     clear hb4 HB3 HV3 HV HF
     go_wp2_with fail
     first | (go_quiet (fail); go_wp2_with fail) | skip
     go_ret
     exact ⟨by simp [hee], by first | exact HB4.out | exact Below.drewN' HB4.out | exact HB4.out.drew⟩
   | true =>
     rw [hft] at HF
     simp only [hft] at HP
     generalize hV : evX c vs x = V at *
     have hP' : Hid (Calls Tryz.prog 14 #[.string s, .slice a c.length cc, .slice ra vs.length rc] w fun e w' => Below w.heap.size w w' ∧ e = .returned (.tuple #[.agg #[.int .i64 V.k, .int .i64 V.n, .string V.t], .nilIface])) := HP.out
     have hD' : Hid (∀ W, Below w.heap.size w W → Calls Tryz.prog 9 #[.string s, .slice a c.length cc] W fun e w' => Below W.heap.size W w' ∧ ∃ b, e = .returned (.tuple #[.pointer (some ⟨b, 0, none⟩), .int .i64 k, .int .i64 0, .int .i64 0]) ∧ Hid (∀ W', Below w'.heap.size w' W' → Calls Tryz.prog 16 #[.pointer (some ⟨b, 0, none⟩), .slice a c.length cc, .slice ra vs.length rc] W' (EvD W' V))) := fun W hW => (HD.out W hW).mono (fun e w' ⟨h1, b, h2, h3⟩ => ⟨h1, b, h2, by rw [← hV]; exact h3 (by first | exact hft | rfl)⟩)
     clear HP HD hft hV
     go_enter Tryz.func5, Tryz.ntmps5
     go_wp2_with fail
     refine hP'.out.mono ?_
     rintro e w1 ⟨hb1, rfl⟩
     have HB1 := hidMk' hb1
     clear hb1
     go_wp2_with fail
     refine (hD'.out _ (HB1.out.trans ((xbel1 w1 _).mono HB1.out.size))).mono ?_
     rintro e w2 ⟨hb2, pb, rfl, HEV⟩
     have HB2 : Hid (Below w.heap.size w w2) := (HB1.out.trans ((xbel1 w1 _).mono HB1.out.size)).trans (hb2.mono (by simp; have := HB1.out.size; omega))
     have HV2 := hidMk' ((Own.new w1 42 3 #[.int .i64 V.k, .int .i64 V.n, .string V.t] rfl).later hb2)
     clear hb2 HB1 hP' hD'
     go_wp2_with fail
     refine (Td.told_nil _).mono ?_
     rintro e w3 ⟨rfl, h⟩
     have := h.symm; subst this
     go_wp2_with fail
     refine (HF.out _ HB2.out).mono ?_
     rintro e w4 ⟨rfl, hb4⟩
     have HB4 : Hid (Below w.heap.size w w4) := HB2.out.trans (hb4.mono HB2.out.size)
     have HV4 := hidMk' (HV2.out.later hb4)
     have HEV4 : Hid (Calls Tryz.prog 16 #[.pointer (some ⟨pb, 0, none⟩), .slice a c.length cc, .slice ra vs.length rc] w4 (EvD w4 V)) := HEV.out w4 hb4
     clear hb4 HB2 HV2 HF HEV
     go_wp2_with fail
     refine HEV4.out.mono ?_
     rintro e w5 ⟨hb5, rfl⟩
     have HB5 : Hid (Below w.heap.size w w5) := HB4.out.trans (hb5.mono HB4.out.size)
     have HV := hidMk' (HV4.out.later hb5)
     have v0 : w5.cell? ⟨w1.heap.size, 0, none⟩ = some (.int .i64 V.k) := HV.out.cell 0 (by decide)
     have v1 : w5.cell? ⟨w1.heap.size, 1, none⟩ = some (.int .i64 V.n) := HV.out.cell 1 (by decide)
     have v2 : w5.cell? ⟨w1.heap.size, 2, none⟩ = some (.string V.t) := HV.out.cell 2 (by decide)
     have hvl := HV.out.lt
     have hee : eqB V.k V.n V.t V.k V.n V.t = true := by rw [eqB_iff]; exact decide_eq_true rfl
     have HB6 : Hid (Below w.heap.size w (w5.alloc (.cells #[.int .i64 V.k, .int .i64 V.n, .string V.t] 42))) := HB5.out.trans ((xbel1 w5 _).mono HB5.out.size)
     clear hb5 HB4 HV4 HV HEV4
     unfold vV
     go_wp2_with fail
     first | (go_quiet (fail); go_wp2_with fail) | skip
     go_ret
     exact ⟨by simp [hee], by first | exact HB6.out | exact Below.drewN' HB6.out | exact HB6.out.drew⟩
end Go.Proofs.YtckdmmfmnhcabaaGreatDoor.Dc
