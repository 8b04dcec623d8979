import Derived.Test.YtckdmmfmnhcabaaGreatDoorPb1
import Derived.Test.YtckdmmfmnhcabaaGreatDoorShelfJ
import Derived.Test.YtckdmmfmnhcabaaGreatDoorChA
namespace Go.Proofs.YtckdmmfmnhcabaaGreatDoor
open Go.RowKit
set_option linter.unusedVariables false
set_option linter.unusedSimpArgs false
set_option maxRecDepth 100000
set_option maxHeartbeats 4000000
attribute [local go_sem] ta_lit_lit ta_col_lit ta_pre_lit ta_inf_lit ta_cal_lit ta_lit_col ta_col_col ta_pre_col ta_inf_col ta_cal_col ta_lit_pre ta_col_pre ta_pre_pre ta_inf_pre ta_cal_pre ta_lit_inf ta_col_inf ta_pre_inf ta_inf_inf ta_cal_inf ta_lit_cal ta_col_cal ta_pre_cal ta_inf_cal ta_cal_cal
theorem rkX_nonneg (x : X) : 0 ≤ rkX x := by
 cases x with
 | pre pl s x => show (0 : Int) ≤ preRank s; unfold preRank; split <;> omega
 | inf pl s l r => show (0 : Int) ≤ (sgn s : Int); omega
 | lit k n t => show (0 : Int) ≤ 7; omega
 | col pl nm => show (0 : Int) ≤ 7; omega
 | app pl nm l => show (0 : Int) ≤ 7; omega
def strs (l : List ByteArray) : List Value := l.map fun s => .string s
theorem strs_len (l : List ByteArray) : (strs l).length = l.length := by unfold strs; simp
def commas (l : List ByteArray) : ByteArray := ⟨(Lib.join (l.map (·.data.toList)) bSep.data.toList).toArray⟩
theorem infoStr : (Tryz.prog.info? 9).map (fun i => (i.zero, i.size, i.bytes)) = some (some (.string ⟨#[]⟩), 1, 16) := by kernel_rfl
theorem written_call (pl : Int) (nm : ByteArray) (ta : Option Addr) (tn tc : Nat) (gv : Int) (f : Value) (hf : f = .nilFunc ∨ ∃ n k, f = .func (.func n) #[] k) (pa : Option Addr) (pc : Nat) (us : List Value) (ok : Bool) (g : Nat) (w : World) (hP : Lst w g (.slice pa us.length pc) us) (hm : us.length ≤ 200) (Ss : List ByteArray) (hl : Ss.length = us.length) (hc : (commas Ss).size ≤ 100000000) (hn : nm.size ≤ 1000) (H : ∀ (i : Nat) u S, us[i]? = some u → Ss[i]? = some S → ∀ W, Below w.heap.size w W → Calls Tryz.prog 48 #[u, .int .i64 0] W fun e w' => e = .returned (.string S) ∧ Below W.heap.size W w') :
   Calls Tryz.prog 24 #[.iface 121 (.agg #[.int .i64 pl, .slice ta tn tc, .int .i64 gv, f, .slice pa us.length pc, .string nm, .bool ok])] w fun e w' => e = .returned (.string (nm ++ bOpn ++ commas Ss ++ bCls)) ∧ Below w.heap.size w w' := by
 obtain ⟨i0, hi0, hz0, hz1, hz2⟩ := info_parts infoStr
 have hmk : ∀ W : World, (Instr.makeSlice 50 (.int .i64 (us.length : Int)) (.int .i64 (us.length : Int))).run Tryz.prog W = .ok (.slice (some ⟨W.heap.size, 0, none⟩) us.length us.length) (W.alloc (.cells (madeCells #[.string ⟨#[]⟩] us.length) 9)) := fun W => by
   have := run_make (P := Tryz.prog) W 50 9 i0 (.string ⟨#[]⟩) Tryz.underlying50 hi0 hz0 .i64 .i64 (us.length : Int) (us.length : Int) (by omega) (by omega) (by rw [hz2]; omega) (by omega)
   rw [this, hz1, Nat.mul_one]
   rw [Int.toNat_natCast]
   rfl
 clear hi0 hz0 hz1 hz2
 have HP := xhidMk hP
 have HH := xhidMk H
 have HL := xhidMk hl
 have HC := xhidMk hc
 obtain ⟨CM, HCM⟩ : ∃ CM, Hid (commas Ss = CM) := ⟨_, rfl⟩
 rw [HCM.out]
 clear hP H hl hc
 obtain ⟨V1, hV1⟩ : ∃ V1, V1 = w.alloc (.cells #[.int .i64 pl, .slice ta tn tc, .int .i64 gv, f, .slice pa us.length pc, .string nm, .bool ok] 121) := ⟨_, rfl⟩
 have hs1 : V1.heap.size = w.heap.size + 1 := by rw [hV1]; simp
 have HS1 : Hid (Own V1 w.heap.size 121 7 [.int .i64 pl, .slice ta tn tc, .int .i64 gv, f, .slice pa us.length pc, .string nm, .bool ok]) := by
   rw [Hid, hV1]; exact Own.new w 121 7 #[.int .i64 pl, .slice ta tn tc, .int .i64 gv, f, .slice pa us.length pc, .string nm, .bool ok] rfl
 have HBV : Hid (Below w.heap.size w V1) := by rw [Hid, hV1]; exact xbel1 _ _
 have HO0 : Hid (Own (V1.alloc (.cells (madeCells #[.string ⟨#[]⟩] us.length) 9)) (w.heap.size + 1) 9 us.length (List.replicate us.length (.string ⟨#[]⟩))) := by
   have := Own.new V1 9 us.length (madeCells #[.string ⟨#[]⟩] us.length) (size_madeCells _ _)
   rw [mcl, hs1] at this
   exact this
 have k4 : V1.cell? ⟨w.heap.size, 4, none⟩ = some (.slice pa us.length pc) := HS1.out.cell 4 (by decide)
 rcases hf with rfl | ⟨fn, fk, rfl⟩
 all_goals
   go_enter Tryz.func24, Tryz.ntmps24
   go_upto_region 16 with fail
   rw [← hV1]
   clear hV1
   go_wp2_with fail
   have HS2 : Hid (Own (V1.alloc (.cells (madeCells #[.string ⟨#[]⟩] us.length) 9)) w.heap.size 121 7 _) := HS1.out.later (xbel1 _ _)
   have HB2 : Hid (Below w.heap.size w (V1.alloc (.cells (madeCells #[.string ⟨#[]⟩] us.length) 9))) := HBV.out.trans ((xbel1 _ _).mono (by omega))
   generalize V1.alloc (.cells (madeCells #[.string ⟨#[]⟩] us.length) 9) = V2 at *
   clear HS1 HBV k4 hs1 hmk
   go_loopg [75] us.length (fun gk i wr => ∃ k : Nat, gk + k = us.length ∧ i = .int .i64 k ∧ Own wr (w.heap.size + 1) 9 us.length (strs (Ss.take k) ++ List.replicate (us.length - k) (.string ⟨#[]⟩)) ∧ Own wr w.heap.size 121 7 _ ∧ Below w.heap.size w wr)
   case atStart => exact ⟨0, by omega, rfl, by simpa [strs] using HO0.out, HS2.out, HB2.out⟩
   case round =>
     obtain ⟨k, hgk, rfl, hO, hS, hB⟩ := hrel
     have HO := xhidMk hO
     have HS := xhidMk hS
     have HB := xhidMk hB
     clear hO hS hB HO0 HS2 HB2
     by_cases hk : k < us.length
     · have hk' : (k : Int) < (us.length : Int) := by omega
       obtain ⟨u, hu⟩ : ∃ u, us[k]? = some u := ⟨us[k], by simp [hk]⟩
       obtain ⟨S, hS⟩ : ∃ S, Ss[k]? = some S := ⟨Ss[k]'(by rw [HL.out]; exact hk), by rw [List.getElem?_eq_getElem]⟩
       have hcell : ∃ b, pa = some ⟨b, 0, none⟩ ∧ wr.cell? ⟨b, k, none⟩ = some u := by
         rcases HP.out with ⟨h1, h2⟩ | ⟨b, c', h1, h2, h3, h4, h5⟩
         · rw [h2] at hk; exact absurd hk (by simp)
         · cases h1
           refine ⟨b, rfl, xcell HB.out ?_⟩
           rw [h5 k hk, ← hu, List.getElem?_eq_getElem hk]
       obtain ⟨b, rfl, hc1⟩ := hcell
       have HCA := xhidMk (HH.out k u S hu hS)
       have HTK : Hid (Ss.take (k + 1) = Ss.take k ++ [S]) := by
         have hkl : k < Ss.length := by rw [HL.out]; exact hk
         rw [Hid, List.take_succ_eq_append_getElem hkl]
         rw [List.getElem?_eq_getElem hkl] at hS
         rw [Option.some.inj hS]
       clear hu hS
       go_wp2_with fail
       refine (HCA.out _ HB.out).mono ?_
       rintro e w2 ⟨rfl, hb2⟩
       have HO2 := xhidMk (HO.out.later hb2)
       have HS2 := xhidMk (HS.out.later hb2)
       have HB2 : Hid (Below w.heap.size w w2) := HB.out.trans (hb2.mono HB.out.size)
       have hlk : (strs (Ss.take k)).length = k := by rw [strs_len, List.length_take, HL.out]; omega
       have qc : w2.cell? ⟨w.heap.size + 1, k, none⟩ = some (.string ⟨#[]⟩) := by
         rw [HO2.out.cell _ hk, List.getElem?_append_right (by omega), hlk, Nat.sub_self, List.getElem?_replicate, if_pos (by omega)]
       have qf : w2.frozen? ⟨w.heap.size + 1, k, none⟩ = false := HO2.out.soft _
       obtain ⟨p1, p2⟩ := HO2.out.put k (.string S)
       have HP1 : Hid (Own (w2.setCell ⟨w.heap.size + 1, k, none⟩ (.string S)) (w.heap.size + 1) 9 us.length (strs (Ss.take (k + 1)) ++ List.replicate (us.length - (k + 1)) (.string ⟨#[]⟩))) := by
         rw [List.set_append_right _ _ (by omega), hlk, Nat.sub_self, show us.length - k = (us.length - (k + 1)) + 1 from by omega, List.replicate_succ, List.set_cons_zero] at p1
         rw [Hid, HTK.out]
         unfold strs at p1 ⊢
         rw [List.map_append, List.append_assoc]
         exact p1
       have HP2 := xhidMk (HS2.out.grown p2 (by simp))
       have HP3 : Hid (Below w.heap.size w (w2.setCell ⟨w.heap.size + 1, k, none⟩ (.string S))) := xbNew HB2.out p2 (fun n hn => by cases hn; omega)
       clear hb2 HO HS HB p1 p2 HO2 HS2 HB2 hlk
       go_wp2
       go_roundg (gk - 1)
       case measure => omega
       case rel => exact ⟨k + 1, by omega, by go_num, HP1.out, HP2.out, HP3.out⟩
     · have hk' : ¬ (k : Int) < (us.length : Int) := by omega
       obtain rfl : k = us.length := by omega
       have hO9 := HO.out
       rw [Nat.sub_self, List.replicate_zero, List.append_nil, List.take_of_length_le (by rw [HL.out]; exact Nat.le_refl _)] at hO9
       have HO9 := xhidMk hO9
       have q5 : wr.cell? ⟨w.heap.size, 5, none⟩ = some (.string nm) := HS.out.cell 5 (by decide)
       have hlt := HO.out.lt
       have HJ : Hid (∀ W, wr.cell? ⟨w.heap.size, 5, none⟩ = some (.string nm) → Below wr.heap.size wr W → Calls Tryz.prog 50 #[.slice (some ⟨w.heap.size + 1, 0, none⟩) us.length us.length, .string ⟨#[44, 32]⟩] W fun e w' => e = .returned (.string CM) ∧ (w'.cell? ⟨w.heap.size, 5, none⟩ = some (.string nm) ∧ Below wr.heap.size wr w')) := fun W h5 hW => by
         have := Tryz.strings_Join (w.heap.size + 1) 0 us.length Ss ⟨#[44, 32]⟩ W (fun j x hj => by
           have hjl : j < us.length := by rw [← HL.out]; exact (List.getElem?_eq_some_iff.1 hj).1
           rw [Nat.zero_add]
           refine xcell hW ?_
           rw [HO9.out.cell j hjl]
           unfold strs
           rw [List.getElem?_map, hj]
           rfl) (Nat.lt_of_lt_of_le hlt hW.size) (by rw [HL.out]; omega) (by rw [HL.out]; exact Nat.le_refl _) (by
             have := HC.out
             unfold commas at this
             have h9 : (⟨#[44, 32]⟩ : ByteArray).data.toList = bSep.data.toList := rfl
             rw [h9]
             simp only [ByteArray.size, List.size_toArray] at this
             omega)
         rw [HL.out] at this
         refine this.mono ?_
         rintro e w' ⟨rfl, hb⟩
         exact ⟨by rw [← HCM.out]; rfl, xcell (hW.trans (hb.mono hW.size)) h5, hW.trans (hb.mono hW.size)⟩
       have HC2 : CM.size ≤ 100000000 := by rw [← HCM.out]; exact HC.out
       clear hO9 HO9 HO HH HP HC HCM
       have HJ2 : Hid (∀ W, (W.cell? ⟨w.heap.size, 5, none⟩ = some (.string nm) ∧ Below wr.heap.size wr W) → Calls Tryz.prog 50 #[.slice (some ⟨w.heap.size + 1, 0, none⟩) us.length us.length, .string ⟨#[44, 32]⟩] W fun e w' => e = .returned (.string CM) ∧ (w'.cell? ⟨w.heap.size, 5, none⟩ = some (.string nm) ∧ Below wr.heap.size wr w')) := fun W h => HJ.out W q5 h.2
       clear HJ
       go_wp2_with fail
       have j1 : (9223372036854775807 < nm.size + 1) = False := by simp; omega
       have j2 : (9223372036854775807 < nm.size + 1 + CM.size) = False := by simp; omega
       have j3 : (9223372036854775807 < nm.size + 1 + CM.size + 1) = False := by simp; omega
       have kb : Below wr.heap.size wr wr.drew := (Below.refl _ _).drew
       go_region_held3 (fun W => W.cell? ⟨w.heap.size, 5, none⟩ = some (.string nm) ∧ Below wr.heap.size wr W) (first | exact ⟨q5, kb⟩ | exact hKP) (first
         | (go_at_call 50; refine (HJ2.out _ (by assumption)).mono ?_; rintro e w' ⟨rfl, hKP⟩))
       all_goals
         go_wp2
         go_ret
         exact ⟨by unfold bOpn bCls; rfl, HB.out.trans (hKP.2.mono HB.out.size)⟩
end Go.Proofs.YtckdmmfmnhcabaaGreatDoor
namespace Go.Proofs.YtckdmmfmnhcabaaGreatDoor
open Go.RowKit
set_option linter.unusedVariables false
set_option linter.unusedSimpArgs false
set_option maxRecDepth 100000

mutual
def LX : X → Prop
 | .lit k n t => Vl.validB k n t = true ∧ -9223372036854775808 ≤ n ∧ n ≤ 9223372036854775807 ∧ (Vl.showB k n t).size ≤ 200
 | .col _ nm => nm.size ≤ 200
 | .pre _ s x => s.size ≤ 200 ∧ LX x
 | .inf _ s l r => s.size ≤ 200 ∧ LX l ∧ LX r
 | .app _ nm l => nm.size ≤ 200 ∧ LXs l
def LXs : List X → Prop
 | [] => True
 | x :: l => LX x ∧ LXs l
end
theorem LXs.snoc {x : X} (hx : LX x) : ∀ {l : List X}, LXs l → LXs (l ++ [x])
 | [], _ => ⟨hx, trivial⟩
 | y :: l, h => ⟨h.1, LXs.snoc hx h.2⟩
def ML : Mode → Prop
 | .D _ => True
 | .J _ l => LX l
 | .Z _ nm => nm.size ≤ 200
 | .A _ nm l => nm.size ≤ 200 ∧ LXs l
theorem Ps.lx {E : Nat} {m : Mode} {lev : Nat} {ts : List Tk} {o : PR} (h : Ps Dc.LV E m lev ts o) :
   (∀ t ∈ ts, t.tx.size ≤ 200) → ML m → ∀ x ts', o = .ok (x, ts') → LX x := by
 induction h with
 | jend h => intro hw hm x ts' e; cases e; exact hm
 | jok hj hp _ ih1 ih2 =>
   intro hw hm x ts' e
   exact ih2 (fun t ht => hw t (hp.suffix _ _ rfl t ht)) (ih1 hw trivial _ _ rfl) x ts' e
 | jstep hs hp _ ih1 ih2 =>
   intro hw hm x ts' e
   have hw1 := fun t ht => hw t (List.mem_cons_of_mem _ ht)
   exact ih2 (fun t ht => hw1 t (hp.suffix _ _ rfl t ht)) ⟨hw _ (by simp), hm, ih1 hw1 trivial _ _ rfl⟩ x ts' e
 | pok hpr ht _ _ ih1 =>
   intro hw hm x ts' e
   cases e
   have hw1 := fun t ht => hw t (List.mem_cons_of_mem _ ht)
   exact ⟨hw _ (by simp), ih1 hw1 trivial _ _ rfl⟩
 | pnone _ _ _ ih1 => intro hw hm x ts' e; exact ih1 hw trivial _ _ e
 | cnone _ _ ih1 => intro hw hm x ts' e; cases e; exact ih1 hw trivial _ _ rfl
 | cok hp hs _ ih1 ih2 =>
   intro hw hm x ts' e
   cases e
   have hw1 := fun t ht => hw t (hp.suffix _ _ rfl t ht)
   exact ⟨hw1 _ (by simp), ih1 hw trivial _ _ rfl, ih2 (fun t ht => hw1 t (List.mem_cons_of_mem _ ht)) trivial _ _ rfl⟩
 | lit hl hk =>
   intro hw hm x ts' e
   cases e
   have h1 := hw _ (List.mem_cons_self ..)
   obtain ⟨a1, a2, a3, a4⟩ := hk
   exact ⟨a1, a2, a3, by rw [a4]; exact h1⟩
 | ncol => intro hw hm x ts' e; cases e; exact hw _ (List.mem_cons_self ..)
 | zend => intro hw hm x ts' e; cases e; exact ⟨hm, trivial⟩
 | aend => intro hw hm x ts' e; cases e; exact hm
 | ook _ _ _ _ _ ih1 => intro hw hm x ts' e; cases e; exact ih1 (fun t ht => hw t (List.mem_cons_of_mem _ ht)) trivial _ _ rfl
 | nargs _ _ _ _ _ _ _ _ ih1 => intro hw hm x ts' e; exact ih1 (fun t ht => hw t (List.mem_cons_of_mem _ (List.mem_cons_of_mem _ ht))) (hw _ (List.mem_cons_self ..)) _ _ e
 | zok _ hp _ ih1 ih2 =>
   intro hw hm x ts' e
   exact ih2 (fun t ht => hw t (hp.suffix _ _ rfl t ht)) ⟨hm, ih1 hw trivial _ _ rfl, trivial⟩ x ts' e
 | aok _ hp _ ih1 ih2 =>
   intro hw hm x ts' e
   have hw1 := fun t ht => hw t (List.mem_cons_of_mem _ ht)
   exact ih2 (fun t ht => hw1 t (hp.suffix _ _ rfl t ht)) ⟨hm.1, LXs.snoc (ih1 hw1 trivial _ _ rfl) hm.2⟩ x ts' e
 | _ => intro hw hm x ts' e; cases e

mutual
def prX : X → ByteArray
 | .lit k n t => Vl.showB k n t
 | .col _ nm => nm
 | .pre _ s x => leadS s ++ brk (decide (rkX x < preRank s)) (prX x)
 | .inf _ s l r => brk (decide (rkX l < leftR s)) (prX l) ++ bSp ++ s ++ bSp ++ brk (decide (rkX r < sgn s + 1)) (prX r)
 | .app _ nm l => nm ++ bOpn ++ commas (prXs l) ++ bCls
def prXs : List X → List ByteArray
 | [] => []
 | x :: l => prX x :: prXs l
end
theorem prXs_len : ∀ l, (prXs l).length = l.length
 | [] => rfl
 | x :: l => by rw [prXs, List.length_cons, List.length_cons, prXs_len l]
def lens : List ByteArray → Nat
 | [] => 0
 | s :: l => s.size + 2 + lens l
theorem joinTail_len (l : List ByteArray) : (Lib.joinTail bSep.data.toList (l.map (·.data.toList))).length ≤ lens l := by
 induction l with
 | nil => simp [Lib.joinTail, lens]
 | cons s l ih =>
   unfold Lib.joinTail at ih ⊢
   simp only [List.map_cons, List.flatten_cons, List.length_append, lens]
   have : bSep.data.toList.length = 2 := rfl
   have h2 : s.data.toList.length = s.size := Array.length_toList
   omega
theorem commas_size (l : List ByteArray) : (commas l).size ≤ lens l := by
 unfold commas
 simp only [ByteArray.size, List.size_toArray]
 cases l with
 | nil => simp [Lib.join_nil, lens]
 | cons s l =>
   rw [List.map_cons, Lib.join_cons, List.length_append, lens]
   have := joinTail_len l
   have h2 : s.data.toList.length = s.size := Array.length_toList
   simp only [ByteArray.size] at h2 ⊢
   omega
mutual
theorem prX_size : ∀ (x : X), LX x → (prX x).size + 4 ≤ 220 * szX x
 | .lit k n t, h => by rw [prX, szX]; have := h.2.2.2; omega
 | .col _ nm, h => by rw [prX, szX]; have : nm.size ≤ 200 := h; omega
 | .pre _ s x, h => by
   rw [prX, szX]
   have h1 := prX_size x h.2
   have h2 := brk_size (decide (rkX x < preRank s)) (prX x)
   have h3 : (leadS s).size ≤ s.size + 1 := by
     unfold leadS; split
     · rw [ByteArray.size_append]; have : bSp.size = 1 := rfl; omega
     · omega
   have h4 := h.1
   rw [ByteArray.size_append]
   omega
 | .inf _ s l r, h => by
   rw [prX, szX]
   have h1 := prX_size l h.2.1
   have h2 := prX_size r h.2.2
   have h3 := brk_size (decide (rkX l < leftR s)) (prX l)
   have h4 := brk_size (decide (rkX r < sgn s + 1)) (prX r)
   have h5 := h.1
   have : bSp.size = 1 := rfl
   simp only [ByteArray.size_append]
   omega
 | .app _ nm l, h => by
   rw [prX, szX]
   have h1 := prXs_size l h.2
   have h2 := commas_size (prXs l)
   have h5 := h.1
   have : bOpn.size = 1 := rfl
   have : bCls.size = 1 := rfl
   simp only [ByteArray.size_append]
   omega
theorem prXs_size : ∀ (l : List X), LXs l → lens (prXs l) ≤ 220 * szXs l
 | [], _ => by rw [prXs]; simp [lens]
 | x :: l, h => by
   rw [prXs, lens, szXs]
   have h1 := prX_size x h.1
   have h2 := prXs_size l h.2
   have := szX_pos x
   omega
end
end Go.Proofs.YtckdmmfmnhcabaaGreatDoor
namespace Go.Proofs.YtckdmmfmnhcabaaGreatDoor
open Go.RowKit
set_option linter.unusedVariables false
set_option linter.unusedSimpArgs false
set_option maxRecDepth 100000

theorem valid_len {k n : Int} {s : ByteArray} (h : Vl.validB k n s = true) : s.size ≤ 60 := by
 rcases Vl.valid_form h with ⟨_, _, rfl⟩ | ⟨_, rfl⟩ | ⟨_, _, rfl⟩ | ⟨_, _, rfl⟩ | ⟨_, _, h⟩
 all_goals first | exact h | decide
theorem lst_one {w : World} {g : Nat} {ps u : Value} (h : Lst w g ps [u]) : ∃ b c, ps = .slice (some ⟨b, 0, none⟩) 1 c ∧ w.cell? ⟨b, 0, none⟩ = some u := by
 rcases h with ⟨_, h⟩ | ⟨b, c, h1, h2, h3, h4, h5⟩
 · cases h
 · exact ⟨b, c, h1, h5 0 (by simp)⟩
theorem lst_two {w : World} {g : Nat} {ps u u' : Value} (h : Lst w g ps [u, u']) : ∃ b c, ps = .slice (some ⟨b, 0, none⟩) 2 c ∧ w.cell? ⟨b, 0, none⟩ = some u ∧ w.cell? ⟨b, 1, none⟩ = some u' := by
 rcases h with ⟨_, h⟩ | ⟨b, c, h1, h2, h3, h4, h5⟩
 · cases h
 · exact ⟨b, c, h1, h5 0 (by simp), h5 1 (by simp)⟩
mutual
theorem written_nd (w : World) (g : Nat) (ht : Vl.Tab w) : ∀ (x : X) (v : Value), Nd w g x v → LX x → szX x ≤ 200 → WR w v (prX x)
 | .lit k n t, v, h, hl, _ => by
   rw [Nd] at h
   subst h
   intro W hW
   have hv := valid_len hl.1
   exact written_lit k n t _ W fun W' hW' => Vl.show_any k n t W' (by unfold maxLen; omega) hl.2.1 hl.2.2.1 (Vl.Tab.later ht (hW.trans (hW'.mono hW.size)))
 | .col pl nm, v, h, _, _ => by
   rw [Nd] at h
   subst h
   intro W hW
   exact written_col pl nm W
 | .pre pl s x, v, h, hl, hs => by
   rw [Nd] at h
   obtain ⟨tk, f, ps, u, h1, h2, h3, h4, h5⟩ := h
   rw [szX] at hs
   have ih := written_nd w g ht x u h5 hl.2 (by omega)
   obtain ⟨ta, tn, tc, rfl⟩ := h2.form
   obtain ⟨n, k, rfl⟩ := h3.form
   obtain ⟨b, c, rfl, hc⟩ := lst_one h4
   subst h1
   intro W hW
   have hz := prX_size x hl.2
   have hq := hl.1
   exact written_pre pl s ta tn tc _ n k b c x u g W (prX x) (xcell hW hc) (h5.later hW) (by omega) (by omega) (ih.later hW)
 | .inf pl s l r, v, h, hl, hs => by
   rw [Nd] at h
   obtain ⟨tk, f, ps, u, u', h1, h0, h2, h3, h4, h5, h6⟩ := h
   rw [szX] at hs
   have ih := written_nd w g ht l u h5 hl.2.1 (by omega)
   have ih' := written_nd w g ht r u' h6 hl.2.2 (by omega)
   obtain ⟨ta, tn, tc, rfl⟩ := h2.form
   obtain ⟨n, k, rfl⟩ := h3.form
   obtain ⟨b, c, rfl, hc, hc'⟩ := lst_two h4
   subst h1
   intro W hW
   have hz := prX_size l hl.2.1
   have hz' := prX_size r hl.2.2
   have hq := hl.1
   exact written_inf pl s ta tn tc _ n k b c l r u u' g W (prX l) (prX r) (xcell hW hc) (xcell hW hc') (h5.later hW) (h6.later hW) (by omega) (by omega) (by omega) (ih.later hW) (ih'.later hW)
 | .app pl nm l, v, h, hl, hs => by
   rw [Nd] at h
   obtain ⟨tk, gv, f, ps, us, h1, h2, h3, h4, ⟨ta', tn', tc', e9⟩, hf9⟩ := h
   rw [szX] at hs
   have ih := written_nds w g ht l us h4 hl.2 (by omega)
   obtain ⟨pa, pn, pc, rfl⟩ := h3.form
   obtain rfl : pn = us.length := h3.len
   subst e9
   subst h1
   intro W hW
   have hlen := h4.length
   have hz := prXs_size l hl.2
   have hz2 := commas_size (prXs l)
   have hq := hl.1
   have hle := szXs_len l
   exact written_call pl nm ta' tn' tc' gv f hf9 pa pc us _ g W (h3.later hW) (by omega) (prXs l) (by rw [prXs_len, hlen]) (by omega) (by omega) (fun i u S hu hS W' hW' => ih i u S hu hS W' (hW.trans (hW'.mono hW.size)))
theorem written_nds (w : World) (g : Nat) (ht : Vl.Tab w) : ∀ (l : List X) (us : List Value), Nds w g l us → LXs l → szXs l ≤ 200 → ∀ (i : Nat) u S, us[i]? = some u → (prXs l)[i]? = some S → ∀ W, Below w.heap.size w W → Calls Tryz.prog 48 #[u, .int .i64 0] W fun e w' => e = .returned (.string S) ∧ Below W.heap.size W w'
 | [], us, h, _, _ => by
   rw [Nds] at h
   subst h
   intro i u S hu
   simp at hu
 | x :: l, us, h, hl, hs => by
   rw [Nds] at h
   obtain ⟨u0, us', rfl, h2, h3⟩ := h
   rw [szXs] at hs
   have ih := written_nd w g ht x u0 h2 hl.1 (by omega)
   have ihs := written_nds w g ht l us' h3 hl.2 (by omega)
   intro i u S hu hS W hW
   match i, hu, hS with
   | 0, hu, hS =>
     rw [prXs] at hS
     simp at hu hS
     subst hu hS
     have hz := prX_size x hl.1
     refine (placed_any x u0 W g (h2.later hW) (prX x) 0 (by omega) (ih.later hW)).mono ?_
     rintro e w' ⟨rfl, hb⟩
     refine ⟨?_, hb⟩
     have := rkX_nonneg x
     rw [decide_eq_false (by omega)]
     rfl
   | i + 1, hu, hS =>
     rw [prXs] at hS
     exact ihs i u S (by simpa using hu) (by simpa using hS) W hW
end
end Go.Proofs.YtckdmmfmnhcabaaGreatDoor
namespace Go.Proofs.YtckdmmfmnhcabaaGreatDoor
open Go.RowKit
set_option linter.unusedVariables false
set_option linter.unusedSimpArgs false
set_option maxRecDepth 100000

theorem PX.lx {s : ByteArray} {x : X} (h : PX Dc.LV s (.ok x)) : LX x := by
 cases h with
 | ok h1 h2 h3 =>
   have h4 := (tok_few _ _ _ _ h2).2
   have h5 : s.data.toList.length = s.size := Array.length_toList
   exact h3.lx (fun t ht => by have := (h4 t ht).2.2; omega) trivial _ _ rfl
set_option maxHeartbeats 2000000 in
theorem print1_ok (s S : ByteArray) (b b2 : Nat) (W : World) (h0 : W.cell? ⟨b, 0, none⟩ = some (.string s)) (h2 : Own W b2 9 1 [.string ⟨#[]⟩])
   (hc : Calls Tryz.prog 25 #[.string s] W fun e w' => Below W.heap.size W w' ∧ ∃ t p, e = .returned (.iface t p) ∧ WR w' (.iface t p) S) :
   Calls Tryz.prog 23 #[.pointer (some ⟨b, 0, none⟩), .pointer (some ⟨b2, 0, none⟩)] W fun e w' => e = .returned (.tuple #[]) ∧ W.grownBy w' (some b2) ∧ w'.cell? ⟨b2, 0, none⟩ = some (.string S) := by
 have HC := xhidMk hc
 have HO := xhidMk h2
 clear hc h2
 go_enter Tryz.func23, Tryz.ntmps23
 go_wp2_with fail
 refine HC.out.mono ?_
 rintro e w1 ⟨hb1, t, p, rfl, hw⟩
 have HW := xhidMk hw
 have HO1 := xhidMk (HO.out.later hb1)
 have HB1 := xhidMk hb1
 clear hb1 hw HC HO
 go_wp2_with fail
 refine (HW.out w1 (Below.refl _ _)).mono ?_
 rintro e w2 ⟨rfl, hb2⟩
 have HO2 : Hid (Own w2 b2 9 1 [.string ⟨#[]⟩]) := HO1.out.later hb2
 have HB2 : Hid (Below W.heap.size W w2) := HB1.out.trans (hb2.mono HB1.out.size)
 have q0 : w2.cell? ⟨b2, 0, none⟩ = some (.string ⟨#[]⟩) := by rw [HO2.out.cell 0 (by decide)]; rfl
 have q1 : w2.frozen? ⟨b2, 0, none⟩ = false := HO2.out.soft 0
 clear hb2 HW HO1 HB1
 go_wp2_with fail
 obtain ⟨hp1, hp2⟩ := HO2.out.put 0 (.string S)
 have F1 : W.grownBy (w2.setCell ⟨b2, 0, none⟩ (.string S)) (some b2) := xgTrans (xgBelow HB2.out) hp2
 have F2 : (w2.setCell ⟨b2, 0, none⟩ (.string S)).cell? ⟨b2, 0, none⟩ = some (.string S) := by rw [hp1.cell 0 (by decide)]; rfl
 simp [bodyPost, results, Tryz.results23, go_sem]
 exact ⟨F1, F2⟩
set_option maxHeartbeats 2000000 in
theorem print1_bad (s : ByteArray) (b b2 : Nat) (f : Flt) (W : World) (h0 : W.cell? ⟨b, 0, none⟩ = some (.string s))
   (hc : Calls Tryz.prog 25 #[.string s] W fun e w' => Below W.heap.size W w' ∧ e = .panicked [{ v := fltV f.pl f.why, recovered := false }]) :
   Calls Tryz.prog 23 #[.pointer (some ⟨b, 0, none⟩), .pointer (some ⟨b2, 0, none⟩)] W fun e w' => e = .panicked [{ v := fltV f.pl f.why, recovered := false }] ∧ Below W.heap.size W w' := by
 have HC := xhidMk hc
 clear hc
 go_enter Tryz.func23, Tryz.ntmps23
 go_wp2_with fail
 refine HC.out.mono ?_
 rintro e w2 ⟨hb2, rfl⟩
 first | exact ⟨rfl, hb2⟩ | exact ⟨rfl, rfl, hb2⟩
theorem ent_print1 (a : Array Value) (W : World) : (callFunc 23 a).run Tryz.prog W = .ok (.enter 23 a) W := xent Tryz.func23 (by kernel_rfl) (by rfl) a W
noncomputable def prV (o : Except Flt X) : Value := match o with
 | .ok x => .tuple #[.string (prX x), .int .i64 0, .nilIface]
 | .error f => .tuple #[.string ⟨#[]⟩, .int .i64 f.pl, .iface 31 (.int .i64 f.why)]
set_option maxHeartbeats 4000000 in
theorem print_any (s : ByteArray) (w : World) (o : Except Flt X) (ht : Vl.Tab w)
   (hp : ∀ W, Below w.heap.size w W → Calls Tryz.prog 25 #[.string s] W fun e w' => Below W.heap.size W w' ∧
     match o with
     | .ok x => ∃ t p, e = .returned (.iface t p) ∧ Nd w' (W.heap.size - 1) x (.iface t p)
     | .error f => e = .panicked [{ v := fltV f.pl f.why, recovered := false }]) (ho : PX Dc.LV s o) :
   Calls Tryz.prog 11 #[.string s] w fun e w' => e = .returned (prV o) ∧ Below w.heap.size w w' := by
 have hmf := xmf
 have hW0 : Below w.heap.size w ((w.alloc (.cells #[.string s] 9)).alloc (.cells #[.string ⟨#[]⟩] 9)) := (xbel1 w _).alloc (by simp) _
 have p0 : ((w.alloc (.cells #[.string s] 9)).alloc (.cells #[.string ⟨#[]⟩] 9)).cell? ⟨w.heap.size, 0, none⟩ = some (.string s) := by go_simp
 have hsz : ((w.alloc (.cells #[.string s] 9)).alloc (.cells #[.string ⟨#[]⟩] 9)).heap.size = w.heap.size + 1 + 1 := by simp
 have p2 : Own ((w.alloc (.cells #[.string s] 9)).alloc (.cells #[.string ⟨#[]⟩] 9)) (w.heap.size + 1) 9 1 [.string ⟨#[]⟩] := by
   have := Own.new (w.alloc (.cells #[.string s] 9)) 9 1 #[.string ⟨#[]⟩] rfl
   simpa using this
 cases o with
 | error f =>
   have HC2 : Hid (∀ W, Below w.heap.size w W → Calls Tryz.prog 25 #[.string s] W fun e w' => Below W.heap.size W w' ∧ e = .panicked [{ v := fltV f.pl f.why, recovered := false }]) := hp
   have FIN : Hid (∀ w', Below w.heap.size w w' → (Ending.returned (.tuple #[.string ⟨#[]⟩, .int .i64 f.pl, .iface 31 (.int .i64 f.why)]) = .returned (prV (.error f)) ∧ Below w.heap.size w w')) := fun w' h => ⟨rfl, h⟩
   have HB0 := xhidMk hW0
   have P2 := xhidMk p2
   clear hp ho hW0 p2
   go_enter Tryz.func11, Tryz.ntmps11
   go_wp2_with fail
   generalize ((w.alloc (.cells #[.string s] 9)).alloc (.cells #[.string ⟨#[]⟩] 9)) = W0 at *
   have hb2 : Below W0.heap.size W0 ((W0.alloc (.cells #[.int .i64 0] 3)).alloc (.cells #[.nilIface] 25)) := (xbel1 W0 _).alloc (by simp) _
   have HD := print1_bad s w.heap.size (w.heap.size + 1) f _ (xcell hb2 p0) (HC2.out _ (HB0.out.trans (hb2.mono HB0.out.size)))
   have HE := caught_bad 23 _ W0 (fun w' => Below W0.heap.size W0 w') f.pl f.why ent_print1 (HD.mono (fun e w' ⟨h1, h2⟩ => ⟨h1, kept2_of h2, hb2.trans (h2.mono hb2.size)⟩))
   refine HE.mono ?_
   rintro e w2 ⟨rfl, w1, hb1, hex⟩
   have q2 : w2.cell? ⟨w.heap.size + 1, 0, none⟩ = some (.string ⟨#[]⟩) := hex.cell (xcell hb1 (by rw [P2.out.cell 0 (by decide)]; rfl)) (by simp; omega) (by simp; omega)
   have F3 := xhidMk (FIN.out w2 (hex.below (HB0.out.trans (hb1.mono HB0.out.size)) (by omega) (by omega)))
   clear FIN HD HE hb1 hex hb2 p0 P2 HB0 HC2
   go_wp2_with fail
   refine bodyPost_ret (v := .tuple #[.string ⟨#[]⟩, .int .i64 f.pl, .iface 31 (.int .i64 f.why)]) (by simp [results, Tryz.results11, go_sem]) rfl ?_
   exact F3.out
 | ok x =>
   have hlx := ho.lx
   have hsx := ho.size
   obtain ⟨S, HS⟩ : ∃ S, Hid (prX x = S) := ⟨_, rfl⟩
   have HC2 : Hid (∀ W, Below w.heap.size w W → Calls Tryz.prog 25 #[.string s] W fun e w' => Below W.heap.size W w' ∧ ∃ t p, e = .returned (.iface t p) ∧ WR w' (.iface t p) S) := fun W hW => by
     refine (hp W hW).mono ?_
     rintro e w' ⟨h1, t, p, h3, h4⟩
     refine ⟨h1, t, p, h3, ?_⟩
     rw [← HS.out]
     exact written_nd w' _ (Vl.Tab.later ht (hW.trans (h1.mono hW.size))) x _ h4 hlx hsx
   have FIN : Hid (∀ w', Below w.heap.size w w' → (Ending.returned (.tuple #[.string S, .int .i64 0, .nilIface]) = .returned (prV (.ok x)) ∧ Below w.heap.size w w')) := fun w' h => ⟨by rw [← HS.out]; rfl, h⟩
   have HB0 := xhidMk hW0
   have P2 := xhidMk p2
   clear hp ho hW0 p2 HS hlx hsx
   go_enter Tryz.func11, Tryz.ntmps11
   go_wp2_with fail
   generalize ((w.alloc (.cells #[.string s] 9)).alloc (.cells #[.string ⟨#[]⟩] 9)) = W0 at *
   have hb2 : Below W0.heap.size W0 ((W0.alloc (.cells #[.int .i64 0] 3)).alloc (.cells #[.nilIface] 25)) := (xbel1 W0 _).alloc (by simp) _
   have HD := print1_ok s S w.heap.size (w.heap.size + 1) _ (xcell hb2 p0) (P2.out.later hb2) (HC2.out _ (HB0.out.trans (hb2.mono HB0.out.size)))
   have HE := caught_ok 23 _ W0 (fun w' => W0.grownBy w' (some (w.heap.size + 1)) ∧ w'.cell? ⟨w.heap.size + 1, 0, none⟩ = some (.string S)) ent_print1 (HD.mono (fun e w' ⟨h1, h2, h3⟩ => ⟨h1, kept2_by h2 (fun n hn => by cases hn; omega), xgTrans (xgBelow hb2) h2, h3⟩))
   refine HE.mono ?_
   rintro e w2 ⟨rfl, w1, ⟨hb1, hc1⟩, hex⟩
   have q2 : w2.cell? ⟨w.heap.size + 1, 0, none⟩ = some (.string S) := hex.cell hc1 (by simp; omega) (by simp; omega)
   have F3 := xhidMk (FIN.out w2 (hex.below (xbNew HB0.out hb1 (fun n hn => by cases hn; omega)) (by omega) (by omega)))
   clear FIN HD HE hb1 hc1 hex hb2 p0 P2 HB0 HC2
   go_wp2_with fail
   refine bodyPost_ret (v := .tuple #[.string S, .int .i64 0, .nilIface]) (by simp [results, Tryz.results11, go_sem]) rfl ?_
   exact F3.out
end Go.Proofs.YtckdmmfmnhcabaaGreatDoor
