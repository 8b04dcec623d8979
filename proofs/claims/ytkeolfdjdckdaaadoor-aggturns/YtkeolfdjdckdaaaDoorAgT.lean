import Derived.Test.YtkeolfdjdckdaaaDoorAgS
import Derived.Test.YtkeolfdjdckdaaaDoorAgQ
import Derived.Deep.LoopGhost
namespace Go.Proofs.YtkeolfdjdckdaaaDoor
open Go.RowKit
set_option linter.unusedVariables false
set_option linter.unusedSimpArgs false
set_option maxRecDepth 100000

/-- A list from its r-th place on. -/
def rot (l : List Tm) (r : Nat) : List Tm := l.drop r ++ l.take r
theorem rot_len (l : List Tm) (r : Nat) (h : r ≤ l.length) : (rot l r).length = l.length := by unfold rot; rw [List.length_append, List.length_drop, List.length_take]; omega
theorem rot_at (l : List Tm) (r i : Nat) (hr : r < l.length) (hi : i < l.length) : (rot l r)[i]? = l[(i + r) % l.length]? := by
  unfold rot
  by_cases h : i < l.length - r
  · rw [List.getElem?_append_left (by rw [List.length_drop]; exact h), List.getElem?_drop, Nat.mod_eq_of_lt (by omega), Nat.add_comm]
  · rw [List.getElem?_append_right (by rw [List.length_drop]; omega), List.length_drop, List.getElem?_take_of_lt (by omega)]
    rw [show (i + r) % l.length = i + r - l.length by rw [Nat.mod_eq_sub_mod (by omega), Nat.mod_eq_of_lt (by omega)]]
    congr 1
    omega
theorem rot_perm (l : List Tm) (r : Nat) : (rot l r).reverse.Perm l :=
  (List.reverse_perm _).trans (List.perm_append_comm.trans (by rw [List.take_append_drop]))
/-- How far the list is turned. -/
def byR (by' : Int) (n : Nat) : Nat := if 0 < by' then by'.toNat % n else 0
theorem byR_lt (by' : Int) (n : Nat) (h : 0 < n) : byR by' n < n := by unfold byR; split; exact Nat.mod_lt _ h; exact h
def tn (l : List Tm) (by' : Int) : List Tm := (rot l (byR by' l.length)).reverse
theorem tn_len (l : List Tm) (by' : Int) : (tn l by').length = l.length := (rot_perm l _).length_eq
theorem tn_take (l : List Tm) (by' : Int) (q : Nat) (h : q < l.length) : ∃ h' : (l.length - 1 - q + byR by' l.length) % l.length < l.length, (tn l by').take (q + 1) = (tn l by').take q ++ [l[(l.length - 1 - q + byR by' l.length) % l.length]] := by
  have hr := byR_lt by' l.length (by omega)
  refine ⟨Nat.mod_lt _ (by omega), ?_⟩
  rw [List.take_succ_eq_append_getElem (by rw [tn_len]; exact h)]
  congr 2
  have e : (tn l by')[q]? = (rot l (byR by' l.length))[l.length - 1 - q]? := by
    unfold tn
    rw [List.getElem?_reverse (by rw [rot_len _ _ (by omega)]; exact h), rot_len _ _ (by omega)]
  rw [rot_at _ _ _ hr (by omega), List.getElem?_eq_getElem (Nat.mod_lt _ (by omega)), List.getElem?_eq_getElem (by rw [tn_len]; exact h)] at e
  exact Option.some.inj e

attribute [local go_sem ↓] neqVal eqlVal
attribute [local go_sem] guardVal

theorem okF_two : okF 1 [t0, t0] = true := by
  have h : tval t0 = true := by simp [tval, validV, validB, t0, v0]
  simp [okF, h]
theorem fits_v0 : Fits v0 := ⟨rfl, rfl, by decide⟩
theorem fold_two (b : Nat) (w : World) (h : TLies w (some ⟨b, 0, none⟩) [t0, t0]) :
    Calls Tryd.prog 5 #[.int .i64 1, .slice (some ⟨b, 0, none⟩) 2 2] w fun e w' => e = .returned (.tuple #[.agg #[.int .i64 1, .int .i64 2, .string ⟨#[]⟩], .nilIface]) ∧ Below w.heap.size w w' := by
  refine (fold_any 1 [t0, t0] _ 2 w h ⟨by simp, fun o ho => by simp at ho; rw [ho]; exact fits_v0⟩).mono fun e w' ⟨h1, h2⟩ => ⟨?_, h1⟩
  rw [okF_two] at h2
  exact h2
theorem two_lies (w : World) : TLies (w.alloc (.cells #[.int .i64 0, .int .i64 0, .int .i64 0, .string ⟨#[]⟩, .int .i64 0, .int .i64 0, .int .i64 0, .string ⟨#[]⟩] 36)) (some ⟨w.heap.size, 0, none⟩) [t0, t0] := by
  intro i hi
  match i, hi with
  | 0, _ => exact ⟨w.heap.size, 0, rfl, by go_simp; rfl, by go_simp; rfl, by go_simp; rfl, by go_simp; rfl⟩
  | 1, _ => exact ⟨w.heap.size, 0, rfl, by go_simp; rfl, by go_simp; rfl, by go_simp; rfl, by go_simp; rfl⟩

set_option maxHeartbeats 4000000 in
theorem turns_walk (kind : Int) (l : List Tm) (a : Option Addr) (c : Nat) (by' : Int) (mo : Tm) (w : World) (hl : TLies w a l) (hg : l.length ≤ 3518437208780 ∧ ∀ o ∈ l, Fits o.v) (hmo : Fits mo.v) (hE : Ety w) :
    Calls Tryd.prog 4 #[.int .i64 kind, .slice a l.length c, .int .i64 by', tmv mo] w fun e w' => e = .returned (.bool true) ∧ Below w.heap.size w w' := by
  obtain ⟨i0, hi0, hz0, hz1, hz2⟩ := info_parts infoT
  have HF : Hid (∀ kd W, Below w.heap.size w W → Calls Tryd.prog 5 #[.int .i64 kd, .slice a l.length c] W (FdPost kd l W)) := fun kd W hW => fold_any kd l a c W (hl.later hW) ⟨by omega, hg.2⟩
  have HL := hidMk hl
  have HG := hidMk hg.2
  have hm := hg.1
  have HM := hidMk hmo
  have HE := hidMk hE
  clear hl hg hmo hE
  unfold tmv
  go_enter Tryd.func4, Tryd.ntmps4
  go_wp2_with fail
  refine (fold_two _ _ (by first | exact two_lies _ | (have h := two_lies (w.alloc (.cells #[.int .i64 mo.t, .int .i64 mo.v.k, .int .i64 mo.v.n, .string mo.v.s] 36)); simpa using h))).mono ?_
  rintro e w1 ⟨rfl, hb1⟩
  have m0 := cell_later (a := ⟨w.heap.size, 0, none⟩) hb1 (v := .int .i64 mo.t) (by go_simp)
  have m1 := cell_later (a := ⟨w.heap.size, 1, none⟩) hb1 (v := .int .i64 mo.v.k) (by go_simp)
  have m2 := cell_later (a := ⟨w.heap.size, 2, none⟩) hb1 (v := .int .i64 mo.v.n) (by go_simp)
  have m3 := cell_later (a := ⟨w.heap.size, 3, none⟩) hb1 (v := .string mo.v.s) (by go_simp)
  have HB1 : Hid (Below w.heap.size w w1) := (bel2 w _ _).trans (hb1.mono (by simp; omega))
  have HMo1 : Hid (Own w1 w.heap.size 36 4 (cellsT mo)) := ((Own.new w 36 4 #[.int .i64 mo.t, .int .i64 mo.v.k, .int .i64 mo.v.n, .string mo.v.s] rfl).later (bel1 _ _)).later hb1
  clear hb1
  have hl1 : w.heap.size < w1.heap.size := World.block_lt_of_cell? _ _ m0
  have hq2 : eqB 1 2 ⟨#[]⟩ 1 2 ⟨#[]⟩ = true := eqB_self _ _ _
  go_wp2_with fail
  have HMo : Hid (Own (w1.alloc (.cells #[.int .i64 1, .int .i64 2, .string ⟨#[]⟩] 25)) w.heap.size 36 4 (cellsT mo)) := HMo1.out.later (bel1 _ _)
  have HB2 : Hid (Below w.heap.size w (w1.alloc (.cells #[.int .i64 1, .int .i64 2, .string ⟨#[]⟩] 25))) := HB1.out.alloc HB1.out.size _
  clear m0 m1 m2 m3 HMo1 HB1
  obtain ⟨B, hB⟩ : ∃ B, B = w1.heap.size + 1 := ⟨_, rfl⟩
  go_loopg [12, 13] (l.length + 1) (fun gk x i wr => ∃ q : Nat, gk + q = l.length + 1 ∧ q ≤ l.length ∧ i = .int .i64 ((l.length : Int) - 1 - q) ∧ OT wr B x ((tn l by').take q) ∧ Own wr w.heap.size 36 4 (cellsT mo) ∧ Below w.heap.size w wr ∧ B ≤ wr.heap.size)
  case atStart => exact ⟨0, by omega, by omega, by simp, World.ownsRow_nil _ _ _ _, HMo.out, HB2.out, by rw [hB]; simp⟩
  case round =>
    clear HMo HB2
    obtain ⟨q, hgq, hql, rfl, hO, hMo, hb, hBs⟩ := hrel
    obtain ⟨ax, cx, rfl, hT⟩ := hO.form
    have hwB : w.heap.size < B := by omega
    have htl : ((tn l by').take q).length = q := by rw [List.length_take, tn_len]; omega
    have HO := hidMk hO
    have HT := hidMk hT
    have HMo := hidMk hMo
    have HB := hidMk hb
    have hsz := hb.size
    clear hO hT hMo hb
    by_cases hlt : q < l.length
    · clear HT
      obtain ⟨hkl, htk⟩ := tn_take l by' q hlt
      have HTK := hidMk htk
      have hn0 : 0 < l.length := by omega
      have hni : (0 : Int) < (l.length : Int) := by omega
      have hnd : decide ((0 : Int) < (l.length : Int)) = true := decide_eq_true hni
      obtain ⟨b, off, eb, e0, e1, e2, e3⟩ := HL.out _ hkl
      subst eb
      replace e0 := cell_later HB.out e0
      replace e1 := cell_later HB.out e1
      replace e2 := cell_later HB.out e2
      replace e3 := cell_later HB.out e3
      have hge : (0 : Int) ≤ (l.length : Int) - 1 - q := by omega
      clear htk
      generalize ((tn l by').take q) = s at *
      subst htl
      clear hB
      have hrl := byR_lt by' l.length hn0
      have hR0 : ¬ 0 < by' → byR by' l.length = 0 := fun h => by unfold byR; rw [if_neg h]
      have hR1 : 0 < by' → byR by' l.length = by'.toNat % l.length := fun h => by unfold byR; rw [if_pos h]
      generalize l[(l.length - 1 - s.length + byR by' l.length) % l.length] = o at *
      generalize byR by' l.length = r at *
      obtain ⟨iN, hiN⟩ : ∃ iN : Nat, (l.length : Int) - 1 - (s.length : Int) = iN := ⟨l.length - 1 - s.length, by omega⟩
      have hiN' : l.length - 1 - s.length = iN := by omega
      rw [hiN] at hge
      rw [hiN]
      rw [hiN'] at e0 e1 e2 e3 hkl
      obtain ⟨K, hK⟩ : ∃ K, K = (iN + r) % l.length := ⟨_, rfl⟩
      rw [← hK] at e0 e1 e2 e3 hkl
      have hKi : (K : Int) < (l.length : Int) := by omega
      have hil : iN < l.length := by omega
      have hstep : Hid (wrap64 ((iN : Int) - 1) = (l.length : Int) - 1 - ((s.length + 1 : Nat) : Int)) := by rw [Hid, w64 (by omega) (by omega)]; omega
      have hsl : s.length ≤ 3518437208780 := by omega
      by_cases hby : 0 < by'
      · have hbd : decide (0 < by') = true := decide_eq_true hby
        have t1 : by' % (l.length : Int) = (r : Int) := by
          rw [hR1 hby, Int.natCast_emod, Int.toNat_of_nonneg (by omega)]
        have t9 : (wrap64 ((iN : Int) + by' % (l.length : Int))).tmod (l.length : Int) = (K : Int) := by
          rw [t1, w64 (by omega) (by omega), hK, ← Int.natCast_add]; rfl
        clear t1
        clear hR0 hR1 hiN hiN' hK
        go_wp2_with (at_builtin; refine wpList_append_own_at _ rfl _ _ 22 rfl B 36 i0 (.agg #[.int .i64 0, .int .i64 0, .int .i64 0, .string ⟨#[]⟩]) 4 40 Tryd.underlying22 hi0 hz0 hz1 hz2 rfl (by decide) _ s.length (s.flatMap cellsT) rfl (HO.out.alloc _) ⟨wr.heap.size, 0, none⟩ 1 1 (cellsT o) rfl rfl (World.news_of_block (cs := #[.int .i64 o.t, .int .i64 o.v.k, .int .i64 o.v.n, .string o.v.s]) (t := 36) (fr := (0, 0)) (heap_alloc_new wr _)) (one_cellsT _) (by unfold maxLen; omega) (by omega) (by simp; omega) ?_)
        intro v' w5 hown hgrow _ hat
        have hne : ∀ kk, Value.ownBlock (.slice ax s.length cx) = some kk → B ≤ kk := fun kk hkk => (World.ownsRow.lt HO.out kk hkk).1
        have HO5 : Hid (OT w5 B v' (s ++ [o])) := OT.more hown
        have HM5 : Hid (Own w5 w.heap.size 36 4 (cellsT mo)) := Own.grown (Own.later HMo.out (bel1 _ _)) hgrow (fun e => by have := hne _ e.symm; omega)
        have HB5 : Hid (Below w.heap.size w w5) := (HB.out.alloc hsz _).grown hgrow (by simp; omega) (fun j ej => by have := hne _ ej; omega)
        have hs5 : B ≤ w5.heap.size := by have := hgrow.size; simp at this; omega
        clear hown hgrow hat hne HO HMo HB e0 e1 e2 e3
        go_wp2
        go_roundg (gk - 1)
        case rel => exact ⟨s.length + 1, by omega, by omega, (by rw [← hstep.out, w64 (by omega) (by omega)]; try rfl), by rw [HTK.out]; exact HO5.out, HM5.out, HB5.out, hs5⟩
        case measure => omega
      · have hbd : decide (0 < by') = false := decide_eq_false hby
        have hr0 := hR0 hby
        subst hr0
        have hKN : K = iN := by rw [hK, Nat.add_zero, Nat.mod_eq_of_lt hil]
        subst hKN
        clear hR0 hR1 hiN hiN' hK
        go_wp2_with (at_builtin; refine wpList_append_own_at _ rfl _ _ 22 rfl B 36 i0 (.agg #[.int .i64 0, .int .i64 0, .int .i64 0, .string ⟨#[]⟩]) 4 40 Tryd.underlying22 hi0 hz0 hz1 hz2 rfl (by decide) _ s.length (s.flatMap cellsT) rfl (HO.out.alloc _) ⟨wr.heap.size, 0, none⟩ 1 1 (cellsT o) rfl rfl (World.news_of_block (cs := #[.int .i64 o.t, .int .i64 o.v.k, .int .i64 o.v.n, .string o.v.s]) (t := 36) (fr := (0, 0)) (heap_alloc_new wr _)) (one_cellsT _) (by unfold maxLen; omega) (by omega) (by simp; omega) ?_)
        intro v' w5 hown hgrow _ hat
        have hne : ∀ kk, Value.ownBlock (.slice ax s.length cx) = some kk → B ≤ kk := fun kk hkk => (World.ownsRow.lt HO.out kk hkk).1
        have HO5 : Hid (OT w5 B v' (s ++ [o])) := OT.more hown
        have HM5 : Hid (Own w5 w.heap.size 36 4 (cellsT mo)) := Own.grown (Own.later HMo.out (bel1 _ _)) hgrow (fun e => by have := hne _ e.symm; omega)
        have HB5 : Hid (Below w.heap.size w w5) := (HB.out.alloc hsz _).grown hgrow (by simp; omega) (fun j ej => by have := hne _ ej; omega)
        have hs5 : B ≤ w5.heap.size := by have := hgrow.size; simp at this; omega
        clear hown hgrow hat hne HO HMo HB e0 e1 e2 e3
        go_wp2
        go_roundg (gk - 1)
        case rel => exact ⟨s.length + 1, by omega, by omega, (by rw [← hstep.out, w64 (by omega) (by omega)]; try rfl), by rw [HTK.out]; exact HO5.out, HM5.out, HB5.out, hs5⟩
        case measure => omega
    · obtain rfl : q = l.length := by omega
      have hT1 : (tn l by').take l.length = tn l by' := List.take_of_length_le (by rw [tn_len]; exact Nat.le_refl _)
      rw [hT1] at HO HT htl
      rw [hT1]
      clear hT1 hB
      have HP := hidMk (rot_perm l (byR by' l.length))
      have HPF : Hid (∀ o ∈ tn l by', Fits o.v) := fun o ho => HG.out o ((rot_perm l _).mem_iff.1 ho)
      have HPA : Hid (∀ k, okF k (tn l by') = okF k l) := fun k => by
        unfold okF
        congr 1
        rw [Bool.eq_iff_iff, List.all_eq_true, List.all_eq_true]
        exact ⟨fun h x hx => h x ((rot_perm l _).mem_iff.2 hx), fun h x hx => h x ((rot_perm l _).mem_iff.1 hx)⟩
      have HPV : Hid (∀ k, foldV k (tn l by') = foldV k l) := fun k => fold_perm k (rot_perm l _)
      have HPM : Hid (∀ x ∈ l, x ∈ tn l by' ++ [mo]) := fun x hx => List.mem_append_left _ ((rot_perm l _).mem_iff.2 hx)
      generalize tn l by' = t at *
      have HFt : Hid (∀ kd W, Below wr.heap.size wr W → Calls Tryd.prog 5 #[.int .i64 kd, .slice ax t.length cx] W (FdPost kd t W)) := fun kd W hW => fold_any kd t ax cx W (HT.out.later hW) ⟨by omega, HPF.out⟩
      have HTL := hidMk htl
      clear HT htl
      go_wp2_with fail
      refine (HF.out kind _ HB.out).mono ?_
      rintro e w2 ⟨hb2, h2⟩
      have HB2 := hidMk hb2
      cases hok : okF kind l with
      | true =>
        rw [hok] at h2
        simp only [if_true] at h2
        subst h2
        have HV2 := hidMk (HPV.out kind)
        generalize foldV kind l = y at *
        unfold vv
        clear hb2
        have hyy : eqB y.k y.n y.s y.k y.n y.s = true := eqB_self _ _ _
        go_wp2_with fail
        refine (HFt.out kind _ (HB2.out.alloc HB2.out.size _)).mono ?_
        rintro e w3 ⟨hb3, h3⟩
        rw [HPA.out kind, hok] at h3
        simp only [if_true] at h3
        rw [HV2.out] at h3
        subst h3
        have a0 := cell_later (a := ⟨w2.heap.size, 0, none⟩) hb3 (v := .int .i64 y.k) (by go_simp)
        have a1 := cell_later (a := ⟨w2.heap.size, 1, none⟩) hb3 (v := .int .i64 y.n) (by go_simp)
        have a2 := cell_later (a := ⟨w2.heap.size, 2, none⟩) hb3 (v := .string y.s) (by go_simp)
        have HB3 : Hid (Below wr.heap.size wr w3) := (HB2.out.alloc HB2.out.size _).trans (hb3.mono (by have := HB2.out.size; simp; omega))
        have hl3 : w2.heap.size < w3.heap.size := World.block_lt_of_cell? _ _ a0
        clear hb3 HB2 HV2
        unfold vv
        go_wp2_with (first | (go_at_call 6; refine (told_nil _).mono ?_; rintro e w4 ⟨rfl, hw4⟩; subst hw4))
        have HW3 : Hid (Below wr.heap.size wr (w3.alloc (.cells #[.int .i64 y.k, .int .i64 y.n, .string y.s] 25))) := HB3.out.alloc HB3.out.size _
        clear a0 a1 a2 hl3
        generalize w3.alloc (.cells #[.int .i64 y.k, .int .i64 y.n, .string y.s] 25) = W3 at *
        refine (HF.out 3 _ (HB.out.trans (HW3.out.mono hsz))).mono ?_
        rintro e w5 ⟨hb5, h5⟩
        have HB5 : Hid (Below wr.heap.size wr w5) := HW3.out.trans (hb5.mono HW3.out.size)
        clear hb5 HW3 HB3
        cases hok3 : okF 3 l with
        | true =>
          rw [hok3] at h5
          simp only [if_true] at h5
          subst h5
          have HLM := hidMk (@least_more l (t ++ [mo]) HPM.out)
          obtain ⟨m, hmd⟩ : ∃ m, m = foldV 3 l := ⟨_, rfl⟩
          rw [← hmd] at HLM
          rw [← hmd]
          clear hmd
          unfold vv
          have hM5 := (HMo.out.later HB5.out).later (bel1 w5 (.cells #[.int .i64 m.k, .int .i64 m.n, .string m.s] 25))
          obtain ⟨c0, c1, c2, c3⟩ := cell4 (n := 0) (r := []) (by rw [List.append_nil]; exact hM5)
          have hMl := hM5.lt
          have HO5 : Hid (OT (w5.alloc (.cells #[.int .i64 m.k, .int .i64 m.n, .string m.s] 25)) B (.slice ax t.length cx) t) := (HO.out.later HB5.out).later (bel1 _ _)
          have hlt5 : ∀ kk, Value.ownBlock (.slice ax t.length cx) = some kk → kk < wr.heap.size := fun kk hkk => (World.ownsRow.lt HO.out kk hkk).2
          have HLT5 := hidMk hlt5
          have hs5 : wr.heap.size ≤ w5.heap.size := HB5.out.size
          have d0 : (w5.alloc (.cells #[.int .i64 m.k, .int .i64 m.n, .string m.s] 25)).cell? ⟨w5.heap.size, 0, none⟩ = some (.int .i64 m.k) := by go_simp
          have d1 : (w5.alloc (.cells #[.int .i64 m.k, .int .i64 m.n, .string m.s] 25)).cell? ⟨w5.heap.size, 1, none⟩ = some (.int .i64 m.n) := by go_simp
          have d2 : (w5.alloc (.cells #[.int .i64 m.k, .int .i64 m.n, .string m.s] 25)).cell? ⟨w5.heap.size, 2, none⟩ = some (.string m.s) := by go_simp
          have HB6 : Hid (Below w.heap.size w (w5.alloc (.cells #[.int .i64 m.k, .int .i64 m.n, .string m.s] 25))) := (HB.out.trans (HB5.out.mono hsz)).alloc (by omega) _
          have htl3 : t.length ≤ 3518437208780 := by rw [HTL.out]; exact hm
          clear hM5 hlt5 HMo HO HB5
          have HN : Hid (∀ j u, (cellsT mo)[j]? = some u → ((w5.alloc (.cells #[.int .i64 m.k, .int .i64 m.n, .string m.s] 25)).alloc (.cells #[.int .i64 mo.t, .int .i64 mo.v.k, .int .i64 mo.v.n, .string mo.v.s] 36)).cell? ((⟨w5.heap.size + 1, 0, none⟩ : Addr).add j) = some u) := by
            have h := World.news_of_block (cs := #[.int .i64 mo.t, .int .i64 mo.v.k, .int .i64 mo.v.n, .string mo.v.s]) (t := 36) (fr := (0, 0)) (heap_alloc_new (w5.alloc (.cells #[.int .i64 m.k, .int .i64 m.n, .string m.s] 25)) _)
            rw [show (w5.alloc (.cells #[.int .i64 m.k, .int .i64 m.n, .string m.s] 25)).heap.size = w5.heap.size + 1 from by simp] at h
            exact h
          have hmw : ¬ w5.heap.size = w.heap.size := by omega
          go_wp2_with (at_builtin; refine wpList_append_own_at _ rfl _ _ 22 rfl B 36 i0 (.agg #[.int .i64 0, .int .i64 0, .int .i64 0, .string ⟨#[]⟩]) 4 40 Tryd.underlying22 hi0 hz0 hz1 hz2 rfl (by decide) _ t.length (t.flatMap cellsT) rfl (HO5.out.alloc _) ⟨w5.heap.size + 1, 0, none⟩ 1 1 (cellsT mo) rfl rfl HN.out (one_cellsT _) (by unfold maxLen; omega) (by omega) (by simp; omega) ?_)
          intro v' w6 hown hgrow _ hat
          have HO6 : Hid (OT w6 B v' (t ++ [mo])) := OT.more hown
          obtain ⟨a6, c6, rfl, hT6⟩ := HO6.out.form
          have hne : ∀ x : Nat, wr.heap.size ≤ x → some x ≠ Value.ownBlock (.slice ax t.length cx) := fun x hx e => by have := HLT5.out _ e.symm; omega
          have HB7 : Hid (Below w.heap.size w w6) := (HB6.out.alloc HB6.out.size _).grown hgrow (by simp; omega) (fun j ej => by have := (World.ownsRow.lt HO5.out j ej).1; omega)
          replace d0 := hgrow.cell (cell_later (bel1 _ (.cells #[.int .i64 mo.t, .int .i64 mo.v.k, .int .i64 mo.v.n, .string mo.v.s] 36)) d0) (hne _ hs5)
          replace d1 := hgrow.cell (cell_later (bel1 _ (.cells #[.int .i64 mo.t, .int .i64 mo.v.k, .int .i64 mo.v.n, .string mo.v.s] 36)) d1) (hne _ hs5)
          replace d2 := hgrow.cell (cell_later (bel1 _ (.cells #[.int .i64 mo.t, .int .i64 mo.v.k, .int .i64 mo.v.n, .string mo.v.s] 36)) d2) (hne _ hs5)
          have HFa : Hid (∀ W, Below w6.heap.size w6 W → Calls Tryd.prog 5 #[.int .i64 3, .slice a6 (t ++ [mo]).length c6] W (FdPost 3 (t ++ [mo]) W)) := fun W hW => fold_any 3 (t ++ [mo]) a6 c6 W (hT6.later hW) ⟨by simp; omega, fun o ho => by
            rcases List.mem_append.1 ho with h | h
            · exact HPF.out o h
            · rw [List.mem_singleton.1 h]; exact HM.out⟩
          clear hown hgrow hat hT6 hne c0 c1 c2 c3 HN HO5 HB6 HLT5
          generalize (t ++ [mo]) = u at *
          go_wp2_with fail
          refine (HFa.out _ (Below.refl _ _)).mono ?_
          rintro e w7 ⟨hb7, h7⟩
          have HB8 : Hid (Below w.heap.size w w7) := HB7.out.trans (hb7.mono HB7.out.size)
          replace d0 := cell_later hb7 d0
          replace d1 := cell_later hb7 d1
          replace d2 := cell_later hb7 d2
          have hl7 : w5.heap.size < w7.heap.size := World.block_lt_of_cell? _ _ d0
          clear hb7 HFa HB7
          cases hok7 : okF 3 u with
          | true =>
            rw [hok7] at h7
            simp only [if_true] at h7
            subst h7
            generalize foldV 3 u = z at *
            unfold vv
            by_cases hmk : m.k = 0
            · have hmk1 : (m.k == 0) = true := by simpa using hmk
              go_wp2_with fail
              go_ret
              exact ⟨rfl, HB8.out.alloc HB8.out.size _⟩
            · have hmk1 : (m.k == 0) = false := by simpa using hmk
              have HLm : Hid (ltW m z = false) := HLM.out hmk
              go_wp2_with fail
              refine (before_any m.k m.n m.s z.k z.n z.s _).mono ?_
              rintro e w8 ⟨rfl, hb8⟩
              have HB9 : Hid (Below w.heap.size w w8) := (HB8.out.alloc HB8.out.size _).trans (hb8.mono (by have := HB8.out.size; simp; omega))
              clear hb8
              rw [show ltV m.k m.n m.s z.k z.n z.s = false from HLm.out]
              go_wp2_with fail
              go_ret
              exact ⟨rfl, HB9.out⟩
          | false =>
            rw [hok7] at h7
            simp only [Bool.false_eq_true, if_false] at h7
            subst h7
            unfold vv v0 errR
            go_wp2_with fail
            go_ret
            exact ⟨rfl, HB8.out.alloc HB8.out.size _⟩
        | false =>
          rw [hok3] at h5
          simp only [Bool.false_eq_true, if_false] at h5
          subst h5
          obtain ⟨m, hmd⟩ : ∃ m : V, m = v0 := ⟨_, rfl⟩
          rw [← hmd]
          clear hmd
          unfold vv errR
          have hM5 := (HMo.out.later HB5.out).later (bel1 w5 (.cells #[.int .i64 m.k, .int .i64 m.n, .string m.s] 25))
          obtain ⟨c0, c1, c2, c3⟩ := cell4 (n := 0) (r := []) (by rw [List.append_nil]; exact hM5)
          have hMl := hM5.lt
          have HO5 : Hid (OT (w5.alloc (.cells #[.int .i64 m.k, .int .i64 m.n, .string m.s] 25)) B (.slice ax t.length cx) t) := (HO.out.later HB5.out).later (bel1 _ _)
          have hlt5 : ∀ kk, Value.ownBlock (.slice ax t.length cx) = some kk → kk < wr.heap.size := fun kk hkk => (World.ownsRow.lt HO.out kk hkk).2
          have HLT5 := hidMk hlt5
          have hs5 : wr.heap.size ≤ w5.heap.size := HB5.out.size
          have d0 : (w5.alloc (.cells #[.int .i64 m.k, .int .i64 m.n, .string m.s] 25)).cell? ⟨w5.heap.size, 0, none⟩ = some (.int .i64 m.k) := by go_simp
          have d1 : (w5.alloc (.cells #[.int .i64 m.k, .int .i64 m.n, .string m.s] 25)).cell? ⟨w5.heap.size, 1, none⟩ = some (.int .i64 m.n) := by go_simp
          have d2 : (w5.alloc (.cells #[.int .i64 m.k, .int .i64 m.n, .string m.s] 25)).cell? ⟨w5.heap.size, 2, none⟩ = some (.string m.s) := by go_simp
          have HB6 : Hid (Below w.heap.size w (w5.alloc (.cells #[.int .i64 m.k, .int .i64 m.n, .string m.s] 25))) := (HB.out.trans (HB5.out.mono hsz)).alloc (by omega) _
          have htl3 : t.length ≤ 3518437208780 := by rw [HTL.out]; exact hm
          clear hM5 hlt5 HMo HO HB5
          have HN : Hid (∀ j u, (cellsT mo)[j]? = some u → ((w5.alloc (.cells #[.int .i64 m.k, .int .i64 m.n, .string m.s] 25)).alloc (.cells #[.int .i64 mo.t, .int .i64 mo.v.k, .int .i64 mo.v.n, .string mo.v.s] 36)).cell? ((⟨w5.heap.size + 1, 0, none⟩ : Addr).add j) = some u) := by
            have h := World.news_of_block (cs := #[.int .i64 mo.t, .int .i64 mo.v.k, .int .i64 mo.v.n, .string mo.v.s]) (t := 36) (fr := (0, 0)) (heap_alloc_new (w5.alloc (.cells #[.int .i64 m.k, .int .i64 m.n, .string m.s] 25)) _)
            rw [show (w5.alloc (.cells #[.int .i64 m.k, .int .i64 m.n, .string m.s] 25)).heap.size = w5.heap.size + 1 from by simp] at h
            exact h
          have hmw : ¬ w5.heap.size = w.heap.size := by omega
          go_wp2_with (at_builtin; refine wpList_append_own_at _ rfl _ _ 22 rfl B 36 i0 (.agg #[.int .i64 0, .int .i64 0, .int .i64 0, .string ⟨#[]⟩]) 4 40 Tryd.underlying22 hi0 hz0 hz1 hz2 rfl (by decide) _ t.length (t.flatMap cellsT) rfl (HO5.out.alloc _) ⟨w5.heap.size + 1, 0, none⟩ 1 1 (cellsT mo) rfl rfl HN.out (one_cellsT _) (by unfold maxLen; omega) (by omega) (by simp; omega) ?_)
          intro v' w6 hown hgrow _ hat
          have HO6 : Hid (OT w6 B v' (t ++ [mo])) := OT.more hown
          obtain ⟨a6, c6, rfl, hT6⟩ := HO6.out.form
          have hne : ∀ x : Nat, wr.heap.size ≤ x → some x ≠ Value.ownBlock (.slice ax t.length cx) := fun x hx e => by have := HLT5.out _ e.symm; omega
          have HB7 : Hid (Below w.heap.size w w6) := (HB6.out.alloc HB6.out.size _).grown hgrow (by simp; omega) (fun j ej => by have := (World.ownsRow.lt HO5.out j ej).1; omega)
          replace d0 := hgrow.cell (cell_later (bel1 _ (.cells #[.int .i64 mo.t, .int .i64 mo.v.k, .int .i64 mo.v.n, .string mo.v.s] 36)) d0) (hne _ hs5)
          replace d1 := hgrow.cell (cell_later (bel1 _ (.cells #[.int .i64 mo.t, .int .i64 mo.v.k, .int .i64 mo.v.n, .string mo.v.s] 36)) d1) (hne _ hs5)
          replace d2 := hgrow.cell (cell_later (bel1 _ (.cells #[.int .i64 mo.t, .int .i64 mo.v.k, .int .i64 mo.v.n, .string mo.v.s] 36)) d2) (hne _ hs5)
          have HFa : Hid (∀ W, Below w6.heap.size w6 W → Calls Tryd.prog 5 #[.int .i64 3, .slice a6 (t ++ [mo]).length c6] W (FdPost 3 (t ++ [mo]) W)) := fun W hW => fold_any 3 (t ++ [mo]) a6 c6 W (hT6.later hW) ⟨by simp; omega, fun o ho => by
            rcases List.mem_append.1 ho with h | h
            · exact HPF.out o h
            · rw [List.mem_singleton.1 h]; exact HM.out⟩
          clear hown hgrow hat hT6 hne c0 c1 c2 c3 HN HO5 HB6 HLT5
          generalize (t ++ [mo]) = u at *
          go_wp2_with fail
          refine (HFa.out _ (Below.refl _ _)).mono ?_
          rintro e w7 ⟨hb7, h7⟩
          have HB8 : Hid (Below w.heap.size w w7) := HB7.out.trans (hb7.mono HB7.out.size)
          replace d0 := cell_later hb7 d0
          replace d1 := cell_later hb7 d1
          replace d2 := cell_later hb7 d2
          have hl7 : w5.heap.size < w7.heap.size := World.block_lt_of_cell? _ _ d0
          clear hb7 HFa HB7
          cases hok7 : okF 3 u with
          | true =>
            rw [hok7] at h7
            simp only [if_true] at h7
            subst h7
            generalize foldV 3 u = z at *
            unfold vv
            go_wp2_with fail
            go_ret
            exact ⟨rfl, HB8.out.alloc HB8.out.size _⟩
          | false =>
            rw [hok7] at h7
            simp only [Bool.false_eq_true, if_false] at h7
            subst h7
            unfold vv v0 errR
            go_wp2_with fail
            go_ret
            exact ⟨rfl, HB8.out.alloc HB8.out.size _⟩
      | false =>
        rw [hok] at h2
        simp only [Bool.false_eq_true, if_false] at h2
        subst h2
        unfold vv v0 errR
        clear hb2
        have hyy : eqB 0 0 ⟨#[]⟩ 0 0 ⟨#[]⟩ = true := eqB_self _ _ _
        go_wp2_with fail
        refine (HFt.out kind _ (HB2.out.alloc HB2.out.size _)).mono ?_
        rintro e w3 ⟨hb3, h3⟩
        rw [HPA.out kind, hok] at h3
        simp only [Bool.false_eq_true, if_false] at h3
        subst h3
        have a0 := cell_later (a := ⟨w2.heap.size, 0, none⟩) hb3 (v := .int .i64 0) (by go_simp)
        have a1 := cell_later (a := ⟨w2.heap.size, 1, none⟩) hb3 (v := .int .i64 0) (by go_simp)
        have a2 := cell_later (a := ⟨w2.heap.size, 2, none⟩) hb3 (v := .string ⟨#[]⟩) (by go_simp)
        have HB3 : Hid (Below wr.heap.size wr w3) := (HB2.out.alloc HB2.out.size _).trans (hb3.mono (by have := HB2.out.size; simp; omega))
        have hl3 : w2.heap.size < w3.heap.size := World.block_lt_of_cell? _ _ a0
        clear hb3 HB2
        unfold vv v0 errR
        have HEr : Hid (∀ W, Below wr.heap.size wr W → Ety W) := fun W hW => HE.out.later (HB.out.trans (hW.mono hsz))
        have HW0 : Hid (Below wr.heap.size wr (w3.alloc (.cells #[.int .i64 0, .int .i64 0, .string ⟨#[]⟩] 25))) := HB3.out.alloc HB3.out.size _
        have b0 : (w3.alloc (.cells #[.int .i64 0, .int .i64 0, .string ⟨#[]⟩] 25)).cell? ⟨w3.heap.size, 0, none⟩ = some (.int .i64 0) := by go_simp
        have b1 : (w3.alloc (.cells #[.int .i64 0, .int .i64 0, .string ⟨#[]⟩] 25)).cell? ⟨w3.heap.size, 1, none⟩ = some (.int .i64 0) := by go_simp
        have b2 : (w3.alloc (.cells #[.int .i64 0, .int .i64 0, .string ⟨#[]⟩] 25)).cell? ⟨w3.heap.size, 2, none⟩ = some (.string ⟨#[]⟩) := by go_simp
        replace a0 := cell_later (bel1 w3 (.cells #[.int .i64 0, .int .i64 0, .string ⟨#[]⟩] 25)) a0
        replace a1 := cell_later (bel1 w3 (.cells #[.int .i64 0, .int .i64 0, .string ⟨#[]⟩] 25)) a1
        replace a2 := cell_later (bel1 w3 (.cells #[.int .i64 0, .int .i64 0, .string ⟨#[]⟩] 25)) a2
        clear HB3
        go_wp2_with fail
        generalize w3.alloc (.cells #[.int .i64 0, .int .i64 0, .string ⟨#[]⟩] 25) = W4 at *
        refine (told_errno 4 _ (HEr.out _ HW0.out)).mono ?_
        rintro e w8 ⟨rfl, hb8⟩
        replace a0 := cell_later hb8 a0
        replace a1 := cell_later hb8 a1
        replace a2 := cell_later hb8 a2
        replace b0 := cell_later hb8 b0
        replace b1 := cell_later hb8 b1
        replace b2 := cell_later hb8 b2
        have HW8 : Hid (Below wr.heap.size wr w8) := HW0.out.trans (hb8.mono HW0.out.size)
        clear hb8 HW0
        go_wp2_with fail
        refine (told_errno 4 _ (HEr.out _ HW8.out)).mono ?_
        rintro e W3 ⟨rfl, hb9⟩
        replace a0 := cell_later hb9 a0
        replace a1 := cell_later hb9 a1
        replace a2 := cell_later hb9 a2
        replace b0 := cell_later hb9 b0
        replace b1 := cell_later hb9 b1
        replace b2 := cell_later hb9 b2
        have HW3 : Hid (Below wr.heap.size wr W3) := HW8.out.trans (hb9.mono HW8.out.size)
        clear hb9 HW8
        go_wp2_with fail
        clear a0 a1 a2 b0 b1 b2 hl3
        refine (HF.out 3 _ (HB.out.trans (HW3.out.mono hsz))).mono ?_
        rintro e w5 ⟨hb5, h5⟩
        have HB5 : Hid (Below wr.heap.size wr w5) := HW3.out.trans (hb5.mono HW3.out.size)
        clear hb5 HW3
        cases hok3 : okF 3 l with
        | true =>
          rw [hok3] at h5
          simp only [if_true] at h5
          subst h5
          have HLM := hidMk (@least_more l (t ++ [mo]) HPM.out)
          obtain ⟨m, hmd⟩ : ∃ m, m = foldV 3 l := ⟨_, rfl⟩
          rw [← hmd] at HLM
          rw [← hmd]
          clear hmd
          unfold vv
          have hM5 := (HMo.out.later HB5.out).later (bel1 w5 (.cells #[.int .i64 m.k, .int .i64 m.n, .string m.s] 25))
          obtain ⟨c0, c1, c2, c3⟩ := cell4 (n := 0) (r := []) (by rw [List.append_nil]; exact hM5)
          have hMl := hM5.lt
          have HO5 : Hid (OT (w5.alloc (.cells #[.int .i64 m.k, .int .i64 m.n, .string m.s] 25)) B (.slice ax t.length cx) t) := (HO.out.later HB5.out).later (bel1 _ _)
          have hlt5 : ∀ kk, Value.ownBlock (.slice ax t.length cx) = some kk → kk < wr.heap.size := fun kk hkk => (World.ownsRow.lt HO.out kk hkk).2
          have HLT5 := hidMk hlt5
          have hs5 : wr.heap.size ≤ w5.heap.size := HB5.out.size
          have d0 : (w5.alloc (.cells #[.int .i64 m.k, .int .i64 m.n, .string m.s] 25)).cell? ⟨w5.heap.size, 0, none⟩ = some (.int .i64 m.k) := by go_simp
          have d1 : (w5.alloc (.cells #[.int .i64 m.k, .int .i64 m.n, .string m.s] 25)).cell? ⟨w5.heap.size, 1, none⟩ = some (.int .i64 m.n) := by go_simp
          have d2 : (w5.alloc (.cells #[.int .i64 m.k, .int .i64 m.n, .string m.s] 25)).cell? ⟨w5.heap.size, 2, none⟩ = some (.string m.s) := by go_simp
          have HB6 : Hid (Below w.heap.size w (w5.alloc (.cells #[.int .i64 m.k, .int .i64 m.n, .string m.s] 25))) := (HB.out.trans (HB5.out.mono hsz)).alloc (by omega) _
          have htl3 : t.length ≤ 3518437208780 := by rw [HTL.out]; exact hm
          clear hM5 hlt5 HMo HO HB5
          have HN : Hid (∀ j u, (cellsT mo)[j]? = some u → ((w5.alloc (.cells #[.int .i64 m.k, .int .i64 m.n, .string m.s] 25)).alloc (.cells #[.int .i64 mo.t, .int .i64 mo.v.k, .int .i64 mo.v.n, .string mo.v.s] 36)).cell? ((⟨w5.heap.size + 1, 0, none⟩ : Addr).add j) = some u) := by
            have h := World.news_of_block (cs := #[.int .i64 mo.t, .int .i64 mo.v.k, .int .i64 mo.v.n, .string mo.v.s]) (t := 36) (fr := (0, 0)) (heap_alloc_new (w5.alloc (.cells #[.int .i64 m.k, .int .i64 m.n, .string m.s] 25)) _)
            rw [show (w5.alloc (.cells #[.int .i64 m.k, .int .i64 m.n, .string m.s] 25)).heap.size = w5.heap.size + 1 from by simp] at h
            exact h
          have hmw : ¬ w5.heap.size = w.heap.size := by omega
          go_wp2_with (at_builtin; refine wpList_append_own_at _ rfl _ _ 22 rfl B 36 i0 (.agg #[.int .i64 0, .int .i64 0, .int .i64 0, .string ⟨#[]⟩]) 4 40 Tryd.underlying22 hi0 hz0 hz1 hz2 rfl (by decide) _ t.length (t.flatMap cellsT) rfl (HO5.out.alloc _) ⟨w5.heap.size + 1, 0, none⟩ 1 1 (cellsT mo) rfl rfl HN.out (one_cellsT _) (by unfold maxLen; omega) (by omega) (by simp; omega) ?_)
          intro v' w6 hown hgrow _ hat
          have HO6 : Hid (OT w6 B v' (t ++ [mo])) := OT.more hown
          obtain ⟨a6, c6, rfl, hT6⟩ := HO6.out.form
          have hne : ∀ x : Nat, wr.heap.size ≤ x → some x ≠ Value.ownBlock (.slice ax t.length cx) := fun x hx e => by have := HLT5.out _ e.symm; omega
          have HB7 : Hid (Below w.heap.size w w6) := (HB6.out.alloc HB6.out.size _).grown hgrow (by simp; omega) (fun j ej => by have := (World.ownsRow.lt HO5.out j ej).1; omega)
          replace d0 := hgrow.cell (cell_later (bel1 _ (.cells #[.int .i64 mo.t, .int .i64 mo.v.k, .int .i64 mo.v.n, .string mo.v.s] 36)) d0) (hne _ hs5)
          replace d1 := hgrow.cell (cell_later (bel1 _ (.cells #[.int .i64 mo.t, .int .i64 mo.v.k, .int .i64 mo.v.n, .string mo.v.s] 36)) d1) (hne _ hs5)
          replace d2 := hgrow.cell (cell_later (bel1 _ (.cells #[.int .i64 mo.t, .int .i64 mo.v.k, .int .i64 mo.v.n, .string mo.v.s] 36)) d2) (hne _ hs5)
          have HFa : Hid (∀ W, Below w6.heap.size w6 W → Calls Tryd.prog 5 #[.int .i64 3, .slice a6 (t ++ [mo]).length c6] W (FdPost 3 (t ++ [mo]) W)) := fun W hW => fold_any 3 (t ++ [mo]) a6 c6 W (hT6.later hW) ⟨by simp; omega, fun o ho => by
            rcases List.mem_append.1 ho with h | h
            · exact HPF.out o h
            · rw [List.mem_singleton.1 h]; exact HM.out⟩
          clear hown hgrow hat hT6 hne c0 c1 c2 c3 HN HO5 HB6 HLT5
          generalize (t ++ [mo]) = u at *
          go_wp2_with fail
          refine (HFa.out _ (Below.refl _ _)).mono ?_
          rintro e w7 ⟨hb7, h7⟩
          have HB8 : Hid (Below w.heap.size w w7) := HB7.out.trans (hb7.mono HB7.out.size)
          replace d0 := cell_later hb7 d0
          replace d1 := cell_later hb7 d1
          replace d2 := cell_later hb7 d2
          have hl7 : w5.heap.size < w7.heap.size := World.block_lt_of_cell? _ _ d0
          clear hb7 HFa HB7
          cases hok7 : okF 3 u with
          | true =>
            rw [hok7] at h7
            simp only [if_true] at h7
            subst h7
            generalize foldV 3 u = z at *
            unfold vv
            by_cases hmk : m.k = 0
            · have hmk1 : (m.k == 0) = true := by simpa using hmk
              go_wp2_with fail
              go_ret
              exact ⟨rfl, HB8.out.alloc HB8.out.size _⟩
            · have hmk1 : (m.k == 0) = false := by simpa using hmk
              have HLm : Hid (ltW m z = false) := HLM.out hmk
              go_wp2_with fail
              refine (before_any m.k m.n m.s z.k z.n z.s _).mono ?_
              rintro e w8 ⟨rfl, hb8⟩
              have HB9 : Hid (Below w.heap.size w w8) := (HB8.out.alloc HB8.out.size _).trans (hb8.mono (by have := HB8.out.size; simp; omega))
              clear hb8
              rw [show ltV m.k m.n m.s z.k z.n z.s = false from HLm.out]
              go_wp2_with fail
              go_ret
              exact ⟨rfl, HB9.out⟩
          | false =>
            rw [hok7] at h7
            simp only [Bool.false_eq_true, if_false] at h7
            subst h7
            unfold vv v0 errR
            go_wp2_with fail
            go_ret
            exact ⟨rfl, HB8.out.alloc HB8.out.size _⟩
        | false =>
          rw [hok3] at h5
          simp only [Bool.false_eq_true, if_false] at h5
          subst h5
          obtain ⟨m, hmd⟩ : ∃ m : V, m = v0 := ⟨_, rfl⟩
          rw [← hmd]
          clear hmd
          unfold vv errR
          have hM5 := (HMo.out.later HB5.out).later (bel1 w5 (.cells #[.int .i64 m.k, .int .i64 m.n, .string m.s] 25))
          obtain ⟨c0, c1, c2, c3⟩ := cell4 (n := 0) (r := []) (by rw [List.append_nil]; exact hM5)
          have hMl := hM5.lt
          have HO5 : Hid (OT (w5.alloc (.cells #[.int .i64 m.k, .int .i64 m.n, .string m.s] 25)) B (.slice ax t.length cx) t) := (HO.out.later HB5.out).later (bel1 _ _)
          have hlt5 : ∀ kk, Value.ownBlock (.slice ax t.length cx) = some kk → kk < wr.heap.size := fun kk hkk => (World.ownsRow.lt HO.out kk hkk).2
          have HLT5 := hidMk hlt5
          have hs5 : wr.heap.size ≤ w5.heap.size := HB5.out.size
          have d0 : (w5.alloc (.cells #[.int .i64 m.k, .int .i64 m.n, .string m.s] 25)).cell? ⟨w5.heap.size, 0, none⟩ = some (.int .i64 m.k) := by go_simp
          have d1 : (w5.alloc (.cells #[.int .i64 m.k, .int .i64 m.n, .string m.s] 25)).cell? ⟨w5.heap.size, 1, none⟩ = some (.int .i64 m.n) := by go_simp
          have d2 : (w5.alloc (.cells #[.int .i64 m.k, .int .i64 m.n, .string m.s] 25)).cell? ⟨w5.heap.size, 2, none⟩ = some (.string m.s) := by go_simp
          have HB6 : Hid (Below w.heap.size w (w5.alloc (.cells #[.int .i64 m.k, .int .i64 m.n, .string m.s] 25))) := (HB.out.trans (HB5.out.mono hsz)).alloc (by omega) _
          have htl3 : t.length ≤ 3518437208780 := by rw [HTL.out]; exact hm
          clear hM5 hlt5 HMo HO HB5
          have HN : Hid (∀ j u, (cellsT mo)[j]? = some u → ((w5.alloc (.cells #[.int .i64 m.k, .int .i64 m.n, .string m.s] 25)).alloc (.cells #[.int .i64 mo.t, .int .i64 mo.v.k, .int .i64 mo.v.n, .string mo.v.s] 36)).cell? ((⟨w5.heap.size + 1, 0, none⟩ : Addr).add j) = some u) := by
            have h := World.news_of_block (cs := #[.int .i64 mo.t, .int .i64 mo.v.k, .int .i64 mo.v.n, .string mo.v.s]) (t := 36) (fr := (0, 0)) (heap_alloc_new (w5.alloc (.cells #[.int .i64 m.k, .int .i64 m.n, .string m.s] 25)) _)
            rw [show (w5.alloc (.cells #[.int .i64 m.k, .int .i64 m.n, .string m.s] 25)).heap.size = w5.heap.size + 1 from by simp] at h
            exact h
          have hmw : ¬ w5.heap.size = w.heap.size := by omega
          go_wp2_with (at_builtin; refine wpList_append_own_at _ rfl _ _ 22 rfl B 36 i0 (.agg #[.int .i64 0, .int .i64 0, .int .i64 0, .string ⟨#[]⟩]) 4 40 Tryd.underlying22 hi0 hz0 hz1 hz2 rfl (by decide) _ t.length (t.flatMap cellsT) rfl (HO5.out.alloc _) ⟨w5.heap.size + 1, 0, none⟩ 1 1 (cellsT mo) rfl rfl HN.out (one_cellsT _) (by unfold maxLen; omega) (by omega) (by simp; omega) ?_)
          intro v' w6 hown hgrow _ hat
          have HO6 : Hid (OT w6 B v' (t ++ [mo])) := OT.more hown
          obtain ⟨a6, c6, rfl, hT6⟩ := HO6.out.form
          have hne : ∀ x : Nat, wr.heap.size ≤ x → some x ≠ Value.ownBlock (.slice ax t.length cx) := fun x hx e => by have := HLT5.out _ e.symm; omega
          have HB7 : Hid (Below w.heap.size w w6) := (HB6.out.alloc HB6.out.size _).grown hgrow (by simp; omega) (fun j ej => by have := (World.ownsRow.lt HO5.out j ej).1; omega)
          replace d0 := hgrow.cell (cell_later (bel1 _ (.cells #[.int .i64 mo.t, .int .i64 mo.v.k, .int .i64 mo.v.n, .string mo.v.s] 36)) d0) (hne _ hs5)
          replace d1 := hgrow.cell (cell_later (bel1 _ (.cells #[.int .i64 mo.t, .int .i64 mo.v.k, .int .i64 mo.v.n, .string mo.v.s] 36)) d1) (hne _ hs5)
          replace d2 := hgrow.cell (cell_later (bel1 _ (.cells #[.int .i64 mo.t, .int .i64 mo.v.k, .int .i64 mo.v.n, .string mo.v.s] 36)) d2) (hne _ hs5)
          have HFa : Hid (∀ W, Below w6.heap.size w6 W → Calls Tryd.prog 5 #[.int .i64 3, .slice a6 (t ++ [mo]).length c6] W (FdPost 3 (t ++ [mo]) W)) := fun W hW => fold_any 3 (t ++ [mo]) a6 c6 W (hT6.later hW) ⟨by simp; omega, fun o ho => by
            rcases List.mem_append.1 ho with h | h
            · exact HPF.out o h
            · rw [List.mem_singleton.1 h]; exact HM.out⟩
          clear hown hgrow hat hT6 hne c0 c1 c2 c3 HN HO5 HB6 HLT5
          generalize (t ++ [mo]) = u at *
          go_wp2_with fail
          refine (HFa.out _ (Below.refl _ _)).mono ?_
          rintro e w7 ⟨hb7, h7⟩
          have HB8 : Hid (Below w.heap.size w w7) := HB7.out.trans (hb7.mono HB7.out.size)
          replace d0 := cell_later hb7 d0
          replace d1 := cell_later hb7 d1
          replace d2 := cell_later hb7 d2
          have hl7 : w5.heap.size < w7.heap.size := World.block_lt_of_cell? _ _ d0
          clear hb7 HFa HB7
          cases hok7 : okF 3 u with
          | true =>
            rw [hok7] at h7
            simp only [if_true] at h7
            subst h7
            generalize foldV 3 u = z at *
            unfold vv
            go_wp2_with fail
            go_ret
            exact ⟨rfl, HB8.out.alloc HB8.out.size _⟩
          | false =>
            rw [hok7] at h7
            simp only [Bool.false_eq_true, if_false] at h7
            subst h7
            unfold vv v0 errR
            go_wp2_with fail
            go_ret
            exact ⟨rfl, HB8.out.alloc HB8.out.size _⟩
end Go.Proofs.YtkeolfdjdckdaaaDoor
