import Derived.Test.YtplaplhmjpfbjaaGreatDoorOf1
namespace Go.Proofs.YtplaplhmjpfbjaaGreatDoor.Oo
open Go.RowKit
set_option linter.unusedVariables false
set_option linter.unusedSimpArgs false
set_option maxRecDepth 100000
def whereS (ck : ByteArray → Except Nat Int) (s : ByteArray) (c : List Co) : Except Nat (List Co) := match ck s with
  | .error n => .error n
  | .ok k => if k = 2 then .ok c else .error 3
theorem where_one (ck : ByteArray → Except Nat Int) (o : OpD) (s : ByteArray) (h : o.ex = [s]) : whereO ck o = whereS ck s o.c := by
  obtain ⟨k, ex, nm, c, r, ks, os, wk, ws, wt, ag, ou⟩ := o
  simp only at h
  subst h
  rfl
theorem where_not (ck : ByteArray → Except Nat Int) (o : OpD) (h : o.ex.length ≠ 1) : whereO ck o = .error 4 := by
  unfold whereO
  split
  · rename_i s hs; rw [hs] at h; exact absurd rfl h
  · rfl
theorem list_one {α : Type} {l : List α} (h : l.length = 1) : ∃ s, l = [s] := by
  match l, h with
  | [s], _ => exact ⟨s, rfl⟩
theorem one_at {α : Type} {l : List α} {s : α} (h : l = [s]) (h0 : 0 < l.length) : l[0] = s := by subst h; rfl

set_option maxHeartbeats 8000000 in
theorem outD_2 (ck : ByteArray → Except Nat Int) (o : OpD) (p : OpA) (w : World) (hs : OpSz o) (hat : OpAt w o p) (hck : CkD w o.c ck) (hk : o.k = 2) :
    Calls Tryz.prog 5 #[.agg (opCs o p)] w (DocP w (outO ck o)) := by
  obtain ⟨W1, hW1⟩ : ∃ W1, W1 = w.alloc (.cells (opCs o p) 29) := ⟨_, rfl⟩
  have hA : Below w.heap.size w W1 := by rw [hW1]; exact xbel1 _ _
  have hOw : Own W1 w.heap.size 29 12 (opCs o p).toList := by rw [hW1]; exact Own.new w 29 12 (opCs o p) rfl
  have hcm : o.c.length ≤ maxLen := by have := hs.c; unfold maxLen; omega
  have hrm : o.r.length ≤ maxLen := by have := hs.r; unfold maxLen; omega
  have hcn : ∀ x ∈ o.c, x.nm.size ≤ 140737488355328 := fun x hx => by have := hs.cn x hx; omega
  have hrn : ∀ x ∈ o.r, x.nm.size ≤ 140737488355328 := fun x hx => by have := hs.rn x hx; omega
  have HA := hidO hA
  have HOw := hidO hOw
  obtain ⟨A, hAi, hAc⟩ := colsD_bool o.c hcm hcn
  obtain ⟨B, hBi, hBc⟩ := colsD_bool o.r hrm hrn
  have HCA : Hid (∀ W, Below w.heap.size w W → Calls Tryz.prog 11 #[.slice p.ca o.c.length p.cc] W fun e w' => e = .returned (.bool A) ∧ Below W.heap.size W w') := fun W hW => hAc p.ca p.cc W (hat.c.later hW)
  have HCB : Hid (∀ W, Below w.heap.size w W → Calls Tryz.prog 11 #[.slice p.ra o.r.length p.rc] W fun e w' => e = .returned (.bool B) ∧ Below W.heap.size W w') := fun W hW => hBc p.ra p.rc W (hat.r.later hW)
  have HBR : Hid (∀ W, Calls Tryz.prog 12 #[.agg (opCs o p), .string ⟨#[101]⟩] W fun e w' => e = .returned (.bool (usesB o)) ∧ Below W.heap.size W w') := fun W => by
    have h1 := bare_any o p (mayK o.k) (may8 _) W hs
    rw [uses_bare o (by rw [hk]; decide)] at h1
    have h2 : mayK o.k = ⟨#[101]⟩ := by rw [hk]; rfl
    rw [h2] at h1
    exact h1
  have HRk : Hid (A = true → B = true → usesB o = true → outO ck o = thenN (rawO ck o)) := fun h1 h2 h3 => by unfold outO; rw [if_pos ⟨hAi.1 h1, hBi.1 h2, h3⟩]; unfold thenN; cases rawO ck o <;> rfl
  have HRn : Hid (¬ (A = true ∧ B = true ∧ usesB o = true) → outO ck o = .error 4) := fun h => by unfold outO; rw [if_neg (fun h' => h ⟨hAi.2 h'.1, hBi.2 h'.2.1, h'.2.2⟩)]
  have HKs : Hid (∀ s W, Below w.heap.size w W → Calls Tryz.prog 13 #[.string s, .slice p.ca o.c.length p.cc] W fun e w' => (∃ pt pl, e = .returned (match ck s with
  | .ok k => .tuple #[pt, .int .i64 k, .int .i64 0, .int .i64 pl]
  | .error n => .tuple #[pt, .int .i64 0, .int .i64 n, .int .i64 pl])) ∧ Below W.heap.size W w') := fun s W hW => hck.2 s W p.ca p.cc hW (hat.c.later hW)
  have HNE := hidO hck.1
  have HE := hidO hat.e
  have HRw : Hid (rawO ck o = whereO ck o) := by show rawO ck o = whereO ck o; unfold rawO; rw [if_pos hk]
  have HND : Hid (∀ W, Below w.heap.size w W → Calls Tryz.prog 17 #[.slice p.ca o.c.length p.cc] W (DocP W (namedO o.c))) := fun W hW => namedD_any o.c p.ca p.cc W (hat.c.later hW) hcm hcn
  clear hA hOw hcm hrm hcn hrn hAi hAc hBi hBc hs hat hck
  generalize outO ck o = R at *
  generalize usesB o = U at *
  have HWO : Hid (∀ s, o.ex = [s] → whereO ck o = whereS ck s o.c) := fun s h => where_one ck o s h
  have HWN : Hid (o.ex.length ≠ 1 → whereO ck o = .error 4) := fun h => where_not ck o h
  obtain ⟨k, ex, nm, c, r, ks, os, wk, ws, wt, ag, ou⟩ := o
  obtain ⟨ea, ec, na, nc, ca, cc, ra, rc, ka, kc, oa, oc, ga, gc⟩ := p
  unfold opCs at *
  simp only at *
  subst hk
  go_enter Tryz.func5, Tryz.ntmps5
  go_wp2_with fail
  rw [← hW1]
  refine (HCA.out _ HA.out).mono ?_
  rintro e w2 ⟨rfl, hb2⟩
  have HB2 : Hid (Below w.heap.size w w2) := HA.out.trans (hb2.mono HA.out.size)
  have HO2 := hidO (HOw.out.later hb2)
  have d4 : w2.cell? ⟨w.heap.size, 4, none⟩ = some (.slice ra r.length rc) := HO2.out.cell 4 (by decide)
  have hl2 : w.heap.size < w2.heap.size := HO2.out.lt
  clear hb2 hW1
  go_wp2_with fail
  refine (HCB.out _ HB2.out).mono ?_
  rintro e w3 ⟨rfl, hb3⟩
  have HB3 : Hid (Below w.heap.size w w3) := HB2.out.trans (hb3.mono HB2.out.size)
  have HO3 := hidO (HO2.out.later hb3)
  have f0 : w3.cell? ⟨w.heap.size, 0, none⟩ = some (.int .i64 2) := HO3.out.cell 0 (by decide)
  have f1 : w3.cell? ⟨w.heap.size, 1, none⟩ = some (.slice ea ex.length ec) := HO3.out.cell 1 (by decide)
  have f2 : w3.cell? ⟨w.heap.size, 2, none⟩ = some (.slice na nm.length nc) := HO3.out.cell 2 (by decide)
  have f3 : w3.cell? ⟨w.heap.size, 3, none⟩ = some (.slice ca c.length cc) := HO3.out.cell 3 (by decide)
  have f4 : w3.cell? ⟨w.heap.size, 4, none⟩ = some (.slice ra r.length rc) := HO3.out.cell 4 (by decide)
  have f5 : w3.cell? ⟨w.heap.size, 5, none⟩ = some (.slice ka ks.length kc) := HO3.out.cell 5 (by decide)
  have f6 : w3.cell? ⟨w.heap.size, 6, none⟩ = some (.slice oa os.length oc) := HO3.out.cell 6 (by decide)
  have f7 : w3.cell? ⟨w.heap.size, 7, none⟩ = some (.int .i64 wk) := HO3.out.cell 7 (by decide)
  have f8 : w3.cell? ⟨w.heap.size, 8, none⟩ = some (.int .i64 ws) := HO3.out.cell 8 (by decide)
  have f9 : w3.cell? ⟨w.heap.size, 9, none⟩ = some (.int .i64 wt) := HO3.out.cell 9 (by decide)
  have f10 : w3.cell? ⟨w.heap.size, 10, none⟩ = some (.slice ga ag.length gc) := HO3.out.cell 10 (by decide)
  have f11 : w3.cell? ⟨w.heap.size, 11, none⟩ = some (.bool ou) := HO3.out.cell 11 (by decide)
  have hl3 : w.heap.size < w3.heap.size := HO3.out.lt
  clear hb3 d4
  go_wp2_with fail
  refine (HBR.out _).mono ?_
  rintro e w4 ⟨rfl, hb4⟩
  have HB4 : Hid (Below w.heap.size w w4) := HB3.out.trans (hb4.mono HB3.out.size)
  have HO4 := hidO (HO3.out.later hb4)
  clear hb4 f0 f1 f2 f3 f4 f5 f6 f7 f8 f9 f10 f11
  have g0 : w4.cell? ⟨w.heap.size, 0, none⟩ = some (.int .i64 2) := HO4.out.cell 0 (by decide)
  have g1 : w4.cell? ⟨w.heap.size, 1, none⟩ = some (.slice ea ex.length ec) := HO4.out.cell 1 (by decide)
  have g2 : w4.cell? ⟨w.heap.size, 2, none⟩ = some (.slice na nm.length nc) := HO4.out.cell 2 (by decide)
  have g3 : w4.cell? ⟨w.heap.size, 3, none⟩ = some (.slice ca c.length cc) := HO4.out.cell 3 (by decide)
  have g4 : w4.cell? ⟨w.heap.size, 4, none⟩ = some (.slice ra r.length rc) := HO4.out.cell 4 (by decide)
  have g5 : w4.cell? ⟨w.heap.size, 5, none⟩ = some (.slice ka ks.length kc) := HO4.out.cell 5 (by decide)
  have g6 : w4.cell? ⟨w.heap.size, 6, none⟩ = some (.slice oa os.length oc) := HO4.out.cell 6 (by decide)
  have g7 : w4.cell? ⟨w.heap.size, 7, none⟩ = some (.int .i64 wk) := HO4.out.cell 7 (by decide)
  have g8 : w4.cell? ⟨w.heap.size, 8, none⟩ = some (.int .i64 ws) := HO4.out.cell 8 (by decide)
  have g9 : w4.cell? ⟨w.heap.size, 9, none⟩ = some (.int .i64 wt) := HO4.out.cell 9 (by decide)
  have g10 : w4.cell? ⟨w.heap.size, 10, none⟩ = some (.slice ga ag.length gc) := HO4.out.cell 10 (by decide)
  have g11 : w4.cell? ⟨w.heap.size, 11, none⟩ = some (.bool ou) := HO4.out.cell 11 (by decide)
  have hl4 : w.heap.size < w4.heap.size := HO4.out.lt
  by_cases hok : A = true ∧ B = true ∧ U = true
  · obtain ⟨rfl, rfl, rfl⟩ := hok
    have HR : Hid (R = thenN (rawO ck ⟨2, ex, nm, c, r, ks, os, wk, ws, wt, ag, ou⟩)) := HRk.out rfl rfl rfl
    rw [HRw.out] at HR
    by_cases h1 : ex.length = 1
    · have h1i : ((ex.length : Int) != 1) = false := by simp [h1]
      have h1p : (0 : Int) < (ex.length : Int) := by omega
      obtain ⟨s, hsx⟩ := list_one h1
      obtain ⟨b, off, rfl, e1⟩ := (HE.out.later HB4.out) 0 (by omega)
      have hs0 : ex[0]'(by omega) = s := one_at hsx _
      rw [hs0] at e1
      simp only [Nat.add_zero] at e1
      have hbl : b < w4.heap.size := World.block_lt_of_cell? _ _ e1
      rw [HWO.out s hsx] at HR
      clear hsx hs0 h1
      have HK1 := hidO (fun W hW => HKs.out s W hW)
      cases hks : ck s with
      | error n =>
        have hn0 := HNE.out s n hks
        have hnb : ((n : Int) != 0) = true := by simp; omega
        have hnb2 : ((n : Int) == 0) = false := by simp; omega
        have HR2 : Hid (R = .error n) := by show R = .error n; rw [HR.out]; unfold whereS; rw [hks]; rfl
        rw [hks] at HK1
        simp only at HK1
        clear hks HR HKs HNE HWO HWN HE
        go_wp2_with fail
        clear g0 g2 g4 g5 g6 g7 g8 g9 g10 g11 HCA HCB HBR HRk HRn HOw HO2 HO3 HO4 HB2 HB3 HA hl2 hl3
        go_region_with (go_at_call 13; refine (HK1.out _ (by first | exact HB4.out | exact HB4.out.drew | exact belDrew HB4.out)).mono ?_; rintro e w5 ⟨⟨pt, pl, rfl⟩, hb5⟩; have HB5 : Hid (Below w.heap.size w w5) := (by first | exact HB4.out.trans (hb5.mono HB4.out.size) | exact (HB4.out.drew).trans (hb5.mono HB4.out.size) | exact (belDrew HB4.out).trans (hb5.mono HB4.out.size)); have h03 : w5.cell? ⟨w.heap.size, 3, none⟩ = some (.slice ca c.length cc) := xcell hb5 (by first | exact g3 | simpa using g3); have hl5 : w.heap.size < w5.heap.size := World.block_lt_of_cell? _ _ h03; clear hb5)
        all_goals
          go_wp2_with fail
          go_ret2
          rw [HR2.out]
          exact docP_err (by first | exact HB5.out | exact HB5.out.drew | exact belDrew HB5.out) rfl
      | ok kd =>
        have HRk2 : Hid (thenN (whereS ck s c) = thenN (if kd = 2 then .ok c else .error 3)) := by show _ = _; unfold whereS; rw [hks]
        rw [HRk2.out] at HR
        rw [hks] at HK1
        simp only at HK1
        clear hks HRk2 HKs HNE HWO HWN HE
        by_cases hk2 : kd = 2
        · subst hk2
          have HR2 : Hid (R = namedO c) := HR.out
          clear HR
          go_wp2_with fail
          clear g0 g2 g4 g5 g6 g7 g8 g9 g10 g11 HCA HCB HBR HRk HRn HOw HO2 HO3 HO4 HB2 HB3 HA hl2 hl3
          go_region_with (go_at_call 13; refine (HK1.out _ (by first | exact HB4.out | exact HB4.out.drew | exact belDrew HB4.out)).mono ?_; rintro e w5 ⟨⟨pt, pl, rfl⟩, hb5⟩; have HB5 : Hid (Below w.heap.size w w5) := (by first | exact HB4.out.trans (hb5.mono HB4.out.size) | exact (HB4.out.drew).trans (hb5.mono HB4.out.size) | exact (belDrew HB4.out).trans (hb5.mono HB4.out.size)); have h03 : w5.cell? ⟨w.heap.size, 3, none⟩ = some (.slice ca c.length cc) := xcell hb5 (by first | exact g3 | simpa using g3); have hl5 : w.heap.size < w5.heap.size := World.block_lt_of_cell? _ _ h03; clear hb5)
          all_goals
            go_wp2_with fail
            refine (HND.out _ HB5.out).mono ?_
            rintro e w6 ⟨hb6, hr6⟩
            have HB6 : Hid (Below w.heap.size w w6) := HB5.out.trans (hb6.mono HB5.out.size)
            rw [← HR2.out] at hr6
            cases hT : R with
            | error n =>
              rw [hT] at hr6
              simp only at hr6
              subst hr6
              clear hb6
              go_wp2_with fail
              go_ret2
              rw [hT]
              exact docP_err HB6.out rfl
            | ok l =>
              rw [hT] at hr6
              obtain ⟨a3, c3', rfl, hc3⟩ := hr6
              have HC3 := hidO hc3
              clear hb6 hc3
              go_wp2_with fail
              go_ret2
              rw [hT]
              exact docP_ok HB6.out rfl HC3.out
        · have hkb : (kd != 2) = true := by simp [hk2]
          have HR2 : Hid (R = .error 3) := by show R = .error 3; rw [HR.out]; simp only [if_neg hk2]; rfl
          clear HR
          go_wp2_with fail
          clear g0 g2 g4 g5 g6 g7 g8 g9 g10 g11 HCA HCB HBR HRk HRn HOw HO2 HO3 HO4 HB2 HB3 HA hl2 hl3
          go_region_with (go_at_call 13; refine (HK1.out _ (by first | exact HB4.out | exact HB4.out.drew | exact belDrew HB4.out)).mono ?_; rintro e w5 ⟨⟨pt, pl, rfl⟩, hb5⟩; have HB5 : Hid (Below w.heap.size w w5) := (by first | exact HB4.out.trans (hb5.mono HB4.out.size) | exact (HB4.out.drew).trans (hb5.mono HB4.out.size) | exact (belDrew HB4.out).trans (hb5.mono HB4.out.size)); have h03 : w5.cell? ⟨w.heap.size, 3, none⟩ = some (.slice ca c.length cc) := xcell hb5 (by first | exact g3 | simpa using g3); have hl5 : w.heap.size < w5.heap.size := World.block_lt_of_cell? _ _ h03; clear hb5)
          all_goals
            go_wp2_with fail
            go_ret2
            rw [HR2.out]
            exact docP_err (by first | exact HB5.out | exact HB5.out.drew | exact belDrew HB5.out) rfl
    · have h1i : ((ex.length : Int) != 1) = true := by simp; omega
      have HR2 : Hid (R = .error 4) := by show R = .error 4; rw [HR.out, HWN.out h1]; rfl
      clear h1
      go_wp2_with fail
      go_ret2
      rw [HR2.out]
      exact docP_err HB4.out rfl
  · have HR4 : Hid (R = .error 4) := HRn.out hok
    cases A with
    | false =>
      clear hok HRk HRn
      go_wp2_with fail
      go_ret2
      rw [HR4.out]
      exact docP_err HB4.out rfl
    | true =>
      cases B with
      | false =>
        clear hok HRk HRn
        go_wp2_with fail
        go_ret2
        rw [HR4.out]
        exact docP_err HB4.out rfl
      | true =>
        cases U with
        | false =>
          clear hok HRk HRn
          go_wp2_with fail
          go_ret2
          rw [HR4.out]
          exact docP_err HB4.out rfl
        | true => exact absurd ⟨rfl, rfl, rfl⟩ hok

theorem outD_any (ck : ByteArray → Except Nat Int) (o : OpD) (p : OpA) (w : World) (hs : OpSz o) (hat : OpAt w o p) (hck : CkD w o.c ck) :
    Calls Tryz.prog 5 #[.agg (opCs o p)] w (DocP w (outO ck o)) := by
  by_cases h2 : o.k = 2
  · exact outD_2 ck o p w hs hat hck h2
  by_cases h3 : o.k = 3
  · exact outD_3 ck o p w hs hat hck h3
  by_cases h4 : o.k = 4
  · exact outD_4 ck o p w hs hat hck h4
  by_cases h5 : o.k = 5
  · exact outD_5 ck o p w hs hat hck h5
  by_cases h6 : o.k = 6
  · exact outD_6 ck o p w hs hat hck h6
  by_cases h7 : o.k = 7
  · exact outD_7 ck o p w hs hat hck h7
  exact outD_x ck o p w hs hat hck (by omega)
end Go.Proofs.YtplaplhmjpfbjaaGreatDoor.Oo
