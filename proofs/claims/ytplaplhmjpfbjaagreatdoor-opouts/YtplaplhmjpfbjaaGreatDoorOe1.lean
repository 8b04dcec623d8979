import Derived.Test.YtplaplhmjpfbjaaGreatDoorOc1
import Derived.Test.YtplaplhmjpfbjaaGreatDoorDf1
namespace Go.Proofs.YtplaplhmjpfbjaaGreatDoor.Oo
open Go.RowKit
set_option linter.unusedVariables false
set_option linter.unusedSimpArgs false
set_option maxRecDepth 100000

def DocP (w : World) (r : Except Nat (List Co)) (e : Ending) (w' : World) : Prop := Below w.heap.size w w' ∧ match r with
  | .error n => e = .returned (.tuple #[.slice none 0 0, .int .i64 n])
  | .ok l => ∃ a c, e = .returned (.tuple #[.slice a l.length c, .int .i64 0]) ∧ ColsAt w' a l
theorem docP_err {w w' : World} {n : Nat} {e : Ending} (hb : Below w.heap.size w w') (he : e = .returned (.tuple #[.slice none 0 0, .int .i64 n])) : DocP w (.error n) e w' := ⟨hb, he⟩
theorem docP_ok {w w' : World} {l : List Co} {e : Ending} {a : Option Addr} {c : Nat} (hb : Below w.heap.size w w') (he : e = .returned (.tuple #[.slice a l.length c, .int .i64 0])) (hc : ColsAt w' a l) : DocP w (.ok l) e w' := ⟨hb, a, c, he, hc⟩
theorem DocP.more {w w1 w' : World} {r : Except Nat (List Co)} {e : Ending} (h : DocP w1 r e w') (hb : Below w.heap.size w w1) : DocP w r e w' := ⟨hb.trans (h.1.mono hb.size), h.2⟩
theorem colsD_yes {l : List Co} (h : colsX l) (a : Option Addr) (c : Nat) (w : World) (hc : ColsAt w a l) (hm : l.length ≤ maxLen) (hz : ∀ x ∈ l, x.nm.size ≤ 140737488355328) : Calls Tryz.prog 11 #[.slice a l.length c] w fun e w' => e = .returned (.bool true) ∧ Below w.heap.size w w' := by
  refine (Dc.columnsD_any a c l w hc hm hz).mono ?_
  rintro e w' ⟨⟨b, rfl, hi⟩, hb⟩
  have : b = true := hi.2 h
  subst this
  exact ⟨rfl, hb⟩
theorem colsD_no {l : List Co} (h : ¬ colsX l) (a : Option Addr) (c : Nat) (w : World) (hc : ColsAt w a l) (hm : l.length ≤ maxLen) (hz : ∀ x ∈ l, x.nm.size ≤ 140737488355328) : Calls Tryz.prog 11 #[.slice a l.length c] w fun e w' => e = .returned (.bool false) ∧ Below w.heap.size w w' := by
  refine (Dc.columnsD_any a c l w hc hm hz).mono ?_
  rintro e w' ⟨⟨b, rfl, hi⟩, hb⟩
  have : b = false := by
    cases b with
    | false => rfl
    | true => exact absurd (hi.1 rfl) h
  subst this
  exact ⟨rfl, hb⟩
theorem namedD_any (l : List Co) (a : Option Addr) (c : Nat) (w : World) (hc : ColsAt w a l) (hm : l.length ≤ maxLen) (hz : ∀ x ∈ l, x.nm.size ≤ 140737488355328) : Calls Tryz.prog 17 #[.slice a l.length c] w (DocP w (namedO l)) := by
  have hlm : l.length ≤ 9223372036854775807 := hm
  have HC := hidO hc
  have HZ := hidO hz
  have HM := hidO hm
  clear hz hm hc
  by_cases h8 : 8 < l.length
  · have h8i : (8 : Int) < (l.length : Int) := by omega
    rw [named_long h8]
    go_enter Tryz.func17, Tryz.ntmps17
    go_wp2_with fail
    go_ret2
    exact docP_err (Below.refl _ _) rfl
  · have h8i : ¬ (8 : Int) < (l.length : Int) := by omega
    by_cases hcl : colsX l
    · rw [named_yes hcl]
      go_enter Tryz.func17, Tryz.ntmps17
      go_wp2_with fail
      refine (colsD_yes hcl a c _ HC.out HM.out HZ.out).mono ?_
      rintro e w1 ⟨rfl, hb⟩
      have HB := hidO hb
      clear hb
      go_wp2_with fail
      go_ret2
      exact docP_ok HB.out rfl (HC.out.later HB.out)
    · rw [named_no h8 hcl]
      go_enter Tryz.func17, Tryz.ntmps17
      go_wp2_with fail
      refine (colsD_no hcl a c _ HC.out HM.out HZ.out).mono ?_
      rintro e w1 ⟨rfl, hb⟩
      have HB := hidO hb
      clear hb
      go_wp2_with fail
      go_ret2
      exact docP_err HB.out rfl
set_option maxHeartbeats 2000000 in
theorem numbers_any (l : List Int) (a : Option Addr) (lc : Nat) (ca : Option Addr) (m cc : Nat) (w : World) (hm : m ≤ 9223372036854775807) (hl : l.length ≤ 17592186044416) (h : IntsAt w a l) :
    Calls Tryz.prog 32 #[.slice a l.length lc, .slice ca m cc] w fun e w' => e = .returned (.bool (placesB l m)) ∧ Below w.heap.size w w' := by
  have HI := hidO h
  unfold placesB
  clear h
  go_enter Tryz.func32, Tryz.ntmps32
  go_wp2_with fail
  go_loopw [5] (fun i w' => ∃ (k : Nat), k ≤ l.length ∧ i = .int .i64 k ∧ (l.take k).all (fun n => placeB n m) = true ∧ w' = w) (fun i _ => l.length - (intOf i).toNat)
  case atStart => exact ⟨0, Nat.zero_le _, rfl, rfl, rfl⟩
  case round =>
    obtain ⟨k, hk, rfl, hal, hw⟩ := hrel
    have hw' := hw.symm
    subst hw'
    have HAL := hidO hal
    clear hal
    by_cases hlt : k < l.length
    · have hki : (k : Int) < (l.length : Int) := by omega
      obtain ⟨b, off, rfl, e1⟩ := HI.out k hlt
      obtain ⟨n, hn⟩ : ∃ n, n = l[k] := ⟨_, rfl⟩
      rw [← hn] at e1
      have HN := hidO hn
      clear hn
      by_cases h0 : n < 0
      · have HF : Hid (l.all (fun n => placeB n m) = false) := all_falseO _ l k hlt (by rw [← HN.out]; unfold placeB; simp; omega)
        go_wp2_with fail
        go_ret
        exact ⟨by rw [HF.out]; rfl, Below.refl _ _⟩
      · by_cases h1 : n < (m : Int)
        · have h1' : ¬ (m : Int) ≤ n := by omega
          have HT : Hid ((l.take (k + 1)).all (fun n => placeB n m) = true) := by rw [Hid, take_allO _ l k hlt, HAL.out, ← HN.out]; unfold placeB; simp; omega
          go_wp2_with fail
          exact ⟨⟨k + 1, by omega, by go_num, HT.out, by first | rfl | trivial⟩, by simp [intOf]; omega⟩
        · have h1' : (m : Int) ≤ n := by omega
          have HF : Hid (l.all (fun n => placeB n m) = false) := all_falseO _ l k hlt (by rw [← HN.out]; unfold placeB; simp; omega)
          go_wp2_with fail
          go_ret
          exact ⟨by rw [HF.out]; rfl, Below.refl _ _⟩
    · obtain rfl : k = l.length := by omega
      have hnl : ¬ (l.length : Int) < (l.length : Int) := by omega
      have HALL : Hid (l.all (fun n => placeB n m) = true) := by
        have := HAL.out
        rw [List.take_length] at this
        exact this
      clear hlt hk HAL
      by_cases h8 : l.length ≤ 8
      · have h8i : (l.length : Int) ≤ 8 := by omega
        go_wp2_with fail
        go_ret
        exact ⟨by first | (rw [HALL.out]; simp [h8]; done) | (simp [HALL.out]; done) | rfl, Below.refl _ _⟩
      · have h8i : ¬ (l.length : Int) ≤ 8 := by omega
        go_wp2_with fail
        go_ret
        exact ⟨by first | (rw [HALL.out]; simp [h8]; done) | (simp [HALL.out]; done) | rfl, Below.refl _ _⟩
/-- The document's Check of the columns 'c' is as 'ck' says. -/
def CkD (w : World) (c : List Co) (ck : ByteArray → Except Nat Int) : Prop := (∀ s n, ck s = .error n → n ≠ 0) ∧ ∀ s W a cc, Below w.heap.size w W → ColsAt W a c → Calls Tryz.prog 13 #[.string s, .slice a c.length cc] W fun e w' => (∃ pt pl, e = .returned (match ck s with
  | .ok k => .tuple #[pt, .int .i64 k, .int .i64 0, .int .i64 pl]
  | .error n => .tuple #[pt, .int .i64 0, .int .i64 n, .int .i64 pl])) ∧ Below W.heap.size W w'
theorem CkD.later {w wx : World} {c : List Co} {ck : ByteArray → Except Nat Int} (h : CkD w c ck) (hb : Below w.heap.size w wx) : CkD wx c ck := ⟨h.1, fun s W a cc hW hc => h.2 s W a cc (hb.trans (hW.mono hb.size)) hc⟩
/-- What was made, named. -/
noncomputable def thenN (r : Except Nat (List Co)) : Except Nat (List Co) := match r with
  | .error n => .error n
  | .ok l => namedO l
end Go.Proofs.YtplaplhmjpfbjaaGreatDoor.Oo
namespace Go.Proofs.YtplaplhmjpfbjaaGreatDoor.Oo
open Go.RowKit
set_option linter.unusedVariables false
set_option linter.unusedSimpArgs false
set_option maxRecDepth 100000

theorem belA {w W1 wr : World} (h : Below w.heap.size w W1) (hb : Below W1.heap.size W1 wr) : Below w.heap.size w wr := h.trans (hb.mono h.size)
set_option maxHeartbeats 8000000 in
theorem mappedD_any (ck : ByteArray → Except Nat Int) (o : OpD) (p : OpA) (w : World) (hs : OpSz o) (hat : OpAt w o p) (hck : CkD w o.c ck) :
    Calls Tryz.prog 14 #[.agg (opCs o p)] w (DocP w (thenN (mapO ck o))) := by
  have HC := hidO hat.c
  have HE := hidO hat.e
  have HN := hidO hat.n
  have HK := hidO hck.2
  have HNE := hidO hck.1
  have hel := hs.e
  have HNN := hidO hs.nn
  clear hck hs hat
  obtain ⟨k, ex, nm, c, r, ks, os, wk, ws, wt, ag, ou⟩ := o
  obtain ⟨ea, ec, na, nc, ca, cc, ra, rc, ka, kc, oa, oc, ga, gc⟩ := p
  unfold opCs
  simp only at *
  obtain ⟨R, hR⟩ : ∃ R, R = mapO ck ⟨k, ex, nm, c, r, ks, os, wk, ws, wt, ag, ou⟩ := ⟨_, rfl⟩
  have HR0 := hidO hR
  rw [← hR]
  clear hR
  by_cases hl : nm.length = ex.length
  · have hlb : ((ex.length : Int) != (nm.length : Int)) = false := by simp [hl]
    have HLL := hidO hl
    have HR : Hid (R = mapE (fun q => nameR (ck q.1) q.2) (ex.zip nm)) := by show R = _; rw [HR0.out]; unfold mapO; rw [if_pos hl]
    have hzl : (ex.zip nm).length = ex.length := by rw [List.length_zip]; omega
    have HZL := hidO hzl
    clear hl hzl HR0
    obtain ⟨W1, hW1⟩ : ∃ W1, W1 = w.alloc (.cells #[.int .i64 k, .slice ea ex.length ec, .slice na nm.length nc, .slice ca c.length cc, .slice ra r.length rc, .slice ka ks.length kc, .slice oa os.length oc, .int .i64 wk, .int .i64 ws, .int .i64 wt, .slice ga ag.length gc, .bool ou] 29) := ⟨_, rfl⟩
    have HW : Hid (Below w.heap.size w W1) := by rw [hW1]; exact xbel1 _ _
    have H1 : Hid (W1.cell? ⟨w.heap.size, 1, none⟩ = some (.slice ea ex.length ec)) := by rw [hW1]; show _ = _; go_simp
    have H3 : Hid (W1.cell? ⟨w.heap.size, 3, none⟩ = some (.slice ca c.length cc)) := by rw [hW1]; show _ = _; go_simp
    have H2 : Hid (W1.cell? ⟨w.heap.size, 2, none⟩ = some (.slice na nm.length nc)) := by rw [hW1]; show _ = _; go_simp
    go_enter Tryz.func14, Tryz.ntmps14
    go_wp2_with fail
    rw [← hW1]
    go_loopw [4, 5] (fun v i w' => ∃ (j : Nat) (acc : List Co), j ≤ ex.length ∧ i = .int .i64 j ∧ OC w' W1.heap.size v acc ∧ mapE (fun q => nameR (ck q.1) q.2) ((ex.zip nm).take j) = .ok acc ∧ Below W1.heap.size W1 w') (fun _ i _ => ex.length - (intOf i).toNat)
    case atStart => exact ⟨0, [], Nat.zero_le _, rfl, OC.nil _ _, rfl, Below.refl _ _⟩
    case round =>
      obtain ⟨j, acc, hj, rfl, hO, hmp, hb⟩ := hrel
      have HO := hidO hO
      have HB := hidO hb
      have HM := hidO hmp
      have HBw : Hid (Below w.heap.size w wr) := belA HW.out hb
      have c1 := xcell hb H1.out
      have c3 := xcell hb H3.out
      have hwl : w.heap.size < wr.heap.size := World.block_lt_of_cell? _ _ c3
      clear hO hb hmp hW1
      by_cases hlt : j < ex.length
      · have hji : (j : Int) < (ex.length : Int) := by omega
        have hjn : j < nm.length := by have := HLL.out; omega
        have hjni : (j : Int) < (nm.length : Int) := by omega
        obtain ⟨b, off, rfl, e1⟩ := (HE.out.later HBw.out) j hlt
        obtain ⟨b', off', rfl, e2⟩ := (HN.out.later HBw.out) j hjn
        have hjz : j < (ex.zip nm).length := by rw [HZL.out]; exact hlt
        have hge : (ex.zip nm)[j] = (ex[j], nm[j]) := List.getElem_zip
        obtain ⟨s, hsd⟩ : ∃ s, s = ex[j] := ⟨_, rfl⟩
        obtain ⟨nn, hnd⟩ : ∃ nn, nn = nm[j] := ⟨_, rfl⟩
        rw [← hsd] at e1
        rw [← hnd] at e2
        have HF : Hid ((fun q : ByteArray × ByteArray => nameR (ck q.1) q.2) (ex.zip nm)[j] = nameR (ck s) nn) := by unfold Hid; rw [hge, hsd, hnd]
        have HKs : Hid (∀ W, Below w.heap.size w W → Calls Tryz.prog 13 #[.string s, .slice ca c.length cc] W fun e w' => (∃ pt pl, e = .returned (match ck s with
  | .ok k => .tuple #[pt, .int .i64 k, .int .i64 0, .int .i64 pl]
  | .error n => .tuple #[pt, .int .i64 0, .int .i64 n, .int .i64 pl])) ∧ Below W.heap.size W w') := fun W hW => HK.out s W ca cc hW (HC.out.later hW)
        have hbl : b < wr.heap.size := World.block_lt_of_cell? _ _ e1
        clear hsd hnd hge
        cases hks : ck s with
        | error n =>
          have hn0 := HNE.out s n hks
          have hnb : ((n : Int) != 0) = true := by simp; omega
          rw [hks] at HF HKs
          have HR' : Hid (thenN R = .error n) := by
            show thenN R = .error n
            rw [HR.out, mapE_stop HM.out hjz HF.out]
            rfl
          simp only at HKs
          clear hks e2
          go_wp2_with fail
          go_region_with (go_at_call 13; refine (HKs.out _ (by first | exact HBw.out | exact HBw.out.drew | exact belDrew HBw.out)).mono ?_; rintro e w1 ⟨⟨pt, pl, rfl⟩, hb1⟩; have HB1 : Hid (Below w.heap.size w w1) := (by first | exact HBw.out.trans (hb1.mono HBw.out.size) | exact (HBw.out.drew).trans (hb1.mono HBw.out.size) | exact (belDrew HBw.out).trans (hb1.mono HBw.out.size)))
          all_goals
            go_wp2_with fail
            go_ret2
            rw [HR'.out]
            exact docP_err (by first | exact HB1.out | exact HB1.out.drew | exact belDrew HB1.out) rfl
        | ok kd =>
          rw [hks] at HF HKs
          have HM' : Hid (mapE (fun q => nameR (ck q.1) q.2) ((ex.zip nm).take (j + 1)) = .ok (acc ++ [⟨nn, kd⟩])) := mapE_next HM.out hjz HF.out
          have hal : acc.length = j := by
            have := mapE_len _ _ _ HM.out
            rw [List.length_take] at this
            have := HZL.out
            omega
          simp only at HKs
          clear hks
          go_wp2_with fail
          go_region_with (go_at_call 13; refine (HKs.out _ (by first | exact HBw.out | exact HBw.out.drew | exact belDrew HBw.out)).mono ?_; rintro e w1 ⟨⟨pt, pl, rfl⟩, hb1⟩; have HB1 : Hid (Below W1.heap.size W1 w1) := (by first | exact HB.out.trans (hb1.mono HB.out.size) | exact (HB.out.drew).trans (hb1.mono HB.out.size) | exact (belDrew HB.out).trans (hb1.mono HB.out.size)); have e2' : w1.cell? ⟨b', off' + j, none⟩ = some (.string nn) := xcell hb1 (by first | exact e2 | (simpa using e2)); have c2' := xcell HB1.out H2.out; have HO1 : Hid (OC w1 W1.heap.size u4 acc) := (by first | exact OC.later HO.out hb1 | exact OC.later (World.ownsRow.drew HO.out) hb1); have hbl' : b' < w1.heap.size := World.block_lt_of_cell? _ _ e2'; have hwl1 : w.heap.size < w1.heap.size := World.block_lt_of_cell? _ _ c2'; clear hb1)
          all_goals
            go_wp2_with (at_builtin; refine app_C1 rfl _ _ rfl W1.heap.size u4 acc ⟨nn, kd⟩ w1.heap.size 1 rfl (OC.later HO1.out (xbel1 _ _)) rfl (one_col w1 ⟨nn, kd⟩) (by omega) (Nat.le_trans HB1.out.size (by simp)) ?_)
            intro v' w2 hO2 hg2
            have HO2 := hidO hO2
            have HB2 : Hid (Below W1.heap.size W1 w2) := (HB1.out.trans ((xbel1 w1 _).mono HB1.out.size)).grown hg2 (Nat.le_trans HB1.out.size (by simp)) (fun q hq => (World.ownsRow.lt HO1.out q hq).1)
            clear hO2 hg2
            go_wp2_with fail
            exact ⟨⟨j + 1, acc ++ [⟨nn, kd⟩], by omega, by go_num, HO2.out, HM'.out, HB2.out⟩, by simp [intOf]; omega⟩
      · obtain rfl : j = ex.length := by omega
        have hnl : ¬ (ex.length : Int) < (ex.length : Int) := by omega
        have hfull : mapE (fun q => nameR (ck q.1) q.2) (ex.zip nm) = .ok acc := by
          have := HM.out
          rw [List.take_of_length_le (by rw [HZL.out]; exact Nat.le_refl _)] at this
          exact this
        have HR' : Hid (thenN R = namedO acc) := by
          show thenN R = namedO acc
          rw [HR.out, hfull]
          rfl
        have hal : acc.length ≤ maxLen := by
          have := mapE_len _ _ _ hfull
          rw [HZL.out] at this
          unfold maxLen
          omega
        have hnm : ∀ x ∈ acc, x.nm.size ≤ 140737488355328 := fun x hx => by
          obtain ⟨q, hq, e⟩ := nm_ck hfull x hx
          rw [e]
          have := HNN.out q.2 (List.of_mem_zip hq).2
          omega
        obtain ⟨a2, c2, rfl, hcc, -⟩ := OC.form HO.out
        have HND : Hid (Calls Tryz.prog 17 #[.slice a2 acc.length c2] wr (DocP wr (namedO acc))) := namedD_any acc a2 c2 wr hcc hal hnm
        clear hlt hj hcc hal hnm hfull
        go_wp2_with fail
        refine HND.out.mono ?_
        rintro e w2 ⟨hb2, hr2⟩
        have HB2 : Hid (Below w.heap.size w w2) := HBw.out.trans (hb2.mono HBw.out.size)
        rw [← HR'.out] at hr2
        cases hT : thenN R with
        | error n =>
          rw [hT] at hr2
          simp only at hr2
          subst hr2
          clear hb2 HND HR'
          go_wp2_with fail
          go_ret2
          rw [hT]
          exact docP_err HB2.out rfl
        | ok l =>
          rw [hT] at hr2
          obtain ⟨a3, c3', rfl, hc3⟩ := hr2
          have HC3 := hidO hc3
          clear hb2 HND HR' hc3
          go_wp2_with fail
          go_ret2
          rw [hT]
          exact docP_ok HB2.out rfl HC3.out
  · have hlb : ((ex.length : Int) != (nm.length : Int)) = true := by simp; omega
    have HR : Hid (thenN R = .error 4) := by show thenN R = .error 4; rw [HR0.out]; unfold mapO; rw [if_neg hl]; rfl
    clear HK HE HC HN
    go_enter Tryz.func14, Tryz.ntmps14
    go_wp2_with fail
    go_ret2
    rw [HR.out]
    exact docP_err (xbel1 _ _) rfl
end Go.Proofs.YtplaplhmjpfbjaaGreatDoor.Oo
namespace Go.Proofs.YtplaplhmjpfbjaaGreatDoor.Oo
open Go.RowKit
set_option linter.unusedVariables false
set_option linter.unusedSimpArgs false
set_option maxRecDepth 100000

theorem belB {w W1 wr : World} (h : Below w.heap.size w W1) (hb : Below W1.heap.size W1 wr) : Below w.heap.size w wr := h.trans (hb.mono h.size)
set_option maxHeartbeats 8000000 in
theorem joinedD_any (o : OpD) (p : OpA) (w : World) (hs : OpSz o) (hat : OpAt w o p) (hc8 : o.c.length ≤ 8) (hr8 : o.r.length ≤ 8) :
    Calls Tryz.prog 16 #[.agg (opCs o p)] w (DocP w (thenN (joinO o))) := by
  have HC := hidO hat.c
  have HD := hidO hat.r
  have HI := hidO hat.k
  have HJ := hidO hat.o
  have hkl := hs.k
  have hol := hs.o
  have HCN := hidO hs.cn
  have HRN := hidO hs.rn
  clear hs hat
  obtain ⟨k, ex, nm, c, r, ks, os, wk, ws, wt, ag, ou⟩ := o
  obtain ⟨ea, ec, na, nc, ca, cc, ra, rc, ka, kc, oa, oc, ga, gc⟩ := p
  unfold opCs
  simp only at *
  obtain ⟨R, hR⟩ : ∃ R, R = joinO ⟨k, ex, nm, c, r, ks, os, wk, ws, wt, ag, ou⟩ := ⟨_, rfl⟩
  have HR0 := hidO hR
  rw [← hR]
  clear hR
  obtain ⟨W1, hW1⟩ : ∃ W1, W1 = w.alloc (.cells #[.int .i64 k, .slice ea ex.length ec, .slice na nm.length nc, .slice ca c.length cc, .slice ra r.length rc, .slice ka ks.length kc, .slice oa os.length oc, .int .i64 wk, .int .i64 ws, .int .i64 wt, .slice ga ag.length gc, .bool ou] 29) := ⟨_, rfl⟩
  have HW : Hid (Below w.heap.size w W1) := by rw [hW1]; exact xbel1 _ _
  have H3 : Hid (W1.cell? ⟨w.heap.size, 3, none⟩ = some (.slice ca c.length cc)) := by rw [hW1]; show _ = _; go_simp
  have H4 : Hid (W1.cell? ⟨w.heap.size, 4, none⟩ = some (.slice ra r.length rc)) := by rw [hW1]; show _ = _; go_simp
  have H5 : Hid (W1.cell? ⟨w.heap.size, 5, none⟩ = some (.slice ka ks.length kc)) := by rw [hW1]; show _ = _; go_simp
  have H6 : Hid (W1.cell? ⟨w.heap.size, 6, none⟩ = some (.slice oa os.length oc)) := by rw [hW1]; show _ = _; go_simp
  have H7 : Hid (W1.cell? ⟨w.heap.size, 7, none⟩ = some (.int .i64 wk)) := by rw [hW1]; show _ = _; go_simp
  have H8 : Hid (W1.cell? ⟨w.heap.size, 8, none⟩ = some (.int .i64 ws)) := by rw [hW1]; show _ = _; go_simp
  have H9 : Hid (W1.cell? ⟨w.heap.size, 9, none⟩ = some (.int .i64 wt)) := by rw [hW1]; show _ = _; go_simp
  have HPL : Hid (∀ W, Below w.heap.size w W → Calls Tryz.prog 32 #[.slice ka ks.length kc, .slice ca c.length cc] W fun e w' => e = .returned (.bool (placesB ks c.length)) ∧ Below W.heap.size W w') := fun W hW => numbers_any ks ka kc ca c.length cc W (by omega) hkl (HI.out.later hW)
  have HPR : Hid (∀ W, Below w.heap.size w W → Calls Tryz.prog 32 #[.slice oa os.length oc, .slice ra r.length rc] W fun e w' => e = .returned (.bool (placesB os r.length)) ∧ Below W.heap.size W w') := fun W hW => numbers_any os oa oc ra r.length rc W (by omega) hol (HJ.out.later hW)
  have HWV : Hid (∀ W, Calls Tryz.prog 33 #[.agg #[.int .i64 wk, .int .i64 ws, .int .i64 wt]] W fun e w' => e = .returned (.bool (Wn.validB wk ws wt)) ∧ Below W.heap.size W w') := fun W => Wn.rvalid_any wk ws wt W
  have hbad : ∀ {P : Prop} [Decidable P], True := fun {P} _ => trivial
  generalize hP : placesB ks c.length = P at *
  generalize hQ : placesB os r.length = Q at *
  generalize hV : Wn.validB wk ws wt = V at *
  have HHP := hidO hP
  have HHQ := hidO hQ
  have HHV := hidO hV
  clear hP hQ hV hbad
  go_enter Tryz.func16, Tryz.ntmps16
  go_wp2_with fail
  rw [← hW1]
  refine (HPL.out _ HW.out).mono ?_
  rintro e w1 ⟨rfl, hb1⟩
  have HB1 : Hid (Below W1.heap.size W1 w1) := hb1
  have c4 := xcell hb1 H4.out
  have c6 := xcell hb1 H6.out
  have hwl : w.heap.size < w1.heap.size := World.block_lt_of_cell? _ _ c4
  clear hb1
  go_wp2_with fail
  refine (HPR.out _ (belB HW.out HB1.out)).mono ?_
  rintro e w2 ⟨rfl, hb2⟩
  have HB2 : Hid (Below W1.heap.size W1 w2) := HB1.out.trans (hb2.mono HB1.out.size)
  have d7 := xcell HB2.out H7.out
  have d8 := xcell HB2.out H8.out
  have d9 := xcell HB2.out H9.out
  have hwl2 : w.heap.size < w2.heap.size := World.block_lt_of_cell? _ _ d7
  clear hb2 c4 c6
  go_wp2_with fail
  refine (HWV.out _).mono ?_
  rintro e w3 ⟨rfl, hb3⟩
  have HB3 : Hid (Below W1.heap.size W1 w3) := HB2.out.trans (hb3.mono HB2.out.size)
  have f5 := xcell HB3.out H5.out
  have f6 := xcell HB3.out H6.out
  have hwl3 : w.heap.size < w3.heap.size := World.block_lt_of_cell? _ _ f5
  clear hb3 d7 d8 d9 H7 H8 H9 HB1 HB2 HPL HPR HWV hwl hwl2
  by_cases hok : P = true ∧ Q = true ∧ V = true ∧ ks.length = os.length
  · obtain ⟨rfl, rfl, rfl, hl⟩ := hok
    have hlb : ((ks.length : Int) != (os.length : Int)) = false := by simp [hl]
    have HPA := hidO (places_at HHP.out)
    have HQA := hidO (places_at HHQ.out)
    have HR : Hid (R = if kindsB ⟨k, ex, nm, c, r, ks, os, wk, ws, wt, ag, ou⟩ = true then .ok (c ++ r) else .error 3) := by show R = _; rw [HR0.out]; unfold joinO winB; rw [if_pos ⟨HHP.out, HHQ.out, hl, HHV.out⟩]
    have HKB : Hid (kindsB ⟨k, ex, nm, c, r, ks, os, wk, ws, wt, ag, ou⟩ = (ks.zip os).all (fun q => (colOf c q.1).k == (colOf r q.2).k)) := rfl
    have hzl : (ks.zip os).length = ks.length := by rw [List.length_zip]; omega
    have HZL := hidO hzl
    have HLL := hidO hl
    clear hl hzl HR0
    go_wp2_with fail
    go_loopw [7] (fun i w' => ∃ (j : Nat), j ≤ ks.length ∧ i = .int .i64 j ∧ ((ks.zip os).take j).all (fun q => (colOf c q.1).k == (colOf r q.2).k) = true ∧ Below W1.heap.size W1 w') (fun i _ => ks.length - (intOf i).toNat)
    case atStart => exact ⟨0, Nat.zero_le _, rfl, rfl, HB3.out⟩
    case round =>
      obtain ⟨j, hj, rfl, hal, hb⟩ := hrel
      have HAL := hidO hal
      have HB := hidO hb
      have HBw : Hid (Below w.heap.size w wr) := belB HW.out hb
      have g3 := xcell hb H3.out
      have g4 := xcell hb H4.out
      have g5 := xcell hb H5.out
      have g6 := xcell hb H6.out
      have hwlr : w.heap.size < wr.heap.size := World.block_lt_of_cell? _ _ g3
      clear hal hb hW1 f5 f6 HB3 hwl3
      by_cases hlt : j < ks.length
      · have hji : (j : Int) < (ks.length : Int) := by omega
        have hjo : j < os.length := by have := HLL.out; omega
        have hjoi : (j : Int) < (os.length : Int) := by omega
        obtain ⟨t, ht, htl⟩ := place_at (HPA.out.2 j hlt)
        obtain ⟨u, hu, hul⟩ := place_at (HQA.out.2 j hjo)
        have hti : (t : Int) < (c.length : Int) := by omega
        have hui : (u : Int) < (r.length : Int) := by omega
        obtain ⟨b1, o1, rfl, e1⟩ := (HI.out.later HBw.out) j hlt
        obtain ⟨b2, o2, rfl, e2⟩ := (HJ.out.later HBw.out) j hjo
        rw [ht] at e1
        rw [hu] at e2
        obtain ⟨b3, o3, rfl, -, e3⟩ := (HC.out.later HBw.out) t htl
        obtain ⟨b4, o4, rfl, -, e4⟩ := (HD.out.later HBw.out) u hul
        have hjz : j < (ks.zip os).length := by rw [HZL.out]; exact hlt
        have hge : (ks.zip os)[j] = (ks[j], os[j]) := List.getElem_zip
        have HF : Hid (((colOf c (ks.zip os)[j].1).k == (colOf r (ks.zip os)[j].2).k) = (c[t].k == r[u].k)) := by
          show _ = _
          simp only [hge, ht, hu, colOf_at c t htl, colOf_at r u hul]
        obtain ⟨x, hx⟩ : ∃ x, x = c[t].k := ⟨_, rfl⟩
        obtain ⟨y, hy⟩ : ∃ y, y = r[u].k := ⟨_, rfl⟩
        rw [← hx] at e3 HF
        rw [← hy] at e4 HF
        have l1 : b1 < wr.heap.size := World.block_lt_of_cell? _ _ e1
        have l2 : b2 < wr.heap.size := World.block_lt_of_cell? _ _ e2
        have l3 : b3 < wr.heap.size := World.block_lt_of_cell? _ _ e3
        have l4 : b4 < wr.heap.size := World.block_lt_of_cell? _ _ e4
        clear hx hy ht hu hge
        by_cases hxy : x = y
        · subst hxy
          have hb : (x != x) = false := by simp
          have HT : Hid (((ks.zip os).take (j + 1)).all (fun q => (colOf c q.1).k == (colOf r q.2).k) = true) := by
            rw [Hid, take_allO _ _ j hjz, HAL.out, HF.out]; simp
          go_wp2_with fail
          go_quiet (fail)
          go_wp2_with fail
          exact ⟨⟨j + 1, by omega, by go_num, HT.out, by first | exact HB.out | exact HB.out.drew | exact belDrew HB.out⟩, by simp [intOf]; omega⟩
        · have hb : (x != y) = true := by simp [hxy]
          have HR' : Hid (thenN R = .error 3) := by
            show thenN R = .error 3
            rw [HR.out, HKB.out, all_falseO _ _ j hjz (by rw [HF.out]; simp [hxy])]
            rfl
          go_wp2_with fail
          go_quiet (fail)
          go_wp2_with fail
          go_ret2
          rw [HR'.out]
          exact docP_err (by first | exact HBw.out | exact HBw.out.drew | exact belDrew HBw.out) rfl
      · obtain rfl : j = ks.length := by omega
        have hnl : ¬ (ks.length : Int) < (ks.length : Int) := by omega
        have HR' : Hid (thenN R = namedO (c ++ r)) := by
          show thenN R = namedO (c ++ r)
          have h1 := HAL.out
          rw [List.take_of_length_le (by rw [HZL.out]; exact Nat.le_refl _)] at h1
          rw [HR.out, HKB.out, h1]
          rfl
        have HCr := hidO (HC.out.later HBw.out)
        clear hlt hj
        go_wp2_with (at_builtin; refine app_C rfl _ _ rfl W1.heap.size (.slice none 0 0) [] c ca cc rfl (OC.nil _ _) rfl HCr.out (by simp; omega) HB.out.size ?_)
        intro v1 w4 hO4 hg4
        have HO4 : Hid (OC w4 W1.heap.size v1 c) := hO4
        have HB4 : Hid (Below W1.heap.size W1 w4) := HB.out.grown hg4 HB.out.size (fun q hq => by cases hq)
        have h44 := xcell HB4.out H4.out
        have hwl4 : w.heap.size < w4.heap.size := World.block_lt_of_cell? _ _ h44
        have HDr := hidO (HD.out.later (belB HW.out HB4.out))
        clear hO4 hg4
        go_wp2_with (at_builtin; refine app_C rfl _ _ rfl W1.heap.size v1 c r ra rc rfl HO4.out rfl HDr.out (by omega) HB4.out.size ?_)
        intro v2 w5 hO5 hg5
        have HB5 : Hid (Below W1.heap.size W1 w5) := HB4.out.grown hg5 HB4.out.size (fun q hq => (World.ownsRow.lt HO4.out q hq).1)
        obtain ⟨a2, c2, rfl, hcc, -⟩ := OC.form hO5
        have hal : (c ++ r).length ≤ maxLen := by rw [List.length_append]; unfold maxLen; omega
        have hnm : ∀ x ∈ c ++ r, x.nm.size ≤ 140737488355328 := fun x hx => by
          rcases List.mem_append.1 hx with hx | hx
          · have := HCN.out x hx; omega
          · have := HRN.out x hx; omega
        have HND : Hid (Calls Tryz.prog 17 #[.slice a2 (c ++ r).length c2] w5 (DocP w5 (namedO (c ++ r)))) := namedD_any (c ++ r) a2 c2 w5 hcc hal hnm
        rw [List.length_append] at HND
        clear hO5 hg5 hcc hal hnm
        go_wp2_with fail
        refine HND.out.mono ?_
        rintro e w6 ⟨hb6, hr6⟩
        have HB6 : Hid (Below w.heap.size w w6) := (belB HW.out HB5.out).trans (hb6.mono (belB HW.out HB5.out).size)
        rw [← HR'.out] at hr6
        cases hT : thenN R with
        | error n =>
          rw [hT] at hr6
          simp only at hr6
          subst hr6
          clear hb6 HND HR'
          go_wp2_with fail
          go_ret2
          rw [hT]
          exact docP_err HB6.out rfl
        | ok l =>
          rw [hT] at hr6
          obtain ⟨a3, c3', rfl, hc3⟩ := hr6
          have HC3 := hidO hc3
          clear hb6 HND HR' hc3
          go_wp2_with fail
          go_ret2
          rw [hT]
          exact docP_ok HB6.out rfl HC3.out
  · have HR : Hid (thenN R = .error 4) := by
      show thenN R = .error 4
      rw [HR0.out]
      unfold joinO winB
      rw [if_neg (by rw [HHP.out, HHQ.out, HHV.out]; intro h; exact hok ⟨h.1, h.2.1, h.2.2.2, h.2.2.1⟩)]
      rfl
    have HB3w : Hid (Below w.heap.size w w3) := belB HW.out HB3.out
    cases P with
    | false =>
      clear hok
      go_wp2_with fail
      go_ret2
      rw [HR.out]
      exact docP_err HB3w.out rfl
    | true =>
      cases Q with
      | false =>
        clear hok
        go_wp2_with fail
        go_ret2
        rw [HR.out]
        exact docP_err HB3w.out rfl
      | true =>
        cases V with
        | false =>
          clear hok
          go_wp2_with fail
          go_ret2
          rw [HR.out]
          exact docP_err HB3w.out rfl
        | true =>
          have hlb : ((ks.length : Int) != (os.length : Int)) = true := by
            have : ks.length ≠ os.length := fun h => hok ⟨rfl, rfl, rfl, h⟩
            simp; omega
          clear hok
          go_wp2_with fail
          go_ret2
          rw [HR.out]
          exact docP_err HB3w.out rfl
end Go.Proofs.YtplaplhmjpfbjaaGreatDoor.Oo
