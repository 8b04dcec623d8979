import Derived.Test.YtplaplhmjpfbjaaGreatDoorOa1
namespace Go.Proofs.YtplaplhmjpfbjaaGreatDoor.Oo
open Go.RowKit
set_option linter.unusedVariables false
set_option linter.unusedSimpArgs false
set_option maxRecDepth 100000

theorem own_zero {w : World} {B e size g n cap : Nat} {xs : List Value} (h : w.ownsRow B e size (.slice (some ⟨g, 0, none⟩) n cap) n xs) : w.ownsRow B e size (.slice (some ⟨g, 0, none⟩) 0 cap) 0 [] := by
  refine ⟨by simp, .inr ?_⟩
  rcases h.2 with ⟨h1, _⟩ | ⟨g', cap', cur, h1, h2, h3, h4, h5, h6, h7⟩
  · cases h1
  · cases h1; exact ⟨g, cap, cur, rfl, h2, h3, Nat.zero_le _, h5, h6, by simp⟩
set_option maxHeartbeats 2000000 in
theorem grow_any (n : Nat) (hn : n ≤ 16) (w : World) : Calls Tryz.prog 71 #[.slice none 0 0, .int .i64 n] w fun e w' => ∃ v, e = .returned v ∧ OC w' w.heap.size v [] ∧ Below w.heap.size w w' := by
  obtain ⟨i0, hi0, hz0, hz1, hz2⟩ := info_parts infoC
  by_cases h0 : n = 0
  · subst h0
    go_enter Tryz.func71, Tryz.ntmps71
    go_wp2_with fail
    go_ret
    exact ⟨_, rfl, OC.nil _ _, Below.refl _ _⟩
  · have hni : (0 : Int) < n := by omega
    have hnn : ¬ (n : Int) < 0 := by omega
    have hby : Tryz.t43.bytes = 24 := by kernel_rfl
    have hnc : Builtin.nextslicecap n 0 = n := nextslicecap_zero (by omega)
    go_enter Tryz.func71, Tryz.ntmps71
    go_wp2_with fail
    all_goals try (exfalso; rw [hby] at *; omega)
    all_goals try (exfalso; rw [hnc, hby] at *; omega)
    have hcap := grownCap_ge w n 0 43
    have hcm := grownCap_le_maxLen w n 0 43 (by unfold maxLen; omega)
    unfold grownCap at hcap hcm
    generalize (Question.appendCap n 0 43).cut (w.tape w.drawn (.appendCap n 0 43)) = cap at *
    go_ret
    have h1 := World.ownsRow_lit (base := w.heap.size) (e := 43) (size := 2) w (Builtin.zeroCells #[Value.string ⟨#[]⟩, Value.int .i64 0] n ++ Builtin.zeroCells #[Value.string ⟨#[]⟩, Value.int .i64 0] (cap - n)) cap (Nat.le_refl _) hcm (by rw [Array.size_append, size_zeroCells, size_zeroCells]; simp; omega)
    exact ⟨_, rfl, (own_zero h1).drew, by first | exact (xbel1 w _).drew | exact Below.drewN' (xbel1 w _)⟩
set_option maxHeartbeats 4000000 in
theorem concat_any (a b : Option Addr) (ca cb : Nat) (l m : List Co) (w : World) (hl : l.length ≤ 8) (hm : m.length ≤ 8) (ha : ColsAt w a l) (hb : ColsAt w b m) (g : Nat) (hg : g < w.heap.size) (h0 : w.cell? ⟨g, 0, none⟩ = some (.slice a l.length ca)) (h1 : w.cell? ⟨g, 1, none⟩ = some (.slice b m.length cb)) :
    Calls Tryz.prog 50 #[.slice (some ⟨g, 0, none⟩) 2 2] w fun e w' => ∃ v, e = .returned v ∧ OC w' w.heap.size v (l ++ m) ∧ Below w.heap.size w w' := by
  have HA := hidO ha
  have HB := hidO hb
  clear ha hb
  go_enter Tryz.func50, Tryz.ntmps50
  go_wp2_with fail
  go_loopw [3, 11] (fun s i w' => ∃ (k : Nat), k ≤ 2 ∧ i = .int .i64 k ∧ s = .int .i64 ((if k = 0 then 0 else if k = 1 then l.length else l.length + m.length : Nat) : Int) ∧ w' = w) (fun _ i _ => 2 - (intOf i).toNat)
  case atStart => exact ⟨0, Nat.zero_le _, rfl, rfl, rfl⟩
  case round =>
    obtain ⟨k, hk, rfl, rfl, hw⟩ := hrel
    have hw' := hw.symm
    subst hw'
    have hk3 : k = 0 ∨ k = 1 ∨ k = 2 := by omega
    rcases hk3 with rfl | rfl | rfl
    · simp only [if_true]
      go_wp2_with fail
      exact ⟨⟨1, by omega, by go_num, by first | rfl | (simp; done) | go_num, by first | rfl | trivial⟩, by simp [intOf]⟩
    · simp only [if_true, if_neg (show ¬ (1 : Nat) = 0 by decide)]
      go_wp2_with fail
      exact ⟨⟨2, by omega, by go_num, by first | rfl | (simp; done) | go_num, by first | rfl | trivial⟩, by simp [intOf]⟩
    · simp only [if_neg (show ¬ (2 : Nat) = 0 by decide), if_neg (show ¬ (2 : Nat) = 1 by decide)]
      clear hk
      go_wp2_with fail
      refine (grow_any (l.length + m.length) (by omega) _).mono ?_
      rintro e w1 ⟨v, rfl, hO, hb1⟩
      have HO := hidO hO
      have HB1 := hidO hb1
      have H0 := hidO h0
      have H1 := hidO h1
      clear hO hb1 h0 h1
      go_wp2_with fail
      go_loopw [6, 27] (fun v i w' => ∃ (k : Nat), k ≤ 2 ∧ i = .int .i64 k ∧ OC w' w.heap.size v (if k = 0 then [] else if k = 1 then l else l ++ m) ∧ Below w.heap.size w w') (fun _ i _ => 2 - (intOf i).toNat)
      case atStart => exact ⟨0, Nat.zero_le _, rfl, HO.out, HB1.out⟩
      case round =>
        obtain ⟨k, hk, rfl, hO, hb⟩ := hrel
        have e0 := xcell hb H0.out
        have e1 := xcell hb H1.out
        have hgr : g < wr.heap.size := World.block_lt_of_cell? _ _ e0
        have HBr := hidO hb
        have HAr := hidO (HA.out.later hb)
        have HCr := hidO (HB.out.later hb)
        clear hb
        have hk3 : k = 0 ∨ k = 1 ∨ k = 2 := by omega
        rcases hk3 with rfl | rfl | rfl
        · have HOr : Hid (OC wr w.heap.size u6 []) := hO
          clear hO
          go_wp2_with (at_builtin; refine app_C rfl _ _ rfl w.heap.size u6 [] l a ca rfl HOr.out rfl HAr.out (by simp; omega) HBr.out.size ?_)
          intro v' w2 hO2 hgr2
          have HO2 : Hid (OC w2 w.heap.size v' l) := hO2
          have HB2 : Hid (Below w.heap.size w w2) := HBr.out.grown hgr2 HBr.out.size (fun j hj => (World.ownsRow.lt HOr.out j hj).1)
          clear hO2 hgr2
          go_wp2_with fail
          exact ⟨⟨1, by omega, by go_num, HO2.out, HB2.out⟩, by simp [intOf]⟩
        · have HOr : Hid (OC wr w.heap.size u6 l) := hO
          clear hO
          go_wp2_with (at_builtin; refine app_C rfl _ _ rfl w.heap.size u6 l m b cb rfl HOr.out rfl HCr.out (by omega) HBr.out.size ?_)
          intro v' w2 hO2 hgr2
          have HO2 : Hid (OC w2 w.heap.size v' (l ++ m)) := hO2
          have HB2 : Hid (Below w.heap.size w w2) := HBr.out.grown hgr2 HBr.out.size (fun j hj => (World.ownsRow.lt HOr.out j hj).1)
          clear hO2 hgr2
          go_wp2_with fail
          exact ⟨⟨2, by omega, by go_num, HO2.out, HB2.out⟩, by simp [intOf]⟩
        · have HOr : Hid (OC wr w.heap.size u6 (l ++ m)) := hO
          clear hO
          go_wp2_with fail
          go_ret
          exact ⟨_, rfl, HOr.out, HBr.out⟩
end Go.Proofs.YtplaplhmjpfbjaaGreatDoor.Oo
namespace Go.Proofs.YtplaplhmjpfbjaaGreatDoor.Oo
open Go.RowKit
set_option linter.unusedVariables false
set_option linter.unusedSimpArgs false
set_option maxRecDepth 100000
attribute [local go_sem ↓] neqlW eqlW
attribute [local go_sem] guardW

/-- What Check answers. -/
def ckV (pl : Int) (r : Except Nat Int) : Value := match r with
  | .ok k => .tuple #[.int .i64 k, .int .i64 pl, .nilIface]
  | .error n => .tuple #[.int .i64 0, .int .i64 pl, .iface 36 (.int .i64 n)]
/-- Check of the columns 'c' is as 'ck' says. -/
def CkOk (w : World) (c : List Co) (ck : ByteArray → Except Nat Int) : Prop := ∀ s W a cc, Below w.heap.size w W → ColsAt W a c → Calls Tryz.prog 46 #[.string s, .slice a c.length cc] W fun e w' => (∃ pl, e = .returned (ckV pl (ck s))) ∧ Below W.heap.size W w'
theorem CkOk.later {w wx : World} {c : List Co} {ck : ByteArray → Except Nat Int} (h : CkOk w c ck) (hb : Below w.heap.size w wx) : CkOk wx c ck := fun s W a cc hW hc => h s W a cc (hb.trans (hW.mono hb.size)) hc
/-- Columns and no error, or an error. -/
def OutP (w : World) (r : Except Nat (List Co)) (e : Ending) (w' : World) : Prop := Below w.heap.size w w' ∧ match r with
  | .error n => e = .returned (.tuple #[.slice none 0 0, .iface 36 (.int .i64 n)])
  | .ok l => ∃ a c, e = .returned (.tuple #[.slice a l.length c, .nilIface]) ∧ ColsAt w' a l
theorem outP_err {w w' : World} {n : Nat} {e : Ending} (hb : Below w.heap.size w w') (he : e = .returned (.tuple #[.slice none 0 0, .iface 36 (.int .i64 n)])) : OutP w (.error n) e w' := ⟨hb, he⟩
theorem outP_ok {w w' : World} {l : List Co} {e : Ending} {a : Option Addr} {c : Nat} (hb : Below w.heap.size w w') (he : e = .returned (.tuple #[.slice a l.length c, .nilIface])) (hc : ColsAt w' a l) : OutP w (.ok l) e w' := ⟨hb, a, c, he, hc⟩

set_option maxHeartbeats 4000000 in
theorem where_any (ck : ByteArray → Except Nat Int) (o : OpD) (p : OpA) (w : World) (hs : OpSz o) (hat : OpAt w o p) (hck : CkOk w o.c ck) :
    Calls Tryz.prog 24 #[.agg (opCs o p)] w (OutP w (whereO ck o)) := by
  have HC := hidO hat.c
  have HE := hidO hat.e
  have HK := hidO hck
  have hcl := hs.c
  clear hck hs hat
  obtain ⟨k, ex, nm, c, r, ks, os, wk, ws, wt, ag, ou⟩ := o
  obtain ⟨ea, ec, na, nc, ca, cc, ra, rc, ka, kc, oa, oc, ga, gc⟩ := p
  unfold opCs
  simp only at *
  by_cases h1 : ex.length = 1
  · obtain ⟨s, rfl⟩ : ∃ s, ex = [s] := by
      match ex, h1 with
      | [s], _ => exact ⟨s, rfl⟩
    obtain ⟨b, off, rfl, e1⟩ := HE.out 0 (by simp)
    simp only [List.getElem_cons_zero, Nat.add_zero] at e1
    have hbl : b < w.heap.size := World.block_lt_of_cell? _ _ e1
    have hone : [s].length = 1 := rfl
    rw [hone]
    have HR : Hid (whereO ck ⟨k, [s], nm, c, r, ks, os, wk, ws, wt, ag, ou⟩ = match ck s with
      | .error n => .error n
      | .ok k => if k = 2 then .ok c else .error 3) := rfl
    generalize whereO ck ⟨k, [s], nm, c, r, ks, os, wk, ws, wt, ag, ou⟩ = R at *
    have HKs : Hid (∀ W, Below w.heap.size w W → Calls Tryz.prog 46 #[.string s, .slice ca c.length cc] W fun e w' => (∃ pl, e = .returned (ckV pl (ck s))) ∧ Below W.heap.size W w') := fun W hW => HK.out s W ca cc hW (HC.out.later hW)
    cases hks : ck s with
    | error n =>
      rw [hks] at HR HKs
      have HR' : Hid (R = .error n) := HR.out
      unfold ckV at HKs
      simp only at HKs
      clear HR hks HK HE
      go_enter Tryz.func24, Tryz.ntmps24
      go_wp2_with fail
      go_region_with (go_at_call 46; refine (HKs.out _ (by first | exact xbel1 _ _ | exact (xbel1 _ _).drew | exact Below.drewN' (xbel1 _ _))).mono ?_; rintro e w1 ⟨⟨pl, rfl⟩, hb1⟩; have HB1 : Hid (Below w.heap.size w w1) := (by first | exact (xbel1 w _).trans (hb1.mono (by simp)) | exact ((xbel1 w _).drew).trans (hb1.mono (by simp)) | exact (Below.drewN' (xbel1 w _)).trans (hb1.mono (by simp))))
      all_goals
        go_wp2_with fail
        go_ret2
        rw [HR'.out]
        exact outP_err (by first | exact HB1.out | exact HB1.out.drew | exact Below.drewN' HB1.out) rfl
    | ok kd =>
      rw [hks] at HR HKs
      unfold ckV at HKs
      simp only at HKs HR
      clear hks HK HE
      have hcl' : c.length ≤ 5864062014805 := by omega
      by_cases h2 : kd = 2
      · subst h2
        have HR' : Hid (R = .ok c) := HR.out
        clear HR
        go_enter Tryz.func24, Tryz.ntmps24
        go_wp2_with fail
        go_region_with (go_at_call 46; refine (HKs.out _ (by first | exact xbel1 _ _ | exact (xbel1 _ _).drew | exact Below.drewN' (xbel1 _ _))).mono ?_; rintro e w1 ⟨⟨pl, rfl⟩, hb1⟩; have c3 : w1.cell? ⟨w.heap.size, 3, none⟩ = some (.slice ca c.length cc) := xcell hb1 (by go_simp); have HB1 : Hid (Below w.heap.size w w1) := (by first | exact (xbel1 w _).trans (hb1.mono (by simp)) | exact ((xbel1 w _).drew).trans (hb1.mono (by simp)) | exact (Below.drewN' (xbel1 w _)).trans (hb1.mono (by simp))); have hwl : w.heap.size < w1.heap.size := World.block_lt_of_cell? _ _ c3; clear hb1)
        all_goals
          go_wp2_with fail
          refine (cloneC ca c cc _ (HC.out.later (by first | exact HB1.out | exact HB1.out.drew | exact Below.drewN' HB1.out)) hcl').mono ?_
          rintro e w2 ⟨a', c', rfl, hO, hb2⟩
          have HO : Hid (OC w2 _ (.slice a' c.length c') c) := hO
          have HB2 : Hid (Below w.heap.size w w2) := (by first | exact HB1.out.trans (hb2.mono HB1.out.size) | exact (HB1.out.drew).trans (hb2.mono (HB1.out.drew).size) | exact (Below.drewN' HB1.out).trans (hb2.mono (Below.drewN' HB1.out).size))
          clear hO hb2
          go_wp2_with fail
          go_ret2
          rw [HR'.out]
          obtain ⟨a2, c2, e2, hcc, -⟩ := OC.form HO.out
          cases e2
          exact outP_ok (by first | exact HB2.out | exact HB2.out.drew) rfl hcc
      · have h2b : (kd != 2) = true := by simp [h2]
        have HR' : Hid (R = .error 3) := by show R = .error 3; have := HR.out; simpa [h2] using this
        clear HR
        go_enter Tryz.func24, Tryz.ntmps24
        go_wp2_with fail
        go_region_with (go_at_call 46; refine (HKs.out _ (by first | exact xbel1 _ _ | exact (xbel1 _ _).drew | exact Below.drewN' (xbel1 _ _))).mono ?_; rintro e w1 ⟨⟨pl, rfl⟩, hb1⟩; have HB1 : Hid (Below w.heap.size w w1) := (by first | exact (xbel1 w _).trans (hb1.mono (by simp)) | exact ((xbel1 w _).drew).trans (hb1.mono (by simp)) | exact (Below.drewN' (xbel1 w _)).trans (hb1.mono (by simp))))
        all_goals
          go_wp2_with fail
          go_ret2
          rw [HR'.out]
          exact outP_err (by first | exact HB1.out | exact HB1.out.drew | exact Below.drewN' HB1.out) rfl
  · have h1i : ((ex.length : Int) != 1) = true := by simp; omega
    have HR : Hid (whereO ck ⟨k, ex, nm, c, r, ks, os, wk, ws, wt, ag, ou⟩ = .error 4) := by
      unfold Hid whereO
      simp only
      split
      all_goals first | rfl | exact absurd rfl h1
    clear HK HE HC
    go_enter Tryz.func24, Tryz.ntmps24
    go_wp2_with fail
    go_ret2
    rw [HR.out]
    exact outP_err (xbel1 _ _) rfl
end Go.Proofs.YtplaplhmjpfbjaaGreatDoor.Oo
namespace Go.Proofs.YtplaplhmjpfbjaaGreatDoor.Oo
open Go.RowKit
set_option linter.unusedVariables false
set_option linter.unusedSimpArgs false
set_option maxRecDepth 100000
attribute [local go_sem ↓] neqlW eqlW
attribute [local go_sem] guardW

theorem one_col (w : World) (x : Co) : ColsAt (w.alloc (.cells #[.string x.nm, .int .i64 x.k] 43)) (some ⟨w.heap.size, 0, none⟩) [x] := by
  intro i hi
  have h0 : i = 0 := by simpa using hi
  subst h0
  have h1 := Own.new w 43 2 #[.string x.nm, .int .i64 x.k] rfl
  exact ⟨_, 0, rfl, h1.cell 0 (by decide), h1.cell 1 (by decide)⟩
set_option maxHeartbeats 4000000 in
theorem map_any (ck : ByteArray → Except Nat Int) (o : OpD) (p : OpA) (w : World) (hs : OpSz o) (hat : OpAt w o p) (hck : CkOk w o.c ck) :
    Calls Tryz.prog 25 #[.agg (opCs o p)] w (OutP w (mapO ck o)) := by
  have HC := hidO hat.c
  have HE := hidO hat.e
  have HN := hidO hat.n
  have HK := hidO hck
  have hel := hs.e
  clear hck hs hat
  obtain ⟨k, ex, nm, c, r, ks, os, wk, ws, wt, ag, ou⟩ := o
  obtain ⟨ea, ec, na, nc, ca, cc, ra, rc, ka, kc, oa, oc, ga, gc⟩ := p
  unfold opCs
  simp only at *
  by_cases hl : nm.length = ex.length
  · have hlb : ((nm.length : Int) != (ex.length : Int)) = false := by simp [hl]
    have HLL := hidO hl
    have HR : Hid (mapO ck ⟨k, ex, nm, c, r, ks, os, wk, ws, wt, ag, ou⟩ = mapE (fun q => nameR (ck q.1) q.2) (ex.zip nm)) := by unfold Hid mapO; rw [if_pos hl]
    generalize mapO ck ⟨k, ex, nm, c, r, ks, os, wk, ws, wt, ag, ou⟩ = R at *
    have hzl : (ex.zip nm).length = ex.length := by rw [List.length_zip]; omega
    have HZL := hidO hzl
    clear hl hzl
    obtain ⟨W1, hW1⟩ : ∃ W1, W1 = w.alloc (.cells #[.int .i64 k, .slice ea ex.length ec, .slice na nm.length nc, .slice ca c.length cc, .slice ra r.length rc, .slice ka ks.length kc, .slice oa os.length oc, .int .i64 wk, .int .i64 ws, .int .i64 wt, .slice ga ag.length gc, .bool ou] 29) := ⟨_, rfl⟩
    have HW : Hid (Below w.heap.size w W1) := by rw [hW1]; exact xbel1 _ _
    have H3 : Hid (W1.cell? ⟨w.heap.size, 3, none⟩ = some (.slice ca c.length cc)) := by rw [hW1]; show _ = _; go_simp
    have H2 : Hid (W1.cell? ⟨w.heap.size, 2, none⟩ = some (.slice na nm.length nc)) := by rw [hW1]; show _ = _; go_simp
    go_enter Tryz.func25, Tryz.ntmps25
    go_wp2_with fail
    rw [← hW1]
    go_loopw [4, 21] (fun v i w' => ∃ (j : Nat) (acc : List Co), j ≤ ex.length ∧ i = .int .i64 j ∧ OC w' W1.heap.size v acc ∧ mapE (fun q => nameR (ck q.1) q.2) ((ex.zip nm).take j) = .ok acc ∧ Below W1.heap.size W1 w') (fun _ i _ => ex.length - (intOf i).toNat)
    case atStart => exact ⟨0, [], Nat.zero_le _, rfl, OC.nil _ _, rfl, Below.refl _ _⟩
    case round =>
      obtain ⟨j, acc, hj, rfl, hO, hmp, hb⟩ := hrel
      have HO := hidO hO
      have HB := hidO hb
      have HM := hidO hmp
      have HBw : Hid (Below w.heap.size w wr) := HW.out.trans (hb.mono HW.out.size)
      clear hO hb hmp hW1
      by_cases hlt : j < ex.length
      · have hji : (j : Int) < (ex.length : Int) := by omega
        have hjn : j < nm.length := by have := HLL.out; omega
        have hjni : (j : Int) < (nm.length : Int) := by omega
        obtain ⟨b, off, rfl, e1⟩ := (HE.out.later HBw.out) j hlt
        obtain ⟨b', off', rfl, e2⟩ := (HN.out.later HBw.out) j hjn
        have hjz : j < (ex.zip nm).length := by rw [HZL.out]; exact hlt
        have hge : (ex.zip nm)[j] = (ex[j], nm[j]) := List.getElem_zip
        obtain ⟨s, hsd⟩ : ∃ s, s = ex[j] := ⟨_, rfl⟩
        obtain ⟨nn, hnd⟩ : ∃ nn, nn = nm[j] := ⟨_, rfl⟩
        rw [← hsd] at e1
        rw [← hnd] at e2
        have HF : Hid ((fun q : ByteArray × ByteArray => nameR (ck q.1) q.2) (ex.zip nm)[j] = nameR (ck s) nn) := by unfold Hid; rw [hge, hsd, hnd]
        have c3 := xcell HB.out H3.out
        have HKs : Hid (∀ W, Below w.heap.size w W → Calls Tryz.prog 46 #[.string s, .slice ca c.length cc] W fun e w' => (∃ pl, e = .returned (ckV pl (ck s))) ∧ Below W.heap.size W w') := fun W hW => HK.out s W ca cc hW (HC.out.later hW)
        have hbl : b < wr.heap.size := World.block_lt_of_cell? _ _ e1
        have hwl : w.heap.size < wr.heap.size := World.block_lt_of_cell? _ _ c3
        clear hsd hnd hge
        cases hks : ck s with
        | error n =>
          rw [hks] at HF HKs
          have HR' : Hid (R = .error n) := by
            show R = .error n
            rw [HR.out]
            exact mapE_stop HM.out hjz HF.out
          unfold ckV at HKs
          simp only at HKs
          clear hks e2
          go_wp2_with fail
          refine (HKs.out _ HBw.out).mono ?_
          rintro e w1 ⟨⟨pl, rfl⟩, hb1⟩
          have HB1 : Hid (Below w.heap.size w w1) := HBw.out.trans (hb1.mono HBw.out.size)
          clear hb1
          go_wp2_with fail
          go_ret2
          rw [HR'.out]
          exact outP_err HB1.out rfl
        | ok kd =>
          rw [hks] at HF HKs
          have HM' : Hid (mapE (fun q => nameR (ck q.1) q.2) ((ex.zip nm).take (j + 1)) = .ok (acc ++ [⟨nn, kd⟩])) := mapE_next HM.out hjz HF.out
          have hal : acc.length = j := by
            have := mapE_len _ _ _ HM.out
            rw [List.length_take] at this
            have := HZL.out
            omega
          unfold ckV at HKs
          simp only at HKs
          clear hks
          go_wp2_with fail
          refine (HKs.out _ HBw.out).mono ?_
          rintro e w1 ⟨⟨pl, rfl⟩, hb1⟩
          have HB1 : Hid (Below W1.heap.size W1 w1) := HB.out.trans (hb1.mono HB.out.size)
          have e2' := xcell hb1 e2
          have c2' := xcell HB1.out H2.out
          have HO1 := hidO (OC.later HO.out hb1)
          have hbl' : b' < w1.heap.size := World.block_lt_of_cell? _ _ e2'
          have hwl1 : w.heap.size < w1.heap.size := World.block_lt_of_cell? _ _ c2'
          clear hb1 e2 e1 c3 HKs HB HO hbl
          go_wp2_with (at_builtin; refine app_C1 rfl _ _ rfl W1.heap.size u4 acc ⟨nn, kd⟩ w1.heap.size 1 rfl (OC.later HO1.out (xbel1 _ _)) rfl (one_col w1 ⟨nn, kd⟩) (by omega) (Nat.le_trans HB1.out.size (by simp)) ?_)
          intro v' w2 hO2 hg2
          have HO2 := hidO hO2
          have HB2 : Hid (Below W1.heap.size W1 w2) := (HB1.out.trans ((xbel1 w1 _).mono HB1.out.size)).grown hg2 (Nat.le_trans HB1.out.size (by simp)) (fun q hq => (World.ownsRow.lt HO1.out q hq).1)
          clear hO2 hg2
          go_wp2_with fail
          exact ⟨⟨j + 1, acc ++ [⟨nn, kd⟩], by omega, by go_num, HO2.out, HM'.out, HB2.out⟩, by simp [intOf]; omega⟩
      · obtain rfl : j = ex.length := by omega
        have hnl : ¬ (ex.length : Int) < (ex.length : Int) := by omega
        have HR' : Hid (R = .ok acc) := by
          show R = .ok acc
          rw [HR.out]
          have := HM.out
          rw [List.take_of_length_le (by rw [HZL.out]; exact Nat.le_refl _)] at this
          exact this
        clear hlt hj
        go_wp2_with fail
        obtain ⟨a2, c2, e2, hcc, -⟩ := OC.form HO.out
        cases e2
        go_ret2
        rw [HR'.out]
        exact outP_ok HBw.out rfl hcc
  · have hlb : ((nm.length : Int) != (ex.length : Int)) = true := by simp; omega
    have HR : Hid (mapO ck ⟨k, ex, nm, c, r, ks, os, wk, ws, wt, ag, ou⟩ = .error 4) := by unfold Hid mapO; rw [if_neg hl]
    clear HK HE HC HN
    go_enter Tryz.func25, Tryz.ntmps25
    go_wp2_with fail
    go_ret2
    rw [HR.out]
    exact outP_err (xbel1 _ _) rfl
end Go.Proofs.YtplaplhmjpfbjaaGreatDoor.Oo
