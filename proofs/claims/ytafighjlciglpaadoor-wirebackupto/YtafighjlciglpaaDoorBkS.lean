import Derived.Test.YtafighjlciglpaaDoorBkP
import Derived.Test.YtafighjlciglpaaDoorRfS
import Derived.Test.YtafighjlciglpaaDoorRdX
namespace Go.Proofs.YtafighjlciglpaaDoor
open Go.RowKit
set_option linter.unusedVariables false
set_option maxRecDepth 100000

set_option maxHeartbeats 1000000 in
theorem putWord_any (v : Value) (l : List UInt8) (n : Nat) (B : Nat) (w : World) (hown : OL w B v l) (hB : B ≤ w.heap.size) (hn : n < 4294967296) (hl : l.length ≤ 549755813888) :
    Calls Tryd.prog 22 #[v, .int .u32 (n : Int)] w fun e w' => ∃ v', e = .returned v' ∧ OL w' B v' (l ++ w4 n) ∧ Below B w w' := by
  obtain ⟨i0, hi0, hz0, hz1, hz2⟩ := info_parts info5
  have p0 : (0 : Int) ≤ (n : Int) := by omega
  have p1 : (n : Int) < 4294967296 := by omega
  have HO : Hid (OL w B v l) := hown
  clear hown
  go_enter Tryd.func22, Tryd.ntmps22
  go_wp2_with (first
    | (at_builtin; refine wpList_append_own_at _ rfl _ _ 22 rfl B 5 i0 (.int .u8 0) 1 1 Tryd.underlying22 hi0 hz0 hz1 hz2 rfl (by decide) _ l.length (l.map u8v) rfl (World.ownsRow.alloc HO.out _) ⟨w.heap.size, 0, none⟩ 4 4 ((w4 n).map u8v) rfl rfl ?c1 ?c2 ?c3 ?c4 ?c5 ?_))
  case c1 =>
    intro j u hj
    have h8 : ∀ m : Nat, UInt8.toNat (UInt8.ofNat m) = m % 256 := fun m => UInt8.toNat_ofNat'
    match j, hj with
    | 0, hj => simp [w4, u8v, wb, h8] at hj; subst hj; simp [Addr.add]; omega
    | 1, hj => simp [w4, u8v, wb, h8] at hj; subst hj; simp [Addr.add]
    | 2, hj => simp [w4, u8v, wb, h8] at hj; subst hj; simp [Addr.add]
    | 3, hj => simp [w4, u8v, wb, h8] at hj; subst hj; simp [Addr.add]
  case c2 => intro u hu; obtain ⟨z, _, rfl⟩ := List.mem_map.1 hu; rfl
  case c3 => unfold maxLen; omega
  case c4 => omega
  case c5 => simp; omega
  · intro v' w5 hown' hgrow _ hat
    have hb5 : Below B w w5 := ((Below.refl B w).alloc hB _).grown hgrow (by simp; omega) (fun k hk => (World.ownsRow.lt HO.out k hk).1)
    have H5 : Hid (OL w5 B v' (l ++ w4 n)) := by
      unfold Hid OL
      rw [List.length_append, w4_len, List.map_append]
      exact hown'
    clear hown' hgrow hat
    go_wp2
    go_ret
    exact ⟨v', rfl, H5.out, hb5⟩

set_option maxHeartbeats 2000000 in
theorem seal_any (b off len cap : Nat) (f : Nat → UInt8) (w : World) (hl : Bytes w (some ⟨b, off, none⟩) len f) (hm : len ≤ 549755813888) (hq : Quart w) :
    Calls Tryd.prog 10 #[.slice (some ⟨b, off, none⟩) len cap] w fun e w' => Below w.heap.size w w' ∧ ((134217728 < len ∧ e = .returned (.tuple #[.slice none 0 0, errV 5])) ∨ (len ≤ 134217728 ∧ ∃ v', e = .returned (.tuple #[v', .nilIface]) ∧ OL w' w.heap.size v' (sealed (blist f len)))) := by
  obtain ⟨i0, hi0, hz0, hz1, hz2⟩ := info_parts info5
  have HL : Hid (Bytes w (some ⟨b, off, none⟩) len f) := hl
  have HQ : Hid (Quart w) := hq
  clear hl hq
  go_enter Tryd.func10, Tryd.ntmps10
  by_cases hbig : 134217728 < len
  · have hbi : (134217728 : Int) < (len : Int) := by omega
    go_wp2
    go_ret2
    exact ⟨Below.refl _ _, .inl ⟨hbig, rfl⟩⟩
  · have hbi : ¬ (134217728 : Int) < (len : Int) := by omega
    have hmk : ∀ W : World, (Instr.makeSlice 22 (.int .i64 0) (.int .i64 (8 + (len : Int)))).run Tryd.prog W = .ok (.slice (some ⟨W.heap.size, 0, none⟩) 0 (8 + len)) (W.alloc (.cells (madeCells #[.int .u8 0] (8 + len)) 5)) := fun W => by
      have := run_make (P := Tryd.prog) W 22 5 i0 (.int .u8 0) Tryd.underlying22 hi0 hz0 .i64 .i64 0 (8 + (len : Int)) (by omega) (by omega) (by rw [hz2]; omega) (by omega)
      rw [this, hz1]
      rw [show (8 + (len : Int)).toNat = 8 + len by omega, Nat.mul_one]
      rfl
    have hO0 : OL (w.alloc (.cells (madeCells #[.int .u8 0] (8 + len)) 5)) w.heap.size (.slice (some ⟨w.heap.size, 0, none⟩) 0 (8 + len)) [] := by
      refine ⟨rfl, .inr ⟨w.heap.size, 8 + len, _, rfl, Nat.le_refl _, heap_alloc_new w _, Nat.zero_le _, by unfold maxLen; omega, by simp [madeCells], by simp⟩⟩
    have HO0 : Hid (OL (w.alloc (.cells (madeCells #[.int .u8 0] (8 + len)) 5)) w.heap.size (.slice (some ⟨w.heap.size, 0, none⟩) 0 (8 + len)) []) := hO0
    clear hO0
    have hl32 : (len : Int) < 4294967296 := by omega
    go_wp2_with fail
    refine (putWord_any _ [] len w.heap.size _ HO0.out (by simp) (by omega) (by simp)).mono ?_
    rintro e w1 ⟨v1, rfl, ho1, hb1⟩
    have H1 : Hid (OL w1 w.heap.size v1 (w4 len)) := by rw [List.nil_append] at ho1; exact ho1
    have HB1 : Hid (Below w.heap.size w w1) := (bel1 _ _).trans hb1
    have hs1 := HB1.out.size
    clear ho1 hb1 hmk HO0
    go_wp2_with fail
    refine (sum_any (some ⟨b, off, none⟩) len cap f w1 (HL.out.later HB1.out) (by unfold maxLen; omega) (HQ.out.later HB1.out)).mono ?_
    rintro e w2 ⟨rfl, rfl⟩
    have hsl := sumN_lt f len
    go_wp2_with fail
    refine (putWord_any v1 (w4 len) (sumN f len) w.heap.size w2 H1.out hs1 hsl (by rw [w4_len]; omega)).mono ?_
    rintro e w3 ⟨v3, rfl, ho3, hb3⟩
    have H3 : Hid (OL w3 w.heap.size v3 (w4 len ++ w4 (sumN f len))) := ho3
    have HB3 : Hid (Below w.heap.size w w3) := HB1.out.trans hb3
    have hs3 := HB3.out.size
    have HE : Hid ((w4 len ++ w4 (sumN f len)) ++ blist f len = sealed (blist f len)) := by
      unfold Hid sealed
      rw [blist_len, List.append_assoc, sumN_congr (lat (blist f len)) f len (fun i hi => by simp [lat, blist, hi])]
    have hl8 : (w4 len ++ w4 (sumN f len)).length = 8 := rfl
    clear ho3 hb3 H1 HB1
    have HL3 : Hid (Bytes w3 (some ⟨b, off, none⟩) len f) := HL.out.later HB3.out
    go_wp2_with (first
      | (at_builtin; refine wpList_append_own_at _ rfl _ _ 22 rfl w.heap.size 5 i0 (.int .u8 0) 1 1 Tryd.underlying22 hi0 hz0 hz1 hz2 rfl (by decide) _ 8 ((w4 len ++ w4 (sumN f len)).map u8v) rfl H3.out ⟨b, off, none⟩ len cap ((blist f len).map u8v) rfl (by rw [List.length_map, blist_len]; omega) ?c1 ?c2 ?c3 ?c4 ?c5 ?_))
    case c1 =>
      intro j u hj
      have hj' : j < len := by
        have := (List.getElem?_eq_some_iff.1 hj).1
        rw [List.length_map, blist_len] at this
        exact this
      obtain ⟨b', o', e, hc⟩ := HL3.out j hj'
      cases e
      rw [WideShapes.add_plain, hc]
      rw [← hj]
      simp [blist, hj', u8v]
    case c2 => intro u hu; obtain ⟨z, _, rfl⟩ := List.mem_map.1 hu; rfl
    case c3 => unfold maxLen; omega
    case c4 => omega
    case c5 => exact hs3
    · intro v' w5 hown' hgrow _ hat
      have hb5 : Below w.heap.size w w5 := HB3.out.grown hgrow hs3 (fun k hk => (World.ownsRow.lt H3.out k hk).1)
      have H5 : Hid (OL w5 w.heap.size v' (sealed (blist f len))) := by
        unfold Hid OL
        rw [← HE.out, List.length_append, hl8, blist_len, List.map_append]
        exact hown'
      clear hown' hgrow hat
      go_wp2
      go_ret2
      exact ⟨hb5, .inr ⟨by omega, v', rfl, H5.out⟩⟩

theorem pick_any (n : Int) (m : Nat) (w : World) (h1 : -9223372036854775808 ≤ n) (h2 : n ≤ 9223372036854775807) (hm : 0 < m) (hm2 : m ≤ 549755813888) :
    Calls Tryd.prog 12 #[.int .i64 n, .int .i64 (m : Int)] w fun e w' => e = .returned (.int .i64 (n % (m : Int))) ∧ w' = w := by
  have hm0 : (0 : Int) < (m : Int) := by omega
  have hmz : ¬ (m : Int) = 0 := by omega
  have ht := Int.tmod_add_mul_tdiv n (m : Int)
  have hmod := Int.emod_nonneg n hmz
  have hmod2 := Int.emod_lt_of_pos n hm0
  have key : n.tmod (m : Int) = if 0 ≤ n ∨ n % (m : Int) = 0 then n % (m : Int) else n % (m : Int) - (m : Int) := by
    rw [Int.tmod_eq_emod]
    by_cases hn : 0 ≤ n
    · rw [if_pos (.inl hn), if_pos (.inl hn)]; simp
    · by_cases hd : (m : Int) ∣ n
      · rw [if_pos (.inr hd), if_pos (.inr (Int.emod_eq_zero_of_dvd hd))]; simp
      · rw [if_neg (by rintro (h | h); exact hn h; exact hd h), if_neg (by rintro (h | h); exact hn h; exact hd (Int.dvd_of_emod_eq_zero h))]
        rw [Int.natAbs_natCast]
  go_enter Tryd.func12, Tryd.ntmps12
  generalize n % (m : Int) = r at *
  by_cases hc : 0 ≤ n ∨ r = 0
  · rw [if_pos hc] at key
    have hneg : decide (r < 0) = false := decide_eq_false (by omega)
    clear ht
    go_wp2
    go_ret
    exact ⟨rfl, rfl⟩
  · rw [if_neg hc] at key
    have hneg : r - (m : Int) < 0 := by omega
    clear ht
    go_wp2
    go_ret
    exact ⟨ret_int (by omega), rfl⟩

attribute [local go_sem ↓] neq58 eql58
attribute [local go_sem] guard58
def v0 : V := ⟨0, 0, ⟨#[]⟩⟩
def eqAt (vs us : List V) (i : Nat) : Bool := eqB (vs.getD i v0).k (vs.getD i v0).n (vs.getD i v0).s (us.getD i v0).k (us.getD i v0).n (us.getD i v0).s
def sameV (vs us : List V) : Bool := decide (vs.length = us.length) && (List.range vs.length).all (eqAt vs us)
theorem sameV_no (vs us : List V) (k : Nat) (hk : k < vs.length) (h : eqAt vs us k = false) : sameV vs us = false := by
  unfold sameV
  rw [show (List.range vs.length).all (eqAt vs us) = false from List.all_eq_false.2 ⟨k, List.mem_range.2 hk, by rw [h]; decide⟩, Bool.and_false]
theorem sameV_yes (vs us : List V) (hl : vs.length = us.length) (h : ∀ i, i < vs.length → eqAt vs us i = true) : sameV vs us = true := by
  unfold sameV
  rw [decide_eq_true hl, show (List.range vs.length).all (eqAt vs us) = true from List.all_eq_true.2 fun i hi => h i (List.mem_range.1 hi)]
  rfl
set_option maxHeartbeats 2000000 in
theorem same_gen (vs us : List V) (a1 : Option Addr) (c1 : Nat) (a2 : Option Addr) (c2 : Nat) (w : World) (h1 : VLies w a1 vs) (h2 : VLies w a2 us) (hl : vs.length ≤ 549755813888) (hl2 : us.length ≤ 549755813888) :
    Calls Tryd.prog 21 #[.slice a1 vs.length c1, .slice a2 us.length c2] w fun e w' => e = .returned (.bool (sameV vs us)) ∧ ∃ m, w' = w.drewN m := by
  have H1 : Hid (VLies w a1 vs) := h1
  have H2 : Hid (VLies w a2 us) := h2
  clear h1 h2
  go_enter Tryd.func21, Tryd.ntmps21
  by_cases hne : vs.length = us.length
  · have hnb : ((vs.length : Int) == (us.length : Int)) = true := by simp [hne]
    have HNE : Hid (vs.length = us.length) := hne
    clear hne
    go_wp2
    go_loopw [5] (fun i w' => ∃ k : Nat, k ≤ vs.length ∧ i = .int .i64 k ∧ (∀ i, i < k → eqAt vs us i = true) ∧ ∃ m, w' = w.drewN m) (fun i _ => vs.length - (intOf i).toNat)
    case atStart => exact ⟨0, Nat.zero_le _, rfl, (fun i hi => absurd hi (by omega)), 0, rfl⟩
    case round =>
      obtain ⟨k, hk, rfl, hal, m, rfl⟩ := hrel
      have HAL : Hid (∀ i, i < k → eqAt vs us i = true) := hal
      clear hal
      by_cases hlt : k < vs.length
      · have hki : (k : Int) < (vs.length : Int) := by omega
        have hlt2 : k < us.length := by rw [← HNE.out]; exact hlt
        have hki2 : (k : Int) < (us.length : Int) := by omega
        obtain ⟨b, o, rfl, e1, e2, e3⟩ := H1.out k hlt
        obtain ⟨b', o', rfl, g1, g2, g3⟩ := H2.out k hlt2
        have HEQ : Hid (eqAt vs us k = eqB vs[k].k vs[k].n vs[k].s us[k].k us[k].n us[k].s) := by unfold Hid eqAt; simp [List.getD, hlt, hlt2]
        cases he : eqB vs[k].k vs[k].n vs[k].s us[k].k us[k].n us[k].s
        · have HF : Hid (sameV vs us = false) := sameV_no vs us k hlt (by rw [HEQ.out, he])
          go_wp2
          go_quiet (fail)
          go_wp2
          go_ret
          exact ⟨ret_bool HF.out.symm, m + nq, by simp⟩
        · have HA2 : Hid (∀ i, i < k + 1 → eqAt vs us i = true) := fun i hi => by
            by_cases h : i = k
            · rw [h, HEQ.out, he]
            · exact HAL.out i (by omega)
          go_wp2
          go_quiet (fail)
          go_wp2
          go_roundw
          case rel => exact ⟨k + 1, by omega, by go_num, HA2.out, _, rfl⟩
          case measure => simp [intOf]; omega
      · obtain rfl : k = vs.length := by omega
        have HF : Hid (sameV vs us = true) := sameV_yes vs us HNE.out HAL.out
        go_wp2
        go_ret
        exact ⟨ret_bool HF.out.symm, m, rfl⟩
  · have hnb : ((vs.length : Int) == (us.length : Int)) = false := by rw [beq_eq_false_iff_ne]; omega
    have HF : Hid (sameV vs us = false) := by unfold Hid sameV; rw [decide_eq_false hne]; rfl
    go_wp2
    go_ret
    exact ⟨ret_bool HF.out.symm, 0, rfl⟩

theorem sameV_self (vs : List V) : sameV vs vs = true := sameV_yes vs vs rfl fun i hi => eqB_self _

set_option maxHeartbeats 4000000 in
/-- Two lists of rows: an answer; true if they are the same. -/
theorem sameRows_gen (rs ys : List Rw) (a1 : Option Addr) (c1 : Nat) (a2 : Option Addr) (c2 : Nat) (w : World) (h1 : RLies w a1 rs) (h2 : RLies w a2 ys) (hl : rs.length ≤ 549755813888) (hl2 : ys.length ≤ 549755813888) (hv : ∀ r ∈ rs, r.vs.length ≤ 549755813888) (hv2 : ∀ r ∈ ys, r.vs.length ≤ 549755813888) :
    Calls Tryd.prog 9 #[.slice a1 rs.length c1, .slice a2 ys.length c2] w fun e w' => ∃ b : Bool, e = .returned (.bool b) ∧ Below w.heap.size w w' ∧ (rs = ys → b = true) := by
  have H1 : Hid (RLies w a1 rs) := h1
  have H2 : Hid (RLies w a2 ys) := h2
  have HV : Hid (∀ r ∈ rs, r.vs.length ≤ 549755813888) := hv
  have HV2 : Hid (∀ r ∈ ys, r.vs.length ≤ 549755813888) := hv2
  clear h1 h2 hv hv2
  go_enter Tryd.func9, Tryd.ntmps9
  by_cases hne : rs.length = ys.length
  · have hnb : ((rs.length : Int) == (ys.length : Int)) = true := by simp [hne]
    have HNE : Hid (rs.length = ys.length) := hne
    clear hne
    go_wp2
    go_loopw [5] (fun i w' => ∃ k : Nat, k ≤ rs.length ∧ i = .int .i64 k ∧ Below w.heap.size w w') (fun i _ => rs.length - (intOf i).toNat)
    case atStart => exact ⟨0, Nat.zero_le _, rfl, Below.refl _ _⟩
    case round =>
      obtain ⟨k, hk, rfl, hb⟩ := hrel
      have HB : Hid (Below w.heap.size w wr) := hb
      clear hb
      by_cases hlt : k < rs.length
      · have hki : (k : Int) < (rs.length : Int) := by omega
        have hlt2 : k < ys.length := by rw [← HNE.out]; exact hlt
        have hki2 : (k : Int) < (ys.length : Int) := by omega
        obtain ⟨b, o, av, cv, rfl, e1, e2, e3⟩ := H1.out k hlt
        obtain ⟨b', o', av', cv', rfl, g1, g2, g3⟩ := H2.out k hlt2
        replace e1 := cell_later HB.out e1
        replace e2 := cell_later HB.out e2
        replace g1 := cell_later HB.out g1
        replace g2 := cell_later HB.out g2
        have HC : Hid (∀ q, Calls Tryd.prog 21 #[.slice av rs[k].vs.length cv, .slice av' ys[k].vs.length cv'] (wr.drewN q) fun e w' => e = .returned (.bool (sameV rs[k].vs ys[k].vs)) ∧ ∃ m', w' = (wr.drewN q).drewN m') := fun q =>
          same_gen rs[k].vs ys[k].vs av cv av' cv' (wr.drewN q) (e3.later (below_drewN HB.out q)) (g3.later (below_drewN HB.out q)) (HV.out _ (List.getElem_mem hlt)) (HV2.out _ (List.getElem_mem hlt2))
        have HS : Hid (rs = ys → sameV rs[k].vs ys[k].vs = true ∧ rs[k].t = ys[k].t) := fun h => by subst h; exact ⟨sameV_self _, rfl⟩
        clear e3 g3
        cases hsv : sameV rs[k].vs ys[k].vs
        · rw [hsv] at HC
          have HNo : Hid (¬ rs = ys) := fun h => by have := (HS.out h).1; rw [hsv] at this; cases this
          go_wp2
          go_quiet (first | (go_at_call 21; refine Calls.quiet_of (HC.out _)))
          go_wp2
          go_quiet (fail)
          go_wp2
          go_ret
          exact ⟨false, rfl, below_drewN (below_drewN HB.out _) _, fun h => absurd h HNo.out⟩
        · rw [hsv] at HC
          cases hte : (rs[k].t == ys[k].t)
          · have HNo : Hid (¬ rs = ys) := fun h => by have := (HS.out h).2; rw [this] at hte; simp at hte
            go_wp2
            go_quiet (first | (go_at_call 21; refine Calls.quiet_of (HC.out _)))
            go_wp2
            go_quiet (fail)
            go_wp2
            go_ret
            exact ⟨false, rfl, below_drewN (below_drewN HB.out _) _, fun h => absurd h HNo.out⟩
          · go_wp2
            go_quiet (first | (go_at_call 21; refine Calls.quiet_of (HC.out _)))
            go_wp2
            go_quiet (fail)
            go_wp2
            go_roundw
            case rel => exact ⟨k + 1, by omega, by go_num, below_drewN HB.out _⟩
            case measure => simp [intOf]; omega
      · obtain rfl : k = rs.length := by omega
        go_wp2
        go_ret
        exact ⟨true, rfl, HB.out, fun _ => rfl⟩
  · have hnb : ((rs.length : Int) == (ys.length : Int)) = false := by rw [beq_eq_false_iff_ne]; omega
    have HNo : Hid (¬ rs = ys) := fun h => hne (by rw [h])
    go_wp2
    go_ret
    exact ⟨false, rfl, Below.refl _ _, fun h => absurd h HNo.out⟩
end Go.Proofs.YtafighjlciglpaaDoor
