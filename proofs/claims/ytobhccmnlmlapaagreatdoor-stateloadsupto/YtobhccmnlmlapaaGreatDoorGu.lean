import Derived.Test.YtobhccmnlmlapaaGreatDoorQRdV
import Derived.Test.YtobhccmnlmlapaaGreatDoorQBkP
import Derived.Test.YtobhccmnlmlapaaGreatDoorGm
import Derived.Test.YtobhccmnlmlapaaGreatDoorGf
namespace Go.Proofs.YtobhccmnlmlapaaGreatDoor.Wr
open Go.RowKit
set_option linter.unusedVariables false
set_option maxRecDepth 100000
attribute [local go_sem ↓] neq58 eql58
attribute [local go_sem] guard58

theorem eqB_self (v : V) : eqB v.k v.n v.s v.k v.n v.s = true := by unfold eqB; simp

set_option maxHeartbeats 2000000 in
/-- Lists of the same values are the same. -/
theorem same_any (vs : List V) (a1 : Option Addr) (c1 : Nat) (a2 : Option Addr) (c2 : Nat) (w : World) (h1 : VLies w a1 vs) (h2 : VLies w a2 vs) (hl : vs.length ≤ 549755813888) :
    Calls Tryz.prog 56 #[.slice a1 vs.length c1, .slice a2 vs.length c2] w fun e w' => e = .returned (.bool true) ∧ ∃ m, w' = w.drewN m := by
  have H1 : Hid (VLies w a1 vs) := h1
  have H2 : Hid (VLies w a2 vs) := h2
  clear h1 h2
  go_enter Tryz.func56, Tryz.ntmps56
  go_wp2
  go_loopw [5] (fun i w' => ∃ k : Nat, k ≤ vs.length ∧ i = .int .i64 k ∧ ∃ m, w' = w.drewN m) (fun i _ => vs.length - (intOf i).toNat)
  case atStart => exact ⟨0, Nat.zero_le _, rfl, 0, rfl⟩
  case round =>
    obtain ⟨k, hk, rfl, m, rfl⟩ := hrel
    by_cases hlt : k < vs.length
    · have hki : (k : Int) < (vs.length : Int) := by omega
      obtain ⟨b, o, rfl, e1, e2, e3⟩ := H1.out k hlt
      obtain ⟨b', o', rfl, g1, g2, g3⟩ := H2.out k hlt
      have he := eqB_self vs[k]
      go_wp2
      go_quiet (fail)
      go_wp2
      go_roundw
      case rel => exact ⟨k + 1, by omega, by go_num, _, rfl⟩
      case measure => simp [intOf]; omega
    · obtain rfl : k = vs.length := by omega
      go_wp2
      go_ret
      exact ⟨rfl, m, rfl⟩

end Go.Proofs.YtobhccmnlmlapaaGreatDoor.Wr
namespace Go.Proofs.YtobhccmnlmlapaaGreatDoor.Wr
open Go.RowKit
set_option linter.unusedVariables false
set_option maxRecDepth 100000

set_option maxHeartbeats 1000000 in
theorem putWord_any (v : Value) (l : List UInt8) (n : Nat) (B : Nat) (w : World) (hown : OL w B v l) (hB : B ≤ w.heap.size) (hn : n < 4294967296) (hl : l.length ≤ 549755813888) :
    Calls Tryz.prog 91 #[v, .int .u32 (n : Int)] w fun e w' => ∃ v', e = .returned v' ∧ OL w' B v' (l ++ w4 n) ∧ Below B w w' := by
  obtain ⟨i0, hi0, hz0, hz1, hz2⟩ := info_parts info5
  have p0 : (0 : Int) ≤ (n : Int) := by omega
  have p1 : (n : Int) < 4294967296 := by omega
  have HO : Hid (OL w B v l) := hown
  clear hown
  go_enter Tryz.func91, Tryz.ntmps91
  go_wp2_with (first
    | (at_builtin; refine wpList_append_own_at _ rfl _ _ 39 rfl B 5 i0 (.int .u8 0) 1 1 Tryz.underlying39 hi0 hz0 hz1 hz2 rfl (by decide) _ l.length (l.map u8v) rfl (World.ownsRow.alloc HO.out _) ⟨w.heap.size, 0, none⟩ 4 4 ((w4 n).map u8v) rfl rfl ?c1 ?c2 ?c3 ?c4 ?c5 ?_))
  case c1 =>
    intro j u hj
    have h8 : ∀ m : Nat, UInt8.toNat (UInt8.ofNat m) = m % 256 := fun m => UInt8.toNat_ofNat'
    match j, hj with
    | 0, hj => simp [w4, u8v, wb, h8] at hj; subst hj; simp [Addr.add]; omega
    | 1, hj => simp [w4, u8v, wb, h8] at hj; subst hj; simp [Addr.add]
    | 2, hj => simp [w4, u8v, wb, h8] at hj; subst hj; simp [Addr.add]
    | 3, hj => simp [w4, u8v, wb, h8] at hj; subst hj; simp [Addr.add]
  case c2 => intro u hu; obtain ⟨z, _, rfl⟩ := List.mem_map.1 hu; rfl
  case c3 => unfold maxLen; omega
  case c4 => omega
  case c5 => simp; omega
  · intro v' w5 hown' hgrow _ hat
    have hb5 : Below B w w5 := ((Below.refl B w).alloc hB _).grown hgrow (by simp; omega) (fun k hk => (World.ownsRow.lt HO.out k hk).1)
    have H5 : Hid (OL w5 B v' (l ++ w4 n)) := by
      unfold Hid OL
      rw [List.length_append, w4_len, List.map_append]
      exact hown'
    clear hown' hgrow hat
    go_wp2
    go_ret
    exact ⟨v', rfl, H5.out, hb5⟩

set_option maxHeartbeats 2000000 in
theorem seal_any (b off len cap : Nat) (f : Nat → UInt8) (w : World) (hl : Bytes w (some ⟨b, off, none⟩) len f) (hm : len ≤ 549755813888) (hq : Quart w) :
    Calls Tryz.prog 63 #[.slice (some ⟨b, off, none⟩) len cap] w fun e w' => Below w.heap.size w w' ∧ ((134217728 < len ∧ e = .returned (.tuple #[.slice none 0 0, errV 5])) ∨ (len ≤ 134217728 ∧ ∃ v', e = .returned (.tuple #[v', .nilIface]) ∧ OL w' w.heap.size v' (sealed (blist f len)))) := by
  obtain ⟨i0, hi0, hz0, hz1, hz2⟩ := info_parts info5
  have HL : Hid (Bytes w (some ⟨b, off, none⟩) len f) := hl
  have HQ : Hid (Quart w) := hq
  clear hl hq
  go_enter Tryz.func63, Tryz.ntmps63
  by_cases hbig : 134217728 < len
  · have hbi : (134217728 : Int) < (len : Int) := by omega
    go_wp2
    go_ret2
    exact ⟨Below.refl _ _, .inl ⟨hbig, rfl⟩⟩
  · have hbi : ¬ (134217728 : Int) < (len : Int) := by omega
    have hmk : ∀ W : World, (Instr.makeSlice 39 (.int .i64 0) (.int .i64 (8 + (len : Int)))).run Tryz.prog W = .ok (.slice (some ⟨W.heap.size, 0, none⟩) 0 (8 + len)) (W.alloc (.cells (madeCells #[.int .u8 0] (8 + len)) 5)) := fun W => by
      have := run_make (P := Tryz.prog) W 39 5 i0 (.int .u8 0) Tryz.underlying39 hi0 hz0 .i64 .i64 0 (8 + (len : Int)) (by omega) (by omega) (by rw [hz2]; omega) (by omega)
      rw [this, hz1]
      rw [show (8 + (len : Int)).toNat = 8 + len by omega, Nat.mul_one]
      rfl
    have hO0 : OL (w.alloc (.cells (madeCells #[.int .u8 0] (8 + len)) 5)) w.heap.size (.slice (some ⟨w.heap.size, 0, none⟩) 0 (8 + len)) [] := by
      refine ⟨rfl, .inr ⟨w.heap.size, 8 + len, _, rfl, Nat.le_refl _, heap_alloc_new w _, Nat.zero_le _, by unfold maxLen; omega, by simp [madeCells], by simp⟩⟩
    have HO0 : Hid (OL (w.alloc (.cells (madeCells #[.int .u8 0] (8 + len)) 5)) w.heap.size (.slice (some ⟨w.heap.size, 0, none⟩) 0 (8 + len)) []) := hO0
    clear hO0
    have hl32 : (len : Int) < 4294967296 := by omega
    go_wp2_with fail
    refine (putWord_any _ [] len w.heap.size _ HO0.out (by simp) (by omega) (by simp)).mono ?_
    rintro e w1 ⟨v1, rfl, ho1, hb1⟩
    have H1 : Hid (OL w1 w.heap.size v1 (w4 len)) := by rw [List.nil_append] at ho1; exact ho1
    have HB1 : Hid (Below w.heap.size w w1) := (bel1 _ _).trans hb1
    have hs1 := HB1.out.size
    clear ho1 hb1 hmk HO0
    go_wp2_with fail
    refine (sum_any (some ⟨b, off, none⟩) len cap f w1 (HL.out.later HB1.out) (by unfold maxLen; omega) (HQ.out.later HB1.out)).mono ?_
    rintro e w2 ⟨rfl, rfl⟩
    have hsl := sumN_lt f len
    go_wp2_with fail
    refine (putWord_any v1 (w4 len) (sumN f len) w.heap.size w2 H1.out hs1 hsl (by rw [w4_len]; omega)).mono ?_
    rintro e w3 ⟨v3, rfl, ho3, hb3⟩
    have H3 : Hid (OL w3 w.heap.size v3 (w4 len ++ w4 (sumN f len))) := ho3
    have HB3 : Hid (Below w.heap.size w w3) := HB1.out.trans hb3
    have hs3 := HB3.out.size
    have HE : Hid ((w4 len ++ w4 (sumN f len)) ++ blist f len = sealed (blist f len)) := by
      unfold Hid sealed
      rw [blist_len, List.append_assoc, sumN_congr (lat (blist f len)) f len (fun i hi => by simp [lat, blist, hi])]
    have hl8 : (w4 len ++ w4 (sumN f len)).length = 8 := rfl
    clear ho3 hb3 H1 HB1
    have HL3 : Hid (Bytes w3 (some ⟨b, off, none⟩) len f) := HL.out.later HB3.out
    go_wp2_with (first
      | (at_builtin; refine wpList_append_own_at _ rfl _ _ 39 rfl w.heap.size 5 i0 (.int .u8 0) 1 1 Tryz.underlying39 hi0 hz0 hz1 hz2 rfl (by decide) _ 8 ((w4 len ++ w4 (sumN f len)).map u8v) rfl H3.out ⟨b, off, none⟩ len cap ((blist f len).map u8v) rfl (by rw [List.length_map, blist_len]; omega) ?c1 ?c2 ?c3 ?c4 ?c5 ?_))
    case c1 =>
      intro j u hj
      have hj' : j < len := by
        have := (List.getElem?_eq_some_iff.1 hj).1
        rw [List.length_map, blist_len] at this
        exact this
      obtain ⟨b', o', e, hc⟩ := HL3.out j hj'
      cases e
      rw [WideShapes.add_plain, hc]
      rw [← hj]
      simp [blist, hj', u8v]
    case c2 => intro u hu; obtain ⟨z, _, rfl⟩ := List.mem_map.1 hu; rfl
    case c3 => unfold maxLen; omega
    case c4 => omega
    case c5 => exact hs3
    · intro v' w5 hown' hgrow _ hat
      have hb5 : Below w.heap.size w w5 := HB3.out.grown hgrow hs3 (fun k hk => (World.ownsRow.lt H3.out k hk).1)
      have H5 : Hid (OL w5 w.heap.size v' (sealed (blist f len))) := by
        unfold Hid OL
        rw [← HE.out, List.length_append, hl8, blist_len, List.map_append]
        exact hown'
      clear hown' hgrow hat
      go_wp2
      go_ret2
      exact ⟨hb5, .inr ⟨by omega, v', rfl, H5.out⟩⟩

attribute [local go_sem ↓] neq58 eql58
attribute [local go_sem] guard58
def v0 : V := ⟨0, 0, ⟨#[]⟩⟩
def eqAt (vs us : List V) (i : Nat) : Bool := eqB (vs.getD i v0).k (vs.getD i v0).n (vs.getD i v0).s (us.getD i v0).k (us.getD i v0).n (us.getD i v0).s
def sameV (vs us : List V) : Bool := decide (vs.length = us.length) && (List.range vs.length).all (eqAt vs us)
theorem sameV_no (vs us : List V) (k : Nat) (hk : k < vs.length) (h : eqAt vs us k = false) : sameV vs us = false := by
  unfold sameV
  rw [show (List.range vs.length).all (eqAt vs us) = false from List.all_eq_false.2 ⟨k, List.mem_range.2 hk, by rw [h]; decide⟩, Bool.and_false]
theorem sameV_yes (vs us : List V) (hl : vs.length = us.length) (h : ∀ i, i < vs.length → eqAt vs us i = true) : sameV vs us = true := by
  unfold sameV
  rw [decide_eq_true hl, show (List.range vs.length).all (eqAt vs us) = true from List.all_eq_true.2 fun i hi => h i (List.mem_range.1 hi)]
  rfl
set_option maxHeartbeats 2000000 in
theorem same_gen (vs us : List V) (a1 : Option Addr) (c1 : Nat) (a2 : Option Addr) (c2 : Nat) (w : World) (h1 : VLies w a1 vs) (h2 : VLies w a2 us) (hl : vs.length ≤ 549755813888) (hl2 : us.length ≤ 549755813888) :
    Calls Tryz.prog 56 #[.slice a1 vs.length c1, .slice a2 us.length c2] w fun e w' => e = .returned (.bool (sameV vs us)) ∧ ∃ m, w' = w.drewN m := by
  have H1 : Hid (VLies w a1 vs) := h1
  have H2 : Hid (VLies w a2 us) := h2
  clear h1 h2
  go_enter Tryz.func56, Tryz.ntmps56
  by_cases hne : vs.length = us.length
  · have hnb : ((vs.length : Int) == (us.length : Int)) = true := by simp [hne]
    have HNE : Hid (vs.length = us.length) := hne
    clear hne
    go_wp2
    go_loopw [5] (fun i w' => ∃ k : Nat, k ≤ vs.length ∧ i = .int .i64 k ∧ (∀ i, i < k → eqAt vs us i = true) ∧ ∃ m, w' = w.drewN m) (fun i _ => vs.length - (intOf i).toNat)
    case atStart => exact ⟨0, Nat.zero_le _, rfl, (fun i hi => absurd hi (by omega)), 0, rfl⟩
    case round =>
      obtain ⟨k, hk, rfl, hal, m, rfl⟩ := hrel
      have HAL : Hid (∀ i, i < k → eqAt vs us i = true) := hal
      clear hal
      by_cases hlt : k < vs.length
      · have hki : (k : Int) < (vs.length : Int) := by omega
        have hlt2 : k < us.length := by rw [← HNE.out]; exact hlt
        have hki2 : (k : Int) < (us.length : Int) := by omega
        obtain ⟨b, o, rfl, e1, e2, e3⟩ := H1.out k hlt
        obtain ⟨b', o', rfl, g1, g2, g3⟩ := H2.out k hlt2
        have HEQ : Hid (eqAt vs us k = eqB vs[k].k vs[k].n vs[k].s us[k].k us[k].n us[k].s) := by unfold Hid eqAt; simp [List.getD, hlt, hlt2]
        cases he : eqB vs[k].k vs[k].n vs[k].s us[k].k us[k].n us[k].s
        · have HF : Hid (sameV vs us = false) := sameV_no vs us k hlt (by rw [HEQ.out, he])
          go_wp2
          go_quiet (fail)
          go_wp2
          go_ret
          exact ⟨ret_bool HF.out.symm, m + nq, by simp⟩
        · have HA2 : Hid (∀ i, i < k + 1 → eqAt vs us i = true) := fun i hi => by
            by_cases h : i = k
            · rw [h, HEQ.out, he]
            · exact HAL.out i (by omega)
          go_wp2
          go_quiet (fail)
          go_wp2
          go_roundw
          case rel => exact ⟨k + 1, by omega, by go_num, HA2.out, _, rfl⟩
          case measure => simp [intOf]; omega
      · obtain rfl : k = vs.length := by omega
        have HF : Hid (sameV vs us = true) := sameV_yes vs us HNE.out HAL.out
        go_wp2
        go_ret
        exact ⟨ret_bool HF.out.symm, m, rfl⟩
  · have hnb : ((vs.length : Int) == (us.length : Int)) = false := by rw [beq_eq_false_iff_ne]; omega
    have HF : Hid (sameV vs us = false) := by unfold Hid sameV; rw [decide_eq_false hne]; rfl
    go_wp2
    go_ret
    exact ⟨ret_bool HF.out.symm, 0, rfl⟩

theorem sameV_self (vs : List V) : sameV vs vs = true := sameV_yes vs vs rfl fun i hi => eqB_self _

end Go.Proofs.YtobhccmnlmlapaaGreatDoor.Wr
namespace Go.Proofs.YtobhccmnlmlapaaGreatDoor.Wr
open Go.RowKit
set_option linter.unusedVariables false
set_option maxRecDepth 100000

set_option maxHeartbeats 4000000 in
theorem open_in2 (b o len cap k : Nat) (f : Nat → UInt8) (w : World) (hl : Bytes w (some ⟨b, o, none⟩) len f) (hc : len ≤ cap) (hm : cap ≤ 9223372036854775807) (hml : len ≤ 140737488355328) (hk : k + 8 ≤ len) (hq : Quart w) :
    Calls Tryz.prog 68 #[.slice (some ⟨b, o, none⟩) len cap, .int .i64 (k : Int)] w fun e w' => Below w.heap.size w w' ∧
      ((opnE f len k ≠ 0 ∧ e = .returned (.tuple #[.slice none 0 0, .int .i64 0, .iface 28 (.int .i64 (opnE f len k : Nat))])) ∨
       (opnE f len k = 0 ∧ ∃ v' n, n = (wordN fun i => f (k + i)) ∧ k + 8 + n ≤ len ∧ n ≤ 134217728 ∧ e = .returned (.tuple #[v', .int .i64 ((k + 8 + n : Nat) : Int), .nilIface]) ∧ w'.ownsRow w.heap.size 5 1 v' n ((List.range n).map fun i => u8v (f (k + 8 + i))))) := by
  have HB1 := hl.from k (len - k) (by omega)
  have HB2 := hl.from (k + 4) (len - (k + 4)) (by omega)
  have HE : Hid (_) := opnE_in f len k hk
  have hn1 := wordN_lt fun i => f (k + i)
  have hn2 := wordN_lt fun i => f (k + 4 + i)
  have W1 := fun W hW => word_any (some ⟨b, o + k, none⟩) (len - k) (cap - k) (fun i => f (k + i)) W hW (by omega) (by unfold maxLen; omega)
  have W2 := fun W hW => word_any (some ⟨b, o + (k + 4), none⟩) (len - (k + 4)) (cap - (k + 4)) (fun i => f (k + 4 + i)) W hW (by omega) (by unfold maxLen; omega)
  generalize wordN (fun i => f (k + i)) = n at *
  generalize wordN (fun i => f (k + 4 + i)) = s at *
  have W1' : Hid (∀ m, Calls Tryz.prog 95 #[.slice (some ⟨b, o + k, none⟩) (len - k) (cap - k)] (w.drewN m) fun e w' => e = .returned (.int .u32 (n : Int)) ∧ ∃ q, w' = (w.drewN m).drewN q) := fun m => W1 _ (HB1.later (below_drewN (Below.refl _ _) _))
  have W2' : Hid (∀ m, Calls Tryz.prog 95 #[.slice (some ⟨b, o + (k + 4), none⟩) (len - (k + 4)) (cap - (k + 4))] (w.drewN m) fun e w' => e = .returned (.int .u32 (s : Int)) ∧ ∃ q, w' = (w.drewN m).drewN q) := fun m => W2 _ (HB2.later (below_drewN (Below.refl _ _) _))
  clear W1 W2 HB1 HB2
  have HL : Hid (Bytes w (some ⟨b, o, none⟩) len f) := hl
  have HQ : Hid (Quart w) := hq
  have k0 : (0 : Int) ≤ (k : Int) := by omega
  have k1 : ¬ ((len : Int) - 8 < (k : Int)) := by omega
  have k2 : (k : Int) ≤ (len : Int) := by omega
  have k3 : (k : Int) + 4 ≤ (len : Int) := by omega
  have k4 : (k : Int) + 8 ≤ (len : Int) := by omega
  have k5 : (len : Int) ≤ (cap : Int) := by omega
  have k6 : (cap : Int) ≤ 9223372036854775807 := by omega
  have k7 : (len : Int) ≤ 140737488355328 := by omega
  clear hl hq
  go_enter Tryz.func68, Tryz.ntmps68
  go_wp2
  go_quiet (first | (go_at_call_has 95 (len - k); refine Calls.quiet_of (W1'.out _)) | (go_at_call_has 95 (len - (k + 4)); refine Calls.quiet_of (W2'.out _)))
  clear W1' W2'
  have hA : ∃ o', (if cap = k + 8 then some (Addr.mk b o none) else some (Addr.mk b (o + (k + 8)) none)) = some (Addr.mk b o' none) ∧ Bytes w (some ⟨b, o', none⟩) (len - (k + 8)) fun i => f (k + 8 + i) := by
    by_cases hck : cap = k + 8
    · exact ⟨o, by rw [if_pos hck], fun i hi => absurd hi (by omega)⟩
    · exact ⟨o + (k + 8), by rw [if_neg hck], HL.out.from (k + 8) (len - (k + 8)) (by omega)⟩
  obtain ⟨o', eA, hR⟩ := hA
  rw [eA]
  clear eA HL
  have HR : Hid (Bytes (w.drewN nq) (some ⟨b, o', none⟩) (len - (k + 8)) fun i => f (k + 8 + i)) := hR.later (below_drewN (Below.refl _ _) _)
  have HQ' : Hid (Quart (w.drewN nq)) := HQ.out.later (below_drewN (Below.refl _ _) _)
  clear hR HQ
  by_cases g1 : (134217728 : Int) < (n : Int)
  · have he : Hid (opnE f len k = 7) := by rw [Hid, HE.out, if_pos (by omega)]
    go_wp2
    go_ret3
    rw [he.out]
    exact ⟨below_drewN (Below.refl _ _) _, .inl ⟨by decide, rfl⟩⟩
  have g1' : (n : Int) ≤ 134217728 := by omega
  by_cases g2 : ((len - (k + 8) : Nat) : Int) < (n : Int)
  · have he : Hid (opnE f len k = 7) := by rw [Hid, HE.out, if_pos (by omega)]
    go_wp2
    go_ret3
    rw [he.out]
    exact ⟨below_drewN (Below.refl _ _) _, .inl ⟨by decide, rfl⟩⟩
  have g2' : (n : Int) ≤ ((len - (k + 8) : Nat) : Int) := by omega
  have g3 : ((len - (k + 8) : Nat) : Int) ≤ ((cap - (k + 8) : Nat) : Int) := by omega
  have HE' : Hid (opnE f len k = if sumN (fun i => f (k + 8 + i)) n = s then 0 else 8) := by rw [Hid, HE.out, if_neg (by omega)]
  clear HE
  go_wp2_with fail
  refine (sum_any (some ⟨b, o', none⟩) n (cap - (k + 8)) (fun i => f (k + 8 + i)) _ (fun i hi => HR.out i (by omega)) (by unfold maxLen; omega) HQ'.out).mono ?_
  rintro e w1 ⟨rfl, e1⟩
  have e1' := e1.symm
  subst e1'
  clear e1
  by_cases hs : sumN (fun i => f (k + 8 + i)) n = s
  · have he : Hid (opnE f len k = 0) := by rw [Hid, HE'.out, if_pos hs]
    rw [hs]
    clear HE' HQ'
    go_wp2_with fail
    refine (Tryz.bytes_Clone_at ⟨b, o', none⟩ n (cap - (k + 8)) ((List.range n).map fun i => ((f (k + 8 + i)).toNat : Int)) _ (by simp) (by omega) ?_).mono ?_
    · intro i hi
      obtain ⟨b', o2, e, hc⟩ := HR.out i (by omega)
      cases e
      rw [WideShapes.add_plain, hc]
      simp [hi]
    rintro e w1 ⟨v', rfl, hown, -, hB⟩
    have HO : Hid (w1.ownsRow w.heap.size 5 1 v' n ((List.range n).map fun i => u8v (f (k + 8 + i)))) := by
      unfold Hid
      rw [List.map_map] at hown
      exact hown
    have HB : Hid (Below w.heap.size w w1) := (below_drewN (Below.refl _ _) nq).trans hB
    clear hown hB HR
    go_wp2
    go_ret3
    refine ⟨HB.out, .inr ⟨he.out, v', n, rfl, by omega, by omega, ?_, HO.out⟩⟩
    rw [show ((k + 8 + n : Nat) : Int) = (k : Int) + 8 + (n : Int) by omega]
    rfl
  · have he : Hid (opnE f len k = 8) := by rw [Hid, HE'.out, if_neg hs]
    have hs' : ¬ ((sumN (fun i => f (k + 8 + i)) n : Nat) : Int) = (s : Int) := by omega
    clear HE' HQ'
    go_wp2
    go_ret3
    rw [he.out]
    exact ⟨below_drewN (Below.refl _ _) _, .inl ⟨by decide, rfl⟩⟩

theorem open_any2 (a : Option Addr) (len cap : Nat) (f : Nat → UInt8) (at_ : Int) (w : World) (hl : Bytes w a len f) (hc : len ≤ cap) (hm : cap ≤ 9223372036854775807) (hml : len ≤ 140737488355328) (ha1 : -9223372036854775808 ≤ at_) (ha2 : at_ ≤ 9223372036854775807) (hq : Quart w) :
    Calls Tryz.prog 68 #[.slice a len cap, .int .i64 at_] w fun e w' => Below w.heap.size w w' ∧ ∃ v', e = .returned (.tuple #[v', .int .i64 (opnT f len at_), errV (opnE f len at_)]) ∧
      w'.ownsRow w.heap.size 5 1 v' (opnN f len at_) ((List.range (opnN f len at_)).map fun i => u8v (opnF f at_ i)) := by
  by_cases ho : at_ < 0 ∨ (len : Int) < at_ + 8
  · have he := opnE_out f len at_ ho
    refine (open_out a len cap f at_ w (by omega) ha1 ha2 ho).mono ?_
    rintro e w' ⟨rfl, rfl⟩
    refine ⟨Below.refl _ _, .slice none 0 0, ?_, ?_⟩
    · unfold opnT errV; rw [he, if_neg (by decide), if_neg (by decide)]; rfl
    · unfold opnN; rw [he, if_neg (by decide)]; exact World.ownsRow_nil _ _ _ _
  · obtain ⟨k, rfl⟩ : ∃ k : Nat, at_ = (k : Int) := ⟨at_.toNat, by omega⟩
    obtain ⟨b, o, rfl, -⟩ := hl 0 (by omega)
    refine (open_in2 b o len cap k f w hl hc hm hml (by omega) hq).mono ?_
    rintro e w' ⟨hB, h⟩
    refine ⟨hB, ?_⟩
    rcases h with ⟨he, rfl⟩ | ⟨he, v', n, rfl, h1, h2, rfl, hown⟩
    · refine ⟨.slice none 0 0, ?_, ?_⟩
      · unfold opnT errV; rw [if_neg he, if_neg he]
      · unfold opnN; rw [if_neg he]; exact World.ownsRow_nil _ _ _ _
    · refine ⟨v', ?_, ?_⟩
      · unfold opnT errV opnN; rw [if_pos he, if_pos he, if_pos he]
        simp only [Int.toNat_natCast]
        rw [show ((k + 8 + (wordN fun i => f (k + i)) : Nat) : Int) = (k : Int) + 8 + ((wordN fun i => f (k + i) : Nat) : Int) by omega]
      · unfold opnN opnF; rw [if_pos he]
        simp only [Int.toNat_natCast]
        exact hown


end Go.Proofs.YtobhccmnlmlapaaGreatDoor.Wr
