import Derived.Test.YtobhccmnlmlapaaGreatDoorGs
import Derived.Lib.SlBytesConst
import Derived.Lib.SmallJoins
namespace Go.Proofs.YtobhccmnlmlapaaGreatDoor
open Go.RowKit Go.Maps
set_option linter.unusedVariables false
set_option linter.unusedSimpArgs false
set_option maxRecDepth 100000
def five : List UInt8 := [102, 105, 118, 101]
def oneV : List V := [⟨1, 5, ByteArray.empty⟩]
abbrev oneO : Obj := .cells #[.int .i64 1, .int .i64 5, .string ⟨#[]⟩] 48
abbrev fiveO : Obj := .cells #[.int .u8 102, .int .u8 105, .int .u8 118, .int .u8 101] 5 (4, 5)
theorem one_lies (w : World) : VLies ((w.alloc oneO).alloc fiveO) (some ⟨w.heap.size, 0, none⟩) oneV := fun i hi => by
  have h0 : i = 0 := by simp [oneV] at hi; omega
  subst h0
  refine ⟨w.heap.size, 0, rfl, ?_, ?_, ?_⟩ <;> (refine cell_later (bel1 _ _) ?_; go_simp) <;> rfl
theorem five_lies (w : World) : Wr.Bytes ((w.alloc oneO).alloc fiveO) (some ⟨w.heap.size + 1, 0, none⟩) 4 (Wr.lat five) := fun i hi => by
  refine ⟨w.heap.size + 1, 0, rfl, ?_⟩
  rw [Nat.zero_add, Joins.cell_alloc_mark_at _ _ _ _ _ _ (by simp)]
  have : i = 0 ∨ i = 1 ∨ i = 2 ∨ i = 3 := by omega
  rcases this with rfl | rfl | rfl | rfl <;> rfl
theorem one_good : GoodK oneV := fun v hv => by
  simp [oneV] at hv
  subst hv
  refine ⟨by decide, by decide, ?_⟩
  show ByteArray.empty.size ≤ _
  decide
theorem one_vk : vk oneV = true := by
  rw [vk_iff]
  refine ⟨fun v hv => ?_, by decide⟩
  simp [oneV] at hv
  subst hv
  rfl
theorem one_rng : rngC 0 32 oneV ⟨0, 1⟩ = true := by
  have h := grp_lt oneV
  have hv := one_vk
  unfold rngC ow
  simp [hv, kp]
  omega
set_option maxHeartbeats 4000000 in
theorem moves_walk (xs : List Ox) (a : Option Addr) (c : Nat) (cut : Int) (w : World) (hR : OLies w w.heap.size a xs) (hlen : xs.length ≤ 1048576) (hcut : -9223372036854775808 ≤ cut ∧ cut ≤ 9223372036854775807) (ht : ∀ W, Below w.heap.size w W → Vl.Tab W ∧ Wr.Quart W ∧ Wr.Ety W) :
    Calls Tryz.prog 4 #[.slice a xs.length c, .int .i64 cut] w fun e w' => e = .returned (.bool true) ∧ Below w.heap.size w w' := by
  have HR := hidMk hR
  have HT := hidMk ht
  have HNEW := hidMk (new_ok 0 32 w (by omega))
  clear hR ht
  go_enter Tryz.func4, Tryz.ntmps4
  go_wp2_with fail
  refine HNEW.out.mono ?_
  rintro e w1 ⟨t, mp, rfl, hp1, hb1⟩
  have HP1 := hidMk hp1
  have HB1 := hidMk hb1
  clear hp1 hb1 HNEW
  go_upto_region 4 with fail
  go_cut [43] from 28 (fun s wc => s = .bool (decide (cut < 0 ∨ 32 < cut)) ∧ wc = w1)
  case first =>
    by_cases h1 : cut < 0
    · go_wp2_with fail
      go_meet
      case rel => exact ⟨by simp [h1], rfl⟩
    · by_cases h2 : 32 < cut
      · go_wp2_with fail
        go_meet
        case rel => exact ⟨by simp [h2], rfl⟩
      · go_wp2_with fail
        go_meet
        case rel => exact ⟨by simp [h1, h2], rfl⟩
  obtain ⟨rfl, rfl⟩ := hcut
  go_upto_if 43 with fail
  go_cut [1] from 28 (fun s w2 => ∃ k : Nat, k ≤ 32 ∧ s = .int .i64 (k : Int) ∧ w2 = wc)
  case first =>
    by_cases h1 : cut < 0 ∨ 32 < cut
    · go_wp2_with fail
      go_meet
      case rel => exact ⟨16, by omega, rfl, rfl⟩
    · go_wp2_with fail
      go_meet
      case rel => exact ⟨cut.toNat, by omega, by congr 1; omega, rfl⟩
  case rest =>
    obtain ⟨k, hk, rfl, rfl⟩ := hcut
    rename_i hcut0
    have hb2 : Below wc.heap.size wc ((wc.alloc oneO).alloc fiveO) := (bel1 _ _).alloc (by simp) _
    have HB2 := hidMk (HB1.out.trans (hb2.mono HB1.out.size))
    have hpt : t < wc.heap.size := HP1.out.own.lt
    have hpm : mp < wc.heap.size := HP1.out.mpo.lt
    have hcv := Joins.run_convert_bytes_const_at (P := Tryz.prog) (wc.alloc oneO) 39 5 #[.int .u8 102, .int .u8 105, .int .u8 118, .int .u8 101] 4 4 (wc.heap.size + 1) (by simp) Tryz.underlying39 Tryz.underlying5
    have HPU := hidMk (put_any oneV (some ⟨wc.heap.size, 0, none⟩) 1 ⟨0, 1⟩ (some ⟨wc.heap.size + 1, 0, none⟩) five 4 _ w.heap.size t mp 0 32 [] (HP1.out.later hb2) (one_lies wc) one_good (by decide) (by unfold Fits; decide) (HT.out _ HB2.out).1 (by decide) (five_lies wc) (fun y hy _ => by cases hy; simp; omega) (fun y hy _ => by cases hy; simp; omega))
    clear hb2
    go_wp2_with fail
    refine HPU.out.mono ?_
    rintro e w3 hans
    have hfin : e = .returned .nilIface ∧ PutFin ((wc.alloc oneO).alloc fiveO) w.heap.size t mp 0 32 [] ⟨oneV, ⟨0, 1⟩, five⟩ w3 := by
      rcases hans with ⟨h, -⟩ | ⟨-, h, -⟩ | ⟨-, -, h⟩
      · rw [one_rng] at h; cases h
      · exact absurd h (by simp only; decide)
      · exact h
    obtain ⟨rfl, hf⟩ := hfin
    have HS0 : Hid (∃ ss, PS w3 w.heap.size t mp 0 32 ss ∧ ces ss ≠ [] ∧ Below w.heap.size w w3) := by
      have hbf := hf.below (HP1.out.later ((bel1 wc oneO).alloc (by simp) fiveO)) (Nat.le_refl w.heap.size)
      obtain ⟨ss, f1, f2, -, -⟩ := hf
      refine ⟨ss, f1, fun e => ?_, HB2.out.trans hbf⟩
      rw [e] at f2
      exact putC_ne _ _ f2.symm.eq_nil
    clear hans hf HPU hcv
    go_upto_block 0 with fail
    go_cut [] from 28 (fun w4 => ∃ ss, PS w4 w.heap.size t mp 0 32 ss ∧ ces ss ≠ [] ∧ Below w.heap.size w w4)
    case rest =>
      apply_assumption
      obtain ⟨ss, f1, f2, f3⟩ := hcut
      exact moves_t1 w _ k t mp w.heap.size ss hk f1 f2 f3 HT.out _ _ _ _ _ _ _ _ _ _ _ _ _ _ _ _ _ _ _ _ _ _ _ _ _ _ _ _ _ _ _ _ _ _ _ _ _ _ _ _ _ _ _ _ _ _ _ _ _ _ _ _ _ _ _ _ _ _ _ _ _ _ _ _ _ _ _ _ _ _ _ _ _ _ _ _ _ _ _ _ _ _ _ _ _ _ _ _ _ _ _ _ _ _ _ _ _ _ _ _ _ _ _ _ _ _ _ _ _ _ _ _ _ _ _ _ _ _ _ _ _ _ _ _ _ _ _ _ _ _ _ _ _ _ _ _ _ _ _ _ _ _ _ _ _ _ _ _ _ _ _ _ _ _ _ _ _ _ _ _ _ _ _ _ _ _ _ _ _ _ _ _ _ _ _ _ _ _ _
    case first =>
      go_wp2_with fail
      go_loopw [8] (fun i wr => ∃ (j : Nat) (ss : List Sh), i = .int .i64 (j : Int) ∧ j ≤ xs.length ∧ PS wr w.heap.size t mp 0 32 ss ∧ ces ss ≠ [] ∧ Below w.heap.size w wr) (fun i _ => xs.length - (intOf i).toNat)
      case atStart => obtain ⟨ss, f1, f2, f3⟩ := HS0.out; exact ⟨0, ss, rfl, by omega, f1, f2, f3⟩
      case round =>
        obtain ⟨j, ss, rfl, hj, f1, f2, f3⟩ := hrel
        have HF1 := hidMk f1
        have HF2 := hidMk f2
        have HF3 := hidMk f3
        clear f1 f2 f3 HS0
        by_cases hlt : j < xs.length
        · have hji : (j : Int) < (xs.length : Int) := by omega
          have hL := HR.out.kept HF3.out
          obtain ⟨b, off, rfl, -, o0, o1, o2, o3, o4, o5⟩ := hL.row j hlt
          have hE := hL.ent xs[j] (List.getElem_mem hlt)
          have HEN := hidMk hE
          clear hL hE
          generalize xs[j] = x at *
          have hbo := bel1 wr (.cells #[.int .i64 x.kd, .slice x.ka x.key.length x.kc, .int .i64 x.wn.f, .int .i64 x.wn.t, .slice x.da x.d.length x.dc, .int .i64 x.tm] 41)
          have HBO := hidMk (HF3.out.trans (hbo.mono HF3.out.size))
          have HFO := hidMk (HF1.out.later hbo)
          have hEO := HEN.out.kept (hbo.mono HF3.out.size)
          have hge := HF1.out.ge
          have HPX := hidMk (put_any x.key x.ka x.kc x.wn x.da x.d x.dc _ w.heap.size t mp 0 32 ss HFO.out hEO.key hEO.good (by have := hEO.kl; omega) hEO.fits (HT.out _ HBO.out).1 (by have := hEO.dl; omega) hEO.dat (fun y hy hp => by have := hEO.kb y hy hp; omega) (fun y hy hp => by have := hEO.db y hy hp; omega))
          clear hbo hEO hge
          go_wp2_with fail
          refine HPX.out.mono ?_
          rintro e w4 hans
          clear HPX
          rcases hans with ⟨-, rfl, hb4⟩ | ⟨-, -, rfl, hb4⟩ | ⟨-, -, rfl, hf4⟩
          · have HB4 := hidMk (HBO.out.trans (hb4.mono HBO.out.size))
            have HF4 := hidMk (HFO.out.later hb4)
            have HTo := hidMk (Wr.told_any 4 w4 (HT.out _ HB4.out).2.2)
            clear hb4
            go_wp2_with fail
            refine HTo.out.mono ?_
            rintro e w5 ⟨rfl, hb5⟩
            have HB5 := hidMk (HB4.out.trans (hb5.mono HB4.out.size))
            have HF5 := hidMk (HF4.out.later hb5)
            clear hb5 HTo
            go_wp2_with fail
            exact ⟨⟨j + 1, ss, by go_num, by omega, HF5.out, HF2.out, HB5.out⟩, by simp [intOf]; omega⟩
          · have HB4 := hidMk (HBO.out.trans (hb4.mono HBO.out.size))
            have HTo := hidMk (Wr.told_any 5 w4 (HT.out _ HB4.out).2.2)
            clear hb4
            go_wp2_with fail
            refine HTo.out.mono ?_
            rintro e w5 ⟨rfl, hb5⟩
            have HB5 := hidMk (HB4.out.trans (hb5.mono HB4.out.size))
            clear hb5 HTo
            go_wp2_with fail
            go_ret
            exact ⟨rfl, HB5.out⟩
          · have HB4 := hidMk (HBO.out.trans (hf4.below HFO.out (Nat.le_refl w.heap.size)))
            obtain ⟨ss', q1, q2, -, -⟩ := hf4
            have HF4 := hidMk q1
            have HN4 : Hid (ces ss' ≠ []) := fun e => by rw [e] at q2; exact putC_ne _ _ q2.symm.eq_nil
            have HTo := hidMk (Wr.told_nil w4)
            clear q1 q2
            go_wp2_with fail
            refine HTo.out.mono ?_
            rintro e w5 ⟨rfl, rfl⟩
            clear HTo
            go_wp2_with fail
            exact ⟨⟨j + 1, ss', by go_num, by omega, HF4.out, HN4.out, HB4.out⟩, by simp [intOf]; omega⟩
        · obtain rfl : j = xs.length := by omega
          go_wp2_with fail
          go_meet
          case rel => exact ⟨ss, HF1.out, HF2.out, HF3.out⟩
end Go.Proofs.YtobhccmnlmlapaaGreatDoor
