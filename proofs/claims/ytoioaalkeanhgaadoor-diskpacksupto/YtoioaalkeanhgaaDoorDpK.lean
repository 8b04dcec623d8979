import Derived.Test.YtoioaalkeanhgaaDoorDpJ
import Derived.Deep.RegionWith
namespace Go.Proofs.YtoioaalkeanhgaaDoor
open Go.RowKit
set_option linter.unusedVariables false
set_option linter.unusedSimpArgs false
set_option maxRecDepth 100000

/-- What is opened of a sealed body, with anything behind it. -/
theorem open_whole (E behind : List UInt8) (hb : E.length ≤ 134217728) : opnE (lat (sealed E ++ behind)) (E.length + 8 + behind.length) 0 = 0 ∧ opnN (lat (sealed E ++ behind)) (E.length + 8 + behind.length) 0 = E.length ∧ ∀ i, i < E.length → opnF (lat (sealed E ++ behind)) 0 i = lat E i := by
  obtain ⟨h1, h2, h3⟩ := open_sealed [] E behind hb
  simp only [List.nil_append, List.length_nil, Nat.zero_add, Int.ofNat_zero, List.length_append, sealed_len] at h1 h2 h3
  have h1' : opnE (lat (sealed E ++ behind)) (E.length + 8 + behind.length) 0 = 0 := h1
  refine ⟨h1', ?_, fun i hi => ?_⟩
  · unfold opnN; rw [h1', if_pos rfl]; simpa using h2
  · unfold opnF; rw [← h3 i hi]; simp
theorem open_short (E : List UInt8) (k : Nat) (hk : k < E.length + 8) (hb : E.length ≤ 134217728) : opnE (lat (sealed E)) k 0 = 7 := by
  by_cases h8 : k < 8
  · exact opnE_out _ _ _ (.inr (by omega))
  · have hw : (wordN fun i => lat (sealed E) (0 + i)) = E.length :=
      (wb_word _ _ (by omega)).2 (fun i hi => by rw [Nat.zero_add, sealed_head E i hi])
    have h := opnE_in (lat (sealed E)) k 0 (by omega)
    rw [hw, if_pos (by omega)] at h
    exact h
theorem lat_set_app (l m : List UInt8) (k : Nat) (y : UInt8) (i : Nat) (hi : i < l.length) (hk : k < l.length) : lat ((l ++ m).set k y) i = lat (l.set k y) i := by
  rw [List.set_append_left _ _ hk, lat_app, if_pos (by rw [List.length_set]; exact hi)]
set_option maxHeartbeats 16000000 in
theorem packs_walk (m at_ : Int) (more : UInt8) (os : List Of) (hs : List Hd) (ao ah : Option Addr) (co ch : Nat) (w : World) (hm : InI m) (hat : InI at_) (hO : OfL w ao os) (hH : HdL w ah hs) (iO : ∀ o ∈ os, InO o) (iH : ∀ h ∈ hs, InH h) (h1 : os.length ≤ 549755813888) (h2 : hs.length ≤ 549755813888) (hE : (encCk m os hs).length ≤ 134217728) (hwt : wtH hs ≤ 140737488355328) (hq : Quart w) (he : Ety w) :
    Calls Tryd.prog 3 #[.agg #[.int .i64 m, .slice ao os.length co, .slice ah hs.length ch], .int .i64 at_, .int .u8 (more.toNat : Int)] w fun e w' => e = .returned (.bool true) ∧ Below w.heap.size w w' := by
  obtain ⟨W0, hW0⟩ : ∃ W0, W0 = w.alloc (.cells #[.int .i64 m, .slice ao os.length co, .slice ah hs.length ch] 25) := ⟨_, rfl⟩
  have hz0 : W0.heap.size = w.heap.size + 1 := by rw [hW0, World.size_alloc]
  have hb0 : Below w.heap.size w W0 := by rw [hW0]; exact bel1 _ _
  have KC : Hid (∀ W, Below W0.heap.size W0 W → W.cell? ⟨w.heap.size, 0, none⟩ = some (.int .i64 m) ∧ W.cell? ⟨w.heap.size, 1, none⟩ = some (.slice ao os.length co) ∧ W.cell? ⟨w.heap.size, 2, none⟩ = some (.slice ah hs.length ch)) := fun W hW =>
    ⟨cell_later hW (by rw [hW0]; simp), cell_later hW (by rw [hW0]; simp), cell_later hW (by rw [hW0]; simp)⟩
  have HP := hidMk (pack_any m os hs ao ah co ch W0 hm (hO.later hb0) (hH.later hb0) iO iH h1 h2 hE (hq.later hb0))
  have HO := hidMk (hO.later hb0)
  have HH := hidMk (hH.later hb0)
  have HIO := hidMk iO
  have HIH := hidMk iH
  have HQ := hidMk (hq.later hb0)
  have HE := hidMk (he.later hb0)
  have HM := hidMk hm
  have HAT := hidMk hat
  have HB0 := hidMk hb0
  have hsl := sealed_len (encCk m os hs)
  have HU : Hid (∀ (a : Option Addr) (len cap : Nat) (behind : List UInt8) (W : World), len = (encCk m os hs).length + 8 + behind.length → Bytes W a len (lat (sealed (encCk m os hs) ++ behind)) → len ≤ cap → cap ≤ 9223372036854775807 → len ≤ 140737488355328 → Quart W → Calls Tryd.prog 6 #[.slice a len cap] W (UnPost W len m os hs)) := fun a len cap behind W hlen hB hc hx hl hqq => by
    subst hlen
    obtain ⟨o1, o2, o3⟩ := open_whole (encCk m os hs) behind hE
    exact unpack_ok a _ cap _ m os hs W hB hc hx hl hqq o1 o2 o3 hm iO iH h1 h2 hE
  have HSH := hidMk (fun k hk => open_short (encCk m os hs) k hk hE)
  have HTU := hidMk (fun k h4 hk y hy => open_turned (encCk m os hs) hE k h4 hk y hy)
  clear hm hO hH iO iH hq he hat hb0
  have hN : ∃ N, N = (encCk m os hs).length := ⟨_, rfl⟩
  obtain ⟨N, hN⟩ := hN
  rw [← hN] at hsl hE HSH HTU HU
  have HNN := hidMk hN
  clear hN
  go_enter Tryd.func3, Tryd.ntmps3
  go_wp2_with fail
  rw [← hW0]
  refine HP.out.mono ?_
  rintro e w1 ⟨hb1, v1, rfl, ho1⟩
  obtain ⟨gs, cs, rfl, hcs1, hcs2⟩ := ho1.pos (by omega)
  rw [hsl] at hcs1 ⊢
  have hgs := World.ownsRow.lt ho1 gs rfl
  have HO1 : Hid (OL w1 W0.heap.size (.slice (some ⟨gs, 0, none⟩) (N + 8) cs) (sealed (encCk m os hs))) := by rw [Hid]; rw [hsl] at ho1; exact ho1
  have HB1 := hidMk hb1
  have hs1 := hb1.size
  clear hb1 ho1 HP hW0
  obtain ⟨k10, k11, k12⟩ := KC.out w1 HB1.out
  go_wp2_with fail
  refine (weight_any m os hs ao ah co ch w1 (HH.out.later HB1.out) h1 h2 hwt).mono ?_
  rintro e w2 ⟨rfl, hb2⟩
  have HB2 : Hid (Below W0.heap.size W0 w2) := HB1.out.trans (hb2.mono hs1)
  have HO2 := hidMk (HO1.out.later hb2)
  have hs2 := hb2.size
  clear hb2 HB1 HO1
  have hwtn : 1 + 3 * os.length + wtH hs ≤ 142387256756993 := by omega
  generalize 1 + 3 * os.length + wtH hs = wt at *
  by_cases hbig : (2097151 : Int) < (wt : Int)
  · go_wp2
    go_ret
    exact ⟨rfl, HB0.out.trans (HB2.out.mono (by omega))⟩
  have hn8 : ¬ (((N + 8 : Nat) : Int) < 8) := by omega
  have hn8' : ¬ ((N : Int) + 8 < 8) := by omega
  have hcsm : cs ≤ 9223372036854775807 := by unfold maxLen at hcs2; omega
  have HBY2 : Hid (Bytes w2 (some ⟨gs, 0, none⟩) (N + 8) (lat (sealed (encCk m os hs)))) := by have := HO2.out.bytes.2; rw [hsl] at this; exact this
  have HC3 := hidMk (HU.out (some ⟨gs, 0, none⟩) (N + 8) cs [] w2 (by simp) (by rw [List.append_nil]; exact HBY2.out) hcs1 hcsm (by omega) (HQ.out.later HB2.out))
  go_wp2_with fail
  refine HC3.out.mono ?_
  rintro e w3 ⟨hb3, hcase⟩
  rw [← HNN.out] at hcase
  obtain ⟨ao3, co3, ah3, ch3, ms, g3, rfl, hOL3, hHL3, hR3⟩ : ∃ ao co ah ch ms g, e = .returned (.tuple #[.agg #[.int .i64 m, .slice ao os.length co, .slice ah hs.length ch], .nilIface]) ∧ OfL w3 ao os ∧ HmL w3 ah ms ∧ HRel w3 g ms hs := by
    rcases hcase with ⟨-, h⟩ | ⟨h, -⟩
    · exact h
    · exact absurd rfl h
  have HB3 : Hid (Below W0.heap.size W0 w3) := HB2.out.trans (hb3.mono (by omega))
  have HO3 := hidMk (HO2.out.later hb3)
  have hs3 := hb3.size
  have HC4 := hidMk (fun W (hW : Below w3.heap.size w3 W) => same_ok m os hs ms ao3 ah3 ao ah co3 ch3 co ch g3 W (hOL3.later hW) (hHL3.later hW) (hR3.later hW) (HO.out.later (HB3.out.trans (hW.mono (by omega)))) (HH.out.later (HB3.out.trans (hW.mono (by omega)))) HIH.out h1 h2)
  clear hb3 hcase hOL3 hHL3 hR3 HC3 HBY2 HB2 HO2
  obtain ⟨k30, k31, k32⟩ := KC.out (w3.alloc (.cells #[.int .i64 m, .slice ao3 os.length co3, .slice ah3 hs.length ch3] 25)) (HB3.out.trans ((bel1 _ _).mono (by omega)))
  go_wp2_with fail
  refine (HC4.out _ (bel1 _ _)).mono ?_
  rintro e w4 ⟨rfl, hb4⟩
  have hb34 : Below w3.heap.size w3 w4 := (bel1 _ _).trans (hb4.mono (by simp))
  have HB4 : Hid (Below W0.heap.size W0 w4) := HB3.out.trans (hb34.mono (by omega))
  have HO4 := hidMk (HO3.out.later hb34)
  have hs4 := hb34.size
  clear hb4 hb34 HC4 k30 k31 k32 HB3 HO3
  have hN8 : ((N + 8 : Nat) : Int) = (N : Int) + 8 := by omega
  have HPK : Hid (∀ (M : Nat) W, 0 < M → M ≤ 549755813888 → Calls Tryd.prog 8 #[.int .i64 at_, .int .i64 (M : Int)] W fun e w' => e = .returned (.int .i64 (at_ % (M : Int))) ∧ w' = W) := fun M W h1 h2 => pick_any at_ M W HAT.out.1 HAT.out.2 h1 h2
  go_wp2_with fail
  rw [show (N : Int) + 8 = ((N + 8 : Nat) : Int) by omega]
  refine (HPK.out (N + 8) w4 (by omega) (by omega)).mono ?_
  rintro e w5 ⟨rfl, rfl⟩
  have hr0 := Int.emod_nonneg at_ (show ((N + 8 : Nat) : Int) ≠ 0 by omega)
  have hr1 := Int.emod_lt_of_pos at_ (show (0 : Int) < ((N + 8 : Nat) : Int) by omega)
  obtain ⟨r, hre⟩ : ∃ r : Nat, at_ % ((N + 8 : Nat) : Int) = (r : Int) := ⟨(at_ % ((N + 8 : Nat) : Int)).toNat, by omega⟩
  rw [hre] at hr0 hr1 ⊢
  have hr8 : r < N + 8 := by omega
  have hrc : (r : Int) ≤ (cs : Int) := by omega
  have hrp : (0 : Int) ≤ (r : Int) := by omega
  have HBY4 : Hid (Bytes w5 (some ⟨gs, 0, none⟩) (N + 8) (lat (sealed (encCk m os hs)))) := by have := HO4.out.bytes.2; rw [hsl] at this; exact this
  have HC5 := hidMk (fun c (h : r ≤ c) (hx : c ≤ 9223372036854775807) => unpack_err (some ⟨gs, 0, none⟩) r c 7 (lat (sealed (encCk m os hs))) w5 (fun i hi => HBY4.out i (by omega)) h hx (by omega) (HQ.out.later HB4.out) (HSH.out r hr8) (by decide))
  have hS3 := slice_to gs 0 (N + 8) cs r (by omega)
  have hS4 := sliceAt_to gs 0 (N + 8) cs r (by omega)
  clear hre
  go_wp2_with fail
  refine (HC5.out cs (by omega) hcsm).mono ?_
  rintro e w6 ⟨rfl, hb6⟩
  have HB6 : Hid (Below W0.heap.size W0 w6) := HB4.out.trans (hb6.mono (by omega))
  have HO6 := hidMk (HO4.out.later hb6)
  have hs6 := hb6.size
  have HTO : Hid (∀ (n : Nat) (W : World), Below W0.heap.size W0 W → Calls Tryd.prog 9 #[errV n] W fun e w' => e = .returned (.int .i64 (n : Int)) ∧ Below W.heap.size W w') := fun n W hW => told_any n W (HE.out.later hW)
  unfold zCk
  clear hb6 HC5 hS3 hS4 HBY4 HB4 HO4
  go_wp2_with fail
  refine (HTO.out 7 _ (HB6.out.trans ((bel1 _ _).mono (by omega)))).mono ?_
  rintro e w7 ⟨rfl, hb7'⟩
  have hb7 : Below w6.heap.size w6 w7 := (bel1 _ _).trans (hb7'.mono (by simp))
  clear hb7'
  have HB7 : Hid (Below W0.heap.size W0 w7) := HB6.out.trans (hb7.mono (by omega))
  have HO7 := hidMk (HO6.out.later hb7)
  have hs7 := hb7.size
  have HBY7 : Hid (Bytes w7 (some ⟨gs, 0, none⟩) (N + 8) (lat (sealed (encCk m os hs)))) := by have := HO7.out.bytes.2; rw [hsl] at this; exact this
  have HBL : Hid (blist (lat (sealed (encCk m os hs))) (N + 8) = sealed (encCk m os hs)) := by rw [Hid, ← hsl]; exact blist_lat _
  have hlt7 : gs < w7.heap.size := (World.ownsRow.lt HO7.out gs rfl).2
  clear hb7 HB6 HO6
  go_wp2_with (first
    | (at_builtin; refine wpList_append_bytes rfl _ _ rfl w7.heap.size _ [] rfl (World.ownsRow_nil _ _ _ _) (some ⟨gs, 0, none⟩) (N + 8) cs (lat (sealed (encCk m os hs))) rfl HBY7.out (fun h => by cases h) ?c1 ?c2 ?_))
  case c1 => simp; omega
  case c2 => omega
  intro v8 w8 ho8 hg8
  have HV8 : Hid (OL w8 w7.heap.size v8 (sealed (encCk m os hs))) := by rw [Hid]; rw [HBL.out] at ho8; exact ho8
  have hb8 : Below w7.heap.size w7 w8 := (Below.refl _ _).grown hg8 (Nat.le_refl _) (fun k hk => by cases hk)
  have HB8 : Hid (Below W0.heap.size W0 w8) := HB7.out.trans (hb8.mono (by omega))
  have HO8 := hidMk (HO7.out.later hb8)
  have hs8 := hb8.size
  have h255 : (more.toNat : Int) < 256 := by have := UInt8.toNat_lt more; omega
  have HV8a : Hid (OL (w8.alloc (.cells #[.int .u8 (more.toNat : Int)] 5)) w7.heap.size v8 (sealed (encCk m os hs))) := HV8.out.later (bel1 _ _)
  have HBM : Hid (Bytes (w8.alloc (.cells #[.int .u8 (more.toNat : Int)] 5)) (some ⟨w8.heap.size, 0, none⟩) 1 (lat [more])) := fun i hi => by
    obtain rfl : i = 0 := by omega
    exact ⟨w8.heap.size, 0, rfl, by simp [lat]⟩
  clear ho8 hg8 hb8 HBY7 HB7 HO7
  go_wp2_with (first
    | (at_builtin; refine wpList_append_bytes rfl _ _ rfl w7.heap.size _ (sealed (encCk m os hs)) rfl HV8a.out (some ⟨w8.heap.size, 0, none⟩) 1 1 (lat [more]) rfl HBM.out (fun h => by cases h) ?c1 ?c2 ?_))
  case c1 => omega
  case c2 => simp; omega
  intro v9 w9 ho9 hg9
  have hbm : blist (lat [more]) 1 = [more] := by have := blist_lat [more]; simpa using this
  rw [hbm] at ho9
  have hl9 : (sealed (encCk m os hs) ++ [more]).length = N + 9 := by rw [List.length_append, hsl]; simp
  obtain ⟨g9, c9, rfl, hc91, hc92⟩ := ho9.pos (by omega)
  rw [hl9] at hc91 ho9 ⊢
  have hg9s := World.ownsRow.lt ho9 g9 rfl
  have hne8 : ∀ k, v8.ownBlock = some k → w7.heap.size ≤ k := fun k hk => (World.ownsRow.lt HV8.out k hk).1
  have HB9 : Hid (Below W0.heap.size W0 w9) := (HB8.out.trans ((bel1 _ _).mono (by omega))).grown hg9 (by simp; omega) (fun k hk => by have := hne8 k hk; omega)
  have HV9 := hidMk ho9
  have HBY9 : Hid (Bytes w9 (some ⟨g9, 0, none⟩) (N + 9) (lat (sealed (encCk m os hs) ++ [more]))) := by have := ho9.bytes.2; rw [hl9] at this; exact this
  have hs9 := HB9.out.size
  have hc9m : c9 ≤ 9223372036854775807 := by unfold maxLen at hc92; omega
  clear hbm ho9 hg9 hne8 HV8 HV8a HBM HB8 HO8 hs8
  have HC10 := hidMk (HU.out (some ⟨g9, 0, none⟩) (N + 9) c9 [more] w9 (by simp) HBY9.out hc91 hc9m (by omega) (HQ.out.later HB9.out))
  go_wp2_with fail
  refine HC10.out.mono ?_
  rintro e w10 ⟨hb10, hcase⟩
  rw [← HNN.out] at hcase
  obtain rfl : e = .returned (.tuple #[zCk, errV 7]) := by
    rcases hcase with ⟨h, -⟩ | ⟨-, h⟩
    · omega
    · exact h
  have HB10 : Hid (Below W0.heap.size W0 w10) := HB9.out.trans (hb10.mono (by omega))
  have HV10 := hidMk (HV9.out.later hb10)
  have hs10 := hb10.size
  unfold zCk
  clear hb10 hcase HC10 HBY9 HB9 HV9
  go_wp2_with fail
  refine (HTO.out 7 _ (HB10.out.trans ((bel1 _ _).mono (by omega)))).mono ?_
  rintro e w11 ⟨rfl, hb11'⟩
  have hb11 : Below w10.heap.size w10 w11 := (bel1 _ _).trans (hb11'.mono (by simp))
  have HB11 : Hid (Below W0.heap.size W0 w11) := HB10.out.trans (hb11.mono (by omega))
  have HV11 := hidMk (HV10.out.later hb11)
  have hs11 := hb11.size
  clear hb11' hb11 HB10 HV10
  go_wp2_with fail
  rw [show (N : Int) + 8 - 4 = ((N + 4 : Nat) : Int) by omega]
  refine (HPK.out (N + 4) w11 (by omega) (by omega)).mono ?_
  rintro e w12 ⟨rfl, rfl⟩
  have hu0 := Int.emod_nonneg at_ (show ((N + 4 : Nat) : Int) ≠ 0 by omega)
  have hu1 := Int.emod_lt_of_pos at_ (show (0 : Int) < ((N + 4 : Nat) : Int) by omega)
  obtain ⟨u, hue⟩ : ∃ u : Nat, at_ % ((N + 4 : Nat) : Int) = (u : Int) := ⟨(at_ % ((N + 4 : Nat) : Int)).toNat, by omega⟩
  rw [hue] at hu0 hu1 ⊢
  obtain ⟨K, hK⟩ : ∃ K, K = 4 + u := ⟨_, rfl⟩
  have hK4 : 4 ≤ K := by omega
  have hK8 : K < N + 8 := by omega
  have hKi : (4 : Int) + (u : Int) = (K : Int) := by omega
  clear hue hu0 hu1
  obtain ⟨b', o', e', hcx⟩ := HV11.out.bytes.2 K (by rw [hl9]; omega)
  cases e'
  rw [Nat.zero_add] at hcx
  have hlatK : lat (sealed (encCk m os hs) ++ [more]) K = lat (sealed (encCk m os hs)) K := by rw [lat_app, if_pos (by omega)]
  rw [hlatK] at hcx
  have hX2 := UInt8.toNat_lt (lat (sealed (encCk m os hs)) K)
  obtain ⟨X, hX⟩ : ∃ X : Nat, X = (lat (sealed (encCk m os hs)) K).toNat := ⟨_, rfl⟩
  rw [← hX] at hcx hX2
  have HX := hidMk hX
  have hor : w12.ownsRow w7.heap.size 5 1 (.slice (some ⟨g9, 0, none⟩) (N + 9) c9) (N + 9) ((sealed (encCk m os hs) ++ [more]).map u8v) := by have h := HV11.out; unfold OL at h; rw [hl9] at h; exact h
  have fr := World.ownsRow.frozenAt hor K
  obtain ⟨Z, hZ1, hZ2⟩ := xor_byte X 64 hX2 (by omega) (by omega)
  have hX0 : (0 : Int) ≤ (X : Int) := by omega
  have hX1 : (X : Int) ≤ 255 := by omega
  have hZ1' : bits .xor .u8 (X : Int) 64 = (Z.toNat : Int) := hZ1
  have HZ2 := hidMk hZ2
  have hst := (hor.stored K (.int .u8 (Z.toNat : Int)))
  have HBYS : Hid (Bytes (w12.setCell ⟨g9, K, none⟩ (.int .u8 (Z.toNat : Int))) (some ⟨g9, 0, none⟩) (N + 8) (lat ((sealed (encCk m os hs)).set K Z))) := by
    have hOLs : OL (w12.setCell ⟨g9, K, none⟩ (.int .u8 (Z.toNat : Int))) w7.heap.size (.slice (some ⟨g9, 0, none⟩) (N + 9) c9) ((sealed (encCk m os hs) ++ [more]).set K Z) := by
      unfold OL
      rw [List.length_set, hl9, List.map_set]
      exact hst.1
    have hbs := hOLs.bytes.2
    rw [List.length_set, hl9] at hbs
    intro i hi
    obtain ⟨b2, o2, e2, hc2⟩ := hbs i (by omega)
    refine ⟨b2, o2, e2, ?_⟩
    rw [hc2, lat_set_app _ _ _ _ _ (by omega) (by omega)]
  have HBS : Hid (Below W0.heap.size W0 (w12.setCell ⟨g9, K, none⟩ (.int .u8 (Z.toNat : Int)))) := HB11.out.setCell (by simp; omega) _
  have HOT : Hid (opnE (lat ((sealed (encCk m os hs)).set K Z)) (N + 8) 0 = 8) := HTU.out K hK4 hK8 Z (fun h => HZ2.out (by rw [HX.out, ← h]))
  have hKl : (K : Int) < (N : Int) + 9 := by omega
  have hKl' : (K : Int) < ((N + 9 : Nat) : Int) := by omega
  have hK0 : (0 : Int) ≤ (K : Int) := by omega
  have hS3 := slice_to g9 0 (N + 9) c9 (N + 8) (by omega)
  have hS4 := sliceAt_to g9 0 (N + 9) c9 (N + 8) (by omega)
  rw [show ((N + 8 : Nat) : Int) = (N : Int) + 8 by omega] at hS3 hS4
  clear hor hst hZ1 hZ2 hX hK hlatK
  go_wp2_with fail
  refine (unpack_err (some ⟨g9, 0, none⟩) (N + 8) c9 8 _ _ HBYS.out (by omega) hc9m (by omega) (HQ.out.later HBS.out) HOT.out (by decide)).mono ?_
  rintro e w13 ⟨rfl, hb13⟩
  have HB13 : Hid (Below W0.heap.size W0 w13) := HBS.out.trans (hb13.mono (by simp; omega))
  have hs13 := hb13.size
  have hs13' : W0.heap.size ≤ w13.heap.size := HB13.out.size
  unfold zCk
  clear hb13 HBYS HBS HOT hS3 hS4 hcx fr hZ1'
  go_wp2_with fail
  refine (HTO.out 8 _ (HB13.out.trans ((bel1 _ _).mono (by omega)))).mono ?_
  rintro e w14 ⟨rfl, hb14⟩
  have HB14 : Hid (Below W0.heap.size W0 w14) := (HB13.out.trans ((bel1 _ _).mono (by omega))).trans (hb14.mono (by simp; omega))
  have z0 := cell_later hb14 (show (w13.alloc (.cells #[.int .i64 0, .slice none 0 0, .slice none 0 0] 25)).cell? ⟨w13.heap.size, 0, none⟩ = some (.int .i64 0) by simp)
  have z1 := cell_later hb14 (show (w13.alloc (.cells #[.int .i64 0, .slice none 0 0, .slice none 0 0] 25)).cell? ⟨w13.heap.size, 1, none⟩ = some (.slice none 0 0) by simp)
  have z2 := cell_later hb14 (show (w13.alloc (.cells #[.int .i64 0, .slice none 0 0, .slice none 0 0] 25)).cell? ⟨w13.heap.size, 2, none⟩ = some (.slice none 0 0) by simp)
  have HBF : Hid (Below w.heap.size w w14) := HB0.out.trans (HB14.out.mono (by omega))
  clear hb14
  go_wp2
  go_ret
  exact ⟨rfl, HBF.out⟩
end Go.Proofs.YtoioaalkeanhgaaDoor
