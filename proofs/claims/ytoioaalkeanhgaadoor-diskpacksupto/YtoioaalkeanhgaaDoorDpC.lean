import Derived.Test.YtoioaalkeanhgaaDoorDpB
namespace Go.Proofs.YtoioaalkeanhgaaDoor
open Go.RowKit
set_option linter.unusedVariables false
set_option linter.unusedSimpArgs false
set_option maxRecDepth 100000

theorem nums_len (ys : List Int) (hy : ∀ y ∈ ys, InI y) : (ys.flatMap encInt).length ≤ 10 * ys.length := by
  induction ys with
  | nil => simp
  | cons y ys ih =>
    rw [List.flatMap_cons, List.length_append, List.length_cons]
    have h1 := hy y (by simp)
    have := encInt_len y h1.1 h1.2
    have := ih (fun z hz => hy z (by simp [hz]))
    omega
theorem cells1 (w : World) (x : Int) : ∀ i (hi : i < [x].length), (w.alloc (.cells #[.int .i64 x] 3)).cell? ⟨w.heap.size, i, none⟩ = some (.int .i64 [x][i]) := fun i hi => by
  match i, hi with
  | 0, _ => simp
theorem cells2 (w : World) (x y : Int) : ∀ i (hi : i < [x, y].length), (w.alloc (.cells #[.int .i64 x, .int .i64 y] 3)).cell? ⟨w.heap.size, i, none⟩ = some (.int .i64 [x, y][i]) := fun i hi => by
  match i, hi with
  | 0, _ => simp
  | 1, _ => simp
theorem cells3 (w : World) (x y z : Int) : ∀ i (hi : i < [x, y, z].length), (w.alloc (.cells #[.int .i64 x, .int .i64 y, .int .i64 z] 3)).cell? ⟨w.heap.size, i, none⟩ = some (.int .i64 [x, y, z][i]) := fun i hi => by
  match i, hi with
  | 0, _ => simp
  | 1, _ => simp
  | 2, _ => simp
/-- What was written so far. -/
def ck1 (m : Int) (os : List Of) (k : Nat) : List UInt8 := [m, (os.length : Int)].flatMap encInt ++ (os.take k).flatMap encOf
def ck2 (m : Int) (os : List Of) (hs : List Hd) (k : Nat) : List UInt8 := (ck1 m os os.length ++ [(hs.length : Int)].flatMap encInt) ++ (hs.take k).flatMap encHd
theorem ck1_next (m : Int) (os : List Of) (k : Nat) (hk : k < os.length) : ck1 m os (k + 1) = ck1 m os k ++ (ofNs os[k]).flatMap encInt := by
  unfold ck1; rw [take_flat encOf os k hk, List.append_assoc]; rfl
theorem ck2_next (m : Int) (os : List Of) (hs : List Hd) (k : Nat) (hk : k < hs.length) : ck2 m os hs (k + 1) = (ck2 m os hs k ++ [hs[k].n, hs[k].g, (hs[k].b.length : Int)].flatMap encInt) ++ hs[k].b := by
  unfold ck2; rw [take_flat encHd hs k hk]; unfold encHd; simp only [List.append_assoc]
theorem ck2_all (m : Int) (os : List Of) (hs : List Hd) : ck2 m os hs hs.length = encCk m os hs := by
  unfold ck2 ck1 encCk; rw [List.take_length, List.take_length]; simp only [List.append_assoc]
theorem ck1_le (m : Int) (os : List Of) (hs : List Hd) (k : Nat) : (ck1 m os k).length ≤ (encCk m os hs).length := by
  unfold ck1 encCk; simp only [List.length_append]; have := flat_le encOf os k; omega
theorem ck2_le (m : Int) (os : List Of) (hs : List Hd) (k : Nat) : (ck2 m os hs k).length ≤ (encCk m os hs).length := by
  unfold ck2 ck1 encCk; rw [List.take_length]; simp only [List.length_append]; have := flat_le encHd hs k; omega
theorem blist_lat_len (l : List UInt8) : blist (lat l) l.length = l := blist_lat l

theorem ck2_pos (m : Int) (os : List Of) (hs : List Hd) (k : Nat) : 0 < (ck2 m os hs k).length := by
  unfold ck2 ck1; simp only [List.length_append, List.flatMap_cons]; have := encInt_pos m; omega
theorem OL.pos {w : World} {B : Nat} {v : Value} {l : List UInt8} (h : OL w B v l) (h0 : 0 < l.length) : ∃ g c, v = .slice (some ⟨g, 0, none⟩) l.length c ∧ l.length ≤ c ∧ c ≤ maxLen := by
  rcases h.form with ⟨-, h⟩ | ⟨g, c, h1, h2, h3⟩
  · rw [h] at h0; simp at h0
  · exact ⟨g, c, h1, h2, h3⟩
theorem OL.base {w : World} {B B' : Nat} {v : Value} {l : List UInt8} (h : OL w B v l) (hb : B' ≤ B) : OL w B' v l := by
  refine ⟨h.1, ?_⟩
  rcases h.2 with h2 | ⟨g, cap, cur, h1, h2, h3⟩
  · exact .inl h2
  · exact .inr ⟨g, cap, cur, h1, Nat.le_trans hb h2, h3⟩
theorem OL.lt {w : World} {B : Nat} {v : Value} {l : List UInt8} (h : OL w B v l) : ∀ k, v.ownBlock = some k → B ≤ k ∧ k < w.heap.size := fun k hk => World.ownsRow.lt h k hk

set_option maxHeartbeats 4000000 in
theorem pack_any (m : Int) (os : List Of) (hs : List Hd) (ao ah : Option Addr) (co ch : Nat) (w : World) (hm : InI m) (hO : OfL w ao os) (hH : HdL w ah hs) (iO : ∀ o ∈ os, InO o) (iH : ∀ h ∈ hs, InH h) (h1 : os.length ≤ 549755813888) (h2 : hs.length ≤ 549755813888) (hE : (encCk m os hs).length ≤ 134217728) (hq : Quart w) :
    Calls Tryd.prog 4 #[.agg #[.int .i64 m, .slice ao os.length co, .slice ah hs.length ch]] w fun e w' => Below w.heap.size w w' ∧ ∃ v', e = .returned (.tuple #[v', .nilIface]) ∧ OL w' w.heap.size v' (sealed (encCk m os hs)) := by
  have HO := hidMk hO
  have HH := hidMk hH
  have HIO := hidMk iO
  have HIH := hidMk iH
  have HQ := hidMk hq
  have HM := hidMk hm
  clear hO hH iO iH hq hm
  go_enter Tryd.func4, Tryd.ntmps4
  go_wp2_with fail
  obtain ⟨W1, hW1⟩ : ∃ W1, W1 = w.alloc (.cells #[.int .i64 m, .slice ao os.length co, .slice ah hs.length ch] 25) := ⟨_, rfl⟩
  have hz1 : W1.heap.size = w.heap.size + 1 := by rw [hW1]; simp
  have KC : Hid (∀ W, Below W1.heap.size W1 W → W.cell? ⟨w.heap.size, 1, none⟩ = some (.slice ao os.length co) ∧ W.cell? ⟨w.heap.size, 2, none⟩ = some (.slice ah hs.length ch)) := fun W hW =>
    ⟨cell_later hW (by rw [hW1]; simp), cell_later hW (by rw [hW1]; simp)⟩
  have HB1 : Hid (Below w.heap.size w W1) := by rw [hW1]; exact bel1 _ _
  rw [← hW1]
  rw [show w.heap.size + 1 = W1.heap.size by omega]
  clear hW1
  refine (nums_any (.slice none 0 0) [] W1.heap.size W1.heap.size 2 [m, (os.length : Int)] (W1.alloc (.cells #[.int .i64 m, .int .i64 os.length] 3)) (World.ownsRow_nil _ _ _ _) (by rw [World.size_alloc]; omega) (cells2 W1 m os.length) (by simp [Value.ownBlock]) (by rw [World.size_alloc]; omega) (fun x hx => by
      simp at hx
      rcases hx with rfl | rfl
      · exact HM.out
      · exact ⟨by omega, by omega⟩) (by simp) (by simp)).mono ?_
  rintro e w2 ⟨v2, rfl, h2a, h2b⟩
  have HV2 : Hid (OL w2 W1.heap.size v2 (ck1 m os 0)) := by simpa [Hid, ck1] using h2a
  have HB2 : Hid (Below W1.heap.size W1 w2) := (bel1 _ _).trans ((Below.refl _ _).grown h2b.grown (by simp) (fun k hk => by cases hk))
  obtain ⟨k1, k2⟩ := KC.out w2 HB2.out
  clear h2a h2b
  go_wp2
  go_loopg [4, 20] os.length (fun gk v1 i wr => ∃ k : Nat, gk + k = os.length ∧ i = .int .i64 k ∧ OL wr W1.heap.size v1 (ck1 m os k) ∧ Below W1.heap.size W1 wr)
  case atStart => exact ⟨0, by omega, rfl, HV2.out, HB2.out⟩
  case round =>
    obtain ⟨k, hgk, rfl, hO1, hb1⟩ := hrel
    have HO1 := hidMk hO1
    have HBk := hidMk hb1
    have hszk := hb1.size
    clear hO1 hb1 HV2 HB2
    by_cases hk : k < os.length
    · have hk' : (k : Int) < (os.length : Int) := by omega
      obtain ⟨b, off, rfl, c1, c2, c3⟩ := (HO.out.later (HB1.out.trans (HBk.out.mono (by omega)))) k hk
      have HN : Hid (ck1 m os (k + 1) = ck1 m os k ++ (ofNs os[k]).flatMap encInt) := ck1_next m os k hk
      have HI : Hid (InO os[k]) := HIO.out _ (List.getElem_mem hk)
      have hl := ck1_le m os hs k
      generalize os[k] = o at *
      have HOa := hidMk (HO1.out.later (bel1 wr (.cells #[.int .i64 o.n, .int .i64 o.p, .int .i64 o.a] 41)))
      have HBa := hidMk (HBk.out.trans ((bel1 wr (.cells #[.int .i64 o.n, .int .i64 o.p, .int .i64 o.a] 41)).mono hszk))
      have HC : Hid (∀ wa : World, OL wa W1.heap.size u4 (ck1 m os k) → W1.heap.size ≤ wa.heap.size → Calls Tryd.prog 10 #[u4, .slice (some ⟨wa.heap.size, 0, none⟩) 3 3] (wa.alloc (.cells #[.int .i64 o.n, .int .i64 o.p, .int .i64 o.a] 3)) fun e w' => ∃ v', e = .returned v' ∧ OL w' W1.heap.size v' ((ck1 m os k) ++ (ofNs o).flatMap encInt) ∧ Only (wa.alloc (.cells #[.int .i64 o.n, .int .i64 o.p, .int .i64 o.a] 3)) w' u4.ownBlock v'.ownBlock) := fun wa hO hsz => (nums_any u4 (ck1 m os k) W1.heap.size wa.heap.size 3 (ofNs o) (wa.alloc (.cells #[.int .i64 o.n, .int .i64 o.p, .int .i64 o.a] 3)) (hO.later (bel1 _ _)) (by rw [World.size_alloc]; omega) (cells3 wa o.n o.p o.a) (fun e => by have := (hO.lt _ e).2; omega) (by rw [World.size_alloc]; omega) HI.out.all (Nat.le_refl _) (by omega))
      go_wp2_with fail
      obtain ⟨wa, hwa⟩ : ∃ wa, wa = wr.alloc (.cells #[.int .i64 o.n, .int .i64 o.p, .int .i64 o.a] 41) := ⟨_, rfl⟩
      rw [← hwa] at HOa HBa ⊢
      rw [show wr.heap.size + 1 = wa.heap.size by rw [hwa, World.size_alloc]]
      have hsza := HBa.out.size
      refine (HC.out wa HOa.out hsza).mono ?_
      rintro e w3 ⟨v3, rfl, h3a, h3b⟩
      have HV3 : Hid (OL w3 W1.heap.size v3 (ck1 m os (k + 1))) := by rw [Hid, HN.out]; exact h3a
      have HB3 : Hid (Below W1.heap.size W1 w3) := (HBa.out.trans ((bel1 _ _).mono hsza)).trans (h3b.below (HOa.out.later (bel1 _ _)) (by rw [World.size_alloc]; omega))
      clear h3a h3b hwa HC
      go_wp2
      go_roundg (gk - 1)
      case measure => omega
      case rel => exact ⟨k + 1, by omega, by go_num, HV3.out, HB3.out⟩
    · have hk' : ¬ (k : Int) < (os.length : Int) := by omega
      obtain rfl : k = os.length := by omega
      obtain ⟨k3, k4⟩ := KC.out wr HBk.out
      have hl := ck1_le m os hs os.length
      have HC : Hid (Calls Tryd.prog 10 #[u4, .slice (some ⟨wr.heap.size, 0, none⟩) 1 1] (wr.alloc (.cells #[.int .i64 hs.length] 3)) fun e w' => ∃ v', e = .returned v' ∧ OL w' W1.heap.size v' (ck1 m os os.length ++ [(hs.length : Int)].flatMap encInt) ∧ Only (wr.alloc (.cells #[.int .i64 hs.length] 3)) w' u4.ownBlock v'.ownBlock) := (nums_any u4 (ck1 m os os.length) W1.heap.size wr.heap.size 1 [(hs.length : Int)] (wr.alloc (.cells #[.int .i64 hs.length] 3)) (HO1.out.later (bel1 _ _)) (by rw [World.size_alloc]; omega) (cells1 wr hs.length) (fun e => by have := (HO1.out.lt _ e).2; omega) (by rw [World.size_alloc]; omega) (fun x hx => by
          simp at hx
          subst hx
          exact ⟨by omega, by omega⟩) (by simp) (by omega))
      go_wp2_with fail
      refine HC.out.mono ?_
      rintro e w3 ⟨v3, rfl, h3a, h3b⟩
      have HV3 : Hid (OL w3 W1.heap.size v3 (ck2 m os hs 0)) := by simpa [Hid, ck2] using h3a
      have HB3 : Hid (Below W1.heap.size W1 w3) := (HBk.out.trans ((bel1 _ _).mono hszk)).trans (h3b.below (HO1.out.later (bel1 _ _)) (by rw [World.size_alloc]; omega))
      obtain ⟨k5, k6⟩ := KC.out w3 HB3.out
      clear h3a h3b k3 k4 k1 k2 HBk HO1
      go_wp2
      go_loopg [4, 43] hs.length (fun gk v1 i wr => ∃ k : Nat, gk + k = hs.length ∧ i = .int .i64 k ∧ OL wr W1.heap.size v1 (ck2 m os hs k) ∧ Below W1.heap.size W1 wr)
      case atStart => exact ⟨0, by omega, rfl, HV3.out, HB3.out⟩
      case round =>
        obtain ⟨k, hgk, rfl, hO2, hb2⟩ := hrel
        have HO2 := hidMk hO2
        have HBk := hidMk hb2
        have hszk := hb2.size
        have hpos := ck2_pos m os hs k
        obtain ⟨g4, q4, rfl, hq1, hq2⟩ := hO2.pos hpos
        clear hO2 hb2 HV3 HB3
        by_cases hk : k < hs.length
        · have hk' : (k : Int) < (hs.length : Int) := by omega
          have hbw : Below w.heap.size w wr := HB1.out.trans (HBk.out.mono (by omega))
          obtain ⟨b, off, x, c, rfl, d1, d2, d3, hBy, hnc⟩ := HH.out k hk
          have c1 := cell_later hbw d1
          have c2 := cell_later hbw d2
          have c3 := cell_later hbw d3
          clear d1 d2 d3 hbw
          have HN : Hid (ck2 m os hs (k + 1) = (ck2 m os hs k ++ [hs[k].n, hs[k].g, (hs[k].b.length : Int)].flatMap encInt) ++ hs[k].b) := ck2_next m os hs k hk
          have HI : Hid (InH hs[k]) := HIH.out _ (List.getElem_mem hk)
          have HBy := hidMk hBy
          have HNC := hidMk hnc
          have hl := ck2_le m os hs (k + 1)
          rw [HN.out, List.length_append, List.length_append] at hl
          have hlk : (ck2 m os hs k).length + hs[k].b.length ≤ 134217728 := by omega
          have hlk' : ¬ (134217728 : Int) < ((ck2 m os hs k).length : Int) + (hs[k].b.length : Int) := by omega
          have HBL : Hid (blist (lat hs[k].b) hs[k].b.length = hs[k].b) := blist_lat_len _
          have HIA : Hid (∀ y ∈ [hs[k].n, hs[k].g, (hs[k].b.length : Int)], InI y) := fun y hy => by
            simp at hy
            rcases hy with rfl | rfl | rfl
            · exact HI.out.1
            · exact HI.out.2.1
            · exact ⟨by omega, by omega⟩
          have h10 := nums_len _ HIA.out
          have h10' : ([hs[k].n, hs[k].g, (hs[k].b.length : Int)].flatMap encInt).length ≤ 30 := h10
          clear hBy hnc hl h10
          have hlb : hs[k].b.length ≤ 134217728 := by omega
          generalize hs[k] = h at *
          obtain ⟨hn, hg, hb⟩ := h
          simp only at c1 c2 c3 HBy HBL HIA h10' hlk hlk' hlb HN
          have HOa := hidMk (HO2.out.later (bel1 wr (.cells #[.int .i64 hn, .int .i64 hg, .slice x hb.length c] 45)))
          have HBa := hidMk (HBk.out.trans ((bel1 wr (.cells #[.int .i64 hn, .int .i64 hg, .slice x hb.length c] 45)).mono hszk))
          have HC : Hid (∀ (wa : World) (v : Value), OL wa W1.heap.size v (ck2 m os hs k) → W1.heap.size ≤ wa.heap.size → Calls Tryd.prog 10 #[v, .slice (some ⟨wa.heap.size, 0, none⟩) 3 3] (wa.alloc (.cells #[.int .i64 hn, .int .i64 hg, .int .i64 hb.length] 3)) fun e w' => ∃ v', e = .returned v' ∧ OL w' W1.heap.size v' (ck2 m os hs k ++ [hn, hg, (hb.length : Int)].flatMap encInt) ∧ Only (wa.alloc (.cells #[.int .i64 hn, .int .i64 hg, .int .i64 hb.length] 3)) w' v.ownBlock v'.ownBlock) := fun wa v hO hsz => (nums_any v (ck2 m os hs k) W1.heap.size wa.heap.size 3 [hn, hg, (hb.length : Int)] (wa.alloc (.cells #[.int .i64 hn, .int .i64 hg, .int .i64 hb.length] 3)) (hO.later (bel1 _ _)) (by rw [World.size_alloc]; omega) (cells3 wa hn hg hb.length) (fun e => by have := (hO.lt _ e).2; omega) (by rw [World.size_alloc]; omega) HIA.out (Nat.le_refl _) (by omega))
          go_wp2_with fail
          obtain ⟨wa, hwa⟩ : ∃ wa, wa = wr.alloc (.cells #[.int .i64 hn, .int .i64 hg, .slice x hb.length c] 45) := ⟨_, rfl⟩
          rw [← hwa] at HOa HBa ⊢
          rw [show wr.heap.size + 1 = wa.heap.size by rw [hwa, World.size_alloc]]
          have hsza := HBa.out.size
          refine (HC.out wa _ HOa.out hsza).mono ?_
          rintro e w3 ⟨v3, rfl, h3a, h3b⟩
          have HV3 := hidMk h3a
          have hb3 : Below W1.heap.size (wa.alloc (.cells #[.int .i64 hn, .int .i64 hg, .int .i64 hb.length] 3)) w3 := h3b.below (HOa.out.later (bel1 _ _)) (by rw [World.size_alloc]; omega)
          have HB3 : Hid (Below W1.heap.size W1 w3) := (HBa.out.trans ((bel1 _ _).mono hsza)).trans hb3
          have hsz3 := HB3.out.size
          have HBy3 : Hid (Bytes w3 x hb.length (lat hb)) := HBy.out.later (HB1.out.trans (HB3.out.mono (by omega)))
          clear h3a h3b hb3 hwa HC
          go_wp2_with (first
            | (at_builtin; refine wpList_append_bytes rfl _ _ rfl W1.heap.size _ (ck2 m os hs k ++ [hn, hg, (hb.length : Int)].flatMap encInt) rfl HV3.out x hb.length c (lat hb) rfl HBy3.out HNC.out ?c1 ?c2 ?_))
          case c1 => rw [List.length_append]; omega
          case c2 => omega
          intro v4 w4 ho4 hg4
          have HV4 : Hid (OL w4 W1.heap.size v4 (ck2 m os hs (k + 1))) := by rw [Hid, HN.out]; rw [HBL.out] at ho4; simpa [hz1] using ho4
          have HB4 : Hid (Below W1.heap.size W1 w4) := HB3.out.grown hg4 (by omega) (fun j hj => (HV3.out.lt j hj).1)
          clear ho4 hg4
          go_wp2
          go_roundg (gk - 1)
          case measure => omega
          case rel => exact ⟨k + 1, by omega, by go_num, HV4.out, HB4.out⟩
        · have hk' : ¬ (k : Int) < (hs.length : Int) := by omega
          obtain rfl : k = hs.length := by omega
          rw [ck2_all] at HO2 hpos hq1 ⊢
          have HBY := hidMk HO2.out.bytes.2
          have HQk : Hid (Quart wr) := HQ.out.later (HB1.out.trans (HBk.out.mono (by omega)))
          have HS := hidMk (seal_any g4 0 (encCk m os hs).length q4 (lat (encCk m os hs)) wr HBY.out (by omega) HQk.out)
          have HBL : Hid (blist (lat (encCk m os hs)) (encCk m os hs).length = encCk m os hs) := blist_lat_len _
          go_wp2_with fail
          refine HS.out.mono ?_
          rintro e w3 ⟨hb3, hcase⟩
          obtain ⟨v3, rfl, ho3⟩ : ∃ v', e = .returned (.tuple #[v', .nilIface]) ∧ OL w3 wr.heap.size v' (sealed (blist (lat (encCk m os hs)) (encCk m os hs).length)) := by
            rcases hcase with ⟨h, -⟩ | ⟨-, h⟩
            · omega
            · exact h
          rw [HBL.out] at ho3
          have HV := hidMk (ho3.base (show w.heap.size ≤ wr.heap.size by omega))
          have HBF : Hid (Below w.heap.size w w3) := (HB1.out.trans (HBk.out.mono (by omega))).trans (hb3.mono (by omega))
          clear ho3 hb3 hcase
          go_wp2
          go_ret2
          exact ⟨HBF.out, v3, rfl, HV.out⟩
end Go.Proofs.YtoioaalkeanhgaaDoor
