import Derived.Test.YtobhccmnlmlapaaGreatDoorPa
import Derived.Test.YtobhccmnlmlapaaGreatDoorPc
import Derived.Test.YtobhccmnlmlapaaGreatDoorQStZa
import Derived.Test.YtobhccmnlmlapaaGreatDoorQHdA
import Derived.Test.YtobhccmnlmlapaaGreatDoorQStZk
import Derived.Test.YtobhccmnlmlapaaGreatDoorPb
namespace Go.Proofs.YtobhccmnlmlapaaGreatDoor
open Go.RowKit Go.Maps
set_option linter.unusedVariables false
set_option linter.unusedSimpArgs false
set_option maxRecDepth 100000
attribute [local go_sem ↓] eqlW neqW
attribute [local go_sem] guardW

set_option maxHeartbeats 4000000 in
theorem ofD_any (vs : List V) (a : Option Addr) (c : Nat) (w : World) (B s : Nat) (lo hi : Int) (u : Value) (qs : List Cx) (h : DS w B s lo hi u qs) (hc : DC qs) (hl : VLies w a vs) (hvl : vs.length ≤ 549755813888) :
    Calls Tryz.prog 27 #[.pointer (some ⟨s, 0, none⟩), .slice a vs.length c] w fun e w' => ∃ u', e = .returned u' ∧ OW w' w.heap.size u' ((qs.filter fun q => decide (q.c.key = vs)).map (·.c.w)) ∧ Below w.heap.size w w' := by
  obtain ⟨i0, hi0, hz0, hz1, hz2⟩ := info_parts infoW
  obtain ⟨ua, uc, rfl, hcase⟩ := h.row.form
  have hn := hc.len
  have d2 := h.cells.2.2
  have HS := hidMk h
  have HL := hidMk hl
  have HC := hidMk hc
  clear h hc hl
  go_enter Tryz.func27, Tryz.ntmps27
  go_wp2_with fail
  go_loopg [5, 6] qs.length (fun gk v i wr => ∃ j : Nat, gk + j = qs.length ∧ i = .int .i64 j ∧ OW wr w.heap.size v (((qs.take j).filter fun q => decide (q.c.key = vs)).map (·.c.w)) ∧ Below w.heap.size w wr)
  case atStart => exact ⟨0, by omega, rfl, World.ownsRow_nil _ _ _ _, Below.refl _ _⟩
  case round =>
    obtain ⟨j, hgk, rfl, hO, hbl⟩ := hrel
    have HBL := hidMk hbl
    have e2 := cell_later hbl d2
    obtain ⟨ax, cx, hv⟩ := row_formN hO
    subst hv
    have HO := hidMk hO
    have hsz := hbl.size
    by_cases hj : j < qs.length
    · have hj' : (j : Int) < (qs.length : Int) := by omega
      obtain ⟨g, hg0, -⟩ : ∃ g, ua = some ⟨g, 0, none⟩ ∧ True := by
        rcases hcase with ⟨h1, -⟩ | ⟨g, h1, -⟩
        · rw [h1] at hj; simp at hj
        · exact ⟨g, h1, trivial⟩
      subst hg0
      have hm : qs[j] ∈ qs := List.getElem_mem hj
      have HSA := hidMk (refSameD qs[j].c.key vs qs[j].ka qs[j].kc a c wr ((HS.out.row.lies hm).later hbl) (HL.out.later hbl) (by have := HC.out.klen hm; omega) hvl)
      obtain ⟨c0, c1, c2, -⟩ := HS.out.row.cells j hj
      have c0 := cell_later hbl c0
      have c1 := cell_later hbl c1
      have c2 := cell_later hbl c2
      have hle : (((qs.take j).filter fun q => decide (q.c.key = vs)).map (·.c.w)).length ≤ j := by
        rw [List.length_map]
        exact Nat.le_trans (List.length_filter_le _ _) (by rw [List.length_take]; omega)
      have HNX : Hid (((qs.take (j + 1)).filter fun q => decide (q.c.key = vs)).map (·.c.w) = ((qs.take j).filter fun q => decide (q.c.key = vs)).map (·.c.w) ++ (if qs[j].c.key = vs then [qs[j].c.w] else [])) := by
        rw [Hid, List.take_succ_eq_append_getElem hj, List.filter_append, List.map_append]
        congr 1
        by_cases he : qs[j].c.key = vs <;> simp [he]
      generalize ((qs.take j).filter fun q => decide (q.c.key = vs)).map (·.c.w) = F at *
      generalize qs[j] = y at *
      clear hbl hm hO
      go_wp2_with fail
      refine HSA.out.mono ?_
      rintro e w2 ⟨rfl, hb2⟩
      replace c1 := cell_later hb2 c1
      replace c2 := cell_later hb2 c2
      replace e2 := cell_later hb2 e2
      have HB2 := hidMk (HBL.out.trans (hb2.mono HBL.out.size))
      have HO2 : Hid (OW w2 w.heap.size (.slice ax F.length cx) F) := own_later HO.out hb2
      have hs2 := HB2.out.size
      clear hb2 HSA HO
      by_cases hk : y.c.key = vs
      · have hdk : decide (y.c.key = vs) = true := decide_eq_true hk
        rw [hdk]
        rw [if_pos hk] at HNX
        clear hk hdk
        go_wp2_with (first
          | (at_builtin; refine wpList_append_own_at _ rfl _ _ 71 rfl w.heap.size 38 i0 (.agg #[.int .i64 0, .int .i64 0]) 2 16 Tryz.underlying71 hi0 hz0 hz1 hz2 rfl (by decide) _ F.length (F.flatMap cellsN) rfl (World.ownsRow.alloc HO2.out _) ⟨w2.heap.size, 0, none⟩ 1 1 (cellsN y.c.w) rfl rfl (World.news_of_block (cs := #[.int .i64 y.c.w.f, .int .i64 y.c.w.t]) (t := 38) (fr := (0, 0)) (heap_alloc_new _ _)) (one_cellsN _) (by unfold maxLen; omega) (by omega) (by simp; omega) ?_))
        intro v' w5 hown hgrow _ hat
        have HO5 : Hid (OW w5 w.heap.size v' (F ++ [y.c.w])) := by
          unfold Hid OW
          rw [List.length_append, List.flatMap_append]
          simpa using hown
        have HB5 : Hid (Below w.heap.size w w5) := (HB2.out.alloc hs2 _).grown hgrow (by simp; omega) (fun q e => (World.ownsRow.lt HO2.out q e).1)
        clear hown hgrow hat HO2
        go_wp2_with fail
        go_roundg (gk - 1)
        case measure => omega
        case rel => exact ⟨j + 1, by omega, by go_num, by rw [HNX.out]; exact HO5.out, HB5.out⟩
      · have hdk : decide (y.c.key = vs) = false := decide_eq_false hk
        rw [hdk]
        rw [if_neg hk, List.append_nil] at HNX
        clear hk hdk
        go_wp2_with fail
        go_roundg (gk - 1)
        case measure => omega
        case rel => exact ⟨j + 1, by omega, by go_num, by rw [HNX.out]; exact HO2.out, HB2.out⟩
    · have hj' : ¬ (j : Int) < (qs.length : Int) := by omega
      have HX : Hid (OW wr w.heap.size (.slice ax (((qs.take j).filter fun q => decide (q.c.key = vs)).map (·.c.w)).length cx) ((qs.filter fun q => decide (q.c.key = vs)).map (·.c.w))) := by
        have h1 := HO.out
        rw [List.take_of_length_le (by omega)] at h1 ⊢
        exact h1
      obtain ⟨N, hN⟩ : ∃ N, (((qs.take j).filter fun q => decide (q.c.key = vs)).map (·.c.w)).length = N := ⟨_, rfl⟩
      rw [hN] at HX ⊢
      clear hbl hO HO hcase hN
      go_wp2_with fail
      go_ret
      exact ⟨_, rfl, HX.out, HBL.out⟩
theorem refWord_ol (n : Nat) (w : World) (hn : n < 4294967296) :
    Calls Tryz.prog 94 #[.int .u32 (n : Int)] w fun e w' => ∃ v', e = .returned v' ∧ Wr.OL w' w.heap.size v' (Wr.w4 n) ∧ Below w.heap.size w w' := by
  have p0 : (0 : Int) ≤ (n : Int) := by omega
  have p1 : (n : Int) < 4294967296 := by omega
  have h8 : ∀ m : Nat, UInt8.toNat (UInt8.ofNat m) = m % 256 := fun m => UInt8.toNat_ofNat'
  have HE : Hid ((Wr.w4 n).map Wr.u8v = [.int .u8 ((n / 16777216 : Nat) : Int), .int .u8 ((n / 65536 % 256 : Nat) : Int), .int .u8 ((n / 256 % 256 : Nat) : Int), .int .u8 ((n % 256 : Nat) : Int)]) := by
    rw [Hid]
    simp only [Wr.w4, List.map_cons, List.map_nil, Wr.u8v, Wr.wb, h8]
    rw [show n / 256 ^ (3 - 0) % 256 = n / 16777216 by omega, show n / 256 ^ (3 - 1) % 256 = n / 65536 % 256 by omega, show n / 256 ^ (3 - 2) % 256 = n / 256 % 256 by omega, show n / 256 ^ (3 - 3) % 256 = n % 256 by omega]
  go_enter Tryz.func94, Tryz.ntmps94
  go_wp2
  go_ret
  refine ⟨_, rfl, ?_, bel1 w _⟩
  unfold Wr.OL
  rw [HE.out]
  exact World.ownsRow_lit (base := w.heap.size) (e := 5) (size := 1) w #[.int .u8 ((n / 16777216 : Nat) : Int), .int .u8 ((n / 65536 % 256 : Nat) : Int), .int .u8 ((n / 256 % 256 : Nat) : Int), .int .u8 ((n % 256 : Nat) : Int)] 4 (Nat.le_refl _) (by decide) rfl
theorem bytes_form {w : World} {B : Nat} {v : Value} {l : List UInt8} (h : Wr.OL w B v l) : ∃ a c, v = .slice a l.length c := row_form h
set_option maxHeartbeats 2000000 in
theorem sealD_any (a : Option Addr) (L : List UInt8) (c : Nat) (w : World) (hb : Wr.Bytes w a L.length (Wr.lat L)) (hn : L.length ≤ 1073741824) :
    Calls Tryz.prog 67 #[.slice a L.length c] w fun e w' => ∃ v', e = .returned v' ∧ Wr.OL w' w.heap.size v' (Wr.sealed L) ∧ Below w.heap.size w w' := by
  obtain ⟨ib, hb0, hb1', hb2', hb3'⟩ := info_parts Wr.info5
  have HS := hidMk (Wr.refSum_any a L.length c (Wr.lat L) w hb (by unfold maxLen; omega))
  have HW := hidMk (fun n W (hn : n < 4294967296) => refWord_ol n W hn)
  have HB := hidMk hb
  have hsum := Wr.sumN_lt (Wr.lat L) L.length
  have HE : Hid (Wr.sealed L = (Wr.w4 L.length ++ Wr.w4 (Wr.sumN (Wr.lat L) L.length)) ++ L) := by rw [Hid, List.append_assoc]; rfl
  clear hb
  generalize Wr.sumN (Wr.lat L) L.length = S at *
  have hci : IntKind.u32.wrap (L.length : Int) = (L.length : Int) := by simp [IntKind.wrap, IntKind.bits, IntKind.signed]; omega
  go_enter Tryz.func67, Tryz.ntmps67
  go_wp2_with fail
  refine HS.out.mono ?_
  rintro e w1 ⟨rfl, hw1⟩
  subst hw1
  go_wp2_with fail
  refine (HW.out _ _ (by omega)).mono ?_
  rintro e w2 ⟨v2, rfl, o2, b2⟩
  obtain ⟨a2, c2, hv2⟩ := bytes_form o2
  subst hv2
  have HO2 := hidMk o2
  have HB2 := hidMk b2
  clear o2 b2
  go_wp2_with fail
  refine (HW.out _ _ hsum).mono ?_
  rintro e w3 ⟨v3, rfl, o3, b3⟩
  obtain ⟨a3, c3, hv3⟩ := bytes_form o3
  subst hv3
  have HO3 := hidMk o3
  have HB3 := hidMk (HB2.out.trans (b3.mono HB2.out.size))
  have HO23 : Hid (Wr.OL w3 w1.heap.size (.slice a2 (Wr.w4 L.length).length c2) (Wr.w4 L.length)) := own_later HO2.out b3
  have l2 := HB2.out.size
  have l3 := b3.size
  clear o3 b3 HO2
  go_wp2_with (first
    | (at_builtin; refine Wr.wpList_append_ol rfl _ _ rfl w1.heap.size _ (Wr.w4 L.length) rfl HO23.out w2.heap.size _ (Wr.w4 S) rfl HO3.out (by simp [Wr.w4]) (by simp [Wr.w4]) (by omega) ?_))
  intro v4 w4 o4 g4 hat4
  obtain ⟨a4, c4, hv4⟩ := bytes_form o4
  subst hv4
  have HO4 := hidMk o4
  have HB4 : Hid (Below w1.heap.size w1 w4) := HB3.out.grown g4 HB3.out.size (fun q e => (World.ownsRow.lt HO23.out q e).1)
  have l4 := HB4.out.size
  clear o4 g4 hat4 HO23 HO3
  go_wp2_with (first
    | (at_builtin; refine wpList_append_src rfl _ _ 39 rfl w1.heap.size 5 ib (.int .u8 0) 1 1 Tryz.underlying39 hb0 hb1' hb2' hb3' rfl (by decide) _ (Wr.w4 L.length ++ Wr.w4 S).length ((Wr.w4 L.length ++ Wr.w4 S).map Wr.u8v) rfl HO4.out a L.length c (L.map Wr.u8v) rfl ?c0 ?c1 ?c2 ?c3 ?c4 ?c5 ?_))
  case c0 => simp
  case c1 => exact src_B (HB.out.later HB4.out)
  case c2 => intro u hu; simp at hu; obtain ⟨q, -, rfl⟩ := hu; rfl
  case c3 => unfold maxLen; simp [Wr.w4]; omega
  case c4 => simp [Wr.w4]; omega
  case c5 => omega
  intro v5 w5 o5 g5 hat5
  have HO5 : Hid (Wr.OL w5 w1.heap.size v5 (Wr.sealed L)) := by
    rw [Hid, HE.out]
    unfold Wr.OL
    rw [List.length_append, List.map_append]
    exact o5
  have HB5 : Hid (Below w1.heap.size w1 w5) := HB4.out.grown g5 HB4.out.size (fun q e => (World.ownsRow.lt HO4.out q e).1)
  clear o5 g5 hat5 HO4
  go_wp2_with fail
  go_ret
  exact ⟨v5, rfl, HO5.out, HB5.out⟩
end Go.Proofs.YtobhccmnlmlapaaGreatDoor
namespace Go.Proofs.YtobhccmnlmlapaaGreatDoor
open Go.RowKit Go.Maps
set_option linter.unusedVariables false
set_option linter.unusedSimpArgs false
set_option maxRecDepth 100000

def okE (c : Ce) : Prop := vk c.key = true ∧ GoodK c.key ∧ kp c.w = true
theorem enc_le (l : List Ce) (h : ∀ c ∈ l, okE c) (hw : wt l ≤ 67108864) : (l.flatMap encCe).length ≤ 2 * wt l := by
  induction l with
  | nil => simp
  | cons c l ih =>
    rw [wt_cons] at hw ⊢
    have h1 := ih (fun x hx => h x (by simp [hx])) (by omega)
    obtain ⟨k1, k2, k3⟩ := h c (by simp)
    have h3 : c.d.length ≤ 67108864 := by
      have : wg c = c.d.length + 64 * c.key.length + 32 := rfl
      omega
    have h2 := encCe_len c k1 k2 k3 h3
    rw [List.flatMap_cons, List.length_append]
    omega
theorem encInt_pos (x : Int) : 0 < (Wr.encInt x).length := by
  unfold Wr.encInt Wr.vint
  split <;> simp
theorem encVal_pos (v : V) : 0 < (Wr.encVal v).length := by unfold Wr.encVal; simp
/-- A row that another's growing leaves alone. -/
theorem row_stays {w w' : World} {B T sz n : Nat} {v v2 : Value} {xs : List Value} (h : w.ownsRow B T sz v2 n xs) (hg : w.grownBy w' v.ownBlock) (hne : ∀ g, v2.ownBlock = some g → v.ownBlock ≠ some g) : w'.ownsRow B T sz v2 n xs := own_grown h hg fun gg hgg e => hne gg hgg e.symm
set_option maxHeartbeats 8000000 in
theorem pieceD_F (g : Nat) (F : List Ce) (EB : List UInt8) (w : World) (B s : Nat) (lo hi : Int) (u : Value) (qs : List Cx) (hFF : ((qs.map (·.c)).filter fun c => grp c.key == g) = F) (hEE : encBody F = EB) (h : DS w B s lo hi u qs) (hc : DC qs) :
    Calls Tryz.prog 33 #[.pointer (some ⟨s, 0, none⟩), .int .i64 (g : Int)] w fun e w' => ∃ v, e = .returned (.tuple #[v, .bool (decide (0 < F.length))]) ∧ Wr.OL w' w.heap.size v (Wr.sealed EB) ∧ Below w.heap.size w w' := by
  have HFF := hidMk hFF
  have HEE := hidMk hEE
  clear hFF hEE
  obtain ⟨ib, hb0, hb1', hb2', hb3'⟩ := info_parts Wr.info5
  obtain ⟨ua, uc, rfl, hcase⟩ := h.row.form
  have hn := hc.len
  have d2 := h.cells.2.2
  have HS := hidMk h
  have HC := hidMk hc
  have HOK : Hid (∀ l : List Ce, l.Sublist (qs.map (·.c)) → (l.flatMap encCe).length ≤ 134217728 ∧ l.length ≤ 2097152) := fun l hl => by
    have h1 := wt_sub hl
    have h2 := hc.wl
    have h3 := enc_le l (fun c hcl => by
      obtain ⟨q, hq, rfl⟩ := List.mem_map.1 (hl.subset hcl)
      obtain ⟨k1, k2, k3⟩ := hc.good q hq
      exact ⟨k2, k1, k3⟩) (by omega)
    have h4 := wt_len l
    exact ⟨by omega, by omega⟩
  clear h hc
  go_enter Tryz.func33, Tryz.ntmps33
  go_wp2_with fail
  go_loopg [6, 7, 8] qs.length (fun gk k v i wr => ∃ j : Nat, gk + j = qs.length ∧ i = .int .i64 j ∧ k = .int .i64 ((((qs.map (·.c)).take j).filter fun c => grp c.key == g).length : Int) ∧ Wr.OL wr w.heap.size v ((((qs.map (·.c)).take j).filter fun c => grp c.key == g).flatMap encCe) ∧ Below w.heap.size w wr)
  case atStart => exact ⟨0, by omega, rfl, rfl, World.ownsRow_nil _ _ _ _, Below.refl _ _⟩
  case round =>
    obtain ⟨j, hgk, rfl, rfl, hO, hbl⟩ := hrel
    have HBL := hidMk hbl
    have e2 := cell_later hbl d2
    obtain ⟨ax, cx, hv⟩ := bytes_form hO
    subst hv
    have HO := hidMk hO
    have hsz := hbl.size
    by_cases hj : j < qs.length
    · have hj' : (j : Int) < (qs.length : Int) := by omega
      obtain ⟨gq, hg0, -⟩ : ∃ g, ua = some ⟨g, 0, none⟩ ∧ True := by
        rcases hcase with ⟨h1, -⟩ | ⟨g, h1, -⟩
        · rw [h1] at hj; simp at hj
        · exact ⟨g, h1, trivial⟩
      subst hg0
      have hm : qs[j] ∈ qs := List.getElem_mem hj
      obtain ⟨gk1, gk2, gk3⟩ := HC.out.good _ hm
      have gkl := HC.out.klen hm
      obtain ⟨ya, yc, hdv, hyb⟩ := HS.out.row.dform hm
      obtain ⟨c0, c1, c2, c3⟩ := HS.out.row.cells j hj
      rw [hdv] at c3
      have c0 := cell_later hbl c0
      have c1 := cell_later hbl c1
      have c2 := cell_later hbl c2
      have c3 := cell_later hbl c3
      have HVL := hidMk (HS.out.row.lies hm)
      have HYB := hidMk hyb
      have HGK := hidMk gk1
      have hdl : qs[j].c.d.length ≤ 67108864 := by
        have h1 := HC.out.wl
        have h2 := wt_sub (List.singleton_sublist.2 (List.mem_map.2 ⟨qs[j], hm, rfl⟩ : qs[j].c ∈ qs.map (·.c)))
        have h3 : wt [qs[j].c] = qs[j].c.d.length + 64 * qs[j].c.key.length + 32 := by simp [wt, wg, wgh]
        omega
      obtain ⟨kw1, kw2, kw3⟩ := (kp_iff _).1 gk3
      have HNX : Hid (((qs.map (·.c)).take (j + 1)).filter (fun c => grp c.key == g) = ((qs.map (·.c)).take j).filter (fun c => grp c.key == g) ++ (if grp qs[j].c.key = g then [qs[j].c] else [])) := by
        rw [Hid, List.take_succ_eq_append_getElem (by simpa using hj), List.filter_append]
        congr 1
        by_cases he : grp qs[j].c.key = g <;> simp [he]
      obtain ⟨hk1, hk2⟩ := HOK.out (((qs.map (·.c)).take j).filter fun c => grp c.key == g) (List.filter_sublist.trans (List.take_sublist _ _))
      have HGR := hidMk (fun W (hb : Below w.heap.size w W) => groupD_any qs[j].c.key qs[j].ka qs[j].kc W (HVL.out.later hb) HGK.out (by omega))
      generalize ((qs.map (·.c)).take j).filter (fun c => grp c.key == g) = P at *
      generalize hLL : P.flatMap encCe = L at *
      have HLL := hidMk hLL
      clear hLL
      generalize hyq : qs[j] = y at *
      clear hbl hm hdv hyb hO hcase hyq gk1
      have bX := HBL.out.alloc hsz (.cells #[.slice y.ka y.c.key.length y.kc, .int .i64 y.c.w.f, .int .i64 y.c.w.t, .slice ya y.c.d.length yc] 97)
      have HBX := hidMk bX
      have HOX := hidMk (Own.new wr 97 4 #[.slice y.ka y.c.key.length y.kc, .int .i64 y.c.w.f, .int .i64 y.c.w.t, .slice ya y.c.d.length yc] rfl)
      have HOB : Hid (Wr.OL (wr.alloc (.cells #[.slice y.ka y.c.key.length y.kc, .int .i64 y.c.w.f, .int .i64 y.c.w.t, .slice ya y.c.d.length yc] 97)) w.heap.size (.slice ax L.length cx) L) := own_later HO.out (bel1 _ _)
      have lX : wr.heap.size + 1 ≤ (wr.alloc (.cells #[.slice y.ka y.c.key.length y.kc, .int .i64 y.c.w.f, .int .i64 y.c.w.t, .slice ya y.c.d.length yc] 97)).heap.size := by simp
      clear bX
      go_wp2_with fail
      generalize (wr.alloc (.cells #[.slice y.ka y.c.key.length y.kc, .int .i64 y.c.w.f, .int .i64 y.c.w.t, .slice ya y.c.d.length yc] 97)) = W1 at *
      refine (HGR.out _ HBX.out).mono ?_
      rintro e w2 ⟨rfl, b2⟩
      have HB2 := hidMk (HBX.out.trans (b2.mono HBX.out.size))
      have HO2 := hidMk (HOX.out.later b2)
      have HL2 : Hid (Wr.OL w2 w.heap.size (.slice ax L.length cx) L) := own_later HOB.out b2
      have l2 := b2.size
      clear b2 HGR HOB HOX HBX c0 c1 c2 c3
      by_cases hgr : grp y.c.key = g
      · have hgr' : (((grp y.c.key : Nat) : Int) == (g : Int)) = true := by simp; omega
        rw [if_pos hgr] at HNX
        have HEN : Hid ((P ++ [y.c]).flatMap encCe = (((((L ++ Wr.encInt (y.c.key.length : Int)) ++ encKey y.c.key) ++ Wr.encInt y.c.w.f) ++ Wr.encInt y.c.w.t) ++ (Wr.encInt (y.c.d.length : Int) ++ y.c.d))) := by
          rw [Hid, List.flatMap_append, HLL.out]
          simp [encCe, List.append_assoc]
        have HPL : Hid ((P ++ [y.c]).length = P.length + 1) := by simp [Hid]
        have h1 := Wr.encInt_len (y.c.key.length : Int) (by omega) (by omega)
        have h2 := Wr.encInt_len y.c.w.f (by omega) (by omega)
        have h3 := Wr.encInt_len y.c.w.t (by omega) (by omega)
        have h4 := Wr.encInt_len (y.c.d.length : Int) (by omega) (by omega)
        have h5 := encKey_len y.c.key gk2 HGK.out
        have HI := hidMk (fun (x : Int) W (q1 : -9223372036854775808 ≤ x) (q2 : x ≤ 9223372036854775807) => Wr.refInt_any x W q1 q2)
        generalize ((grp y.c.key : Nat) : Int) = gy at *
        generalize hQ : P ++ [y.c] = Q at *
        clear hgr hQ
        obtain ⟨x0, x1, x2, x3⟩ : w2.cell? ⟨wr.heap.size, 0, none⟩ = some (.slice y.ka y.c.key.length y.kc) ∧ w2.cell? ⟨wr.heap.size, 1, none⟩ = some (.int .i64 y.c.w.f) ∧ w2.cell? ⟨wr.heap.size, 2, none⟩ = some (.int .i64 y.c.w.t) ∧ w2.cell? ⟨wr.heap.size, 3, none⟩ = some (.slice ya y.c.d.length yc) := ⟨HO2.out.cell 0 (by decide), HO2.out.cell 1 (by decide), HO2.out.cell 2 (by decide), HO2.out.cell 3 (by decide)⟩
        go_wp2_with fail
        refine (HI.out _ _ (by omega) (by omega)).mono ?_
        rintro e w3 ⟨v3, rfl, o3, b3⟩
        obtain ⟨a3, k3, hv3⟩ := bytes_form o3
        subst hv3
        have HO3 : Hid (Wr.OL w3 w2.heap.size (.slice a3 (Wr.encInt (y.c.key.length : Int)).length k3) (Wr.encInt (y.c.key.length : Int))) := o3
        have HL3 : Hid (Wr.OL w3 w.heap.size (.slice ax L.length cx) L) := own_later HL2.out b3
        have HX3 := hidMk (HO2.out.later b3)
        have HB3 := hidMk (HB2.out.trans (b3.mono HB2.out.size))
        have l3 := HB3.out.size
        have hp3 := encInt_pos (y.c.key.length : Int)
        clear o3 b3 HL2 HO2 x0 x1 x2 x3
        generalize Wr.encInt (y.c.key.length : Int) = E1 at *
        go_wp2_with (first
          | (at_builtin; refine Wr.wpList_append_ol rfl _ _ rfl w.heap.size _ L rfl HL3.out w2.heap.size _ E1 rfl HO3.out hp3 (by omega) (by omega) ?_))
        intro v4 w4 o4 g4 hat4
        obtain ⟨a4, k4, hv4⟩ := bytes_form o4
        subst hv4
        have HO4 := hidMk o4
        have HB4 : Hid (Below w.heap.size w w4) := HB3.out.grown g4 HB3.out.size (fun q e => (World.ownsRow.lt HL3.out q e).1)
        have HX4 := hidMk (HX3.out.grown g4 (fun e => own_not_row HX3.out HL3.out (by decide) _ e.symm rfl))
        have l4 : (L ++ E1).length ≤ 134217728 + 10 := by rw [List.length_append]; omega
        clear o4 g4 hat4 HX3 HL3 HO3 HB3 hp3
        generalize L ++ E1 = L1 at *
        have HGB := hidMk hgk
        clear HO HBL HLL hk2 e2
        generalize hxb : wr.heap.size = xb at *
        clear hxb
        go_wp2_with fail
        go_loopg [7, 12] y.c.key.length (fun gk v i wi => ∃ m : Nat, gk + m = y.c.key.length ∧ i = .int .i64 m ∧ Wr.OL wi w.heap.size v (L1 ++ encKey (y.c.key.take m)) ∧ Below w.heap.size w wi ∧ Own wi xb 97 4 [.slice y.ka y.c.key.length y.kc, .int .i64 y.c.w.f, .int .i64 y.c.w.t, .slice ya y.c.d.length yc])
        case atStart => exact ⟨0, by omega, rfl, by simpa [encKey] using HO4.out, HB4.out, HX4.out⟩
        case round =>
          obtain ⟨m, hgm, rfl, hOi, hBi, hXi⟩ := hrel
          have HBi := hidMk hBi
          have HXi := hidMk hXi
          obtain ⟨ai, ki, hvi⟩ := bytes_form hOi
          subst hvi
          have HOi := hidMk hOi
          obtain ⟨x0, x1, x2, x3⟩ : wr.cell? ⟨xb, 0, none⟩ = some (.slice y.ka y.c.key.length y.kc) ∧ wr.cell? ⟨xb, 1, none⟩ = some (.int .i64 y.c.w.f) ∧ wr.cell? ⟨xb, 2, none⟩ = some (.int .i64 y.c.w.t) ∧ wr.cell? ⟨xb, 3, none⟩ = some (.slice ya y.c.d.length yc) := ⟨hXi.cell 0 (by decide), hXi.cell 1 (by decide), hXi.cell 2 (by decide), hXi.cell 3 (by decide)⟩
          have li := hBi.size
          have hlm : (L1 ++ encKey (y.c.key.take m)).length ≤ 134217728 + 10 + 71 * 8 := by
            have q1 : (encKey (y.c.key.take m)).length ≤ (encKey y.c.key).length := by
              have e : encKey y.c.key = encKey (y.c.key.take m) ++ encKey (y.c.key.drop m) := by
                unfold encKey
                rw [← List.flatMap_append, List.take_append_drop]
              rw [e, List.length_append]; omega
            rw [List.length_append]; omega
          by_cases hm : m < y.c.key.length
          · have hm' : (m : Int) < (y.c.key.length : Int) := by omega
            obtain ⟨bv, ov, ev, z1, z2, z3⟩ := HVL.out m hm
            rw [ev] at x0
            have EV := hidMk ev
            clear ev
            replace z1 := cell_later hBi z1
            replace z2 := cell_later hBi z2
            replace z3 := cell_later hBi z3
            obtain ⟨v1, v2, v3⟩ := HGK.out y.c.key[m] (List.getElem_mem hm)
            have HRV := hidMk (Wr.refValue_any y.c.key[m] wr v1 v2 v3)
            have hvl := encVal_len y.c.key[m] (((vk_iff _).1 gk2).1 _ (List.getElem_mem hm)) v1 v2
            have hvp := encVal_pos y.c.key[m]
            have HTK : Hid (L1 ++ encKey (y.c.key.take (m + 1)) = (L1 ++ encKey (y.c.key.take m)) ++ Wr.encVal y.c.key[m]) := by
              rw [Hid, List.take_succ_eq_append_getElem hm]
              unfold encKey
              rw [List.flatMap_append, List.append_assoc]
              simp
            generalize L1 ++ encKey (y.c.key.take m) = L2 at *
            generalize y.c.key[m] = yv at *
            clear hOi hBi hXi x1 x2 x3
            go_wp2_with fail
            refine HRV.out.mono ?_
            rintro e w5 ⟨v5, rfl, o5, b5⟩
            obtain ⟨a5, k5, hv5⟩ := bytes_form o5
            subst hv5
            have HO5 : Hid (Wr.OL w5 wr.heap.size (.slice a5 (Wr.encVal yv).length k5) (Wr.encVal yv)) := o5
            have HL5 : Hid (Wr.OL w5 w.heap.size (.slice ai L2.length ki) L2) := own_later HOi.out b5
            have HX5 := hidMk (HXi.out.later b5)
            have HB5 := hidMk (HBi.out.trans (b5.mono HBi.out.size))
            have l5 := HB5.out.size
            clear o5 b5 HRV HOi HXi x0 z1 z2 z3
            generalize Wr.encVal yv = E5 at *
            go_wp2_with (first
              | (at_builtin; refine Wr.wpList_append_ol rfl _ _ rfl w.heap.size _ L2 rfl HL5.out wr.heap.size _ E5 rfl HO5.out hvp (by omega) (by omega) ?_))
            intro v6 w6 o6 g6 hat6
            have HO6 := hidMk o6
            have HB6 : Hid (Below w.heap.size w w6) := HB5.out.grown g6 HB5.out.size (fun q e => (World.ownsRow.lt HL5.out q e).1)
            have HX6 := hidMk (HX5.out.grown g6 (fun e => own_not_row HX5.out HL5.out (by decide) _ e.symm rfl))
            clear o6 g6 hat6 HX5 HL5 HO5 HB5
            go_wp2_with fail
            go_roundg (gk - 1)
            case measure => omega
            case rel => exact ⟨m + 1, by omega, by go_num, by rw [HTK.out]; exact HO6.out, HB6.out, HX6.out⟩
          · have hm' : ¬ (m : Int) < (y.c.key.length : Int) := by omega
            rw [List.take_of_length_le (by omega)] at HOi hlm ⊢
            have hls1 : (Wr.lstr y.c.d).size = y.c.d.length := by simp [Wr.lstr, ByteArray.size]
            have hls2 : (Wr.lstr y.c.d).data.toList = y.c.d := by simp [Wr.lstr]
            have HTX : Hid (∀ W, Calls Tryz.prog 66 #[.string (Wr.lstr y.c.d)] W fun e w' => ∃ v', e = .returned v' ∧ Wr.OL w' W.heap.size v' (Wr.encInt (y.c.d.length : Int) ++ y.c.d) ∧ Below W.heap.size W w') := fun W => by
              have q := Wr.refText_any (Wr.lstr y.c.d) W (by omega)
              rw [hls1, hls2] at q
              refine q.mono ?_
              rintro e w' ⟨v', rfl, q1, q2⟩
              refine ⟨v', rfl, ?_, q2⟩
              unfold Wr.OL
              rw [List.length_append]
              exact q1
            have HCV : Hid (∀ W, Below w.heap.size w W → (convert 39 9 (.slice ya y.c.d.length yc)).run Tryz.prog W = .ok (.string (Wr.lstr y.c.d)) W) := fun W hW => by
              rw [← Wr.bstr_lat]
              exact Wr.conv_bytes W ya y.c.d.length yc (Wr.lat y.c.d) (HYB.out.later hW)
            clear hls1 hls2
            generalize hL2 : L1 ++ encKey y.c.key = L2 at *
            clear hL2
            clear hOi hBi hXi
            have p2 := encInt_pos y.c.w.f
            have p3 := encInt_pos y.c.w.t
            have p4 := encInt_pos (y.c.d.length : Int)
            go_wp2_with fail
            refine (HI.out _ _ (by omega) (by omega)).mono ?_
            rintro e w5 ⟨v5, rfl, o5, b5⟩
            obtain ⟨a5, k5, hv5⟩ := bytes_form o5
            subst hv5
            have HO5 : Hid (Wr.OL w5 wr.heap.size (.slice a5 (Wr.encInt y.c.w.f).length k5) (Wr.encInt y.c.w.f)) := o5
            have HL5 : Hid (Wr.OL w5 w.heap.size (.slice ai L2.length ki) L2) := own_later HOi.out b5
            have HX5 := hidMk (HXi.out.later b5)
            have HB5 := hidMk (HBi.out.trans (b5.mono HBi.out.size))
            have l5 := b5.size
            replace x2 := cell_later b5 x2
            replace x3 := cell_later b5 x3
            clear o5 b5 x0 x1
            generalize Wr.encInt y.c.w.f = E5 at *
            go_wp2_with fail
            refine (HI.out _ _ (by omega) (by omega)).mono ?_
            rintro e w6 ⟨v6, rfl, o6, b6⟩
            obtain ⟨a6, k6, hv6⟩ := bytes_form o6
            subst hv6
            have HO6 : Hid (Wr.OL w6 w5.heap.size (.slice a6 (Wr.encInt y.c.w.t).length k6) (Wr.encInt y.c.w.t)) := o6
            have HO5' : Hid (Wr.OL w6 wr.heap.size (.slice a5 E5.length k5) E5) := own_later HO5.out b6
            have HL6 : Hid (Wr.OL w6 w.heap.size (.slice ai L2.length ki) L2) := own_later HL5.out b6
            have HX6 := hidMk (HX5.out.later b6)
            have HB6 := hidMk (HB5.out.trans (b6.mono HB5.out.size))
            have l6 := b6.size
            replace x3 := cell_later b6 x3
            have hcv := HCV.out _ HB6.out
            clear o6 b6 x2 HI HX5 HB5
            generalize Wr.encInt y.c.w.t = E6 at *
            generalize Wr.lstr y.c.d = bs at *
            go_wp2_with fail
            refine (HTX.out _).mono ?_
            rintro e w7 ⟨v7, rfl, o7, b7⟩
            obtain ⟨a7, k7, hv7⟩ := bytes_form o7
            subst hv7
            have HO7 := hidMk o7
            have HO6' : Hid (Wr.OL w7 w5.heap.size (.slice a6 E6.length k6) E6) := own_later HO6.out b7
            have HO5'' : Hid (Wr.OL w7 wr.heap.size (.slice a5 E5.length k5) E5) := own_later HO5'.out b7
            have HL7 : Hid (Wr.OL w7 w.heap.size (.slice ai L2.length ki) L2) := own_later HL6.out b7
            have HB7 := hidMk (HB6.out.trans (b7.mono HB6.out.size))
            have l7 := b7.size
            have hE7 : (Wr.encInt (y.c.d.length : Int) ++ y.c.d).length ≤ 10 + 67108864 := by rw [List.length_append]; omega
            have p7 : 0 < (Wr.encInt (y.c.d.length : Int) ++ y.c.d).length := by rw [List.length_append]; omega
            have HF1 : Hid (∀ gg, (Value.slice ai L2.length ki).ownBlock = some gg → gg < wr.heap.size) := fun gg e => (World.ownsRow.lt HOi.out gg e).2
            have HF6 : Hid (∀ gg, (Value.slice a6 E6.length k6).ownBlock = some gg → w5.heap.size ≤ gg ∧ gg < w7.heap.size) := fun gg e => World.ownsRow.lt HO6'.out gg e
            have HF7 : Hid (∀ gg, (Value.slice a7 (Wr.encInt (y.c.d.length : Int) ++ y.c.d).length k7).ownBlock = some gg → w6.heap.size ≤ gg ∧ gg < w7.heap.size) := fun gg e => World.ownsRow.lt HO7.out gg e
            clear o7 b7 x3 hcv HCV HTX HO5 HO5' HO6 HL5 HL6 HX6 HB6 HXi HOi HBi p4
            generalize Wr.encInt (y.c.d.length : Int) ++ y.c.d = E7 at *
            go_wp2_with (first
              | (at_builtin; refine Wr.wpList_append_ol rfl _ _ rfl w.heap.size _ L2 rfl HL7.out wr.heap.size _ E5 rfl HO5''.out p2 (by omega) (by omega) ?_))
            intro v8 w8 o8 g8 hat8
            obtain ⟨a8, k8, hv8⟩ := bytes_form o8
            subst hv8
            have HO8 := hidMk o8
            have HB8 : Hid (Below w.heap.size w w8) := HB7.out.grown g8 HB7.out.size (fun q e => (World.ownsRow.lt HL7.out q e).1)
            have HO68 : Hid (Wr.OL w8 w5.heap.size (.slice a6 E6.length k6) E6) := row_stays HO6'.out g8 (fun gg e e' => by have q1 := HF1.out gg e'; have q2 := (HF6.out gg e).1; omega)
            have HO78 : Hid (Wr.OL w8 w6.heap.size (.slice a7 E7.length k7) E7) := row_stays HO7.out g8 (fun gg e e' => by have q1 := HF1.out gg e'; have q2 := (HF7.out gg e).1; omega)
            have HF8 : Hid (∀ gg, (Value.slice a8 (L2 ++ E5).length k8).ownBlock = some gg → gg < wr.heap.size ∨ gg = w7.heap.size) := fun gg e => by
              rcases hat8 with h | h
              · exact .inl (HF1.out gg (h ▸ e))
              · rw [h] at e; exact .inr (Option.some.inj e).symm
            have l8 := HB8.out.size
            have hL8 : (L2 ++ E5).length ≤ 134217728 + 10 + 71 * 8 + 10 := by rw [List.length_append]; omega
            clear o8 g8 hat8 HL7 HO5'' HO6' HO7 HB7 HF1
            generalize L2 ++ E5 = L3 at *
            go_wp2_with (first
              | (at_builtin; refine Wr.wpList_append_ol rfl _ _ rfl w.heap.size _ L3 rfl HO8.out w5.heap.size _ E6 rfl HO68.out p3 (by omega) (by omega) ?_))
            intro v9 w9 o9 g9 hat9
            obtain ⟨a9, k9, hv9⟩ := bytes_form o9
            subst hv9
            have HO9 := hidMk o9
            have HB9 : Hid (Below w.heap.size w w9) := HB8.out.grown g9 HB8.out.size (fun q e => (World.ownsRow.lt HO8.out q e).1)
            have HO79 : Hid (Wr.OL w9 w6.heap.size (.slice a7 E7.length k7) E7) := row_stays HO78.out g9 (fun gg e e' => by
              have q2 := HF7.out gg e
              rcases HF8.out gg e' with q1 | q1 <;> omega)
            have l9 := HB9.out.size
            have hL9 : (L3 ++ E6).length ≤ 134217728 + 10 + 71 * 8 + 20 := by rw [List.length_append]; omega
            clear o9 g9 hat9 HO8 HO68 HO78 HB8 HF8
            generalize L3 ++ E6 = L4 at *
            go_wp2_with (first
              | (at_builtin; refine Wr.wpList_append_ol rfl _ _ rfl w.heap.size _ L4 rfl HO9.out w6.heap.size _ E7 rfl HO79.out p7 (by omega) (by omega) ?_))
            intro v10 w10 o10 g10 hat10
            have HO10 : Hid (Wr.OL w10 w.heap.size v10 (L4 ++ E7)) := o10
            have HB10 : Hid (Below w.heap.size w w10) := HB9.out.grown g10 HB9.out.size (fun q e => (World.ownsRow.lt HO9.out q e).1)
            clear o10 g10 hat10 HO9 HO79 HB9
            go_wp2_with fail
            go_roundg (qs.length - j - 1)
            case measure => have := HGB.out; omega
            case rel => exact ⟨j + 1, by omega, by go_num, by rw [HNX.out, HPL.out]; go_num, by rw [HNX.out, HEN.out]; exact HO10.out, HB10.out⟩
      · have hgr' : (((grp y.c.key : Nat) : Int) == (g : Int)) = false := by simp; omega
        rw [if_neg hgr, List.append_nil] at HNX
        generalize ((grp y.c.key : Nat) : Int) = gy at *
        clear hgr
        go_wp2_with fail
        go_roundg (gk - 1)
        case measure => omega
        case rel => exact ⟨j + 1, by omega, by go_num, by rw [HNX.out], by rw [HNX.out, HLL.out]; exact HL2.out, HB2.out⟩
    · have hj' : ¬ (j : Int) < (qs.length : Int) := by omega
      have hF : (qs.map (·.c)).take j = qs.map (·.c) := List.take_of_length_le (by simp; omega)
      rw [hF, HFF.out] at HO ⊢
      obtain ⟨hk1, hk2⟩ := HOK.out F (by rw [← HFF.out]; exact List.filter_sublist)
      have HEB : Hid (EB = Wr.encInt (F.length : Int) ++ F.flatMap encCe) := HEE.out.symm
      have HBY := hidMk HO.out.bytes.2
      generalize F.flatMap encCe = L at *
      have HI := hidMk (fun W => Wr.refInt_any (F.length : Int) W (by omega) (by omega))
      have hel := Wr.encInt_len (F.length : Int) (by omega) (by omega)
      have HEP := hidMk (encInt_pos (F.length : Int))
      clear hbl hO hcase hF
      go_wp2_with fail
      refine (HI.out _).mono ?_
      rintro e w1 ⟨v1, rfl, o1, b1⟩
      obtain ⟨a1, c1, hv1⟩ := bytes_form o1
      subst hv1
      have HO1 : Hid (Wr.OL w1 wr.heap.size (.slice a1 (Wr.encInt (F.length : Int)).length c1) (Wr.encInt (F.length : Int))) := o1
      have HB1 := hidMk b1
      have l1 := b1.size
      clear o1 b1 HI
      generalize Wr.encInt (F.length : Int) = EN at *
      go_wp2_with (first
        | (at_builtin; refine wpList_append_src rfl _ _ 39 rfl wr.heap.size 5 ib (.int .u8 0) 1 1 Tryz.underlying39 hb0 hb1' hb2' hb3' rfl (by decide) _ EN.length (EN.map Wr.u8v) rfl HO1.out ax L.length cx (L.map Wr.u8v) rfl ?c0 ?c1 ?c2 ?c3 ?c4 ?c5 ?_))
      case c0 => simp
      case c1 => exact src_B (HBY.out.later HB1.out)
      case c2 => intro u hu; simp at hu; obtain ⟨q, -, rfl⟩ := hu; rfl
      case c3 => unfold maxLen; omega
      case c4 => omega
      case c5 => omega
      intro v2 w2 o2 g2 hat2
      have HO2 : Hid (Wr.OL w2 wr.heap.size v2 (EN ++ L)) := by
        unfold Hid Wr.OL
        rw [List.length_append, List.map_append]
        exact o2
      have HB2 : Hid (Below wr.heap.size wr w2) := HB1.out.grown g2 HB1.out.size (fun q e => (World.ownsRow.lt HO1.out q e).1)
      clear o2 g2 hat2 HO1
      obtain ⟨a2, c2, hv2⟩ := bytes_form HO2.out
      subst hv2
      have HSE := sealD_any a2 (EN ++ L) c2 w2 HO2.out.bytes.2 (by simp; omega)
      rw [List.length_append] at HSE
      go_wp2_with fail
      refine HSE.mono ?_
      rintro e w3 ⟨v3, rfl, o3, b3⟩
      have HB3 : Hid (Below w.heap.size w w3) := HBL.out.trans ((HB2.out.trans (b3.mono HB2.out.size)).mono HBL.out.size)
      have l2 := HB2.out.size
      have HO3 : Hid (Wr.OL w3 w.heap.size v3 (Wr.sealed EB)) := by rw [Hid, HEB.out]; exact World.ownsRow.mono o3 (by omega)
      clear o3 b3 HSE
      by_cases hz : 0 < F.length
      · have hz' : (0 : Int) < (F.length : Int) := by omega
        go_wp2_with fail
        go_ret2
        exact ⟨v3, by simp [hz], HO3.out, HB3.out⟩
      · have hz' : ¬ (0 : Int) < (F.length : Int) := by omega
        go_wp2_with fail
        go_ret2
        exact ⟨v3, by simp [hz], HO3.out, HB3.out⟩
theorem pieceD_any (g : Nat) (w : World) (B s : Nat) (lo hi : Int) (u : Value) (qs : List Cx) (h : DS w B s lo hi u qs) (hc : DC qs) :
    Calls Tryz.prog 33 #[.pointer (some ⟨s, 0, none⟩), .int .i64 (g : Int)] w fun e w' => ∃ v, e = .returned (.tuple #[v, .bool (decide (0 < ((qs.map (·.c)).filter fun c => grp c.key == g).length))]) ∧ Wr.OL w' w.heap.size v (Wr.sealed (encBody ((qs.map (·.c)).filter fun c => grp c.key == g))) ∧ Below w.heap.size w w' := pieceD_F g _ _ w B s lo hi u qs rfl rfl h hc
end Go.Proofs.YtobhccmnlmlapaaGreatDoor
namespace Go.Proofs.YtobhccmnlmlapaaGreatDoor
open Go.RowKit Go.Maps
set_option linter.unusedVariables false
set_option linter.unusedSimpArgs false
set_option maxRecDepth 100000
attribute [local go_sem ↓] eqlW neqW
attribute [local go_sem] guardW

theorem filter_at {α : Type} (p : α → Bool) (l : List α) (j : Nat) (hj : j < l.length) (hp : p l[j] = true) : (l.filter p)[((l.take j).filter p).length]? = some l[j] := by
  have e : l.filter p = (l.take j).filter p ++ (l.drop j).filter p := by rw [← List.filter_append, List.take_append_drop]
  rw [e, List.getElem?_append_right (Nat.le_refl _), Nat.sub_self, List.drop_eq_getElem_cons hj, List.filter_cons_of_pos hp]
  rfl
theorem filter_next {α : Type} (p : α → Bool) (l : List α) (j : Nat) (hj : j < l.length) : ((l.take (j + 1)).filter p).length = ((l.take j).filter p).length + (if p l[j] = true then 1 else 0) := by
  rw [List.take_succ_eq_append_getElem hj, List.filter_append, List.length_append]
  congr 1
  by_cases h : p l[j] = true <;> simp [h]
set_option maxHeartbeats 4000000 in
theorem cellsL_any (T : Int) (w : World) (B s n0 : Nat) (lo hi : Int) (u v : Value) (qs ps : List Cx) (h : DS w B s lo hi u qs) (hc : DC qs) (hr : RC w n0 v ps) (hps : ps.map (·.c) = (qs.map (·.c)).filter (ripe T)) :
    Calls Tryz.prog 28 #[v, .pointer (some ⟨s, 0, none⟩), .int .i64 T] w fun e w' => e = .returned (.bool true) ∧ Below w.heap.size w w' := by
  obtain ⟨ua, uc, rfl, hcase⟩ := h.row.form
  obtain ⟨va, vc, hv⟩ := row_form hr.own
  subst hv
  have hn := hc.len
  have d2 := h.cells.2.2
  have hpl : ps.length = ((qs.map (·.c)).filter (ripe T)).length := by rw [← hps, List.length_map]
  have hpn : ps.length ≤ qs.length := by rw [hpl]; exact Nat.le_trans (List.length_filter_le _ _) (by simp)
  have HS := hidMk h
  have HC := hidMk hc
  have HR := hidMk hr
  have HPS := hidMk hps
  have HPL := hidMk hpl
  clear h hc hr hps hpl
  go_enter Tryz.func28, Tryz.ntmps28
  go_wp2_with fail
  go_loopg [7, 8] qs.length (fun gk k i wr => ∃ j : Nat, gk + j = qs.length ∧ i = .int .i64 j ∧ k = .int .i64 ((((qs.map (·.c)).take j).filter (ripe T)).length : Int) ∧ Below w.heap.size w wr)
  case atStart => exact ⟨0, by omega, rfl, rfl, Below.refl _ _⟩
  case round =>
    obtain ⟨j, hgk, rfl, rfl, hbl⟩ := hrel
    have HBL := hidMk hbl
    have hsz := hbl.size
    have e2 := cell_later hbl d2
    have hkl : (((qs.map (·.c)).take j).filter (ripe T)).length ≤ qs.length := Nat.le_trans (List.length_filter_le _ _) (by simp; omega)
    by_cases hj : j < qs.length
    · have hj' : (j : Int) < (qs.length : Int) := by omega
      obtain ⟨gq, hg0, -⟩ : ∃ g, ua = some ⟨g, 0, none⟩ ∧ True := by
        rcases hcase with ⟨h1, -⟩ | ⟨g, h1, -⟩
        · rw [h1] at hj; simp at hj
        · exact ⟨g, h1, trivial⟩
      subst hg0
      have hm : qs[j] ∈ qs := List.getElem_mem hj
      have gkl := HC.out.klen hm
      obtain ⟨ya, yc, hdv, hyb⟩ := HS.out.row.dform hm
      obtain ⟨c0, c1, c2, c3⟩ := HS.out.row.cells j hj
      rw [hdv] at c3
      have c0 := cell_later hbl c0
      have c1 := cell_later hbl c1
      have c2 := cell_later hbl c2
      have c3 := cell_later hbl c3
      have HVL := hidMk (HS.out.row.lies hm)
      have HYB := hidMk hyb
      have hnx := filter_next (ripe T) (qs.map (·.c)) j (by simpa using hj)
      have hfa := filter_at (ripe T) (qs.map (·.c)) j (by simpa using hj)
      rw [List.getElem_map] at hnx hfa
      rw [← HPS.out] at hfa
      have HNX := hidMk hnx
      have HFA := hidMk hfa
      obtain ⟨N, hN⟩ : ∃ N, (((qs.map (·.c)).take j).filter (ripe T)).length = N := ⟨_, rfl⟩
      rw [hN] at HNX HFA hkl ⊢
      generalize qs[j] = y at *
      clear hbl hm hdv hyb hcase hN hnx hfa
      have HBX := hidMk (HBL.out.alloc hsz (.cells #[.slice y.ka y.c.key.length y.kc, .int .i64 y.c.w.f, .int .i64 y.c.w.t, .slice ya y.c.d.length yc] 97))
      have HOX := hidMk (Own.new wr 97 4 #[.slice y.ka y.c.key.length y.kc, .int .i64 y.c.w.f, .int .i64 y.c.w.t, .slice ya y.c.d.length yc] rfl)
      obtain ⟨W1, hW1⟩ : ∃ W1, W1 = wr.alloc (.cells #[.slice y.ka y.c.key.length y.kc, .int .i64 y.c.w.f, .int .i64 y.c.w.t, .slice ya y.c.d.length yc] 97) := ⟨_, rfl⟩
      by_cases hrp : y.c.w.t ≤ T
      · have hrp' : ¬ T < y.c.w.t := by omega
        have hri : ripe T y.c = true := by unfold ripe; exact decide_eq_true hrp
        have hget := HFA.out hri
        have hNl : N < ps.length := by
          have h1 := (List.getElem?_eq_some_iff.1 hget).1
          simpa using h1
        have hpc : ps[N].c = y.c := by
          have h1 := List.getElem?_eq_some_iff.1 hget
          obtain ⟨h2, h3⟩ := h1
          simpa using h3
        have hNi : (N : Int) < (ps.length : Int) := by omega
        have hne : ((N : Int) == (ps.length : Int)) = false := by simp; omega
        rw [if_pos hri] at HNX
        have hmp : ps[N] ∈ ps := List.getElem_mem hNl
        obtain ⟨gp, hgp⟩ : ∃ gp, va = some ⟨gp, 0, none⟩ := by
          rcases HR.out.own.2 with ⟨h1, h2⟩ | ⟨g, cap, cur, h1, -⟩
          · omega
          · injection h1 with h1; exact ⟨g, h1⟩
        subst hgp
        have key : ∀ i, i < 4 → w.cell? ⟨gp, N * 4 + i, none⟩ = (cellsC ps[N])[i]? := fun i hi => by
          rw [World.ownsRow.cellAt HR.out.own (N * 4 + i) (by omega), flat_at cellsC 4 (fun _ => rfl) ps N i hNl hi]
        have p0 : w.cell? ⟨gp, N * 4, none⟩ = some (.slice ps[N].ka ps[N].c.key.length ps[N].kc) := key 0 (by decide)
        have p1 : w.cell? ⟨gp, N * 4 + 1, none⟩ = some (.int .i64 ps[N].c.w.f) := key 1 (by decide)
        have p2 : w.cell? ⟨gp, N * 4 + 2, none⟩ = some (.int .i64 ps[N].c.w.t) := key 2 (by decide)
        have p3 : w.cell? ⟨gp, N * 4 + 3, none⟩ = some ps[N].dv := key 3 (by decide)
        obtain ⟨za, zc, hz, hzb, -⟩ := (HR.out.dat _ hmp).conv
        obtain ⟨ka', kc', hke, hkl', -⟩ := (HR.out.key _ hmp).form
        injection hke with hk1 hk2 hk3
        rw [← hk1] at hkl'
        rw [hz] at p3
        rw [hpc] at p0 p1 p2 p3 hzb hkl'
        generalize hpn' : ps[N] = z at *
        have HSA := hidMk (fun W (hb : Below w.heap.size w W) => refSameD y.c.key y.c.key z.ka z.kc y.ka y.kc W (hkl'.later hb) (HVL.out.later hb) (by omega) (by omega))
        have HZB := hidMk hzb
        clear key hmp hz hzb hkl' hk1 hk2 hk3 hget hpc hri hpn' HFA hrp
        go_wp2_with fail
        rw [← hW1] at HBX HOX ⊢
        clear hW1
        have hs1 := HBX.out.size
        replace p0 := cell_later HBX.out p0
        replace p1 := cell_later HBX.out p1
        replace p2 := cell_later HBX.out p2
        replace p3 := cell_later HBX.out p3
        obtain ⟨x0, x1, x2, x3⟩ : W1.cell? ⟨wr.heap.size, 0, none⟩ = some (.slice y.ka y.c.key.length y.kc) ∧ W1.cell? ⟨wr.heap.size, 1, none⟩ = some (.int .i64 y.c.w.f) ∧ W1.cell? ⟨wr.heap.size, 2, none⟩ = some (.int .i64 y.c.w.t) ∧ W1.cell? ⟨wr.heap.size, 3, none⟩ = some (.slice ya y.c.d.length yc) := ⟨HOX.out.cell 0 (by decide), HOX.out.cell 1 (by decide), HOX.out.cell 2 (by decide), HOX.out.cell 3 (by decide)⟩
        generalize hxb : wr.heap.size = xb at *
        clear hxb c0 c1 c2 c3
        refine wp_region_head (K := 7) (C := (fun W => W = W1.drew)) 8 (by kernel_rfl) (by kernel_rfl) (by kernel_rfl) (by decide) (by kernel_rfl) (by kernel_rfl) rfl ?_
        simp only [List.take_succ_cons, List.take_zero]
        with_reducible refine wpQuiet_step ?_
        intro K hK
        go_simp
        refine hK _ ?_
        clear hK K
        with_reducible refine wpQuiet_step ?_
        intro K hK
        go_simp
        refine hK _ ?_
        clear hK K
        with_reducible refine wpQuiet_step ?_
        intro K hK
        go_simp
        refine hK _ ?_
        clear hK K
        with_reducible refine wpQuiet_step ?_
        intro K hK
        go_simp
        refine hK _ ?_
        clear hK K
        with_reducible refine wpQuiet_step ?_
        intro K hK
        go_simp
        refine hK _ ?_
        clear hK K
        with_reducible refine wpQuiet_step ?_
        intro K hK
        go_simp
        refine hK _ ?_
        clear hK K
        with_reducible refine wpQuiet_step ?_
        intro K hK
        go_simp
        refine hK _ ?_
        clear hK K
        intro w' hC
        obtain rfl := hC
        refine wpAny_ready (fuel := 1) (rs := [7]) (by kernel_rfl) (by simp) ?_
        refine AllReady.cons rfl (fun K hK => ?_) AllReady.nil
        go_simp
        refine (HSA.out _ (below_drewN HBX.out 1)).mono ?_
        rintro e w2 ⟨rfl, b2⟩
        refine hK _ _ ?_
        clear hK K
        refine wpAny_ready (fuel := 0) (rs := [8]) (by kernel_rfl) (by simp) ?_
        refine AllReady.cons rfl (fun K hK => ?_) AllReady.nil
        go_simp
        refine hK _ _ ?_
        clear hK K
        refine ⟨by kernel_rfl, ?_⟩
        have b2' : Below W1.heap.size W1 w2 := (below_drewN (Below.refl _ _) 1).trans b2
        replace p1 := cell_later b2' p1
        replace p2 := cell_later b2' p2
        replace p3 := cell_later b2' p3
        replace x1 := cell_later b2' x1
        replace x2 := cell_later b2' x2
        replace x3 := cell_later b2' x3
        have HB2 := hidMk (HBX.out.trans (b2'.mono HBX.out.size))
        have cv1 := fun n => Wr.conv_bytes (w2.drewN n) za y.c.d.length zc (Wr.lat y.c.d) (HZB.out.later (below_drewN HB2.out n))
        have cv2 := fun n => Wr.conv_bytes (w2.drewN n) ya y.c.d.length yc (Wr.lat y.c.d) (HYB.out.later (below_drewN HB2.out n))
        have heq : eqN y.c.w.f y.c.w.t y.c.w.f y.c.w.t = true := by unfold eqN; simp
        clear b2 b2' HSA p0 x0
        go_wp2_with fail
        go_quiet (fail)
        go_wp2_with fail
        go_roundg (gk - 1)
        case measure => omega
        case rel => exact ⟨j + 1, by omega, by go_num, by rw [HNX.out]; go_num, below_drewN HB2.out nq⟩
      · have hrp' : T < y.c.w.t := by omega
        have hri : ripe T y.c = false := by unfold ripe; exact decide_eq_false hrp
        rw [hri, if_neg (by decide)] at HNX
        clear hrp hri HFA
        go_wp2_with fail
        rw [← hW1] at HBX ⊢
        clear hW1
        go_roundg (gk - 1)
        case measure => omega
        case rel => exact ⟨j + 1, by omega, by go_num, by rw [HNX.out, Nat.add_zero], HBX.out⟩
    · have hj' : ¬ (j : Int) < (qs.length : Int) := by omega
      have hF : (qs.map (·.c)).take j = qs.map (·.c) := List.take_of_length_le (by simp; omega)
      rw [hF, ← HPL.out]
      clear hbl hcase hF
      go_wp2_with fail
      go_ret
      exact ⟨ret_bool (by simp), HBL.out⟩
theorem range_fm {α : Type} (f : Nat → Option α) (j : Nat) : (List.range (j + 1)).filterMap f = (List.range j).filterMap f ++ (match f j with | some x => [x] | none => []) := by
  rw [List.range_succ, List.filterMap_append]
  congr 1
  cases h : f j <;> simp [h]
theorem range_pre {α : Type} (f : Nat → Option α) {j n : Nat} (h : j ≤ n) : ((List.range j).filterMap f) <+: ((List.range n).filterMap f) := by
  induction n with
  | zero => rw [Nat.le_zero.1 h]; exact List.prefix_refl _
  | succ n ih =>
    by_cases hj : j = n + 1
    · rw [hj]; exact List.prefix_refl _
    · rw [range_fm]
      exact (ih (by omega)).trans (List.prefix_append _ _)
theorem pcs_none {l : List Ce} {g : Nat} (h : ∀ c ∈ l, grp c.key ≠ g) : pcs l g = none := by
  unfold pcs
  have : ofG l g = [] := by
    cases hh : ofG l g with
    | nil => rfl
    | cons c r =>
      have hc : c ∈ ofG l g := by rw [hh]; simp
      exact absurd (ofG_mem.1 hc).2 (h c (ofG_mem.1 hc).1)
  rw [this]; rfl
theorem fm_none {α : Type} (f : Nat → Option α) (j : Nat) (h : ∀ i, i < j → f i = none) : (List.range j).filterMap f = [] := by
  induction j with
  | zero => rfl
  | succ j ih => rw [range_fm, ih (fun i hi => h i (by omega)), h j (by omega)]; rfl
theorem fm_stop {α : Type} (f : Nat → Option α) (j n : Nat) (hj : j ≤ n) (h : ∀ i, j ≤ i → i < n → f i = none) : (List.range n).filterMap f = (List.range j).filterMap f := by
  induction n with
  | zero => rw [Nat.le_zero.1 hj]
  | succ n ih =>
    by_cases he : j = n + 1
    · rw [he]
    · rw [range_fm, ih (by omega) (fun i h1 h2 => h i h1 (by omega)), h n (by omega) (by omega), List.append_nil]
set_option maxHeartbeats 4000000 in
theorem piecesL_any (w : World) (B s n0 a b : Nat) (u v : Value) (qs : List Cx) (ps : List Pc) (l : List Ce) (hab : a ≤ b ∧ b ≤ 32) (h : DS w B s (a : Int) (b : Int) u qs) (hc : DC qs) (ho : OPc w n0 v ps) (hps : ps.map (fun p => (p.g, p.b)) = saveP l) (hap : Apart l) (hl : qs.map (·.c) = srt l) (hgr : ∀ c ∈ l, a ≤ grp c.key ∧ grp c.key < b) :
    Calls Tryz.prog 10 #[v, .pointer (some ⟨s, 0, none⟩)] w fun e w' => e = .returned (.bool true) ∧ Below w.heap.size w w' := by
  obtain ⟨va, vc, hv⟩ := row_form ho.own
  subst hv
  obtain ⟨d0, d1, -⟩ := h.cells
  have HP := hidMk (fun g W (hb : Below w.heap.size w W) => pieceD_any g W B s (a : Int) (b : Int) u qs (h.later hb) hc)
  have HOF : Hid (∀ g, ((qs.map (·.c)).filter fun c => grp c.key == g) = ofG l g) := fun g => by rw [hl]; exact (ofG_srt hap g).symm
  have hpl : ps.length = (saveP l).length := by rw [← hps, List.length_map]
  have hp32 : (saveP l).length ≤ 32 := by
    unfold saveP
    exact Nat.le_trans (List.length_filterMap_le _ _) (by simp)
  have HPL := hidMk hpl
  have HPS := hidMk hps
  have HO := hidMk ho
  have HST : Hid (((List.range a).filterMap (pcs l)).length = 0) := by
    rw [Hid, fm_none (pcs l) a (fun i hi => pcs_none fun c hcl e => by have := (hgr c hcl).1; omega)]; rfl
  have HEN : Hid (saveP l = (List.range b).filterMap (pcs l)) := fm_stop (pcs l) b 32 hab.2 (fun i h1 h2 => pcs_none fun c hcl e => by have := (hgr c hcl).2; omega)
  have HBD : Hid (∀ j, j ≤ 32 → ((List.range j).filterMap (pcs l)).length ≤ 32) := fun j hj => Nat.le_trans (List.length_filterMap_le _ _) (by simpa using hj)
  have HIN : Hid (∀ j x, j < 32 → pcs l j = some x → (ps.map (fun p => (p.g, p.b)))[((List.range j).filterMap (pcs l)).length]? = some x) := fun j x hj hx => by
    rw [hps]
    have h1 : ((List.range (j + 1)).filterMap (pcs l)) <+: saveP l := range_pre (pcs l) (by omega)
    obtain ⟨r, hr⟩ := h1
    rw [← hr, range_fm, hx, List.append_assoc, List.getElem?_append_right (Nat.le_refl _), Nat.sub_self]
    rfl
  have HPC : Hid (∀ j, pcs l j = if (ofG l j).length = 0 then none else some (j, Wr.sealed (encBody (ofG l j)))) := fun j => rfl
  have hab1 := hab.1
  have hab2 := hab.2
  clear h hc ho hps hpl hl hgr hap hab
  go_enter Tryz.func10, Tryz.ntmps10
  go_wp2_with fail
  go_loopg [5, 6] (b - a) (fun gk k i wr => ∃ j : Nat, gk + j = b ∧ a ≤ j ∧ i = .int .i64 j ∧ k = .int .i64 (((List.range j).filterMap (pcs l)).length : Int) ∧ Below w.heap.size w wr)
  case atStart => exact ⟨a, by omega, Nat.le_refl _, rfl, by rw [HST.out]; rfl, Below.refl _ _⟩
  case round =>
    obtain ⟨j, hgk, haj, rfl, rfl, hbl⟩ := hrel
    have HBL := hidMk hbl
    have hsz := hbl.size
    have e0 := cell_later hbl d0
    have e1 := cell_later hbl d1
    have hkb := HBD.out j (by omega)
    by_cases hj : j < b
    · have hj' : (j : Int) < (b : Int) := by omega
      have hpd := HP.out j wr hbl
      rw [HOF.out] at hpd
      have hpj := HPC.out j
      have hix := HIN.out j
      have HRF := hidMk (range_fm (pcs l) j)
      obtain ⟨N, hN⟩ : ∃ N, ((List.range j).filterMap (pcs l)).length = N := ⟨_, rfl⟩
      rw [hN] at hix hkb ⊢
      have HNN := hidMk hN
      clear hN hbl
      have HPD := hidMk hpd
      clear hpd
      by_cases hz : (ofG l j).length = 0
      · rw [if_pos hz] at hpj
        have hz' : decide (0 < (ofG l j).length) = false := decide_eq_false (by omega)
        rw [hz'] at HPD
        have HNX : Hid (((List.range (j + 1)).filterMap (pcs l)).length = N) := by rw [Hid, HRF.out, hpj, List.append_nil]; exact HNN.out
        clear hpj hix hz hz'
        generalize Wr.sealed (encBody (ofG l j)) = SB at *
        go_wp2_with fail
        refine HPD.out.mono ?_
        rintro e w2 ⟨v2, rfl, o2, b2⟩
        obtain ⟨a2, c2, hv2⟩ := bytes_form o2
        subst hv2
        have HB2 := hidMk (HBL.out.trans (b2.mono HBL.out.size))
        clear o2 b2
        go_wp2_with fail
        go_roundg (gk - 1)
        case measure => omega
        case rel => exact ⟨j + 1, by omega, by omega, by go_num, by rw [HNX.out], HB2.out⟩
      · rw [if_neg hz] at hpj
        have hz' : decide (0 < (ofG l j).length) = true := decide_eq_true (by omega)
        rw [hz'] at HPD
        have HNX : Hid (((List.range (j + 1)).filterMap (pcs l)).length = N + 1) := by rw [Hid, HRF.out, hpj, List.length_append, HNN.out]; rfl
        have hget := hix _ (by omega) hpj
        generalize Wr.sealed (encBody (ofG l j)) = SB at *
        have hNl : N < ps.length := by
          have h1 := (List.getElem?_eq_some_iff.1 hget).1
          simpa using h1
        obtain ⟨q1, q2⟩ : ps[N].g = j ∧ ps[N].b = SB := by
          obtain ⟨h2, h3⟩ := List.getElem?_eq_some_iff.1 hget
          rw [List.getElem_map] at h3
          injection h3 with h4 h5
          exact ⟨h4, h5⟩
        have hne : ((N : Int) == (ps.length : Int)) = false := by simp; omega
        have hNi : (N : Int) < (ps.length : Int) := by omega
        obtain ⟨gp, hgp⟩ : ∃ gp, va = some ⟨gp, 0, none⟩ := by
          rcases HO.out.own.2 with ⟨h1, h2⟩ | ⟨g, cap, cur, h1, -⟩
          · omega
          · injection h1 with h1; exact ⟨g, h1⟩
        subst hgp
        have key : ∀ i, i < 2 → w.cell? ⟨gp, N * 2 + i, none⟩ = (cellsP ps[N])[i]? := fun i hi => by
          rw [World.ownsRow.cellAt HO.out.own (N * 2 + i) (by omega), flat_at cellsP 2 (fun _ => rfl) ps N i hNl hi]
        have p0 : w.cell? ⟨gp, N * 2, none⟩ = some (.int .i64 (ps[N].g : Int)) := key 0 (by decide)
        have p1 : w.cell? ⟨gp, N * 2 + 1, none⟩ = some ps[N].v := key 1 (by decide)
        obtain ⟨za, zc, hzv, hzb, -⟩ := (HO.out.byt _ (List.getElem_mem hNl)).conv
        rw [hzv] at p1
        rw [q1] at p0
        rw [q2] at p1 hzb
        have HZB := hidMk hzb
        clear hpj hix hz hz' hget key hzb hzv q1 q2
        go_wp2_with fail
        refine HPD.out.mono ?_
        rintro e w2 ⟨v2, rfl, o2, b2⟩
        obtain ⟨a2, c2, hv2⟩ := bytes_form o2
        subst hv2
        have HB2 := hidMk (HBL.out.trans (b2.mono HBL.out.size))
        have HO2 := hidMk o2.bytes.2
        replace p0 := cell_later HB2.out p0
        replace p1 := cell_later HB2.out p1
        have cv1 := fun n => Wr.conv_bytes (w2.drewN n) za SB.length zc (Wr.lat SB) (HZB.out.later (below_drewN HB2.out n))
        have cv2 := fun n => Wr.conv_bytes (w2.drewN n) a2 SB.length c2 (Wr.lat SB) (HO2.out.later (below_drewN (Below.refl _ _) n))
        clear o2 b2
        go_wp2_with fail
        go_quiet (fail)
        go_wp2_with fail
        go_roundg (gk - 1)
        case measure => omega
        case rel => exact ⟨j + 1, by omega, by omega, by go_num, by rw [HNX.out]; go_num, below_drewN HB2.out nq⟩
    · have hj' : ¬ (j : Int) < (b : Int) := by omega
      have hjb : j = b := by omega
      rw [hjb, ← HEN.out, ← HPL.out]
      clear hbl hkb
      go_wp2_with fail
      go_ret
      exact ⟨ret_bool (by simp), HBL.out⟩
end Go.Proofs.YtobhccmnlmlapaaGreatDoor
namespace Go.Proofs.YtobhccmnlmlapaaGreatDoor
open Go.RowKit Go.Maps
set_option linter.unusedVariables false
set_option linter.unusedSimpArgs false
set_option maxRecDepth 100000

/-- Bytes that can be written over. -/
def WB (w : World) (a : Option Addr) (n : Nat) : Prop := n = 0 ∨ ∃ g, a = some ⟨g, 0, none⟩ ∧ ∃ cur : Array Value, w.heap[g]? = some (.cells cur 5 (0, 0)) ∧ n ≤ cur.size ∧ ∀ i (hi : i < cur.size), i < n → ∃ z : Nat, z < 256 ∧ cur[i] = .int .u8 (z : Int)
/-- Values that can be written over. -/
def WV (w : World) (a : Option Addr) (n : Nat) : Prop := n = 0 ∨ ∃ g, a = some ⟨g, 0, none⟩ ∧ ∃ cur : Array Value, w.heap[g]? = some (.cells cur 48 (0, 0)) ∧ n * 3 ≤ cur.size
theorem WB.setB {w : World} {a : Option Addr} {n : Nat} (h : WB w a n) (g j z : Nat) (hz : z < 256) : WB (w.setCell ⟨g, j, none⟩ (.int .u8 (z : Int))) a n := by
  rcases h with h | ⟨g', e, cur, h1, h2, h3⟩
  · exact .inl h
  · refine .inr ⟨g', e, ?_⟩
    by_cases hg : g' = g
    · subst hg
      refine ⟨cur.setIfInBounds j (.int .u8 (z : Int)), heap_setCell_same w g' j cur _ _ h1, by simpa using h2, fun i hi hin => ?_⟩
      have hi' : i < cur.size := by simpa using hi
      rw [Array.getElem_setIfInBounds hi']
      split
      · exact ⟨z, hz, rfl⟩
      · exact h3 i hi' hin
    · exact ⟨cur, by rw [heap_setCell_other w ⟨g, j, none⟩ g' _ hg]; exact h1, h2, h3⟩
theorem WB.setV {w : World} {a : Option Addr} {n : Nat} (h : WB w a n) (g j : Nat) (u : Value) {cs : Array Value} (hg : w.heap[g]? = some (.cells cs 48 (0, 0))) : WB (w.setCell ⟨g, j, none⟩ u) a n := by
  rcases h with h | ⟨g', e, cur, h1, h2, h3⟩
  · exact .inl h
  · refine .inr ⟨g', e, cur, ?_, h2, h3⟩
    rw [heap_setCell_other w ⟨g, j, none⟩ g' _ (fun e => ?_)]
    · exact h1
    · have e' : g' = g := e
      rw [e', hg] at h1
      injection h1 with h1
      injection h1 with _ h1
      exact absurd h1 (by decide)
theorem WV.set {w : World} {a : Option Addr} {n : Nat} (h : WV w a n) (g j : Nat) (u : Value) : WV (w.setCell ⟨g, j, none⟩ u) a n := by
  rcases h with h | ⟨g', e, cur, h1, h2⟩
  · exact .inl h
  · refine .inr ⟨g', e, ?_⟩
    by_cases hg : g' = g
    · subst hg
      exact ⟨cur.setIfInBounds j u, heap_setCell_same w g' j cur _ _ h1, by simpa using h2⟩
    · exact ⟨cur, by rw [heap_setCell_other w ⟨g, j, none⟩ g' _ hg]; exact h1, h2⟩
theorem OL_WB {w : World} {B : Nat} {a : Option Addr} {n c : Nat} {l : List UInt8} (h : Wr.OL w B (.slice a n c) l) : WB w a l.length := by
  rcases h.2 with ⟨h1, h2⟩ | ⟨g, cap, cur, h1, h2, h3, h4, h5, h6, h7⟩
  · exact .inl h2
  · injection h1 with e1 e2 e3
    refine .inr ⟨g, e1, cur, h3, by omega, fun i hi hin => ?_⟩
    have : cur.toList[i]? = (l.map Wr.u8v)[i]? := by rw [← h7, List.getElem?_take_of_lt (by omega)]
    rw [List.getElem?_map, List.getElem?_eq_getElem hin, Array.getElem?_toList, Array.getElem?_eq_getElem hi] at this
    simp only [Option.map_some, Option.some.injEq] at this
    exact ⟨l[i].toNat, l[i].toNat_lt, this⟩
theorem OV_WV {w : World} {B : Nat} {a : Option Addr} {n c : Nat} {l : List V} (h : OV w B (.slice a n c) l) : WV w a l.length := by
  rcases h.2 with ⟨h1, h2⟩ | ⟨g, cap, cur, h1, h2, h3, h4, h5, h6, h7⟩
  · exact .inl h2
  · injection h1 with e1 e2 e3
    exact .inr ⟨g, e1, cur, h3, by omega⟩
/-- What is kept while some is written over. -/
structure KW (S : Nat → Prop) (w w' : World) : Prop where
  gs : Gs S w w'
  wb : ∀ a n, WB w a n → WB w' a n
  wv : ∀ a n, WV w a n → WV w' a n
theorem KW.refl (S : Nat → Prop) (w : World) : KW S w w := ⟨Gs.refl S w, fun _ _ h => h, fun _ _ h => h⟩
theorem KW.drew {S : Nat → Prop} {w w' : World} (h : KW S w w') (n : Nat) : KW S w (w'.drewN n) := ⟨h.gs.trans (Gs.below (below_drewN (Below.refl _ _) n)), h.wb, h.wv⟩
set_option maxHeartbeats 4000000 in
theorem spoil_any (ba : Option Addr) (bn bc : Nat) (ka : Option Addr) (kn kc : Nat) (w : World) (S : Nat → Prop) (hb : WB w ba bn) (hk : WV w ka kn) (hbn : bn ≤ 1099511627776) (hkn : kn ≤ 1099511627776) (hS : ∀ i, (0 < bn ∧ (Value.slice ba bn bc).ownBlock = some i) ∨ (0 < kn ∧ (Value.slice ka kn kc).ownBlock = some i) → S i) :
    Calls Tryz.prog 21 #[.slice ba bn bc, .slice ka kn kc] w fun e w' => e = .returned (.tuple #[]) ∧ KW S w w' := by
  have HB := hidMk hb
  have HK := hidMk hk
  have HS := hidMk hS
  clear hb hk hS
  go_enter Tryz.func21, Tryz.ntmps21
  go_wp2_with fail
  go_loopg [4] bn (fun gk i wr => ∃ j : Nat, gk + j = bn ∧ i = .int .i64 j ∧ KW S w wr)
  case atStart => exact ⟨0, by omega, rfl, KW.refl _ _⟩
  case round =>
    obtain ⟨j, hgk, rfl, hkw⟩ := hrel
    have HKW := hidMk hkw
    by_cases hj : j < bn
    · have hj' : (j : Int) < (bn : Int) := by omega
      obtain ⟨g, rfl, cur, hg, hc1, hc2⟩ : ∃ g, ba = some ⟨g, 0, none⟩ ∧ ∃ cur : Array Value, wr.heap[g]? = some (.cells cur 5 (0, 0)) ∧ bn ≤ cur.size ∧ ∀ i (hi : i < cur.size), i < bn → ∃ z : Nat, z < 256 ∧ cur[i] = .int .u8 (z : Int) := by
        rcases hkw.wb _ _ HB.out with h | h
        · omega
        · exact h
      obtain ⟨z, hz, hcz⟩ := hc2 j (by omega) hj
      have c0 : wr.cell? ⟨g, j, none⟩ = some (.int .u8 (z : Int)) := by
        simp only [World.cell?, hg]
        rw [Array.getElem?_eq_getElem (by omega), hcz]; rfl
      have f0 : wr.frozen? ⟨g, j, none⟩ = false := by simp [World.frozen?, hg]
      have HW : Hid (∀ y : Nat, y < 256 → KW S w (wr.setCell ⟨g, j, none⟩ (.int .u8 (y : Int)))) := fun y hy =>
        ⟨HKW.out.gs.trans (Gs.one (grown_set _ _ _) (fun k e => HS.out k (.inl ⟨by omega, e⟩))), fun a n h => (HKW.out.wb a n h).setB g j y hy, fun a n h => (HKW.out.wv a n h).set g j _⟩
      have HM := hidMk (HW.out ((z + 131) % 256) (by omega))
      clear hkw hg hc1 hc2 hcz
      go_wp2_with fail
      go_roundg (gk - 1)
      case measure => omega
      case rel => exact ⟨j + 1, by omega, by go_num, HM.out⟩
    · have hj' : ¬ (j : Int) < (bn : Int) := by omega
      clear hkw
      go_wp2_with fail
      go_loopg [5] kn (fun gk i wr => ∃ j : Nat, gk + j = kn ∧ i = .int .i64 j ∧ KW S w wr)
      case atStart => exact ⟨0, by omega, rfl, HKW.out⟩
      case round =>
        obtain ⟨j, hgk, rfl, hkw⟩ := hrel
        have HKW := hidMk hkw
        by_cases hj : j < kn
        · have hj' : (j : Int) < (kn : Int) := by omega
          obtain ⟨g, rfl, cur, hg, hc1⟩ : ∃ g, ka = some ⟨g, 0, none⟩ ∧ ∃ cur : Array Value, wr.heap[g]? = some (.cells cur 48 (0, 0)) ∧ kn * 3 ≤ cur.size := by
            rcases hkw.wv _ _ HK.out with h | h
            · omega
            · exact h
          have hcc : ∀ o, o < cur.size → ∃ v, wr.cell? ⟨g, o, none⟩ = some v := fun o ho => by
            simp only [World.cell?, hg]
            rw [Array.getElem?_eq_getElem ho]
            exact ⟨_, rfl⟩
          obtain ⟨z0, c0⟩ := hcc (j * 3) (by omega)
          obtain ⟨z1, c1⟩ := hcc (j * 3 + 1) (by omega)
          obtain ⟨z2, c2⟩ := hcc (j * 3 + 2) (by omega)
          have f0 : wr.frozen? ⟨g, j * 3, none⟩ = false := by simp [World.frozen?, hg]
          have f1 : wr.frozen? ⟨g, j * 3 + 1, none⟩ = false := by simp [World.frozen?, hg]
          have f2 : wr.frozen? ⟨g, j * 3 + 2, none⟩ = false := by simp [World.frozen?, hg]
          have hst : ∀ (W : World) (o : Nat) (u : Value), (∃ cs : Array Value, W.heap[g]? = some (.cells cs 48 (0, 0))) → KW S w W → KW S w (W.setCell ⟨g, o, none⟩ u) ∧ ∃ cs : Array Value, (W.setCell ⟨g, o, none⟩ u).heap[g]? = some (.cells cs 48 (0, 0)) := fun W o u hW hk => by
            obtain ⟨cs, hcs⟩ := hW
            exact ⟨⟨hk.gs.trans (Gs.one (grown_set _ _ _) (fun k e => HS.out k (.inr ⟨by omega, e⟩))), fun a n h => (hk.wb a n h).setV g o u hcs, fun a n h => (hk.wv a n h).set g o u⟩, _, heap_setCell_same W g o cs _ u hcs⟩
          obtain ⟨q1, r1⟩ := hst wr (j * 3) (.int .i64 99) ⟨_, hg⟩ HKW.out
          obtain ⟨q2, r2⟩ := hst _ (j * 3 + 1) (.int .i64 0) r1 q1
          obtain ⟨q3, -⟩ := hst _ (j * 3 + 2) (.string ⟨#[]⟩) r2 q2
          have HM := hidMk q3
          clear hkw hg hc1 hcc hst q1 q2 q3 r1 r2
          go_wp2_with fail
          go_roundg (gk - 1)
          case measure => omega
          case rel => exact ⟨j + 1, by omega, by go_num, HM.out⟩
        · have hj' : ¬ (j : Int) < (kn : Int) := by omega
          clear hkw
          go_wp2_with fail
          go_end0
          exact ⟨rfl, HKW.out⟩
end Go.Proofs.YtobhccmnlmlapaaGreatDoor
namespace Go.Proofs.YtobhccmnlmlapaaGreatDoor
open Go.RowKit Go.Maps
set_option linter.unusedVariables false
set_option linter.unusedSimpArgs false
set_option maxRecDepth 100000

/-- The program's store and the document's, side by side. -/
structure SI (w0 W : World) (t mp s : Nat) (lo hi : Int) (ss : List Sh) (u : Value) (qs : List Cx) : Prop where
  ps : PS W w0.heap.size t mp lo hi ss
  ds : DS W w0.heap.size s lo hi u qs
  dc : DC qs
  eq : qs.map (·.c) = srt (ces ss)
  sep : ∀ i, Bl t mp ss i → ¬ DB s u qs i
  bel : Below w0.heap.size w0 W
theorem SI.later {w0 W W' : World} {t mp s : Nat} {lo hi : Int} {ss : List Sh} {u : Value} {qs : List Cx} (h : SI w0 W t mp s lo hi ss u qs) (hb : Below W.heap.size W W') : SI w0 W' t mp s lo hi ss u qs :=
  ⟨h.ps.later hb, h.ds.later hb, h.dc, h.eq, h.sep, h.bel.trans (hb.mono h.bel.size)⟩
theorem SI.kept {S : Nat → Prop} {w0 W W' : World} {t mp s : Nat} {lo hi : Int} {ss : List Sh} {u : Value} {qs : List Cx} (h : SI w0 W t mp s lo hi ss u qs) (hg : Gs S W W') (h1 : ∀ i, Bl t mp ss i → ¬ S i) (h2 : ∀ i, DB s u qs i → ¬ S i) (h3 : ∀ i, S i → w0.heap.size ≤ i) : SI w0 W' t mp s lo hi ss u qs :=
  ⟨h.ps.kept hg h1, h.ds.kept hg h2, h.dc, h.eq, h.sep, h.bel.trans (hg.toBelow h.bel.size h3)⟩
theorem SI.apart {w0 W : World} {t mp s : Nat} {lo hi : Int} {ss : List Sh} {u : Value} {qs : List Cx} (h : SI w0 W t mp s lo hi ss u qs) : Apart (qs.map (·.c)) := by rw [h.eq]; exact h.ps.apart.perm (srt_perm _).symm
theorem SI.asc {w0 W : World} {t mp s : Nat} {lo hi : Int} {ss : List Sh} {u : Value} {qs : List Cx} (h : SI w0 W t mp s lo hi ss u qs) : AscC (qs.map (·.c)) := by rw [h.eq]; exact srt_asc _
theorem SI.perm {w0 W : World} {t mp s : Nat} {lo hi : Int} {ss : List Sh} {u : Value} {qs : List Cx} (h : SI w0 W t mp s lo hi ss u qs) : (qs.map (·.c)).Perm (ces ss) := by rw [h.eq]; exact srt_perm _
theorem SI.lt {w0 W : World} {t mp s : Nat} {lo hi : Int} {ss : List Sh} {u : Value} {qs : List Cx} (h : SI w0 W t mp s lo hi ss u qs) {i : Nat} (hi : Bl t mp ss i ∨ DB s u qs i) : w0.heap.size ≤ i ∧ i < W.heap.size := by
  rcases hi with hi | hi
  · exact h.ps.lt hi
  · exact h.ds.lt hi
theorem putC_perm {l m : List Ce} (h : l.Perm m) (c : Ce) : (putC l c).Perm (putC m c) := (h.filter _).cons _
theorem SI.look {w0 W : World} {t mp s : Nat} {lo hi : Int} {ss : List Sh} {u : Value} {qs : List Cx} (h : SI w0 W t mp s lo hi ss u qs) (vs : List V) (x : Wn) :
    (lookV ss vs x = none ∧ atI (qs.map (·.c)) vs x = none) ∨ ∃ y i, ∃ hi : i < qs.length, lookV ss vs x = some y ∧ atI (qs.map (·.c)) vs x = some i ∧ qs[i].c.d = y.d := by
  cases hl : lookV ss vs x with
  | none => exact .inl ⟨rfl, atI_no fun c hc => lookV_none h.ps hl c (h.perm.mem_iff.1 hc)⟩
  | some y =>
    obtain ⟨-, s0, -, hs0, hk0, hy, hyw⟩ := lookV_some hl
    have hm : (⟨s0.key, y.w, y.d⟩ : Ce) ∈ qs.map (·.c) := h.perm.mem_iff.2 (mem_ces.2 ⟨s0, hs0, y, hy, rfl⟩)
    cases ha : atI (qs.map (·.c)) vs x with
    | none => exact absurd ⟨hk0, hyw⟩ (atI_none ha _ hm)
    | some i =>
      obtain ⟨hi, k1, k2, -⟩ := atI_some ha
      have hi' : i < qs.length := by simpa using hi
      have e := h.apart.one (List.getElem_mem hi) hm (k1.trans hk0.symm) (k2.trans hyw.symm)
      rw [List.getElem_map] at e
      exact .inr ⟨y, i, hi', rfl, rfl, by rw [e]⟩
/-- What is above may be written over. -/
theorem SI.spoilt {w0 W V V' : World} {t mp s : Nat} {lo hi : Int} {ss : List Sh} {u : Value} {qs : List Cx} (h : SI w0 W t mp s lo hi ss u qs) (hV : Below W.heap.size W V) (hg : Gs (fun i => W.heap.size ≤ i) V V') : SI w0 V' t mp s lo hi ss u qs :=
  (h.later hV).kept hg (fun i hi hs => by have := (h.lt (.inl hi)).2; omega) (fun i hi hs => by have := (h.lt (.inr hi)).2; omega) (fun i hi => Nat.le_trans h.bel.size hi)
theorem ofW (ss : List Sh) (vs : List V) (hk : (ss.map (·.key)).Nodup) (hv : ∀ s ∈ ss, vk s.key = true) : ((ces ss).filter fun c => decide (c.key = vs)).map (·.w) = winsOf ss vs := by
  have hno : ∀ l : List Sh, (∀ s ∈ l, s.key ≠ vs) → (ces l).filter (fun c => decide (c.key = vs)) = [] := fun l hl => List.filter_eq_nil_iff.2 fun c hc => by
    obtain ⟨s, hs, y, hy, rfl⟩ := mem_ces.1 hc
    simpa using hl s hs
  unfold winsOf
  by_cases hvk : vk vs = true
  · rw [if_pos hvk]
    cases hs : shOf ss vs with
    | none => rw [hno ss (shOf_none hs)]; rfl
    | some s0 =>
      obtain ⟨h1, h2⟩ := shOf_some hs
      obtain ⟨p, q, rfl⟩ := List.append_of_mem h1
      rw [List.map_append, List.map_cons, List.nodup_append] at hk
      have e : ces (p ++ s0 :: q) = ces p ++ (s0.ds.map (ceOf s0.key) ++ ces q) := by unfold ces cesS; rw [List.flatMap_append, List.flatMap_cons]
      rw [e, List.filter_append, List.filter_append, hno p, hno q, List.nil_append, List.append_nil, List.filter_eq_self.2, List.map_map]
      · rfl
      · intro c hc
        obtain ⟨y, -, rfl⟩ := List.mem_map.1 hc
        exact decide_eq_true h2
      · intro s hs' e'
        exact (List.nodup_cons.1 hk.2.1).1 (List.mem_map.2 ⟨s, hs', e'.trans h2.symm⟩)
      · intro s hs' e'
        exact hk.2.2 _ (List.mem_map.2 ⟨s, hs', rfl⟩) _ (List.mem_cons_self ..) (e'.trans h2.symm)
  · rw [if_neg hvk, hno ss (fun s hs e => hvk (e ▸ hv s hs))]; rfl
theorem SI.wins {w0 W : World} {t mp s : Nat} {lo hi : Int} {ss : List Sh} {u : Value} {qs : List Cx} (h : SI w0 W t mp s lo hi ss u qs) (vs : List V) {ws : List Wn} (hp : ws.Perm (winsOf ss vs)) (ha : AscN ws) : ws = (qs.filter fun q => decide (q.c.key = vs)).map (·.c.w) := by
  have e : (qs.filter fun q => decide (q.c.key = vs)).map (·.c.w) = ((qs.map (·.c)).filter fun c => decide (c.key = vs)).map (·.w) := by
    rw [List.filter_map, List.map_map]; rfl
  rw [e]
  have hperm : (((qs.map (·.c)).filter fun c => decide (c.key = vs)).map (·.w)).Perm (winsOf ss vs) := by
    rw [← ofW ss vs h.ps.keys (fun s hs => (h.ps.sho s hs).val)]
    exact (h.perm.filter _).map _
  have hasc : AscN (((qs.map (·.c)).filter fun c => decide (c.key = vs)).map (·.w)) := by
    unfold AscN
    rw [List.pairwise_map]
    have h1 : ((qs.map (·.c)).filter fun c => decide (c.key = vs)).Pairwise fun x y => ltC y x = false := List.Pairwise.sublist List.filter_sublist h.asc
    have h2 : ∀ c ∈ (qs.map (·.c)).filter fun c => decide (c.key = vs), c.key = vs := fun c hc => by simpa using (List.mem_filter.1 hc).2
    refine List.Pairwise.imp_of_mem (fun {a b} ha hb hab => ?_) h1
    by_cases hw : b.w = a.w
    · rw [hw]; exact ltN_irrefl _
    · unfold ltC at hab
      rw [if_neg hw] at hab
      exact hab
  exact List.Perm.eq_of_pairwise (fun a b _ _ h1 h2 => ltN_tri a b h2 h1) ha hasc (hp.trans hperm.symm)
theorem PQ.low {w : World} {B B' t mp : Nat} {lo hi nc nw : Int} {ss : List Sh} (h : PQ w B t mp lo hi nc nw ss) (hB : B' ≤ B) : PQ w B' t mp lo hi nc nw ss :=
  ⟨h.own, h.mpo, fun s hs => (h.sho s hs).low hB, ⟨Nat.le_trans hB h.ge.1, Nat.le_trans hB h.ge.2⟩, h.ne, h.ds, h.fx, h.wl, h.rg⟩
/-- What a step leaves. -/
def StepPost (w0 : World) (s : Nat) (lo hi : Int) (e : Ending) (W' : World) : Prop := ∃ t mp ss u qs, e = .returned (.tuple #[.pointer (some ⟨t, 0, none⟩), .bool true]) ∧ SI w0 W' t mp s lo hi ss u qs
theorem made_list (z : Array Value) (n : Nat) : madeCells z n = (madeCells z n).toList.toArray := by simp
theorem made_len (z : Array Value) (n : Nat) (h : 0 < z.size) : (madeCells z n).toList.length = n := by
  unfold madeCells
  simp
theorem src_hs {w : World} {a : Option Addr} {cs : List Value} (h : ∀ j u, cs[j]? = some u → ∃ y, a = some y ∧ w.cell? (y.add j) = some u) : 0 < cs.length → ∃ y, a = some y ∧ ∀ j v, cs[j]? = some v → w.cell? (y.add j) = some v := fun hp => by
  obtain ⟨y, e, -⟩ := h 0 _ (List.getElem?_eq_getElem hp)
  refine ⟨y, e, fun j v hj => ?_⟩
  obtain ⟨y', e', hc⟩ := h j v hj
  rw [e] at e'
  cases e'
  exact hc
theorem flatV_sum (l : List V) : (l.map fun a => (cellsV a).length).sum = l.length * 3 := by
  have q := len_cellsV l
  rw [List.length_flatMap] at q
  exact q
theorem Gs.under {N : Nat} {w w' : World} (hb : Below N w w') : Gs (fun i => N ≤ i) w w' := ⟨hb.os, hb.tape, hb.output, hb.size, fun i _ hn => hb.block i (by omega)⟩
theorem size26 : (Tryz.prog.info? 48).map (·.size) = some 3 := by kernel_rfl
theorem row_of_block {W : World} {g e size n : Nat} {xs : List Value} {B : Nat} (hg : W.heap[g]? = some (.cells xs.toArray e (0, 0))) (hB : B ≤ g) (hl : xs.length = n * size) (hn : n ≤ maxLen) : W.ownsRow B e size (.slice (some ⟨g, 0, none⟩) n n) n xs :=
  ⟨hl, .inr ⟨g, n, xs.toArray, rfl, hB, hg, Nat.le_refl _, hn, by simp [hl], by simp [← hl]⟩⟩
end Go.Proofs.YtobhccmnlmlapaaGreatDoor
