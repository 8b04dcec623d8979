import Derived.Test.YtafighjlciglpaaDoorWrtC
namespace Go.Proofs.YtafighjlciglpaaDoor
open Go.RowKit
set_option linter.unusedVariables false
set_option maxRecDepth 100000

structure Rw where
  t : Int
  vs : List V
def encRow (r : Rw) : List UInt8 := encInt r.t ++ (encInt (r.vs.length : Int) ++ r.vs.flatMap encVal)
def encRows (rs : List Rw) : List UInt8 := encInt (rs.length : Int) ++ rs.flatMap encRow

/-- Values lie in memory where the slice 'a' begins. -/
def VLies (w : World) (a : Option Addr) (vs : List V) : Prop :=
  ∀ i (hi : i < vs.length), ∃ b off, a = some ⟨b, off, none⟩ ∧ w.cell? ⟨b, off + i * 3, none⟩ = some (.int .i64 vs[i].k) ∧ w.cell? ⟨b, off + i * 3 + 1, none⟩ = some (.int .i64 vs[i].n) ∧ w.cell? ⟨b, off + i * 3 + 2, none⟩ = some (.string vs[i].s)
theorem VLies.later {w wx : World} {a : Option Addr} {vs : List V} (h : VLies w a vs) (hb : Below w.heap.size w wx) : VLies wx a vs := fun i hi => by
  obtain ⟨b, off, e, h1, h2, h3⟩ := h i hi
  exact ⟨b, off, e, cell_later hb h1, cell_later hb h2, cell_later hb h3⟩
/-- Rows lie in memory where the slice 'a' begins. -/
def RLies (w : World) (a : Option Addr) (rs : List Rw) : Prop :=
  ∀ i (hi : i < rs.length), ∃ b off av cv, a = some ⟨b, off, none⟩ ∧ w.cell? ⟨b, off + i * 2, none⟩ = some (.int .i64 rs[i].t) ∧ w.cell? ⟨b, off + i * 2 + 1, none⟩ = some (.slice av rs[i].vs.length cv) ∧ VLies w av rs[i].vs
theorem RLies.later {w wx : World} {a : Option Addr} {rs : List Rw} (h : RLies w a rs) (hb : Below w.heap.size w wx) : RLies wx a rs := fun i hi => by
  obtain ⟨b, off, av, cv, e, h1, h2, h3⟩ := h i hi
  exact ⟨b, off, av, cv, e, cell_later hb h1, cell_later hb h2, h3.later hb⟩
def GoodV (v : V) : Prop := -9223372036854775808 ≤ v.n ∧ v.n ≤ 9223372036854775807 ∧ v.s.size ≤ 549755813888
def GoodR (r : Rw) : Prop := -9223372036854775808 ≤ r.t ∧ r.t ≤ 9223372036854775807 ∧ r.vs.length ≤ 549755813888 ∧ ∀ v ∈ r.vs, GoodV v

/-- Bytes in a row of one's own. -/
def OL (w : World) (B : Nat) (v : Value) (l : List UInt8) : Prop := w.ownsRow B 5 1 v l.length (l.map u8v)
theorem OL.later {w w' : World} {B : Nat} {v : Value} {l : List UInt8} (h : OL w B v l) (hb : Below w.heap.size w w') : OL w' B v l := own_later h hb

theorem putInt_ol (v : Value) (l : List UInt8) (x : Int) (B : Nat) (w : World) (hown : OL w B v l) (hB : B ≤ w.heap.size) (h1 : -9223372036854775808 ≤ x) (h2 : x ≤ 9223372036854775807) (hn : l.length ≤ 1099511627776) :
    Calls Tryd.prog 27 #[v, .int .i64 x] w fun e w' => ∃ v', e = .returned v' ∧ OL w' B v' (l ++ encInt x) ∧ Only w w' v.ownBlock v'.ownBlock := by
  refine (putInt_any v l.length l x B w hown hB h1 h2 hn).mono ?_
  rintro e w' ⟨v', rfl, h, k⟩
  exact ⟨v', rfl, by unfold OL; rw [List.length_append]; exact h, k⟩
theorem putCount_ol (v : Value) (l : List UInt8) (x : Int) (B : Nat) (w : World) (hown : OL w B v l) (hB : B ≤ w.heap.size) (h1 : -9223372036854775808 ≤ x) (h2 : x ≤ 9223372036854775807) (hn : l.length ≤ 1099511627776) :
    Calls Tryd.prog 26 #[v, .int .i64 x] w fun e w' => ∃ v', e = .returned v' ∧ OL w' B v' (l ++ encInt x) ∧ Only w w' v.ownBlock v'.ownBlock := by
  refine (putCount_any v l.length l x B w hown hB h1 h2 hn).mono ?_
  rintro e w' ⟨v', rfl, h, k⟩
  exact ⟨v', rfl, by unfold OL; rw [List.length_append]; exact h, k⟩
theorem putValue_ol (v : Value) (l : List UInt8) (x : V) (B : Nat) (w : World) (hown : OL w B v l) (hB : B ≤ w.heap.size) (hx : GoodV x) (hn : l.length ≤ 549755813888) :
    Calls Tryd.prog 28 #[v, .agg #[.int .i64 x.k, .int .i64 x.n, .string x.s]] w fun e w' => ∃ v', e = .returned v' ∧ OL w' B v' (l ++ encVal x) ∧ Below B w w' := by
  refine (putValue_any v l.length l x B w hown hB hx.1 hx.2.1 hn hx.2.2).mono ?_
  rintro e w' ⟨v', rfl, h, k⟩
  exact ⟨v', rfl, by unfold OL; rw [List.length_append]; exact h, k⟩
theorem refInt_ol (x : Int) (w : World) (h1 : -9223372036854775808 ≤ x) (h2 : x ≤ 9223372036854775807) :
    Calls Tryd.prog 31 #[.int .i64 x] w fun e w' => ∃ v', e = .returned v' ∧ OL w' w.heap.size v' (encInt x) ∧ Below w.heap.size w w' := refInt_any x w h1 h2
theorem take_flat {α : Type} (f : α → List UInt8) (l : List α) (k : Nat) (hk : k < l.length) : (l.take (k + 1)).flatMap f = (l.take k).flatMap f ++ f l[k] := by
  rw [List.take_succ_eq_append_getElem hk, List.flatMap_append]; simp
theorem flat_le {α : Type} (f : α → List UInt8) (l : List α) (k : Nat) : ((l.take k).flatMap f).length ≤ (l.flatMap f).length := by
  have h : l.flatMap f = (l.take k).flatMap f ++ (l.drop k).flatMap f := by rw [← List.flatMap_append, List.take_append_drop]
  rw [h, List.length_append]; omega
theorem flat_lt {α : Type} (f : α → List UInt8) (l : List α) (k : Nat) (hk : k < l.length) : ((l.take k).flatMap f).length + (f l[k]).length ≤ (l.flatMap f).length := by
  have := flat_le f l (k + 1)
  rw [take_flat f l k hk, List.length_append] at this
  exact this

set_option maxHeartbeats 4000000 in
theorem putRows_any (w0 w : World) (a : Option Addr) (cap : Nat) (rs : List Rw) (v : Value) (l : List UInt8) (hl : RLies w0 a rs) (hg : ∀ r ∈ rs, GoodR r) (hr : rs.length ≤ 549755813888) (hb0 : Below w0.heap.size w0 w) (hown : OL w w0.heap.size v l) (hlen : l.length + (encRows rs).length ≤ 549755813888) :
    Calls Tryd.prog 13 #[v, .slice a rs.length cap] w fun e w' => ∃ v', e = .returned v' ∧ OL w' w0.heap.size v' (l ++ encRows rs) ∧ Below w0.heap.size w w' := by
  have HL : Hid (RLies w0 a rs) := hl
  have HG : Hid (∀ r ∈ rs, GoodR r) := hg
  have HO : Hid (OL w w0.heap.size v l) := hown
  have HB0 : Hid (Below w0.heap.size w0 w) := hb0
  have hs0 := hb0.size
  have HE : Hid (encRows rs = encInt (rs.length : Int) ++ rs.flatMap encRow) := rfl
  have hE : (encRows rs).length = (encInt (rs.length : Int)).length + (rs.flatMap encRow).length := by rw [HE.out, List.length_append]
  clear hl hg hown hb0
  go_enter Tryd.func13, Tryd.ntmps13
  go_wp2_with fail
  refine (putCount_ol v l (rs.length : Int) w0.heap.size w HO.out hs0 (by omega) (by omega) (by omega)).mono ?_
  rintro e w1 ⟨v1, rfl, ho1, hon1⟩
  have HB1 : Hid (Below w0.heap.size w w1) := hon1.below HO.out hs0
  have H1 : Hid (OL w1 w0.heap.size v1 (l ++ encInt (rs.length : Int))) := ho1
  clear ho1 hon1 HO
  go_wp2
  go_loopw [0, 15] (fun v i w' => ∃ k : Nat, k ≤ rs.length ∧ i = .int .i64 k ∧ OL w' w0.heap.size v (l ++ encInt (rs.length : Int) ++ (rs.take k).flatMap encRow) ∧ Below w0.heap.size w w' ∧ w0.heap.size ≤ w'.heap.size) (fun _ i _ => rs.length - (intOf i).toNat)
  case atStart => exact ⟨0, Nat.zero_le _, rfl, by simpa using H1.out, HB1.out, Nat.le_trans hs0 HB1.out.size⟩
  case round =>
    obtain ⟨k, hk, rfl, ho, hb, hsz⟩ := hrel
    have HBK : Hid (Below w0.heap.size w wr) := hb
    have HOK : Hid (OL wr w0.heap.size u0 (l ++ encInt (rs.length : Int) ++ (rs.take k).flatMap encRow)) := ho
    have hlt0 : ∀ g, u0.ownBlock = some g → g < wr.heap.size := fun g h => (ho.lt g h).2
    clear ho hb H1 HB1
    by_cases hlt : k < rs.length
    · obtain ⟨b, off, av, cv, rfl, c1, c2, hv⟩ := HL.out k hlt
      replace c1 := cell_later (HB0.out.trans HBK.out) c1
      replace c2 := cell_later (HB0.out.trans HBK.out) c2
      have HV : Hid (VLies w0 av rs[k].vs) := hv
      have HGK : Hid (GoodR rs[k]) := HG.out _ (List.getElem_mem hlt)
      have hfl := flat_lt encRow rs k hlt
      have HF : Hid ((rs.take (k + 1)).flatMap encRow = (rs.take k).flatMap encRow ++ encRow rs[k]) := take_flat encRow rs k hlt
      have HER : Hid (encRow rs[k] = encInt rs[k].t ++ (encInt (rs[k].vs.length : Int) ++ rs[k].vs.flatMap encVal)) := rfl
      have hER : (encRow rs[k]).length = (encInt rs[k].t).length + ((encInt (rs[k].vs.length : Int)).length + (rs[k].vs.flatMap encVal).length) := by rw [HER.out, List.length_append, List.length_append]
      have ht := HGK.out.1
      have ht2 := HGK.out.2.1
      have hvl := HGK.out.2.2.1
      have hki : (k : Int) < (rs.length : Int) := by omega
      clear hv
      have HGV : Hid (∀ v ∈ rs[k].vs, GoodV v) := HGK.out.2.2.2
      obtain ⟨L, hL⟩ : ∃ L, L = l ++ encInt (rs.length : Int) ++ (rs.take k).flatMap encRow := ⟨_, rfl⟩
      have hLl : L.length = l.length + (encInt (rs.length : Int)).length + ((rs.take k).flatMap encRow).length := by rw [hL, List.length_append, List.length_append]
      have HLN : Hid (l ++ encInt (rs.length : Int) ++ (rs.take (k + 1)).flatMap encRow = L ++ encInt rs[k].t ++ encInt (rs[k].vs.length : Int) ++ rs[k].vs.flatMap encVal) := by
        unfold Hid
        rw [HF.out, HER.out, hL]
        simp only [List.append_assoc]
      rw [← hL] at HOK
      have hne0 : some wr.heap.size ≠ u0.ownBlock := fun e => by have := hlt0 _ e.symm; omega
      clear HF HER HGK hL
      generalize rs[k].vs = vs at *
      generalize rs[k].t = T at *
      go_wp2_with fail
      refine (putInt_ol u0 L T w0.heap.size _ (HOK.out.later (bel1 wr _)) (by simp; omega) ht ht2 (by omega)).mono ?_
      rintro e w2 ⟨v2, rfl, ho2, hon2⟩
      have d2 : w2.cell? ⟨wr.heap.size, 1, none⟩ = some (.slice av vs.length cv) := hon2.cell (by simp) hne0
      have H2 : Hid (OL w2 w0.heap.size v2 (L ++ encInt T)) := ho2
      have HB2 : Hid (Below w0.heap.size w w2) := (HBK.out.alloc hsz _).trans (hon2.below (HOK.out.later (bel1 wr _)) (by simp; omega))
      have hne2 : some wr.heap.size ≠ v2.ownBlock := only_ne hon2 (by simp) hne0
      have hs2 : w0.heap.size ≤ w2.heap.size := Nat.le_trans hs0 HB2.out.size
      have hl2 : (L ++ encInt T).length = L.length + (encInt T).length := List.length_append
      clear ho2 hon2 hne0 HOK
      go_wp2_with fail
      refine (putCount_ol v2 (L ++ encInt T) (vs.length : Int) w0.heap.size w2 H2.out hs2 (by omega) (by omega) (by omega)).mono ?_
      rintro e w3 ⟨v3, rfl, ho3, hon3⟩
      have d3 : w3.cell? ⟨wr.heap.size, 1, none⟩ = some (.slice av vs.length cv) := hon3.cell d2 hne2
      have H3 : Hid (OL w3 w0.heap.size v3 (L ++ encInt T ++ encInt (vs.length : Int))) := ho3
      have HB3 : Hid (Below w0.heap.size w w3) := HB2.out.trans (hon3.below H2.out hs2)
      have hs3 : w0.heap.size ≤ w3.heap.size := Nat.le_trans hs0 HB3.out.size
      have hl3 : (L ++ encInt T ++ encInt (vs.length : Int)).length = (L ++ encInt T).length + (encInt (vs.length : Int)).length := List.length_append
      clear ho3 hon3 hne2 H2 HB2 d2
      generalize L ++ encInt T ++ encInt (vs.length : Int) = M at *
      go_wp2
      go_loopw [0, 31] (fun v i w' => ∃ j : Nat, j ≤ vs.length ∧ i = .int .i64 j ∧ OL w' w0.heap.size v (M ++ (vs.take j).flatMap encVal) ∧ Below w0.heap.size w w' ∧ w0.heap.size ≤ w'.heap.size) (fun _ i _ => vs.length - (intOf i).toNat)
      case atStart => exact ⟨0, Nat.zero_le _, rfl, by simpa using H3.out, HB3.out, hs3⟩
      case round =>
        obtain ⟨j, hj, rfl, ho, hb, hsz'⟩ := hrel
        have HBJ : Hid (Below w0.heap.size w wr) := hb
        have HOJ : Hid (OL wr w0.heap.size u0 (M ++ (vs.take j).flatMap encVal)) := ho
        clear ho hb H3 HB3
        by_cases hjt : j < vs.length
        · obtain ⟨b', off', rfl, e1, e2, e3⟩ := HV.out j hjt
          replace e1 := cell_later (HB0.out.trans HBJ.out) e1
          replace e2 := cell_later (HB0.out.trans HBJ.out) e2
          replace e3 := cell_later (HB0.out.trans HBJ.out) e3
          have hgv := HGV.out _ (List.getElem_mem hjt)
          have HGJ : Hid (GoodV vs[j]) := hgv
          have hji : (j : Int) < (vs.length : Int) := by omega
          have hfj := flat_lt encVal vs j hjt
          have hmj : (M ++ (vs.take j).flatMap encVal).length = M.length + ((vs.take j).flatMap encVal).length := List.length_append
          have HFJ : Hid (M ++ (vs.take (j + 1)).flatMap encVal = M ++ (vs.take j).flatMap encVal ++ encVal vs[j]) := by unfold Hid; rw [take_flat encVal vs j hjt, List.append_assoc]
          clear hgv
          go_wp2_with fail
          refine (putValue_ol u0 (M ++ (vs.take j).flatMap encVal) vs[j] w0.heap.size _ (HOJ.out.later (bel1 wr _)) (by simp; omega) HGJ.out (by omega)).mono ?_
          rintro e w5 ⟨v5, rfl, ho5, hb5⟩
          have H5 : Hid (OL w5 w0.heap.size v5 (M ++ (vs.take (j + 1)).flatMap encVal)) := by rw [Hid, HFJ.out]; exact ho5
          have HB5 : Hid (Below w0.heap.size w w5) := (HBJ.out.alloc hsz' _).trans hb5
          clear ho5 hb5 HOJ HFJ
          go_wp2
          go_roundw
          case rel => exact ⟨j + 1, by omega, by go_num, H5.out, HB5.out, Nat.le_trans hs0 HB5.out.size⟩
          case measure => simp [intOf]; omega
        · obtain rfl : j = vs.length := by omega
          have HE5 : Hid (OL wr w0.heap.size u0 (l ++ encInt (rs.length : Int) ++ (rs.take (k + 1)).flatMap encRow)) := by
            rw [Hid, HLN.out]
            have := HOJ.out
            rw [List.take_of_length_le (Nat.le_refl _)] at this
            exact this
          clear HOJ
          go_wp2
          go_roundw
          case rel => exact ⟨k + 1, by omega, by go_num, HE5.out, HBJ.out, hsz'⟩
          case measure => simp [intOf]; omega
    · obtain rfl : k = rs.length := by omega
      go_wp2
      go_ret
      refine ⟨u0, rfl, ?_, HBK.out⟩
      have := HOK.out
      rw [List.take_of_length_le (Nat.le_refl _), List.append_assoc, ← HE.out] at this
      exact this
end Go.Proofs.YtafighjlciglpaaDoor
