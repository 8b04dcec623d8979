import Derived.Test.YtmeeoamcelkhmaaGreatDoorTbO
namespace Go.Proofs.YtmeeoamcelkhmaaGreatDoor
open Go.RowKit Go.Maps
set_option linter.unusedVariables false
set_option linter.unusedSimpArgs false
set_option maxRecDepth 100000

theorem lbefore_any (x y : Tx) (w : World) : Calls Tryz.prog 26 #[.agg #[.int .i64 x.m, .string x.sn, .int .i64 x.tk], .agg #[.int .i64 y.m, .string y.sn, .int .i64 y.tk]] w fun e w' => e = .returned (.bool (ltT x y)) ∧ Below w.heap.size w w' := by
  have hB : Below w.heap.size w ((w.alloc (.cells #[.int .i64 x.m, .string x.sn, .int .i64 x.tk] 27)).alloc (.cells #[.int .i64 y.m, .string y.sn, .int .i64 y.tk] 27)) := (bel1 _ _).alloc (by simp) _
  have HB := hidMk hB
  clear hB
  go_enter Tryz.func26, Tryz.ntmps26
  go_wp2_with fail
  all_goals
    rename_i hm
    go_ret
    refine ⟨?_, HB.out⟩
    unfold ltT
  · have h1 : ¬ x.m = y.m := by simpa using hm
    rw [if_neg h1]
    rfl
  · rename_i hm1 _ _
    have h1 : x.m = y.m := by simpa using hm1
    have h2 : ¬ x.sn = y.sn := fun e => by rw [e] at hm; simp at hm
    rw [if_pos h1, if_neg h2]
    rfl
  · rename_i hm1
    have h1 : x.m = y.m := by simpa using hm1
    have h2 : x.sn = y.sn := by
      have : (x.sn.toList == y.sn.toList) = true := by simpa using hm
      exact toList_inj (eq_of_beq this)
    rw [if_pos h1, if_pos h2]
    rfl
def lenAt (hs : List Hp) (x : Tx) : Nat := ((hs.find? fun h => decide (h.x = x)).map fun h => h.rs.length).getD 0
theorem lenAt_eq {hs : List Hp} (hn : (hs.map (·.x)).Nodup) {k : Nat} (hk : k < hs.length) : lenAt hs hs[k].x = hs[k].rs.length := by
  unfold lenAt
  have : hs.find? (fun h => decide (h.x = hs[k].x)) = some hs[k] := by
    cases hf : hs.find? (fun h => decide (h.x = hs[k].x)) with
    | none => exact absurd (List.find?_eq_none.1 hf hs[k] (List.getElem_mem hk)) (by simp)
    | some p =>
      obtain ⟨i, hi, rfl⟩ := List.getElem_of_mem (List.mem_of_find?_eq_some hf)
      have e : hs[i].x = hs[k].x := by simpa using List.find?_some hf
      rcases Nat.lt_trichotomy i k with q | q | q
      · exact absurd (by rw [List.getElem_map, List.getElem_map, e]) ((List.pairwise_iff_getElem.1 hn) i k (by simpa using hi) (by simpa using hk) q)
      · subst q; rfl
      · exact absurd (by rw [List.getElem_map, List.getElem_map, e]) ((List.pairwise_iff_getElem.1 hn) k i (by simpa using hk) (by simpa using hi) q)
  rw [this]; rfl
def lens (hs : List Hp) : Nat := (hs.map fun h => h.rs.length).sum
theorem lens_perm {hs : List Hp} {vs : List Tx} (hn : (hs.map (·.x)).Nodup) (hp : vs.Perm (hs.map (·.x))) : (vs.map (lenAt hs)).sum = lens hs := by
  rw [(hp.map (lenAt hs)).sum_nat, List.map_map]
  unfold lens
  congr 1
  refine List.map_congr_left fun h hh => ?_
  obtain ⟨k, hk, rfl⟩ := List.getElem_of_mem hh
  exact lenAt_eq hn hk
theorem sum_take (l : List Nat) (j : Nat) : (l.take j).sum ≤ l.sum := by
  conv => rhs; rw [← List.take_append_drop j l, List.sum_append]
  omega
theorem rise_at {vs : List Tx} {hs : List Hp} (hp : vs.Perm (hs.map (·.x))) (hn : (hs.map (·.x)).Nodup) (i : Nat) (hi : i < vs.length) : ∃ k, ∃ hk : k < hs.length, hs[k].x = vs[i] ∧ ∀ j (hj : j < hs.length), j < k → ¬ hs[j].x = vs[i] := by
  have hm : vs[i] ∈ hs.map (·.x) := hp.mem_iff.1 (List.getElem_mem hi)
  obtain ⟨f, hf, e⟩ := List.mem_map.1 hm
  obtain ⟨k, hk, rfl⟩ := List.getElem_of_mem hf
  refine ⟨k, hk, e, fun j hj hjk e3 => ?_⟩
  have := (List.pairwise_iff_getElem.1 hn) j k (by rw [List.length_map]; exact hj) (by rw [List.length_map]; exact hk) hjk
  apply this
  rw [List.getElem_map, List.getElem_map, e, e3]
theorem rise_up {vs : List Tx} {hs : List Hp} (hp : vs.Perm (hs.map (·.x))) (ha : AscT vs) (hn : (hs.map (·.x)).Nodup) (i : Nat) (hi : i + 1 < vs.length) : ltT vs[i] vs[i + 1] = true := by
  have h1 := (List.pairwise_iff_getElem.1 ha) i (i + 1) (by omega) hi (by omega)
  cases h2 : ltT vs[i] vs[i + 1] with
  | true => rfl
  | false =>
    have hnd : vs.Nodup := hp.nodup_iff.2 hn
    exact absurd (ltT_tri _ _ h2 h1) ((List.pairwise_iff_getElem.1 hnd) i (i + 1) (by omega) hi (by omega))
theorem OT.cells {w : World} {B g c : Nat} {vs : List Tx} (h : OT w B (.slice (some ⟨g, 0, none⟩) vs.length c) vs) (i : Nat) (hi : i < vs.length) : w.cell? ⟨g, i * 3, none⟩ = some (.int .i64 vs[i].m) ∧ w.cell? ⟨g, i * 3 + 1, none⟩ = some (.string vs[i].sn) ∧ w.cell? ⟨g, i * 3 + 2, none⟩ = some (.int .i64 vs[i].tk) := by
  have key : ∀ j, j < 3 → w.cell? ⟨g, i * 3 + j, none⟩ = (cellsT vs[i])[j]? := fun j hj => by
    rw [World.ownsRow.cellAt h (i * 3 + j) (by omega), flat_at cellsT 3 (fun _ => rfl) vs i j hi hj]
  exact ⟨key 0 (by decide), key 1 (by decide), key 2 (by decide)⟩

set_option maxHeartbeats 4000000 in
theorem lwaiting_any (w : World) (B B' : Nat) (v got : Value) (hs : List Hp) (vs : List Tx) (h : LH w B v hs) (hv : OT w B' got vs) (hr : vs.Perm (hs.map (·.x))) (ha : AscT vs) (hnd : (hs.map (·.x)).Nodup) (hn : hs.length ≤ 1099511627776) (hsum : lens hs ≤ 1099511627776) :
    Calls Tryz.prog 17 #[got, .int .i64 (lens hs : Int), v] w fun e w' => e = .returned (.bool true) ∧ Below w.heap.size w w' := by
  obtain ⟨ax, cx, rfl⟩ := row_form h
  obtain ⟨av, cv, rfl⟩ := row_form hv
  have hlen : vs.length = hs.length := by have := hr.length_eq; rw [List.length_map] at this; exact this
  have HL := hidMk h
  have HV := hidMk hv
  have HR := hidMk hr
  have HA := hidMk ha
  have HN := hidMk hnd
  have HLEN := hidMk hlen
  have HTOT := hidMk (lens_perm hnd hr)
  rw [hlen] at ⊢
  clear h hv hr hnd hlen ha
  go_enter Tryz.func17, Tryz.ntmps17
  go_wp2_with fail
  go_loopg [7, 8] hs.length (fun gk s i wr => ∃ j : Nat, gk + j = hs.length ∧ s = .int .i64 (((vs.take j).map (lenAt hs)).sum : Nat) ∧ i = .int .i64 j ∧ Below w.heap.size w wr)
  case atStart => exact ⟨0, by omega, by simp, rfl, Below.refl _ _⟩
  case round =>
    obtain ⟨j, hgk, rfl, rfl, hb⟩ := hrel
    have HB := hidMk hb
    have hsz := hb.size
    by_cases hj : j < hs.length
    · have hj' : (j : Int) < (hs.length : Int) := by omega
      have hjs : j < vs.length := by rw [HLEN.out]; exact hj
      obtain ⟨k, hk, e1, e2⟩ := rise_at HR.out HN.out j hjs
      obtain ⟨g, rfl⟩ : ∃ g, av = some ⟨g, 0, none⟩ := by
        rcases HV.out.2 with ⟨h1, h2⟩ | ⟨g, c, cur, h1, _⟩
        · omega
        · injection h1 with q; exact ⟨g, q⟩
      obtain ⟨gl, rfl⟩ : ∃ g, ax = some ⟨g, 0, none⟩ := by
        rcases HL.out.2 with ⟨h1, h2⟩ | ⟨g, c, cur, h1, _⟩
        · omega
        · injection h1 with q; exact ⟨g, q⟩
      obtain ⟨-, -, -, l3⟩ := HL.out.cells k hk
      obtain ⟨c0, c1, c2⟩ := HV.out.cells j hjs
      have HL3 := hidMk l3
      have C0 := hidMk c0
      have C1 := hidMk c1
      have C2 := hidMk c2
      have c0 := cell_later hb c0
      have c1 := cell_later hb c1
      have c2 := cell_later hb c2
      have HC := hidMk (find_any wr B (.slice (some ⟨gl, 0, none⟩) hs.length cx) hs vs[j] k (own_later HL.out hb) hn (by omega) e2 (fun _ => e1) (k : Int) (by rw [if_pos hk]))
      have hstep : ((vs.take (j + 1)).map (lenAt hs)).sum = ((vs.take j).map (lenAt hs)).sum + hs[k].rs.length := by
        rw [List.take_succ_eq_append_getElem hjs, List.map_append, List.sum_append, List.map_singleton, List.sum_singleton, ← e1, lenAt_eq HN.out hk]
      have hle : ((vs.take (j + 1)).map (lenAt hs)).sum ≤ lens hs := by
        rw [← HTOT.out, List.map_take]; exact sum_take _ _
      have HST := hidMk hstep
      rw [hstep] at hle
      unfold vv at HC
      rcases Nat.eq_zero_or_pos j with hj0 | hj0
      · subst hj0
        clear hb e1 e2 hstep l3
        generalize vs[0] = s1 at *
        generalize ((vs.take 0).map (lenAt hs)).sum = su at *
        generalize hs[k].rs.length = nk at *
        go_wp2_with fail
        refine HC.out.mono ?_
        rintro e w1 ⟨rfl, hb1⟩
        have hb2 := HB.out.trans (hb1.mono hsz)
        have l3 := cell_later hb2 HL3.out
        have HB2 := hidMk hb2
        clear hb1 hb2 c0 c1 c2
        have hkn : ¬ (k : Int) < 0 := by omega
        have hkd : decide ((k : Int) < 0) = false := by simp
        have hkl : (k : Int) < (hs.length : Int) := by omega
        have hws : IntKind.i64.wrap ((su : Int) + (nk : Int)) = (su : Int) + (nk : Int) := wi64 (by omega) (by omega)
        go_wp2_with fail
        go_roundg (gk - 1)
        case measure => omega
        case rel => exact ⟨0 + 1, by omega, by rw [HST.out]; go_num, by go_num, HB2.out⟩
      · obtain ⟨i, rfl⟩ : ∃ i, j = i + 1 := ⟨j - 1, by omega⟩
        obtain ⟨b0, b1, b2⟩ := HV.out.cells i (by omega)
        have B0 := hidMk b0
        have B1 := hidMk b1
        have B2 := hidMk b2
        have hup := rise_up HR.out HA.out HN.out i hjs
        clear hb e1 e2 hstep l3 b0 b1 b2
        generalize vs[i + 1] = s1 at *
        generalize vs[i] = s0 at *
        generalize ((vs.take (i + 1)).map (lenAt hs)).sum = su at *
        generalize hs[k].rs.length = nk at *
        go_wp2_with fail
        refine HC.out.mono ?_
        rintro e w1 ⟨rfl, hb1⟩
        have hb2 := HB.out.trans (hb1.mono hsz)
        have l3 := cell_later hb2 HL3.out
        have m0 := cell_later hb2 C0.out
        have m1 := cell_later hb2 C1.out
        have m2 := cell_later hb2 C2.out
        have n0 := cell_later hb2 B0.out
        have n1 := cell_later hb2 B1.out
        have n2 := cell_later hb2 B2.out
        have HB2 := hidMk hb2
        have HSZ2 := hidMk hb2.size
        clear hb1 hb2 c0 c1 c2
        have HCB := hidMk (fun W => lbefore_any s0 s1 W)
        rw [hup] at HCB
        clear hup
        have hkn : ¬ (k : Int) < 0 := by omega
        have hkd : decide ((k : Int) < 0) = false := by simp
        have hkl : (k : Int) < (hs.length : Int) := by omega
        have hw1 : IntKind.i64.wrap (((i + 1 : Nat) : Int) - 1) = (i : Int) := by rw [show ((i + 1 : Nat) : Int) - 1 = (i : Int) by omega]; exact wi64 (by omega) (by omega)
        have hw2 : IntKind.i64.wrap ((i : Int) + 1 - 1) = (i : Int) := by rw [show (i : Int) + 1 - 1 = (i : Int) by omega]; exact wi64 (by omega) (by omega)
        have hw3 : IntKind.i64.wrap (i : Int) = (i : Int) := wi64 (by omega) (by omega)
        have hws : IntKind.i64.wrap ((su : Int) + (nk : Int)) = (su : Int) + (nk : Int) := wi64 (by omega) (by omega)
        have hj2 : (i : Int) + 1 < (hs.length : Int) := by omega
        have hi2 : (i : Int) < (hs.length : Int) := by omega
        have hg1 : (0 : Int) < (i : Int) + 1 := by omega
        have hg2 : decide ((0 : Int) < (i : Int) + 1) = true := decide_eq_true (by omega)
        have hg3 : decide ((i : Int) + 1 > 0) = true := decide_eq_true (by omega)
        have hi0' : (0 : Int) ≤ (i : Int) := by omega
        have hi1' : (0 : Int) ≤ (i : Int) + 1 := by omega
        have ht1 : ((i : Int) + 1).toNat = i + 1 := by omega
        clear hj'
        go_wp2_with fail
        go_region_held3 (fun w' => w'.cell? ⟨g, i * 3, none⟩ = some (.int .i64 s0.m) ∧ w'.cell? ⟨g, i * 3 + 1, none⟩ = some (.string s0.sn) ∧ w'.cell? ⟨g, i * 3 + 2, none⟩ = some (.int .i64 s0.tk) ∧ w'.cell? ⟨g, (i + 1) * 3, none⟩ = some (.int .i64 s1.m) ∧ w'.cell? ⟨g, (i + 1) * 3 + 1, none⟩ = some (.string s1.sn) ∧ w'.cell? ⟨g, (i + 1) * 3 + 2, none⟩ = some (.int .i64 s1.tk))
          (first | exact ⟨n0, n1, n2, m0, m1, m2⟩ | exact HSK | go_keep)
          ((go_at_call 26; refine (HCB.out _).mono ?_; rintro e w3 ⟨rfl, hb3⟩; have HB3 : Hid (Below w.heap.size w w3) := HB2.out.trans (below_drewN (Below.refl _ _) 1 |>.trans hb3 |>.mono HSZ2.out); have HSK := (show _ ∧ _ ∧ _ ∧ _ ∧ _ ∧ _ from ⟨cell_later hb3 n0, cell_later hb3 n1, cell_later hb3 n2, cell_later hb3 m0, cell_later hb3 m1, cell_later hb3 m2⟩); clear hb3))
        all_goals
          have HX3 := hidMk HSK
          clear HSK m0 m1 m2 n0 n1 n2
          go_wp2_with fail
          go_roundg (gk - 1)
          case measure => omega
          case rel => exact ⟨i + 1 + 1, by omega, by rw [HST.out]; go_num, by go_num, HB3.out⟩
    · have hj' : ¬ (j : Int) < (hs.length : Int) := by omega
      have hall : ((vs.take j).map (lenAt hs)).sum = lens hs := by rw [List.take_of_length_le (by rw [HLEN.out]; omega), HTOT.out]
      rw [hall]
      clear hb hall
      go_wp2_with fail
      go_ret
      exact ⟨rfl, HB.out⟩
end Go.Proofs.YtmeeoamcelkhmaaGreatDoor
