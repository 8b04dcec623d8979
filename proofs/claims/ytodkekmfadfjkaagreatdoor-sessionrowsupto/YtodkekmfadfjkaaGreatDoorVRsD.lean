import Derived.Test.YtodkekmfadfjkaaGreatDoorVRsC
import Derived.Test.YtodkekmfadfjkaaGreatDoorVBkR
namespace Go.Proofs.YtodkekmfadfjkaaGreatDoor.Vl
open Go.RowKit
set_option linter.unusedVariables false
set_option maxRecDepth 100000

def cells3 (v : V) : List Value := [.int .i64 v.k, .int .i64 v.n, .string v.s]
theorem flat3 : ∀ (l : List V) (i j : Nat) (hi : i < l.length), j < 3 → (l.flatMap cells3)[i * 3 + j]? = (cells3 l[i])[j]?
  | a :: l, 0, j, _, hj => by
    rw [List.flatMap_cons, Nat.zero_mul, Nat.zero_add, List.getElem?_append_left (by simpa [cells3] using hj)]; rfl
  | a :: l, i + 1, j, hi, hj => by
    have ih := flat3 l i j (by simpa using hi) hj
    rw [List.flatMap_cons, List.getElem?_append_right (by simp [cells3]; omega), show (i + 1) * 3 + j - (cells3 a).length = i * 3 + j by simp [cells3]; omega, ih]
    rfl
/-- What the document's reader of texts gives. -/
def RPost (w : World) (s : ByteArray) (e : Ending) (w' : World) : Prop := ∃ (k n : Int) (t : ByteArray) (ok : Bool), e = .returned (.tuple #[.agg #[.int .i64 k, .int .i64 n, .string t], .bool ok]) ∧ Below w.heap.size w w' ∧
    (ok = true → validB k n t = true ∧ showB k n t = s ∧ -9223372036854775808 ≤ n ∧ n ≤ 9223372036854775807) ∧ (ok = false → ∀ k' n' t', -9223372036854775808 ≤ n' → n' ≤ 9223372036854775807 → validB k' n' t' = true → showB k' n' t' ≠ s)

/-- The values that a text can be. -/
def cands (s : ByteArray) (t : ByteArray) : List V := [⟨0, 0, ⟨#[]⟩⟩, ⟨2, 0, ⟨#[]⟩⟩, ⟨2, 1, ⟨#[]⟩⟩, ⟨1, wholeF s.data.toList, ⟨#[]⟩⟩, ⟨3, 0, t⟩]
def midT (s : ByteArray) : ByteArray := if 1 < s.size then ⟨(unq ((s.data.toList.drop 1).take (s.size - 2))).toArray⟩ else ⟨#[]⟩

theorem cands_all (s : ByteArray) (k n : Int) (t : ByteArray) (h0 : -9223372036854775808 ≤ n) (h1 : n ≤ 9223372036854775807) (hv : validB k n t = true) (hs : showB k n t = s) : (⟨k, n, t⟩ : V) ∈ cands s (midT s) := by
  have hsv := show_valid hv
  rw [hs] at hsv
  unfold cands
  rcases valid_form hv with ⟨rfl, rfl, rfl⟩ | ⟨rfl, rfl⟩ | ⟨rfl, rfl, rfl⟩ | ⟨rfl, rfl, rfl⟩ | ⟨rfl, rfl, hz⟩
  · simp
  · rw [if_pos rfl] at hsv
    have : wholeF s.data.toList = n := by rw [hsv]; exact wholeF_itoa n h0 h1
    rw [this]; simp
  · simp
  · simp
  · rw [if_neg (by decide), if_neg (by decide), if_pos rfl] at hsv
    have hd : s.data.toList = 39 :: (escAll t.data.toList ++ [39]) := by rw [hsv]; simp
    have hsz : s.size = (escAll t.data.toList).length + 2 := by
      have : s.data.toList.length = s.size := by simp
      rw [← this, hd]; simp
    have hm : midT s = t := by
      unfold midT
      rw [if_pos (by omega), hd, hsz]
      simp only [List.drop_succ_cons, List.drop_zero, Nat.add_sub_cancel]
      rw [List.take_left', unq_esc]
      rfl
    rw [hm]; simp
theorem candA {s : ByteArray} {v : V} (hv : v ∈ cands s (midT s)) : (-9223372036854775808 ≤ v.n ∧ v.n ≤ 9223372036854775807) ∧ v.s.size ≤ s.size := by
  have hw : -9223372036854775808 ≤ wholeF s.data.toList ∧ wholeF s.data.toList ≤ 9223372036854775807 := by
    unfold wholeF
    split
    · exact wrap64_in _
    · exact wacc_in _
  have hm : (midT s).size ≤ s.size := by
    unfold midT
    split
    · have := unq_len ((s.data.toList.drop 1).take (s.size - 2))
      rw [List.length_take] at this
      show (unq ((s.data.toList.drop 1).take (s.size - 2))).toArray.size ≤ _
      rw [List.size_toArray]
      omega
    · exact Nat.zero_le _
  unfold cands at hv
  simp only [List.mem_cons, List.not_mem_nil, or_false] at hv
  rcases hv with rfl | rfl | rfl | rfl | rfl
  · exact ⟨by decide, Nat.zero_le _⟩
  · exact ⟨by decide, Nat.zero_le _⟩
  · exact ⟨by decide, Nat.zero_le _⟩
  · exact ⟨hw, Nat.zero_le _⟩
  · exact ⟨⟨by show (-9223372036854775808 : Int) ≤ 0; decide, by show (0 : Int) ≤ 9223372036854775807; decide⟩, hm⟩

theorem slice_inner (s : ByteArray) (h : 1 < s.size) (w : World) :
    (Instr.slice 9 (.string s) (some (.int .i64 1)) (some (.int .i64 ((s.size : Int) - 1))) none).run Tryz.prog w = .ok (.string ⟨((s.data.toList.drop 1).take (s.size - 2)).toArray⟩) w := by
  rw [run_slice_string w 9 s .i64 .i64 1 ((s.size : Int) - 1) Tryz.underlying9 (by omega) (by omega) (by omega)]
  rw [show ((s.size : Int) - 1).toNat = s.size - 1 by omega, show (1 : Int).toNat = 1 by rfl]
  congr 2
  apply ByteArray.ext
  apply Array.toList_inj.1
  rw [ByteArray.data_extract, Array.toList_extract]
  simp [List.extract, Nat.sub_sub]

theorem own_grown' {w w' : World} {B e size n : Nat} {v : Value} {xs : List Value} {r : Option Nat} (h : w.ownsRow B e size v n xs) (hg : w.grownBy w' r) (hne : ∀ g, v.ownBlock = some g → some g ≠ r) : w'.ownsRow B e size v n xs := by
  refine ⟨h.1, ?_⟩
  rcases h.2 with h2 | ⟨g, cap, cur, h1, h2, h3, h4⟩
  · exact .inl h2
  · refine .inr ⟨g, cap, cur, h1, h2, ?_, h4⟩
    have hlt : g < w.heap.size := by
      rcases Nat.lt_or_ge g w.heap.size with h | h
      · exact h
      · rw [Array.getElem?_eq_none h] at h3; cases h3
    rw [hg.block g hlt (hne g (by rw [h1]; rfl))]; exact h3
/-- The rest of the reader: the list lies there. -/
theorem cand_cells {W : World} {B hb : Nat} {l : List V} (ho : W.ownsRow B 39 3 (.slice (some ⟨hb, 0, none⟩) 5 5) 5 (l.flatMap cells3)) (hl : l.length = 5) (j : Nat) (hj : j < l.length) :
    W.cell? ⟨hb, j * 3, none⟩ = some (.int .i64 l[j].k) ∧ W.cell? ⟨hb, j * 3 + 1, none⟩ = some (.int .i64 l[j].n) ∧ W.cell? ⟨hb, j * 3 + 2, none⟩ = some (.string l[j].s) := by
  have key : ∀ i, i < 3 → W.cell? ⟨hb, j * 3 + i, none⟩ = (cells3 l[j])[i]? := fun i hi => by
    rw [World.ownsRow.cellAt ho (j * 3 + i) (by omega), flat3 l j i hj hi]
  exact ⟨key 0 (by decide), key 1 (by decide), key 2 (by decide)⟩

set_option maxHeartbeats 4000000 in
theorem refRead_any (s : ByteArray) (w : World) (hs : s.size ≤ 140737488355327) :
    Calls Tryz.prog 13 #[.string s] w (RPost w s) := by
  have hlen : s.data.toList.length = s.size := by simp
  have hO1 := World.ownsRow_lit (base := w.heap.size) (e := 39) (size := 3) (w.alloc (.cells #[.int .i64 0, .int .i64 0, .string ⟨#[]⟩] 39)) ((cands s ⟨#[]⟩).flatMap cells3).toArray 5 (by simp) (by decide) rfl
  have HO1 : Hid (((w.alloc (.cells #[.int .i64 0, .int .i64 0, .string ⟨#[]⟩] 39)).alloc (.cells ((cands s ⟨#[]⟩).flatMap cells3).toArray 39)).ownsRow w.heap.size 39 3 (.slice (some ⟨w.heap.size + 1, 0, none⟩) 5 5) 5 ((cands s ⟨#[]⟩).flatMap cells3)) := by
    unfold Hid
    simpa using hO1
  have HB1 : Hid (Below w.heap.size w ((w.alloc (.cells #[.int .i64 0, .int .i64 0, .string ⟨#[]⟩] 39)).alloc (.cells ((cands s ⟨#[]⟩).flatMap cells3).toArray 39))) := (bel1 w _).alloc (by simp) _
  have ecs : ((cands s ⟨#[]⟩).flatMap cells3).toArray = #[.int .i64 0, .int .i64 0, .string ⟨#[]⟩, .int .i64 2, .int .i64 0, .string ⟨#[]⟩, .int .i64 2, .int .i64 1, .string ⟨#[]⟩, .int .i64 1, .int .i64 (wholeF s.data.toList), .string ⟨#[]⟩, .int .i64 3, .int .i64 0, .string ⟨#[]⟩] := rfl
  rw [ecs] at HO1 HB1
  clear hO1 ecs
  go_enter Tryz.func13, Tryz.ntmps13
  go_wp2_with fail
  refine (whole_any s _ (by omega)).mono ?_
  rintro e w1 ⟨rfl, rfl⟩
  have HZ0 : Hid (((w.alloc (.cells #[.int .i64 0, .int .i64 0, .string ⟨#[]⟩] 39)).alloc (.cells #[.int .i64 0, .int .i64 0, .string ⟨#[]⟩, .int .i64 2, .int .i64 0, .string ⟨#[]⟩, .int .i64 2, .int .i64 1, .string ⟨#[]⟩, .int .i64 1, .int .i64 (wholeF s.data.toList), .string ⟨#[]⟩, .int .i64 3, .int .i64 0, .string ⟨#[]⟩] 39)).ownsRow w.heap.size 39 3 (.slice (some ⟨w.heap.size, 0, none⟩) 1 1) 1 [.int .i64 0, .int .i64 0, .string ⟨#[]⟩]) := by
    have := World.ownsRow_lit (base := w.heap.size) (e := 39) (size := 3) w #[.int .i64 0, .int .i64 0, .string ⟨#[]⟩] 1 (Nat.le_refl _) (by decide) rfl
    exact World.ownsRow.alloc this _
  by_cases h1 : 1 < s.size
  · have h1i : (1 : Int) < (s.size : Int) := by omega
    have hsl := slice_inner s h1
    obtain ⟨M, hM⟩ : ∃ M : ByteArray, M = ⟨((s.data.toList.drop 1).take (s.size - 2)).toArray⟩ := ⟨_, rfl⟩
    have hMz : M.size ≤ s.size := by rw [hM]; show (((s.data.toList.drop 1).take (s.size - 2)).toArray).size ≤ _; rw [List.size_toArray, List.length_take]; omega
    have hmid : (⟨(unq M.data.toList).toArray⟩ : ByteArray) = midT s := by rw [hM]; unfold midT; rw [if_pos h1]
    rw [← hM] at hsl
    clear hM
    go_wp2_with fail
    refine (unquoted_any M _ (by omega)).mono ?_
    rintro e w2 ⟨rfl, hb2⟩
    rw [hmid]
    have hO2 := owns_later HO1.out hb2
    have hZ2 := owns_later HZ0.out hb2
    have HB2 : Hid (Below w.heap.size w w2) := HB1.out.trans (hb2.mono HB1.out.size)
    have y14 := World.ownsRow.cellAt hO2 14 (by decide)
    have f14 := World.ownsRow.frozenAt hO2 14
    obtain ⟨hO3, hg3⟩ := World.ownsRow.stored hO2 14 (.string (midT s))
    have HOWw : Hid ((w2.setCell ⟨w.heap.size + 1, 14, none⟩ (.string (midT s))).ownsRow w.heap.size 39 3 (.slice (some ⟨w.heap.size + 1, 0, none⟩) 5 5) 5 ((cands s (midT s)).flatMap cells3)) := hO3
    have HORw : Hid ((w2.setCell ⟨w.heap.size + 1, 14, none⟩ (.string (midT s))).ownsRow w.heap.size 39 3 (.slice (some ⟨w.heap.size, 0, none⟩) 1 1) 1 [.int .i64 0, .int .i64 0, .string ⟨#[]⟩]) := own_grown' hZ2 hg3 (fun g hg e => by cases hg; have h : w.heap.size = w.heap.size + 1 := Option.some.inj e; omega)
    have HBWw : Hid (Below w.heap.size w (w2.setCell ⟨w.heap.size + 1, 14, none⟩ (.string (midT s)))) := HB2.out.setCell (by simp) _
    simp [cands, cells3] at y14
    clear hb2 hO2 hZ2 hO3 hg3 hsl hmid HO1 HB1 HZ0 HB2
    go_wp2
    generalize w2.setCell ⟨w.heap.size + 1, 14, none⟩ (.string (midT s)) = W at *
    have HOW := HOWw
    have HOR := HORw
    have HBW := HBWw
    clear y14 f14
    have HC5 : Hid ((cands s (midT s)).length = 5) := rfl
    go_loopw [5] (fun i w' => ∃ j : Nat, j ≤ 5 ∧ i = .int .i64 j ∧ Below W.heap.size W w' ∧ ∀ m (h : m < (cands s (midT s)).length), m < j → showB (cands s (midT s))[m].k (cands s (midT s))[m].n (cands s (midT s))[m].s = s → s.toList.isEmpty = true) (fun i _ => 5 - (intOf i).toNat)
    case atStart => exact ⟨0, by omega, rfl, Below.refl _ _, fun m h hm => absurd hm (by omega)⟩
    case round =>
      obtain ⟨j, hj, rfl, hb, hno⟩ := hrel
      have HB : Hid (Below W.heap.size W wr) := hb
      have HNO : Hid (∀ m (h : m < (cands s (midT s)).length), m < j → showB (cands s (midT s))[m].k (cands s (midT s))[m].n (cands s (midT s))[m].s = s → s.toList.isEmpty = true) := hno
      have hz := owns_later HOR.out hb
      have z0 := World.ownsRow.cellAt hz 0 (by decide)
      have z1 := World.ownsRow.cellAt hz 1 (by decide)
      have z2 := World.ownsRow.cellAt hz 2 (by decide)
      have f0 := World.ownsRow.frozenAt hz 0
      have f1 := World.ownsRow.frozenAt hz 1
      have f2 := World.ownsRow.frozenAt hz 2
      have HZ : Hid (wr.ownsRow w.heap.size 39 3 (.slice (some ⟨w.heap.size, 0, none⟩) 1 1) 1 [.int .i64 0, .int .i64 0, .string ⟨#[]⟩]) := hz
      have hszw := hb.size
      simp at z0 z1 z2
      clear hb hno hz
      by_cases hlt : j < 5
      · have hji : (j : Int) < 5 := by omega
        have hj5 : j < (cands s (midT s)).length := by rw [HC5.out]; exact hlt
        obtain ⟨e0, e1, e2⟩ := cand_cells (owns_later HOW.out HB.out) HC5.out j hj5
        have hca := candA (List.getElem_mem hj5)
        have hvs := hca.2
        have HNJ : Hid ((showB (cands s (midT s))[j].k (cands s (midT s))[j].n (cands s (midT s))[j].s = s → s.toList.isEmpty = true) → ∀ m (h : m < (cands s (midT s)).length), m < j + 1 → showB (cands s (midT s))[m].k (cands s (midT s))[m].n (cands s (midT s))[m].s = s → s.toList.isEmpty = true) := fun h m hm hmj => by
          by_cases hmj' : m = j
          · subst hmj'; exact h
          · exact HNO.out m hm (by omega)
        generalize (cands s (midT s))[j] = v at *
        go_wp2_with fail
        refine (refShow_any v.k v.n v.s wr (by unfold maxLen; omega) hca.1.1 hca.1.2).mono ?_
        rintro e w5 ⟨rfl, hb5⟩
        have HB5 : Hid (Below W.heap.size W w5) := HB.out.trans (hb5.mono hszw)
        have g0 := cell_later hb5 e0
        have g1 := cell_later hb5 e1
        have g2 := cell_later hb5 e2
        have hz5 := owns_later HZ.out hb5
        have y0 := World.ownsRow.cellAt hz5 0 (by decide)
        have y1 := World.ownsRow.cellAt hz5 1 (by decide)
        have y2 := World.ownsRow.cellAt hz5 2 (by decide)
        have x0 := World.ownsRow.frozenAt hz5 0
        have x1 := World.ownsRow.frozenAt hz5 1
        have x2 := World.ownsRow.frozenAt hz5 2
        simp at y0 y1 y2
        have HSV : Hid (validB v.k v.n v.s = false → showB v.k v.n v.s = ⟨#[]⟩) := show_none
        clear hb5 hz5 e0 e1 e2 z0 z1 z2 f0 f1 f2 HZ HB HNO
        generalize hSh : showB v.k v.n v.s = S at *
        have HSh : Hid (showB v.k v.n v.s = S) := hSh
        clear hSh
        cases hq : (S.toList == s.toList)
        · have HR : Hid (∀ m (h : m < (cands s (midT s)).length), m < j + 1 → showB (cands s (midT s))[m].k (cands s (midT s))[m].n (cands s (midT s))[m].s = s → s.toList.isEmpty = true) := HNJ.out (fun h => by rw [h] at hq; simp at hq)
          clear HNJ
          go_wp2
          go_roundw
          case rel => exact ⟨j + 1, by omega, by go_num, HB5.out, HR.out⟩
          case measure => simp [intOf]; omega
        · cases hem : s.toList.isEmpty
          · have hSs : S = s := toList_inj (by simpa using hq)
            have hval : validB v.k v.n v.s = true := by
              cases hv : validB v.k v.n v.s
              · have h := HSV.out hv
                rw [← hSs, h] at hem
                simp at hem
              · rfl
            have FIN : Hid (∀ w6, Below w.heap.size w w6 → RPost w s (.returned (.tuple #[.agg #[.int .i64 v.k, .int .i64 v.n, .string v.s], .bool true])) w6) := fun w6 h6 => ⟨v.k, v.n, v.s, true, rfl, h6, fun _ => ⟨hval, by rw [HSh.out, hSs], hca.1.1, hca.1.2⟩, fun h => by cases h⟩
            clear hSs hval HNJ HSV HSh
            go_wp2
            refine bodyPost_ret (v := .tuple #[.agg #[.int .i64 v.k, .int .i64 v.n, .string v.s], .bool true]) (by simp [results, Tryz.results13, go_sem, y0, y1, y2]) rfl (FIN.out _ ?_)
            exact (((HBW.out.trans (HB5.out.mono HBW.out.size)).setCell (Nat.le_refl _) _).setCell (Nat.le_refl _) _).setCell (Nat.le_refl _) _
          · have HR : Hid (∀ m (h : m < (cands s (midT s)).length), m < j + 1 → showB (cands s (midT s))[m].k (cands s (midT s))[m].n (cands s (midT s))[m].s = s → s.toList.isEmpty = true) := HNJ.out (fun _ => hem)
            clear HNJ
            go_wp2
            go_roundw
            case rel => exact ⟨j + 1, by omega, by go_num, HB5.out, HR.out⟩
            case measure => simp [intOf]; omega
      · obtain rfl : j = 5 := by omega
        have FIN : Hid (∀ w6, Below w.heap.size w w6 → RPost w s (.returned (.tuple #[.agg #[.int .i64 0, .int .i64 0, .string ⟨#[]⟩], .bool false])) w6) := fun w6 h6 => ⟨0, 0, ⟨#[]⟩, false, rfl, h6, (fun h => by cases h), fun _ k' n' t' hn0 hn1 hv hsh => by
          have hm := cands_all s k' n' t' hn0 hn1 hv hsh
          obtain ⟨m, hml, hme⟩ := List.getElem_of_mem hm
          have := HNO.out m hml (by rw [HC5.out] at hml; exact hml) (by rw [hme]; exact hsh)
          rw [← hsh, show_empty hv] at this
          cases this⟩
        clear HNO
        go_wp2
        refine bodyPost_ret (v := .tuple #[.agg #[.int .i64 0, .int .i64 0, .string ⟨#[]⟩], .bool false]) (by simp [results, Tryz.results13, go_sem, z0, z1, z2]) rfl (FIN.out _ ?_)
        exact (((HBW.out.trans (HB.out.mono HBW.out.size)).setCell (Nat.le_refl _) _).setCell (Nat.le_refl _) _).setCell (Nat.le_refl _) _
  · have h1i : ¬ (1 : Int) < (s.size : Int) := by omega
    have hmid : midT s = ⟨#[]⟩ := by unfold midT; rw [if_neg h1]
    have HOWw : Hid (((w.alloc (.cells #[.int .i64 0, .int .i64 0, .string ⟨#[]⟩] 39)).alloc (.cells #[.int .i64 0, .int .i64 0, .string ⟨#[]⟩, .int .i64 2, .int .i64 0, .string ⟨#[]⟩, .int .i64 2, .int .i64 1, .string ⟨#[]⟩, .int .i64 1, .int .i64 (wholeF s.data.toList), .string ⟨#[]⟩, .int .i64 3, .int .i64 0, .string ⟨#[]⟩] 39)).ownsRow w.heap.size 39 3 (.slice (some ⟨w.heap.size + 1, 0, none⟩) 5 5) 5 ((cands s (midT s)).flatMap cells3)) := by rw [Hid, hmid]; exact HO1.out
    have HORw := HZ0
    have HBWw := HB1
    clear HO1 HZ0 HB1 hmid
    go_wp2
    generalize ((w.alloc (.cells #[.int .i64 0, .int .i64 0, .string ⟨#[]⟩] 39)).alloc (.cells #[.int .i64 0, .int .i64 0, .string ⟨#[]⟩, .int .i64 2, .int .i64 0, .string ⟨#[]⟩, .int .i64 2, .int .i64 1, .string ⟨#[]⟩, .int .i64 1, .int .i64 (wholeF s.data.toList), .string ⟨#[]⟩, .int .i64 3, .int .i64 0, .string ⟨#[]⟩] 39)) = W at *
    have HOW := HOWw
    have HOR := HORw
    have HBW := HBWw
    have HC5 : Hid ((cands s (midT s)).length = 5) := rfl
    go_loopw [5] (fun i w' => ∃ j : Nat, j ≤ 5 ∧ i = .int .i64 j ∧ Below W.heap.size W w' ∧ ∀ m (h : m < (cands s (midT s)).length), m < j → showB (cands s (midT s))[m].k (cands s (midT s))[m].n (cands s (midT s))[m].s = s → s.toList.isEmpty = true) (fun i _ => 5 - (intOf i).toNat)
    case atStart => exact ⟨0, by omega, rfl, Below.refl _ _, fun m h hm => absurd hm (by omega)⟩
    case round =>
      obtain ⟨j, hj, rfl, hb, hno⟩ := hrel
      have HB : Hid (Below W.heap.size W wr) := hb
      have HNO : Hid (∀ m (h : m < (cands s (midT s)).length), m < j → showB (cands s (midT s))[m].k (cands s (midT s))[m].n (cands s (midT s))[m].s = s → s.toList.isEmpty = true) := hno
      have hz := owns_later HOR.out hb
      have z0 := World.ownsRow.cellAt hz 0 (by decide)
      have z1 := World.ownsRow.cellAt hz 1 (by decide)
      have z2 := World.ownsRow.cellAt hz 2 (by decide)
      have f0 := World.ownsRow.frozenAt hz 0
      have f1 := World.ownsRow.frozenAt hz 1
      have f2 := World.ownsRow.frozenAt hz 2
      have HZ : Hid (wr.ownsRow w.heap.size 39 3 (.slice (some ⟨w.heap.size, 0, none⟩) 1 1) 1 [.int .i64 0, .int .i64 0, .string ⟨#[]⟩]) := hz
      have hszw := hb.size
      simp at z0 z1 z2
      clear hb hno hz
      by_cases hlt : j < 5
      · have hji : (j : Int) < 5 := by omega
        have hj5 : j < (cands s (midT s)).length := by rw [HC5.out]; exact hlt
        obtain ⟨e0, e1, e2⟩ := cand_cells (owns_later HOW.out HB.out) HC5.out j hj5
        have hca := candA (List.getElem_mem hj5)
        have hvs := hca.2
        have HNJ : Hid ((showB (cands s (midT s))[j].k (cands s (midT s))[j].n (cands s (midT s))[j].s = s → s.toList.isEmpty = true) → ∀ m (h : m < (cands s (midT s)).length), m < j + 1 → showB (cands s (midT s))[m].k (cands s (midT s))[m].n (cands s (midT s))[m].s = s → s.toList.isEmpty = true) := fun h m hm hmj => by
          by_cases hmj' : m = j
          · subst hmj'; exact h
          · exact HNO.out m hm (by omega)
        generalize (cands s (midT s))[j] = v at *
        go_wp2_with fail
        refine (refShow_any v.k v.n v.s wr (by unfold maxLen; omega) hca.1.1 hca.1.2).mono ?_
        rintro e w5 ⟨rfl, hb5⟩
        have HB5 : Hid (Below W.heap.size W w5) := HB.out.trans (hb5.mono hszw)
        have g0 := cell_later hb5 e0
        have g1 := cell_later hb5 e1
        have g2 := cell_later hb5 e2
        have hz5 := owns_later HZ.out hb5
        have y0 := World.ownsRow.cellAt hz5 0 (by decide)
        have y1 := World.ownsRow.cellAt hz5 1 (by decide)
        have y2 := World.ownsRow.cellAt hz5 2 (by decide)
        have x0 := World.ownsRow.frozenAt hz5 0
        have x1 := World.ownsRow.frozenAt hz5 1
        have x2 := World.ownsRow.frozenAt hz5 2
        simp at y0 y1 y2
        have HSV : Hid (validB v.k v.n v.s = false → showB v.k v.n v.s = ⟨#[]⟩) := show_none
        clear hb5 hz5 e0 e1 e2 z0 z1 z2 f0 f1 f2 HZ HB HNO
        generalize hSh : showB v.k v.n v.s = S at *
        have HSh : Hid (showB v.k v.n v.s = S) := hSh
        clear hSh
        cases hq : (S.toList == s.toList)
        · have HR : Hid (∀ m (h : m < (cands s (midT s)).length), m < j + 1 → showB (cands s (midT s))[m].k (cands s (midT s))[m].n (cands s (midT s))[m].s = s → s.toList.isEmpty = true) := HNJ.out (fun h => by rw [h] at hq; simp at hq)
          clear HNJ
          go_wp2
          go_roundw
          case rel => exact ⟨j + 1, by omega, by go_num, HB5.out, HR.out⟩
          case measure => simp [intOf]; omega
        · cases hem : s.toList.isEmpty
          · have hSs : S = s := toList_inj (by simpa using hq)
            have hval : validB v.k v.n v.s = true := by
              cases hv : validB v.k v.n v.s
              · have h := HSV.out hv
                rw [← hSs, h] at hem
                simp at hem
              · rfl
            have FIN : Hid (∀ w6, Below w.heap.size w w6 → RPost w s (.returned (.tuple #[.agg #[.int .i64 v.k, .int .i64 v.n, .string v.s], .bool true])) w6) := fun w6 h6 => ⟨v.k, v.n, v.s, true, rfl, h6, fun _ => ⟨hval, by rw [HSh.out, hSs], hca.1.1, hca.1.2⟩, fun h => by cases h⟩
            clear hSs hval HNJ HSV HSh
            go_wp2
            refine bodyPost_ret (v := .tuple #[.agg #[.int .i64 v.k, .int .i64 v.n, .string v.s], .bool true]) (by simp [results, Tryz.results13, go_sem, y0, y1, y2]) rfl (FIN.out _ ?_)
            exact (((HBW.out.trans (HB5.out.mono HBW.out.size)).setCell (Nat.le_refl _) _).setCell (Nat.le_refl _) _).setCell (Nat.le_refl _) _
          · have HR : Hid (∀ m (h : m < (cands s (midT s)).length), m < j + 1 → showB (cands s (midT s))[m].k (cands s (midT s))[m].n (cands s (midT s))[m].s = s → s.toList.isEmpty = true) := HNJ.out (fun _ => hem)
            clear HNJ
            go_wp2
            go_roundw
            case rel => exact ⟨j + 1, by omega, by go_num, HB5.out, HR.out⟩
            case measure => simp [intOf]; omega
      · obtain rfl : j = 5 := by omega
        have FIN : Hid (∀ w6, Below w.heap.size w w6 → RPost w s (.returned (.tuple #[.agg #[.int .i64 0, .int .i64 0, .string ⟨#[]⟩], .bool false])) w6) := fun w6 h6 => ⟨0, 0, ⟨#[]⟩, false, rfl, h6, (fun h => by cases h), fun _ k' n' t' hn0 hn1 hv hsh => by
          have hm := cands_all s k' n' t' hn0 hn1 hv hsh
          obtain ⟨m, hml, hme⟩ := List.getElem_of_mem hm
          have := HNO.out m hml (by rw [HC5.out] at hml; exact hml) (by rw [hme]; exact hsh)
          rw [← hsh, show_empty hv] at this
          cases this⟩
        clear HNO
        go_wp2
        refine bodyPost_ret (v := .tuple #[.agg #[.int .i64 0, .int .i64 0, .string ⟨#[]⟩], .bool false]) (by simp [results, Tryz.results13, go_sem, z0, z1, z2]) rfl (FIN.out _ ?_)
        exact (((HBW.out.trans (HB.out.mono HBW.out.size)).setCell (Nat.le_refl _) _).setCell (Nat.le_refl _) _).setCell (Nat.le_refl _) _
end Go.Proofs.YtodkekmfadfjkaaGreatDoor.Vl
