import Derived.Test.YtplaplhmjpfbjaaGreatDoorVc1
import Derived.Test.YtplaplhmjpfbjaaGreatDoorVRsE
import Derived.Lib.ParseIntBTie
namespace Go.Proofs.YtplaplhmjpfbjaaGreatDoor.Vl
open Go.RowKit
set_option linter.unusedVariables false
set_option maxRecDepth 100000

def cells3 (v : V) : List Value := [.int .i64 v.k, .int .i64 v.n, .string v.s]
theorem flat3 : ∀ (l : List V) (i j : Nat) (hi : i < l.length), j < 3 → (l.flatMap cells3)[i * 3 + j]? = (cells3 l[i])[j]?
  | a :: l, 0, j, _, hj => by
    rw [List.flatMap_cons, Nat.zero_mul, Nat.zero_add, List.getElem?_append_left (by simpa [cells3] using hj)]; rfl
  | a :: l, i + 1, j, hi, hj => by
    have ih := flat3 l i j (by simpa using hi) hj
    rw [List.flatMap_cons, List.getElem?_append_right (by simp [cells3]; omega), show (i + 1) * 3 + j - (cells3 a).length = i * 3 + j by simp [cells3]; omega, ih]
    rfl
/-- What the document's reader of texts gives. -/
def RPost (w : World) (s : ByteArray) (e : Ending) (w' : World) : Prop := ∃ (k n : Int) (t : ByteArray) (ok : Bool), e = .returned (.tuple #[.agg #[.int .i64 k, .int .i64 n, .string t], .bool ok]) ∧ Below w.heap.size w w' ∧
    (ok = true → validB k n t = true ∧ showB k n t = s ∧ -9223372036854775808 ≤ n ∧ n ≤ 9223372036854775807) ∧ (ok = false → ∀ k' n' t', -9223372036854775808 ≤ n' → n' ≤ 9223372036854775807 → validB k' n' t' = true → showB k' n' t' ≠ s)

/-- The values that a text can be. -/
def cands (s : ByteArray) (t : ByteArray) : List V := [⟨0, 0, ⟨#[]⟩⟩, ⟨2, 0, ⟨#[]⟩⟩, ⟨2, 1, ⟨#[]⟩⟩, ⟨1, wholeF s.data.toList, ⟨#[]⟩⟩, ⟨3, 0, t⟩]
def midT (s : ByteArray) : ByteArray := if 1 < s.size then ⟨(unq ((s.data.toList.drop 1).take (s.size - 2))).toArray⟩ else ⟨#[]⟩

theorem cands_all (s : ByteArray) (k n : Int) (t : ByteArray) (h0 : -9223372036854775808 ≤ n) (h1 : n ≤ 9223372036854775807) (hv : validB k n t = true) (hs : showB k n t = s) : (⟨k, n, t⟩ : V) ∈ cands s (midT s) := by
  have hsv := show_valid hv
  rw [hs] at hsv
  unfold cands
  rcases valid_form hv with ⟨rfl, rfl, rfl⟩ | ⟨rfl, rfl⟩ | ⟨rfl, rfl, rfl⟩ | ⟨rfl, rfl, rfl⟩ | ⟨rfl, rfl, hz⟩
  · simp
  · rw [if_pos rfl] at hsv
    have : wholeF s.data.toList = n := by rw [hsv]; exact wholeF_itoa n h0 h1
    rw [this]; simp
  · simp
  · simp
  · rw [if_neg (by decide), if_neg (by decide), if_pos rfl] at hsv
    have hd : s.data.toList = 39 :: (escAll t.data.toList ++ [39]) := by rw [hsv]; simp
    have hsz : s.size = (escAll t.data.toList).length + 2 := by
      have : s.data.toList.length = s.size := by simp
      rw [← this, hd]; simp
    have hm : midT s = t := by
      unfold midT
      rw [if_pos (by omega), hd, hsz]
      simp only [List.drop_succ_cons, List.drop_zero, Nat.add_sub_cancel]
      rw [List.take_left', unq_esc]
      rfl
    rw [hm]; simp
theorem candA {s : ByteArray} {v : V} (hv : v ∈ cands s (midT s)) : (-9223372036854775808 ≤ v.n ∧ v.n ≤ 9223372036854775807) ∧ v.s.size ≤ s.size := by
  have hw : -9223372036854775808 ≤ wholeF s.data.toList ∧ wholeF s.data.toList ≤ 9223372036854775807 := by
    unfold wholeF
    split
    · exact wrap64_in _
    · exact wacc_in _
  have hm : (midT s).size ≤ s.size := by
    unfold midT
    split
    · have := unq_len ((s.data.toList.drop 1).take (s.size - 2))
      rw [List.length_take] at this
      show (unq ((s.data.toList.drop 1).take (s.size - 2))).toArray.size ≤ _
      rw [List.size_toArray]
      omega
    · exact Nat.zero_le _
  unfold cands at hv
  simp only [List.mem_cons, List.not_mem_nil, or_false] at hv
  rcases hv with rfl | rfl | rfl | rfl | rfl
  · exact ⟨by decide, Nat.zero_le _⟩
  · exact ⟨by decide, Nat.zero_le _⟩
  · exact ⟨by decide, Nat.zero_le _⟩
  · exact ⟨hw, Nat.zero_le _⟩
  · exact ⟨⟨by show (-9223372036854775808 : Int) ≤ 0; decide, by show (0 : Int) ≤ 9223372036854775807; decide⟩, hm⟩

theorem slice_inner (s : ByteArray) (h : 1 < s.size) (w : World) :
    (Instr.slice 9 (.string s) (some (.int .i64 1)) (some (.int .i64 ((s.size : Int) - 1))) none).run Tryz.prog w = .ok (.string ⟨((s.data.toList.drop 1).take (s.size - 2)).toArray⟩) w := by
  rw [run_slice_string w 9 s .i64 .i64 1 ((s.size : Int) - 1) Tryz.underlying9 (by omega) (by omega) (by omega)]
  rw [show ((s.size : Int) - 1).toNat = s.size - 1 by omega, show (1 : Int).toNat = 1 by rfl]
  congr 2
  apply ByteArray.ext
  apply Array.toList_inj.1
  rw [ByteArray.data_extract, Array.toList_extract]
  simp [List.extract, Nat.sub_sub]

theorem own_grown' {w w' : World} {B e size n : Nat} {v : Value} {xs : List Value} {r : Option Nat} (h : w.ownsRow B e size v n xs) (hg : w.grownBy w' r) (hne : ∀ g, v.ownBlock = some g → some g ≠ r) : w'.ownsRow B e size v n xs := by
  refine ⟨h.1, ?_⟩
  rcases h.2 with h2 | ⟨g, cap, cur, h1, h2, h3, h4⟩
  · exact .inl h2
  · refine .inr ⟨g, cap, cur, h1, h2, ?_, h4⟩
    have hlt : g < w.heap.size := by
      rcases Nat.lt_or_ge g w.heap.size with h | h
      · exact h
      · rw [Array.getElem?_eq_none h] at h3; cases h3
    rw [hg.block g hlt (hne g (by rw [h1]; rfl))]; exact h3
/-- The rest of the reader: the list lies there. -/
theorem cand_cells {W : World} {B hb : Nat} {l : List V} (ho : W.ownsRow B 110 3 (.slice (some ⟨hb, 0, none⟩) 5 5) 5 (l.flatMap cells3)) (hl : l.length = 5) (j : Nat) (hj : j < l.length) :
    W.cell? ⟨hb, j * 3, none⟩ = some (.int .i64 l[j].k) ∧ W.cell? ⟨hb, j * 3 + 1, none⟩ = some (.int .i64 l[j].n) ∧ W.cell? ⟨hb, j * 3 + 2, none⟩ = some (.string l[j].s) := by
  have key : ∀ i, i < 3 → W.cell? ⟨hb, j * 3 + i, none⟩ = (cells3 l[j])[i]? := fun i hi => by
    rw [World.ownsRow.cellAt ho (j * 3 + i) (by omega), flat3 l j i hj hi]
  exact ⟨key 0 (by decide), key 1 (by decide), key 2 (by decide)⟩

set_option maxHeartbeats 4000000 in
theorem refRead_any (s : ByteArray) (w : World) (hs : s.size ≤ 140737488355327) :
    Calls Tryz.prog 81 #[.string s] w (RPost w s) := by
  have hlen : s.data.toList.length = s.size := by simp
  have hO1 := World.ownsRow_lit (base := w.heap.size) (e := 110) (size := 3) (w.alloc (.cells #[.int .i64 0, .int .i64 0, .string ⟨#[]⟩] 110)) ((cands s ⟨#[]⟩).flatMap cells3).toArray 5 (by simp) (by decide) rfl
  have HO1 : Hid (((w.alloc (.cells #[.int .i64 0, .int .i64 0, .string ⟨#[]⟩] 110)).alloc (.cells ((cands s ⟨#[]⟩).flatMap cells3).toArray 110)).ownsRow w.heap.size 110 3 (.slice (some ⟨w.heap.size + 1, 0, none⟩) 5 5) 5 ((cands s ⟨#[]⟩).flatMap cells3)) := by
    unfold Hid
    simpa using hO1
  have HB1 : Hid (Below w.heap.size w ((w.alloc (.cells #[.int .i64 0, .int .i64 0, .string ⟨#[]⟩] 110)).alloc (.cells ((cands s ⟨#[]⟩).flatMap cells3).toArray 110))) := (bel1 w _).alloc (by simp) _
  have ecs : ((cands s ⟨#[]⟩).flatMap cells3).toArray = #[.int .i64 0, .int .i64 0, .string ⟨#[]⟩, .int .i64 2, .int .i64 0, .string ⟨#[]⟩, .int .i64 2, .int .i64 1, .string ⟨#[]⟩, .int .i64 1, .int .i64 (wholeF s.data.toList), .string ⟨#[]⟩, .int .i64 3, .int .i64 0, .string ⟨#[]⟩] := rfl
  rw [ecs] at HO1 HB1
  clear hO1 ecs
  go_enter Tryz.func81, Tryz.ntmps81
  go_wp2_with fail
  refine (whole_any s _ (by omega)).mono ?_
  rintro e w1 ⟨rfl, rfl⟩
  have HZ0 : Hid (((w.alloc (.cells #[.int .i64 0, .int .i64 0, .string ⟨#[]⟩] 110)).alloc (.cells #[.int .i64 0, .int .i64 0, .string ⟨#[]⟩, .int .i64 2, .int .i64 0, .string ⟨#[]⟩, .int .i64 2, .int .i64 1, .string ⟨#[]⟩, .int .i64 1, .int .i64 (wholeF s.data.toList), .string ⟨#[]⟩, .int .i64 3, .int .i64 0, .string ⟨#[]⟩] 110)).ownsRow w.heap.size 110 3 (.slice (some ⟨w.heap.size, 0, none⟩) 1 1) 1 [.int .i64 0, .int .i64 0, .string ⟨#[]⟩]) := by
    have := World.ownsRow_lit (base := w.heap.size) (e := 110) (size := 3) w #[.int .i64 0, .int .i64 0, .string ⟨#[]⟩] 1 (Nat.le_refl _) (by decide) rfl
    exact World.ownsRow.alloc this _
  by_cases h1 : 1 < s.size
  · have h1i : (1 : Int) < (s.size : Int) := by omega
    have hsl := slice_inner s h1
    obtain ⟨M, hM⟩ : ∃ M : ByteArray, M = ⟨((s.data.toList.drop 1).take (s.size - 2)).toArray⟩ := ⟨_, rfl⟩
    have hMz : M.size ≤ s.size := by rw [hM]; show (((s.data.toList.drop 1).take (s.size - 2)).toArray).size ≤ _; rw [List.size_toArray, List.length_take]; omega
    have hmid : (⟨(unq M.data.toList).toArray⟩ : ByteArray) = midT s := by rw [hM]; unfold midT; rw [if_pos h1]
    rw [← hM] at hsl
    clear hM
    go_wp2_with fail
    refine (unquoted_any M _ (by omega)).mono ?_
    rintro e w2 ⟨rfl, hb2⟩
    rw [hmid]
    have hO2 := owns_later HO1.out hb2
    have hZ2 := owns_later HZ0.out hb2
    have HB2 : Hid (Below w.heap.size w w2) := HB1.out.trans (hb2.mono HB1.out.size)
    have y14 := World.ownsRow.cellAt hO2 14 (by decide)
    have f14 := World.ownsRow.frozenAt hO2 14
    obtain ⟨hO3, hg3⟩ := World.ownsRow.stored hO2 14 (.string (midT s))
    have HOWw : Hid ((w2.setCell ⟨w.heap.size + 1, 14, none⟩ (.string (midT s))).ownsRow w.heap.size 110 3 (.slice (some ⟨w.heap.size + 1, 0, none⟩) 5 5) 5 ((cands s (midT s)).flatMap cells3)) := hO3
    have HORw : Hid ((w2.setCell ⟨w.heap.size + 1, 14, none⟩ (.string (midT s))).ownsRow w.heap.size 110 3 (.slice (some ⟨w.heap.size, 0, none⟩) 1 1) 1 [.int .i64 0, .int .i64 0, .string ⟨#[]⟩]) := own_grown' hZ2 hg3 (fun g hg e => by cases hg; have h : w.heap.size = w.heap.size + 1 := Option.some.inj e; omega)
    have HBWw : Hid (Below w.heap.size w (w2.setCell ⟨w.heap.size + 1, 14, none⟩ (.string (midT s)))) := HB2.out.setCell (by simp) _
    simp [cands, cells3] at y14
    clear hb2 hO2 hZ2 hO3 hg3 hsl hmid HO1 HB1 HZ0 HB2
    go_wp2
    generalize w2.setCell ⟨w.heap.size + 1, 14, none⟩ (.string (midT s)) = W at *
    have HOW := HOWw
    have HOR := HORw
    have HBW := HBWw
    clear y14 f14
    have HC5 : Hid ((cands s (midT s)).length = 5) := rfl
    go_loopw [5] (fun i w' => ∃ j : Nat, j ≤ 5 ∧ i = .int .i64 j ∧ Below W.heap.size W w' ∧ ∀ m (h : m < (cands s (midT s)).length), m < j → showB (cands s (midT s))[m].k (cands s (midT s))[m].n (cands s (midT s))[m].s = s → s.toList.isEmpty = true) (fun i _ => 5 - (intOf i).toNat)
    case atStart => exact ⟨0, by omega, rfl, Below.refl _ _, fun m h hm => absurd hm (by omega)⟩
    case round =>
      obtain ⟨j, hj, rfl, hb, hno⟩ := hrel
      have HB : Hid (Below W.heap.size W wr) := hb
      have HNO : Hid (∀ m (h : m < (cands s (midT s)).length), m < j → showB (cands s (midT s))[m].k (cands s (midT s))[m].n (cands s (midT s))[m].s = s → s.toList.isEmpty = true) := hno
      have hz := owns_later HOR.out hb
      have z0 := World.ownsRow.cellAt hz 0 (by decide)
      have z1 := World.ownsRow.cellAt hz 1 (by decide)
      have z2 := World.ownsRow.cellAt hz 2 (by decide)
      have f0 := World.ownsRow.frozenAt hz 0
      have f1 := World.ownsRow.frozenAt hz 1
      have f2 := World.ownsRow.frozenAt hz 2
      have HZ : Hid (wr.ownsRow w.heap.size 110 3 (.slice (some ⟨w.heap.size, 0, none⟩) 1 1) 1 [.int .i64 0, .int .i64 0, .string ⟨#[]⟩]) := hz
      have hszw := hb.size
      simp at z0 z1 z2
      clear hb hno hz
      by_cases hlt : j < 5
      · have hji : (j : Int) < 5 := by omega
        have hj5 : j < (cands s (midT s)).length := by rw [HC5.out]; exact hlt
        obtain ⟨e0, e1, e2⟩ := cand_cells (owns_later HOW.out HB.out) HC5.out j hj5
        have hca := candA (List.getElem_mem hj5)
        have hvs := hca.2
        have HNJ : Hid ((showB (cands s (midT s))[j].k (cands s (midT s))[j].n (cands s (midT s))[j].s = s → s.toList.isEmpty = true) → ∀ m (h : m < (cands s (midT s)).length), m < j + 1 → showB (cands s (midT s))[m].k (cands s (midT s))[m].n (cands s (midT s))[m].s = s → s.toList.isEmpty = true) := fun h m hm hmj => by
          by_cases hmj' : m = j
          · subst hmj'; exact h
          · exact HNO.out m hm (by omega)
        generalize (cands s (midT s))[j] = v at *
        go_wp2_with fail
        refine (refShow_any v.k v.n v.s wr (by unfold maxLen; omega) hca.1.1 hca.1.2).mono ?_
        rintro e w5 ⟨rfl, hb5⟩
        have HB5 : Hid (Below W.heap.size W w5) := HB.out.trans (hb5.mono hszw)
        have g0 := cell_later hb5 e0
        have g1 := cell_later hb5 e1
        have g2 := cell_later hb5 e2
        have hz5 := owns_later HZ.out hb5
        have y0 := World.ownsRow.cellAt hz5 0 (by decide)
        have y1 := World.ownsRow.cellAt hz5 1 (by decide)
        have y2 := World.ownsRow.cellAt hz5 2 (by decide)
        have x0 := World.ownsRow.frozenAt hz5 0
        have x1 := World.ownsRow.frozenAt hz5 1
        have x2 := World.ownsRow.frozenAt hz5 2
        simp at y0 y1 y2
        have HSV : Hid (validB v.k v.n v.s = false → showB v.k v.n v.s = ⟨#[]⟩) := show_none
        clear hb5 hz5 e0 e1 e2 z0 z1 z2 f0 f1 f2 HZ HB HNO
        generalize hSh : showB v.k v.n v.s = S at *
        have HSh : Hid (showB v.k v.n v.s = S) := hSh
        clear hSh
        cases hq : (S.toList == s.toList)
        · have HR : Hid (∀ m (h : m < (cands s (midT s)).length), m < j + 1 → showB (cands s (midT s))[m].k (cands s (midT s))[m].n (cands s (midT s))[m].s = s → s.toList.isEmpty = true) := HNJ.out (fun h => by rw [h] at hq; simp at hq)
          clear HNJ
          go_wp2
          go_roundw
          case rel => exact ⟨j + 1, by omega, by go_num, HB5.out, HR.out⟩
          case measure => simp [intOf]; omega
        · cases hem : s.toList.isEmpty
          · have hSs : S = s := toList_inj (by simpa using hq)
            have hval : validB v.k v.n v.s = true := by
              cases hv : validB v.k v.n v.s
              · have h := HSV.out hv
                rw [← hSs, h] at hem
                simp at hem
              · rfl
            have FIN : Hid (∀ w6, Below w.heap.size w w6 → RPost w s (.returned (.tuple #[.agg #[.int .i64 v.k, .int .i64 v.n, .string v.s], .bool true])) w6) := fun w6 h6 => ⟨v.k, v.n, v.s, true, rfl, h6, fun _ => ⟨hval, by rw [HSh.out, hSs], hca.1.1, hca.1.2⟩, fun h => by cases h⟩
            clear hSs hval HNJ HSV HSh
            go_wp2
            refine bodyPost_ret (v := .tuple #[.agg #[.int .i64 v.k, .int .i64 v.n, .string v.s], .bool true]) (by simp [results, Tryz.results81, go_sem, y0, y1, y2]) rfl (FIN.out _ ?_)
            exact (((HBW.out.trans (HB5.out.mono HBW.out.size)).setCell (Nat.le_refl _) _).setCell (Nat.le_refl _) _).setCell (Nat.le_refl _) _
          · have HR : Hid (∀ m (h : m < (cands s (midT s)).length), m < j + 1 → showB (cands s (midT s))[m].k (cands s (midT s))[m].n (cands s (midT s))[m].s = s → s.toList.isEmpty = true) := HNJ.out (fun _ => hem)
            clear HNJ
            go_wp2
            go_roundw
            case rel => exact ⟨j + 1, by omega, by go_num, HB5.out, HR.out⟩
            case measure => simp [intOf]; omega
      · obtain rfl : j = 5 := by omega
        have FIN : Hid (∀ w6, Below w.heap.size w w6 → RPost w s (.returned (.tuple #[.agg #[.int .i64 0, .int .i64 0, .string ⟨#[]⟩], .bool false])) w6) := fun w6 h6 => ⟨0, 0, ⟨#[]⟩, false, rfl, h6, (fun h => by cases h), fun _ k' n' t' hn0 hn1 hv hsh => by
          have hm := cands_all s k' n' t' hn0 hn1 hv hsh
          obtain ⟨m, hml, hme⟩ := List.getElem_of_mem hm
          have := HNO.out m hml (by rw [HC5.out] at hml; exact hml) (by rw [hme]; exact hsh)
          rw [← hsh, show_empty hv] at this
          cases this⟩
        clear HNO
        go_wp2
        refine bodyPost_ret (v := .tuple #[.agg #[.int .i64 0, .int .i64 0, .string ⟨#[]⟩], .bool false]) (by simp [results, Tryz.results81, go_sem, z0, z1, z2]) rfl (FIN.out _ ?_)
        exact (((HBW.out.trans (HB.out.mono HBW.out.size)).setCell (Nat.le_refl _) _).setCell (Nat.le_refl _) _).setCell (Nat.le_refl _) _
  · have h1i : ¬ (1 : Int) < (s.size : Int) := by omega
    have hmid : midT s = ⟨#[]⟩ := by unfold midT; rw [if_neg h1]
    have HOWw : Hid (((w.alloc (.cells #[.int .i64 0, .int .i64 0, .string ⟨#[]⟩] 110)).alloc (.cells #[.int .i64 0, .int .i64 0, .string ⟨#[]⟩, .int .i64 2, .int .i64 0, .string ⟨#[]⟩, .int .i64 2, .int .i64 1, .string ⟨#[]⟩, .int .i64 1, .int .i64 (wholeF s.data.toList), .string ⟨#[]⟩, .int .i64 3, .int .i64 0, .string ⟨#[]⟩] 110)).ownsRow w.heap.size 110 3 (.slice (some ⟨w.heap.size + 1, 0, none⟩) 5 5) 5 ((cands s (midT s)).flatMap cells3)) := by rw [Hid, hmid]; exact HO1.out
    have HORw := HZ0
    have HBWw := HB1
    clear HO1 HZ0 HB1 hmid
    go_wp2
    generalize ((w.alloc (.cells #[.int .i64 0, .int .i64 0, .string ⟨#[]⟩] 110)).alloc (.cells #[.int .i64 0, .int .i64 0, .string ⟨#[]⟩, .int .i64 2, .int .i64 0, .string ⟨#[]⟩, .int .i64 2, .int .i64 1, .string ⟨#[]⟩, .int .i64 1, .int .i64 (wholeF s.data.toList), .string ⟨#[]⟩, .int .i64 3, .int .i64 0, .string ⟨#[]⟩] 110)) = W at *
    have HOW := HOWw
    have HOR := HORw
    have HBW := HBWw
    have HC5 : Hid ((cands s (midT s)).length = 5) := rfl
    go_loopw [5] (fun i w' => ∃ j : Nat, j ≤ 5 ∧ i = .int .i64 j ∧ Below W.heap.size W w' ∧ ∀ m (h : m < (cands s (midT s)).length), m < j → showB (cands s (midT s))[m].k (cands s (midT s))[m].n (cands s (midT s))[m].s = s → s.toList.isEmpty = true) (fun i _ => 5 - (intOf i).toNat)
    case atStart => exact ⟨0, by omega, rfl, Below.refl _ _, fun m h hm => absurd hm (by omega)⟩
    case round =>
      obtain ⟨j, hj, rfl, hb, hno⟩ := hrel
      have HB : Hid (Below W.heap.size W wr) := hb
      have HNO : Hid (∀ m (h : m < (cands s (midT s)).length), m < j → showB (cands s (midT s))[m].k (cands s (midT s))[m].n (cands s (midT s))[m].s = s → s.toList.isEmpty = true) := hno
      have hz := owns_later HOR.out hb
      have z0 := World.ownsRow.cellAt hz 0 (by decide)
      have z1 := World.ownsRow.cellAt hz 1 (by decide)
      have z2 := World.ownsRow.cellAt hz 2 (by decide)
      have f0 := World.ownsRow.frozenAt hz 0
      have f1 := World.ownsRow.frozenAt hz 1
      have f2 := World.ownsRow.frozenAt hz 2
      have HZ : Hid (wr.ownsRow w.heap.size 110 3 (.slice (some ⟨w.heap.size, 0, none⟩) 1 1) 1 [.int .i64 0, .int .i64 0, .string ⟨#[]⟩]) := hz
      have hszw := hb.size
      simp at z0 z1 z2
      clear hb hno hz
      by_cases hlt : j < 5
      · have hji : (j : Int) < 5 := by omega
        have hj5 : j < (cands s (midT s)).length := by rw [HC5.out]; exact hlt
        obtain ⟨e0, e1, e2⟩ := cand_cells (owns_later HOW.out HB.out) HC5.out j hj5
        have hca := candA (List.getElem_mem hj5)
        have hvs := hca.2
        have HNJ : Hid ((showB (cands s (midT s))[j].k (cands s (midT s))[j].n (cands s (midT s))[j].s = s → s.toList.isEmpty = true) → ∀ m (h : m < (cands s (midT s)).length), m < j + 1 → showB (cands s (midT s))[m].k (cands s (midT s))[m].n (cands s (midT s))[m].s = s → s.toList.isEmpty = true) := fun h m hm hmj => by
          by_cases hmj' : m = j
          · subst hmj'; exact h
          · exact HNO.out m hm (by omega)
        generalize (cands s (midT s))[j] = v at *
        go_wp2_with fail
        refine (refShow_any v.k v.n v.s wr (by unfold maxLen; omega) hca.1.1 hca.1.2).mono ?_
        rintro e w5 ⟨rfl, hb5⟩
        have HB5 : Hid (Below W.heap.size W w5) := HB.out.trans (hb5.mono hszw)
        have g0 := cell_later hb5 e0
        have g1 := cell_later hb5 e1
        have g2 := cell_later hb5 e2
        have hz5 := owns_later HZ.out hb5
        have y0 := World.ownsRow.cellAt hz5 0 (by decide)
        have y1 := World.ownsRow.cellAt hz5 1 (by decide)
        have y2 := World.ownsRow.cellAt hz5 2 (by decide)
        have x0 := World.ownsRow.frozenAt hz5 0
        have x1 := World.ownsRow.frozenAt hz5 1
        have x2 := World.ownsRow.frozenAt hz5 2
        simp at y0 y1 y2
        have HSV : Hid (validB v.k v.n v.s = false → showB v.k v.n v.s = ⟨#[]⟩) := show_none
        clear hb5 hz5 e0 e1 e2 z0 z1 z2 f0 f1 f2 HZ HB HNO
        generalize hSh : showB v.k v.n v.s = S at *
        have HSh : Hid (showB v.k v.n v.s = S) := hSh
        clear hSh
        cases hq : (S.toList == s.toList)
        · have HR : Hid (∀ m (h : m < (cands s (midT s)).length), m < j + 1 → showB (cands s (midT s))[m].k (cands s (midT s))[m].n (cands s (midT s))[m].s = s → s.toList.isEmpty = true) := HNJ.out (fun h => by rw [h] at hq; simp at hq)
          clear HNJ
          go_wp2
          go_roundw
          case rel => exact ⟨j + 1, by omega, by go_num, HB5.out, HR.out⟩
          case measure => simp [intOf]; omega
        · cases hem : s.toList.isEmpty
          · have hSs : S = s := toList_inj (by simpa using hq)
            have hval : validB v.k v.n v.s = true := by
              cases hv : validB v.k v.n v.s
              · have h := HSV.out hv
                rw [← hSs, h] at hem
                simp at hem
              · rfl
            have FIN : Hid (∀ w6, Below w.heap.size w w6 → RPost w s (.returned (.tuple #[.agg #[.int .i64 v.k, .int .i64 v.n, .string v.s], .bool true])) w6) := fun w6 h6 => ⟨v.k, v.n, v.s, true, rfl, h6, fun _ => ⟨hval, by rw [HSh.out, hSs], hca.1.1, hca.1.2⟩, fun h => by cases h⟩
            clear hSs hval HNJ HSV HSh
            go_wp2
            refine bodyPost_ret (v := .tuple #[.agg #[.int .i64 v.k, .int .i64 v.n, .string v.s], .bool true]) (by simp [results, Tryz.results81, go_sem, y0, y1, y2]) rfl (FIN.out _ ?_)
            exact (((HBW.out.trans (HB5.out.mono HBW.out.size)).setCell (Nat.le_refl _) _).setCell (Nat.le_refl _) _).setCell (Nat.le_refl _) _
          · have HR : Hid (∀ m (h : m < (cands s (midT s)).length), m < j + 1 → showB (cands s (midT s))[m].k (cands s (midT s))[m].n (cands s (midT s))[m].s = s → s.toList.isEmpty = true) := HNJ.out (fun _ => hem)
            clear HNJ
            go_wp2
            go_roundw
            case rel => exact ⟨j + 1, by omega, by go_num, HB5.out, HR.out⟩
            case measure => simp [intOf]; omega
      · obtain rfl : j = 5 := by omega
        have FIN : Hid (∀ w6, Below w.heap.size w w6 → RPost w s (.returned (.tuple #[.agg #[.int .i64 0, .int .i64 0, .string ⟨#[]⟩], .bool false])) w6) := fun w6 h6 => ⟨0, 0, ⟨#[]⟩, false, rfl, h6, (fun h => by cases h), fun _ k' n' t' hn0 hn1 hv hsh => by
          have hm := cands_all s k' n' t' hn0 hn1 hv hsh
          obtain ⟨m, hml, hme⟩ := List.getElem_of_mem hm
          have := HNO.out m hml (by rw [HC5.out] at hml; exact hml) (by rw [hme]; exact hsh)
          rw [← hsh, show_empty hv] at this
          cases this⟩
        clear HNO
        go_wp2
        refine bodyPost_ret (v := .tuple #[.agg #[.int .i64 0, .int .i64 0, .string ⟨#[]⟩], .bool false]) (by simp [results, Tryz.results81, go_sem, z0, z1, z2]) rfl (FIN.out _ ?_)
        exact (((HBW.out.trans (HB.out.mono HBW.out.size)).setCell (Nat.le_refl _) _).setCell (Nat.le_refl _) _).setCell (Nat.le_refl _) _
end Go.Proofs.YtplaplhmjpfbjaaGreatDoor.Vl
namespace Go.Proofs.YtplaplhmjpfbjaaGreatDoor.Vl
open Go.RowKit
set_option linter.unusedVariables false
set_option maxRecDepth 100000

theorem parse16_tot (x y : UInt8) (w : World) :
    Calls Tryz.prog 189 #[.string ⟨#[x, y]⟩, .int .i64 16, .int .i64 8] w (P16 (Lib.bytesWorld w 5 ⟨#[x, y]⟩)) := by
  have hx := UInt8.toNat_lt x
  have hy := UInt8.toNat_lt y
  have lx : bits .or .u8 (x.toNat : Int) 32 = ((x.toNat ||| 32 : Nat) : Int) := u8_or_nat x.toNat 32 hx (by decide)
  have ly : bits .or .u8 (y.toNat : Int) 32 = ((y.toNat ||| 32 : Nat) : Int) := u8_or_nat y.toNat 32 hy (by decide)
  have bx : x.toNat ||| 32 < 256 := Nat.or_lt_two_pow (n := 8) (by omega) (by decide)
  have by_ : y.toNat ||| 32 < 256 := Nat.or_lt_two_pow (n := 8) (by omega) (by decide)
  have hcv := Lib.run_convert_string_bytes w 9 170 5 ⟨#[x, y]⟩ Tryz.underlying9 Tryz.underlying170 Tryz.underlying5
  have c0 := Lib.bytesWorld_cell w 5 ⟨#[x, y]⟩ 0 (by show (0 : Nat) < 2; omega)
  have c1 := Lib.bytesWorld_cell w 5 ⟨#[x, y]⟩ 1 (by show (1 : Nat) < 2; omega)
  rcases letter x.toNat hx with h1 | h1
  · rcases letter y.toNat hy with h2 | h2
    · exact parse16_ok ⟨#[x, y]⟩ x.toNat y.toNat _ _ _ w _ rfl (by simp) hcv c0 c1 hx hy lx ly bx by_ h1 h2
    · exact parse16_no2 ⟨#[x, y]⟩ x.toNat y.toNat _ _ _ w _ rfl (by simp) hcv c0 c1 hx hy lx ly bx by_ h1 h2
  · exact parse16_no1 ⟨#[x, y]⟩ x.toNat y.toNat _ _ w _ rfl (by simp) hcv c0 c1 hx lx bx h1

/-- What reading two letters gives. -/
def PU (w : World) (e : Ending) (w' : World) : Prop := Below w.heap.size w w' ∧ ((∃ v : Nat, v < 256 ∧ e = .returned (.tuple #[.int .u64 (v : Int), .nilIface])) ∨ ∃ N, e = .returned (.tuple #[.int .u64 0, .iface 241 (.pointer (some ⟨N, 0, none⟩))]))
theorem parseUint_tot (x y : UInt8) (w : World) (hs : Sen w) :
    Calls Tryz.prog 175 #[.string ⟨#[x, y]⟩, .int .i64 16, .int .i64 8] w (PU w) := by
  have HS : Hid (Sen w) := hs
  clear hs
  obtain ⟨s, hse⟩ : ∃ s : ByteArray, s = ⟨#[x, y]⟩ := ⟨_, rfl⟩
  have hsz : s.size = 2 := by rw [hse]; rfl
  have HP := parse16_tot x y w
  rw [← hse] at HP ⊢
  have HP' : Hid (Calls Tryz.prog 189 #[.string s, .int .i64 16, .int .i64 8] w (P16 (Lib.bytesWorld w 5 s))) := HP
  clear HP hse
  go_enter Tryz.func175, Tryz.ntmps175
  go_wp2_with fail
  refine HP'.out.mono ?_
  rintro e w1 ⟨rfl, hc⟩
  have hb := below_bytes w 5 s
  rcases hc with ⟨v, hv, rfl⟩ | rfl
  · have FIN : Hid (PU w (.returned (.tuple #[.int .u64 (v : Int), .nilIface])) (Lib.bytesWorld w 5 s)) := ⟨hb, .inl ⟨v, hv, rfl⟩⟩
    clear hb
    generalize Lib.bytesWorld w 5 s = w1 at *
    go_wp2
    go_ret2
    exact FIN.out
  · obtain ⟨ev, hev1, hev2⟩ := HS.out.later hb
    have HB : Hid (Below w.heap.size w (Lib.bytesWorld w 5 s)) := hb
    clear hb
    generalize Lib.bytesWorld w 5 s = w1 at *
    have HT : Hid (Calls Tryz.prog 178 #[.string ⟨#[80, 97, 114, 115, 101, 85, 105, 110, 116]⟩, .string s, .int .i64 16, .int .i64 8, .iface 240 (.int .i64 2)] w1 fun e w' => ∃ N, e = .returned (.iface 241 (.pointer (some ⟨N, 0, none⟩))) ∧ Below w1.heap.size w1 w') := by
      refine (Any.strconv_toError_syntax (ρ := Tryz.laysC174_ren) { Tryz.laysC174 with } ⟨#[80, 97, 114, 115, 101, 85, 105, 110, 116]⟩ s 16 8 ev w1 (by omega) hev1 hev2).mono ?_
      rintro e w' ⟨N, rfl, _, _, hb⟩
      exact ⟨N, rfl, hb⟩
    go_wp2_with fail
    refine HT.out.mono ?_
    rintro e w2 ⟨N, rfl, hb2⟩
    have FIN : Hid (PU w (.returned (.tuple #[.int .u64 0, .iface 241 (.pointer (some ⟨N, 0, none⟩))])) w2) := ⟨HB.out.trans (hb2.mono HB.out.size), .inr ⟨N, rfl⟩⟩
    clear hb2
    go_wp2
    go_ret2
    exact FIN.out

theorem slice_pair (s : ByteArray) (k : Nat) (h : k + 2 < s.size) (w : World) :
    (Instr.slice 9 (.string s) (some (.int .i64 ((k : Int) + 1))) (some (.int .i64 ((k : Int) + 3))) none).run Tryz.prog w = .ok (.string ⟨#[s[k + 1], s[k + 2]]⟩) w := by
  have hlen : s.data.toList.length = s.size := by simp
  have g : ∀ i (hi : i < s.size), s.data.toList[i]'(by omega) = s[i] := fun i hi => by simp [ByteArray.getElem_eq_getElem_data]
  have e : s.data.toList = s.data.toList.take k ++ s[k] :: s[k + 1] :: s[k + 2] :: s.data.toList.drop (k + 3) := by
    conv => lhs; rw [← List.take_append_drop k s.data.toList, List.drop_eq_getElem_cons (by omega), List.drop_eq_getElem_cons (by omega), List.drop_eq_getElem_cons (by omega)]
    rw [g k (by omega), g (k + 1) (by omega), g (k + 2) (by omega)]
  exact slice_two s k _ _ _ _ _ e (by rw [List.length_take]; omega) w
end Go.Proofs.YtplaplhmjpfbjaaGreatDoor.Vl
namespace Go.Proofs.YtplaplhmjpfbjaaGreatDoor.Vl
open Go.RowKit
set_option linter.unusedVariables false
set_option maxRecDepth 100000

def UPost (w : World) (s : ByteArray) (e : Ending) (w' : World) : Prop := ∃ t : ByteArray, e = .returned (.string t) ∧ t.size ≤ s.size ∧ Below w.heap.size w w'
def UInv (w : World) (s : ByteArray) (b i : Value) (w' : World) : Prop := ∃ (k : Nat) (d : List UInt8), k ≤ s.size ∧ i = .int .i64 k ∧ OB w' w.heap.size b d ∧ d.length ≤ k ∧ Below w.heap.size w w'

set_option maxHeartbeats 4000000 in
theorem unescaped_tot (s : ByteArray) (w : World) (hs : s.size ≤ 140737488355327) (hsen : Sen w) :
    Calls Tryz.prog 166 #[.string s] w (UPost w s) := by
  obtain ⟨i0, hi0, hz0, hz1, hz2⟩ := info_parts infoB
  have HSN : Hid (Sen w) := hsen
  clear hsen
  go_enter Tryz.func166, Tryz.ntmps166
  go_wp2
  go_loopw [3, 4] (fun b i w' => UInv w s b i w') (fun _ i _ => s.size - (intOf i).toNat)
  case atStart => exact ⟨0, [], Nat.zero_le _, rfl, World.ownsRow_nil _ _ _ _, Nat.zero_le _, Below.refl _ _⟩
  case round =>
    obtain ⟨k, d, hk, rfl, ho, hdk, hb⟩ := hrel
    have HO : Hid (OB wr w.heap.size u3 d) := ho
    have HB : Hid (Below w.heap.size w wr) := hb
    have hsz := hb.size
    clear ho hb
    by_cases hlt : k < s.size
    · have hki : (k : Int) < (s.size : Int) := by omega
      have hc2 := UInt8.toNat_lt s[k]
      by_cases hA : s[k].toNat = 92 ∧ k + 2 < s.size
      · obtain ⟨h92, hk2⟩ := hA
        have hb92 : ((s[k].toNat : Int) == 92) = true := by rw [beq_iff_eq]; omega
        have h2i : (k : Int) + 2 < (s.size : Int) := by omega
        have hsl := slice_pair s k hk2
        have HPU : Hid (Calls Tryz.prog 175 #[.string ⟨#[s[k + 1], s[k + 2]]⟩, .int .i64 16, .int .i64 8] wr (PU wr)) := parseUint_tot _ _ wr (HSN.out.later HB.out)
        generalize (⟨#[s[k + 1], s[k + 2]]⟩ : ByteArray) = P at *
        go_wp2_with fail
        refine HPU.out.mono ?_
        rintro e w2 ⟨hb2, hcase⟩
        have HO2 : Hid (OB w2 w.heap.size u3 d) := owns_later HO.out hb2
        have HB2 : Hid (Below w.heap.size w w2) := HB.out.trans (hb2.mono hsz)
        have hsz2 := HB2.out.size
        clear hb2 HB HO HPU hsz
        rcases hcase with ⟨v, hv, rfl⟩ | ⟨N, rfl⟩
        · have hwu : IntKind.u8.wrap (v : Int) = (v : Int) := by rw [IntKind.wrap_u8']; omega
          obtain ⟨c0, hc0⟩ : ∃ c0 : UInt8, (c0.toNat : Int) = (v : Int) := ⟨UInt8.ofNat v, by rw [UInt8.toNat_ofNat']; omega⟩
          have HC0 : Hid ((c0.toNat : Int) = (v : Int)) := hc0
          clear hc0
          go_wp2_with (first
              | (at_builtin; refine wpList_append_own_at _ rfl _ _ 170 rfl w.heap.size 5 i0 (.int .u8 0) 1 1 Tryz.underlying170 hi0 hz0 hz1 hz2 rfl (by decide) _ d.length (d.map ub) rfl (World.ownsRow.alloc HO2.out _) ⟨w2.heap.size, 0, none⟩ 1 1 [ub c0] rfl rfl ?c1 ?c2 ?c3 ?c4 ?c5 ?_))
          case c1 =>
            intro j u hj
            match j, hj with
            | 0, hj => simp at hj; subst hj; simp [Addr.add, ub, HC0.out]
          case c2 => first | rfl | (intro u hu; simp at hu; subst hu; rfl)
          case c3 => unfold maxLen; omega
          case c4 => omega
          case c5 => first | omega | (simp; omega)
          · intro v' w5 hown' hgrow _ hat
            have hb5 : Below w.heap.size w w5 := (HB2.out.alloc hsz2 _).grown hgrow (by simp; omega) (fun j hj => (World.ownsRow.lt HO2.out j hj).1)
            have hO5 : OB w5 w.heap.size v' (d ++ [c0]) := by unfold OB; rw [List.length_append, List.map_append]; exact hown'
            have HR' : Hid (UInv w s v' (.int .i64 ((k : Int) + 3)) w5) := ⟨k + 3, d ++ [c0], by omega, by go_num, hO5, by simp; omega, hb5⟩
            clear hown' hgrow hat hb5 hO5 HO2 HB2
            go_wp2
            go_roundw
            case rel => (first | exact HR'.out | (have h := HR'.out; rw [show (k : Int) + 3 = (k : Int) + 2 + 1 by omega] at h; exact h))
            case measure => simp [intOf]; omega
        · go_wp2_with (first
              | (at_builtin; refine wpList_append_own_at _ rfl _ _ 170 rfl w.heap.size 5 i0 (.int .u8 0) 1 1 Tryz.underlying170 hi0 hz0 hz1 hz2 rfl (by decide) _ d.length (d.map ub) rfl (World.ownsRow.alloc HO2.out _) ⟨w2.heap.size, 0, none⟩ 1 1 [ub 92] rfl rfl ?c1 ?c2 ?c3 ?c4 ?c5 ?_))
          case c1 =>
            intro j u hj
            match j, hj with
            | 0, hj => simp at hj; subst hj; simp [Addr.add, ub]
          case c2 => first | rfl | (intro u hu; simp at hu; subst hu; rfl)
          case c3 => unfold maxLen; omega
          case c4 => omega
          case c5 => first | omega | (simp; omega)
          · intro v' w5 hown' hgrow _ hat
            have hb5 : Below w.heap.size w w5 := (HB2.out.alloc hsz2 _).grown hgrow (by simp; omega) (fun j hj => (World.ownsRow.lt HO2.out j hj).1)
            have hO5 : OB w5 w.heap.size v' (d ++ [92]) := by unfold OB; rw [List.length_append, List.map_append]; exact hown'
            have HR' : Hid (UInv w s v' (.int .i64 ((k : Int) + 1)) w5) := ⟨k + 1, d ++ [92], by omega, by go_num, hO5, by simp; omega, hb5⟩
            clear hown' hgrow hat hb5 hO5 HO2 HB2
            go_wp2
            go_roundw
            case rel => exact HR'.out
            case measure => simp [intOf]; omega
      · obtain ⟨X, hX⟩ : ∃ X : Nat, X = s[k].toNat := ⟨_, rfl⟩
        have hor : (¬ X = 92) ∨ (X = 92 ∧ ¬ k + 2 < s.size) := by
          by_cases h : X = 92
          · exact .inr ⟨h, fun h2 => hA ⟨by omega, h2⟩⟩
          · exact .inl h
        rcases hor with h | ⟨h, h2⟩
        · have hb92 : ((s[k].toNat : Int) == 92) = false := by rw [beq_eq_false_iff_ne]; omega
          go_wp2_with (first
            | (at_builtin; refine wpList_append_own_at _ rfl _ _ 170 rfl w.heap.size 5 i0 (.int .u8 0) 1 1 Tryz.underlying170 hi0 hz0 hz1 hz2 rfl (by decide) _ d.length (d.map ub) rfl (World.ownsRow.alloc HO.out _) ⟨wr.heap.size, 0, none⟩ 1 1 [ub s[k]] rfl rfl ?c1 ?c2 ?c3 ?c4 ?c5 ?_))
          case c1 =>
            intro j u hj
            match j, hj with
            | 0, hj => simp at hj; subst hj; simp [Addr.add, ub]
          case c2 => first | rfl | (intro u hu; simp at hu; subst hu; rfl)
          case c3 => unfold maxLen; omega
          case c4 => omega
          case c5 => first | omega | (simp; omega)
          · intro v' w5 hown' hgrow _ hat
            have hb5 : Below w.heap.size w w5 := (HB.out.alloc hsz _).grown hgrow (by simp; omega) (fun j hj => (World.ownsRow.lt HO.out j hj).1)
            have hO5 : OB w5 w.heap.size v' (d ++ [s[k]]) := by unfold OB; rw [List.length_append, List.map_append]; exact hown'
            have HR' : Hid (UInv w s v' (.int .i64 ((k : Int) + 1)) w5) := ⟨k + 1, d ++ [s[k]], by omega, by go_num, hO5, by simp; omega, hb5⟩
            clear hown' hgrow hat hb5 hO5 HO
            go_wp2
            go_roundw
            case rel => exact HR'.out
            case measure => simp [intOf]; omega
        · have hb92 : ((s[k].toNat : Int) == 92) = true := by rw [beq_iff_eq]; omega
          have h2i : ¬ (k : Int) + 2 < (s.size : Int) := by omega
          go_wp2_with (first
            | (at_builtin; refine wpList_append_own_at _ rfl _ _ 170 rfl w.heap.size 5 i0 (.int .u8 0) 1 1 Tryz.underlying170 hi0 hz0 hz1 hz2 rfl (by decide) _ d.length (d.map ub) rfl (World.ownsRow.alloc HO.out _) ⟨wr.heap.size, 0, none⟩ 1 1 [ub s[k]] rfl rfl ?c1 ?c2 ?c3 ?c4 ?c5 ?_))
          case c1 =>
            intro j u hj
            match j, hj with
            | 0, hj => simp at hj; subst hj; simp [ub]
          case c2 => first | rfl | (intro u hu; simp at hu; subst hu; rfl)
          case c3 => unfold maxLen; omega
          case c4 => omega
          case c5 => first | omega | (simp; omega)
          · intro v' w5 hown' hgrow _ hat
            have hb5 : Below w.heap.size w w5 := (HB.out.alloc hsz _).grown hgrow (by simp; omega) (fun j hj => (World.ownsRow.lt HO.out j hj).1)
            have hO5 : OB w5 w.heap.size v' (d ++ [s[k]]) := by unfold OB; rw [List.length_append, List.map_append]; exact hown'
            have HR' : Hid (UInv w s v' (.int .i64 ((k : Int) + 1)) w5) := ⟨k + 1, d ++ [s[k]], by omega, by go_num, hO5, by simp; omega, hb5⟩
            clear hown' hgrow hat hb5 hO5 HO
            go_wp2
            go_roundw
            case rel => exact HR'.out
            case measure => simp [intOf]; omega
    · obtain rfl : k = s.size := by omega
      obtain ⟨a, c, rfl, hcv⟩ := HO.out.conv
      have FIN : Hid (UPost w s (.returned (.string ⟨d.toArray⟩)) wr) := ⟨_, rfl, by show d.toArray.size ≤ _; rw [List.size_toArray]; exact hdk, HB.out⟩
      go_wp2
      go_ret
      exact FIN.out
end Go.Proofs.YtplaplhmjpfbjaaGreatDoor.Vl
namespace Go.Proofs.YtplaplhmjpfbjaaGreatDoor.Vl
open Go.RowKit
set_option linter.unusedVariables false
set_option maxRecDepth 100000

/-- The library's other sentinel. -/
def Sen3 (w : World) : Prop := ∃ ev, w.cell? ⟨3, 0, none⟩ = some ev ∧ (ev = .nilIface ∨ ∃ te pe, ev = .iface te pe)
theorem Sen3.later {w w' : World} (h : Sen3 w) (hb : Below w.heap.size w w') : Sen3 w' := by
  obtain ⟨ev, h1, h2⟩ := h
  exact ⟨ev, cell_later hb h1, h2⟩

def PIPost (w : World) (s : ByteArray) (e : Ending) (w' : World) : Prop := Below w.heap.size w w' ∧ ((∃ v : Int, -9223372036854775808 ≤ v ∧ v ≤ 9223372036854775807 ∧ s.size ≠ 0 ∧ e = .returned (.tuple #[.int .i64 v, .nilIface])) ∨ ∃ (v : Int) (N : Nat), e = .returned (.tuple #[.int .i64 v, .iface 241 (.pointer (some ⟨N, 0, none⟩))]))
theorem parseInt_tot (s : ByteArray) (w : World) (hs : s.size ≤ 140737488355327) (h2 : Sen w) (h3 : Sen3 w) :
    Calls Tryz.prog 168 #[.string s, .int .i64 10, .int .i64 64] w (PIPost w s) := by
  obtain ⟨ev2, c2, e2⟩ := h2
  obtain ⟨ev3, c3, e3⟩ := h3
  cases hp : Lib.parseIntB 64 s.data.toList with
  | ok v =>
    have hb := Lib.parseIntB_bounds hp
    have hne : s.size ≠ 0 := fun h => by
      have : s.data.toList = [] := List.eq_nil_of_length_eq_zero (by simpa using h)
      rw [this] at hp
      cases hp
    refine (Tryz.strconv_ParseInt_10_at64_ok s (by omega) v hp w).mono ?_
    rintro e w' ⟨rfl, hw⟩
    refine ⟨?_, .inl ⟨v, by have := hb.1; simp at this; omega, by have := hb.2; simp at this; omega, hne, rfl⟩⟩
    rcases hw with rfl | ⟨t, rfl⟩
    · exact Below.refl _ _
    · exact below_bytes _ _ _
  | «syntax» =>
    refine (Any.strconv_ParseInt_10_at64_syntax Tryz.laysC174 s (by omega) hp ev2 w c2 e2).mono ?_
    rintro e w' ⟨N, rfl, _, _, hb⟩
    exact ⟨hb, .inr ⟨_, N, rfl⟩⟩
  | range =>
    refine (Any.strconv_ParseInt_10_at64_range Tryz.laysC174 s (by omega) hp ev3 w c3 e3).mono ?_
    rintro e w' ⟨N, rfl, _, _, hb⟩
    exact ⟨hb, .inr ⟨_, N, rfl⟩⟩

def GPost (w : World) (s : ByteArray) (e : Ending) (w' : World) : Prop := ∃ (k n : Int) (t : ByteArray), e = .returned (.agg #[.int .i64 k, .int .i64 n, .string t]) ∧ Below w.heap.size w w' ∧ t.size ≤ maxLen ∧ -9223372036854775808 ≤ n ∧ n ≤ 9223372036854775807 ∧ (s.size = 0 → validB k n t = true)

theorem cut_len (l : List UInt8) : (Lib.trimPrefix l [39]).length ≤ l.length := by
  unfold Lib.trimPrefix
  split
  · rw [List.length_drop]; omega
  · exact Nat.le_refl _
theorem trim_len (l : List UInt8) : (Lib.trimSuffix l [39]).length ≤ l.length := by
  unfold Lib.trimSuffix
  split
  · rw [List.length_take]; omega
  · exact Nat.le_refl _
theorem valid0 : validB 0 0 ⟨#[]⟩ = true := by unfold validB; simp

set_option maxHeartbeats 2000000 in
theorem guess_tot (s : ByteArray) (w : World) (hs : s.size ≤ 140737488355327) (h2 : Sen w) (h3 : Sen3 w) :
    Calls Tryz.prog 161 #[.string s] w (GPost w s) := by
  have H2 : Hid (Sen w) := h2
  have H3 : Hid (Sen3 w) := h3
  clear h2 h3
  have hlen : s.data.toList.length = s.size := by simp
  have HC := Tryz.strings_CutPrefix s ⟨#[39]⟩
  rw [show (⟨#[39]⟩ : ByteArray).data.toList = [39] from rfl] at HC
  have hc := cut_len s.data.toList
  obtain ⟨I, hI⟩ : ∃ I : ByteArray, I = ⟨(Lib.trimPrefix s.data.toList [39]).toArray⟩ := ⟨_, rfl⟩
  have hIz : I.size ≤ s.size := by rw [hI]; show (Lib.trimPrefix s.data.toList [39]).toArray.size ≤ _; rw [List.size_toArray]; omega
  have HC1 : Hid (∀ W, Calls Tryz.prog 165 #[.string s, .string ⟨#[39]⟩] W fun e w' => e = .returned (.tuple #[.string I, .bool (Lib.hasPrefix s.data.toList [39])]) ∧ w' = W) := by rw [hI]; exact HC
  have hE : Lib.hasPrefix s.data.toList [39] = true → s.size ≠ 0 := fun h h0 => by
    have : s.data.toList = [] := List.eq_nil_of_length_eq_zero (by omega)
    rw [this] at h
    simp [Lib.hasPrefix, List.isPrefixOf] at h
  clear HC hI hc
  cases hpre : Lib.hasPrefix s.data.toList [39] with
  | true =>
    rw [hpre] at HC1
    have hne := hE hpre
    have hlenI : I.data.toList.length = I.size := by simp
    have HT := fun W => Tryz.strings_TrimSuffix I ⟨#[39]⟩ W (by omega)
    rw [show (⟨#[39]⟩ : ByteArray).data.toList = [39] from rfl] at HT
    have ht := trim_len I.data.toList
    obtain ⟨T, hT⟩ : ∃ T : ByteArray, T = ⟨(Lib.trimSuffix I.data.toList [39]).toArray⟩ := ⟨_, rfl⟩
    have hTz : T.size ≤ I.size := by rw [hT]; show (Lib.trimSuffix I.data.toList [39]).toArray.size ≤ _; rw [List.size_toArray]; omega
    have HT1 : Hid (∀ W, Calls Tryz.prog 167 #[.string I, .string ⟨#[39]⟩] W fun e w' => e = .returned (.string T) ∧ w' = W) := by rw [hT]; exact HT
    have HU : Hid (∀ W, Below w.heap.size w W → Calls Tryz.prog 166 #[.string T] W (UPost W T)) := fun W hW => unescaped_tot T W (by omega) (H2.out.later hW)
    clear HT hT ht hlenI hE hpre
    go_enter Tryz.func161, Tryz.ntmps161
    go_wp2_with fail
    refine (HC1.out _).mono ?_
    rintro e w1 ⟨rfl, rfl⟩
    go_wp2_with fail
    refine (HT1.out _).mono ?_
    rintro e w1 ⟨rfl, rfl⟩
    go_wp2_with fail
    refine (HU.out _ (bel1 w _)).mono ?_
    rintro e w1 ⟨t, rfl, htz, hb1⟩
    have hf0 := frozen_later (a := ⟨w.heap.size, 0, none⟩) hb1 (by simp) (by simp)
    have hf1 := frozen_later (a := ⟨w.heap.size, 1, none⟩) hb1 (by simp) (by simp)
    have hf2 := frozen_later (a := ⟨w.heap.size, 2, none⟩) hb1 (by simp) (by simp)
    have hc0 := cell_later (a := ⟨w.heap.size, 0, none⟩) (v := .int .i64 0) hb1 (by go_simp)
    have hc1 := cell_later (a := ⟨w.heap.size, 1, none⟩) (v := .int .i64 0) hb1 (by go_simp)
    have hc2 := cell_later (a := ⟨w.heap.size, 2, none⟩) (v := .string ⟨#[]⟩) hb1 (by go_simp)
    have hB1 := (bel1 w _).trans (hb1.mono (by simp))
    clear hb1
    go_wp2_with fail
    refine (words_any _ _).mono ?_
    rintro e w2 ⟨rfl, hb2⟩
    have hlt : w.heap.size < w1.heap.size := World.block_lt_of_cell? _ _ hc0
    replace hf0 := frozen_later hb2 hlt hf0
    replace hf1 := frozen_later hb2 hlt hf1
    replace hf2 := frozen_later hb2 hlt hf2
    replace hc0 := cell_later hb2 hc0
    replace hc1 := cell_later hb2 hc1
    replace hc2 := cell_later hb2 hc2
    have hB2 := hB1.trans (hb2.mono hB1.size)
    have FIN : Hid (∀ w6, Below w.heap.size w w6 → GPost w s (.returned (.agg #[.int .i64 3, .int .i64 0, .string t])) w6) := fun w6 h6 => ⟨3, 0, t, rfl, h6, by unfold maxLen; omega, by omega, by omega, fun h => absurd h hne⟩
    clear hb2 hB1 hlt HC1 HT1 HU H2 H3
    go_wp2
    exact bodyPost_ret (v := .agg #[.int .i64 3, .int .i64 0, .string t]) (by simp [results, Tryz.results161, go_sem, hc0, hc1, hc2]) rfl (FIN.out _ (((hB2.setCell (Nat.le_refl _) _).setCell (Nat.le_refl _) _).setCell (Nat.le_refl _) _))
  | false =>
    rw [hpre] at HC1
    by_cases q1 : s = ⟨#[116, 114, 117, 101]⟩
    · subst q1
      refine (guess_true w).mono ?_
      rintro e w' ⟨rfl, hb⟩
      exact ⟨2, 1, ⟨#[]⟩, rfl, hb, Nat.zero_le _, by omega, by omega, fun h => by cases h⟩
    by_cases q2 : s = ⟨#[102, 97, 108, 115, 101]⟩
    · subst q2
      refine (guess_false w).mono ?_
      rintro e w' ⟨rfl, hb⟩
      exact ⟨2, 0, ⟨#[]⟩, rfl, hb, Nat.zero_le _, by omega, by omega, fun h => by cases h⟩
    have r1 : (s.toList == [116, 114, 117, 101]) = false := by
      rw [beq_eq_false_iff_ne]; intro h; exact q1 (toList_inj (by rw [h, ByteArray.toList_eq]))
    have r2 : (s.toList == [102, 97, 108, 115, 101]) = false := by
      rw [beq_eq_false_iff_ne]; intro h; exact q2 (toList_inj (by rw [h, ByteArray.toList_eq]))
    have HP : Hid (∀ W, Below w.heap.size w W → Calls Tryz.prog 168 #[.string s, .int .i64 10, .int .i64 64] W (PIPost W s)) := fun W hW => parseInt_tot s W hs (H2.out.later hW) (H3.out.later hW)
    clear q1 q2 hE hpre hIz H2 H3
    go_enter Tryz.func161, Tryz.ntmps161
    go_wp2_with fail
    refine (HC1.out _).mono ?_
    rintro e w1 ⟨rfl, rfl⟩
    go_wp2_with fail
    refine (HP.out _ (bel1 w _)).mono ?_
    rintro e w1 ⟨hb1, hcase⟩
    have hf0 := frozen_later (a := ⟨w.heap.size, 0, none⟩) hb1 (by simp) (by simp)
    have hf1 := frozen_later (a := ⟨w.heap.size, 1, none⟩) hb1 (by simp) (by simp)
    have hf2 := frozen_later (a := ⟨w.heap.size, 2, none⟩) hb1 (by simp) (by simp)
    have hc0 := cell_later (a := ⟨w.heap.size, 0, none⟩) (v := .int .i64 0) hb1 (by go_simp)
    have hc1 := cell_later (a := ⟨w.heap.size, 1, none⟩) (v := .int .i64 0) hb1 (by go_simp)
    have hc2 := cell_later (a := ⟨w.heap.size, 2, none⟩) (v := .string ⟨#[]⟩) hb1 (by go_simp)
    have hB1 := (bel1 w _).trans (hb1.mono (by simp))
    clear hb1 HP HC1
    rcases hcase with ⟨v, hv0, hv1, hne, rfl⟩ | ⟨v, N, rfl⟩
    · go_wp2_with fail
      refine (of_any _ _).mono ?_
      rintro e w2 ⟨rfl, hb2⟩
      have hlt : w.heap.size < w1.heap.size := World.block_lt_of_cell? _ _ hc0
      replace hf0 := frozen_later hb2 hlt hf0
      replace hf1 := frozen_later hb2 hlt hf1
      replace hf2 := frozen_later hb2 hlt hf2
      replace hc0 := cell_later hb2 hc0
      replace hc1 := cell_later hb2 hc1
      replace hc2 := cell_later hb2 hc2
      have hB2 := hB1.trans (hb2.mono hB1.size)
      have FIN : Hid (∀ w6, Below w.heap.size w w6 → GPost w s (.returned (.agg #[.int .i64 1, .int .i64 v, .string ⟨#[]⟩])) w6) := fun w6 h6 => ⟨1, v, ⟨#[]⟩, rfl, h6, Nat.zero_le _, hv0, hv1, fun h => absurd h hne⟩
      clear hb2 hB1 hlt
      go_wp2
      exact bodyPost_ret (v := .agg #[.int .i64 1, .int .i64 v, .string ⟨#[]⟩]) (by simp [results, Tryz.results161, go_sem, hc0, hc1, hc2]) rfl (FIN.out _ (((hB2.setCell (Nat.le_refl _) _).setCell (Nat.le_refl _) _).setCell (Nat.le_refl _) _))
    · have FIN : Hid (∀ w6, Below w.heap.size w w6 → GPost w s (.returned (.agg #[.int .i64 0, .int .i64 0, .string ⟨#[]⟩])) w6) := fun w6 h6 => ⟨0, 0, ⟨#[]⟩, rfl, h6, Nat.zero_le _, by omega, by omega, fun h => valid0⟩
      go_wp2
      exact bodyPost_ret (v := .agg #[.int .i64 0, .int .i64 0, .string ⟨#[]⟩]) (by simp [results, Tryz.results161, go_sem, hc0, hc1, hc2]) rfl (FIN.out _ (((hB1.setCell (Nat.le_refl _) _).setCell (Nat.le_refl _) _).setCell (Nat.le_refl _) _))
end Go.Proofs.YtplaplhmjpfbjaaGreatDoor.Vl
namespace Go.Proofs.YtplaplhmjpfbjaaGreatDoor.Vl
open Go.RowKit
set_option linter.unusedVariables false
set_option maxRecDepth 100000
attribute [local go_sem ↓] neq24 eql24
attribute [local go_sem] guard24

/-- What the program's reader answers. -/
def QPost (w : World) (s : ByteArray) (e : Ending) (w' : World) : Prop := Below w.heap.size w w' ∧
  ((∃ (k n : Int) (t : ByteArray), validB k n t = true ∧ -9223372036854775808 ≤ n ∧ n ≤ 9223372036854775807 ∧ showB k n t = s ∧ e = .returned (.tuple #[.agg #[.int .i64 k, .int .i64 n, .string t], .nilIface])) ∨
   ((∀ k n t, -9223372036854775808 ≤ n → n ≤ 9223372036854775807 → validB k n t = true → showB k n t ≠ s) ∧ e = .returned (.tuple #[.agg #[.int .i64 0, .int .i64 0, .string ⟨#[]⟩], .iface 36 (.int .i64 1)])))

set_option maxHeartbeats 1000000 in
theorem read_tot (s : ByteArray) (w : World) (hs : s.size ≤ 140737488355327) (h2 : Sen w) (h3 : Sen3 w) (ht : Tab w) :
    Calls Tryz.prog 159 #[.string s] w (QPost w s) := by
  by_cases hA : ∃ (k n : Int) (t : ByteArray), validB k n t = true ∧ -9223372036854775808 ≤ n ∧ n ≤ 9223372036854775807 ∧ showB k n t = s
  · obtain ⟨k, n, t, hv, hn0, hn1, rfl⟩ := hA
    have htz : t.size ≤ maxLen := by
      rcases valid_form hv with ⟨_, _, rfl⟩ | ⟨_, rfl⟩ | ⟨_, _, rfl⟩ | ⟨_, _, rfl⟩ | ⟨_, _, h⟩
      · exact Nat.zero_le _
      · exact Nat.zero_le _
      · exact Nat.zero_le _
      · exact Nat.zero_le _
      · unfold maxLen; omega
    refine (read_show k n t w hv htz hn0 hn1 h2 ht).mono ?_
    rintro e w' ⟨rfl, hb⟩
    exact ⟨hb, .inl ⟨k, n, t, hv, hn0, hn1, rfl, rfl⟩⟩
  · have HN : Hid (∀ k n t, -9223372036854775808 ≤ n → n ≤ 9223372036854775807 → validB k n t = true → showB k n t ≠ s) := fun k n t a b c d => hA ⟨k, n, t, c, a, b, d⟩
    have HG : Hid (∀ W, Below w.heap.size w W → Calls Tryz.prog 161 #[.string s] W (GPost W s)) := fun W hW => guess_tot s W hs (h2.later hW) (h3.later hW)
    have HT : Hid (Tab w) := ht
    clear hA hs h2 h3 ht
    go_enter Tryz.func159, Tryz.ntmps159
    go_wp2_with fail
    refine (HG.out _ (bel1 w _)).mono ?_
    rintro e w1 ⟨k, n, t, rfl, hb1, htz, hn0, hn1, hval⟩
    have HS : Hid (∀ W, Below w.heap.size w W → Calls Tryz.prog 162 #[.agg #[.int .i64 k, .int .i64 n, .string t]] W fun e w' => e = .returned (.string (showB k n t)) ∧ Below W.heap.size W w') :=
      fun W hW => show_any k n t W htz hn0 hn1 (HT.out.later hW)
    have hne : ((showB k n t).toList == s.toList) = false := by
      rw [beq_eq_false_iff_ne]
      intro h
      have h' := toList_inj h
      cases hv : validB k n t
      · have he := show_none hv
        rw [he] at h'
        have := hval (by rw [← h']; rfl)
        rw [hv] at this
        cases this
      · exact HN.out k n t hn0 hn1 hv h'
    have hf0 := frozen_later (a := ⟨w.heap.size, 0, none⟩) hb1 (by simp) (by simp)
    have hf1 := frozen_later (a := ⟨w.heap.size, 1, none⟩) hb1 (by simp) (by simp)
    have hf2 := frozen_later (a := ⟨w.heap.size, 2, none⟩) hb1 (by simp) (by simp)
    have hc0 := cell_later (a := ⟨w.heap.size, 0, none⟩) (v := .int .i64 0) hb1 (by go_simp)
    have hc1 := cell_later (a := ⟨w.heap.size, 1, none⟩) (v := .int .i64 0) hb1 (by go_simp)
    have hc2 := cell_later (a := ⟨w.heap.size, 2, none⟩) (v := .string ⟨#[]⟩) hb1 (by go_simp)
    have hB1 := (bel1 w _).trans (hb1.mono (by simp))
    have hlt : w.heap.size < w1.heap.size := World.block_lt_of_cell? _ _ hc0
    clear hb1 htz hn0 hn1 hval HG HT
    generalize showB k n t = S at *
    go_wp2_with fail
    have hA := bel1 w1 (.cells #[.int .i64 k, .int .i64 n, .string t] 110)
    replace hf0 := frozen_later hA hlt hf0
    replace hf1 := frozen_later hA hlt hf1
    replace hf2 := frozen_later hA hlt hf2
    replace hc0 := cell_later hA hc0
    replace hc1 := cell_later hA hc1
    replace hc2 := cell_later hA hc2
    replace hB1 := hB1.trans (hA.mono hB1.size)
    have hlt2 : w.heap.size < (w1.alloc (.cells #[.int .i64 k, .int .i64 n, .string t] 110)).heap.size := World.block_lt_of_cell? _ _ hc0
    clear hA
    generalize hW : w1.alloc (.cells #[.int .i64 k, .int .i64 n, .string t] 110) = W at *
    clear hW
    refine (HS.out W hB1).mono ?_
    rintro e w2 ⟨rfl, hb2⟩
    replace hf0 := frozen_later hb2 hlt2 hf0
    replace hf1 := frozen_later hb2 hlt2 hf1
    replace hf2 := frozen_later hb2 hlt2 hf2
    replace hc0 := cell_later hb2 hc0
    replace hc1 := cell_later hb2 hc1
    replace hc2 := cell_later hb2 hc2
    replace hB1 := hB1.trans (hb2.mono hB1.size)
    have FIN : Hid (∀ w6, Below w.heap.size w w6 → QPost w s (.returned (.tuple #[.agg #[.int .i64 0, .int .i64 0, .string ⟨#[]⟩], .iface 36 (.int .i64 1)])) w6) := fun w6 h6 => ⟨h6, .inr ⟨HN.out, rfl⟩⟩
    clear hb2 hlt2 HS HN
    go_wp2
    exact bodyPost_ret (v := .tuple #[.agg #[.int .i64 0, .int .i64 0, .string ⟨#[]⟩], .iface 36 (.int .i64 1)]) (by simp [results, Tryz.results159, go_sem, hc0, hc1, hc2]) rfl (FIN.out _ (((hB1.setCell (Nat.le_refl _) _).setCell (Nat.le_refl _) _).setCell (Nat.le_refl _) _))
end Go.Proofs.YtplaplhmjpfbjaaGreatDoor.Vl
