import Derived.Test.YtojfhlhajemhdaaDoorDsD
import Derived.Sort.EncStr
namespace Go.Proofs.YtojfhlhajemhdaaDoor
open Go.RowKit Go.Sort Go.Shelf
set_option linter.unusedVariables false
set_option linter.unusedSimpArgs false
set_option maxRecDepth 100000

theorem encStr_of (s : ByteArray) : encStr s.data.toList = .string s := by
  unfold encStr; simp
theorem heap_put {w : World} {g n : Nat} {cur : Array Value} {e : TypeId} {fr : Nat × Nat} (d : Array (List UInt8)) (hb : w.heap[g]? = some (.cells cur e fr)) :
    (putRow encStr (Sort.ahead w n) g 0 d).heap[g]? = some (.cells (putCells encStr 0 d cur) e fr) := by
  simp [putRow, mapBlock, Sort.ahead, Array.getElem?_modify, hb, onCells]
theorem grownBy_put {w : World} {g n : Nat} (d : Array (List UInt8)) : w.grownBy (putRow encStr (Sort.ahead w n) g 0 d) (some g) := by
  refine ⟨rfl, rfl, rfl, by simp, fun k hk hne => ?_⟩
  have : g ≠ k := fun e => hne (by rw [e])
  simp [putRow, mapBlock, Sort.ahead, Array.getElem?_modify, this]
theorem take_put (cur : Array Value) (ts us : List (List UInt8)) (h : ts.length ≤ cur.size) : (putCells encStr 0 (ts ++ us).toArray cur).toList.take ts.length = ts.map encStr := by
  apply List.ext_getElem?
  intro j
  by_cases hj : j < ts.length
  · rw [List.getElem?_take_of_lt hj, Array.getElem?_toList]
    simp [putCells, hj, show j < cur.size by omega, show j < ts.length + us.length by omega]
  · rw [List.getElem?_take_eq_none (by omega), List.getElem?_eq_none (by simp; omega)]

theorem gives_rm (nm : ByteArray) (x : List UInt8) (b : Nat) (W : World) (hc : W.cell? ⟨b, 0, none⟩ = some (.string nm)) :
    FnGives Tryd.prog 21 #[.pointer (some ⟨b, 0, none⟩)] #[encStr x] (.bool (decide (x = nm.data.toList))) W := by
  show Calls Tryd.prog 21 #[encStr x, .pointer (some ⟨b, 0, none⟩)] W _
  have e1 : ∀ s : ByteArray, s = ⟨x.toArray⟩ → (s.toList == nm.toList) = decide (x = nm.data.toList) := fun s hs => by
    rw [ByteArray.toList_eq, ByteArray.toList_eq, hs]
    rw [Bool.eq_iff_iff]; simp
  have e2 : encStr x = .string ⟨x.toArray⟩ := rfl
  rw [e2]
  obtain ⟨s, hs⟩ : ∃ s : ByteArray, s = ⟨x.toArray⟩ := ⟨_, rfl⟩
  have e3 := e1 s hs
  rw [← hs]
  clear hs e1 e2
  generalize decide (x = nm.data.toList) = q at *
  go_enter Tryd.func21, Tryd.ntmps21
  go_wp2_with fail
  go_ret
  exact ⟨rfl, 0, rfl⟩

theorem pred_rm (nm : ByteArray) (b : Nat) (w : World) (hcell : w.cell? ⟨b, 0, none⟩ = some (.string nm)) :
    PredAt Tryd.prog 21 #[.pointer (some ⟨b, 0, none⟩)] encStr (fun x => decide (x = nm.data.toList)) w :=
  fun W x hb => gives_rm nm x b W (cell_later hb hcell)
theorem over_rm (nm : ByteArray) (b blk off size : Nat) (w : World) (hne : b ≠ blk) (hcell : w.cell? ⟨b, 0, none⟩ = some (.string nm)) :
    PredOver Tryd.prog 21 #[.pointer (some ⟨b, 0, none⟩)] encStr (fun x => decide (x = nm.data.toList)) blk off size w :=
  fun n os dk x _ => gives_rm nm x b _ (by
    have hB := World.block_lt_of_cell? _ _ hcell
    unfold sortWorld
    rw [cell?_grow _ _ _ (by show b < (putRow _ _ _ _ _).heap.size; rw [size_putRow]; exact hB), cell?_putRow_other _ _ blk off _ _ (Or.inl hne)]
    exact hcell)

set_option maxHeartbeats 1000000 in
theorem index_nil (f : Value) (c : Nat) (w : World) : Calls Tryd.prog 28 #[.slice none 0 c, f] w fun e w' => e = .returned (.int .i64 (-1)) ∧ w' = w := by
  go_enter Tryd.func28, Tryd.ntmps28
  go_wp2_with fail
  refine wp_loop_once ?_
  go_wp2_with fail
  go_ret
  exact ⟨rfl, rfl⟩
set_option maxHeartbeats 1000000 in
theorem del_nil (f : Value) (c : Nat) (w : World) : Calls Tryd.prog 20 #[.slice none 0 c, f] w fun e w' => e = .returned (.slice none 0 c) ∧ w' = w := by
  go_enter Tryd.func20, Tryd.ntmps20
  go_wp2_with fail
  refine (index_nil f c w).mono ?_
  rintro e w' ⟨rfl, rfl⟩
  go_wp2_with fail
  go_ret
  exact ⟨rfl, rfl⟩

theorem del_any (B b : Nat) (lv : Value) (xs : List ByteArray) (nm : ByteArray) (w : World) (h : w.ownsRow B 9 1 lv xs.length (xs.map Value.string)) (hc : w.cell? ⟨b, 0, none⟩ = some (.string nm)) (hne : some b ≠ lv.ownBlock) (hn : xs.length ≤ 2513169434880) :
    Calls Tryd.prog 20 #[lv, .func (.func 21) #[] #[.pointer (some ⟨b, 0, none⟩)]] w fun e w' => ∃ a' c', e = .returned (.slice a' (xs.filter fun x => !decide (x = nm)).length c') ∧ w'.ownsRow B 9 1 (.slice a' (xs.filter fun x => !decide (x = nm)).length c') (xs.filter fun x => !decide (x = nm)).length ((xs.filter fun x => !decide (x = nm)).map Value.string) ∧ w.grownBy w' lv.ownBlock ∧ (Value.slice a' (xs.filter fun x => !decide (x = nm)).length c').ownBlock = lv.ownBlock := by
  rcases h.2 with ⟨rfl, h0⟩ | ⟨g, cap, cur, rfl, h1, h2, h3, h4, h5, h6⟩
  · obtain rfl := List.eq_nil_of_length_eq_zero h0
    refine (del_nil _ 0 w).mono ?_
    rintro e w' ⟨rfl, rfl⟩
    exact ⟨none, 0, rfl, World.ownsRow_nil _ _ _ _, grown_refl _ _, rfl⟩
  · have exs : xs.map Value.string = (xs.map (·.data.toList)).map encStr := by
      rw [List.map_map]
      exact List.map_congr_left fun x _ => (encStr_of x).symm
    rw [Nat.mul_one, exs] at h6
    have hH : Holds encStr w g 0 (xs.map (·.data.toList)).toArray := holds_of_block h2 (by rw [List.length_map]; exact h6)
    have hbg : b ≠ g := fun e => hne (by rw [e]; rfl)
    have hcon := AnyE.slices_DeleteFunc Tryd.del20 encStr (fun _ => rfl) (fun x => decide (x = nm.data.toList)) 21 #[.pointer (some ⟨b, 0, none⟩)] (enters_of Tryd.func21 (by kernel_rfl) rfl) [] Tryd.zeroValue9 g 0 cap (xs.map (·.data.toList)).toArray w
      (pred_rm nm b w hc) (over_rm nm b g 0 _ w hbg hc) hH (by simp; omega) (by simpa using h3)
    change Calls Tryd.prog 20 _ _ _ at hcon
    have ef : ((xs.map (·.data.toList)).toArray.toList.filter fun x => !decide (x = nm.data.toList)) = (xs.filter fun x => !decide (x = nm)).map (·.data.toList) := by
      rw [List.toList_toArray, List.filter_map]
      congr 1
      refine List.filter_congr fun x _ => ?_
      simp only [Function.comp]
      congr 1
      rw [decide_eq_decide]
      constructor
      · intro e; cases x; cases nm; simp only at e; congr 1; exact Array.toList_inj.1 e
      · intro e; rw [e]
    rw [ef, List.size_toArray, List.length_map, List.length_map] at hcon
    refine hcon.mono ?_
    rintro e w' ⟨rfl, q, rfl⟩
    have hlen : (xs.filter fun x => !decide (x = nm)).length ≤ xs.length := List.length_filter_le _ _
    refine ⟨some ⟨g, 0, none⟩, cap, rfl, ⟨by simp, .inr ⟨g, cap, _, rfl, h1, heap_put _ h2, by omega, h4, by simp [putCells, h5], ?_⟩⟩, grownBy_put _, rfl⟩
    have := take_put cur ((xs.filter fun x => !decide (x = nm)).map (·.data.toList)) (List.replicate (xs.length - (xs.filter fun x => !decide (x = nm)).length) []) (by rw [List.length_map]; omega)
    rw [List.length_map] at this
    rw [Nat.mul_one, this, List.map_map]
    exact List.map_congr_left fun x _ => encStr_of x
end Go.Proofs.YtojfhlhajemhdaaDoor
