import Derived.Test.YtkedbmpnhplmaaaMgA
import Derived.Test.YtkedbmpnhplmaaaShelf
import Derived.Shelf.SlSortCmp.WholeK
import Derived.Sort.Grow
namespace Go.Proofs.Ytkedbmpnhplmaaa
open Go.RowKit Go.Shelf
set_option linter.unusedVariables false
set_option linter.unusedSimpArgs false
set_option maxRecDepth 100000
set_option maxHeartbeats 2000000

def cmpI (a b : Int) : Int := if a < b then -1 else if b < a then 1 else 0
theorem isNaN_any (x : Int) (w : World) : Calls Try.prog 22 #[.int .i64 x] w fun e w' => e = .returned (.bool false) ∧ w' = w := by
  go_enter Try.func22, Try.ntmps22
  go_wp2
  go_ret
  exact ⟨rfl, rfl⟩
theorem cmp_any (x y : Int) (w : World) : Calls Try.prog 15 #[.int .i64 x, .int .i64 y] w fun e w' => e = .returned (.int .i64 (cmpI x y)) ∧ w' = w := by
  unfold cmpI
  by_cases h1 : x < y
  · rw [if_pos h1]
    go_enter Try.func15, Try.ntmps15
    go_wp2_with (go_at_call 22; refine (isNaN_any _ _).mono ?_; rintro e w' ⟨rfl, rfl⟩)
    go_ret
    exact ⟨rfl, rfl⟩
  · rw [if_neg h1]
    by_cases h2 : y < x
    · rw [if_pos h2]
      go_enter Try.func15, Try.ntmps15
      go_wp2_with (go_at_call 22; refine (isNaN_any _ _).mono ?_; rintro e w' ⟨rfl, rfl⟩)
      go_ret
      exact ⟨rfl, rfl⟩
    · rw [if_neg h2]
      go_enter Try.func15, Try.ntmps15
      go_wp2_with (go_at_call 22; refine (isNaN_any _ _).mono ?_; rintro e w' ⟨rfl, rfl⟩)
      go_ret
      exact ⟨rfl, rfl⟩

def encW (x : Wn) : List Value := [.int .i64 x.a, .int .i64 x.b]
instance : Inhabited Wn := ⟨⟨0, 0⟩⟩
def cfW (x y : Wn) : Int := cmpI x.a y.a
theorem ltW (x y : Wn) : ltOf cfW x y = decide (x.a < y.a) := by
  unfold ltOf cfW cmpI
  by_cases h1 : x.a < y.a
  · simp [h1]
  · by_cases h2 : y.a < x.a <;> simp [h1, h2]
theorem swoW : Sort.SWO (ltOf cfW) where
  irrefl x := by rw [ltW]; simp
  trans x y z h1 h2 := by rw [ltW] at *; simp at *; omega
  ntrans x y z h1 h2 := by rw [ltW] at *; simp at *; omega

theorem closure_cmp (x y : Wn) (W : World) : Calls Try.prog 21 #[.agg #[.int .i64 x.a, .int .i64 x.b], .agg #[.int .i64 y.a, .int .i64 y.b]] W fun e w' => e = .returned (.int .i64 (cfW x y)) ∧ ∃ q os', w' = Sort.grow (W.drewN q) os' := by
  unfold cfW
  go_enter Try.func21, Try.ntmps21
  go_wp2_with (go_at_call 15; refine (cmp_any _ _ _).mono ?_; rintro e w' ⟨rfl, rfl⟩)
  go_ret
  exact ⟨rfl, 0, _, by rw [Sort.alloc_eq_grow, Sort.alloc_eq_grow, Sort.grow_grow]; rfl⟩
theorem cmpLaysW (blk off size : Nat) (w : World) : CmpLays Try.prog 21 #[] encW 2 cfW blk off size w :=
  fun _ _ _ _ x y => closure_cmp x y _

theorem flatW_list (d : Array Wn) : (Sort.flatK encW 2 d).toList = wcells d.toList := by
  apply List.ext_getElem?
  intro t
  by_cases ht : t < d.size * 2
  · have hd : t / 2 < d.size := by omega
    have ⟨c1, c2⟩ := wcells_at d.toList (t / 2) d[t / 2] (by simp [hd])
    have hsz : t < (Sort.flatK encW 2 d).size := by rw [Sort.size_flatK]; exact ht
    rw [Array.getElem?_toList, Array.getElem?_eq_getElem hsz, ← getElem!_pos, Sort.get_flatK _ _ _ _ ht, getElem!_pos d _ hd]
    rcases Nat.mod_two_eq_zero_or_one t with h0 | h0
    · rw [show t / 2 * 2 = t by omega] at c1
      rw [c1, h0]; rfl
    · rw [show t / 2 * 2 + 1 = t by omega] at c2
      rw [c2, h0]; rfl
  · rw [List.getElem?_eq_none (by simp; omega), List.getElem?_eq_none (by rw [wcells_length]; simp; omega)]

theorem putCells_take (F c : Array Value) (h : F.size ≤ c.size) : (Sort.putCells id 0 F c).toList.take F.size = F.toList := by
  apply List.ext_getElem?
  intro k
  rw [List.getElem?_take]
  by_cases hk : k < F.size
  · rw [if_pos hk, Array.getElem?_toList, Array.getElem?_toList]
    unfold Sort.putCells
    rw [Array.getElem?_mapIdx, Array.getElem?_eq_getElem (by omega), Array.getElem?_eq_getElem hk]
    simp only [Option.map_some]
    rw [if_pos ⟨Nat.zero_le _, by omega⟩, Nat.sub_zero, getElem!_pos F k (by omega)]
    rfl
  · rw [if_neg hk, Array.getElem?_toList, Array.getElem?_eq_none (by omega)]

/-- slices.SortFunc of windows, by their beginnings. -/
theorem sort_some (w : World) (base blk cap : Nat) (xs : List Wn) (hown : w.ownsRow base 24 2 (.slice (some ⟨blk, 0, none⟩) xs.length cap) xs.length (wcells xs)) (hl : xs.length < 4611686018427387904) :
    Calls Try.prog 27 #[.slice (some ⟨blk, 0, none⟩) xs.length cap, .func (.func 21) #[] #[]] w fun e w' => e = .returned (.tuple #[]) ∧ ∃ ps : List Wn, ps.Perm xs ∧ ps.Pairwise (fun x y => x.a ≤ y.a) ∧
      w'.ownsRow base 24 2 (.slice (some ⟨blk, 0, none⟩) xs.length cap) xs.length (wcells ps) ∧ w.grownBy w' (some blk) := by
  have hrd := RdW.own hown
  rcases hown.2 with ⟨h1, _⟩ | ⟨g, cap', cur, h1, hbase, hg, hcap, hmax, hcs, htk⟩
  · simp at h1
  simp only [Value.slice.injEq, Option.some.injEq, Addr.mk.injEq, and_true, true_and] at h1
  obtain ⟨rfl, rfl⟩ := h1
  have hblk : blk < w.heap.size := (Array.getElem?_eq_some_iff.1 hg).1
  have hsz : xs.toArray.size = xs.length := by simp
  have hfl := flatW_list xs.toArray
  have hFs : (Sort.flatK encW 2 xs.toArray).size = xs.length * 2 := by rw [Sort.size_flatK]; simp
  have hH : Sort.HoldsK encW 2 w blk 0 xs.toArray := by
    unfold Sort.HoldsK Sort.Holds
    intro j hj
    have hj2 : j < xs.length * 2 := by omega
    have e1 : (Sort.flatK encW 2 xs.toArray)[j]? = (wcells xs)[j]? := by rw [← Array.getElem?_toList, hfl]
    rw [← htk, List.getElem?_take_of_lt hj2, Array.getElem?_toList] at e1
    constructor
    · simp only [World.cell?, hg, Nat.zero_add]
      rw [getElem!_pos (Sort.flatK encW 2 xs.toArray) j hj, ← e1, Array.getElem?_eq_getElem hj]
      rfl
    · simp [World.frozen?, hg]
  have eg : ∀ args w, (callFunc 21 args).run Try.prog w = .ok (.enter 21 args) w := enters_of Try.func21 (by kernel_rfl) rfl
  have hcon := AnyQ.slices_SortFunc Try.sortWn 2 Try.isAgg24 Try.sizeOf24 encW (fun _ => rfl) (fun x v hv => by simp [encW] at hv; rcases hv with rfl | rfl <;> rfl) cfW swoW 21 #[] blk 0 cap xs.toArray w eg (cmpLaysW blk 0 _ w) hH hblk (by omega)
  change Calls Try.prog 27 _ _ _ at hcon
  rw [hsz] at hcon
  refine hcon.mono ?_
  rintro e w' ⟨rfl, d', n, os, hp, hs, rfl⟩
  obtain ⟨hp1, -, hp3⟩ := hp
  have hp1' : d'.size = xs.length := by rw [hp1]; simp
  have hp4 : d'.toList.Perm xs := by
    rw [← hsz] at hp3
    have e1 : xs.toArray.extract 0 xs.toArray.size = xs.toArray := by simp
    have e2 : d'.extract 0 xs.toArray.size = d' := by rw [← hp1]; simp
    rw [e1, e2] at hp3
    simpa using hp3
  refine ⟨rfl, d'.toList, hp4, ?_, ?_, ?_⟩
  · rw [List.pairwise_iff_getElem]
    intro i j hi hj hij
    have hi' : i < d'.size := by simpa using hi
    have hj' : j < d'.size := by simpa using hj
    have := hs i j (Nat.zero_le _) hij (by omega)
    rw [ltW, getElem!_pos d' i hi', getElem!_pos d' j hj'] at this
    simp at this
    simpa using this
  · have hF' := flatW_list d'
    refine ⟨by rw [wcells_length]; simp [hp1'], .inr ⟨blk, cap, Sort.putCells id 0 (Sort.flatK encW 2 d') cur, rfl, hbase, ?_, hcap, hmax, ?_, ?_⟩⟩
    · unfold sortWorldK
      rw [Sort.heap_grow_old _ _ (by rw [Sort.size_putRowK]; exact hblk)]
      unfold Sort.putRowK Sort.putRow Sort.mapBlock
      simp only [Array.getElem?_modify, if_true]
      rw [show (Sort.ahead w n).heap[blk]? = w.heap[blk]? from rfl, hg]
      rfl
    · unfold Sort.putCells; rw [Array.size_mapIdx]; exact hcs
    · have e3 : (Sort.flatK encW 2 d').size = xs.length * 2 := by rw [Sort.size_flatK, hp1']
      have := putCells_take (Sort.flatK encW 2 d') cur (by rw [e3, hcs]; exact Nat.mul_le_mul_right _ hcap)
      rw [e3] at this
      rw [this, hF']
  · refine ⟨rfl, rfl, rfl, ?_, fun i hi hr => ?_⟩
    · exact size_sortWorldK_c _ _ _ _ _ _ _ _
    · unfold sortWorldK
      rw [Sort.heap_grow_old _ _ (by rw [Sort.size_putRowK]; exact hi)]
      unfold Sort.putRowK Sort.putRow Sort.mapBlock
      simp only [Array.getElem?_modify]
      rw [if_neg (fun e => hr (by rw [e]))]
      rfl
end Go.Proofs.Ytkedbmpnhplmaaa
