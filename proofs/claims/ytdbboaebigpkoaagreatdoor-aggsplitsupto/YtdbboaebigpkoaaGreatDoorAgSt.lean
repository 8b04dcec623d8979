import Derived.Test.YtdbboaebigpkoaaGreatDoorAgKx
import Derived.Test.YtdbboaebigpkoaaGreatDoorVcG
import Derived.Test.YtdbboaebigpkoaaGreatDoorShelf
import Derived.Shelf.SlSortCmp.WholeK
import Derived.Shelf.SlSortCmp.NoneTotal
import Derived.Sort.Grow
namespace Go.Proofs.YtdbboaebigpkoaaGreatDoor
open Go.RowKit Go.Shelf
set_option linter.unusedVariables false
set_option linter.unusedSimpArgs false
set_option maxRecDepth 100000
set_option maxHeartbeats 2000000

theorem grow_of {w w' : World} (hb : Below w.heap.size w w') (hd : w.drawn ≤ w'.drawn) : ∃ q os, w' = Sort.grow (w.drewN q) os := by
  refine ⟨w'.drawn - w.drawn, w'.heap.extract w.heap.size w'.heap.size, ?_⟩
  obtain ⟨h1, h2, h3, h4, h5⟩ := hb
  have hh : w'.heap = w.heap ++ w'.heap.extract w.heap.size w'.heap.size := by
    apply Array.ext_getElem?
    intro k
    rw [Array.getElem?_append]
    by_cases hk : k < w.heap.size
    · rw [if_pos hk]; exact h5 k hk
    · rw [if_neg hk, Array.getElem?_extract]
      by_cases hk2 : k < w'.heap.size
      · rw [if_pos (by omega)]; congr 1; omega
      · rw [if_neg (by omega)]; rw [Array.getElem?_eq_none (by omega)]
  have hd' : w'.drawn = w.drawn + (w'.drawn - w.drawn) := by omega
  cases w
  cases w'
  simp only [Sort.grow, World.drewN] at *
  subst h1 h2 h3
  rw [← hh, ← hd']

theorem len_cellsV (l : List V) : (l.flatMap cellsV).length = l.length * 3 := by
  induction l with
  | nil => rfl
  | cons a l ih => rw [List.flatMap_cons, List.length_append, ih]; simp [cellsV]; omega
instance : Inhabited V := ⟨v0⟩
def cfV (x y : V) : Int := cmpV x.k x.n x.s y.k y.n y.s
theorem ltCf (x y : V) : ltOf cfV x y = ltW x y := cmp_lt x y
theorem ltW_ntrans (x y z : V) (h1 : ltW x y = false) (h2 : ltW y z = false) : ltW x z = false := by
  cases h : ltW x z with
  | false => rfl
  | true =>
    cases h3 : ltW y x with
    | true =>
      have := ltW_trans _ _ _ h3 h
      rw [h2] at this; cases this
    | false =>
      obtain rfl := ltW_tri _ _ h1 h3
      rw [h2] at h; cases h
theorem swoV : Sort.SWO (ltOf cfV) where
  irrefl x := by rw [ltCf]; exact ltW_irrefl _
  trans x y z h1 h2 := by rw [ltCf] at *; exact ltW_trans _ _ _ h1 h2
  ntrans x y z h1 h2 := by rw [ltCf] at *; exact ltW_ntrans _ _ _ h1 h2
theorem cmpLaysV (blk off size : Nat) (w : World) : CmpLays Tryz.prog 42 #[] cellsV 3 cfV blk off size w := fun _ _ _ _ x y => by
  refine (compareG_any x.k x.n x.s y.k y.n y.s _).mono ?_
  rintro e w' ⟨rfl, hb, hd⟩
  exact ⟨rfl, grow_of hb hd⟩
theorem flatV_list (d : Array V) : (Sort.flatK cellsV 3 d).toList = d.toList.flatMap cellsV := by
  apply List.ext_getElem?
  intro t
  by_cases ht : t < d.size * 3
  · have h1 := flat_at cellsV 3 (fun _ => rfl) d.toList (t / 3) (t % 3) (by simp; omega) (by omega)
    rw [show t / 3 * 3 + t % 3 = t by omega] at h1
    rw [h1]
    have hsz : t < (Sort.flatK cellsV 3 d).size := by rw [Sort.size_flatK]; exact ht
    rw [Array.getElem?_toList, Array.getElem?_eq_getElem hsz, ← getElem!_pos, Sort.get_flatK _ _ _ _ ht]
    have hd : t / 3 < d.size := by omega
    rw [getElem!_pos d _ hd]
    have hl : t % 3 < (cellsV d[t / 3]).length := by simp [cellsV]; omega
    rw [getElem!_pos (cellsV d[t / 3]) _ hl, List.getElem?_eq_getElem (by simpa [cellsV] using (by omega : t % 3 < 3))]
    simp
  · rw [List.getElem?_eq_none (by simp; omega), List.getElem?_eq_none (by rw [len_cellsV]; simp; omega)]
theorem putCells_take (F c : Array Value) (h : F.size ≤ c.size) : (Sort.putCells id 0 F c).toList.take F.size = F.toList := by
  apply List.ext_getElem?
  intro k
  rw [List.getElem?_take]
  by_cases hk : k < F.size
  · rw [if_pos hk, Array.getElem?_toList, Array.getElem?_toList]
    unfold Sort.putCells
    rw [Array.getElem?_mapIdx, Array.getElem?_eq_getElem (by omega), Array.getElem?_eq_getElem hk]
    simp only [Option.map_some]
    rw [if_pos ⟨Nat.zero_le _, by omega⟩, Nat.sub_zero, getElem!_pos F k (by omega)]
    rfl
  · rw [if_neg hk, Array.getElem?_toList, Array.getElem?_eq_none (by omega)]
theorem sortV_some (w : World) (base blk cap : Nat) (xs : List V) (hown : OV w base (.slice (some ⟨blk, 0, none⟩) xs.length cap) xs) (hl : xs.length ≤ 4398046511104) :
    Calls Tryz.prog 99 #[.slice (some ⟨blk, 0, none⟩) xs.length cap, .func (.func 42) #[] #[]] w fun e w' => e = .returned (.tuple #[]) ∧ ∃ ps : List V, ps.Perm xs ∧ 
      OV w' base (.slice (some ⟨blk, 0, none⟩) xs.length cap) ps ∧ w.grownBy w' (some blk) := by
  rcases hown.2 with ⟨h1, _⟩ | ⟨g, cap', cur, h1, hbase, hg, hcap, hmax, hcs, htk⟩
  · simp at h1
  simp only [Value.slice.injEq, Option.some.injEq, Addr.mk.injEq, and_true, true_and] at h1
  obtain ⟨rfl, rfl⟩ := h1
  have hblk : blk < w.heap.size := (Array.getElem?_eq_some_iff.1 hg).1
  have hsz : xs.toArray.size = xs.length := by simp
  have hfl := flatV_list xs.toArray
  have hFs : (Sort.flatK cellsV 3 xs.toArray).size = xs.length * 3 := by rw [Sort.size_flatK]; simp
  have hH : Sort.HoldsK cellsV 3 w blk 0 xs.toArray := by
    unfold Sort.HoldsK Sort.Holds
    intro j hj
    have hj2 : j < xs.length * 3 := by omega
    have e1 : (Sort.flatK cellsV 3 xs.toArray)[j]? = (xs.flatMap cellsV)[j]? := by rw [← Array.getElem?_toList, hfl]
    rw [← htk, List.getElem?_take_of_lt hj2, Array.getElem?_toList] at e1
    constructor
    · simp only [World.cell?, hg, Nat.zero_add]
      rw [getElem!_pos (Sort.flatK cellsV 3 xs.toArray) j hj, ← e1, Array.getElem?_eq_getElem hj]
      rfl
    · simp [World.frozen?, hg]
  have eg : ∀ args w, (callFunc 42 args).run Tryz.prog w = .ok (.enter 42 args) w := enters_of Tryz.func42 (by kernel_rfl) rfl
  have hcon := AnyQ.slices_SortFunc Tryz.sortVl 3 Tryz.isAgg25 Tryz.sizeOf25 cellsV (fun _ => rfl) (fun x v hv => by simp [cellsV] at hv; rcases hv with rfl | rfl | rfl <;> rfl) cfV swoV 42 #[] blk 0 cap xs.toArray w eg (cmpLaysV blk 0 _ w) hH hblk (by omega)
  change Calls Tryz.prog 99 _ _ _ at hcon
  rw [hsz] at hcon
  refine hcon.mono ?_
  rintro e w' ⟨rfl, d', n, os, hp, hs, rfl⟩
  obtain ⟨hp1, -, hp3⟩ := hp
  have hp1' : d'.size = xs.length := by rw [hp1]; simp
  have hp4 : d'.toList.Perm xs := by
    rw [← hsz] at hp3
    have e1 : xs.toArray.extract 0 xs.toArray.size = xs.toArray := by simp
    have e2 : d'.extract 0 xs.toArray.size = d' := by rw [← hp1]; simp
    rw [e1, e2] at hp3
    simpa using hp3
  refine ⟨rfl, d'.toList, hp4, ?_, ?_⟩
  · have hF' := flatV_list d'
    have hdl : d'.toList.length = xs.length := by simp [hp1']
    unfold OV
    rw [hdl]
    refine ⟨by rw [len_cellsV]; simp [hp1'], .inr ⟨blk, cap, Sort.putCells id 0 (Sort.flatK cellsV 3 d') cur, rfl, hbase, ?_, hcap, hmax, ?_, ?_⟩⟩
    · unfold sortWorldK
      rw [Sort.heap_grow_old _ _ (by rw [Sort.size_putRowK]; exact hblk)]
      unfold Sort.putRowK Sort.putRow Sort.mapBlock
      simp only [Array.getElem?_modify, if_true]
      rw [show (Sort.ahead w n).heap[blk]? = w.heap[blk]? from rfl, hg]
      rfl
    · unfold Sort.putCells; rw [Array.size_mapIdx]; exact hcs
    · have e3 : (Sort.flatK cellsV 3 d').size = xs.length * 3 := by rw [Sort.size_flatK, hp1']
      have := putCells_take (Sort.flatK cellsV 3 d') cur (by rw [e3, hcs]; exact Nat.mul_le_mul_right _ hcap)
      rw [e3] at this
      rw [this, hF']
  · refine ⟨rfl, rfl, rfl, ?_, fun i hi hr => ?_⟩
    · exact size_sortWorldK_c _ _ _ _ _ _ _ _
    · unfold sortWorldK
      rw [Sort.heap_grow_old _ _ (by rw [Sort.size_putRowK]; exact hi)]
      unfold Sort.putRowK Sort.putRow Sort.mapBlock
      simp only [Array.getElem?_modify]
      rw [if_neg (fun e => hr (by rw [e]))]
      rfl
theorem sortsV : SortsV := by
  intro w B u vs h hl
  obtain ⟨a, c, rfl, hL, -⟩ := h.form
  rcases h.2 with ⟨e, _⟩ | ⟨g, cap', cur, e, hbase, hg, hcap, hmax, hcs, htk⟩
  · have hn : vs = [] := by
      cases vs with
      | nil => rfl
      | cons x xs => simp at e
    subst hn
    obtain ⟨rfl, rfl⟩ : a = none ∧ c = 0 := by simpa using e
    have hnone := AnyF.slices_SortFunc_none Tryz.sortVl none 0 (.func (.func 42) #[] #[]) w
    change Calls Tryz.prog 99 _ _ _ at hnone
    refine hnone.mono ?_
    rintro e w2 ⟨rfl, rfl⟩
    exact ⟨rfl, [], List.Perm.refl _, h, World.grownBy.refl _ _⟩
  · simp only [Value.slice.injEq, true_and] at e
    obtain ⟨rfl, rfl⟩ := e
    refine (sortV_some w B g c vs h hl).mono ?_
    rintro e w' ⟨rfl, ps, p1, p2, p3⟩
    exact ⟨rfl, ps, p1, by rw [OV, ← p1.length_eq] at *; exact p2, p3⟩
end Go.Proofs.YtdbboaebigpkoaaGreatDoor
