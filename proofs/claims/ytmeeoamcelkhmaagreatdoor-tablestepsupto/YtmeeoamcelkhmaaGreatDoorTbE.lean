import Derived.Test.YtmeeoamcelkhmaaGreatDoorTbD
import Derived.Test.YtmeeoamcelkhmaaGreatDoorShelf
import Derived.Shelf.SlSortCmp.WholeK
namespace Go.Proofs.YtmeeoamcelkhmaaGreatDoor
open Go.RowKit Go.Maps Go.Sort Go.Shelf
set_option linter.unusedVariables false
set_option linter.unusedSimpArgs false
set_option maxRecDepth 100000

def ltT (x y : Tx) : Bool := if x.m = y.m then (if x.sn = y.sn then decide (x.tk < y.tk) else Op.bytesLess x.sn.toList y.sn.toList) else decide (x.m < y.m)
theorem str_ne {a b : ByteArray} (h : a ≠ b) : (a.toList == b.toList) = false := bne_str h
theorem ltT_irrefl (x : Tx) : ltT x x = false := by unfold ltT; simp
theorem ltT_tri (x y : Tx) (h1 : ltT x y = false) (h2 : ltT y x = false) : x = y := by
  unfold ltT at h1 h2
  by_cases hm : x.m = y.m
  · rw [if_pos hm] at h1
    rw [if_pos hm.symm] at h2
    by_cases hs : x.sn = y.sn
    · rw [if_pos hs] at h1
      rw [if_pos hs.symm] at h2
      simp only [decide_eq_false_iff_not] at h1 h2
      exact Tx.eq_of hm hs (by omega)
    · rw [if_neg hs] at h1
      rw [if_neg (fun e => hs e.symm)] at h2
      have := bl_total _ _ h1 (str_ne hs)
      rw [h2] at this; cases this
  · rw [if_neg hm] at h1
    rw [if_neg (fun e => hm e.symm)] at h2
    simp only [decide_eq_false_iff_not] at h1 h2
    omega
theorem ltT_trans (x y z : Tx) (h1 : ltT x y = true) (h2 : ltT y z = true) : ltT x z = true := by
  unfold ltT at *
  by_cases hm : x.m = y.m
  · rw [if_pos hm] at h1
    by_cases hn : y.m = z.m
    · rw [if_pos hn] at h2
      rw [if_pos (hm.trans hn)]
      by_cases hs : x.sn = y.sn
      · rw [if_pos hs] at h1
        by_cases ht : y.sn = z.sn
        · rw [if_pos ht] at h2
          rw [if_pos (hs.trans ht)]
          simp only [decide_eq_true_eq] at *
          omega
        · rw [if_neg ht] at h2
          rw [if_neg (by rw [hs]; exact ht), hs]; exact h2
      · rw [if_neg hs] at h1
        by_cases ht : y.sn = z.sn
        · rw [if_neg (by rw [← ht]; exact hs), ← ht]; exact h1
        · rw [if_neg ht] at h2
          have h3 := bl_trans _ _ _ h1 h2
          rw [if_neg ?_]; exact h3
          intro e; rw [e, bl_irrefl] at h3; cases h3
    · rw [if_neg hn] at h2
      rw [if_neg (by rw [hm]; exact hn), hm]; exact h2
  · rw [if_neg hm] at h1
    by_cases hn : y.m = z.m
    · rw [if_neg (by rw [← hn]; exact hm), ← hn]; exact h1
    · rw [if_neg hn] at h2
      simp only [decide_eq_true_eq] at *
      rw [if_neg (by omega), decide_eq_true_eq]; omega
theorem ltT_ntrans (x y z : Tx) (h1 : ltT x y = false) (h2 : ltT y z = false) : ltT x z = false := by
  cases h3 : ltT x z with
  | false => rfl
  | true =>
    cases h4 : ltT y x with
    | true => have := ltT_trans _ _ _ h4 h3; rw [h2] at this; cases this
    | false =>
      have := ltT_tri _ _ h1 h4
      subst this
      rw [h2] at h3; cases h3
theorem cmpT_lt (x y : Tx) : decide (cmpT x y < 0) = ltT x y := by
  unfold cmpT ltT orI cmpI cmpS
  by_cases hm : x.m = y.m
  · rw [if_pos hm, if_neg (show ¬ x.m < y.m by omega), if_neg (show ¬ y.m < x.m by omega), if_pos rfl]
    by_cases hs : x.sn = y.sn
    · have e : (if Op.bytesLess x.sn.toList y.sn.toList = true then (-1 : Int) else if (x.sn.toList == y.sn.toList) = true then 0 else 1) = 0 := by rw [hs, bl_irrefl]; simp
      rw [if_pos hs, e, if_pos rfl]
      by_cases hl : x.tk < y.tk
      · simp [hl]
      · rw [if_neg hl, decide_eq_false hl]
        split <;> decide
    · rw [if_neg hs]
      cases hb : Op.bytesLess x.sn.toList y.sn.toList with
      | true => simp
      | false => simp [str_ne hs]
  · rw [if_neg hm]
    by_cases hl : x.m < y.m
    · simp [hl]
    · have : y.m < x.m := by omega
      simp [hl, this]
def AscT (l : List Tx) : Prop := l.Pairwise fun x y => ltT y x = false
def OT (w : World) (B : Nat) (x : Value) (vs : List Tx) : Prop := w.ownsRow B 27 3 x vs.length (vs.flatMap cellsT)
theorem len_cellsT (l : List Tx) : (l.flatMap cellsT).length = l.length * 3 := by
  induction l with
  | nil => rfl
  | cons x l ih => rw [List.flatMap_cons, List.length_append, ih, List.length_cons]; simp [cellsT]; omega
instance : Inhabited Tx := ⟨⟨0, ⟨#[]⟩, 0⟩⟩
def cfT (x y : Tx) : Int := cmpT x y
theorem ltCf (x y : Tx) : ltOf cfT x y = ltT x y := cmpT_lt x y
theorem swoT : Sort.SWO (ltOf cfT) where
  irrefl x := by rw [ltCf]; exact ltT_irrefl _
  trans x y z h1 h2 := by rw [ltCf] at *; exact ltT_trans _ _ _ h1 h2
  ntrans x y z h1 h2 := by rw [ltCf] at *; exact ltT_ntrans _ _ _ h1 h2
theorem cmpLaysT (blk off size : Nat) (w : World) : CmpLays Tryz.prog 25 #[] cellsT 3 cfT blk off size w := fun _ _ _ _ x y => by
  refine (compareT_any x y _).mono ?_
  rintro e w' ⟨rfl, hb, hd⟩
  exact ⟨rfl, grow_of hb hd⟩
theorem flatT_list (d : Array Tx) : (Sort.flatK cellsT 3 d).toList = d.toList.flatMap cellsT := by
  apply List.ext_getElem?
  intro t
  by_cases ht : t < d.size * 3
  · have h1 := flat_at cellsT 3 (fun _ => rfl) d.toList (t / 3) (t % 3) (by simp; omega) (by omega)
    rw [show t / 3 * 3 + t % 3 = t by omega] at h1
    rw [h1]
    have hsz : t < (Sort.flatK cellsT 3 d).size := by rw [Sort.size_flatK]; exact ht
    rw [Array.getElem?_toList, Array.getElem?_eq_getElem hsz, ← getElem!_pos, Sort.get_flatK _ _ _ _ ht]
    have hd : t / 3 < d.size := by omega
    rw [getElem!_pos d _ hd]
    have hl : t % 3 < (cellsT d[t / 3]).length := by simp [cellsT]; omega
    rw [getElem!_pos (cellsT d[t / 3]) _ hl, List.getElem?_eq_getElem (by simpa [cellsT] using (by omega : t % 3 < 3))]
    simp
  · rw [List.getElem?_eq_none (by simp; omega), List.getElem?_eq_none (by rw [len_cellsT]; simp; omega)]
theorem putCells_take (F c : Array Value) (h : F.size ≤ c.size) : (Sort.putCells id 0 F c).toList.take F.size = F.toList := by
  apply List.ext_getElem?
  intro k
  rw [List.getElem?_take]
  by_cases hk : k < F.size
  · rw [if_pos hk, Array.getElem?_toList, Array.getElem?_toList]
    unfold Sort.putCells
    rw [Array.getElem?_mapIdx, Array.getElem?_eq_getElem (by omega), Array.getElem?_eq_getElem hk]
    simp only [Option.map_some]
    rw [if_pos ⟨Nat.zero_le _, by omega⟩, Nat.sub_zero, getElem!_pos F k (by omega)]
    rfl
  · rw [if_neg hk, Array.getElem?_toList, Array.getElem?_eq_none (by omega)]
theorem sortT_some (w : World) (base blk cap : Nat) (xs : List Tx) (hown : OT w base (.slice (some ⟨blk, 0, none⟩) xs.length cap) xs) (hl : xs.length ≤ 4398046511104) :
    Calls Tryz.prog 36 #[.slice (some ⟨blk, 0, none⟩) xs.length cap, .func (.func 25) #[] #[]] w fun e w' => e = .returned (.tuple #[]) ∧ ∃ ps : List Tx, ps.Perm xs ∧ AscT ps ∧ 
      OT w' base (.slice (some ⟨blk, 0, none⟩) xs.length cap) ps ∧ w.grownBy w' (some blk) := by
  rcases hown.2 with ⟨h1, _⟩ | ⟨g, cap', cur, h1, hbase, hg, hcap, hmax, hcs, htk⟩
  · simp at h1
  simp only [Value.slice.injEq, Option.some.injEq, Addr.mk.injEq, and_true, true_and] at h1
  obtain ⟨rfl, rfl⟩ := h1
  have hblk : blk < w.heap.size := (Array.getElem?_eq_some_iff.1 hg).1
  have hsz : xs.toArray.size = xs.length := by simp
  have hfl := flatT_list xs.toArray
  have hFs : (Sort.flatK cellsT 3 xs.toArray).size = xs.length * 3 := by rw [Sort.size_flatK]; simp
  have hH : Sort.HoldsK cellsT 3 w blk 0 xs.toArray := by
    unfold Sort.HoldsK Sort.Holds
    intro j hj
    have hj2 : j < xs.length * 3 := by omega
    have e1 : (Sort.flatK cellsT 3 xs.toArray)[j]? = (xs.flatMap cellsT)[j]? := by rw [← Array.getElem?_toList, hfl]
    rw [← htk, List.getElem?_take_of_lt hj2, Array.getElem?_toList] at e1
    constructor
    · simp only [World.cell?, hg, Nat.zero_add]
      rw [getElem!_pos (Sort.flatK cellsT 3 xs.toArray) j hj, ← e1, Array.getElem?_eq_getElem hj]
      rfl
    · simp [World.frozen?, hg]
  have eg : ∀ args w, (callFunc 25 args).run Tryz.prog w = .ok (.enter 25 args) w := enters_of Tryz.func25 (by kernel_rfl) rfl
  have hcon := AnyQ.slices_SortFunc Tryz.sortTx 3 Tryz.isAgg27 Tryz.sizeOf27 cellsT (fun _ => rfl) (fun x v hv => by simp [cellsT] at hv; rcases hv with rfl | rfl | rfl <;> rfl) cfT swoT 25 #[] blk 0 cap xs.toArray w eg (cmpLaysT blk 0 _ w) hH hblk (by omega)
  change Calls Tryz.prog 36 _ _ _ at hcon
  rw [hsz] at hcon
  refine hcon.mono ?_
  rintro e w' ⟨rfl, d', n, os, hp, hs, rfl⟩
  obtain ⟨hp1, -, hp3⟩ := hp
  have hp1' : d'.size = xs.length := by rw [hp1]; simp
  have hp4 : d'.toList.Perm xs := by
    rw [← hsz] at hp3
    have e1 : xs.toArray.extract 0 xs.toArray.size = xs.toArray := by simp
    have e2 : d'.extract 0 xs.toArray.size = d' := by rw [← hp1]; simp
    rw [e1, e2] at hp3
    simpa using hp3
  have hasc : AscT d'.toList := by
    unfold AscT
    rw [List.pairwise_iff_getElem]
    intro i j hi hj hij
    have hi' : i < d'.size := by simpa using hi
    have hj' : j < d'.size := by simpa using hj
    have := hs i j (Nat.zero_le _) hij (by omega)
    rw [ltCf, getElem!_pos d' i hi', getElem!_pos d' j hj'] at this
    simpa using this
  refine ⟨rfl, d'.toList, hp4, hasc, ?_, ?_⟩
  · have hF' := flatT_list d'
    have hdl : d'.toList.length = xs.length := by simp [hp1']
    unfold OT
    rw [hdl]
    refine ⟨by rw [len_cellsT]; simp [hp1'], .inr ⟨blk, cap, Sort.putCells id 0 (Sort.flatK cellsT 3 d') cur, rfl, hbase, ?_, hcap, hmax, ?_, ?_⟩⟩
    · unfold sortWorldK
      rw [Sort.heap_grow_old _ _ (by rw [Sort.size_putRowK]; exact hblk)]
      unfold Sort.putRowK Sort.putRow Sort.mapBlock
      simp only [Array.getElem?_modify, if_true]
      rw [show (Sort.ahead w n).heap[blk]? = w.heap[blk]? from rfl, hg]
      rfl
    · unfold Sort.putCells; rw [Array.size_mapIdx]; exact hcs
    · have e3 : (Sort.flatK cellsT 3 d').size = xs.length * 3 := by rw [Sort.size_flatK, hp1']
      have := putCells_take (Sort.flatK cellsT 3 d') cur (by rw [e3, hcs]; exact Nat.mul_le_mul_right _ hcap)
      rw [e3] at this
      rw [this, hF']
  · refine ⟨rfl, rfl, rfl, ?_, fun i hi hr => ?_⟩
    · exact size_sortWorldK_c _ _ _ _ _ _ _ _
    · unfold sortWorldK
      rw [Sort.heap_grow_old _ _ (by rw [Sort.size_putRowK]; exact hi)]
      unfold Sort.putRowK Sort.putRow Sort.mapBlock
      simp only [Array.getElem?_modify]
      rw [if_neg (fun e => hr (by rw [e]))]
      rfl
end Go.Proofs.YtmeeoamcelkhmaaGreatDoor
