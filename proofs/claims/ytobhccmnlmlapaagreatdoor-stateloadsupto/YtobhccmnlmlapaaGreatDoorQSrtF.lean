import Derived.Test.YtobhccmnlmlapaaGreatDoorGq
import Derived.Test.YtobhccmnlmlapaaGreatDoorQSrtA
import Derived.Test.YtobhccmnlmlapaaGreatDoorQShelfS
import Derived.Shelf.SlSortCmp.WholeK
namespace Go.Proofs.YtobhccmnlmlapaaGreatDoor
open Go.RowKit
set_option linter.unusedVariables false
set_option maxRecDepth 100000

theorem grow_of {w w' : World} (hb : Below w.heap.size w w') (hd : w.drawn ≤ w'.drawn) : ∃ q os, w' = Sort.grow (w.drewN q) os := by
  refine ⟨w'.drawn - w.drawn, w'.heap.extract w.heap.size w'.heap.size, ?_⟩
  obtain ⟨h1, h2, h3, h4, h5⟩ := hb
  have hh : w'.heap = w.heap ++ w'.heap.extract w.heap.size w'.heap.size := by
    apply Array.ext_getElem?
    intro k
    rw [Array.getElem?_append]
    by_cases hk : k < w.heap.size
    · rw [if_pos hk]; exact h5 k hk
    · rw [if_neg hk, Array.getElem?_extract]
      by_cases hk2 : k < w'.heap.size
      · rw [if_pos (by omega)]; congr 1; omega
      · rw [if_neg (by omega)]; rw [Array.getElem?_eq_none (by omega)]
  have hd' : w'.drawn = w.drawn + (w'.drawn - w.drawn) := by omega
  cases w
  cases w'
  simp only [Sort.grow, World.drewN] at *
  subst h1 h2 h3
  rw [← hh, ← hd']

/-- A row whose values lie outside of the block. -/
def Fit (w : World) (blk : Nat) (q : Q) : Prop := VLies w q.a q.r.vs ∧ (∀ y, q.a = some y → y.block ≠ blk) ∧ q.r.vs.length ≤ 4398046511104
abbrev FQ (w : World) (blk : Nat) := {q : Q // Fit w blk q}
instance (w : World) (blk : Nat) : Inhabited (FQ w blk) := ⟨⟨⟨⟨0, []⟩, none, 0⟩, fun i hi => absurd hi (by simp), fun y hy => by (cases hy), by simp⟩⟩
def encF {w : World} {blk : Nat} (x : FQ w blk) : List Value := cellsR x.1
def cfF {w : World} {blk : Nat} (x y : FQ w blk) : Int := cmpR x.1.r y.1.r
theorem ltF {w : World} {blk : Nat} (x y : FQ w blk) : ltOf cfF x y = ltR x.1.r y.1.r := cmpR_lt _ _
theorem swoF (w : World) (blk : Nat) : Sort.SWO (ltOf (cfF (w := w) (blk := blk))) where
  irrefl x := by rw [ltF]; exact ltR_irrefl _
  trans x y z h1 h2 := by rw [ltF] at *; exact ltR_trans _ _ _ h1 h2
  ntrans x y z h1 h2 := by rw [ltF] at *; exact ltR_ntrans _ _ _ h1 h2

theorem compareRowsG_r (r s : Rw) (a1 : Option Addr) (c1 : Nat) (a2 : Option Addr) (c2 : Nat) (w : World) (h1 : VLies w a1 r.vs) (h2 : VLies w a2 s.vs) (m1 : r.vs.length ≤ 4398046511104) (m2 : s.vs.length ≤ 4398046511104) :
    Calls Tryz.prog 74 #[.agg #[.int .i64 r.t, .slice a1 r.vs.length c1], .agg #[.int .i64 s.t, .slice a2 s.vs.length c2]] w fun e w' => e = .returned (.int .i64 (cmpR r s)) ∧ Below w.heap.size w w' ∧ w.drawn ≤ w'.drawn :=
  compareRowsG_any r.t s.t a1 _ c1 a2 _ c2 (vat r.vs) (vat s.vs) w h1.lies h2.lies (by unfold maxLen; omega) (by unfold maxLen; omega)

theorem sw_cell {w : World} {blk m : Nat} {dk : Array (FQ w blk)} {os : Array Obj} {a : Addr} {v : Value} (h : w.cell? a = some v) (hne : a.block ≠ blk) : (sortWorldK encF 2 w blk 0 m dk os).cell? a = some v := by
  have hlt := World.block_lt_of_cell? w _ h
  unfold sortWorldK
  rw [Sort.cell?_grow _ _ _ (by rw [Sort.size_putRowK]; exact hlt), Sort.cell?_putRowK_other _ _ _ _ _ _ _ hne]
  exact h
theorem sw_lies {w : World} {blk m : Nat} {dk : Array (FQ w blk)} {os : Array Obj} {q : Q} (h : Fit w blk q) : VLies (sortWorldK encF 2 w blk 0 m dk os) q.a q.r.vs := fun i hi => by
  obtain ⟨b, off, e, h1, h2, h3⟩ := h.1 i hi
  have hn := h.2.1 _ e
  exact ⟨b, off, e, sw_cell h1 hn, sw_cell h2 hn, sw_cell h3 hn⟩
theorem cmpLaysF (w : World) (blk size : Nat) : CmpLays Tryz.prog 74 #[] (encF (w := w) (blk := blk)) 2 cfF blk 0 size w := fun m os dk _ x y => by
  refine (compareRowsG_r x.1.r y.1.r x.1.a x.1.c y.1.a y.1.c (sortWorldK encF 2 w blk 0 m dk os) (sw_lies x.2) (sw_lies y.2) x.2.2.2 y.2.2.2).mono ?_
  rintro e w' ⟨rfl, hb, hd⟩
  exact ⟨rfl, grow_of hb hd⟩

theorem flatK_list {w : World} {blk : Nat} (d : Array (FQ w blk)) : (Sort.flatK encF 2 d).toList = (d.toList.map (·.1)).flatMap cellsR := by
  apply List.ext_getElem?
  intro t
  by_cases ht : t < d.size * 2
  · have h1 := flat_at cellsR 2 (fun _ => rfl) (d.toList.map (·.1)) (t / 2) (t % 2) (by simp; omega) (by omega)
    rw [show t / 2 * 2 + t % 2 = t by omega] at h1
    rw [h1]
    have hsz : t < (Sort.flatK encF 2 d).size := by rw [Sort.size_flatK]; exact ht
    rw [Array.getElem?_toList, Array.getElem?_eq_getElem hsz, ← getElem!_pos, Sort.get_flatK _ _ _ _ ht]
    have hd : t / 2 < d.size := by omega
    rw [getElem!_pos d _ hd]
    unfold encF
    have hl : t % 2 < (cellsR d[t / 2].1).length := by simp [cellsR]; omega
    rw [getElem!_pos (cellsR d[t / 2].1) _ hl, List.getElem?_eq_getElem (by simpa [cellsR] using (by omega : t % 2 < 2))]
    simp
  · rw [List.getElem?_eq_none (by simp; omega), List.getElem?_eq_none (by rw [len_cellsR]; simp; omega)]

theorem attach_list {w : World} {blk : Nat} (qs : List Q) (h : ∀ q ∈ qs, Fit w blk q) : ∃ d : Array (FQ w blk), d.toList.map (·.1) = qs := by
  refine ⟨(qs.attach.map fun x => (⟨x.1, h x.1 x.2⟩ : FQ w blk)).toArray, ?_⟩
  simp [List.map_map, Function.comp_def]

theorem putCells_whole (F c : Array Value) (h : F.size = c.size) : Sort.putCells id 0 F c = F := by
  apply Array.ext_getElem?
  intro k
  unfold Sort.putCells
  rw [Array.getElem?_mapIdx]
  by_cases hk : k < c.size
  · rw [Array.getElem?_eq_getElem hk, Array.getElem?_eq_getElem (by omega)]
    simp only [Option.map_some]
    rw [if_pos ⟨Nat.zero_le _, by omega⟩, Nat.sub_zero, getElem!_pos F k (by omega)]
    rfl
  · rw [Array.getElem?_eq_none (by omega), Array.getElem?_eq_none (by omega)]; rfl

end Go.Proofs.YtobhccmnlmlapaaGreatDoor
