import Derived.Test.YtobhccmnlmlapaaGreatDoorQStO
import Derived.Test.YtobhccmnlmlapaaGreatDoorGn
import Derived.Test.YtobhccmnlmlapaaGreatDoorQShelfS
import Derived.Shelf.SlSortCmp.WholeK
import Derived.Shelf.SlSortCmp.NoneTotal
namespace Go.Proofs.YtobhccmnlmlapaaGreatDoor
open Go.RowKit Go.Maps Go.Sort Go.Shelf
set_option linter.unusedVariables false
set_option linter.unusedSimpArgs false
set_option maxRecDepth 100000

theorem cmpI_lt (a b : Int) : (cmpI a b < 0 ↔ a < b) ∧ (cmpI a b = 0 ↔ a = b) := by
  unfold cmpI
  split
  · omega
  · split <;> omega
theorem cmpN_lt (x y : Wn) : decide (cmpN x y < 0) = ltN x y := by
  unfold cmpN ltN orI
  obtain ⟨h1, h2⟩ := cmpI_lt x.t y.t
  obtain ⟨h3, h4⟩ := cmpI_lt x.f y.f
  by_cases h : x.t = y.t
  · rw [if_pos (h2.2 h), if_pos h]
    exact decide_eq_decide.2 h3
  · rw [if_neg (fun e => h (h2.1 e)), if_neg h]
    exact decide_eq_decide.2 h1
theorem cmpN_zero (x y : Wn) : cmpN x y = 0 ↔ x = y := by
  unfold cmpN orI
  obtain ⟨h1, h2⟩ := cmpI_lt x.t y.t
  obtain ⟨h3, h4⟩ := cmpI_lt x.f y.f
  by_cases h : x.t = y.t
  · rw [if_pos (h2.2 h), h4]
    exact ⟨fun e => Wn.eq_of e h, fun e => by rw [e]⟩
  · rw [if_neg (fun e => h (h2.1 e))]
    exact ⟨fun e => absurd (h2.1 e) h, fun e => absurd (by rw [e]) h⟩
/-- Which of two cells comes first. -/
def cmpC (a b : Ce) : Int := if cmpN a.w b.w = 0 then cmpR ⟨0, a.key⟩ ⟨0, b.key⟩ else cmpN a.w b.w
theorem cmpC_lt (a b : Ce) : decide (cmpC a b < 0) = ltC a b := by
  unfold cmpC ltC
  by_cases h : a.w = b.w
  · rw [if_pos ((cmpN_zero _ _).2 h), if_pos h, cmpR_lt, ltR_eq]
    simp
  · rw [if_neg (fun e => h ((cmpN_zero _ _).1 e)), if_neg h, cmpN_lt]
/-- A cell, and where it lies. -/
structure Cx where
  c : Ce
  ka : Option Addr
  kc : Nat
  dv : Value
def cellsC (x : Cx) : List Value := [.slice x.ka x.c.key.length x.kc, .int .i64 x.c.w.f, .int .i64 x.c.w.t, x.dv]
def vC (x : Cx) : Value := .agg #[.slice x.ka x.c.key.length x.kc, .int .i64 x.c.w.f, .int .i64 x.c.w.t, x.dv]
theorem infoC : (Tryz.prog.info? 55).map (fun i => (i.zero, i.size, i.bytes)) = some (some (.agg #[.slice none 0 0, .int .i64 0, .int .i64 0, .slice none 0 0]), 4, 64) := by kernel_rfl
set_option maxHeartbeats 2000000 in
theorem compareC_any (x y : Cx) (w : World) (h1 : VLies w x.ka x.c.key) (h2 : VLies w y.ka y.c.key) (m1 : x.c.key.length ≤ 4398046511104) (m2 : y.c.key.length ≤ 4398046511104) (dx : ∃ a n c, x.dv = .slice a n c) (dy : ∃ a n c, y.dv = .slice a n c) :
    Calls Tryz.prog 43 #[vC x, vC y] w fun e w' => e = .returned (.int .i64 (cmpC x.c y.c)) ∧ Below w.heap.size w w' ∧ w.drawn ≤ w'.drawn := by
  obtain ⟨⟨xk, xw, xd⟩, xa, xc, xv⟩ := x
  obtain ⟨⟨yk, yw, yd⟩, ya, yc, yv⟩ := y
  obtain ⟨x1, x2, x3, rfl⟩ := dx
  obtain ⟨y1, y2, y3, rfl⟩ := dy
  simp only at h1 h2 m1 m2
  have HN := hidMk (fun W => compareN_any xw yw W)
  have HR : Hid (∀ W, Below w.heap.size w W → Calls Tryz.prog 74 #[.agg #[.int .i64 0, .slice xa xk.length xc], .agg #[.int .i64 0, .slice ya yk.length yc]] W fun e w' => e = .returned (.int .i64 (cmpR ⟨0, xk⟩ ⟨0, yk⟩)) ∧ Below W.heap.size W w' ∧ W.drawn ≤ w'.drawn) := fun W hb => compareRowsG_r ⟨0, xk⟩ ⟨0, yk⟩ xa xc ya yc W (h1.later hb) (h2.later hb) m1 m2
  clear h1 h2
  have HB0 : Hid (Below w.heap.size w ((w.alloc (.cells #[.slice xa xk.length xc, .int .i64 xw.f, .int .i64 xw.t, .slice x1 x2 x3] 55)).alloc (.cells #[.slice ya yk.length yc, .int .i64 yw.f, .int .i64 yw.t, .slice y1 y2 y3] 55))) := (bel1 _ _).alloc (by simp) _
  have HD0 : Hid (w.drawn ≤ ((w.alloc (.cells #[.slice xa xk.length xc, .int .i64 xw.f, .int .i64 xw.t, .slice x1 x2 x3] 55)).alloc (.cells #[.slice ya yk.length yc, .int .i64 yw.f, .int .i64 yw.t, .slice y1 y2 y3] 55)).drawn) := Nat.le_refl _
  have c0 : ((w.alloc (.cells #[.slice xa xk.length xc, .int .i64 xw.f, .int .i64 xw.t, .slice x1 x2 x3] 55)).alloc (.cells #[.slice ya yk.length yc, .int .i64 yw.f, .int .i64 yw.t, .slice y1 y2 y3] 55)).cell? ⟨w.heap.size, 0, none⟩ = some (.slice xa xk.length xc) := by go_simp
  have c1 : ((w.alloc (.cells #[.slice xa xk.length xc, .int .i64 xw.f, .int .i64 xw.t, .slice x1 x2 x3] 55)).alloc (.cells #[.slice ya yk.length yc, .int .i64 yw.f, .int .i64 yw.t, .slice y1 y2 y3] 55)).cell? ⟨w.heap.size + 1, 0, none⟩ = some (.slice ya yk.length yc) := by go_simp
  unfold vC cmpC
  unfold vv at HN
  simp only
  go_enter Tryz.func43, Tryz.ntmps43
  go_wp2_with fail
  refine (HN.out _).mono ?_
  rintro e w1 ⟨rfl, hb, hdr⟩
  have HB1 := hidMk (HB0.out.trans (hb.mono HB0.out.size))
  have HD1 := hidMk (Nat.le_trans HD0.out hdr)
  replace c0 := cell_later hb c0
  replace c1 := cell_later hb c1
  clear hb hdr HB0 HD0
  generalize hk : cmpN xw yw = k
  by_cases h0 : k = 0
  · subst h0
    go_wp2_with fail
    refine (HR.out _ HB1.out).mono ?_
    rintro e w2 ⟨rfl, hb, hdr⟩
    have HB2 := hidMk (HB1.out.trans (hb.mono HB1.out.size))
    have HD2 := hidMk (Nat.le_trans HD1.out hdr)
    clear hb hdr
    go_wp2_with fail
    go_ret
    exact ⟨by simp, HB2.out, HD2.out⟩
  · go_wp2_with fail
    go_ret
    exact ⟨by simp [h0], HB1.out, HD1.out⟩
/-- A cell that can be compared, and lies outside of the block. -/
def FitC (w : World) (blk : Nat) (q : Cx) : Prop := VLies w q.ka q.c.key ∧ (∀ y, q.ka = some y → y.block ≠ blk) ∧ q.c.key.length ≤ 4398046511104 ∧ ∃ a n c, q.dv = .slice a n c
abbrev FC (w : World) (blk : Nat) := {q : Cx // FitC w blk q}
instance (w : World) (blk : Nat) : Inhabited (FC w blk) := ⟨⟨⟨⟨[], ⟨0, 0⟩, []⟩, none, 0, .slice none 0 0⟩, fun i hi => absurd hi (by simp), fun y hy => by (cases hy), by simp, _, _, _, rfl⟩⟩
def encC {w : World} {blk : Nat} (x : FC w blk) : List Value := cellsC x.1
def cfC {w : World} {blk : Nat} (x y : FC w blk) : Int := cmpC x.1.c y.1.c
theorem ltFC {w : World} {blk : Nat} (x y : FC w blk) : ltOf cfC x y = ltC x.1.c y.1.c := cmpC_lt _ _
theorem swoC (w : World) (blk : Nat) : Sort.SWO (ltOf (cfC (w := w) (blk := blk))) where
  irrefl x := by rw [ltFC]; exact ltC_irrefl _
  trans x y z h1 h2 := by rw [ltFC] at *; exact ltC_trans _ _ _ h1 h2
  ntrans x y z h1 h2 := by rw [ltFC] at *; exact ltC_ntrans _ _ _ h1 h2
theorem one_cellsC (x : Cx) (h : ∃ a n c, x.dv = .slice a n c) : ∀ u ∈ cellsC x, u.oneCell' = true := by
  intro u hu
  obtain ⟨a, n, c, e⟩ := h
  simp [cellsC, e] at hu
  rcases hu with rfl | rfl | rfl | rfl <;> rfl
theorem swC_cell {w : World} {blk m : Nat} {dk : Array (FC w blk)} {os : Array Obj} {a : Addr} {v : Value} (h : w.cell? a = some v) (hne : a.block ≠ blk) : (sortWorldK encC 4 w blk 0 m dk os).cell? a = some v := by
  have hlt := World.block_lt_of_cell? w _ h
  unfold sortWorldK
  rw [Sort.cell?_grow _ _ _ (by rw [Sort.size_putRowK]; exact hlt), Sort.cell?_putRowK_other _ _ _ _ _ _ _ hne]
  exact h
theorem swC_lies {w : World} {blk m : Nat} {dk : Array (FC w blk)} {os : Array Obj} {q : Cx} (h : FitC w blk q) : VLies (sortWorldK encC 4 w blk 0 m dk os) q.ka q.c.key := fun i hi => by
  obtain ⟨b, off, e, h1, h2, h3⟩ := h.1 i hi
  have hn := h.2.1 _ e
  exact ⟨b, off, e, swC_cell h1 hn, swC_cell h2 hn, swC_cell h3 hn⟩
theorem cmpLaysC (w : World) (blk size : Nat) : CmpLays Tryz.prog 43 #[] (encC (w := w) (blk := blk)) 4 cfC blk 0 size w := fun m os dk _ x y => by
  refine (compareC_any x.1 y.1 (sortWorldK encC 4 w blk 0 m dk os) (swC_lies x.2) (swC_lies y.2) x.2.2.2.1 y.2.2.2.1 x.2.2.2.2 y.2.2.2.2).mono ?_
  rintro e w' ⟨rfl, hb, hd⟩
  exact ⟨rfl, grow_of hb hd⟩
theorem len_cellsC (l : List Cx) : (l.flatMap cellsC).length = l.length * 4 := by
  induction l with
  | nil => rfl
  | cons x l ih => rw [List.flatMap_cons, List.length_append, ih, List.length_cons]; simp [cellsC]; omega
theorem flatC_list {w : World} {blk : Nat} (d : Array (FC w blk)) : (Sort.flatK encC 4 d).toList = (d.toList.map (·.1)).flatMap cellsC := by
  apply List.ext_getElem?
  intro t
  by_cases ht : t < d.size * 4
  · have h1 := flat_at cellsC 4 (fun _ => rfl) (d.toList.map (·.1)) (t / 4) (t % 4) (by simp; omega) (by omega)
    rw [show t / 4 * 4 + t % 4 = t by omega] at h1
    rw [h1]
    have hsz : t < (Sort.flatK encC 4 d).size := by rw [Sort.size_flatK]; exact ht
    rw [Array.getElem?_toList, Array.getElem?_eq_getElem hsz, ← getElem!_pos, Sort.get_flatK _ _ _ _ ht]
    have hd : t / 4 < d.size := by omega
    rw [getElem!_pos d _ hd]
    unfold encC
    have hl : t % 4 < (cellsC d[t / 4].1).length := by simp [cellsC]; omega
    rw [getElem!_pos (cellsC d[t / 4].1) _ hl, List.getElem?_eq_getElem (by simpa [cellsC] using (by omega : t % 4 < 4))]
    simp
  · rw [List.getElem?_eq_none (by simp; omega), List.getElem?_eq_none (by rw [len_cellsC]; simp; omega)]
theorem attachC {w : World} {blk : Nat} (qs : List Cx) (h : ∀ q ∈ qs, FitC w blk q) : ∃ d : Array (FC w blk), d.toList.map (·.1) = qs := by
  refine ⟨(qs.attach.map fun x => (⟨x.1, h x.1 x.2⟩ : FC w blk)).toArray, ?_⟩
  simp [List.map_map, Function.comp_def]
theorem putCells_take (F c : Array Value) (h : F.size ≤ c.size) : (Sort.putCells id 0 F c).toList.take F.size = F.toList := by
  apply List.ext_getElem?
  intro k
  rw [List.getElem?_take]
  by_cases hk : k < F.size
  · rw [if_pos hk, Array.getElem?_toList, Array.getElem?_toList]
    unfold Sort.putCells
    rw [Array.getElem?_mapIdx, Array.getElem?_eq_getElem (by omega), Array.getElem?_eq_getElem hk]
    simp only [Option.map_some]
    rw [if_pos ⟨Nat.zero_le _, by omega⟩, Nat.sub_zero, getElem!_pos F k (by omega)]
    rfl
  · rw [if_neg hk, Array.getElem?_toList, Array.getElem?_eq_none (by omega)]
/-- Cells in a row of one's own. -/
def OC (w : World) (B : Nat) (x : Value) (qs : List Cx) : Prop := w.ownsRow B 55 4 x qs.length (qs.flatMap cellsC)
theorem sortC_some (w : World) (base blk cap : Nat) (xs : List Cx) (hown : OC w base (.slice (some ⟨blk, 0, none⟩) xs.length cap) xs) (hfit : ∀ q ∈ xs, FitC w blk q) (hl : xs.length ≤ 4398046511104) :
    Calls Tryz.prog 42 #[.slice (some ⟨blk, 0, none⟩) xs.length cap, .func (.func 43) #[] #[]] w fun e w' => e = .returned (.tuple #[]) ∧ ∃ ps : List Cx, ps.Perm xs ∧ AscC (ps.map (·.c)) ∧ OC w' base (.slice (some ⟨blk, 0, none⟩) xs.length cap) ps ∧ w.grownBy w' (some blk) := by
  obtain ⟨d, hd⟩ := attachC xs hfit
  rcases hown.2 with ⟨h1, _⟩ | ⟨g, cap', cur, h1, hbase, hg, hcap, hmax, hcs, htk⟩
  · simp at h1
  simp only [Value.slice.injEq, Option.some.injEq, Addr.mk.injEq, and_true, true_and] at h1
  obtain ⟨rfl, rfl⟩ := h1
  have hblk : blk < w.heap.size := (Array.getElem?_eq_some_iff.1 hg).1
  have hsz : d.size = xs.length := by rw [← hd]; simp
  have hfl := flatC_list d
  rw [hd] at hfl
  have hFs : (Sort.flatK encC 4 d).size = xs.length * 4 := by rw [Sort.size_flatK, hsz]
  have hH : Sort.HoldsK encC 4 w blk 0 d := by
    unfold Sort.HoldsK Sort.Holds
    intro j hj
    have hj2 : j < xs.length * 4 := by omega
    have e1 : (Sort.flatK encC 4 d)[j]? = (xs.flatMap cellsC)[j]? := by rw [← Array.getElem?_toList, hfl]
    rw [← htk, List.getElem?_take_of_lt hj2, Array.getElem?_toList] at e1
    constructor
    · simp only [World.cell?, hg, Nat.zero_add]
      rw [getElem!_pos (Sort.flatK encC 4 d) j hj, ← e1, Array.getElem?_eq_getElem hj]
      rfl
    · simp [World.frozen?, hg]
  have eg : ∀ args w, (callFunc 43 args).run Tryz.prog w = .ok (.enter 43 args) w := enters_of Tryz.func43 (by kernel_rfl) rfl
  have hcon := AnyQ.slices_SortFunc Tryz.sortCells 4 Tryz.isAgg55 Tryz.sizeOf55 (encC (w := w) (blk := blk)) (fun _ => rfl) (fun x => one_cellsC x.1 x.2.2.2.2) cfC (swoC w blk) 43 #[] blk 0 cap d w eg (cmpLaysC w blk d.size) hH hblk (by omega)
  change Calls Tryz.prog 42 _ _ _ at hcon
  rw [hsz] at hcon
  refine hcon.mono ?_
  rintro e w' ⟨rfl, d', n, os, hp, hs, rfl⟩
  obtain ⟨hp1, -, hp3⟩ := hp
  have hp1' : d'.size = xs.length := by rw [hp1, hsz]
  have hp4 : d'.toList.Perm d.toList := by
    rw [← hsz] at hp3
    have e1 : d.extract 0 d.size = d := by simp
    have e2 : d'.extract 0 d.size = d' := by rw [← hp1]; simp
    rw [e1, e2] at hp3
    exact hp3
  have hasc : AscC ((d'.toList.map (·.1)).map (·.c)) := by
    unfold AscC
    rw [List.map_map, List.pairwise_map, List.pairwise_iff_getElem]
    intro i j hi hj hij
    have hi' : i < d'.size := by simpa using hi
    have hj' : j < d'.size := by simpa using hj
    have := hs i j (Nat.zero_le _) hij (by omega)
    rw [ltFC, getElem!_pos d' i hi', getElem!_pos d' j hj'] at this
    simpa using this
  refine ⟨rfl, d'.toList.map (·.1), ?_, hasc, ?_, ?_⟩
  · rw [← hd]; exact hp4.map _
  · have hF' := flatC_list d'
    have hdl : (d'.toList.map (·.1)).length = xs.length := by simp [hp1']
    unfold OC
    rw [hdl]
    refine ⟨by rw [len_cellsC]; simp [hp1'], .inr ⟨blk, cap, Sort.putCells id 0 (Sort.flatK encC 4 d') cur, rfl, hbase, ?_, hcap, hmax, ?_, ?_⟩⟩
    · unfold sortWorldK
      rw [Sort.heap_grow_old _ _ (by rw [Sort.size_putRowK]; exact hblk)]
      unfold Sort.putRowK Sort.putRow Sort.mapBlock
      simp only [Array.getElem?_modify, if_true]
      rw [show (Sort.ahead w n).heap[blk]? = w.heap[blk]? from rfl, hg]
      rfl
    · unfold Sort.putCells; rw [Array.size_mapIdx]; exact hcs
    · have e3 : (Sort.flatK encC 4 d').size = xs.length * 4 := by rw [Sort.size_flatK, hp1']
      have := putCells_take (Sort.flatK encC 4 d') cur (by rw [e3, hcs]; exact Nat.mul_le_mul_right _ hcap)
      rw [e3] at this
      rw [this, hF']
  · refine ⟨rfl, rfl, rfl, ?_, fun i hi hr => ?_⟩
    · exact size_sortWorldK_c _ _ _ _ _ _ _ _
    · unfold sortWorldK
      rw [Sort.heap_grow_old _ _ (by rw [Sort.size_putRowK]; exact hi)]
      unfold Sort.putRowK Sort.putRow Sort.mapBlock
      simp only [Array.getElem?_modify]
      rw [if_neg (fun e => hr (by rw [e]))]
      rfl
theorem sortsC (w : World) (B : Nat) (u : Value) (vs : List Cx) (h : OC w B u vs) (hf : ∀ q ∈ vs, VLies w q.ka q.c.key ∧ (∀ y, q.ka = some y → some y.block ≠ u.ownBlock) ∧ q.c.key.length ≤ 8 ∧ ∃ a n c, q.dv = .slice a n c) (hl : vs.length ≤ 4398046511104) :
    Calls Tryz.prog 42 #[u, .func (.func 43) #[] #[]] w fun e w' => e = .returned (.tuple #[]) ∧ ∃ ps : List Cx, ps.Perm vs ∧ AscC (ps.map (·.c)) ∧ OC w' B u ps ∧ w.grownBy w' u.ownBlock := by
  rcases h.2 with ⟨rfl, h0⟩ | ⟨g, cap', cur, rfl, -⟩
  · obtain rfl := List.eq_nil_of_length_eq_zero h0
    have hnone := AnyF.slices_SortFunc_none Tryz.sortCells none 0 (.func (.func 43) #[] #[]) w
    change Calls Tryz.prog 42 _ _ _ at hnone
    refine hnone.mono ?_
    rintro e w2 ⟨rfl, rfl⟩
    exact ⟨rfl, [], List.Perm.refl _, List.Pairwise.nil, h, World.grownBy.refl _ _⟩
  · refine (sortC_some w B g cap' vs h (fun q hq => ?_) hl).mono ?_
    · obtain ⟨q1, q2, q3, q4⟩ := hf q hq
      exact ⟨q1, fun y hy e => q2 y hy (by rw [e]; rfl), by omega, q4⟩
    · rintro e w' ⟨rfl, ps, h1, h2, h3, h4⟩
      exact ⟨rfl, ps, h1, h2, h3, h4⟩
end Go.Proofs.YtobhccmnlmlapaaGreatDoor
